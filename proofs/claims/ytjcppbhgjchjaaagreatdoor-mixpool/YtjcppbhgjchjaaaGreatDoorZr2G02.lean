/- A part of the walk. -/
namespace Go.Proofs.Fd
abbrev zaD:Nat:=115792089237316195423570985008687907853269984665640564039457584007913129639936
def p:Nat:=57896044618658097711785492504343953926634992332820282019728792003956564819949
def v4 (a0 a1 a2 a3:Nat):Nat:=a0+18446744073709551616*a1+340282366920938463463374607431768211456*a2+6277101735386680763835789423207666416102355444464034512896*a3
def u4 (a0 a1 a2 a3:Nat):Prop:=a0 < 18446744073709551616/\a1 < 18446744073709551616/\a2 < 18446744073709551616/\a3 < 18446744073709551616
theorem zrb {a0 a1 a2 a3:Nat} (h:u4 a0 a1 a2 a3):v4 a0 a1 a2 a3 < zaD:=by
  obtain⟨h0,h1,h2,h3⟩:=h;unfold v4 zaD;omega
theorem zrc (a0 a1 a2 a3 b0 b1 b2 b3:Nat) (ha:u4 a0 a1 a2 a3) (hb:u4 b0 b1 b2 b3) :
    v4 ((a0+b0+0) % 18446744073709551616) ((a1+b1+(a0+b0+0) / 18446744073709551616) % 18446744073709551616)
      ((a2+b2+(a1+b1+(a0+b0+0) / 18446744073709551616) / 18446744073709551616) % 18446744073709551616)
      ((a3+b3+(a2+b2+(a1+b1+(a0+b0+0) / 18446744073709551616) / 18446744073709551616) / 18446744073709551616) % 18446744073709551616)
    = (v4 a0 a1 a2 a3+v4 b0 b1 b2 b3) % 115792089237316195423570985008687907853269984665640564039457584007913129639936:=by
  obtain⟨h0,h1,h2,h3⟩:=ha;obtain⟨g0,g1,g2,g3⟩:=hb;unfold v4;omega
theorem znE (a0 a1 a2 a3 b0 b1 b2 b3 k1 k2 k3 k4:Nat) (ha:u4 a0 a1 a2 a3) (hb:u4 b0 b1 b2 b3)
    (e1:k1=if a0 < b0+0 then 1 else 0) (e2:k2=if a1 < b1+k1 then 1 else 0) (e3:k3=if a2 < b2+k2 then 1 else 0) (e4:k4=if a3 < b3+k3 then 1 else 0) :
    v4 ((a0+18446744073709551616 - b0 - 0) % 18446744073709551616) ((a1+18446744073709551616 - b1 - k1) % 18446744073709551616)
      ((a2+18446744073709551616 - b2 - k2) % 18446744073709551616) ((a3+18446744073709551616 - b3 - k3) % 18446744073709551616)
    = (v4 a0 a1 a2 a3+115792089237316195423570985008687907853269984665640564039457584007913129639936 - v4 b0 b1 b2 b3) % 115792089237316195423570985008687907853269984665640564039457584007913129639936
    /\ (k4=1↔v4 a0 a1 a2 a3 < v4 b0 b1 b2 b3):=by
  obtain⟨h0,h1,h2,h3⟩:=ha;obtain⟨g0,g1,g2,g3⟩:=hb;have e1':(a0 < b0/\k1=1)\/(b0<=a0/\k1=0):=by split at e1 <;> omega
  have e2':(a1 < b1+k1/\k2=1)\/(b1+k1<=a1/\k2=0):=by split at e2 <;> omega
  have e3':(a2 < b2+k2/\k3=1)\/(b2+k2<=a2/\k3=0):=by split at e3 <;> omega
  have e4':(a3 < b3+k3/\k4=1)\/(b3+k3<=a3/\k4=0):=by split at e4 <;> omega
  clear e1 e2 e3 e4;unfold v4;have d0:(a0+18446744073709551616 - b0 - 0) % 18446744073709551616+b0=a0+18446744073709551616*k1:=by omega
  have d1:(a1+18446744073709551616 - b1 - k1) % 18446744073709551616+b1+k1=a1+18446744073709551616*k2:=by omega
  have d2:(a2+18446744073709551616 - b2 - k2) % 18446744073709551616+b2+k2=a2+18446744073709551616*k3:=by omega
  have d3:(a3+18446744073709551616 - b3 - k3) % 18446744073709551616+b3+k3=a3+18446744073709551616*k4:=by omega
  have r0:(a0+18446744073709551616 - b0 - 0) % 18446744073709551616 < 18446744073709551616:=Nat.mod_lt _ (by decide);have r1:(a1+18446744073709551616 - b1 - k1) % 18446744073709551616 < 18446744073709551616:=Nat.mod_lt _ (by decide);have r2:(a2+18446744073709551616 - b2 - k2) % 18446744073709551616 < 18446744073709551616:=Nat.mod_lt _ (by decide);have r3:(a3+18446744073709551616 - b3 - k3) % 18446744073709551616 < 18446744073709551616:=Nat.mod_lt _ (by decide);have hk:k4=0\/k4=1:=by omega
  clear e1' e2' e3' e4';generalize (a0+18446744073709551616 - b0 - 0) % 18446744073709551616=x0 at *;generalize (a1+18446744073709551616 - b1 - k1) % 18446744073709551616=x1 at *;generalize (a2+18446744073709551616 - b2 - k2) % 18446744073709551616=x2 at *;generalize (a3+18446744073709551616 - b3 - k3) % 18446744073709551616=x3 at *;have key:x0+18446744073709551616*x1+340282366920938463463374607431768211456*x2+6277101735386680763835789423207666416102355444464034512896*x3+(b0+18446744073709551616*b1+340282366920938463463374607431768211456*b2+6277101735386680763835789423207666416102355444464034512896*b3)
    = (a0+18446744073709551616*a1+340282366920938463463374607431768211456*a2+6277101735386680763835789423207666416102355444464034512896*a3)+115792089237316195423570985008687907853269984665640564039457584007913129639936*k4:=by omega
  have hX:x0+18446744073709551616*x1+340282366920938463463374607431768211456*x2+6277101735386680763835789423207666416102355444464034512896*x3 < 115792089237316195423570985008687907853269984665640564039457584007913129639936:=by omega
  generalize x0+18446744073709551616*x1+340282366920938463463374607431768211456*x2+6277101735386680763835789423207666416102355444464034512896*x3=X at *;have hB:b0+18446744073709551616*b1+340282366920938463463374607431768211456*b2+6277101735386680763835789423207666416102355444464034512896*b3 < 115792089237316195423570985008687907853269984665640564039457584007913129639936:=by omega
  have hA:a0+18446744073709551616*a1+340282366920938463463374607431768211456*a2+6277101735386680763835789423207666416102355444464034512896*a3 < 115792089237316195423570985008687907853269984665640564039457584007913129639936:=by omega
  generalize b0+18446744073709551616*b1+340282366920938463463374607431768211456*b2+6277101735386680763835789423207666416102355444464034512896*b3=B at *;generalize a0+18446744073709551616*a1+340282366920938463463374607431768211456*a2+6277101735386680763835789423207666416102355444464034512896*a3=A at *;clear d0 d1 d2 d3 r0 r1 r2 r3 h0 h1 h2 h3 g0 g1 g2 g3;rcases hk with rfl|rfl <;> constructor <;> omega
theorem zkk (a0 a1 a2 a3:Nat) (ha:u4 a0 a1 a2 a3) :
    (a3 < 9223372036854775807\/(a3=9223372036854775807/\(a2 < 18446744073709551615\/a1 < 18446744073709551615\/a0 < 18446744073709551597)))↔v4 a0 a1 a2 a3 < p:=by
  obtain⟨h0,h1,h2,h3⟩:=ha;unfold v4 p;constructor
  . intro h;rcases h with h|⟨h,h|h|h⟩ <;> omega
  . intro h
    by_cases c3:a3 < 9223372036854775807
    . exact .inl c3
    . have c3':a3=9223372036854775807:=by omega
      right;refine⟨c3',?_⟩;by_cases c2:a2 < 18446744073709551615
      . exact .inl c2
      . right
        by_cases c1:a1 < 18446744073709551615
        . exact .inl c1
        . right;omega
theorem znF (q c d:Nat) (hq:q<=18446744073709551615*18446744073709551615) (hc:c < 18446744073709551616) (hd:d < 18446744073709551616) :
    ((q % 18446744073709551616+c+0) % 18446744073709551616+d+0) % 18446744073709551616=(q+c+d) % 18446744073709551616
    /\ (q / 18446744073709551616+(q % 18446744073709551616+c+0) / 18446744073709551616) < 18446744073709551616
    /\ (q / 18446744073709551616+(q % 18446744073709551616+c+0) / 18446744073709551616)+((q % 18446744073709551616+c+0) % 18446744073709551616+d+0) / 18446744073709551616=(q+c+d) / 18446744073709551616
    /\ (q+c+d) / 18446744073709551616 < 18446744073709551616:=by
  omega
theorem zkl {a b:Nat} (ha:a < 18446744073709551616) (hb:b < 18446744073709551616):a*b<=18446744073709551615*18446744073709551615 :=
  Nat.mul_le_mul (by omega) (by omega)
theorem zkm (h b:Nat) (hb:b<=1):(h*2) ||| b=h*2+b:=by
  have:b=0\/b=1:=by omega
  rcases this with rfl|rfl
  . simp
  . have:=Nat.two_pow_add_eq_or_of_lt (i:=1) (b:=1) (by omega) h
    rw[show h*2=2 ^ 1*h by omega];omega
theorem zjf (a0 a1 a2 a3 h:Nat) (ha:u4 a0 a1 a2 a3) (hh:h<=38) :
    (v4 a0 a1 a2 (a3 % 9223372036854775808)+v4 (19*(h*2+a3 / 9223372036854775808)) 0 0 0) % zaD=v4 a0 a1 a2 (a3 % 9223372036854775808)+19*(h*2+a3 / 9223372036854775808)
    /\ v4 a0 a1 a2 (a3 % 9223372036854775808)+19*(h*2+a3 / 9223372036854775808) < 2*p
    /\ (v4 a0 a1 a2 (a3 % 9223372036854775808)+19*(h*2+a3 / 9223372036854775808)) % p=(v4 a0 a1 a2 a3+h*zaD) % p:=by
  obtain⟨h0,h1,h2,h3⟩:=ha;refine⟨?_,?_,?_⟩
  . unfold v4 zaD;omega
  . unfold v4 p;omega
  . have:v4 a0 a1 a2 a3+h*zaD=v4 a0 a1 a2 (a3 % 9223372036854775808)+19*(h*2+a3 / 9223372036854775808)+p*(h*2+a3 / 9223372036854775808):=by
      unfold v4 p zaD;omega
    rw[this,Nat.add_mul_mod_self_left]
theorem znG {x q:Nat} (h1:q<=x) (h2:x < 2*q):x % q=x - q:=by
  rw[Nat.mod_eq_sub_mod h1,Nat.mod_eq_of_lt (by omega)]
theorem zia:v4 18446744073709551597 18446744073709551615 18446744073709551615 9223372036854775807=p:=by decide
theorem zg4 {c:Nat} (h1:¬c < p) (h2:c < 2*p):(c+zaD - p) % zaD=c % p:=by
  rw[znG (by omega) h2];unfold p zaD at *;omega
theorem znH (w0 w1 w2 w3 w4 w5 w6 w7 l0 l1 l2 l3 k1 k2 k3 k4:Nat) (hw:u4 w0 w1 w2 w3) (hv:u4 w4 w5 w6 w7) (hl:u4 l0 l1 l2 l3)
    (e0:l0+18446744073709551616*k1=38*w4+w0+0) (e1:l1+18446744073709551616*k2=38*w5+w1+k1) (e2:l2+18446744073709551616*k3=38*w6+w2+k2) (e3:l3+18446744073709551616*k4=38*w7+w3+k3) :
    k4<=38/\(v4 l0 l1 l2 l3+k4*zaD) % p=(v4 w0 w1 w2 w3+zaD*v4 w4 w5 w6 w7) % p:=by
  have hA:=zrb hw;have hB:=zrb hv;have hL:=zrb hl;have key:v4 l0 l1 l2 l3+k4*zaD=v4 w0 w1 w2 w3+38*v4 w4 w5 w6 w7:=by unfold v4 zaD;omega
  refine⟨?_,?_⟩
  . unfold zaD at *;omega
  . rw[key]
    have:v4 w0 w1 w2 w3+zaD*v4 w4 w5 w6 w7=v4 w0 w1 w2 w3+38*v4 w4 w5 w6 w7+p*(2*v4 w4 w5 w6 w7):=by unfold p zaD;omega
    rw[this,Nat.add_mul_mod_self_left]
theorem zeQ (x b0 b1 b2 b3 o0 o1 o2 o3 l0 l1 l2 l3 k0 k1 k2 k3:Nat)
    (e0:l0+18446744073709551616*k0=x*b0+o0+0) (e1:l1+18446744073709551616*k1=x*b1+o1+k0)
    (e2:l2+18446744073709551616*k2=x*b2+o2+k1) (e3:l3+18446744073709551616*k3=x*b3+o3+k2) :
    v4 l0 l1 l2 l3+zaD*k3=x*v4 b0 b1 b2 b3+v4 o0 o1 o2 o3:=by
  have:x*v4 b0 b1 b2 b3=x*b0+18446744073709551616*(x*b1)+340282366920938463463374607431768211456*(x*b2)+6277101735386680763835789423207666416102355444464034512896*(x*b3):=by unfold v4;grind
  rw[this];generalize x*b0=q0 at *;generalize x*b1=q1 at *;generalize x*b2=q2 at *;generalize x*b3=q3 at *;unfold v4 zaD;omega
theorem zrd (a0 a1 a2 a3 B l00 l01 l02 l03 k0 l10 l11 l12 l13 k1 l20 l21 l22 l23 k2 l30 l31 l32 l33 k3:Nat)
    (r0:v4 l00 l01 l02 l03+zaD*k0=a0*B+v4 0 0 0 0) (r1:v4 l10 l11 l12 l13+zaD*k1=a1*B+v4 l01 l02 l03 k0)
    (r2:v4 l20 l21 l22 l23+zaD*k2=a2*B+v4 l11 l12 l13 k1) (r3:v4 l30 l31 l32 l33+zaD*k3=a3*B+v4 l21 l22 l23 k2) :
    v4 l00 l10 l20 l30+zaD*v4 l31 l32 l33 k3=v4 a0 a1 a2 a3*B:=by
  have:v4 a0 a1 a2 a3*B=a0*B+18446744073709551616*(a1*B)+340282366920938463463374607431768211456*(a2*B)+6277101735386680763835789423207666416102355444464034512896*(a3*B):=by unfold v4;grind
  rw[this];generalize a0*B=q0 at *;generalize a1*B=q1 at *;generalize a2*B=q2 at *;generalize a3*B=q3 at *;unfold v4 zaD at *;omega
theorem znI {a b:Nat} (ha:a < p) (hb:b < p):((a+b) % zaD+0*zaD) % p=(a+b) % p:=by
  have:(a+b) % zaD=a+b:=Nat.mod_eq_of_lt (by unfold p zaD at *;omega);rw[this];simp
theorem znJ {a b:Nat} (hb:b < p) (h:a < b):((a+zaD - b) % zaD+p) % zaD=(a+p - b) % p:=by
  have:(a+zaD - b) % zaD=a+zaD - b:=Nat.mod_eq_of_lt (by unfold p zaD at *;omega);rw[this,Nat.mod_eq_of_lt (a:=a+p - b) (by omega)];unfold p zaD at *;omega
theorem zkn {a b:Nat} (ha:a < p) (h:¬a < b):(a+zaD - b) % zaD=(a+p - b) % p:=by
  have:(a+p - b) % p=a - b:=by
    rw[show a+p - b=(a - b)+p by omega,Nat.add_mod_right,Nat.mod_eq_of_lt (by omega)]
  rw[this];unfold p zaD at *;omega
def ex:Nat->Nat
  | 0=>0
  | n+1=>2*ex n+(if n=252\/n=250 then 0 else 1)
theorem ztG:ex 255=p - 2:=by decide +kernel
theorem zjg (A e q:Nat):(A ^ e % q)*(A ^ e % q) % q=A ^ (2*e) % q:=by
  rw[<-Nat.mul_mod,<-Nat.pow_add];congr 2;omega
theorem zg5 (A e q:Nat):(A ^ e % q)*A % q=A ^ (e+1) % q:=by
  rw[Nat.pow_succ,Nat.mul_mod (A ^ e % q),Nat.mod_mod,<-Nat.mul_mod]
end Go.Proofs.Fd
namespace Go.Proofs.Fd
def num:List UInt8->Nat
  | []=>0
  | b::l=>b.toNat+256*num l
def zbf:Nat->Nat->List UInt8
  | 0,_=>[]
  | k+1,n=>UInt8.ofNat (n % 256)::zbf k (n / 256)
theorem zg6 (k n:Nat):(zbf k n).length=k:=by
  induction k generalizing n with
  | zero=>rfl
  | succ k ih=>simp[zbf,ih]
theorem znK (k n:Nat):num (zbf k n)=n % 256 ^ k:=by
  induction k generalizing n with
  | zero=>simp[zbf,num,Nat.mod_one]
  | succ k ih =>
    simp only[zbf,num,ih];have:(UInt8.ofNat (n % 256)).toNat=n % 256:=by simp
    rw[this,Nat.pow_succ,Nat.mul_comm (256 ^ k) 256,Nat.mod_mul]
theorem znL (l:List UInt8):zbf l.length (num l)=l:=by
  induction l with
  | nil=>rfl
  | cons b l ih =>
    have hb:b.toNat < 256:=b.toNat_lt;simp only[List.length_cons,zbf,num];rw[show (b.toNat+256*num l) / 256=num l by omega,ih,show (b.toNat+256*num l) % 256=b.toNat by omega];simp
theorem zko (l:List UInt8):num l < 256 ^ l.length:=by
  induction l with
  | nil=>simp[num]
  | cons b l ih =>
    have hb:b.toNat < 256:=b.toNat_lt;simp only[List.length_cons,num,Nat.pow_succ];omega
theorem zb4 (l m:List UInt8):num (l++m)=num l+256 ^ l.length*num m:=by
  induction l with
  | nil=>simp[num]
  | cons b l ih =>
    simp only[List.cons_append,num,ih,List.length_cons,Nat.pow_succ];rw[Nat.mul_add,Nat.mul_comm (256 ^ l.length) 256,Nat.mul_assoc];omega
theorem zci (j k n:Nat):zbf j (n % 256 ^ j)++zbf k (n / 256 ^ j)=zbf (j+k) n:=by
  induction j generalizing n with
  | zero=>simp[zbf]
  | succ j ih =>
    have e1:n % 256 ^ (j+1) % 256=n % 256:=by
      rw[Nat.pow_succ,Nat.mul_comm,Nat.mod_mul_right_mod]
    have e2:n % 256 ^ (j+1) / 256=n / 256 % 256 ^ j:=by
      rw[Nat.pow_succ,Nat.mul_comm,Nat.mod_mul_right_div_self]
    have e3:n / 256 ^ (j+1)=n / 256 / 256 ^ j:=by
      rw[Nat.pow_succ,Nat.mul_comm,Nat.div_div_eq_div_mul]
    rw[Nat.succ_add];simp only[zbf,List.cons_append,e1,e2,e3,ih]
theorem zkp (x0 x1 x2 x3 x4 x5 x6 x7:UInt8):num [x0,x1,x2,x3,x4,x5,x6,x7]=x0.toNat+256*x1.toNat+65536*x2.toNat+16777216*x3.toNat+4294967296*x4.toNat+1099511627776*x5.toNat+281474976710656*x6.toNat+72057594037927936*x7.toNat:=by
  simp only[num];omega
theorem zdB (l:List UInt8) (h:8<=l.length):num l=num (l.take 8)+18446744073709551616*num (l.drop 8):=by
  have e:num l=num (l.take 8++l.drop 8):=by rw[List.take_append_drop]
  rw[e,zb4,List.length_take,Nat.min_eq_left h]
theorem zbO (l:List UInt8):num (l.take 8) < 18446744073709551616:=by
  have h1:=zko (l.take 8);have h2:(l.take 8).length<=8:=List.length_take_le _ _;have h3:256 ^ (l.take 8).length<=256 ^ 8:=Nat.pow_le_pow_right (by decide) h2;have h4:(256:Nat) ^ 8=18446744073709551616:=by decide
  omega
theorem znM (l:List UInt8) (h:l.length=32) :
    u4 (num (l.take 8)) (num ((l.drop 8).take 8)) (num ((l.drop 16).take 8)) (num ((l.drop 24).take 8))/\v4 (num (l.take 8)) (num ((l.drop 8).take 8)) (num ((l.drop 16).take 8)) (num ((l.drop 24).take 8))=num l:=by
  refine⟨⟨zbO _,zbO _,zbO _,zbO _⟩,?_⟩;have e1:=zdB l (by omega);have e2:=zdB (l.drop 8) (by simp[h]);have e3:=zdB (l.drop 16) (by simp[h]);have e4:=zdB (l.drop 24) (by simp[h]);have e5:num (l.drop 32)=0:=by rw[List.drop_of_length_le (by omega)];rfl
  simp only[List.drop_drop,Nat.reduceAdd] at e2 e3 e4;unfold v4;omega
end Go.Proofs.Fd
namespace Go.Proofs.Fd
def wd (l:List UInt8) (k j:Nat):Nat:=num (((l.take k).drop (8*j)).take 8)
theorem zre (l:List UInt8) (j:Nat):wd l 0 j=0:=by simp[wd,num]
theorem zfI (l:List UInt8) (k j:Nat):wd l k j < 18446744073709551616:=zbO _
theorem zfJ (l:List UInt8) (k:Nat) (h:k < l.length):l.take (k+1)=l.take k++[l[k]] :=
  List.take_succ_eq_append_getElem h
theorem znN (l:List UInt8) (k j:Nat) (h:k < l.length) (hj:k / 8≠j):wd l (k+1) j=wd l k j:=by
  unfold wd;rw[zfJ l k h];have hl:(l.take k).length=k:=by rw[List.length_take];omega
  by_cases hlt:8*j<=k
  . rw[List.drop_append_of_le_length (by omega),List.take_append_of_le_length (by rw[List.length_drop];omega)]
  . rw[List.drop_of_length_le (by rw[List.length_append,hl];simp;omega),List.drop_of_length_le (by omega)]
theorem zrf (l:List UInt8) (k j r:Nat) (h:k < l.length) (hj:k / 8=j) (hr:k % 8=r):wd l (k+1) j=wd l k j+2 ^ (r*8)*l[k].toNat:=by
  unfold wd;rw[zfJ l k h];have hl:(l.take k).length=k:=by rw[List.length_take];omega
  have hd:((l.take k).drop (8*j)).length=r:=by rw[List.length_drop,hl];omega
  have t1:((l.take k).drop (8*j)).take 8=(l.take k).drop (8*j):=List.take_of_length_le (by omega);have t2:((l.take k).drop (8*j)++[l[k]]).take 8=(l.take k).drop (8*j)++[l[k]]:=List.take_of_length_le (by rw[List.length_append,hd,List.length_singleton];omega);rw[List.drop_append_of_le_length (by omega),t1,t2,zb4,hd];have e:256 ^ r=2 ^ (r*8):=by rw[show (256:Nat)=2 ^ 8 by decide,<-Nat.pow_mul,Nat.mul_comm]
  rw[e];simp only[num,Nat.mul_zero,Nat.add_zero]
theorem znO (l:List UInt8) (k j r:Nat) (h:k < l.length) (hj:k / 8=j) (hr:k % 8=r):wd l k j < 2 ^ (r*8):=by
  unfold wd;have hl:(l.take k).length=k:=by rw[List.length_take];omega
  have hd:((l.take k).drop (8*j)).length=r:=by rw[List.length_drop,hl];omega
  have t1:((l.take k).drop (8*j)).take 8=(l.take k).drop (8*j):=List.take_of_length_le (by omega);have:=zko ((l.take k).drop (8*j));rw[hd] at this;rw[t1];have e:256 ^ r=2 ^ (r*8):=by rw[show (256:Nat)=2 ^ 8 by decide,<-Nat.pow_mul,Nat.mul_comm]
  omega
theorem zbi (l:List UInt8):num l=num (l.take 8)+18446744073709551616*num (l.drop 8):=by
  by_cases h:8<=l.length
  . exact zdB l h
  . rw[List.take_of_length_le (by omega),List.drop_of_length_le (by omega)];simp[num]
theorem ztH (l:List UInt8) (h:l.length<=64) :
    v4 (wd l l.length 0) (wd l l.length 1) (wd l l.length 2) (wd l l.length 3)+zaD*v4 (wd l l.length 4) (wd l l.length 5) (wd l l.length 6) (wd l l.length 7)=num l:=by
  unfold wd;simp only[List.take_length];have e0:=zbi l;have e1:=zbi (l.drop 8);have e2:=zbi (l.drop 16);have e3:=zbi (l.drop 24);have e4:=zbi (l.drop 32);have e5:=zbi (l.drop 40);have e6:=zbi (l.drop 48);have e7:=zbi (l.drop 56);have e8:num (l.drop 64)=0:=by rw[List.drop_of_length_le (by omega)];rfl
  simp only[List.drop_drop,Nat.reduceAdd] at e1 e2 e3 e4 e5 e6 e7;simp only[Nat.reduceMul,Nat.mul_zero,List.drop_zero];unfold v4 zaD;omega
end Go.Proofs.Fd
namespace Go.Proofs.Fd
def b8 (a:Nat):List UInt8 :=
  [UInt8.ofNat (a % 256),UInt8.ofNat (a / 256 % 256),UInt8.ofNat (a / 65536 % 256),UInt8.ofNat (a / 16777216 % 256),
   UInt8.ofNat (a / 4294967296 % 256),UInt8.ofNat (a / 1099511627776 % 256),UInt8.ofNat (a / 281474976710656 % 256),UInt8.ofNat (a / 72057594037927936 % 256)]
theorem zrg (a:Nat):b8 a=zbf 8 a:=by
  simp only[b8,zbf,Nat.div_div_eq_div_mul,Nat.reduceMul]
theorem ztI (a0 a1 a2 a3:Nat) (h:u4 a0 a1 a2 a3):zbf 32 (v4 a0 a1 a2 a3)=b8 a0++(b8 a1++(b8 a2++b8 a3)):=by
  obtain⟨h0,h1,h2,h3⟩:=h;have e:(256:Nat) ^ 8=18446744073709551616:=by decide
  have s0:=zci 8 24 (v4 a0 a1 a2 a3);have s1:=zci 8 16 (v4 a0 a1 a2 a3 / 256 ^ 8);have s2:=zci 8 8 (v4 a0 a1 a2 a3 / 256 ^ 8 / 256 ^ 8);rw[e] at s0 s1 s2;have d1:v4 a0 a1 a2 a3 / 18446744073709551616=a1+18446744073709551616*(a2+18446744073709551616*a3):=by unfold v4;omega
  have d2:v4 a0 a1 a2 a3 / 18446744073709551616 / 18446744073709551616=a2+18446744073709551616*a3:=by rw[d1];omega
  have d3:v4 a0 a1 a2 a3 / 18446744073709551616 / 18446744073709551616 / 18446744073709551616=a3:=by rw[d2];omega
  have m0:v4 a0 a1 a2 a3 % 18446744073709551616=a0:=by unfold v4;omega
  have m1:v4 a0 a1 a2 a3 / 18446744073709551616 % 18446744073709551616=a1:=by rw[d1];omega
  have m2:v4 a0 a1 a2 a3 / 18446744073709551616 / 18446744073709551616 % 18446744073709551616=a2:=by rw[d2];omega
  rw[m0] at s0;rw[m1] at s1;rw[m2,d3] at s2;simp only[zrg];rw[s2,s1,s0]
end Go.Proofs.Fd
namespace Go.Proofs.Fd
def enc (n:Nat):ByteArray:=⟨(zbf 32 n).toArray⟩
theorem zcs (n:Nat):(enc n).size=32:=by
  show (zbf 32 n).toArray.size=32;rw[List.size_toArray,zg6]
theorem znP:(256:Nat) ^ 32=zaD:=by decide
theorem zcj {n:Nat} (h:n < zaD):num (enc n).data.toList=n:=by
  show num (zbf 32 n)=n;rw[znK,znP,Nat.mod_eq_of_lt h]
theorem zvN:p < zaD:=by decide
theorem zav {n:Nat} (h:n < p):num (enc n).data.toList=n:=zcj (Nat.lt_trans h zvN)
theorem zrh {a b:Nat} (ha:a < zaD) (hb:b < zaD) (h:enc a=enc b):a=b:=by
  rw[<-zcj ha,h,zcj hb]
theorem zri {s:ByteArray} (h:s.size=32):enc (num s.data.toList)=s:=by
  have hl:s.data.toList.length=32:=by simpa using h
  have:=znL s.data.toList;rw[hl] at this;unfold enc;rw[this]
def chk (s:ByteArray):Int:=if s.size=32 then (if num s.data.toList < p then 0 else 1) else 3
theorem zbP {n:Nat} (h:n < p):chk (enc n)=0:=by
  unfold chk;rw[if_pos (zcs n),if_pos (by rw[zav h];exact h)]
theorem zaZ {s:ByteArray} (h:chk s=0):s.size=32/\num s.data.toList < p:=by
  unfold chk at h
  split at h
  . split at h
    . exact⟨by assumption,by assumption⟩
    . cases h
  . cases h
def zaw:List ByteArray->Int
  | []=>0
  | s::r=>if chk s=0 then zaw r else chk s
def zay (l:List ByteArray):Int:=if zaw l=0 then (if l.length<=100 then 0 else 2) else zaw l
theorem zdm (l:List ByteArray) (k:Nat) (h:k < l.length) (h0:zaw (l.take k)=0):zaw (l.take (k+1))=chk l[k]:=by
  induction l generalizing k with
  | nil=>simp at h
  | cons s r ih =>
    cases k with
    | zero=>simp[zaw];exact fun h=>h.symm
    | succ k =>
      simp only[List.take_succ_cons,zaw] at h0 ⊢
      split at h0
      . rename_i hs
        rw[if_pos hs]
        simpa using ih k (by simpa using h) h0
      . rename_i hs;exact absurd h0 hs
theorem zfK (l:List ByteArray) (k:Nat) (h:k < l.length) (h0:zaw (l.take k)=0) (h1:¬chk l[k]=0):zaw l=chk l[k]:=by
  induction l generalizing k with
  | nil=>simp at h
  | cons s r ih =>
    cases k with
    | zero=>simp only[List.getElem_cons_zero] at h1 ⊢;simp only[zaw];rw[if_neg h1]
    | succ k =>
      simp only[List.take_succ_cons,zaw] at h0 ⊢
      split at h0
      . rename_i hs
        rw[if_pos hs]
        simpa using ih k (by simpa using h) h0 (by simpa using h1)
      . rename_i hs;exact absurd h0 hs
theorem zek {l:List ByteArray} (h:zaw l=0):∀s∈l,chk s=0:=by
  induction l with
  | nil=>simp
  | cons s r ih =>
    simp only[zaw] at h
    split at h
    . rename_i hs
      intro t ht;rcases List.mem_cons.1 ht with rfl|ht
      . exact hs
      . exact ih h t ht
    . rename_i hs;exact absurd h hs
theorem zde {l:List ByteArray} (h:zay l=0):zaw l=0/\l.length<=100:=by
  unfold zay at h
  split at h
  . split at h
    . exact⟨by assumption,by assumption⟩
    . cases h
  . rename_i hs;exact absurd h hs
end Go.Proofs.Fd
namespace Go.Proofs.Fd
def zct (l:List ByteArray):Nat:=l.foldl (fun a s=>(a+num s.data.toList) % p) 0
def zaO (a:Nat) (l:List ByteArray):Nat:=l.foldl (fun a s=>(a*num s.data.toList) % p) a
theorem zdC (l:List ByteArray) (k:Nat) (h:k < l.length):zct (l.take (k+1))=(zct (l.take k)+num l[k].data.toList) % p:=by
  unfold zct;rw[List.take_succ_eq_append_getElem h,List.foldl_append];rfl
theorem zcU (a:Nat) (l:List ByteArray) (k:Nat) (h:k < l.length):zaO a (l.take (k+1))=(zaO a (l.take k)*num l[k].data.toList) % p:=by
  unfold zaO;rw[List.take_succ_eq_append_getElem h,List.foldl_append];rfl
theorem zrj:0 < p:=by decide
theorem znQ (l:List ByteArray):zct l < p:=by
  rcases List.eq_nil_or_concat l with rfl|⟨m,b,rfl⟩
  . exact zrj
  . unfold zct;rw[List.concat_eq_append,List.foldl_append];exact Nat.mod_lt _ zrj
end Go.Proofs.Fd
namespace Go.Proofs.Fd
def pm:Nat->Nat
  | 0=>1
  | n+1=>if n=252\/n=250 then pm n*pm n % p else pm n*pm n % p*2 % p
theorem zxq (a b:Nat):((0+a) % p+b) % p=(a+b) % p:=by
  rw[Nat.zero_add,Nat.add_mod (a % p),Nat.mod_mod,<-Nat.add_mod]
theorem sum3 (a b c:Nat):(((0+a) % p+b) % p+c) % p=(a+b+c) % p:=by
  rw[zxq,Nat.add_mod ((a+b) % p),Nat.mod_mod,<-Nat.add_mod]
end Go.Proofs.Fd
namespace Go.Proofs.Fd
end Go.Proofs.Fd
namespace Go.Proofs.Fd
end Go.Proofs.Fd
namespace Go.Proofs.Fd
def Pr (n:Nat):Prop:=1 < n/\∀a b,n ∣ a*b->n ∣ a\/n ∣ b
theorem zqs:Pr 2:=by
  refine⟨by decide,fun a b h => ?_⟩;have hm:(a % 2)*(b % 2) % 2=0:=by rw[<-Nat.mul_mod];exact Nat.mod_eq_zero_of_dvd h
  rcases Nat.mod_two_eq_zero_or_one a with ha|ha
  . exact .inl (Nat.dvd_of_mod_eq_zero ha)
  . rcases Nat.mod_two_eq_zero_or_one b with hb|hb
    . exact .inr (Nat.dvd_of_mod_eq_zero hb)
    . rw[ha,hb] at hm;exact absurd hm (by decide)
theorem zqt {l c:Nat} (hl:Pr l) (h:¬l ∣ c):Nat.gcd c l=1:=by
  obtain⟨h1,h2⟩:=hl;obtain⟨k,hk⟩:=Nat.gcd_dvd_right c l;rcases h2 (Nat.gcd c l) k (by rw[<-hk];exact Nat.dvd_refl l) with hd|hd
  . exact absurd (Nat.dvd_trans hd (Nat.gcd_dvd_left c l)) h
  . obtain⟨t,ht⟩:=hd
    have hl0:0 < l:=by omega
    have e:l*(Nat.gcd c l*t)=l*1:=by
      rw[Nat.mul_one,<-Nat.mul_assoc,Nat.mul_comm l,Nat.mul_assoc,<-ht,<-hk]
    have e':=Nat.eq_of_mul_eq_mul_left hl0 e;exact Nat.eq_one_of_mul_eq_one_right e'
def znR:List Nat->Nat
  | []=>1
  | l::r=>l*znR r
theorem zg7 (L:List Nat) (hL:∀l∈L,Pr l) (c:Nat) (hc:c ∣ znR L) (h1:c≠1):∃l∈L,l ∣ c:=by
  induction L with
  | nil=>exact absurd (Nat.dvd_one.1 hc) h1
  | cons l r ih =>
    by_cases h:l ∣ c
    . exact⟨l,by simp,h⟩
    . have g:=zqt (hL l (by simp)) h
      have hc':c ∣ znR r:=Nat.Coprime.dvd_of_dvd_mul_left g hc;obtain⟨m,hm,hd⟩:=ih (fun x hx=>hL x (by simp[hx])) hc';exact⟨m,by simp[hm],hd⟩
theorem zck {g a N:Nat} (h1:1 < N) (h:g ^ a % N=1) (k:Nat):g ^ (a*k) % N=1:=by
  rw[Nat.pow_mul,Nat.pow_mod,h,Nat.one_pow,Nat.mod_eq_of_lt h1]
theorem zrk {g a N:Nat} (h1:1 < N) (h:g ^ a % N=1) (b:Nat):g ^ b % N=g ^ (b % a) % N:=by
  have e:g ^ b=g ^ (a*(b / a))*g ^ (b % a):=by rw[<-Nat.pow_add,Nat.div_add_mod]
  rw[e,Nat.mul_mod,zck h1 h,Nat.one_mul,Nat.mod_mod]
theorem zrl {g N:Nat} (h1:1 < N) (a b:Nat) (ha:g ^ a % N=1) (hb:g ^ b % N=1):g ^ (Nat.gcd a b) % N=1:=by
  induction a,b using Nat.gcd.induction with
  | H0 b=>simpa using hb
  | H1 a b h0 ih =>
    rw[Nat.gcd_rec];exact ih (by rw[<-zrk h1 ha];exact hb) ha
theorem zv4 {g N:Nat} (h1:1 < N) (L:List Nat) (hL:∀l∈L,Pr l) (hn:znR L=N - 1) (hg:g ^ (N - 1) % N=1) (hl:∀l∈L,g ^ ((N - 1) / l) % N≠1)
    (m:Nat) (h0:0 < m) (hm:m < N - 1):g ^ m % N≠1:=by
  intro h;have hd:=zrl h1 m (N - 1) h hg;obtain⟨c,hc⟩:=Nat.gcd_dvd_right m (N - 1);have hle:Nat.gcd m (N - 1)<=m:=Nat.gcd_le_left _ h0;have hc1:c≠1:=by
    intro e;rw[e,Nat.mul_one] at hc;omega
  obtain⟨l,hlm,k,hk⟩:=zg7 L hL c (by rw[hn];exact⟨Nat.gcd m (N - 1),by rw[Nat.mul_comm];exact hc⟩) hc1;have hl0:0 < l:=by have:=(hL l hlm).1;omega
  have e:(N - 1) / l=Nat.gcd m (N - 1)*k:=by
    rw[hk] at hc;have:N - 1=l*(Nat.gcd m (N - 1)*k):=by
      rw[<-Nat.mul_assoc,Nat.mul_comm l,Nat.mul_assoc,<-hc]
    exact Nat.div_eq_of_eq_mul_right hl0 this
  exact hl l hlm (by rw[e];exact zck h1 hd k)
theorem ztJ (n:Nat) (f:Nat->Nat) (h:∀i,i<=n->f i < n):∃i j,i < j/\j<=n/\f i=f j:=by
  induction n generalizing f with
  | zero=>exact absurd (h 0 (Nat.le_refl 0)) (by omega)
  | succ n ih =>
    by_cases hv:∃i,i<=n/\f i=f (n+1)
    . obtain⟨i,hi,e⟩:=hv
      exact⟨i,n+1,by omega,Nat.le_refl _,e⟩
    . have hne:∀i,i<=n->f i≠f (n+1):=fun i hi e=>hv ⟨i,hi,e⟩
      have hlast:=h (n+1) (Nat.le_refl _);obtain⟨i,j,hij,hj,e⟩:=ih (fun i=>if f i=n then f (n+1) else f i) (fun i hi=>by
        show (if f i=n then f (n+1) else f i) < n;have h1:=h i (by omega);have h2:=hne i hi
        split <;> omega)
      refine⟨i,j,hij,by omega,?_⟩;have h1:=hne i (by omega);have h2:=hne j hj
      split at e <;> split at e <;> omega
theorem zrm (n:Nat) (f:Nat->Nat) (h:∀i,i < n->0 < f i/\f i<=n) (inj:∀i j,i < j->j < n->f i≠f j) (a:Nat) (h0:0 < a) (ha:a<=n):∃i,i < n/\f i=a:=by
  obtain⟨i,j,hij,hj,e⟩:=ztJ n (fun i=>(if i < n then f i else a) - 1) (fun i hi=>by
    show (if i < n then f i else a) - 1 < n
    split
    . rename_i hlt;have:=h i hlt;omega
    . omega)
  have hi:i < n:=by omega
  rw[if_pos hi] at e;have:=h i hi;by_cases hjn:j < n
  . rw[if_pos hjn] at e
    have:=h j hjn;exact absurd (by omega) (inj i j hij hjn)
  . rw[if_neg hjn] at e
    exact⟨i,hi,by omega⟩
theorem zqu {g N:Nat} (h1:1 < N) (L:List Nat) (hL:∀l∈L,Pr l) (hn:znR L=N - 1) (hg:g ^ (N - 1) % N=1) (hl:∀l∈L,g ^ ((N - 1) / l) % N≠1)
    (a:Nat) (h0:0 < a) (ha:a < N):∃i,g ^ i % N=a:=by
  obtain⟨i,_,e⟩:=zrm (N - 1) (fun i=>g ^ i % N) (fun i hi=>by
      have hlt:g ^ i % N < N:=Nat.mod_lt _ (by omega);refine⟨?_,by show g ^ i % N<=N - 1;omega⟩;rcases Nat.eq_zero_or_pos (g ^ i % N) with hz|hz
      . exfalso
        have e:g ^ (N - 1)=g ^ i*g ^ (N - 1 - i):=by rw[<-Nat.pow_add];congr 1;omega
        rw[e,Nat.mul_mod,hz,Nat.zero_mul,Nat.zero_mod] at hg;exact absurd hg (by decide)
      . exact hz) (fun i j hij hj e=>by
      have e':g ^ i % N=g ^ j % N:=e;have e1:g ^ (N - 1)=g ^ i*g ^ (N - 1 - i):=by rw[<-Nat.pow_add];congr 1;omega
      have e2:g ^ (N - 1+(j - i))=g ^ j*g ^ (N - 1 - i):=by rw[<-Nat.pow_add];congr 1;omega
      have e3:g ^ (N - 1+(j - i)) % N=1:=by
        rw[e2,Nat.mul_mod,<-e',<-Nat.mul_mod,<-e1,hg]
      rw[Nat.pow_add,Nat.mul_mod,hg,Nat.one_mul,Nat.mod_mod] at e3;exact zv4 h1 L hL hn hg hl (j - i) (by omega) (by omega) e3) a h0 (by omega)
  exact⟨i,e⟩
theorem zqv {g N:Nat} (h1:1 < N) (L:List Nat) (hL:∀l∈L,Pr l) (hn:znR L=N - 1) (hg:g ^ (N - 1) % N=1) (hl:∀l∈L,g ^ ((N - 1) / l) % N≠1)
    (a:Nat) (h0:0 < a) (ha:a < N):a ^ (N - 1) % N=1:=by
  obtain⟨i,hi⟩:=zqu h1 L hL hn hg hl a h0 ha;rw[<-hi,<-Nat.pow_mod,<-Nat.pow_mul,Nat.mul_comm];exact zck h1 hg i
theorem zv5 {N:Nat} (g:Nat) (h1:1 < N) (L:List Nat) (hL:∀l∈L,Pr l) (hn:znR L=N - 1) (hg:g ^ (N - 1) % N=1) (hl:∀l∈L,g ^ ((N - 1) / l) % N≠1):Pr N:=by
  refine⟨h1,fun a b hab => ?_⟩;rcases Nat.eq_zero_or_pos (a % N) with hz|hz
  . exact .inl (Nat.dvd_of_mod_eq_zero hz)
  . right
    have hf:=zqv h1 L hL hn hg hl (a % N) hz (Nat.mod_lt _ (by omega));rw[<-Nat.pow_mod] at hf;have hm:a*b % N=0:=Nat.mod_eq_zero_of_dvd hab;apply Nat.dvd_of_mod_eq_zero;have e:a ^ (N - 1)*b=a ^ (N - 1 - 1)*(a*b):=by
      rw[<-Nat.mul_assoc,<-Nat.pow_succ];by_cases hN:N=2
      . subst hN;rfl
      . congr 2;omega
    have:a ^ (N - 1)*b % N=b % N:=by rw[Nat.mul_mod,hf,Nat.one_mul,Nat.mod_mod]
    rw[<-this,e,Nat.mul_mod,hm,Nat.mul_zero,Nat.zero_mod]
def pw:Nat->Nat->Nat->Nat->Nat
  | 0,_,_,N=>1 % N
  | f+1,a,e,N=>if e % 2=1 then a*pw f (a*a % N) (e / 2) N % N else pw f (a*a % N) (e / 2) N
theorem zrn (f a e N:Nat) (h:e < 2 ^ f):pw f a e N=a ^ e % N:=by
  induction f generalizing a e with
  | zero =>
    have:e=0:=by simpa using h
    subst this;rfl
  | succ f ih =>
    have he:e / 2 < 2 ^ f:=by rw[Nat.pow_succ] at h;omega
    have hs:(a*a % N) ^ (e / 2) % N=a ^ (2*(e / 2)) % N:=by
      rw[<-Nat.pow_mod,<-Nat.pow_two,<-Nat.pow_mul]
    show (if e % 2=1 then a*pw f (a*a % N) (e / 2) N % N else pw f (a*a % N) (e / 2) N)=_;rw[ih _ _ he,hs]
    split
    . rename_i ho
      rw[Nat.mul_mod,Nat.mod_mod,<-Nat.mul_mod,<-Nat.pow_succ'];congr 2;omega
    . congr 2;omega
def ztK (g N:Nat) (L:List Nat):Bool :=
  decide (1 < N) && decide (N < 2 ^ 256) && decide (znR L=N - 1) && decide (pw 256 g (N - 1) N=1) && L.all fun l=>decide (pw 256 g ((N - 1) / l) N≠1)
theorem zeR {g N:Nat} {L:List Nat} (h:ztK g N L=true) :
    1 < N/\znR L=N - 1/\g ^ (N - 1) % N=1/\∀l∈L,g ^ ((N - 1) / l) % N≠1:=by
  unfold ztK at h;simp only[Bool.and_eq_true,decide_eq_true_eq,List.all_eq_true] at h;obtain⟨⟨⟨⟨h1,h2⟩,h3⟩,h4⟩,h5⟩:=h;refine⟨h1,h3,?_,fun l hl => ?_⟩
  . rw[<-zrn 256 g (N - 1) N (by omega)];exact h4
  . rw[<-zrn 256 g ((N - 1) / l) N (Nat.lt_of_le_of_lt (Nat.div_le_self _ _) (by omega))];exact h5 l hl
theorem zkq {N:Nat} (g:Nat) (L:List Nat) (h:ztK g N L=true) (hL:∀l∈L,Pr l):Pr N:=by
  obtain⟨h1,h2,h3,h4⟩:=zeR h;exact zv5 g h1 L hL h2 h3 h4
end Go.Proofs.Fd
namespace Go.Proofs.Fd
def zv6:List Nat->List (Nat×Nat×List Nat)->Bool
  | _,[]=>true
  | ks,x::r=>ztK x.2.1 x.1 x.2.2 && x.2.2.all (fun l=>ks.contains l) && zv6 (x.1::ks) r
theorem zkr:∀(r:List (Nat×Nat×List Nat)) (ks:List Nat),(∀k∈ks,Pr k)->zv6 ks r=true->∀n∈r.map (·.1),Pr n
  | [],_,_,_,n,hn=>by cases hn
  | x::r,ks,hk,h,n,hn=>by
    unfold zv6 at h;rw[Bool.and_eq_true,Bool.and_eq_true] at h;obtain⟨⟨h1,h2⟩,h3⟩:=h;have hx:Pr x.1:=zkq x.2.1 x.2.2 h1 (fun l hl=>hk l (by
      have:=List.all_eq_true.1 h2 l hl
      simpa using this))
    rw[List.map_cons] at hn;rcases List.mem_cons.1 hn with rfl|hn
    . exact hx
    . exact zkr r (x.1::ks) (fun k hk'=>by
        rcases List.mem_cons.1 hk' with rfl|hk'
        . exact hx
        . exact hk k hk') h3 n hn
def znS:List (Nat×Nat×List Nat):=[(3,2,[2]),(17,3,[2,2,2,2]),(7,3,[2,3]),(239,7,[2,7,17]),(479,13,[2,239]),(32573,2,[2,2,17,479]),(65147,2,[2,32573]),(5,2,[2,2]),(11,2,[2,5]),(353,3,[2,2,2,2,2,11]),(29,2,[2,2,7]),(59,2,[2,29]),(487,3,[2,3,3,3,3,3]),(57467,2,[2,59,487]),(13,2,[2,2,3]),(131,2,[2,5,13]),(132049,26,[2,2,2,2,3,3,7,131]),(43,3,[2,3,7]),(23,5,[2,11]),(3727,3,[2,3,3,3,3,23]),(1923133,2,[2,2,3,43,3727]),(31,3,[2,3,5]),(53,2,[2,2,13]),(107,2,[2,53]),(37,2,[2,2,3,3]),(223,3,[2,3,37]),(173,2,[2,2,43]),(4153,5,[2,2,2,3,173]),(41,6,[2,2,2,5]),(1723,3,[2,3,7,41]),(430751,17,[2,5,5,5,1723]),(31757755568855353,10,[2,2,2,3,31,107,223,4153,430751]),(19,2,[2,3,3]),(83,2,[2,41]),(9463,3,[2,3,19,83]),(37853,2,[2,2,9463]),(75707,2,[2,37853]),(2437,2,[2,2,3,7,29]),(97,5,[2,2,2,2,2,3]),(419,2,[2,11,19]),(569003,2,[2,7,97,419]),(2773320623,5,[2,2437,569003]),(72106336199,7,[2,13,2773320623]),(47,5,[2,23]),(127,3,[2,3,3,7]),(103,5,[2,3,17]),(991,6,[2,3,3,5,11]),(8574133,2,[2,2,3,7,103,991]),(1919519569386763,2,[2,3,7,19,47,47,127,8574133]),(75445702479781427272750846543864801,7,[2,2,2,2,2,3,3,5,5,75707,72106336199,1919519569386763]),(74058212732561358302231226437062788676166966415465897661863160754340907,2,[2,3,353,57467,132049,1923133,31757755568855353,75445702479781427272750846543864801])]
theorem zib:∀n∈2::znS.map (·.1),Pr n:=fun n hn=>by
  rcases List.mem_cons.1 hn with rfl|hn
  . exact zqs
  . exact zkr znS [2] (fun k hk=>by rw[List.mem_singleton] at hk;rw[hk];exact zqs) (by decide +kernel) n hn
theorem zks:ztK 2 p [2,2,3,65147,74058212732561358302231226437062788676166966415465897661863160754340907]=true:=by decide +kernel
theorem zkt:∀l∈[2,2,3,65147,74058212732561358302231226437062788676166966415465897661863160754340907],Pr l:=fun l hl=>zib l ((by decide +kernel:∀l∈[2,2,3,65147,74058212732561358302231226437062788676166966415465897661863160754340907],l∈2::znS.map (·.1)) l hl)
theorem zro:Pr p:=zkq 2 _ zks zkt
theorem zic (a:Nat) (h0:0 < a) (ha:a < p):a ^ (p - 1) % p=1:=by
  obtain⟨h1,h2,h3,h4⟩:=zeR zks;exact zqv h1 _ zkt h2 h3 h4 a h0 ha
end Go.Proofs.Fd
namespace Go.Proofs.Fd
def zv7:List (Nat×Nat×List Nat):=[(34123,2,[2,3,11,11,47]),(409477,2,[2,2,3,34123]),(14741173,2,[2,2,3,3,409477]),(58964693,2,[2,2,14741173]),(30703,3,[2,3,7,17,43]),(79,3,[2,3,13]),(41081,3,[2,2,2,5,13,79]),(82163,2,[2,41081]),(17231,13,[2,5,1723]),(137849,3,[2,2,2,17231]),(67,2,[2,3,11]),(22111,6,[2,3,5,11,67]),(132667,5,[2,3,22111]),(3044861653679985063343,5,[2,3,11,30703,82163,132667,137849]),(198211423230930754013084525763697,5,[2,2,2,2,3,23,58964693,3044861653679985063343]),(2851,2,[2,3,5,5,19]),(2551,6,[2,3,5,5,17]),(1224481,13,[2,2,2,2,2,3,5,2551]),(73,5,[2,2,2,3,3]),(3797,2,[2,2,13,73]),(531581,2,[2,2,5,7,3797]),(1257559732178653,2,[2,2,3,7,23,531581,1224481]),(4434155615661930479,17,[2,41,43,1257559732178653]),(1361,3,[2,2,2,2,5,17]),(172054593956031949258510691,2,[2,5,1361,2851,4434155615661930479]),(269,2,[2,2,67]),(307,5,[2,3,3,17]),(113,3,[2,2,2,2,7]),(2939,2,[2,13,113]),(5879,11,[2,2939]),(292386187,2,[2,3,3,3,3,307,5879]),(213441916511,13,[2,5,73,292386187]),(19757330305831588566944191468367130476339,2,[2,269,213441916511,172054593956031949258510691]),(276602624281642239937218680557139826668747,2,[2,7,19757330305831588566944191468367130476339]),(7237005577332262213973186563042994240857116359379907606001950938285454250989,2,[2,2,3,11,198211423230930754013084525763697,276602624281642239937218680557139826668747])]
theorem zah:Pr 7237005577332262213973186563042994240857116359379907606001950938285454250989:=zkr zv7 (2::znS.map (·.1)) zib (by decide +kernel) _ (by decide +kernel)
end Go.Proofs.Fd
namespace Go.Proofs.Fd
theorem zrp {a:Nat} (h0:0 < a) (ha:a < p):a*(a ^ (p - 2) % p) % p=1:=by
  rw[Nat.mul_mod_mod,<-Nat.pow_succ',show (p - 2).succ=p - 1 by decide,zic a h0 ha]
theorem znT:0 ^ (p - 2) % p=0:=by
  rw[Nat.zero_pow (by decide)];rfl
end Go.Proofs.Fd
namespace Go.Proofs.Fd
def cy (d:Nat->Int):Nat->Int
  | 0=>0
  | i+1=>(d i+cy d i) / 67108864
def md (d:Nat->Int) (i:Nat):Int:=(d i+cy d i) % 67108864
def st (d:Nat->Int) (k j:Nat):Int:=if j < k then md d j else if j=k then d j+cy d j else d j
def ev (d:Nat->Int) (j:Nat):Int:=st d 9 j
end Go.Proofs.Fd
namespace Go.Proofs.Fd
def can (d:Nat->Int):Prop:=∀j,j < 10->0<=d j/\d j < 67108864
def fo (d:Nat->Int) (j:Nat):Int :=
  if j=0 then ev d 0+19*(ev d 9 / 2097152) else if j=9 then ev d 9 - ev d 9 / 2097152*2097152 else ev d j
end Go.Proofs.Fd
namespace Go.Proofs.Fd
def shf (c:Int) (b:Nat->Int) (i j:Nat):Int:=if i<=j/\j < i+10 then c*b (j - i) else 0
def pr (a b:Nat->Int):Nat->Nat->Int
  | 0,_=>0
  | i+1,j=>pr a b i j+shf (a i) b i j
def wf (a b:Nat->Int) (i k j:Nat):Int:=pr a b i j+(if i<=j/\j < i+k then a i*b (j - i) else 0)
def zxr (a b:Nat->Int) (j:Nat):Int:=st (pr a b 10) 19 j
def tm (a b:Nat->Int) (k j:Nat):Int:=if j < k then zxr a b j+608*zxr a b (10+j) else 0
end Go.Proofs.Fd
namespace Go.Proofs.Fd
def bd (n k j:Nat):Int:=((n % 2 ^ k / 256 ^ j % 256:Nat):Int)
theorem ztL (n q j r:Nat) (hr:r < q):n / 2 ^ (q*j) % 2 ^ q / 2 ^ r % 2=n / 2 ^ (q*j+r) % 2:=by
  have e:2 ^ q=2 ^ r*2 ^ (q - r):=by rw[<-Nat.pow_add];congr 1;omega
  rw[e,Nat.mod_mul_right_div_self,Nat.mod_mod_of_dvd _ ⟨2 ^ (q - r - 1),by rw[<-Nat.pow_succ'];congr 1;omega⟩,Nat.div_div_eq_div_mul,<-Nat.pow_add]
theorem pow8 (j:Nat):256 ^ j=2 ^ (8*j):=by rw[Nat.pow_mul]
theorem ztM (l:List UInt8) (i:Nat) (h:i < l.length):num l / 256 ^ i % 256=l[i].toNat:=by
  induction l generalizing i with
  | nil=>simp at h
  | cons b l ih =>
    have hb:b.toNat < 256:=b.toNat_lt;cases i with
    | zero=>simp only[num,Nat.pow_zero,Nat.div_one,List.getElem_cons_zero];omega
    | succ i =>
      simp only[num,List.getElem_cons_succ];rw[Nat.pow_succ,Nat.mul_comm (256 ^ i),<-Nat.div_div_eq_div_mul,show (b.toNat+256*num l) / 256=num l by omega];exact ih i (by simpa using h)
end Go.Proofs.Fd
