/- A part of the walk. -/
namespace Go.Proofs.Fd
abbrev zas:Nat:=115792089237316195423570985008687907853269984665640564039457584007913129639936
def p:Nat:=57896044618658097711785492504343953926634992332820282019728792003956564819949
def v4 (a0 a1 a2 a3:Nat):Nat:=a0+18446744073709551616*a1+340282366920938463463374607431768211456*a2+6277101735386680763835789423207666416102355444464034512896*a3
def u4 (a0 a1 a2 a3:Nat):Prop:=a0 < 18446744073709551616/\a1 < 18446744073709551616/\a2 < 18446744073709551616/\a3 < 18446744073709551616
theorem zmc {a0 a1 a2 a3:Nat} (h:u4 a0 a1 a2 a3):v4 a0 a1 a2 a3 < zas:=by
  obtain⟨h0,h1,h2,h3⟩:=h;unfold v4 zas;omega
theorem zmd (a0 a1 a2 a3 b0 b1 b2 b3:Nat) (ha:u4 a0 a1 a2 a3) (hb:u4 b0 b1 b2 b3) :
    v4 ((a0+b0+0) % 18446744073709551616) ((a1+b1+(a0+b0+0) / 18446744073709551616) % 18446744073709551616)
      ((a2+b2+(a1+b1+(a0+b0+0) / 18446744073709551616) / 18446744073709551616) % 18446744073709551616)
      ((a3+b3+(a2+b2+(a1+b1+(a0+b0+0) / 18446744073709551616) / 18446744073709551616) / 18446744073709551616) % 18446744073709551616)
    = (v4 a0 a1 a2 a3+v4 b0 b1 b2 b3) % 115792089237316195423570985008687907853269984665640564039457584007913129639936:=by
  obtain⟨h0,h1,h2,h3⟩:=ha;obtain⟨g0,g1,g2,g3⟩:=hb;unfold v4;omega
theorem zjB (a0 a1 a2 a3 b0 b1 b2 b3 k1 k2 k3 k4:Nat) (ha:u4 a0 a1 a2 a3) (hb:u4 b0 b1 b2 b3)
    (e1:k1=if a0 < b0+0 then 1 else 0) (e2:k2=if a1 < b1+k1 then 1 else 0) (e3:k3=if a2 < b2+k2 then 1 else 0) (e4:k4=if a3 < b3+k3 then 1 else 0) :
    v4 ((a0+18446744073709551616 - b0 - 0) % 18446744073709551616) ((a1+18446744073709551616 - b1 - k1) % 18446744073709551616)
      ((a2+18446744073709551616 - b2 - k2) % 18446744073709551616) ((a3+18446744073709551616 - b3 - k3) % 18446744073709551616)
    = (v4 a0 a1 a2 a3+115792089237316195423570985008687907853269984665640564039457584007913129639936 - v4 b0 b1 b2 b3) % 115792089237316195423570985008687907853269984665640564039457584007913129639936
    /\ (k4=1↔v4 a0 a1 a2 a3 < v4 b0 b1 b2 b3):=by
  obtain⟨h0,h1,h2,h3⟩:=ha;obtain⟨g0,g1,g2,g3⟩:=hb;have e1':(a0 < b0/\k1=1)\/(b0<=a0/\k1=0):=by split at e1 <;> omega
  have e2':(a1 < b1+k1/\k2=1)\/(b1+k1<=a1/\k2=0):=by split at e2 <;> omega
  have e3':(a2 < b2+k2/\k3=1)\/(b2+k2<=a2/\k3=0):=by split at e3 <;> omega
  have e4':(a3 < b3+k3/\k4=1)\/(b3+k3<=a3/\k4=0):=by split at e4 <;> omega
  clear e1 e2 e3 e4;unfold v4;have d0:(a0+18446744073709551616 - b0 - 0) % 18446744073709551616+b0=a0+18446744073709551616*k1:=by omega
  have d1:(a1+18446744073709551616 - b1 - k1) % 18446744073709551616+b1+k1=a1+18446744073709551616*k2:=by omega
  have d2:(a2+18446744073709551616 - b2 - k2) % 18446744073709551616+b2+k2=a2+18446744073709551616*k3:=by omega
  have d3:(a3+18446744073709551616 - b3 - k3) % 18446744073709551616+b3+k3=a3+18446744073709551616*k4:=by omega
  have r0:(a0+18446744073709551616 - b0 - 0) % 18446744073709551616 < 18446744073709551616:=Nat.mod_lt _ (by decide);have r1:(a1+18446744073709551616 - b1 - k1) % 18446744073709551616 < 18446744073709551616:=Nat.mod_lt _ (by decide);have r2:(a2+18446744073709551616 - b2 - k2) % 18446744073709551616 < 18446744073709551616:=Nat.mod_lt _ (by decide);have r3:(a3+18446744073709551616 - b3 - k3) % 18446744073709551616 < 18446744073709551616:=Nat.mod_lt _ (by decide);have hk:k4=0\/k4=1:=by omega
  clear e1' e2' e3' e4';generalize (a0+18446744073709551616 - b0 - 0) % 18446744073709551616=x0 at *;generalize (a1+18446744073709551616 - b1 - k1) % 18446744073709551616=x1 at *;generalize (a2+18446744073709551616 - b2 - k2) % 18446744073709551616=x2 at *;generalize (a3+18446744073709551616 - b3 - k3) % 18446744073709551616=x3 at *;have key:x0+18446744073709551616*x1+340282366920938463463374607431768211456*x2+6277101735386680763835789423207666416102355444464034512896*x3+(b0+18446744073709551616*b1+340282366920938463463374607431768211456*b2+6277101735386680763835789423207666416102355444464034512896*b3)
    = (a0+18446744073709551616*a1+340282366920938463463374607431768211456*a2+6277101735386680763835789423207666416102355444464034512896*a3)+115792089237316195423570985008687907853269984665640564039457584007913129639936*k4:=by omega
  have hX:x0+18446744073709551616*x1+340282366920938463463374607431768211456*x2+6277101735386680763835789423207666416102355444464034512896*x3 < 115792089237316195423570985008687907853269984665640564039457584007913129639936:=by omega
  generalize x0+18446744073709551616*x1+340282366920938463463374607431768211456*x2+6277101735386680763835789423207666416102355444464034512896*x3=X at *;have hB:b0+18446744073709551616*b1+340282366920938463463374607431768211456*b2+6277101735386680763835789423207666416102355444464034512896*b3 < 115792089237316195423570985008687907853269984665640564039457584007913129639936:=by omega
  have hA:a0+18446744073709551616*a1+340282366920938463463374607431768211456*a2+6277101735386680763835789423207666416102355444464034512896*a3 < 115792089237316195423570985008687907853269984665640564039457584007913129639936:=by omega
  generalize b0+18446744073709551616*b1+340282366920938463463374607431768211456*b2+6277101735386680763835789423207666416102355444464034512896*b3=B at *;generalize a0+18446744073709551616*a1+340282366920938463463374607431768211456*a2+6277101735386680763835789423207666416102355444464034512896*a3=A at *;clear d0 d1 d2 d3 r0 r1 r2 r3 h0 h1 h2 h3 g0 g1 g2 g3;rcases hk with rfl|rfl <;> constructor <;> omega
theorem zhh (a0 a1 a2 a3:Nat) (ha:u4 a0 a1 a2 a3) :
    (a3 < 9223372036854775807\/(a3=9223372036854775807/\(a2 < 18446744073709551615\/a1 < 18446744073709551615\/a0 < 18446744073709551597)))↔v4 a0 a1 a2 a3 < p:=by
  obtain⟨h0,h1,h2,h3⟩:=ha;unfold v4 p;constructor
  . intro h;rcases h with h|⟨h,h|h|h⟩ <;> omega
  . intro h
    by_cases c3:a3 < 9223372036854775807
    . exact .inl c3
    . have c3':a3=9223372036854775807:=by omega
      right;refine⟨c3',?_⟩;by_cases c2:a2 < 18446744073709551615
      . exact .inl c2
      . right
        by_cases c1:a1 < 18446744073709551615
        . exact .inl c1
        . right;omega
theorem zjC (q c d:Nat) (hq:q<=18446744073709551615*18446744073709551615) (hc:c < 18446744073709551616) (hd:d < 18446744073709551616) :
    ((q % 18446744073709551616+c+0) % 18446744073709551616+d+0) % 18446744073709551616=(q+c+d) % 18446744073709551616
    /\ (q / 18446744073709551616+(q % 18446744073709551616+c+0) / 18446744073709551616) < 18446744073709551616
    /\ (q / 18446744073709551616+(q % 18446744073709551616+c+0) / 18446744073709551616)+((q % 18446744073709551616+c+0) % 18446744073709551616+d+0) / 18446744073709551616=(q+c+d) / 18446744073709551616
    /\ (q+c+d) / 18446744073709551616 < 18446744073709551616:=by
  omega
theorem zhi {a b:Nat} (ha:a < 18446744073709551616) (hb:b < 18446744073709551616):a*b<=18446744073709551615*18446744073709551615 :=
  Nat.mul_le_mul (by omega) (by omega)
theorem zhj (h b:Nat) (hb:b<=1):(h*2) ||| b=h*2+b:=by
  have:b=0\/b=1:=by omega
  rcases this with rfl|rfl
  . simp
  . have:=Nat.two_pow_add_eq_or_of_lt (i:=1) (b:=1) (by omega) h
    rw[show h*2=2 ^ 1*h by omega];omega
theorem zgz (a0 a1 a2 a3 h:Nat) (ha:u4 a0 a1 a2 a3) (hh:h<=38) :
    (v4 a0 a1 a2 (a3 % 9223372036854775808)+v4 (19*(h*2+a3 / 9223372036854775808)) 0 0 0) % zas=v4 a0 a1 a2 (a3 % 9223372036854775808)+19*(h*2+a3 / 9223372036854775808)
    /\ v4 a0 a1 a2 (a3 % 9223372036854775808)+19*(h*2+a3 / 9223372036854775808) < 2*p
    /\ (v4 a0 a1 a2 (a3 % 9223372036854775808)+19*(h*2+a3 / 9223372036854775808)) % p=(v4 a0 a1 a2 a3+h*zas) % p:=by
  obtain⟨h0,h1,h2,h3⟩:=ha;refine⟨?_,?_,?_⟩
  . unfold v4 zas;omega
  . unfold v4 p;omega
  . have:v4 a0 a1 a2 a3+h*zas=v4 a0 a1 a2 (a3 % 9223372036854775808)+19*(h*2+a3 / 9223372036854775808)+p*(h*2+a3 / 9223372036854775808):=by
      unfold v4 p zas;omega
    rw[this,Nat.add_mul_mod_self_left]
theorem zjD {x q:Nat} (h1:q<=x) (h2:x < 2*q):x % q=x - q:=by
  rw[Nat.mod_eq_sub_mod h1,Nat.mod_eq_of_lt (by omega)]
theorem zfB:v4 18446744073709551597 18446744073709551615 18446744073709551615 9223372036854775807=p:=by decide
theorem zeO {c:Nat} (h1:¬c < p) (h2:c < 2*p):(c+zas - p) % zas=c % p:=by
  rw[zjD (by omega) h2];unfold p zas at *;omega
theorem zjE (w0 w1 w2 w3 w4 w5 w6 w7 l0 l1 l2 l3 k1 k2 k3 k4:Nat) (hw:u4 w0 w1 w2 w3) (hv:u4 w4 w5 w6 w7) (hl:u4 l0 l1 l2 l3)
    (e0:l0+18446744073709551616*k1=38*w4+w0+0) (e1:l1+18446744073709551616*k2=38*w5+w1+k1) (e2:l2+18446744073709551616*k3=38*w6+w2+k2) (e3:l3+18446744073709551616*k4=38*w7+w3+k3) :
    k4<=38/\(v4 l0 l1 l2 l3+k4*zas) % p=(v4 w0 w1 w2 w3+zas*v4 w4 w5 w6 w7) % p:=by
  have hA:=zmc hw;have hB:=zmc hv;have hL:=zmc hl;have key:v4 l0 l1 l2 l3+k4*zas=v4 w0 w1 w2 w3+38*v4 w4 w5 w6 w7:=by unfold v4 zas;omega
  refine⟨?_,?_⟩
  . unfold zas at *;omega
  . rw[key]
    have:v4 w0 w1 w2 w3+zas*v4 w4 w5 w6 w7=v4 w0 w1 w2 w3+38*v4 w4 w5 w6 w7+p*(2*v4 w4 w5 w6 w7):=by unfold p zas;omega
    rw[this,Nat.add_mul_mod_self_left]
theorem zc3 (x b0 b1 b2 b3 o0 o1 o2 o3 l0 l1 l2 l3 k0 k1 k2 k3:Nat)
    (e0:l0+18446744073709551616*k0=x*b0+o0+0) (e1:l1+18446744073709551616*k1=x*b1+o1+k0)
    (e2:l2+18446744073709551616*k2=x*b2+o2+k1) (e3:l3+18446744073709551616*k3=x*b3+o3+k2) :
    v4 l0 l1 l2 l3+zas*k3=x*v4 b0 b1 b2 b3+v4 o0 o1 o2 o3:=by
  have:x*v4 b0 b1 b2 b3=x*b0+18446744073709551616*(x*b1)+340282366920938463463374607431768211456*(x*b2)+6277101735386680763835789423207666416102355444464034512896*(x*b3):=by unfold v4;grind
  rw[this];generalize x*b0=q0 at *;generalize x*b1=q1 at *;generalize x*b2=q2 at *;generalize x*b3=q3 at *;unfold v4 zas;omega
theorem zme (a0 a1 a2 a3 B l00 l01 l02 l03 k0 l10 l11 l12 l13 k1 l20 l21 l22 l23 k2 l30 l31 l32 l33 k3:Nat)
    (r0:v4 l00 l01 l02 l03+zas*k0=a0*B+v4 0 0 0 0) (r1:v4 l10 l11 l12 l13+zas*k1=a1*B+v4 l01 l02 l03 k0)
    (r2:v4 l20 l21 l22 l23+zas*k2=a2*B+v4 l11 l12 l13 k1) (r3:v4 l30 l31 l32 l33+zas*k3=a3*B+v4 l21 l22 l23 k2) :
    v4 l00 l10 l20 l30+zas*v4 l31 l32 l33 k3=v4 a0 a1 a2 a3*B:=by
  have:v4 a0 a1 a2 a3*B=a0*B+18446744073709551616*(a1*B)+340282366920938463463374607431768211456*(a2*B)+6277101735386680763835789423207666416102355444464034512896*(a3*B):=by unfold v4;grind
  rw[this];generalize a0*B=q0 at *;generalize a1*B=q1 at *;generalize a2*B=q2 at *;generalize a3*B=q3 at *;unfold v4 zas at *;omega
theorem zjF {a b:Nat} (ha:a < p) (hb:b < p):((a+b) % zas+0*zas) % p=(a+b) % p:=by
  have:(a+b) % zas=a+b:=Nat.mod_eq_of_lt (by unfold p zas at *;omega);rw[this];simp
theorem zjG {a b:Nat} (hb:b < p) (h:a < b):((a+zas - b) % zas+p) % zas=(a+p - b) % p:=by
  have:(a+zas - b) % zas=a+zas - b:=Nat.mod_eq_of_lt (by unfold p zas at *;omega);rw[this,Nat.mod_eq_of_lt (a:=a+p - b) (by omega)];unfold p zas at *;omega
theorem zhk {a b:Nat} (ha:a < p) (h:¬a < b):(a+zas - b) % zas=(a+p - b) % p:=by
  have:(a+p - b) % p=a - b:=by
    rw[show a+p - b=(a - b)+p by omega,Nat.add_mod_right,Nat.mod_eq_of_lt (by omega)]
  rw[this];unfold p zas at *;omega
def ex:Nat->Nat
  | 0=>0
  | n+1=>2*ex n+(if n=252\/n=250 then 0 else 1)
theorem zov:ex 255=p - 2:=by decide +kernel
theorem zgA (A e q:Nat):(A ^ e % q)*(A ^ e % q) % q=A ^ (2*e) % q:=by
  rw[<-Nat.mul_mod,<-Nat.pow_add];congr 2;omega
theorem zeP (A e q:Nat):(A ^ e % q)*A % q=A ^ (e+1) % q:=by
  rw[Nat.pow_succ,Nat.mul_mod (A ^ e % q),Nat.mod_mod,<-Nat.mul_mod]
end Go.Proofs.Fd
namespace Go.Proofs.Fd
def num:List UInt8->Nat
  | []=>0
  | b::l=>b.toNat+256*num l
def za2:Nat->Nat->List UInt8
  | 0,_=>[]
  | k+1,n=>UInt8.ofNat (n % 256)::za2 k (n / 256)
theorem zeQ (k n:Nat):(za2 k n).length=k:=by
  induction k generalizing n with
  | zero=>rfl
  | succ k ih=>simp[za2,ih]
theorem zjH (k n:Nat):num (za2 k n)=n % 256 ^ k:=by
  induction k generalizing n with
  | zero=>simp[za2,num,Nat.mod_one]
  | succ k ih =>
    simp only[za2,num,ih];have:(UInt8.ofNat (n % 256)).toNat=n % 256:=by simp
    rw[this,Nat.pow_succ,Nat.mul_comm (256 ^ k) 256,Nat.mod_mul]
theorem zjI (l:List UInt8):za2 l.length (num l)=l:=by
  induction l with
  | nil=>rfl
  | cons b l ih =>
    have hb:b.toNat < 256:=b.toNat_lt;simp only[List.length_cons,za2,num];rw[show (b.toNat+256*num l) / 256=num l by omega,ih,show (b.toNat+256*num l) % 256=b.toNat by omega];simp
theorem zhl (l:List UInt8):num l < 256 ^ l.length:=by
  induction l with
  | nil=>simp[num]
  | cons b l ih =>
    have hb:b.toNat < 256:=b.toNat_lt;simp only[List.length_cons,num,Nat.pow_succ];omega
theorem zbk (l m:List UInt8):num (l++m)=num l+256 ^ l.length*num m:=by
  induction l with
  | nil=>simp[num]
  | cons b l ih =>
    simp only[List.cons_append,num,ih,List.length_cons,Nat.pow_succ];rw[Nat.mul_add,Nat.mul_comm (256 ^ l.length) 256,Nat.mul_assoc];omega
theorem zbr (j k n:Nat):za2 j (n % 256 ^ j)++za2 k (n / 256 ^ j)=za2 (j+k) n:=by
  induction j generalizing n with
  | zero=>simp[za2]
  | succ j ih =>
    have e1:n % 256 ^ (j+1) % 256=n % 256:=by
      rw[Nat.pow_succ,Nat.mul_comm,Nat.mod_mul_right_mod]
    have e2:n % 256 ^ (j+1) / 256=n / 256 % 256 ^ j:=by
      rw[Nat.pow_succ,Nat.mul_comm,Nat.mod_mul_right_div_self]
    have e3:n / 256 ^ (j+1)=n / 256 / 256 ^ j:=by
      rw[Nat.pow_succ,Nat.mul_comm,Nat.div_div_eq_div_mul]
    rw[Nat.succ_add];simp only[za2,List.cons_append,e1,e2,e3,ih]
theorem zhm (x0 x1 x2 x3 x4 x5 x6 x7:UInt8):num [x0,x1,x2,x3,x4,x5,x6,x7]=x0.toNat+256*x1.toNat+65536*x2.toNat+16777216*x3.toNat+4294967296*x4.toNat+1099511627776*x5.toNat+281474976710656*x6.toNat+72057594037927936*x7.toNat:=by
  simp only[num];omega
theorem zcc (l:List UInt8) (h:8<=l.length):num l=num (l.take 8)+18446744073709551616*num (l.drop 8):=by
  have e:num l=num (l.take 8++l.drop 8):=by rw[List.take_append_drop]
  rw[e,zbk,List.length_take,Nat.min_eq_left h]
theorem za5 (l:List UInt8):num (l.take 8) < 18446744073709551616:=by
  have h1:=zhl (l.take 8);have h2:(l.take 8).length<=8:=List.length_take_le _ _;have h3:256 ^ (l.take 8).length<=256 ^ 8:=Nat.pow_le_pow_right (by decide) h2;have h4:(256:Nat) ^ 8=18446744073709551616:=by decide
  omega
theorem zjJ (l:List UInt8) (h:l.length=32) :
    u4 (num (l.take 8)) (num ((l.drop 8).take 8)) (num ((l.drop 16).take 8)) (num ((l.drop 24).take 8))/\v4 (num (l.take 8)) (num ((l.drop 8).take 8)) (num ((l.drop 16).take 8)) (num ((l.drop 24).take 8))=num l:=by
  refine⟨⟨za5 _,za5 _,za5 _,za5 _⟩,?_⟩;have e1:=zcc l (by omega);have e2:=zcc (l.drop 8) (by simp[h]);have e3:=zcc (l.drop 16) (by simp[h]);have e4:=zcc (l.drop 24) (by simp[h]);have e5:num (l.drop 32)=0:=by rw[List.drop_of_length_le (by omega)];rfl
  simp only[List.drop_drop,Nat.reduceAdd] at e2 e3 e4;unfold v4;omega
end Go.Proofs.Fd
namespace Go.Proofs.Fd
def wd (l:List UInt8) (k j:Nat):Nat:=num (((l.take k).drop (8*j)).take 8)
theorem zmf (l:List UInt8) (j:Nat):wd l 0 j=0:=by simp[wd,num]
theorem zdR (l:List UInt8) (k j:Nat):wd l k j < 18446744073709551616:=za5 _
theorem zdS (l:List UInt8) (k:Nat) (h:k < l.length):l.take (k+1)=l.take k++[l[k]] :=
  List.take_succ_eq_append_getElem h
theorem zjK (l:List UInt8) (k j:Nat) (h:k < l.length) (hj:k / 8≠j):wd l (k+1) j=wd l k j:=by
  unfold wd;rw[zdS l k h];have hl:(l.take k).length=k:=by rw[List.length_take];omega
  by_cases hlt:8*j<=k
  . rw[List.drop_append_of_le_length (by omega),List.take_append_of_le_length (by rw[List.length_drop];omega)]
  . rw[List.drop_of_length_le (by rw[List.length_append,hl];simp;omega),List.drop_of_length_le (by omega)]
theorem zmg (l:List UInt8) (k j r:Nat) (h:k < l.length) (hj:k / 8=j) (hr:k % 8=r):wd l (k+1) j=wd l k j+2 ^ (r*8)*l[k].toNat:=by
  unfold wd;rw[zdS l k h];have hl:(l.take k).length=k:=by rw[List.length_take];omega
  have hd:((l.take k).drop (8*j)).length=r:=by rw[List.length_drop,hl];omega
  have t1:((l.take k).drop (8*j)).take 8=(l.take k).drop (8*j):=List.take_of_length_le (by omega);have t2:((l.take k).drop (8*j)++[l[k]]).take 8=(l.take k).drop (8*j)++[l[k]]:=List.take_of_length_le (by rw[List.length_append,hd,List.length_singleton];omega);rw[List.drop_append_of_le_length (by omega),t1,t2,zbk,hd];have e:256 ^ r=2 ^ (r*8):=by rw[show (256:Nat)=2 ^ 8 by decide,<-Nat.pow_mul,Nat.mul_comm]
  rw[e];simp only[num,Nat.mul_zero,Nat.add_zero]
theorem zjL (l:List UInt8) (k j r:Nat) (h:k < l.length) (hj:k / 8=j) (hr:k % 8=r):wd l k j < 2 ^ (r*8):=by
  unfold wd;have hl:(l.take k).length=k:=by rw[List.length_take];omega
  have hd:((l.take k).drop (8*j)).length=r:=by rw[List.length_drop,hl];omega
  have t1:((l.take k).drop (8*j)).take 8=(l.take k).drop (8*j):=List.take_of_length_le (by omega);have:=zhl ((l.take k).drop (8*j));rw[hd] at this;rw[t1];have e:256 ^ r=2 ^ (r*8):=by rw[show (256:Nat)=2 ^ 8 by decide,<-Nat.pow_mul,Nat.mul_comm]
  omega
theorem zaN (l:List UInt8):num l=num (l.take 8)+18446744073709551616*num (l.drop 8):=by
  by_cases h:8<=l.length
  . exact zcc l h
  . rw[List.take_of_length_le (by omega),List.drop_of_length_le (by omega)];simp[num]
theorem zow (l:List UInt8) (h:l.length<=64) :
    v4 (wd l l.length 0) (wd l l.length 1) (wd l l.length 2) (wd l l.length 3)+zas*v4 (wd l l.length 4) (wd l l.length 5) (wd l l.length 6) (wd l l.length 7)=num l:=by
  unfold wd;simp only[List.take_length];have e0:=zaN l;have e1:=zaN (l.drop 8);have e2:=zaN (l.drop 16);have e3:=zaN (l.drop 24);have e4:=zaN (l.drop 32);have e5:=zaN (l.drop 40);have e6:=zaN (l.drop 48);have e7:=zaN (l.drop 56);have e8:num (l.drop 64)=0:=by rw[List.drop_of_length_le (by omega)];rfl
  simp only[List.drop_drop,Nat.reduceAdd] at e1 e2 e3 e4 e5 e6 e7;simp only[Nat.reduceMul,Nat.mul_zero,List.drop_zero];unfold v4 zas;omega
end Go.Proofs.Fd
namespace Go.Proofs.Fd
def b8 (a:Nat):List UInt8 :=
  [UInt8.ofNat (a % 256),UInt8.ofNat (a / 256 % 256),UInt8.ofNat (a / 65536 % 256),UInt8.ofNat (a / 16777216 % 256),
   UInt8.ofNat (a / 4294967296 % 256),UInt8.ofNat (a / 1099511627776 % 256),UInt8.ofNat (a / 281474976710656 % 256),UInt8.ofNat (a / 72057594037927936 % 256)]
theorem zmh (a:Nat):b8 a=za2 8 a:=by
  simp only[b8,za2,Nat.div_div_eq_div_mul,Nat.reduceMul]
theorem zox (a0 a1 a2 a3:Nat) (h:u4 a0 a1 a2 a3):za2 32 (v4 a0 a1 a2 a3)=b8 a0++(b8 a1++(b8 a2++b8 a3)):=by
  obtain⟨h0,h1,h2,h3⟩:=h;have e:(256:Nat) ^ 8=18446744073709551616:=by decide
  have s0:=zbr 8 24 (v4 a0 a1 a2 a3);have s1:=zbr 8 16 (v4 a0 a1 a2 a3 / 256 ^ 8);have s2:=zbr 8 8 (v4 a0 a1 a2 a3 / 256 ^ 8 / 256 ^ 8);rw[e] at s0 s1 s2;have d1:v4 a0 a1 a2 a3 / 18446744073709551616=a1+18446744073709551616*(a2+18446744073709551616*a3):=by unfold v4;omega
  have d2:v4 a0 a1 a2 a3 / 18446744073709551616 / 18446744073709551616=a2+18446744073709551616*a3:=by rw[d1];omega
  have d3:v4 a0 a1 a2 a3 / 18446744073709551616 / 18446744073709551616 / 18446744073709551616=a3:=by rw[d2];omega
  have m0:v4 a0 a1 a2 a3 % 18446744073709551616=a0:=by unfold v4;omega
  have m1:v4 a0 a1 a2 a3 / 18446744073709551616 % 18446744073709551616=a1:=by rw[d1];omega
  have m2:v4 a0 a1 a2 a3 / 18446744073709551616 / 18446744073709551616 % 18446744073709551616=a2:=by rw[d2];omega
  rw[m0] at s0;rw[m1] at s1;rw[m2,d3] at s2;simp only[zmh];rw[s2,s1,s0]
end Go.Proofs.Fd
namespace Go.Proofs.Fd
def enc (n:Nat):ByteArray:=⟨(za2 32 n).toArray⟩
theorem zby (n:Nat):(enc n).size=32:=by
  show (za2 32 n).toArray.size=32;rw[List.size_toArray,zeQ]
theorem zjM:(256:Nat) ^ 32=zas:=by decide
theorem zcd {n:Nat} (h:n < zas):num (enc n).data.toList=n:=by
  show num (za2 32 n)=n;rw[zjH,zjM,Nat.mod_eq_of_lt h]
theorem zr1:p < zas:=by decide
theorem zak {n:Nat} (h:n < p):num (enc n).data.toList=n:=zcd (Nat.lt_trans h zr1)
theorem zwi {a b:Nat} (ha:a < zas) (hb:b < zas) (h:enc a=enc b):a=b:=by
  rw[<-zcd ha,h,zcd hb]
theorem zmi {s:ByteArray} (h:s.size=32):enc (num s.data.toList)=s:=by
  have hl:s.data.toList.length=32:=by simpa using h
  have:=zjI s.data.toList;rw[hl] at this;unfold enc;rw[this]
def chk (s:ByteArray):Int:=if s.size=32 then (if num s.data.toList < p then 0 else 1) else 3
theorem za6 {n:Nat} (h:n < p):chk (enc n)=0:=by
  unfold chk;rw[if_pos (zby n),if_pos (by rw[zak h];exact h)]
theorem zaD {s:ByteArray} (h:chk s=0):s.size=32/\num s.data.toList < p:=by
  unfold chk at h
  split at h
  . split at h
    . exact⟨by assumption,by assumption⟩
    . cases h
  . cases h
def zal:List ByteArray->Int
  | []=>0
  | s::r=>if chk s=0 then zal r else chk s
def zam (l:List ByteArray):Int:=if zal l=0 then (if l.length<=100 then 0 else 2) else zal l
theorem zb3 (l:List ByteArray) (k:Nat) (h:k < l.length) (h0:zal (l.take k)=0):zal (l.take (k+1))=chk l[k]:=by
  induction l generalizing k with
  | nil=>simp at h
  | cons s r ih =>
    cases k with
    | zero=>simp[zal];exact fun h=>h.symm
    | succ k =>
      simp only[List.take_succ_cons,zal] at h0 ⊢
      split at h0
      . rename_i hs
        rw[if_pos hs]
        simpa using ih k (by simpa using h) h0
      . rename_i hs;exact absurd h0 hs
theorem zdT (l:List ByteArray) (k:Nat) (h:k < l.length) (h0:zal (l.take k)=0) (h1:¬chk l[k]=0):zal l=chk l[k]:=by
  induction l generalizing k with
  | nil=>simp at h
  | cons s r ih =>
    cases k with
    | zero=>simp only[List.getElem_cons_zero] at h1 ⊢;simp only[zal];rw[if_neg h1]
    | succ k =>
      simp only[List.take_succ_cons,zal] at h0 ⊢
      split at h0
      . rename_i hs
        rw[if_pos hs]
        simpa using ih k (by simpa using h) h0 (by simpa using h1)
      . rename_i hs;exact absurd h0 hs
theorem zcH {l:List ByteArray} (h:zal l=0):∀s∈l,chk s=0:=by
  induction l with
  | nil=>simp
  | cons s r ih =>
    simp only[zal] at h
    split at h
    . rename_i hs
      intro t ht;rcases List.mem_cons.1 ht with rfl|ht
      . exact hs
      . exact ih h t ht
    . rename_i hs;exact absurd h hs
theorem zbZ {l:List ByteArray} (h:zam l=0):zal l=0/\l.length<=100:=by
  unfold zam at h
  split at h
  . split at h
    . exact⟨by assumption,by assumption⟩
    . cases h
  . rename_i hs;exact absurd h hs
end Go.Proofs.Fd
namespace Go.Proofs.Fd
def zbz (l:List ByteArray):Nat:=l.foldl (fun a s=>(a+num s.data.toList) % p) 0
def zay (a:Nat) (l:List ByteArray):Nat:=l.foldl (fun a s=>(a*num s.data.toList) % p) a
theorem zce (l:List ByteArray) (k:Nat) (h:k < l.length):zbz (l.take (k+1))=(zbz (l.take k)+num l[k].data.toList) % p:=by
  unfold zbz;rw[List.take_succ_eq_append_getElem h,List.foldl_append];rfl
theorem zbN (a:Nat) (l:List ByteArray) (k:Nat) (h:k < l.length):zay a (l.take (k+1))=(zay a (l.take k)*num l[k].data.toList) % p:=by
  unfold zay;rw[List.take_succ_eq_append_getElem h,List.foldl_append];rfl
theorem zmj:0 < p:=by decide
theorem zjN (l:List ByteArray):zbz l < p:=by
  rcases List.eq_nil_or_concat l with rfl|⟨m,b,rfl⟩
  . exact zmj
  . unfold zbz;rw[List.concat_eq_append,List.foldl_append];exact Nat.mod_lt _ zmj
end Go.Proofs.Fd
namespace Go.Proofs.Fd
def pm:Nat->Nat
  | 0=>1
  | n+1=>if n=252\/n=250 then pm n*pm n % p else pm n*pm n % p*2 % p
theorem zr2 (a b:Nat):((0+a) % p+b) % p=(a+b) % p:=by
  rw[Nat.zero_add,Nat.add_mod (a % p),Nat.mod_mod,<-Nat.add_mod]
theorem sum3 (a b c:Nat):(((0+a) % p+b) % p+c) % p=(a+b+c) % p:=by
  rw[zr2,Nat.add_mod ((a+b) % p),Nat.mod_mod,<-Nat.add_mod]
end Go.Proofs.Fd
namespace Go.Proofs.Fd
end Go.Proofs.Fd
namespace Go.Proofs.Fd
end Go.Proofs.Fd
namespace Go.Proofs.Fd
def pw:Nat->Nat->Nat->Nat->Nat
  | 0,_,_,N=>1 % N
  | f+1,a,e,N=>if e % 2=1 then a*pw f (a*a % N) (e / 2) N % N else pw f (a*a % N) (e / 2) N
theorem zqs (f a e N:Nat) (h:e < 2 ^ f):pw f a e N=a ^ e % N:=by
  induction f generalizing a e with
  | zero =>
    have:e=0:=by simpa using h
    subst this;rfl
  | succ f ih =>
    have he:e / 2 < 2 ^ f:=by rw[Nat.pow_succ] at h;omega
    have hs:(a*a % N) ^ (e / 2) % N=a ^ (2*(e / 2)) % N:=by
      rw[<-Nat.pow_mod,<-Nat.pow_two,<-Nat.pow_mul]
    show (if e % 2=1 then a*pw f (a*a % N) (e / 2) N % N else pw f (a*a % N) (e / 2) N)=_;rw[ih _ _ he,hs]
    split
    . rename_i ho
      rw[Nat.mul_mod,Nat.mod_mod,<-Nat.mul_mod,<-Nat.pow_succ'];congr 2;omega
    . congr 2;omega
end Go.Proofs.Fd
namespace Go.Proofs.Fd
def cy (d:Nat->Int):Nat->Int
  | 0=>0
  | i+1=>(d i+cy d i) / 67108864
def md (d:Nat->Int) (i:Nat):Int:=(d i+cy d i) % 67108864
def st (d:Nat->Int) (k j:Nat):Int:=if j < k then md d j else if j=k then d j+cy d j else d j
def ev (d:Nat->Int) (j:Nat):Int:=st d 9 j
end Go.Proofs.Fd
namespace Go.Proofs.Fd
def can (d:Nat->Int):Prop:=∀j,j < 10->0<=d j/\d j < 67108864
def fo (d:Nat->Int) (j:Nat):Int :=
  if j=0 then ev d 0+19*(ev d 9 / 2097152) else if j=9 then ev d 9 - ev d 9 / 2097152*2097152 else ev d j
end Go.Proofs.Fd
namespace Go.Proofs.Fd
def shf (c:Int) (b:Nat->Int) (i j:Nat):Int:=if i<=j/\j < i+10 then c*b (j - i) else 0
def pr (a b:Nat->Int):Nat->Nat->Int
  | 0,_=>0
  | i+1,j=>pr a b i j+shf (a i) b i j
def wf (a b:Nat->Int) (i k j:Nat):Int:=pr a b i j+(if i<=j/\j < i+k then a i*b (j - i) else 0)
def zr3 (a b:Nat->Int) (j:Nat):Int:=st (pr a b 10) 19 j
def tm (a b:Nat->Int) (k j:Nat):Int:=if j < k then zr3 a b j+608*zr3 a b (10+j) else 0
end Go.Proofs.Fd
namespace Go.Proofs.Fd
def bd (n k j:Nat):Int:=((n % 2 ^ k / 256 ^ j % 256:Nat):Int)
theorem zoz (n q j r:Nat) (hr:r < q):n / 2 ^ (q*j) % 2 ^ q / 2 ^ r % 2=n / 2 ^ (q*j+r) % 2:=by
  have e:2 ^ q=2 ^ r*2 ^ (q - r):=by rw[<-Nat.pow_add];congr 1;omega
  rw[e,Nat.mod_mul_right_div_self,Nat.mod_mod_of_dvd _ ⟨2 ^ (q - r - 1),by rw[<-Nat.pow_succ'];congr 1;omega⟩,Nat.div_div_eq_div_mul,<-Nat.pow_add]
theorem pow8 (j:Nat):256 ^ j=2 ^ (8*j):=by rw[Nat.pow_mul]
theorem zoA (l:List UInt8) (i:Nat) (h:i < l.length):num l / 256 ^ i % 256=l[i].toNat:=by
  induction l generalizing i with
  | nil=>simp at h
  | cons b l ih =>
    have hb:b.toNat < 256:=b.toNat_lt;cases i with
    | zero=>simp only[num,Nat.pow_zero,Nat.div_one,List.getElem_cons_zero];omega
    | succ i =>
      simp only[num,List.getElem_cons_succ];rw[Nat.pow_succ,Nat.mul_comm (256 ^ i),<-Nat.div_div_eq_div_mul,show (b.toNat+256*num l) / 256=num l by omega];exact ih i (by simpa using h)
end Go.Proofs.Fd
