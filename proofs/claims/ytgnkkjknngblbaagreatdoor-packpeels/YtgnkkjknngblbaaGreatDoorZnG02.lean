/- Plain arithmetic modulo 2^255 - 19,in words,digits and bytes;primes by certificates. No program is named here. -/
/- Plain arithmetic of numbers in four words of 64 bits,modulo 2^255 - 19: no program is named here. -/
namespace Go.Proofs.Fd
abbrev W256:Nat:=115792089237316195423570985008687907853269984665640564039457584007913129639936
def p:Nat:=57896044618658097711785492504343953926634992332820282019728792003956564819949
def v4 (a0 a1 a2 a3:Nat):Nat:=a0+18446744073709551616*a1+340282366920938463463374607431768211456*a2+6277101735386680763835789423207666416102355444464034512896*a3
def u4 (a0 a1 a2 a3:Nat):Prop:=a0 < 18446744073709551616∧a1 < 18446744073709551616∧a2 < 18446744073709551616∧a3 < 18446744073709551616
theorem v4_lt {a0 a1 a2 a3:Nat} (h:u4 a0 a1 a2 a3):v4 a0 a1 a2 a3 < W256:=by
  obtain⟨h0,h1,h2,h3⟩:=h
  unfold v4 W256;omega
theorem sum_val (a0 a1 a2 a3 b0 b1 b2 b3:Nat) (ha:u4 a0 a1 a2 a3) (hb:u4 b0 b1 b2 b3) :
    v4 ((a0+b0+0) % 18446744073709551616) ((a1+b1+(a0+b0+0) / 18446744073709551616) % 18446744073709551616)
      ((a2+b2+(a1+b1+(a0+b0+0) / 18446744073709551616) / 18446744073709551616) % 18446744073709551616)
      ((a3+b3+(a2+b2+(a1+b1+(a0+b0+0) / 18446744073709551616) / 18446744073709551616) / 18446744073709551616) % 18446744073709551616)
    = (v4 a0 a1 a2 a3+v4 b0 b1 b2 b3) % 115792089237316195423570985008687907853269984665640564039457584007913129639936:=by
  obtain⟨h0,h1,h2,h3⟩:=ha
  obtain⟨g0,g1,g2,g3⟩:=hb
  unfold v4
  omega
theorem less_val (a0 a1 a2 a3 b0 b1 b2 b3 k1 k2 k3 k4:Nat) (ha:u4 a0 a1 a2 a3) (hb:u4 b0 b1 b2 b3)
    (e1:k1=if a0 < b0+0 then 1 else 0) (e2:k2=if a1 < b1+k1 then 1 else 0) (e3:k3=if a2 < b2+k2 then 1 else 0) (e4:k4=if a3 < b3+k3 then 1 else 0) :
    v4 ((a0+18446744073709551616 - b0 - 0) % 18446744073709551616) ((a1+18446744073709551616 - b1 - k1) % 18446744073709551616)
      ((a2+18446744073709551616 - b2 - k2) % 18446744073709551616) ((a3+18446744073709551616 - b3 - k3) % 18446744073709551616)
    = (v4 a0 a1 a2 a3+115792089237316195423570985008687907853269984665640564039457584007913129639936 - v4 b0 b1 b2 b3) % 115792089237316195423570985008687907853269984665640564039457584007913129639936
    ∧ (k4=1↔v4 a0 a1 a2 a3 < v4 b0 b1 b2 b3):=by
  obtain⟨h0,h1,h2,h3⟩:=ha
  obtain⟨g0,g1,g2,g3⟩:=hb
  have e1':(a0 < b0∧k1=1)∨(b0≤a0∧k1=0):=by split at e1 <;> omega
  have e2':(a1 < b1+k1∧k2=1)∨(b1+k1≤a1∧k2=0):=by split at e2 <;> omega
  have e3':(a2 < b2+k2∧k3=1)∨(b2+k2≤a2∧k3=0):=by split at e3 <;> omega
  have e4':(a3 < b3+k3∧k4=1)∨(b3+k3≤a3∧k4=0):=by split at e4 <;> omega
  clear e1 e2 e3 e4
  unfold v4
  have d0:(a0+18446744073709551616 - b0 - 0) % 18446744073709551616+b0=a0+18446744073709551616*k1:=by omega
  have d1:(a1+18446744073709551616 - b1 - k1) % 18446744073709551616+b1+k1=a1+18446744073709551616*k2:=by omega
  have d2:(a2+18446744073709551616 - b2 - k2) % 18446744073709551616+b2+k2=a2+18446744073709551616*k3:=by omega
  have d3:(a3+18446744073709551616 - b3 - k3) % 18446744073709551616+b3+k3=a3+18446744073709551616*k4:=by omega
  have r0:(a0+18446744073709551616 - b0 - 0) % 18446744073709551616 < 18446744073709551616:=Nat.mod_lt _ (by decide)
  have r1:(a1+18446744073709551616 - b1 - k1) % 18446744073709551616 < 18446744073709551616:=Nat.mod_lt _ (by decide)
  have r2:(a2+18446744073709551616 - b2 - k2) % 18446744073709551616 < 18446744073709551616:=Nat.mod_lt _ (by decide)
  have r3:(a3+18446744073709551616 - b3 - k3) % 18446744073709551616 < 18446744073709551616:=Nat.mod_lt _ (by decide)
  have hk:k4=0∨k4=1:=by omega
  clear e1' e2' e3' e4'
  generalize (a0+18446744073709551616 - b0 - 0) % 18446744073709551616=x0 at *
  generalize (a1+18446744073709551616 - b1 - k1) % 18446744073709551616=x1 at *
  generalize (a2+18446744073709551616 - b2 - k2) % 18446744073709551616=x2 at *
  generalize (a3+18446744073709551616 - b3 - k3) % 18446744073709551616=x3 at *
  have key:x0+18446744073709551616*x1+340282366920938463463374607431768211456*x2+6277101735386680763835789423207666416102355444464034512896*x3+(b0+18446744073709551616*b1+340282366920938463463374607431768211456*b2+6277101735386680763835789423207666416102355444464034512896*b3)
    = (a0+18446744073709551616*a1+340282366920938463463374607431768211456*a2+6277101735386680763835789423207666416102355444464034512896*a3)+115792089237316195423570985008687907853269984665640564039457584007913129639936*k4:=by omega
  have hX:x0+18446744073709551616*x1+340282366920938463463374607431768211456*x2+6277101735386680763835789423207666416102355444464034512896*x3 < 115792089237316195423570985008687907853269984665640564039457584007913129639936:=by omega
  generalize x0+18446744073709551616*x1+340282366920938463463374607431768211456*x2+6277101735386680763835789423207666416102355444464034512896*x3=X at *
  have hB:b0+18446744073709551616*b1+340282366920938463463374607431768211456*b2+6277101735386680763835789423207666416102355444464034512896*b3 < 115792089237316195423570985008687907853269984665640564039457584007913129639936:=by omega
  have hA:a0+18446744073709551616*a1+340282366920938463463374607431768211456*a2+6277101735386680763835789423207666416102355444464034512896*a3 < 115792089237316195423570985008687907853269984665640564039457584007913129639936:=by omega
  generalize b0+18446744073709551616*b1+340282366920938463463374607431768211456*b2+6277101735386680763835789423207666416102355444464034512896*b3=B at *
  generalize a0+18446744073709551616*a1+340282366920938463463374607431768211456*a2+6277101735386680763835789423207666416102355444464034512896*a3=A at *
  clear d0 d1 d2 d3 r0 r1 r2 r3 h0 h1 h2 h3 g0 g1 g2 g3
  rcases hk with rfl|rfl <;> constructor <;> omega
theorem below_val (a0 a1 a2 a3:Nat) (ha:u4 a0 a1 a2 a3) :
    (a3 < 9223372036854775807∨(a3=9223372036854775807∧(a2 < 18446744073709551615∨a1 < 18446744073709551615∨a0 < 18446744073709551597)))↔v4 a0 a1 a2 a3 < p:=by
  obtain⟨h0,h1,h2,h3⟩:=ha
  unfold v4 p
  constructor
  · intro h;rcases h with h|⟨h,h|h|h⟩ <;> omega
  · intro h
    by_cases c3:a3 < 9223372036854775807
    · exact .inl c3
    · have c3':a3=9223372036854775807:=by omega
      right;refine⟨c3',?_⟩
      by_cases c2:a2 < 18446744073709551615
      · exact .inl c2
      · right
        by_cases c1:a1 < 18446744073709551615
        · exact .inl c1
        · right;omega
theorem step_val (q c d:Nat) (hq:q≤18446744073709551615*18446744073709551615) (hc:c < 18446744073709551616) (hd:d < 18446744073709551616) :
    ((q % 18446744073709551616+c+0) % 18446744073709551616+d+0) % 18446744073709551616=(q+c+d) % 18446744073709551616
    ∧ (q / 18446744073709551616+(q % 18446744073709551616+c+0) / 18446744073709551616) < 18446744073709551616
    ∧ (q / 18446744073709551616+(q % 18446744073709551616+c+0) / 18446744073709551616)+((q % 18446744073709551616+c+0) % 18446744073709551616+d+0) / 18446744073709551616=(q+c+d) / 18446744073709551616
    ∧ (q+c+d) / 18446744073709551616 < 18446744073709551616:=by
  omega
theorem mul_words {a b:Nat} (ha:a < 18446744073709551616) (hb:b < 18446744073709551616):a*b≤18446744073709551615*18446744073709551615 :=
  Nat.mul_le_mul (by omega) (by omega)
theorem settle_or (h b:Nat) (hb:b≤1):(h*2) ||| b=h*2+b:=by
  have:b=0∨b=1:=by omega
  rcases this with rfl|rfl
  · simp
  · have:=Nat.two_pow_add_eq_or_of_lt (i:=1) (b:=1) (by omega) h
    rw[show h*2=2 ^ 1*h by omega];omega
theorem settle_val (a0 a1 a2 a3 h:Nat) (ha:u4 a0 a1 a2 a3) (hh:h≤38) :
    (v4 a0 a1 a2 (a3 % 9223372036854775808)+v4 (19*(h*2+a3 / 9223372036854775808)) 0 0 0) % W256=v4 a0 a1 a2 (a3 % 9223372036854775808)+19*(h*2+a3 / 9223372036854775808)
    ∧ v4 a0 a1 a2 (a3 % 9223372036854775808)+19*(h*2+a3 / 9223372036854775808) < 2*p
    ∧ (v4 a0 a1 a2 (a3 % 9223372036854775808)+19*(h*2+a3 / 9223372036854775808)) % p=(v4 a0 a1 a2 a3+h*W256) % p:=by
  obtain⟨h0,h1,h2,h3⟩:=ha
  refine⟨?_,?_,?_⟩
  · unfold v4 W256;omega
  · unfold v4 p;omega
  · have:v4 a0 a1 a2 a3+h*W256=v4 a0 a1 a2 (a3 % 9223372036854775808)+19*(h*2+a3 / 9223372036854775808)+p*(h*2+a3 / 9223372036854775808):=by
      unfold v4 p W256;omega
    rw[this,Nat.add_mul_mod_self_left]
theorem mod_once {x q:Nat} (h1:q≤x) (h2:x < 2*q):x % q=x - q:=by
  rw[Nat.mod_eq_sub_mod h1,Nat.mod_eq_of_lt (by omega)]
theorem v4_prime:v4 18446744073709551597 18446744073709551615 18446744073709551615 9223372036854775807=p:=by decide
theorem settle_last {c:Nat} (h1:¬c < p) (h2:c < 2*p):(c+W256 - p) % W256=c % p:=by
  rw[mod_once (by omega) h2]
  unfold p W256 at *;omega
theorem fold_val (w0 w1 w2 w3 w4 w5 w6 w7 l0 l1 l2 l3 k1 k2 k3 k4:Nat) (hw:u4 w0 w1 w2 w3) (hv:u4 w4 w5 w6 w7) (hl:u4 l0 l1 l2 l3)
    (e0:l0+18446744073709551616*k1=38*w4+w0+0) (e1:l1+18446744073709551616*k2=38*w5+w1+k1) (e2:l2+18446744073709551616*k3=38*w6+w2+k2) (e3:l3+18446744073709551616*k4=38*w7+w3+k3) :
    k4≤38∧(v4 l0 l1 l2 l3+k4*W256) % p=(v4 w0 w1 w2 w3+W256*v4 w4 w5 w6 w7) % p:=by
  have hA:=v4_lt hw
  have hB:=v4_lt hv
  have hL:=v4_lt hl
  have key:v4 l0 l1 l2 l3+k4*W256=v4 w0 w1 w2 w3+38*v4 w4 w5 w6 w7:=by unfold v4 W256;omega
  refine⟨?_,?_⟩
  · unfold W256 at *;omega
  · rw[key]
    have:v4 w0 w1 w2 w3+W256*v4 w4 w5 w6 w7=v4 w0 w1 w2 w3+38*v4 w4 w5 w6 w7+p*(2*v4 w4 w5 w6 w7):=by unfold p W256;omega
    rw[this,Nat.add_mul_mod_self_left]
theorem row_val (x b0 b1 b2 b3 o0 o1 o2 o3 l0 l1 l2 l3 k0 k1 k2 k3:Nat)
    (e0:l0+18446744073709551616*k0=x*b0+o0+0) (e1:l1+18446744073709551616*k1=x*b1+o1+k0)
    (e2:l2+18446744073709551616*k2=x*b2+o2+k1) (e3:l3+18446744073709551616*k3=x*b3+o3+k2) :
    v4 l0 l1 l2 l3+W256*k3=x*v4 b0 b1 b2 b3+v4 o0 o1 o2 o3:=by
  have:x*v4 b0 b1 b2 b3=x*b0+18446744073709551616*(x*b1)+340282366920938463463374607431768211456*(x*b2)+6277101735386680763835789423207666416102355444464034512896*(x*b3):=by unfold v4;grind
  rw[this]
  generalize x*b0=q0 at *
  generalize x*b1=q1 at *
  generalize x*b2=q2 at *
  generalize x*b3=q3 at *
  unfold v4 W256;omega
theorem mul_val (a0 a1 a2 a3 B l00 l01 l02 l03 k0 l10 l11 l12 l13 k1 l20 l21 l22 l23 k2 l30 l31 l32 l33 k3:Nat)
    (r0:v4 l00 l01 l02 l03+W256*k0=a0*B+v4 0 0 0 0) (r1:v4 l10 l11 l12 l13+W256*k1=a1*B+v4 l01 l02 l03 k0)
    (r2:v4 l20 l21 l22 l23+W256*k2=a2*B+v4 l11 l12 l13 k1) (r3:v4 l30 l31 l32 l33+W256*k3=a3*B+v4 l21 l22 l23 k2) :
    v4 l00 l10 l20 l30+W256*v4 l31 l32 l33 k3=v4 a0 a1 a2 a3*B:=by
  have:v4 a0 a1 a2 a3*B=a0*B+18446744073709551616*(a1*B)+340282366920938463463374607431768211456*(a2*B)+6277101735386680763835789423207666416102355444464034512896*(a3*B):=by unfold v4;grind
  rw[this]
  generalize a0*B=q0 at *
  generalize a1*B=q1 at *
  generalize a2*B=q2 at *
  generalize a3*B=q3 at *
  unfold v4 W256 at *;omega
theorem add_once {a b:Nat} (ha:a < p) (hb:b < p):((a+b) % W256+0*W256) % p=(a+b) % p:=by
  have:(a+b) % W256=a+b:=Nat.mod_eq_of_lt (by unfold p W256 at *;omega)
  rw[this];simp
theorem sub_lent {a b:Nat} (hb:b < p) (h:a < b):((a+W256 - b) % W256+p) % W256=(a+p - b) % p:=by
  have:(a+W256 - b) % W256=a+W256 - b:=Nat.mod_eq_of_lt (by unfold p W256 at *;omega)
  rw[this,Nat.mod_eq_of_lt (a:=a+p - b) (by omega)]
  unfold p W256 at *;omega
theorem sub_plain {a b:Nat} (ha:a < p) (h:¬a < b):(a+W256 - b) % W256=(a+p - b) % p:=by
  have:(a+p - b) % p=a - b:=by
    rw[show a+p - b=(a - b)+p by omega,Nat.add_mod_right,Nat.mod_eq_of_lt (by omega)]
  rw[this];unfold p W256 at *;omega
def ex:Nat→Nat
  | 0=>0
  | n+1=>2*ex n+(if n=252∨n=250 then 0 else 1)
theorem ex_all:ex 255=p - 2:=by decide +kernel
theorem pow_sq_mod (A e q:Nat):(A ^ e % q)*(A ^ e % q) % q=A ^ (2*e) % q:=by
  rw[←Nat.mul_mod,←Nat.pow_add];congr 2;omega
theorem pow_mul_mod (A e q:Nat):(A ^ e % q)*A % q=A ^ (e+1) % q:=by
  rw[Nat.pow_succ,Nat.mul_mod (A ^ e % q),Nat.mod_mod,←Nat.mul_mod]
end Go.Proofs.Fd
/- Plain facts on bytes and numbers: the lowest byte first. -/
namespace Go.Proofs.Fd
def num:List UInt8→Nat
  | []=>0
  | b::l=>b.toNat+256*num l
def byts:Nat→Nat→List UInt8
  | 0,_=>[]
  | k+1,n=>UInt8.ofNat (n % 256)::byts k (n / 256)
theorem byts_length (k n:Nat):(byts k n).length=k:=by
  induction k generalizing n with
  | zero=>rfl
  | succ k ih=>simp[byts,ih]
theorem num_byts (k n:Nat):num (byts k n)=n % 256 ^ k:=by
  induction k generalizing n with
  | zero=>simp[byts,num,Nat.mod_one]
  | succ k ih =>
    simp only[byts,num,ih]
    have:(UInt8.ofNat (n % 256)).toNat=n % 256:=by simp
    rw[this,Nat.pow_succ,Nat.mul_comm (256 ^ k) 256,Nat.mod_mul]
theorem byts_num (l:List UInt8):byts l.length (num l)=l:=by
  induction l with
  | nil=>rfl
  | cons b l ih =>
    have hb:b.toNat < 256:=b.toNat_lt
    simp only[List.length_cons,byts,num]
    rw[show (b.toNat+256*num l) / 256=num l by omega,ih,show (b.toNat+256*num l) % 256=b.toNat by omega]
    simp
theorem num_lt (l:List UInt8):num l < 256 ^ l.length:=by
  induction l with
  | nil=>simp[num]
  | cons b l ih =>
    have hb:b.toNat < 256:=b.toNat_lt
    simp only[List.length_cons,num,Nat.pow_succ];omega
theorem num_append (l m:List UInt8):num (l++m)=num l+256 ^ l.length*num m:=by
  induction l with
  | nil=>simp[num]
  | cons b l ih =>
    simp only[List.cons_append,num,ih,List.length_cons,Nat.pow_succ]
    rw[Nat.mul_add,Nat.mul_comm (256 ^ l.length) 256,Nat.mul_assoc];omega
theorem byts_append (j k n:Nat):byts j (n % 256 ^ j)++byts k (n / 256 ^ j)=byts (j+k) n:=by
  induction j generalizing n with
  | zero=>simp[byts]
  | succ j ih =>
    have e1:n % 256 ^ (j+1) % 256=n % 256:=by
      rw[Nat.pow_succ,Nat.mul_comm,Nat.mod_mul_right_mod]
    have e2:n % 256 ^ (j+1) / 256=n / 256 % 256 ^ j:=by
      rw[Nat.pow_succ,Nat.mul_comm,Nat.mod_mul_right_div_self]
    have e3:n / 256 ^ (j+1)=n / 256 / 256 ^ j:=by
      rw[Nat.pow_succ,Nat.mul_comm,Nat.div_div_eq_div_mul]
    rw[Nat.succ_add]
    simp only[byts,List.cons_append,e1,e2,e3,ih]
theorem num_eight (x0 x1 x2 x3 x4 x5 x6 x7:UInt8):num [x0,x1,x2,x3,x4,x5,x6,x7]=x0.toNat+256*x1.toNat+65536*x2.toNat+16777216*x3.toNat+4294967296*x4.toNat+1099511627776*x5.toNat+281474976710656*x6.toNat+72057594037927936*x7.toNat:=by
  simp only[num];omega
theorem num_cut (l:List UInt8) (h:8≤l.length):num l=num (l.take 8)+18446744073709551616*num (l.drop 8):=by
  have e:num l=num (l.take 8++l.drop 8):=by rw[List.take_append_drop]
  rw[e,num_append,List.length_take,Nat.min_eq_left h]
theorem num_take8 (l:List UInt8):num (l.take 8) < 18446744073709551616:=by
  have h1:=num_lt (l.take 8)
  have h2:(l.take 8).length≤8:=List.length_take_le _ _
  have h3:256 ^ (l.take 8).length≤256 ^ 8:=Nat.pow_le_pow_right (by decide) h2
  have h4:(256:Nat) ^ 8=18446744073709551616:=by decide
  omega
theorem num_load (l:List UInt8) (h:l.length=32) :
    u4 (num (l.take 8)) (num ((l.drop 8).take 8)) (num ((l.drop 16).take 8)) (num ((l.drop 24).take 8))∧v4 (num (l.take 8)) (num ((l.drop 8).take 8)) (num ((l.drop 16).take 8)) (num ((l.drop 24).take 8))=num l:=by
  refine⟨⟨num_take8 _,num_take8 _,num_take8 _,num_take8 _⟩,?_⟩
  have e1:=num_cut l (by omega)
  have e2:=num_cut (l.drop 8) (by simp[h])
  have e3:=num_cut (l.drop 16) (by simp[h])
  have e4:=num_cut (l.drop 24) (by simp[h])
  have e5:num (l.drop 32)=0:=by rw[List.drop_of_length_le (by omega)];rfl
  simp only[List.drop_drop,Nat.reduceAdd] at e2 e3 e4
  unfold v4
  omega
end Go.Proofs.Fd
/- Words of so many bytes. -/
namespace Go.Proofs.Fd
def wd (l:List UInt8) (k j:Nat):Nat:=num (((l.take k).drop (8*j)).take 8)
theorem wd_zero (l:List UInt8) (j:Nat):wd l 0 j=0:=by simp[wd,num]
theorem wd_lt (l:List UInt8) (k j:Nat):wd l k j < 18446744073709551616:=num_take8 _
theorem take_next (l:List UInt8) (k:Nat) (h:k < l.length):l.take (k+1)=l.take k++[l[k]] :=
  List.take_succ_eq_append_getElem h
theorem wd_other (l:List UInt8) (k j:Nat) (h:k < l.length) (hj:k / 8≠j):wd l (k+1) j=wd l k j:=by
  unfold wd
  rw[take_next l k h]
  have hl:(l.take k).length=k:=by rw[List.length_take];omega
  by_cases hlt:8*j≤k
  · rw[List.drop_append_of_le_length (by omega),List.take_append_of_le_length (by rw[List.length_drop];omega)]
  · rw[List.drop_of_length_le (by rw[List.length_append,hl];simp;omega),List.drop_of_length_le (by omega)]
theorem wd_this (l:List UInt8) (k j r:Nat) (h:k < l.length) (hj:k / 8=j) (hr:k % 8=r):wd l (k+1) j=wd l k j+2 ^ (r*8)*l[k].toNat:=by
  unfold wd
  rw[take_next l k h]
  have hl:(l.take k).length=k:=by rw[List.length_take];omega
  have hd:((l.take k).drop (8*j)).length=r:=by rw[List.length_drop,hl];omega
  have t1:((l.take k).drop (8*j)).take 8=(l.take k).drop (8*j):=List.take_of_length_le (by omega)
  have t2:((l.take k).drop (8*j)++[l[k]]).take 8=(l.take k).drop (8*j)++[l[k]]:=List.take_of_length_le (by rw[List.length_append,hd,List.length_singleton];omega)
  rw[List.drop_append_of_le_length (by omega),t1,t2,num_append,hd]
  have e:256 ^ r=2 ^ (r*8):=by rw[show (256:Nat)=2 ^ 8 by decide,←Nat.pow_mul,Nat.mul_comm]
  rw[e]
  simp only[num,Nat.mul_zero,Nat.add_zero]
theorem wd_small (l:List UInt8) (k j r:Nat) (h:k < l.length) (hj:k / 8=j) (hr:k % 8=r):wd l k j < 2 ^ (r*8):=by
  unfold wd
  have hl:(l.take k).length=k:=by rw[List.length_take];omega
  have hd:((l.take k).drop (8*j)).length=r:=by rw[List.length_drop,hl];omega
  have t1:((l.take k).drop (8*j)).take 8=(l.take k).drop (8*j):=List.take_of_length_le (by omega)
  have:=num_lt ((l.take k).drop (8*j))
  rw[hd] at this
  rw[t1]
  have e:256 ^ r=2 ^ (r*8):=by rw[show (256:Nat)=2 ^ 8 by decide,←Nat.pow_mul,Nat.mul_comm]
  omega
theorem num_cut' (l:List UInt8):num l=num (l.take 8)+18446744073709551616*num (l.drop 8):=by
  by_cases h:8≤l.length
  · exact num_cut l h
  · rw[List.take_of_length_le (by omega),List.drop_of_length_le (by omega)];simp[num]
theorem wd_all (l:List UInt8) (h:l.length≤64) :
    v4 (wd l l.length 0) (wd l l.length 1) (wd l l.length 2) (wd l l.length 3)+W256*v4 (wd l l.length 4) (wd l l.length 5) (wd l l.length 6) (wd l l.length 7)=num l:=by
  unfold wd
  simp only[List.take_length]
  have e0:=num_cut' l
  have e1:=num_cut' (l.drop 8)
  have e2:=num_cut' (l.drop 16)
  have e3:=num_cut' (l.drop 24)
  have e4:=num_cut' (l.drop 32)
  have e5:=num_cut' (l.drop 40)
  have e6:=num_cut' (l.drop 48)
  have e7:=num_cut' (l.drop 56)
  have e8:num (l.drop 64)=0:=by rw[List.drop_of_length_le (by omega)];rfl
  simp only[List.drop_drop,Nat.reduceAdd] at e1 e2 e3 e4 e5 e6 e7
  simp only[Nat.reduceMul,Nat.mul_zero,List.drop_zero]
  unfold v4 W256
  omega
end Go.Proofs.Fd
/- Thirty-two bytes of four words. -/
namespace Go.Proofs.Fd
def b8 (a:Nat):List UInt8 :=
  [UInt8.ofNat (a % 256),UInt8.ofNat (a / 256 % 256),UInt8.ofNat (a / 65536 % 256),UInt8.ofNat (a / 16777216 % 256),
   UInt8.ofNat (a / 4294967296 % 256),UInt8.ofNat (a / 1099511627776 % 256),UInt8.ofNat (a / 281474976710656 % 256),UInt8.ofNat (a / 72057594037927936 % 256)]
theorem b8_byts (a:Nat):b8 a=byts 8 a:=by
  simp only[b8,byts,Nat.div_div_eq_div_mul,Nat.reduceMul]
theorem byts32 (a0 a1 a2 a3:Nat) (h:u4 a0 a1 a2 a3):byts 32 (v4 a0 a1 a2 a3)=b8 a0++(b8 a1++(b8 a2++b8 a3)):=by
  obtain⟨h0,h1,h2,h3⟩:=h
  have e:(256:Nat) ^ 8=18446744073709551616:=by decide
  have s0:=byts_append 8 24 (v4 a0 a1 a2 a3)
  have s1:=byts_append 8 16 (v4 a0 a1 a2 a3 / 256 ^ 8)
  have s2:=byts_append 8 8 (v4 a0 a1 a2 a3 / 256 ^ 8 / 256 ^ 8)
  rw[e] at s0 s1 s2
  have d1:v4 a0 a1 a2 a3 / 18446744073709551616=a1+18446744073709551616*(a2+18446744073709551616*a3):=by unfold v4;omega
  have d2:v4 a0 a1 a2 a3 / 18446744073709551616 / 18446744073709551616=a2+18446744073709551616*a3:=by rw[d1];omega
  have d3:v4 a0 a1 a2 a3 / 18446744073709551616 / 18446744073709551616 / 18446744073709551616=a3:=by rw[d2];omega
  have m0:v4 a0 a1 a2 a3 % 18446744073709551616=a0:=by unfold v4;omega
  have m1:v4 a0 a1 a2 a3 / 18446744073709551616 % 18446744073709551616=a1:=by rw[d1];omega
  have m2:v4 a0 a1 a2 a3 / 18446744073709551616 / 18446744073709551616 % 18446744073709551616=a2:=by rw[d2];omega
  rw[m0] at s0
  rw[m1] at s1
  rw[m2,d3] at s2
  simp only[b8_byts]
  rw[s2,s1,s0]
end Go.Proofs.Fd
/- What the faces of package field answer,as plain functions. -/
namespace Go.Proofs.Fd
def enc (n:Nat):ByteArray:=⟨(byts 32 n).toArray⟩
theorem enc_size (n:Nat):(enc n).size=32:=by
  show (byts 32 n).toArray.size=32
  rw[List.size_toArray,byts_length]
theorem pow_w256:(256:Nat) ^ 32=W256:=by decide
theorem num_enc {n:Nat} (h:n < W256):num (enc n).data.toList=n:=by
  show num (byts 32 n)=n
  rw[num_byts,pow_w256,Nat.mod_eq_of_lt h]
theorem p_lt:p < W256:=by decide
theorem num_enc_p {n:Nat} (h:n < p):num (enc n).data.toList=n:=num_enc (Nat.lt_trans h p_lt)
theorem enc_inj {a b:Nat} (ha:a < W256) (hb:b < W256) (h:enc a=enc b):a=b:=by
  rw[←num_enc ha,h,num_enc hb]
theorem enc_num {s:ByteArray} (h:s.size=32):enc (num s.data.toList)=s:=by
  have hl:s.data.toList.length=32:=by simpa using h
  have:=byts_num s.data.toList
  rw[hl] at this
  unfold enc
  rw[this]
def chk (s:ByteArray):Int:=if s.size=32 then (if num s.data.toList < p then 0 else 1) else 3
theorem chk_enc {n:Nat} (h:n < p):chk (enc n)=0:=by
  unfold chk;rw[if_pos (enc_size n),if_pos (by rw[num_enc_p h];exact h)]
theorem chk_zero {s:ByteArray} (h:chk s=0):s.size=32∧num s.data.toList < p:=by
  unfold chk at h
  split at h
  · split at h
    · exact⟨by assumption,by assumption⟩
    · cases h
  · cases h
def chkAll:List ByteArray→Int
  | []=>0
  | s::r=>if chk s=0 then chkAll r else chk s
def chkList (l:List ByteArray):Int:=if chkAll l=0 then (if l.length≤100 then 0 else 2) else chkAll l
theorem chkAll_take_succ (l:List ByteArray) (k:Nat) (h:k < l.length) (h0:chkAll (l.take k)=0):chkAll (l.take (k+1))=chk l[k]:=by
  induction l generalizing k with
  | nil=>simp at h
  | cons s r ih =>
    cases k with
    | zero=>simp[chkAll];exact fun h=>h.symm
    | succ k =>
      simp only[List.take_succ_cons,chkAll] at h0 ⊢
      split at h0
      · rename_i hs
        rw[if_pos hs]
        simpa using ih k (by simpa using h) h0
      · rename_i hs;exact absurd h0 hs
theorem chkAll_found (l:List ByteArray) (k:Nat) (h:k < l.length) (h0:chkAll (l.take k)=0) (h1:¬chk l[k]=0):chkAll l=chk l[k]:=by
  induction l generalizing k with
  | nil=>simp at h
  | cons s r ih =>
    cases k with
    | zero=>simp only[List.getElem_cons_zero] at h1 ⊢;simp only[chkAll];rw[if_neg h1]
    | succ k =>
      simp only[List.take_succ_cons,chkAll] at h0 ⊢
      split at h0
      · rename_i hs
        rw[if_pos hs]
        simpa using ih k (by simpa using h) h0 (by simpa using h1)
      · rename_i hs;exact absurd h0 hs
theorem chkAll_mem {l:List ByteArray} (h:chkAll l=0):∀s∈l,chk s=0:=by
  induction l with
  | nil=>simp
  | cons s r ih =>
    simp only[chkAll] at h
    split at h
    · rename_i hs
      intro t ht
      rcases List.mem_cons.1 ht with rfl|ht
      · exact hs
      · exact ih h t ht
    · rename_i hs;exact absurd h hs
theorem chkList_zero {l:List ByteArray} (h:chkList l=0):chkAll l=0∧l.length≤100:=by
  unfold chkList at h
  split at h
  · split at h
    · exact⟨by assumption,by assumption⟩
    · cases h
  · rename_i hs;exact absurd h hs
end Go.Proofs.Fd
/- Sums and products of elements. -/
namespace Go.Proofs.Fd
def sumOf (l:List ByteArray):Nat:=l.foldl (fun a s=>(a+num s.data.toList) % p) 0
def mulFrom (a:Nat) (l:List ByteArray):Nat:=l.foldl (fun a s=>(a*num s.data.toList) % p) a
theorem sumOf_take_succ (l:List ByteArray) (k:Nat) (h:k < l.length):sumOf (l.take (k+1))=(sumOf (l.take k)+num l[k].data.toList) % p:=by
  unfold sumOf;rw[List.take_succ_eq_append_getElem h,List.foldl_append];rfl
theorem mulFrom_take_succ (a:Nat) (l:List ByteArray) (k:Nat) (h:k < l.length):mulFrom a (l.take (k+1))=(mulFrom a (l.take k)*num l[k].data.toList) % p:=by
  unfold mulFrom;rw[List.take_succ_eq_append_getElem h,List.foldl_append];rfl
theorem p_pos:0 < p:=by decide
theorem sumOf_lt (l:List ByteArray):sumOf l < p:=by
  rcases List.eq_nil_or_concat l with rfl|⟨m,b,rfl⟩
  · exact p_pos
  · unfold sumOf;rw[List.concat_eq_append,List.foldl_append];exact Nat.mod_lt _ p_pos
end Go.Proofs.Fd
/- Numbers that the chapter's examples come to. -/
namespace Go.Proofs.Fd
theorem sum2 (a b:Nat):((0+a) % p+b) % p=(a+b) % p:=by
  rw[Nat.zero_add,Nat.add_mod (a % p),Nat.mod_mod,←Nat.add_mod]
end Go.Proofs.Fd
/- The laws of a field,as far as sums and products go. -/
namespace Go.Proofs.Fd
end Go.Proofs.Fd
/- Sums and products in any order. -/
namespace Go.Proofs.Fd
end Go.Proofs.Fd
/- A number is a prime if some number has the order of all that are not 0 (Lucas);then each number that is not 0,to the power of the prime less 1,is 1. -/
namespace Go.Proofs.Fd
def Pr (n:Nat):Prop:=1 < n∧∀a b,n ∣ a*b→n ∣ a∨n ∣ b
theorem pr_two:Pr 2:=by
  refine⟨by decide,fun a b h => ?_⟩
  have hm:(a % 2)*(b % 2) % 2=0:=by rw[←Nat.mul_mod];exact Nat.mod_eq_zero_of_dvd h
  rcases Nat.mod_two_eq_zero_or_one a with ha|ha
  · exact .inl (Nat.dvd_of_mod_eq_zero ha)
  · rcases Nat.mod_two_eq_zero_or_one b with hb|hb
    · exact .inr (Nat.dvd_of_mod_eq_zero hb)
    · rw[ha,hb] at hm;exact absurd hm (by decide)
theorem pr_gcd {l c:Nat} (hl:Pr l) (h:¬l ∣ c):Nat.gcd c l=1:=by
  obtain⟨h1,h2⟩:=hl
  obtain⟨k,hk⟩:=Nat.gcd_dvd_right c l
  rcases h2 (Nat.gcd c l) k (by rw[←hk];exact Nat.dvd_refl l) with hd|hd
  · exact absurd (Nat.dvd_trans hd (Nat.gcd_dvd_left c l)) h
  · obtain⟨t,ht⟩:=hd
    have hl0:0 < l:=by omega
    have e:l*(Nat.gcd c l*t)=l*1:=by
      rw[Nat.mul_one,←Nat.mul_assoc,Nat.mul_comm l,Nat.mul_assoc,←ht,←hk]
    have e':=Nat.eq_of_mul_eq_mul_left hl0 e
    exact Nat.eq_one_of_mul_eq_one_right e'
def prod:List Nat→Nat
  | []=>1
  | l::r=>l*prod r
theorem prod_factor (L:List Nat) (hL:∀l∈L,Pr l) (c:Nat) (hc:c ∣ prod L) (h1:c≠1):∃l∈L,l ∣ c:=by
  induction L with
  | nil=>exact absurd (Nat.dvd_one.1 hc) h1
  | cons l r ih =>
    by_cases h:l ∣ c
    · exact⟨l,by simp,h⟩
    · have g:=pr_gcd (hL l (by simp)) h
      have hc':c ∣ prod r:=Nat.Coprime.dvd_of_dvd_mul_left g hc
      obtain⟨m,hm,hd⟩:=ih (fun x hx=>hL x (by simp[hx])) hc'
      exact⟨m,by simp[hm],hd⟩
theorem pow_one_mod {g a N:Nat} (h1:1 < N) (h:g ^ a % N=1) (k:Nat):g ^ (a*k) % N=1:=by
  rw[Nat.pow_mul,Nat.pow_mod,h,Nat.one_pow,Nat.mod_eq_of_lt h1]
theorem pow_rem {g a N:Nat} (h1:1 < N) (h:g ^ a % N=1) (b:Nat):g ^ b % N=g ^ (b % a) % N:=by
  have e:g ^ b=g ^ (a*(b / a))*g ^ (b % a):=by rw[←Nat.pow_add,Nat.div_add_mod]
  rw[e,Nat.mul_mod,pow_one_mod h1 h,Nat.one_mul,Nat.mod_mod]
theorem pow_gcd {g N:Nat} (h1:1 < N) (a b:Nat) (ha:g ^ a % N=1) (hb:g ^ b % N=1):g ^ (Nat.gcd a b) % N=1:=by
  induction a,b using Nat.gcd.induction with
  | H0 b=>simpa using hb
  | H1 a b h0 ih =>
    rw[Nat.gcd_rec]
    exact ih (by rw[←pow_rem h1 ha];exact hb) ha
theorem order {g N:Nat} (h1:1 < N) (L:List Nat) (hL:∀l∈L,Pr l) (hn:prod L=N - 1) (hg:g ^ (N - 1) % N=1) (hl:∀l∈L,g ^ ((N - 1) / l) % N≠1)
    (m:Nat) (h0:0 < m) (hm:m < N - 1):g ^ m % N≠1:=by
  intro h
  have hd:=pow_gcd h1 m (N - 1) h hg
  obtain⟨c,hc⟩:=Nat.gcd_dvd_right m (N - 1)
  have hle:Nat.gcd m (N - 1)≤m:=Nat.gcd_le_left _ h0
  have hc1:c≠1:=by
    intro e;rw[e,Nat.mul_one] at hc;omega
  obtain⟨l,hlm,k,hk⟩:=prod_factor L hL c (by rw[hn];exact⟨Nat.gcd m (N - 1),by rw[Nat.mul_comm];exact hc⟩) hc1
  have hl0:0 < l:=by have:=(hL l hlm).1;omega
  have e:(N - 1) / l=Nat.gcd m (N - 1)*k:=by
    rw[hk] at hc
    have:N - 1=l*(Nat.gcd m (N - 1)*k):=by
      rw[←Nat.mul_assoc,Nat.mul_comm l,Nat.mul_assoc,←hc]
    exact Nat.div_eq_of_eq_mul_right hl0 this
  exact hl l hlm (by rw[e];exact pow_one_mod h1 hd k)
theorem pigeon (n:Nat) (f:Nat→Nat) (h:∀i,i≤n→f i < n):∃i j,i < j∧j≤n∧f i=f j:=by
  induction n generalizing f with
  | zero=>exact absurd (h 0 (Nat.le_refl 0)) (by omega)
  | succ n ih =>
    by_cases hv:∃i,i≤n∧f i=f (n+1)
    · obtain⟨i,hi,e⟩:=hv
      exact⟨i,n+1,by omega,Nat.le_refl _,e⟩
    · have hne:∀i,i≤n→f i≠f (n+1):=fun i hi e=>hv ⟨i,hi,e⟩
      have hlast:=h (n+1) (Nat.le_refl _)
      obtain⟨i,j,hij,hj,e⟩:=ih (fun i=>if f i=n then f (n+1) else f i) (fun i hi=>by
        show (if f i=n then f (n+1) else f i) < n
        have h1:=h i (by omega)
        have h2:=hne i hi
        split <;> omega)
      refine⟨i,j,hij,by omega,?_⟩
      have h1:=hne i (by omega)
      have h2:=hne j hj
      split at e <;> split at e <;> omega
theorem all_hit (n:Nat) (f:Nat→Nat) (h:∀i,i < n→0 < f i∧f i≤n) (inj:∀i j,i < j→j < n→f i≠f j) (a:Nat) (h0:0 < a) (ha:a≤n):∃i,i < n∧f i=a:=by
  obtain⟨i,j,hij,hj,e⟩:=pigeon n (fun i=>(if i < n then f i else a) - 1) (fun i hi=>by
    show (if i < n then f i else a) - 1 < n
    split
    · rename_i hlt;have:=h i hlt;omega
    · omega)
  have hi:i < n:=by omega
  rw[if_pos hi] at e
  have:=h i hi
  by_cases hjn:j < n
  · rw[if_pos hjn] at e
    have:=h j hjn
    exact absurd (by omega) (inj i j hij hjn)
  · rw[if_neg hjn] at e
    exact⟨i,hi,by omega⟩
theorem powers {g N:Nat} (h1:1 < N) (L:List Nat) (hL:∀l∈L,Pr l) (hn:prod L=N - 1) (hg:g ^ (N - 1) % N=1) (hl:∀l∈L,g ^ ((N - 1) / l) % N≠1)
    (a:Nat) (h0:0 < a) (ha:a < N):∃i,g ^ i % N=a:=by
  obtain⟨i,_,e⟩:=all_hit (N - 1) (fun i=>g ^ i % N) (fun i hi=>by
      have hlt:g ^ i % N < N:=Nat.mod_lt _ (by omega)
      refine⟨?_,by show g ^ i % N≤N - 1;omega⟩
      rcases Nat.eq_zero_or_pos (g ^ i % N) with hz|hz
      · exfalso
        have e:g ^ (N - 1)=g ^ i*g ^ (N - 1 - i):=by rw[←Nat.pow_add];congr 1;omega
        rw[e,Nat.mul_mod,hz,Nat.zero_mul,Nat.zero_mod] at hg
        exact absurd hg (by decide)
      · exact hz) (fun i j hij hj e=>by
      have e':g ^ i % N=g ^ j % N:=e
      have e1:g ^ (N - 1)=g ^ i*g ^ (N - 1 - i):=by rw[←Nat.pow_add];congr 1;omega
      have e2:g ^ (N - 1+(j - i))=g ^ j*g ^ (N - 1 - i):=by rw[←Nat.pow_add];congr 1;omega
      have e3:g ^ (N - 1+(j - i)) % N=1:=by
        rw[e2,Nat.mul_mod,←e',←Nat.mul_mod,←e1,hg]
      rw[Nat.pow_add,Nat.mul_mod,hg,Nat.one_mul,Nat.mod_mod] at e3
      exact order h1 L hL hn hg hl (j - i) (by omega) (by omega) e3) a h0 (by omega)
  exact⟨i,e⟩
theorem fermat {g N:Nat} (h1:1 < N) (L:List Nat) (hL:∀l∈L,Pr l) (hn:prod L=N - 1) (hg:g ^ (N - 1) % N=1) (hl:∀l∈L,g ^ ((N - 1) / l) % N≠1)
    (a:Nat) (h0:0 < a) (ha:a < N):a ^ (N - 1) % N=1:=by
  obtain⟨i,hi⟩:=powers h1 L hL hn hg hl a h0 ha
  rw[←hi,←Nat.pow_mod,←Nat.pow_mul,Nat.mul_comm]
  exact pow_one_mod h1 hg i
theorem lucas {N:Nat} (g:Nat) (h1:1 < N) (L:List Nat) (hL:∀l∈L,Pr l) (hn:prod L=N - 1) (hg:g ^ (N - 1) % N=1) (hl:∀l∈L,g ^ ((N - 1) / l) % N≠1):Pr N:=by
  refine⟨h1,fun a b hab => ?_⟩
  rcases Nat.eq_zero_or_pos (a % N) with hz|hz
  · exact .inl (Nat.dvd_of_mod_eq_zero hz)
  · right
    have hf:=fermat h1 L hL hn hg hl (a % N) hz (Nat.mod_lt _ (by omega))
    rw[←Nat.pow_mod] at hf
    have hm:a*b % N=0:=Nat.mod_eq_zero_of_dvd hab
    apply Nat.dvd_of_mod_eq_zero
    have e:a ^ (N - 1)*b=a ^ (N - 1 - 1)*(a*b):=by
      rw[←Nat.mul_assoc,←Nat.pow_succ]
      by_cases hN:N=2
      · subst hN;rfl
      · congr 2;omega
    have:a ^ (N - 1)*b % N=b % N:=by rw[Nat.mul_mod,hf,Nat.one_mul,Nat.mod_mod]
    rw[←this,e,Nat.mul_mod,hm,Nat.mul_zero,Nat.zero_mod]
def pw:Nat→Nat→Nat→Nat→Nat
  | 0,_,_,N=>1 % N
  | f+1,a,e,N=>if e % 2=1 then a*pw f (a*a % N) (e / 2) N % N else pw f (a*a % N) (e / 2) N
theorem pw_eq (f a e N:Nat) (h:e < 2 ^ f):pw f a e N=a ^ e % N:=by
  induction f generalizing a e with
  | zero =>
    have:e=0:=by simpa using h
    subst this;rfl
  | succ f ih =>
    have he:e / 2 < 2 ^ f:=by rw[Nat.pow_succ] at h;omega
    have hs:(a*a % N) ^ (e / 2) % N=a ^ (2*(e / 2)) % N:=by
      rw[←Nat.pow_mod,←Nat.pow_two,←Nat.pow_mul]
    show (if e % 2=1 then a*pw f (a*a % N) (e / 2) N % N else pw f (a*a % N) (e / 2) N)=_
    rw[ih _ _ he,hs]
    split
    · rename_i ho
      rw[Nat.mul_mod,Nat.mod_mod,←Nat.mul_mod,←Nat.pow_succ']
      congr 2;omega
    · congr 2;omega
def cert (g N:Nat) (L:List Nat):Bool :=
  decide (1 < N) && decide (N < 2 ^ 256) && decide (prod L=N - 1) && decide (pw 256 g (N - 1) N=1) && L.all fun l=>decide (pw 256 g ((N - 1) / l) N≠1)
theorem cert_out {g N:Nat} {L:List Nat} (h:cert g N L=true) :
    1 < N∧prod L=N - 1∧g ^ (N - 1) % N=1∧∀l∈L,g ^ ((N - 1) / l) % N≠1:=by
  unfold cert at h
  simp only[Bool.and_eq_true,decide_eq_true_eq,List.all_eq_true] at h
  obtain⟨⟨⟨⟨h1,h2⟩,h3⟩,h4⟩,h5⟩:=h
  refine⟨h1,h3,?_,fun l hl => ?_⟩
  · rw[←pw_eq 256 g (N - 1) N (by omega)];exact h4
  · rw[←pw_eq 256 g ((N - 1) / l) N (Nat.lt_of_le_of_lt (Nat.div_le_self _ _) (by omega))];exact h5 l hl
theorem cert_pr {N:Nat} (g:Nat) (L:List Nat) (h:cert g N L=true) (hL:∀l∈L,Pr l):Pr N:=by
  obtain⟨h1,h2,h3,h4⟩:=cert_out h
  exact lucas g h1 L hL h2 h3 h4
end Go.Proofs.Fd
/- The prime 2^255 - 19,by certificates. -/
namespace Go.Proofs.Fd
theorem pr_3:Pr 3:=cert_pr 2 [2] (by decide +kernel) (by
  intro l hl
  simp only[List.mem_cons,List.not_mem_nil,or_false] at hl
  rcases hl with rfl
  · exact pr_two
  )
theorem pr_17:Pr 17:=cert_pr 3 [2,2,2,2] (by decide +kernel) (by
  intro l hl
  simp only[List.mem_cons,List.not_mem_nil,or_false] at hl
  rcases hl with rfl|rfl|rfl|rfl
  · exact pr_two
  · exact pr_two
  · exact pr_two
  · exact pr_two
  )
theorem pr_7:Pr 7:=cert_pr 3 [2,3] (by decide +kernel) (by
  intro l hl
  simp only[List.mem_cons,List.not_mem_nil,or_false] at hl
  rcases hl with rfl|rfl
  · exact pr_two
  · exact pr_3
  )
theorem pr_239:Pr 239:=cert_pr 7 [2,7,17] (by decide +kernel) (by
  intro l hl
  simp only[List.mem_cons,List.not_mem_nil,or_false] at hl
  rcases hl with rfl|rfl|rfl
  · exact pr_two
  · exact pr_7
  · exact pr_17
  )
theorem pr_479:Pr 479:=cert_pr 13 [2,239] (by decide +kernel) (by
  intro l hl
  simp only[List.mem_cons,List.not_mem_nil,or_false] at hl
  rcases hl with rfl|rfl
  · exact pr_two
  · exact pr_239
  )
theorem pr_32573:Pr 32573:=cert_pr 2 [2,2,17,479] (by decide +kernel) (by
  intro l hl
  simp only[List.mem_cons,List.not_mem_nil,or_false] at hl
  rcases hl with rfl|rfl|rfl|rfl
  · exact pr_two
  · exact pr_two
  · exact pr_17
  · exact pr_479
  )
theorem pr_65147:Pr 65147:=cert_pr 2 [2,32573] (by decide +kernel) (by
  intro l hl
  simp only[List.mem_cons,List.not_mem_nil,or_false] at hl
  rcases hl with rfl|rfl
  · exact pr_two
  · exact pr_32573
  )
theorem pr_5:Pr 5:=cert_pr 2 [2,2] (by decide +kernel) (by
  intro l hl
  simp only[List.mem_cons,List.not_mem_nil,or_false] at hl
  rcases hl with rfl|rfl
  · exact pr_two
  · exact pr_two
  )
theorem pr_11:Pr 11:=cert_pr 2 [2,5] (by decide +kernel) (by
  intro l hl
  simp only[List.mem_cons,List.not_mem_nil,or_false] at hl
  rcases hl with rfl|rfl
  · exact pr_two
  · exact pr_5
  )
theorem pr_353:Pr 353:=cert_pr 3 [2,2,2,2,2,11] (by decide +kernel) (by
  intro l hl
  simp only[List.mem_cons,List.not_mem_nil,or_false] at hl
  rcases hl with rfl|rfl|rfl|rfl|rfl|rfl
  · exact pr_two
  · exact pr_two
  · exact pr_two
  · exact pr_two
  · exact pr_two
  · exact pr_11
  )
theorem pr_29:Pr 29:=cert_pr 2 [2,2,7] (by decide +kernel) (by
  intro l hl
  simp only[List.mem_cons,List.not_mem_nil,or_false] at hl
  rcases hl with rfl|rfl|rfl
  · exact pr_two
  · exact pr_two
  · exact pr_7
  )
theorem pr_59:Pr 59:=cert_pr 2 [2,29] (by decide +kernel) (by
  intro l hl
  simp only[List.mem_cons,List.not_mem_nil,or_false] at hl
  rcases hl with rfl|rfl
  · exact pr_two
  · exact pr_29
  )
theorem pr_487:Pr 487:=cert_pr 3 [2,3,3,3,3,3] (by decide +kernel) (by
  intro l hl
  simp only[List.mem_cons,List.not_mem_nil,or_false] at hl
  rcases hl with rfl|rfl|rfl|rfl|rfl|rfl
  · exact pr_two
  · exact pr_3
  · exact pr_3
  · exact pr_3
  · exact pr_3
  · exact pr_3
  )
theorem pr_57467:Pr 57467:=cert_pr 2 [2,59,487] (by decide +kernel) (by
  intro l hl
  simp only[List.mem_cons,List.not_mem_nil,or_false] at hl
  rcases hl with rfl|rfl|rfl
  · exact pr_two
  · exact pr_59
  · exact pr_487
  )
theorem pr_13:Pr 13:=cert_pr 2 [2,2,3] (by decide +kernel) (by
  intro l hl
  simp only[List.mem_cons,List.not_mem_nil,or_false] at hl
  rcases hl with rfl|rfl|rfl
  · exact pr_two
  · exact pr_two
  · exact pr_3
  )
theorem pr_131:Pr 131:=cert_pr 2 [2,5,13] (by decide +kernel) (by
  intro l hl
  simp only[List.mem_cons,List.not_mem_nil,or_false] at hl
  rcases hl with rfl|rfl|rfl
  · exact pr_two
  · exact pr_5
  · exact pr_13
  )
theorem pr_132049:Pr 132049:=cert_pr 26 [2,2,2,2,3,3,7,131] (by decide +kernel) (by
  intro l hl
  simp only[List.mem_cons,List.not_mem_nil,or_false] at hl
  rcases hl with rfl|rfl|rfl|rfl|rfl|rfl|rfl|rfl
  · exact pr_two
  · exact pr_two
  · exact pr_two
  · exact pr_two
  · exact pr_3
  · exact pr_3
  · exact pr_7
  · exact pr_131
  )
theorem pr_43:Pr 43:=cert_pr 3 [2,3,7] (by decide +kernel) (by
  intro l hl
  simp only[List.mem_cons,List.not_mem_nil,or_false] at hl
  rcases hl with rfl|rfl|rfl
  · exact pr_two
  · exact pr_3
  · exact pr_7
  )
theorem pr_23:Pr 23:=cert_pr 5 [2,11] (by decide +kernel) (by
  intro l hl
  simp only[List.mem_cons,List.not_mem_nil,or_false] at hl
  rcases hl with rfl|rfl
  · exact pr_two
  · exact pr_11
  )
theorem pr_3727:Pr 3727:=cert_pr 3 [2,3,3,3,3,23] (by decide +kernel) (by
  intro l hl
  simp only[List.mem_cons,List.not_mem_nil,or_false] at hl
  rcases hl with rfl|rfl|rfl|rfl|rfl|rfl
  · exact pr_two
  · exact pr_3
  · exact pr_3
  · exact pr_3
  · exact pr_3
  · exact pr_23
  )
theorem pr_1923133:Pr 1923133:=cert_pr 2 [2,2,3,43,3727] (by decide +kernel) (by
  intro l hl
  simp only[List.mem_cons,List.not_mem_nil,or_false] at hl
  rcases hl with rfl|rfl|rfl|rfl|rfl
  · exact pr_two
  · exact pr_two
  · exact pr_3
  · exact pr_43
  · exact pr_3727
  )
theorem pr_31:Pr 31:=cert_pr 3 [2,3,5] (by decide +kernel) (by
  intro l hl
  simp only[List.mem_cons,List.not_mem_nil,or_false] at hl
  rcases hl with rfl|rfl|rfl
  · exact pr_two
  · exact pr_3
  · exact pr_5
  )
theorem pr_53:Pr 53:=cert_pr 2 [2,2,13] (by decide +kernel) (by
  intro l hl
  simp only[List.mem_cons,List.not_mem_nil,or_false] at hl
  rcases hl with rfl|rfl|rfl
  · exact pr_two
  · exact pr_two
  · exact pr_13
  )
theorem pr_107:Pr 107:=cert_pr 2 [2,53] (by decide +kernel) (by
  intro l hl
  simp only[List.mem_cons,List.not_mem_nil,or_false] at hl
  rcases hl with rfl|rfl
  · exact pr_two
  · exact pr_53
  )
theorem pr_37:Pr 37:=cert_pr 2 [2,2,3,3] (by decide +kernel) (by
  intro l hl
  simp only[List.mem_cons,List.not_mem_nil,or_false] at hl
  rcases hl with rfl|rfl|rfl|rfl
  · exact pr_two
  · exact pr_two
  · exact pr_3
  · exact pr_3
  )
theorem pr_223:Pr 223:=cert_pr 3 [2,3,37] (by decide +kernel) (by
  intro l hl
  simp only[List.mem_cons,List.not_mem_nil,or_false] at hl
  rcases hl with rfl|rfl|rfl
  · exact pr_two
  · exact pr_3
  · exact pr_37
  )
theorem pr_173:Pr 173:=cert_pr 2 [2,2,43] (by decide +kernel) (by
  intro l hl
  simp only[List.mem_cons,List.not_mem_nil,or_false] at hl
  rcases hl with rfl|rfl|rfl
  · exact pr_two
  · exact pr_two
  · exact pr_43
  )
theorem pr_4153:Pr 4153:=cert_pr 5 [2,2,2,3,173] (by decide +kernel) (by
  intro l hl
  simp only[List.mem_cons,List.not_mem_nil,or_false] at hl
  rcases hl with rfl|rfl|rfl|rfl|rfl
  · exact pr_two
  · exact pr_two
  · exact pr_two
  · exact pr_3
  · exact pr_173
  )
theorem pr_41:Pr 41:=cert_pr 6 [2,2,2,5] (by decide +kernel) (by
  intro l hl
  simp only[List.mem_cons,List.not_mem_nil,or_false] at hl
  rcases hl with rfl|rfl|rfl|rfl
  · exact pr_two
  · exact pr_two
  · exact pr_two
  · exact pr_5
  )
theorem pr_1723:Pr 1723:=cert_pr 3 [2,3,7,41] (by decide +kernel) (by
  intro l hl
  simp only[List.mem_cons,List.not_mem_nil,or_false] at hl
  rcases hl with rfl|rfl|rfl|rfl
  · exact pr_two
  · exact pr_3
  · exact pr_7
  · exact pr_41
  )
theorem pr_430751:Pr 430751:=cert_pr 17 [2,5,5,5,1723] (by decide +kernel) (by
  intro l hl
  simp only[List.mem_cons,List.not_mem_nil,or_false] at hl
  rcases hl with rfl|rfl|rfl|rfl|rfl
  · exact pr_two
  · exact pr_5
  · exact pr_5
  · exact pr_5
  · exact pr_1723
  )
theorem pr_31757755568855353:Pr 31757755568855353:=cert_pr 10 [2,2,2,3,31,107,223,4153,430751] (by decide +kernel) (by
  intro l hl
  simp only[List.mem_cons,List.not_mem_nil,or_false] at hl
  rcases hl with rfl|rfl|rfl|rfl|rfl|rfl|rfl|rfl|rfl
  · exact pr_two
  · exact pr_two
  · exact pr_two
  · exact pr_3
  · exact pr_31
  · exact pr_107
  · exact pr_223
  · exact pr_4153
  · exact pr_430751
  )
theorem pr_19:Pr 19:=cert_pr 2 [2,3,3] (by decide +kernel) (by
  intro l hl
  simp only[List.mem_cons,List.not_mem_nil,or_false] at hl
  rcases hl with rfl|rfl|rfl
  · exact pr_two
  · exact pr_3
  · exact pr_3
  )
theorem pr_83:Pr 83:=cert_pr 2 [2,41] (by decide +kernel) (by
  intro l hl
  simp only[List.mem_cons,List.not_mem_nil,or_false] at hl
  rcases hl with rfl|rfl
  · exact pr_two
  · exact pr_41
  )
theorem pr_9463:Pr 9463:=cert_pr 3 [2,3,19,83] (by decide +kernel) (by
  intro l hl
  simp only[List.mem_cons,List.not_mem_nil,or_false] at hl
  rcases hl with rfl|rfl|rfl|rfl
  · exact pr_two
  · exact pr_3
  · exact pr_19
  · exact pr_83
  )
theorem pr_37853:Pr 37853:=cert_pr 2 [2,2,9463] (by decide +kernel) (by
  intro l hl
  simp only[List.mem_cons,List.not_mem_nil,or_false] at hl
  rcases hl with rfl|rfl|rfl
  · exact pr_two
  · exact pr_two
  · exact pr_9463
  )
theorem pr_75707:Pr 75707:=cert_pr 2 [2,37853] (by decide +kernel) (by
  intro l hl
  simp only[List.mem_cons,List.not_mem_nil,or_false] at hl
  rcases hl with rfl|rfl
  · exact pr_two
  · exact pr_37853
  )
theorem pr_2437:Pr 2437:=cert_pr 2 [2,2,3,7,29] (by decide +kernel) (by
  intro l hl
  simp only[List.mem_cons,List.not_mem_nil,or_false] at hl
  rcases hl with rfl|rfl|rfl|rfl|rfl
  · exact pr_two
  · exact pr_two
  · exact pr_3
  · exact pr_7
  · exact pr_29
  )
theorem pr_97:Pr 97:=cert_pr 5 [2,2,2,2,2,3] (by decide +kernel) (by
  intro l hl
  simp only[List.mem_cons,List.not_mem_nil,or_false] at hl
  rcases hl with rfl|rfl|rfl|rfl|rfl|rfl
  · exact pr_two
  · exact pr_two
  · exact pr_two
  · exact pr_two
  · exact pr_two
  · exact pr_3
  )
theorem pr_419:Pr 419:=cert_pr 2 [2,11,19] (by decide +kernel) (by
  intro l hl
  simp only[List.mem_cons,List.not_mem_nil,or_false] at hl
  rcases hl with rfl|rfl|rfl
  · exact pr_two
  · exact pr_11
  · exact pr_19
  )
theorem pr_569003:Pr 569003:=cert_pr 2 [2,7,97,419] (by decide +kernel) (by
  intro l hl
  simp only[List.mem_cons,List.not_mem_nil,or_false] at hl
  rcases hl with rfl|rfl|rfl|rfl
  · exact pr_two
  · exact pr_7
  · exact pr_97
  · exact pr_419
  )
theorem pr_2773320623:Pr 2773320623:=cert_pr 5 [2,2437,569003] (by decide +kernel) (by
  intro l hl
  simp only[List.mem_cons,List.not_mem_nil,or_false] at hl
  rcases hl with rfl|rfl|rfl
  · exact pr_two
  · exact pr_2437
  · exact pr_569003
  )
theorem pr_72106336199:Pr 72106336199:=cert_pr 7 [2,13,2773320623] (by decide +kernel) (by
  intro l hl
  simp only[List.mem_cons,List.not_mem_nil,or_false] at hl
  rcases hl with rfl|rfl|rfl
  · exact pr_two
  · exact pr_13
  · exact pr_2773320623
  )
theorem pr_47:Pr 47:=cert_pr 5 [2,23] (by decide +kernel) (by
  intro l hl
  simp only[List.mem_cons,List.not_mem_nil,or_false] at hl
  rcases hl with rfl|rfl
  · exact pr_two
  · exact pr_23
  )
theorem pr_127:Pr 127:=cert_pr 3 [2,3,3,7] (by decide +kernel) (by
  intro l hl
  simp only[List.mem_cons,List.not_mem_nil,or_false] at hl
  rcases hl with rfl|rfl|rfl|rfl
  · exact pr_two
  · exact pr_3
  · exact pr_3
  · exact pr_7
  )
theorem pr_103:Pr 103:=cert_pr 5 [2,3,17] (by decide +kernel) (by
  intro l hl
  simp only[List.mem_cons,List.not_mem_nil,or_false] at hl
  rcases hl with rfl|rfl|rfl
  · exact pr_two
  · exact pr_3
  · exact pr_17
  )
theorem pr_991:Pr 991:=cert_pr 6 [2,3,3,5,11] (by decide +kernel) (by
  intro l hl
  simp only[List.mem_cons,List.not_mem_nil,or_false] at hl
  rcases hl with rfl|rfl|rfl|rfl|rfl
  · exact pr_two
  · exact pr_3
  · exact pr_3
  · exact pr_5
  · exact pr_11
  )
theorem pr_8574133:Pr 8574133:=cert_pr 2 [2,2,3,7,103,991] (by decide +kernel) (by
  intro l hl
  simp only[List.mem_cons,List.not_mem_nil,or_false] at hl
  rcases hl with rfl|rfl|rfl|rfl|rfl|rfl
  · exact pr_two
  · exact pr_two
  · exact pr_3
  · exact pr_7
  · exact pr_103
  · exact pr_991
  )
theorem pr_1919519569386763:Pr 1919519569386763:=cert_pr 2 [2,3,7,19,47,47,127,8574133] (by decide +kernel) (by
  intro l hl
  simp only[List.mem_cons,List.not_mem_nil,or_false] at hl
  rcases hl with rfl|rfl|rfl|rfl|rfl|rfl|rfl|rfl
  · exact pr_two
  · exact pr_3
  · exact pr_7
  · exact pr_19
  · exact pr_47
  · exact pr_47
  · exact pr_127
  · exact pr_8574133
  )
theorem pr_75445702479781427272750846543864801:Pr 75445702479781427272750846543864801:=cert_pr 7 [2,2,2,2,2,3,3,5,5,75707,72106336199,1919519569386763] (by decide +kernel) (by
  intro l hl
  simp only[List.mem_cons,List.not_mem_nil,or_false] at hl
  rcases hl with rfl|rfl|rfl|rfl|rfl|rfl|rfl|rfl|rfl|rfl|rfl|rfl
  · exact pr_two
  · exact pr_two
  · exact pr_two
  · exact pr_two
  · exact pr_two
  · exact pr_3
  · exact pr_3
  · exact pr_5
  · exact pr_5
  · exact pr_75707
  · exact pr_72106336199
  · exact pr_1919519569386763
  )
theorem pr_74058212732561358302231226437062788676166966415465897661863160754340907:Pr 74058212732561358302231226437062788676166966415465897661863160754340907:=cert_pr 2 [2,3,353,57467,132049,1923133,31757755568855353,75445702479781427272750846543864801] (by decide +kernel) (by
  intro l hl
  simp only[List.mem_cons,List.not_mem_nil,or_false] at hl
  rcases hl with rfl|rfl|rfl|rfl|rfl|rfl|rfl|rfl
  · exact pr_two
  · exact pr_3
  · exact pr_353
  · exact pr_57467
  · exact pr_132049
  · exact pr_1923133
  · exact pr_31757755568855353
  · exact pr_75445702479781427272750846543864801
  )
theorem p_cert:cert 2 p [2,2,3,65147,74058212732561358302231226437062788676166966415465897661863160754340907]=true:=by decide +kernel
theorem p_list:∀l∈[2,2,3,65147,74058212732561358302231226437062788676166966415465897661863160754340907],Pr l:=by
  intro l hl
  simp only[List.mem_cons,List.not_mem_nil,or_false] at hl
  rcases hl with rfl|rfl|rfl|rfl|rfl
  · exact pr_two
  · exact pr_two
  · exact pr_3
  · exact pr_65147
  · exact pr_74058212732561358302231226437062788676166966415465897661863160754340907
theorem p_prime:Pr p:=cert_pr 2 _ p_cert p_list
theorem p_fermat (a:Nat) (h0:0 < a) (ha:a < p):a ^ (p - 1) % p=1:=by
  obtain⟨h1,h2,h3,h4⟩:=cert_out p_cert
  exact fermat h1 _ p_list h2 h3 h4 a h0 ha
end Go.Proofs.Fd
/- The order of the base,2^252+27742317777372353535851937790883648493,is a prime,by certificates. -/
namespace Go.Proofs.Fd
theorem pr_34123:Pr 34123:=cert_pr 2 [2,3,11,11,47] (by decide +kernel) (by
  intro l hl
  simp only[List.mem_cons,List.not_mem_nil,or_false] at hl
  rcases hl with rfl|rfl|rfl|rfl|rfl
  · exact pr_two
  · exact pr_3
  · exact pr_11
  · exact pr_11
  · exact pr_47
  )
theorem pr_409477:Pr 409477:=cert_pr 2 [2,2,3,34123] (by decide +kernel) (by
  intro l hl
  simp only[List.mem_cons,List.not_mem_nil,or_false] at hl
  rcases hl with rfl|rfl|rfl|rfl
  · exact pr_two
  · exact pr_two
  · exact pr_3
  · exact pr_34123
  )
theorem pr_14741173:Pr 14741173:=cert_pr 2 [2,2,3,3,409477] (by decide +kernel) (by
  intro l hl
  simp only[List.mem_cons,List.not_mem_nil,or_false] at hl
  rcases hl with rfl|rfl|rfl|rfl|rfl
  · exact pr_two
  · exact pr_two
  · exact pr_3
  · exact pr_3
  · exact pr_409477
  )
theorem pr_58964693:Pr 58964693:=cert_pr 2 [2,2,14741173] (by decide +kernel) (by
  intro l hl
  simp only[List.mem_cons,List.not_mem_nil,or_false] at hl
  rcases hl with rfl|rfl|rfl
  · exact pr_two
  · exact pr_two
  · exact pr_14741173
  )
theorem pr_30703:Pr 30703:=cert_pr 3 [2,3,7,17,43] (by decide +kernel) (by
  intro l hl
  simp only[List.mem_cons,List.not_mem_nil,or_false] at hl
  rcases hl with rfl|rfl|rfl|rfl|rfl
  · exact pr_two
  · exact pr_3
  · exact pr_7
  · exact pr_17
  · exact pr_43
  )
theorem pr_79:Pr 79:=cert_pr 3 [2,3,13] (by decide +kernel) (by
  intro l hl
  simp only[List.mem_cons,List.not_mem_nil,or_false] at hl
  rcases hl with rfl|rfl|rfl
  · exact pr_two
  · exact pr_3
  · exact pr_13
  )
theorem pr_41081:Pr 41081:=cert_pr 3 [2,2,2,5,13,79] (by decide +kernel) (by
  intro l hl
  simp only[List.mem_cons,List.not_mem_nil,or_false] at hl
  rcases hl with rfl|rfl|rfl|rfl|rfl|rfl
  · exact pr_two
  · exact pr_two
  · exact pr_two
  · exact pr_5
  · exact pr_13
  · exact pr_79
  )
theorem pr_82163:Pr 82163:=cert_pr 2 [2,41081] (by decide +kernel) (by
  intro l hl
  simp only[List.mem_cons,List.not_mem_nil,or_false] at hl
  rcases hl with rfl|rfl
  · exact pr_two
  · exact pr_41081
  )
theorem pr_17231:Pr 17231:=cert_pr 13 [2,5,1723] (by decide +kernel) (by
  intro l hl
  simp only[List.mem_cons,List.not_mem_nil,or_false] at hl
  rcases hl with rfl|rfl|rfl
  · exact pr_two
  · exact pr_5
  · exact pr_1723
  )
theorem pr_137849:Pr 137849:=cert_pr 3 [2,2,2,17231] (by decide +kernel) (by
  intro l hl
  simp only[List.mem_cons,List.not_mem_nil,or_false] at hl
  rcases hl with rfl|rfl|rfl|rfl
  · exact pr_two
  · exact pr_two
  · exact pr_two
  · exact pr_17231
  )
theorem pr_67:Pr 67:=cert_pr 2 [2,3,11] (by decide +kernel) (by
  intro l hl
  simp only[List.mem_cons,List.not_mem_nil,or_false] at hl
  rcases hl with rfl|rfl|rfl
  · exact pr_two
  · exact pr_3
  · exact pr_11
  )
theorem pr_22111:Pr 22111:=cert_pr 6 [2,3,5,11,67] (by decide +kernel) (by
  intro l hl
  simp only[List.mem_cons,List.not_mem_nil,or_false] at hl
  rcases hl with rfl|rfl|rfl|rfl|rfl
  · exact pr_two
  · exact pr_3
  · exact pr_5
  · exact pr_11
  · exact pr_67
  )
theorem pr_132667:Pr 132667:=cert_pr 5 [2,3,22111] (by decide +kernel) (by
  intro l hl
  simp only[List.mem_cons,List.not_mem_nil,or_false] at hl
  rcases hl with rfl|rfl|rfl
  · exact pr_two
  · exact pr_3
  · exact pr_22111
  )
theorem pr_3044861653679985063343:Pr 3044861653679985063343:=cert_pr 5 [2,3,11,30703,82163,132667,137849] (by decide +kernel) (by
  intro l hl
  simp only[List.mem_cons,List.not_mem_nil,or_false] at hl
  rcases hl with rfl|rfl|rfl|rfl|rfl|rfl|rfl
  · exact pr_two
  · exact pr_3
  · exact pr_11
  · exact pr_30703
  · exact pr_82163
  · exact pr_132667
  · exact pr_137849
  )
theorem pr_198211423230930754013084525763697:Pr 198211423230930754013084525763697:=cert_pr 5 [2,2,2,2,3,23,58964693,3044861653679985063343] (by decide +kernel) (by
  intro l hl
  simp only[List.mem_cons,List.not_mem_nil,or_false] at hl
  rcases hl with rfl|rfl|rfl|rfl|rfl|rfl|rfl|rfl
  · exact pr_two
  · exact pr_two
  · exact pr_two
  · exact pr_two
  · exact pr_3
  · exact pr_23
  · exact pr_58964693
  · exact pr_3044861653679985063343
  )
theorem pr_2851:Pr 2851:=cert_pr 2 [2,3,5,5,19] (by decide +kernel) (by
  intro l hl
  simp only[List.mem_cons,List.not_mem_nil,or_false] at hl
  rcases hl with rfl|rfl|rfl|rfl|rfl
  · exact pr_two
  · exact pr_3
  · exact pr_5
  · exact pr_5
  · exact pr_19
  )
theorem pr_2551:Pr 2551:=cert_pr 6 [2,3,5,5,17] (by decide +kernel) (by
  intro l hl
  simp only[List.mem_cons,List.not_mem_nil,or_false] at hl
  rcases hl with rfl|rfl|rfl|rfl|rfl
  · exact pr_two
  · exact pr_3
  · exact pr_5
  · exact pr_5
  · exact pr_17
  )
theorem pr_1224481:Pr 1224481:=cert_pr 13 [2,2,2,2,2,3,5,2551] (by decide +kernel) (by
  intro l hl
  simp only[List.mem_cons,List.not_mem_nil,or_false] at hl
  rcases hl with rfl|rfl|rfl|rfl|rfl|rfl|rfl|rfl
  · exact pr_two
  · exact pr_two
  · exact pr_two
  · exact pr_two
  · exact pr_two
  · exact pr_3
  · exact pr_5
  · exact pr_2551
  )
theorem pr_73:Pr 73:=cert_pr 5 [2,2,2,3,3] (by decide +kernel) (by
  intro l hl
  simp only[List.mem_cons,List.not_mem_nil,or_false] at hl
  rcases hl with rfl|rfl|rfl|rfl|rfl
  · exact pr_two
  · exact pr_two
  · exact pr_two
  · exact pr_3
  · exact pr_3
  )
theorem pr_3797:Pr 3797:=cert_pr 2 [2,2,13,73] (by decide +kernel) (by
  intro l hl
  simp only[List.mem_cons,List.not_mem_nil,or_false] at hl
  rcases hl with rfl|rfl|rfl|rfl
  · exact pr_two
  · exact pr_two
  · exact pr_13
  · exact pr_73
  )
theorem pr_531581:Pr 531581:=cert_pr 2 [2,2,5,7,3797] (by decide +kernel) (by
  intro l hl
  simp only[List.mem_cons,List.not_mem_nil,or_false] at hl
  rcases hl with rfl|rfl|rfl|rfl|rfl
  · exact pr_two
  · exact pr_two
  · exact pr_5
  · exact pr_7
  · exact pr_3797
  )
theorem pr_1257559732178653:Pr 1257559732178653:=cert_pr 2 [2,2,3,7,23,531581,1224481] (by decide +kernel) (by
  intro l hl
  simp only[List.mem_cons,List.not_mem_nil,or_false] at hl
  rcases hl with rfl|rfl|rfl|rfl|rfl|rfl|rfl
  · exact pr_two
  · exact pr_two
  · exact pr_3
  · exact pr_7
  · exact pr_23
  · exact pr_531581
  · exact pr_1224481
  )
theorem pr_4434155615661930479:Pr 4434155615661930479:=cert_pr 17 [2,41,43,1257559732178653] (by decide +kernel) (by
  intro l hl
  simp only[List.mem_cons,List.not_mem_nil,or_false] at hl
  rcases hl with rfl|rfl|rfl|rfl
  · exact pr_two
  · exact pr_41
  · exact pr_43
  · exact pr_1257559732178653
  )
theorem pr_1361:Pr 1361:=cert_pr 3 [2,2,2,2,5,17] (by decide +kernel) (by
  intro l hl
  simp only[List.mem_cons,List.not_mem_nil,or_false] at hl
  rcases hl with rfl|rfl|rfl|rfl|rfl|rfl
  · exact pr_two
  · exact pr_two
  · exact pr_two
  · exact pr_two
  · exact pr_5
  · exact pr_17
  )
theorem pr_172054593956031949258510691:Pr 172054593956031949258510691:=cert_pr 2 [2,5,1361,2851,4434155615661930479] (by decide +kernel) (by
  intro l hl
  simp only[List.mem_cons,List.not_mem_nil,or_false] at hl
  rcases hl with rfl|rfl|rfl|rfl|rfl
  · exact pr_two
  · exact pr_5
  · exact pr_1361
  · exact pr_2851
  · exact pr_4434155615661930479
  )
theorem pr_269:Pr 269:=cert_pr 2 [2,2,67] (by decide +kernel) (by
  intro l hl
  simp only[List.mem_cons,List.not_mem_nil,or_false] at hl
  rcases hl with rfl|rfl|rfl
  · exact pr_two
  · exact pr_two
  · exact pr_67
  )
theorem pr_307:Pr 307:=cert_pr 5 [2,3,3,17] (by decide +kernel) (by
  intro l hl
  simp only[List.mem_cons,List.not_mem_nil,or_false] at hl
  rcases hl with rfl|rfl|rfl|rfl
  · exact pr_two
  · exact pr_3
  · exact pr_3
  · exact pr_17
  )
theorem pr_113:Pr 113:=cert_pr 3 [2,2,2,2,7] (by decide +kernel) (by
  intro l hl
  simp only[List.mem_cons,List.not_mem_nil,or_false] at hl
  rcases hl with rfl|rfl|rfl|rfl|rfl
  · exact pr_two
  · exact pr_two
  · exact pr_two
  · exact pr_two
  · exact pr_7
  )
theorem pr_2939:Pr 2939:=cert_pr 2 [2,13,113] (by decide +kernel) (by
  intro l hl
  simp only[List.mem_cons,List.not_mem_nil,or_false] at hl
  rcases hl with rfl|rfl|rfl
  · exact pr_two
  · exact pr_13
  · exact pr_113
  )
theorem pr_5879:Pr 5879:=cert_pr 11 [2,2939] (by decide +kernel) (by
  intro l hl
  simp only[List.mem_cons,List.not_mem_nil,or_false] at hl
  rcases hl with rfl|rfl
  · exact pr_two
  · exact pr_2939
  )
theorem pr_292386187:Pr 292386187:=cert_pr 2 [2,3,3,3,3,307,5879] (by decide +kernel) (by
  intro l hl
  simp only[List.mem_cons,List.not_mem_nil,or_false] at hl
  rcases hl with rfl|rfl|rfl|rfl|rfl|rfl|rfl
  · exact pr_two
  · exact pr_3
  · exact pr_3
  · exact pr_3
  · exact pr_3
  · exact pr_307
  · exact pr_5879
  )
theorem pr_213441916511:Pr 213441916511:=cert_pr 13 [2,5,73,292386187] (by decide +kernel) (by
  intro l hl
  simp only[List.mem_cons,List.not_mem_nil,or_false] at hl
  rcases hl with rfl|rfl|rfl|rfl
  · exact pr_two
  · exact pr_5
  · exact pr_73
  · exact pr_292386187
  )
theorem pr_19757330305831588566944191468367130476339:Pr 19757330305831588566944191468367130476339:=cert_pr 2 [2,269,213441916511,172054593956031949258510691] (by decide +kernel) (by
  intro l hl
  simp only[List.mem_cons,List.not_mem_nil,or_false] at hl
  rcases hl with rfl|rfl|rfl|rfl
  · exact pr_two
  · exact pr_269
  · exact pr_213441916511
  · exact pr_172054593956031949258510691
  )
theorem pr_276602624281642239937218680557139826668747:Pr 276602624281642239937218680557139826668747:=cert_pr 2 [2,7,19757330305831588566944191468367130476339] (by decide +kernel) (by
  intro l hl
  simp only[List.mem_cons,List.not_mem_nil,or_false] at hl
  rcases hl with rfl|rfl|rfl
  · exact pr_two
  · exact pr_7
  · exact pr_19757330305831588566944191468367130476339
  )
theorem pr_7237005577332262213973186563042994240857116359379907606001950938285454250989:Pr 7237005577332262213973186563042994240857116359379907606001950938285454250989:=cert_pr 2 [2,2,3,11,198211423230930754013084525763697,276602624281642239937218680557139826668747] (by decide +kernel) (by
  intro l hl
  simp only[List.mem_cons,List.not_mem_nil,or_false] at hl
  rcases hl with rfl|rfl|rfl|rfl|rfl|rfl
  · exact pr_two
  · exact pr_two
  · exact pr_3
  · exact pr_11
  · exact pr_198211423230930754013084525763697
  · exact pr_276602624281642239937218680557139826668747
  )
end Go.Proofs.Fd
/- Inverses. -/
namespace Go.Proofs.Fd
theorem inv_mul {a:Nat} (h0:0 < a) (ha:a < p):a*(a ^ (p - 2) % p) % p=1:=by
  rw[Nat.mul_mod_mod,←Nat.pow_succ',show (p - 2).succ=p - 1 by decide,p_fermat a h0 ha]
theorem inv_zero:0 ^ (p - 2) % p=0:=by
  rw[Nat.zero_pow (by decide)];rfl
end Go.Proofs.Fd
/- Plain arithmetic of numbers in digits to the base 2^26. -/
namespace Go.Proofs.Fd
def vN:Nat→(Nat→Int)→Int
  | 0,_=>0
  | n+1,d=>vN n d+d n*67108864 ^ n
def cy (d:Nat→Int):Nat→Int
  | 0=>0
  | i+1=>(d i+cy d i) / 67108864
def md (d:Nat→Int) (i:Nat):Int:=(d i+cy d i) % 67108864
def st (d:Nat→Int) (k j:Nat):Int:=if j < k then md d j else if j=k then d j+cy d j else d j
def ev (d:Nat→Int) (j:Nat):Int:=st d 9 j
theorem cy_val (d:Nat→Int) (i:Nat):vN i (md d)+cy d i*67108864 ^ i=vN i d:=by
  induction i with
  | zero=>simp[vN,cy]
  | succ i ih =>
    simp only[vN,cy,md]
    have e:d i+cy d i=(d i+cy d i) % 67108864+67108864*((d i+cy d i) / 67108864):=by omega
    have e2:(67108864:Int) ^ (i+1)=67108864 ^ i*67108864:=Int.pow_succ ..
    rw[e2]
    generalize (d i+cy d i) % 67108864=r at *
    generalize (d i+cy d i) / 67108864=q at *
    have e3:d i*67108864 ^ i=(r+67108864*q - cy d i)*67108864 ^ i:=by rw[←e];congr 1;omega
    rw[e3,←ih]
    generalize (67108864:Int) ^ i=P
    grind
theorem cy_bd (d:Nat→Int) (i:Nat) (h:∀j,j < i → -1152921504606846976≤d j∧d j≤1152921504606846976) : -34359738368≤cy d i∧cy d i≤34359738368:=by
  induction i with
  | zero=>simp[cy]
  | succ i ih =>
    have h1:=ih (fun j hj=>h j (by omega))
    have h2:=h i (by omega)
    simp only[cy];omega
theorem md_bd (d:Nat→Int) (i:Nat):0≤md d i∧md d i < 67108864:=by unfold md;omega
end Go.Proofs.Fd
/- Digits to the base 2^26: which number is less;a number modulo 2^255 - 19. -/
namespace Go.Proofs.Fd
theorem vN_bd (n:Nat) (d:Nat→Int) (h:∀j,j < n→0≤d j∧d j < 67108864):0≤vN n d∧vN n d < 67108864 ^ n:=by
  induction n with
  | zero=>simp[vN]
  | succ n ih =>
    have h1:=ih (fun j hj=>h j (by omega))
    have h2:=h n (by omega)
    simp only[vN]
    have hp:(0:Int) < 67108864 ^ n:=Int.pow_pos (by decide)
    have e2:(67108864:Int) ^ (n+1)=67108864 ^ n*67108864:=Int.pow_succ ..
    rw[e2]
    generalize (67108864:Int) ^ n=P at *
    have a1:0≤d n*P:=Int.mul_nonneg h2.1 (by omega)
    have a2:d n*P≤67108863*P:=Int.mul_le_mul_of_nonneg_right (by omega) (by omega)
    constructor <;> omega
theorem vN_same (a b:Nat→Int) (k n:Nat) (hk:k < n) (h:∀j,k < j→j < n→a j=b j):vN n a - vN n b=vN (k+1) a - vN (k+1) b:=by
  induction n with
  | zero=>omega
  | succ n ih =>
    by_cases e:k=n
    · subst e;rfl
    · have:=ih (by omega) (fun j h1 h2=>h j h1 (by omega))
      have e1:=h n (by omega) (by omega)
      rw[←this]
      show vN n a+a n*67108864 ^ n - (vN n b+b n*67108864 ^ n)=vN n a - vN n b
      rw[e1];omega
theorem vN_congr (a b:Nat→Int) (n:Nat) (h:∀j,j < n→a j=b j):vN n a=vN n b:=by
  induction n with
  | zero=>rfl
  | succ n ih=>simp only[vN];rw[ih (fun j hj=>h j (by omega)),h n (by omega)]
theorem vN_less (a b:Nat→Int) (k n:Nat) (hk:k < n) (ha:∀j,j < n→0≤a j∧a j < 67108864) (hb:∀j,j < n→0≤b j∧b j < 67108864)
    (h:∀j,k < j→j < n→a j=b j) (hlt:a k < b k):vN n a < vN n b:=by
  have h1:=vN_same a b k n hk h
  have h2:=vN_bd k a (fun j hj=>ha j (by omega))
  have h3:=vN_bd k b (fun j hj=>hb j (by omega))
  simp only[vN] at h1
  have hp:(0:Int) < 67108864 ^ k:=Int.pow_pos (by decide)
  generalize (67108864:Int) ^ k=P at *
  have a2:(a k+1)*P≤b k*P:=Int.mul_le_mul_of_nonneg_right (by omega) (by omega)
  rw[Int.add_mul] at a2
  omega
def pd (j:Nat):Int:=if j=0 then 67108845 else if j=9 then 2097151 else 67108863
theorem pd_val:vN 10 pd=(p:Int):=by decide
def can (d:Nat→Int):Prop:=∀j,j < 10→0≤d j∧d j < 67108864
theorem pd_can:can pd:=by
  intro j hj;unfold pd;split
  · omega
  · split <;> omega
theorem ev_val (d:Nat→Int):vN 10 (ev d)=vN 10 d:=by
  have h:=cy_val d 9
  have e:vN 9 (ev d)=vN 9 (md d):=vN_congr _ _ 9 (fun j hj=>by unfold ev st;rw[if_pos hj])
  have e9:ev d 9=d 9+cy d 9:=by unfold ev st;rw[if_neg (by omega),if_pos rfl]
  show vN 9 (ev d)+ev d 9*67108864 ^ 9=vN 9 d+d 9*67108864 ^ 9
  rw[e,e9,←h,Int.add_mul]
  omega
theorem ev_low (d:Nat→Int) (j:Nat) (hj:j < 9):0≤ev d j∧ev d j < 67108864:=by
  unfold ev st;rw[if_pos hj];exact md_bd d j
theorem ev_top (d:Nat→Int):ev d 9=vN 10 d / 27606985387162255149739023449108101809804435888681546220650096895197184:=by
  have h1:=ev_val d
  have h2:=vN_bd 9 (ev d) (fun j hj=>ev_low d j hj)
  have e:vN 10 (ev d)=vN 9 (ev d)+ev d 9*67108864 ^ 9:=rfl
  have e9:(67108864:Int) ^ 9=27606985387162255149739023449108101809804435888681546220650096895197184:=by decide
  rw[e9] at e h2
  omega
def fo (d:Nat→Int) (j:Nat):Int :=
  if j=0 then ev d 0+19*(ev d 9 / 2097152) else if j=9 then ev d 9 - ev d 9 / 2097152*2097152 else ev d j
theorem vN10 (d:Nat→Int):vN 10 d=d 0+d 1*67108864+d 2*67108864 ^ 2+d 3*67108864 ^ 3+d 4*67108864 ^ 4+d 5*67108864 ^ 5+d 6*67108864 ^ 6+d 7*67108864 ^ 7+d 8*67108864 ^ 8+d 9*67108864 ^ 9:=by
  simp[vN]
theorem fo_val (d:Nat→Int):vN 10 (fo d)=vN 10 d - vN 10 d / 57896044618658097711785492504343953926634992332820282019728792003956564819968*57896044618658097711785492504343953926634992332820282019728792003956564819949:=by
  have h1:=ev_val d
  have h2:=ev_top d
  have e9:(67108864:Int) ^ 9=27606985387162255149739023449108101809804435888681546220650096895197184:=by decide
  have q:ev d 9 / 2097152=vN 10 d / 57896044618658097711785492504343953926634992332820282019728792003956564819968:=by rw[h2];omega
  have e:vN 10 (fo d)=vN 10 (ev d)+19*(ev d 9 / 2097152) - ev d 9 / 2097152*2097152*67108864 ^ 9:=by
    rw[vN10,vN10]
    have f0:fo d 0=ev d 0+19*(ev d 9 / 2097152):=rfl
    have f9:fo d 9=ev d 9 - ev d 9 / 2097152*2097152:=rfl
    have f1:fo d 1=ev d 1:=rfl
    have f2:fo d 2=ev d 2:=rfl
    have f3:fo d 3=ev d 3:=rfl
    have f4:fo d 4=ev d 4:=rfl
    have f5:fo d 5=ev d 5:=rfl
    have f6:fo d 6=ev d 6:=rfl
    have f7:fo d 7=ev d 7:=rfl
    have f8:fo d 8=ev d 8:=rfl
    rw[f0,f1,f2,f3,f4,f5,f6,f7,f8,f9,Int.sub_mul];omega
  rw[e,h1,e9,q]
  omega
theorem fold_step (v:Int) (h0:0≤v):0≤v - v / 57896044618658097711785492504343953926634992332820282019728792003956564819968*57896044618658097711785492504343953926634992332820282019728792003956564819949
    ∧ (v - v / 57896044618658097711785492504343953926634992332820282019728792003956564819968*57896044618658097711785492504343953926634992332820282019728792003956564819949) % (p:Int)=v % (p:Int):=by
  constructor
  · omega
  · have e:v - v / 57896044618658097711785492504343953926634992332820282019728792003956564819968*57896044618658097711785492504343953926634992332820282019728792003956564819949=v+(p:Int)*(-(v / 57896044618658097711785492504343953926634992332820282019728792003956564819968)):=by
      unfold p;omega
    rw[e,Int.add_mul_emod_self_left]
theorem fold_less1 (v:Int) (h0:0≤v) (h:v < 2 ^ 270):v - v / 57896044618658097711785492504343953926634992332820282019728792003956564819968*57896044618658097711785492504343953926634992332820282019728792003956564819949 < 57896044618658097711785492504343953926634992332820282019728792003956565868544:=by
  omega
theorem fold_less2 (v:Int) (h0:0≤v) (h:v < 57896044618658097711785492504343953926634992332820282019728792003956565868544):v - v / 57896044618658097711785492504343953926634992332820282019728792003956564819968*57896044618658097711785492504343953926634992332820282019728792003956564819949 < 57896044618658097711785492504343953926634992332820282019728792003956564819968:=by
  omega
theorem fold_less3 (v:Int) (h0:0≤v) (h:v < 57896044618658097711785492504343953926634992332820282019728792003956564819968):v - v / 57896044618658097711785492504343953926634992332820282019728792003956564819968*57896044618658097711785492504343953926634992332820282019728792003956564819949 < 57896044618658097711785492504343953926634992332820282019728792003956564819968:=by
  omega
end Go.Proofs.Fd
/- Digits to the base 2^26: products. -/
namespace Go.Proofs.Fd
theorem vN_add (n:Nat) (f g:Nat→Int):vN n (fun j=>f j+g j)=vN n f+vN n g:=by
  induction n with
  | zero=>rfl
  | succ n ih=>simp only[vN];rw[ih,Int.add_mul];omega
theorem vN_zero (n:Nat) (f:Nat→Int) (h:∀j,j < n→f j=0):vN n f=0:=by
  induction n with
  | zero=>rfl
  | succ n ih=>simp only[vN];rw[ih (fun j hj=>h j (by omega)),h n (by omega)];simp
def shf (c:Int) (b:Nat→Int) (i j:Nat):Int:=if i≤j∧j < i+10 then c*b (j - i) else 0
theorem shf_part (c:Int) (b:Nat→Int) (i k:Nat) (hk:k≤10):vN (i+k) (shf c b i)=c*67108864 ^ i*vN k b:=by
  induction k with
  | zero=>rw[Nat.add_zero,vN_zero i _ (fun j hj=>by unfold shf;rw[if_neg (by omega)])];simp[vN]
  | succ k ih =>
    have h1:=ih (by omega)
    show vN (i+k) (shf c b i)+shf c b i (i+k)*67108864 ^ (i+k)=c*67108864 ^ i*(vN k b+b k*67108864 ^ k)
    rw[h1]
    have e:shf c b i (i+k)=c*b k:=by unfold shf;rw[if_pos (by omega),Nat.add_sub_cancel_left]
    rw[e,Int.pow_add]
    generalize (67108864:Int) ^ i=P
    generalize (67108864:Int) ^ k=Q
    grind
theorem shf_rest (c:Int) (b:Nat→Int) (i m:Nat):vN (i+10+m) (shf c b i)=vN (i+10) (shf c b i):=by
  induction m with
  | zero=>rfl
  | succ m ih =>
    show vN (i+10+m) (shf c b i)+shf c b i (i+10+m)*67108864 ^ (i+10+m)=_
    have e:shf c b i (i+10+m)=0:=by unfold shf;rw[if_neg (by omega)]
    rw[ih,e];simp
theorem shf_val (c:Int) (b:Nat→Int) (i:Nat) (hi:i≤10):vN 20 (shf c b i)=c*67108864 ^ i*vN 10 b:=by
  have h:=shf_rest c b i (10 - i)
  rw[show i+10+(10 - i)=20 by omega] at h
  rw[h,shf_part c b i 10 (by omega)]
def pr (a b:Nat→Int):Nat→Nat→Int
  | 0,_=>0
  | i+1,j=>pr a b i j+shf (a i) b i j
theorem pr_val (a b:Nat→Int) (i:Nat) (hi:i≤10):vN 20 (pr a b i)=vN i a*vN 10 b:=by
  induction i with
  | zero=>rw[vN_zero 20 (pr a b 0) (fun _ _=>rfl)];simp[vN]
  | succ i ih =>
    have e:vN 20 (pr a b (i+1))=vN 20 (pr a b i)+vN 20 (shf (a i) b i):=vN_add 20 (pr a b i) (shf (a i) b i)
    rw[e,ih (by omega),shf_val _ _ _ (by omega)]
    simp only[vN]
    rw[Int.add_mul]
theorem prod_bd {x y:Int} (hx:0≤x∧x < 67108864) (hy:0≤y∧y < 67108864):0≤x*y∧x*y≤4503599627370496:=by
  refine⟨Int.mul_nonneg hx.1 hy.1,?_⟩
  have h1:x*y≤67108864*y:=Int.mul_le_mul_of_nonneg_right (by omega) hy.1
  omega
theorem shf_bd (c:Int) (b:Nat→Int) (hc:0≤c∧c < 67108864) (hb:can b) (i j:Nat):0≤shf c b i j∧shf c b i j≤4503599627370496:=by
  unfold shf
  split
  · exact prod_bd hc (hb _ (by omega))
  · omega
theorem pr_bd (a b:Nat→Int) (ha:can a) (hb:can b) (i j:Nat) (hi:i≤10):0≤pr a b i j∧pr a b i j≤4503599627370496*i:=by
  induction i with
  | zero=>simp[pr]
  | succ i ih =>
    have h1:=ih (by omega)
    have h2:=shf_bd (a i) b (ha i (by omega)) hb i j
    simp only[pr];omega
def wf (a b:Nat→Int) (i k j:Nat):Int:=pr a b i j+(if i≤j∧j < i+k then a i*b (j - i) else 0)
theorem wf_zero (a b:Nat→Int) (i j:Nat):wf a b i 0 j=pr a b i j:=by unfold wf;rw[if_neg (by omega)];omega
theorem wf_full (a b:Nat→Int) (i j:Nat):wf a b i 10 j=pr a b (i+1) j:=rfl
theorem wf_here (a b:Nat→Int) (i k:Nat):wf a b i k (i+k)=pr a b i (i+k):=by unfold wf;rw[if_neg (by omega)];omega
theorem wf_next (a b:Nat→Int) (i k j:Nat):(if j=i+k then pr a b i (i+k)+a i*b k else wf a b i k j)=wf a b i (k+1) j:=by
  unfold wf
  by_cases e:j=i+k
  · rw[if_pos e,if_pos (by omega),e,Nat.add_sub_cancel_left]
  · rw[if_neg e]
    by_cases h:i≤j∧j < i+k
    · rw[if_pos h,if_pos (by omega)]
    · rw[if_neg h,if_neg (by omega)]
theorem st_val (d:Nat→Int) (n:Nat):vN (n+1) (st d n)=vN (n+1) d:=by
  have h:=cy_val d n
  have e:vN n (st d n)=vN n (md d):=vN_congr _ _ n (fun j hj=>by unfold st;rw[if_pos hj])
  have e9:st d n n=d n+cy d n:=by unfold st;rw[if_neg (by omega),if_pos rfl]
  show vN n (st d n)+st d n n*67108864 ^ n=vN n d+d n*67108864 ^ n
  rw[e,e9,←h,Int.add_mul]
  omega
theorem st_low (d:Nat→Int) (n j:Nat) (hj:j < n):0≤st d n j∧st d n j < 67108864:=by
  unfold st;rw[if_pos hj];exact md_bd d j
theorem vN_split (n m:Nat) (d:Nat→Int):vN (n+m) d=vN n d+67108864 ^ n*vN m (fun j=>d (n+j)):=by
  induction m with
  | zero=>simp[vN]
  | succ m ih =>
    show vN (n+m) d+d (n+m)*67108864 ^ (n+m)=vN n d+67108864 ^ n*(vN m (fun j=>d (n+j))+d (n+m)*67108864 ^ m)
    rw[ih,Int.pow_add]
    generalize (67108864:Int) ^ n=P
    generalize (67108864:Int) ^ m=Q
    grind
def wd20 (a b:Nat→Int) (j:Nat):Int:=st (pr a b 10) 19 j
theorem wd20_bd (a b:Nat→Int) (ha:can a) (hb:can b) (j:Nat) (hj:j < 20):0≤wd20 a b j∧wd20 a b j < 67108864:=by
  by_cases h:j < 19
  · exact st_low _ 19 j h
  · have e:j=19:=by omega
    subst e
    have h1:vN 20 (wd20 a b)=vN 10 a*vN 10 b:=(st_val (pr a b 10) 19).trans (pr_val a b 10 (by omega))
    have h2:=vN_bd 19 (wd20 a b) (fun j hj=>st_low _ 19 j hj)
    have h3:=vN_bd 10 a ha
    have h4:=vN_bd 10 b hb
    have e1:vN 20 (wd20 a b)=vN 19 (wd20 a b)+wd20 a b 19*67108864 ^ 19:=rfl
    have c19:(67108864:Int) ^ 19=51146728248377216718956089012931236753385031969422887335676427626502090568823039920051095192592252455482604439493126109519019633529459266458258243584:=by decide
    have c10:(67108864:Int) ^ 10=1852673427797059126777135760139006525652319754650249024631321344126610074238976:=by decide
    rw[c19] at e1 h2
    rw[c10] at h3 h4
    have h5:vN 10 a*vN 10 b≤1852673427797059126777135760139006525652319754650249024631321344126610074238975*vN 10 b:=Int.mul_le_mul_of_nonneg_right (by omega) h4.1
    have h6:0≤vN 10 a*vN 10 b:=Int.mul_nonneg h3.1 h4.1
    rw[h1] at e1
    generalize vN 10 a*vN 10 b=v at *
    omega
def tm (a b:Nat→Int) (k j:Nat):Int:=if j < k then wd20 a b j+608*wd20 a b (10+j) else 0
theorem tm_next (a b:Nat→Int) (k j:Nat):(if j=k then wd20 a b k+608*wd20 a b (10+k) else tm a b k j)=tm a b (k+1) j:=by
  unfold tm
  by_cases e:j=k
  · rw[if_pos e,if_pos (by omega),e]
  · rw[if_neg e]
    by_cases e2:j < k
    · rw[if_pos e2,if_pos (by omega)]
    · rw[if_neg e2,if_neg (by omega)]
theorem tm_val (a b:Nat→Int) (ha:can a) (hb:can b):0≤vN 10 (tm a b 10)∧vN 10 (tm a b 10) < 1128278117528409008207275677924654974122262730582001656000474698573105535211536384∧vN 10 (tm a b 10) % (p:Int)=(vN 10 a*vN 10 b) % (p:Int):=by
  have h1:vN 20 (wd20 a b)=vN 10 a*vN 10 b:=(st_val (pr a b 10) 19).trans (pr_val a b 10 (by omega))
  have h2:=vN_split 10 10 (wd20 a b)
  have l1:=vN_bd 10 (wd20 a b) (fun j hj=>wd20_bd a b ha hb j (by omega))
  have l2:=vN_bd 10 (fun j=>wd20 a b (10+j)) (fun j hj=>wd20_bd a b ha hb (10+j) (by omega))
  have c10:(67108864:Int) ^ 10=1852673427797059126777135760139006525652319754650249024631321344126610074238976:=by decide
  have e:vN 10 (tm a b 10)=vN 10 (wd20 a b)+608*vN 10 (fun j=>wd20 a b (10+j)):=by
    rw[vN10,vN10,vN10]
    have f0:tm a b 10 0=wd20 a b 0+608*wd20 a b (10+0):=rfl
    have f1:tm a b 10 1=wd20 a b 1+608*wd20 a b (10+1):=rfl
    have f2:tm a b 10 2=wd20 a b 2+608*wd20 a b (10+2):=rfl
    have f3:tm a b 10 3=wd20 a b 3+608*wd20 a b (10+3):=rfl
    have f4:tm a b 10 4=wd20 a b 4+608*wd20 a b (10+4):=rfl
    have f5:tm a b 10 5=wd20 a b 5+608*wd20 a b (10+5):=rfl
    have f6:tm a b 10 6=wd20 a b 6+608*wd20 a b (10+6):=rfl
    have f7:tm a b 10 7=wd20 a b 7+608*wd20 a b (10+7):=rfl
    have f8:tm a b 10 8=wd20 a b 8+608*wd20 a b (10+8):=rfl
    have f9:tm a b 10 9=wd20 a b 9+608*wd20 a b (10+9):=rfl
    rw[f0,f1,f2,f3,f4,f5,f6,f7,f8,f9]
    omega
  rw[c10] at h2 l1 l2
  have h3:vN 20 (wd20 a b)=vN 10 (wd20 a b)+1852673427797059126777135760139006525652319754650249024631321344126610074238976*vN 10 (fun j=>wd20 a b (10+j)):=h2
  rw[h1] at h3
  generalize vN 10 (fun j=>wd20 a b (10+j))=hi at *
  generalize vN 10 (wd20 a b)=lo at *
  refine⟨by omega,by omega,?_⟩
  have e2:vN 10 a*vN 10 b=vN 10 (tm a b 10)+(p:Int)*(32*hi):=by
    rw[h3,e];unfold p;omega
  rw[e2,Int.add_mul_emod_self_left]
end Go.Proofs.Fd
/- Digits and bytes of a number,bit by bit. -/
namespace Go.Proofs.Fd
def od (n k j:Nat):Int:=((n % 2 ^ k / 67108864 ^ j % 67108864:Nat):Int)
def bd (n k j:Nat):Int:=((n % 2 ^ k / 256 ^ j % 256:Nat):Int)
theorem bit_next (n k q j:Nat) (hq:0 < q):n % 2 ^ (k+1) / 2 ^ (q*j) % 2 ^ q=(if j=k / q then n % 2 ^ k / 2 ^ (q*j) % 2 ^ q+n / 2 ^ k % 2*2 ^ (k % q) else n % 2 ^ k / 2 ^ (q*j) % 2 ^ q):=by
  have hx:n % 2 ^ (k+1)=n % 2 ^ k+2 ^ k*(n / 2 ^ k % 2):=by rw[Nat.pow_succ,Nat.mod_mul]
  have hlt:n % 2 ^ k < 2 ^ k:=Nat.mod_lt _ (Nat.two_pow_pos k)
  have hb:n / 2 ^ k % 2 < 2:=Nat.mod_lt _ (by decide)
  have hk:=Nat.div_add_mod k q
  have hr:=Nat.mod_lt k hq
  rw[hx]
  generalize n / 2 ^ k % 2=b at *
  generalize n % 2 ^ k=x at *
  rcases Nat.lt_trichotomy j (k / q) with h|h|h
  · rw[if_neg (by omega)]
    have e:q*j+q≤k:=by
      have:q*(j+1)≤q*(k / q):=Nat.mul_le_mul_left q (by omega)
      rw[Nat.mul_add,Nat.mul_one] at this
      omega
    have e2:2 ^ k*b=2 ^ (q*j)*(2 ^ q*(2 ^ (k - (q*j+q))*b)):=by
      rw[←Nat.mul_assoc,←Nat.mul_assoc,←Nat.pow_add,←Nat.pow_add];congr 2;omega
    rw[e2,Nat.add_mul_div_left _ _ (Nat.two_pow_pos _),Nat.add_mul_mod_self_left]
  · subst h
    rw[if_pos rfl]
    have e2:2 ^ k*b=2 ^ (q*(k / q))*(2 ^ (k % q)*b):=by
      rw[←Nat.mul_assoc,←Nat.pow_add,hk]
    have hx2:x / 2 ^ (q*(k / q)) < 2 ^ (k % q):=by
      apply Nat.div_lt_of_lt_mul
      rw[←Nat.pow_add,hk];exact hlt
    have hp:2 ^ (k % q)*2≤2 ^ q:=by rw[←Nat.pow_succ];exact Nat.pow_le_pow_right (by decide) (by omega)
    rw[e2,Nat.add_mul_div_left _ _ (Nat.two_pow_pos _)]
    have hb1:2 ^ (k % q)*b≤2 ^ (k % q):=by
      have:2 ^ (k % q)*b≤2 ^ (k % q)*1:=Nat.mul_le_mul_left _ (by omega)
      omega
    rw[Nat.mod_eq_of_lt (by omega),Nat.mod_eq_of_lt (a:=x / 2 ^ (q*(k / q))) (by omega),Nat.mul_comm b]
  · rw[if_neg (by omega)]
    have e:k+1≤q*j:=by
      have:q*(k / q+1)≤q*j:=Nat.mul_le_mul_left q (by omega)
      rw[Nat.mul_add,Nat.mul_one] at this
      omega
    have hp:2 ^ (k+1)≤2 ^ (q*j):=Nat.pow_le_pow_right (by decide) e
    have hs:x+2 ^ k*b < 2 ^ (k+1):=by
      rw[Nat.pow_succ]
      have:2 ^ k*b≤2 ^ k*1:=Nat.mul_le_mul_left _ (by omega)
      omega
    rw[Nat.div_eq_of_lt (by omega),Nat.div_eq_of_lt (by omega)]
theorem bit_of (n q j r:Nat) (hr:r < q):n / 2 ^ (q*j) % 2 ^ q / 2 ^ r % 2=n / 2 ^ (q*j+r) % 2:=by
  have e:2 ^ q=2 ^ r*2 ^ (q - r):=by rw[←Nat.pow_add];congr 1;omega
  rw[e,Nat.mod_mul_right_div_self,Nat.mod_mod_of_dvd _ ⟨2 ^ (q - r - 1),by rw[←Nat.pow_succ'];congr 1;omega⟩,Nat.div_div_eq_div_mul,←Nat.pow_add]
theorem pow26 (j:Nat):67108864 ^ j=2 ^ (26*j):=by rw[Nat.pow_mul]
theorem pow8 (j:Nat):256 ^ j=2 ^ (8*j):=by rw[Nat.pow_mul]
theorem num_at (l:List UInt8) (i:Nat) (h:i < l.length):num l / 256 ^ i % 256=l[i].toNat:=by
  induction l generalizing i with
  | nil=>simp at h
  | cons b l ih =>
    have hb:b.toNat < 256:=b.toNat_lt
    cases i with
    | zero=>simp only[num,Nat.pow_zero,Nat.div_one,List.getElem_cons_zero];omega
    | succ i =>
      simp only[num,List.getElem_cons_succ]
      rw[Nat.pow_succ,Nat.mul_comm (256 ^ i),←Nat.div_div_eq_div_mul,show (b.toNat+256*num l) / 256=num l by omega]
      exact ih i (by simpa using h)
theorem od_next (n k j:Nat):(if j=k / 26 then od n k (k / 26)+((n / 2 ^ k % 2*2 ^ (k % 26):Nat):Int) else od n k j)=od n (k+1) j:=by
  have h:=bit_next n k 26 j (by decide)
  unfold od
  rw[pow26,pow26,show (67108864:Nat)=2 ^ 26 by decide,h]
  split
  · rename_i e;rw[e];omega
  · rfl
theorem bd_next (n k j:Nat):(if j=k / 8 then bd n k (k / 8)+((n / 2 ^ k % 2*2 ^ (k % 8):Nat):Int) else bd n k j)=bd n (k+1) j:=by
  have h:=bit_next n k 8 j (by decide)
  unfold bd
  rw[pow8,pow8,show (256:Nat)=2 ^ 8 by decide,h]
  split
  · rename_i e;rw[e];omega
  · rfl
theorem od_bd (n k j:Nat):0≤od n k j∧od n k j < 67108864:=by unfold od;omega
theorem bd_bd (n k j:Nat):0≤bd n k j∧bd n k j < 256:=by unfold bd;omega
theorem od_zero (n j:Nat):od n 0 j=0:=by unfold od;rw[Nat.pow_zero,Nat.mod_one,Nat.zero_div];rfl
theorem bd_zero (n j:Nat):bd n 0 j=0:=by unfold bd;rw[Nat.pow_zero,Nat.mod_one,Nat.zero_div];rfl
theorem vN_digits (n m:Nat):vN m (fun j=>((n / 67108864 ^ j % 67108864:Nat):Int))=((n % 67108864 ^ m:Nat):Int):=by
  induction m with
  | zero=>simp[vN,Nat.mod_one]
  | succ m ih =>
    simp only[vN]
    rw[ih,Nat.pow_succ,Nat.mod_mul,Nat.mul_comm (67108864 ^ m)]
    simp
theorem w256_lt_b10:W256 < 67108864 ^ 10:=by decide
theorem od_all (n:Nat) (h:n < W256):can (od n 256)∧vN 10 (od n 256)=(n:Int):=by
  refine⟨fun j _=>od_bd n 256 j,?_⟩
  have e:n % 2 ^ 256=n:=Nat.mod_eq_of_lt h
  have e2:vN 10 (od n 256)=vN 10 (fun j=>((n / 67108864 ^ j % 67108864:Nat):Int)):=vN_congr _ _ 10 (fun j hj=>by unfold od;rw[e])
  rw[e2,vN_digits,Nat.mod_eq_of_lt (Nat.lt_trans h w256_lt_b10)]
theorem can_digit (c:Nat→Int) (n:Nat) (hc:can c) (h:vN 10 c=(n:Int)) (j:Nat) (hj:j < 10):c j=((n / 67108864 ^ j % 67108864:Nat):Int):=by
  have h1:=vN_split j (10 - j) c
  rw[show j+(10 - j)=10 by omega,h] at h1
  have h2:=vN_bd j c (fun i hi=>hc i (by omega))
  have e:vN (10 - j) (fun i=>c (j+i))=c j+67108864*vN (9 - j) (fun i=>c (j+(1+i))):=by
    have:=vN_split 1 (9 - j) (fun i=>c (j+i))
    rw[show 1+(9 - j)=10 - j by omega] at this
    rw[this];simp[vN]
  rw[e] at h1
  have hcj:=hc j hj
  have hp:(0:Int) < 67108864 ^ j:=Int.pow_pos (by decide)
  have q1:(n:Int) / 67108864 ^ j=c j+67108864*vN (9 - j) (fun i=>c (j+(1+i))):=by
    rw[h1,Int.add_mul_ediv_left _ _ (by omega),Int.ediv_eq_zero_of_lt h2.1 h2.2];omega
  have q2:((n / 67108864 ^ j:Nat):Int)=(n:Int) / 67108864 ^ j:=by simp
  rw[Int.natCast_emod,q2,q1]
  omega
theorem bd_all (n j:Nat) (h:n < W256):bd n 256 j=((n / 256 ^ j % 256:Nat):Int):=by
  have e:n % 2 ^ 256=n:=Nat.mod_eq_of_lt h
  unfold bd;rw[e]
end Go.Proofs.Fd
