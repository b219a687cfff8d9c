/- The field as a type,the two Edwards curves,the ladder,and what it answers. No program is named here. -/
import Derived.Test.YtgnkkjknngblbaaGreatDoorZnG02
namespace Go.Proofs.Ed
open Go.Proofs.Fd
abbrev q:Nat:=57896044618658097711785492504343953926634992332820282019728792003956564819949
abbrev K:=Fin q
def kinv (a:K):K:=⟨a.val ^ (p - 2) % p,Nat.mod_lt _ p_pos⟩
theorem val_mul (a b:K):(a*b).val=a.val*b.val % q:=rfl
theorem val_zero:(0:K).val=0:=rfl
theorem val_one:(1:K).val=1:=rfl
theorem ne_val {a:K} (h:a≠0):0 < a.val:=by
  rcases Nat.eq_zero_or_pos a.val with hz|hz
  · exact absurd (Fin.ext hz) h
  · exact hz
theorem mul_zero_or {a b:K} (h:a*b=0):a=0∨b=0:=by
  have h1:a.val*b.val % q=0:=by rw[←val_mul,h];rfl
  rcases p_prime.2 a.val b.val (Nat.dvd_of_mod_eq_zero h1) with hd|hd
  · exact .inl (Fin.ext (by rw[val_zero];exact Nat.eq_zero_of_dvd_of_lt hd a.isLt))
  · exact .inr (Fin.ext (by rw[val_zero];exact Nat.eq_zero_of_dvd_of_lt hd b.isLt))
theorem mul_ne {a b:K} (ha:a≠0) (hb:b≠0):a*b≠0:=fun h=>by
  rcases mul_zero_or h with h|h
  · exact ha h
  · exact hb h
theorem right_ne {a b:K} (h:a*b≠0):b≠0:=fun e=>h (by rw[e];grind)
theorem kinv_mul {a:K} (h:a≠0):a*kinv a=1:=by
  apply Fin.ext
  rw[val_mul,val_one]
  exact inv_mul (ne_val h) a.isLt
theorem kinv_val (a:K):(kinv a).val=a.val ^ (p - 2) % p:=rfl
theorem kinv_zero:kinv 0=0:=by
  apply Fin.ext
  rw[kinv_val,val_zero,inv_zero]
theorem cancel {a b c:K} (h:c≠0) (e:a*c=b*c):a=b:=by
  have:(a - b)*c=0:=by grobner
  rcases mul_zero_or this with h1|h1
  · grobner
  · exact absurd h1 h
theorem kinv_ne {a:K} (h:a≠0):kinv a≠0:=fun e=>by
  have:=kinv_mul h
  rw[e] at this
  exact absurd this (by grind)
theorem two_ne:(2:K)≠0:=by decide +kernel
theorem is_power (a:K) (h:a≠0):∃i,2 ^ i % q=a.val:=by
  obtain⟨h1,h2,h3,h4⟩:=cert_out p_cert
  exact powers h1 _ p_list h2 h3 h4 a.val (ne_val h) a.isLt
def NS (d:K):Prop:=∀r:K,r*r≠d
theorem even_square (a:K) (i:Nat) (h:2 ^ (2*i) % q=a.val):∃r:K,r*r=a:=by
  refine⟨⟨2 ^ i % q,Nat.mod_lt _ (by decide)⟩,Fin.ext ?_⟩
  rw[val_mul]
  show 2 ^ i % q*(2 ^ i % q) % q=a.val
  rw[←Nat.mul_mod,←Nat.pow_add,←h,show i+i=2*i by omega]
theorem square_or {d a:K} (hd:NS d) (h0:d≠0) (ha:a≠0):(∃r:K,r*r=a)∨(∃r:K,r*r=a*d):=by
  obtain⟨i,hi⟩:=is_power a ha
  obtain⟨j,hj⟩:=is_power d h0
  rcases Nat.mod_two_eq_zero_or_one j with ej|ej
  · exfalso
    obtain⟨r,hr⟩:=even_square d (j / 2) (by rw[show 2*(j / 2)=j by omega];exact hj)
    exact hd r hr
  · rcases Nat.mod_two_eq_zero_or_one i with ei|ei
    · exact .inl (even_square a (i / 2) (by rw[show 2*(i / 2)=i by omega];exact hi))
    · right
      refine even_square (a*d) ((i+j) / 2) ?_
      rw[show 2*((i+j) / 2)=i+j by omega,val_mul,←hi,←hj,←Nat.mul_mod,Nat.pow_add]
theorem ns_of {d:K} (h:pw 256 d.val ((p - 1) / 2) p≠1) (h0:d≠0):NS d:=by
  intro r hr
  apply h
  rw[pw_eq _ _ _ _ (by decide)]
  have hr0:r≠0:=fun e=>h0 (by rw[←hr,e];grind)
  have e:d.val % p=r.val ^ 2 % p:=by rw[←hr,val_mul,Nat.pow_two];exact Nat.mod_mod _ _
  rw[Nat.pow_mod,e,←Nat.pow_mod,←Nat.pow_mul,show 2*((p - 1) / 2)=p - 1 by decide]
  exact p_fermat r.val (ne_val hr0) r.isLt
end Go.Proofs.Ed
/- The sums of points on x^2+y^2=1+d x^2 y^2 over the field of 2^255 - 19: taken in whatever order,with the denominators cleared;and what the ladder's other half leans on. No program is named here. -/
namespace Go.Proofs.Ed
set_option maxHeartbeats 4000000 in
theorem assocX (d x1 y1 x2 y2 x3 y3:K)
  (e1:x1*x1+y1*y1=1+d*x1*x1*y1*y1)
  (e2:x2*x2+y2*y2=1+d*x2*x2*y2*y2)
  (e3:x3*x3+y3*y3=1+d*x3*x3*y3*y3) :
  ((x1*y2+y1*x2)*(1-d*x1*x2*y1*y2)*y3+(y1*y2-x1*x2)*(1+d*x1*x2*y1*y2)*x3)*((1-d*x2*x3*y2*y3)*(1+d*x2*x3*y2*y3)+d*x1*y1*(x2*y3+y2*x3)*(y2*y3-x2*x3))
  = (x1*(y2*y3-x2*x3)*(1+d*x2*x3*y2*y3)+y1*(x2*y3+y2*x3)*(1-d*x2*x3*y2*y3))*((1-d*x1*x2*y1*y2)*(1+d*x1*x2*y1*y2)+d*x3*y3*(x1*y2+y1*x2)*(y1*y2-x1*x2)):=by
  grobner
set_option maxHeartbeats 4000000 in
theorem assocY (d x1 y1 x2 y2 x3 y3:K)
  (e1:x1*x1+y1*y1=1+d*x1*x1*y1*y1)
  (e2:x2*x2+y2*y2=1+d*x2*x2*y2*y2)
  (e3:x3*x3+y3*y3=1+d*x3*x3*y3*y3) :
  ((y1*y2-x1*x2)*(1+d*x1*x2*y1*y2)*y3 - (x1*y2+y1*x2)*(1-d*x1*x2*y1*y2)*x3)*((1-d*x2*x3*y2*y3)*(1+d*x2*x3*y2*y3) - d*x1*y1*(x2*y3+y2*x3)*(y2*y3-x2*x3))
  = (y1*(y2*y3-x2*x3)*(1+d*x2*x3*y2*y3) - x1*(x2*y3+y2*x3)*(1-d*x2*x3*y2*y3))*((1-d*x1*x2*y1*y2)*(1+d*x1*x2*y1*y2) - d*x3*y3*(x1*y2+y1*x2)*(y1*y2-x1*x2)):=by
  grobner
theorem dadd (d x1 y1 x2 y2:K)
  (e1:x1*x1+y1*y1=1+d*x1*x1*y1*y1)
  (e2:x2*x2+y2*y2=1+d*x2*x2*y2*y2) :
  (y1+y2)*(y1+y2)*((1 - d*x1*x2*y1*y2)-(y1*y2 - x1*x2))*((1+d*x1*x2*y1*y2)-(y1*y2+x1*x2))=((1 - d*x1*x2*y1*y2)+(y1*y2 - x1*x2))*((1+d*x1*x2*y1*y2)+(y1*y2+x1*x2))*(y1-y2)*(y1-y2):=by grobner
end Go.Proofs.Ed
/- The points of x^2+y^2=1+d x^2 y^2,d no square,are a commutative group;their multiples. -/
namespace Go.Proofs.Ed
abbrev Pt:=K×K
def On (d:K) (P:Pt):Prop:=P.1*P.1+P.2*P.2=1+d*P.1*P.1*P.2*P.2
def add (d:K) (P Q:Pt):Pt :=
  ((P.1*Q.2+P.2*Q.1)*kinv (1+d*P.1*Q.1*P.2*Q.2),(P.2*Q.2 - P.1*Q.1)*kinv (1 - d*P.1*Q.1*P.2*Q.2))
def neg (P:Pt):Pt:=(0 - P.1,P.2)
def O:Pt:=(0,1)
theorem ns_ne {d:K} (hd:NS d):d≠0:=fun e=>hd 0 (by rw[e];grind)
theorem ns_sq {d r s:K} (hd:NS d) (h:r*r=d*(s*s)):s=0:=by
  by_cases hs:s=0
  · exact hs
  · exfalso
    have h1:=kinv_mul hs
    refine hd (r*kinv s) ?_
    generalize kinv s=t at *
    grobner
theorem den_aux {d x1 y1 x2 y2 e:K} (hd:NS d) (e1:x1*x1+y1*y1=1+d*x1*x1*y1*y1) (e2:x2*x2+y2*y2=1+d*x2*x2*y2*y2)
    (he:e*e=1) (h:d*x1*x2*y1*y2=e):False:=by
  have a1:(x1+e*y1)*(x1+e*y1)=d*((x1*y1*(x2+y2))*(x1*y1*(x2+y2))):=by grobner
  have a2:(x1 - e*y1)*(x1 - e*y1)=d*((x1*y1*(x2 - y2))*(x1*y1*(x2 - y2))):=by grobner
  have b1:=ns_sq hd a1
  have b2:=ns_sq hd a2
  have c1:x1*y1*x2=0:=by
    have:2*(x1*y1*x2)=0:=by grobner
    rcases mul_zero_or this with h|h
    · exact absurd h two_ne
    · exact h
  have:e=0:=by grobner
  rw[this] at he
  exact absurd he (by grind)
theorem den1 {d:K} {P Q:Pt} (hd:NS d) (hP:On d P) (hQ:On d Q):1+d*P.1*Q.1*P.2*Q.2≠0:=fun h =>
  den_aux (e:=0 - 1) hd hP hQ (by grobner) (by grobner)
theorem den2 {d:K} {P Q:Pt} (hd:NS d) (hP:On d P) (hQ:On d Q):1 - d*P.1*Q.1*P.2*Q.2≠0:=fun h =>
  den_aux (e:=1) hd hP hQ (by grobner) (by grobner)
theorem add_x {d:K} {P Q:Pt} (hd:NS d) (hP:On d P) (hQ:On d Q):(add d P Q).1*(1+d*P.1*Q.1*P.2*Q.2)=P.1*Q.2+P.2*Q.1:=by
  have h:=kinv_mul (den1 hd hP hQ)
  show (P.1*Q.2+P.2*Q.1)*kinv (1+d*P.1*Q.1*P.2*Q.2)*(1+d*P.1*Q.1*P.2*Q.2)=_
  generalize kinv (1+d*P.1*Q.1*P.2*Q.2)=t at *
  generalize 1+d*P.1*Q.1*P.2*Q.2=D at *
  generalize P.1*Q.2+P.2*Q.1=N at *
  grobner
theorem add_y {d:K} {P Q:Pt} (hd:NS d) (hP:On d P) (hQ:On d Q):(add d P Q).2*(1 - d*P.1*Q.1*P.2*Q.2)=P.2*Q.2 - P.1*Q.1:=by
  have h:=kinv_mul (den2 hd hP hQ)
  show (P.2*Q.2 - P.1*Q.1)*kinv (1 - d*P.1*Q.1*P.2*Q.2)*(1 - d*P.1*Q.1*P.2*Q.2)=_
  generalize kinv (1 - d*P.1*Q.1*P.2*Q.2)=t at *
  generalize 1 - d*P.1*Q.1*P.2*Q.2=D at *
  generalize P.2*Q.2 - P.1*Q.1=N at *
  grobner
set_option maxHeartbeats 4000000 in
theorem closed (d x1 y1 x2 y2:K)
  (e1:x1*x1+y1*y1=1+d*x1*x1*y1*y1)
  (e2:x2*x2+y2*y2=1+d*x2*x2*y2*y2) :
  (x1*y2+y1*x2)*(x1*y2+y1*x2)*((1-d*x1*x2*y1*y2)*(1-d*x1*x2*y1*y2))+(y1*y2-x1*x2)*(y1*y2-x1*x2)*((1+d*x1*x2*y1*y2)*(1+d*x1*x2*y1*y2))
   = (1-d*x1*x2*y1*y2)*(1-d*x1*x2*y1*y2)*((1+d*x1*x2*y1*y2)*(1+d*x1*x2*y1*y2))+d*((x1*y2+y1*x2)*(x1*y2+y1*x2))*((y1*y2-x1*x2)*(y1*y2-x1*x2)):=by
  grobner
theorem add_on {d:K} {P Q:Pt} (hd:NS d) (hP:On d P) (hQ:On d Q):On d (add d P Q):=by
  have n1:=den1 hd hP hQ
  have n2:=den2 hd hP hQ
  have h1:=add_x hd hP hQ
  have h2:=add_y hd hP hQ
  have h:=closed d P.1 P.2 Q.1 Q.2 hP hQ
  rw[←h1,←h2] at h
  unfold On
  generalize 1+d*P.1*Q.1*P.2*Q.2=D1 at *
  generalize 1 - d*P.1*Q.1*P.2*Q.2=D2 at *
  generalize (add d P Q).1=X at *
  generalize (add d P Q).2=Y at *
  clear h1 h2
  refine cancel (mul_ne (mul_ne n1 n1) (mul_ne n2 n2)) ?_
  grobner
theorem add_comm (d:K) (P Q:Pt):add d P Q=add d Q P:=by
  unfold add
  rw[show P.1*Q.2+P.2*Q.1=Q.1*P.2+Q.2*P.1 by grind,show P.2*Q.2 - P.1*Q.1=Q.2*P.2 - Q.1*P.1 by grind,show d*P.1*Q.1*P.2*Q.2=d*Q.1*P.1*Q.2*P.2 by grind]
theorem kinv_one:kinv 1=1:=by
  have:=kinv_mul (a:=1) (by decide +kernel)
  generalize kinv 1=t at *
  grind
theorem add_O (d:K) (P:Pt):add d P O=P:=by
  unfold add O
  show ((P.1*1+P.2*0)*kinv (1+d*P.1*0*P.2*1),(P.2*1 - P.1*0)*kinv (1 - d*P.1*0*P.2*1))=P
  rw[show 1+d*P.1*0*P.2*1=1 by grind,show 1 - d*P.1*0*P.2*1=1 by grind,kinv_one]
  exact Prod.ext (by show (P.1*1+P.2*0)*1=P.1;grind) (by show (P.2*1 - P.1*0)*1=P.2;grind)
theorem O_add (d:K) (P:Pt):add d O P=P:=by rw[add_comm,add_O]
theorem on_O (d:K):On d O:=by
  show (0:K)*0+1*1=1+d*0*0*1*1
  grind
theorem on_neg {d:K} {P:Pt} (h:On d P):On d (neg P):=by
  show (0 - P.1)*(0 - P.1)+P.2*P.2=1+d*(0 - P.1)*(0 - P.1)*P.2*P.2
  have h':P.1*P.1+P.2*P.2=1+d*P.1*P.1*P.2*P.2:=h
  grobner
theorem add_neg {d:K} {P:Pt} (hd:NS d) (h:On d P):add d P (neg P)=O:=by
  have h1:=add_x hd h (on_neg h)
  have h2:=add_y hd h (on_neg h)
  have n1:=den1 hd h (on_neg h)
  have n2:=den2 hd h (on_neg h)
  have h':P.1*P.1+P.2*P.2=1+d*P.1*P.1*P.2*P.2:=h
  simp only[neg] at h1 h2 n1 n2 ⊢
  refine Prod.ext ?_ ?_
  · refine cancel n1 (h1.trans ?_)
    show _=(0:K)*_
    grind
  · refine cancel n2 (h2.trans ?_)
    show _=(1:K)*_
    grobner
end Go.Proofs.Ed
/- Sums of points do not hang on which are taken first;multiples of points,and multiples of those. -/
namespace Go.Proofs.Ed
theorem assoc_x {d:K} {P Q R:Pt} (hd:NS d) (hP:On d P) (hQ:On d Q) (hR:On d R):(add d (add d P Q) R).1=(add d P (add d Q R)).1:=by
  have oL:=add_on hd hP hQ
  have oR:=add_on hd hQ hR
  have a1:=den1 hd hP hQ
  have a2:=den2 hd hP hQ
  have b1:=den1 hd hQ hR
  have b2:=den2 hd hQ hR
  have c1:=den1 hd oL hR
  have e1:=den1 hd hP oR
  have x1:=add_x hd hP hQ
  have y1:=add_y hd hP hQ
  have x2:=add_x hd hQ hR
  have y2:=add_y hd hQ hR
  have xl:=add_x hd oL hR
  have xr:=add_x hd hP oR
  have h:=assocX d P.1 P.2 Q.1 Q.2 R.1 R.2 hP hQ hR
  rw[←x1,←y1,←x2,←y2] at h
  clear x1 y1 x2 y2
  generalize 1+d*P.1*Q.1*P.2*Q.2=D1 at *
  generalize 1 - d*P.1*Q.1*P.2*Q.2=D2 at *
  generalize 1+d*Q.1*R.1*Q.2*R.2=F1 at *
  generalize 1 - d*Q.1*R.1*Q.2*R.2=F2 at *
  generalize (add d (add d P Q) R).1=XL at *
  generalize (add d P (add d Q R)).1=XR at *
  generalize (add d P Q).1=u1 at *
  generalize (add d P Q).2=u2 at *
  generalize (add d Q R).1=v1 at *
  generalize (add d Q R).2=v2 at *
  clear oL oR hP hQ hR
  obtain⟨E1,hE1⟩:∃E,1+d*u1*R.1*u2*R.2=E:=⟨_,rfl⟩
  obtain⟨E2,hE2⟩:∃E,1+d*P.1*v1*P.2*v2=E:=⟨_,rfl⟩
  rw[hE1] at c1 xl
  rw[hE2] at e1 xr
  have h':(u1*R.2+u2*R.1)*E2*(D1*D2*(F1*F2))=(P.1*v2+P.2*v1)*E1*(D1*D2*(F1*F2)):=by
    rw[←hE1,←hE2];clear hE1 hE2 xl xr;grobner
  have h2:=cancel (mul_ne (mul_ne a1 a2) (mul_ne b1 b2)) h'
  rw[←xl,←xr] at h2
  refine cancel (mul_ne c1 e1) ?_
  clear h h' hE1 hE2 xl xr
  grobner
theorem assoc_y {d:K} {P Q R:Pt} (hd:NS d) (hP:On d P) (hQ:On d Q) (hR:On d R):(add d (add d P Q) R).2=(add d P (add d Q R)).2:=by
  have oL:=add_on hd hP hQ
  have oR:=add_on hd hQ hR
  have a1:=den1 hd hP hQ
  have a2:=den2 hd hP hQ
  have b1:=den1 hd hQ hR
  have b2:=den2 hd hQ hR
  have c1:=den2 hd oL hR
  have e1:=den2 hd hP oR
  have x1:=add_x hd hP hQ
  have y1:=add_y hd hP hQ
  have x2:=add_x hd hQ hR
  have y2:=add_y hd hQ hR
  have xl:=add_y hd oL hR
  have xr:=add_y hd hP oR
  have h:=assocY d P.1 P.2 Q.1 Q.2 R.1 R.2 hP hQ hR
  rw[←x1,←y1,←x2,←y2] at h
  clear x1 y1 x2 y2
  generalize 1+d*P.1*Q.1*P.2*Q.2=D1 at *
  generalize 1 - d*P.1*Q.1*P.2*Q.2=D2 at *
  generalize 1+d*Q.1*R.1*Q.2*R.2=F1 at *
  generalize 1 - d*Q.1*R.1*Q.2*R.2=F2 at *
  generalize (add d (add d P Q) R).2=XL at *
  generalize (add d P (add d Q R)).2=XR at *
  generalize (add d P Q).1=u1 at *
  generalize (add d P Q).2=u2 at *
  generalize (add d Q R).1=v1 at *
  generalize (add d Q R).2=v2 at *
  clear oL oR hP hQ hR
  obtain⟨E1,hE1⟩:∃E,1 - d*u1*R.1*u2*R.2=E:=⟨_,rfl⟩
  obtain⟨E2,hE2⟩:∃E,1 - d*P.1*v1*P.2*v2=E:=⟨_,rfl⟩
  rw[hE1] at c1 xl
  rw[hE2] at e1 xr
  have h':(u2*R.2 - u1*R.1)*E2*(D1*D2*(F1*F2))=(P.2*v2 - P.1*v1)*E1*(D1*D2*(F1*F2)):=by
    rw[←hE1,←hE2];clear hE1 hE2 xl xr;grobner
  have h2:=cancel (mul_ne (mul_ne a1 a2) (mul_ne b1 b2)) h'
  rw[←xl,←xr] at h2
  refine cancel (mul_ne c1 e1) ?_
  clear h h' hE1 hE2 xl xr
  grobner
theorem add_assoc {d:K} {P Q R:Pt} (hd:NS d) (hP:On d P) (hQ:On d Q) (hR:On d R):add d (add d P Q) R=add d P (add d Q R) :=
  Prod.ext (assoc_x hd hP hQ hR) (assoc_y hd hP hQ hR)
def mu (d:K):Nat→Pt→Pt
  | 0,_=>O
  | n+1,P=>add d (mu d n P) P
theorem mu_on {d:K} {P:Pt} (hd:NS d) (hP:On d P) (n:Nat):On d (mu d n P):=by
  induction n with
  | zero=>exact on_O d
  | succ n ih=>exact add_on hd ih hP
theorem mu_one (d:K) (P:Pt):mu d 1 P=P:=O_add d P
theorem mu_add {d:K} {P:Pt} (hd:NS d) (hP:On d P) (m n:Nat):mu d (m+n) P=add d (mu d m P) (mu d n P):=by
  induction n with
  | zero=>exact (add_O d _).symm
  | succ n ih =>
    show add d (mu d (m+n) P) P=add d (mu d m P) (add d (mu d n P) P)
    rw[ih,add_assoc hd (mu_on hd hP m) (mu_on hd hP n) hP]
theorem mu_O {d:K} (n:Nat):mu d n O=O:=by
  induction n with
  | zero=>rfl
  | succ n ih=>show add d (mu d n O) O=O;rw[ih,add_O]
theorem mu_mul {d:K} {P:Pt} (hd:NS d) (hP:On d P) (m n:Nat):mu d m (mu d n P)=mu d (m*n) P:=by
  induction m with
  | zero=>rw[Nat.zero_mul];rfl
  | succ m ih =>
    show add d (mu d m (mu d n P)) (mu d n P)=_
    rw[ih,Nat.succ_mul,mu_add hd hP]
def T:Pt:=(0,0 - 1)
theorem on_T (d:K):On d T:=by
  show (0:K)*0+(0 - 1)*(0 - 1)=1+d*0*0*(0 - 1)*(0 - 1)
  grind
theorem T_T {d:K} (hd:NS d):add d T T=O:=by
  have:neg T=T:=Prod.ext (by show (0:K) - 0=0;grind) rfl
  have h:=add_neg hd (on_T d)
  rw[this] at h;exact h
theorem mu_even_T {d:K} (hd:NS d) (m:Nat):mu d (m*2) T=O:=by
  rw[←mu_mul hd (on_T d)]
  have:mu d 2 T=O:=by show add d (add d O T) T=O;rw[O_add,T_T hd]
  rw[this,mu_O]
theorem sub_of_add {d:K} {P Q R:Pt} (hd:NS d) (hP:On d P) (hR:On d R) (h:Q=add d R P):add d Q (neg R)=P:=by
  rw[h,add_comm d R P,add_assoc hd hP hR (on_neg hR),add_neg hd hR,add_O]
end Go.Proofs.Ed
/- The ladder: what it keeps is the multiple of a point,and the next one,by their y alone. -/
namespace Go.Proofs.Ed
abbrev c0:K:=121665
structure Cv (d s:K):Prop where
  ns:NS d
  ss:s*s=1
  hk:4*s=(1 - d)*(2*s+4*c0+2)
def Rep (s X Z y:K):Prop:=X*s*(1 - y)=Z*(1+y)∧¬(X=0∧Z=0)
theorem s_ne {s:K} (h:s*s=1):s≠0:=fun e=>by rw[e] at h;exact absurd h (by grind)
theorem rep_lam {s X Z y:K} (ss:s*s=1) (h:Rep s X Z y):∃l:K,l≠0∧X=l*(1+y)∧Z=s*l*(1 - y):=by
  obtain⟨h,hn⟩:=h
  have h2:=kinv_mul two_ne
  have hx:X=(X+s*Z)*kinv 2*(1+y):=by
    refine cancel two_ne ?_
    generalize kinv 2=t at *
    grobner
  have hz:Z=s*((X+s*Z)*kinv 2)*(1 - y):=by
    refine cancel two_ne ?_
    generalize kinv 2=t at *
    grobner
  refine⟨(X+s*Z)*kinv 2,fun e=>hn ?_,hx,hz⟩
  rw[e] at hx hz
  exact⟨by rw[hx];grind,by rw[hz];grind⟩
theorem four_ne:(4:K)≠0:=by decide +kernel
theorem sixteen_ne:(16:K)≠0:=by decide +kernel
theorem Cv.one_d {d s:K} (h:Cv d s):1 - d≠0:=fun e=>h.ns 1 (by grobner)
theorem Cv.g_ne {d s:K} (h:Cv d s):2*s+4*c0+2≠0:=by
  have h1:=h.hk
  have:=mul_ne four_ne (s_ne h.ss)
  rw[h1] at this
  exact right_ne this
theorem dbl_rep {d s X Z:K} {P:Pt} (hc:Cv d s) (hP:On d P) (h:Rep s X Z P.2) :
    Rep s ((X+Z)*(X+Z)*((X - Z)*(X - Z))) (((X+Z)*(X+Z) - (X - Z)*(X - Z))*((X+Z)*(X+Z)+c0*((X+Z)*(X+Z) - (X - Z)*(X - Z)))) (add d P P).2:=by
  have ss:=hc.ss
  have hk:=hc.hk
  have n1:=hc.one_d
  have hg:=hc.g_ne
  have D:=den2 hc.ns hP hP
  have hy:=add_y hc.ns hP hP
  have on:P.1*P.1+P.2*P.2=1+d*P.1*P.1*P.2*P.2:=hP
  obtain⟨l,hl,rfl,rfl⟩:=rep_lam ss h
  generalize (add d P P).2=Y at *
  generalize P.1=x at *
  generalize P.2=y at *
  have ex:(l*(1+y)+s*l*(1 - y))*(l*(1+y)+s*l*(1 - y))*((l*(1+y) - s*l*(1 - y))*(l*(1+y) - s*l*(1 - y)))=16*(l*l*(l*l))*(y*y):=by grobner
  have ez:((l*(1+y)+s*l*(1 - y))*(l*(1+y)+s*l*(1 - y)) - (l*(1+y) - s*l*(1 - y))*(l*(1+y) - s*l*(1 - y)))*((l*(1+y)+s*l*(1 - y))*(l*(1+y)+s*l*(1 - y))+c0*((l*(1+y)+s*l*(1 - y))*(l*(1+y)+s*l*(1 - y)) - (l*(1+y) - s*l*(1 - y))*(l*(1+y) - s*l*(1 - y))))
      = 4*(l*l*(l*l))*(1 - y*y)*(2*s*(1+y*y)+(4*c0+2)*(1 - y*y)):=by generalize c0=c at *;grobner
  rw[ex,ez]
  clear ex ez h hP
  have l4:l*l*(l*l)≠0:=mul_ne (mul_ne hl hl) (mul_ne hl hl)
  generalize l*l*(l*l)=L at *
  have kk:4*s*(1 - d*y*y)=(1 - d)*(2*s*(1+y*y)+(4*c0+2)*(1 - y*y)):=by generalize c0=c at *;grobner
  generalize c0=c at *
  generalize hG:2*s*(1+y*y)+(4*c+2)*(1 - y*y)=G at *
  have ee:(1 - d*y*y)*(1 - x*x)=y*y*(1 - d):=by grobner
  refine⟨?_,fun ⟨e1,e2⟩ => ?_⟩
  · refine cancel (mul_ne D n1) ?_
    have t1:(1+Y)*(1 - d*x*x*y*y)=2 - 2*(x*x):=by grobner
    have t2:(1 - Y)*(1 - d*x*x*y*y)=2 - 2*(y*y):=by grobner
    clear hG hg hk on hy D
    generalize 1 - d*x*x*y*y=E at *
    grobner
  · have y0:y=0:=by
      rcases mul_zero_or e1 with h|h
      · exact absurd h (mul_ne sixteen_ne l4)
      · rcases mul_zero_or h with h|h <;> exact h
    subst y0
    have g:G=2*s+4*c+2:=by rw[←hG];grobner
    rw[g] at e2
    refine mul_ne (mul_ne (mul_ne four_ne l4) (b:=1 - 0*0) ?_) hg e2
    decide +kernel
theorem next_x (s l m y1 y2:K) (ss:s*s=1):((m*(1+y2) - s*m*(1 - y2))*(l*(1+y1)+s*l*(1 - y1))+(m*(1+y2)+s*m*(1 - y2))*(l*(1+y1) - s*l*(1 - y1)))*((m*(1+y2) - s*m*(1 - y2))*(l*(1+y1)+s*l*(1 - y1))+(m*(1+y2)+s*m*(1 - y2))*(l*(1+y1) - s*l*(1 - y1)))=16*(l*l*(m*m))*((y1+y2)*(y1+y2)):=by
  have:(m*(1+y2) - s*m*(1 - y2))*(l*(1+y1)+s*l*(1 - y1))+(m*(1+y2)+s*m*(1 - y2))*(l*(1+y1) - s*l*(1 - y1))=4*(l*m)*(y1+y2):=by grobner
  rw[this];grind
theorem next_z (s l m y1 y2:K) (ss:s*s=1):((m*(1+y2) - s*m*(1 - y2))*(l*(1+y1)+s*l*(1 - y1)) - (m*(1+y2)+s*m*(1 - y2))*(l*(1+y1) - s*l*(1 - y1)))*((m*(1+y2) - s*m*(1 - y2))*(l*(1+y1)+s*l*(1 - y1)) - (m*(1+y2)+s*m*(1 - y2))*(l*(1+y1) - s*l*(1 - y1)))=16*(l*l*(m*m))*((y1 - y2)*(y1 - y2)):=by
  have:(m*(1+y2) - s*m*(1 - y2))*(l*(1+y1)+s*l*(1 - y1)) - (m*(1+y2)+s*m*(1 - y2))*(l*(1+y1) - s*l*(1 - y1))=s*(4*(l*m)*(y2 - y1)):=by grobner
  rw[this];grobner
theorem next_rep {d s u X Z X' Z':K} {P Q R:Pt} (hc:Cv d s) (hP:On d P) (hQ:On d Q) (hu:u*s*(1 - R.2)=1+R.2) (u0:u≠0)
    (hd:P.2*Q.2+P.1*Q.1=R.2*(1+d*P.1*Q.1*P.2*Q.2)) (h:Rep s X Z P.2) (h':Rep s X' Z' Q.2) :
    Rep s (((X' - Z')*(X+Z)+(X'+Z')*(X - Z))*((X' - Z')*(X+Z)+(X'+Z')*(X - Z))) (u*(((X' - Z')*(X+Z) - (X'+Z')*(X - Z))*((X' - Z')*(X+Z) - (X'+Z')*(X - Z)))) (add d P Q).2:=by
  have ss:=hc.ss
  have n1:=hc.one_d
  have D1:=den1 hc.ns hP hQ
  have D2:=den2 hc.ns hP hQ
  have hy:=add_y hc.ns hP hQ
  have da:=dadd d P.1 P.2 Q.1 Q.2 hP hQ
  have o1:P.1*P.1+P.2*P.2=1+d*P.1*P.1*P.2*P.2:=hP
  have o2:Q.1*Q.1+Q.2*Q.2=1+d*Q.1*Q.1*Q.2*Q.2:=hQ
  obtain⟨l,hl,rfl,rfl⟩:=rep_lam ss h
  obtain⟨m,hm,rfl,rfl⟩:=rep_lam ss h'
  have r1:1 - R.2≠0:=fun e=>two_ne (by grobner)
  have s0:=s_ne ss
  generalize (add d P Q).2=Y at *
  generalize R.2=r at *
  generalize P.1=x1 at *
  generalize P.2=y1 at *
  generalize Q.1=x2 at *
  generalize Q.2=y2 at *
  rw[next_x s l m y1 y2 ss,next_z s l m y1 y2 ss]
  clear h h' hP hQ
  have l4:16*(l*l*(m*m))≠0:=mul_ne sixteen_ne (mul_ne (mul_ne hl hl) (mul_ne hm hm))
  generalize 16*(l*l*(m*m))=L at *
  have key:(y1+y2)*(y1+y2)*(1 - Y)*(1 - r)=(1+Y)*(1+r)*((y1 - y2)*(y1 - y2)):=by
    refine cancel (mul_ne D1 D2) ?_
    have h1:y1*y2 - x1*x2=Y*(1 - d*x1*x2*y1*y2):=hy.symm
    have h2:y1*y2+x1*x2=r*(1+d*x1*x2*y1*y2):=hd
    rw[h1,h2] at da
    clear hy hd o1 o2 h1 h2
    generalize 1 - d*x1*x2*y1*y2=E1 at *
    generalize 1+d*x1*x2*y1*y2=E2 at *
    grobner
  refine⟨?_,fun ⟨e1,e2⟩ => ?_⟩
  · refine cancel r1 ?_
    clear hy hd o1 o2 da D1 D2
    grobner
  · have a1:y1+y2=0:=by
      rcases mul_zero_or e1 with h|h
      · exact absurd h l4
      · rcases mul_zero_or h with h|h <;> exact h
    have a2:y1 - y2=0:=by
      rcases mul_zero_or e2 with h|h
      · exact absurd h u0
      · rcases mul_zero_or h with h|h
        · exact absurd h l4
        · rcases mul_zero_or h with h|h <;> exact h
    have b1:y1=0:=by
      have:2*y1=0:=by grobner
      rcases mul_zero_or this with h|h
      · exact absurd h two_ne
      · exact h
    have b2:y2=0:=by grobner
    subst b1;subst b2
    have c1:r*r=1:=by grobner
    have c2:(r - 1)*(r+1)=0:=by grobner
    rcases mul_zero_or c2 with h|h
    · exact r1 (by grobner)
    · have:u*s*2=0:=by grobner
      exact mul_ne (mul_ne u0 s0) two_ne this
end Go.Proofs.Ed
/- The ladder's whole run,and what it answers. -/
namespace Go.Proofs.Ed
def stepL (u:K) (P Q:K×K):(K×K)×(K×K) :=
  (((P.1+P.2)*(P.1+P.2)*((P.1 - P.2)*(P.1 - P.2)),((P.1+P.2)*(P.1+P.2) - (P.1 - P.2)*(P.1 - P.2))*((P.1+P.2)*(P.1+P.2)+c0*((P.1+P.2)*(P.1+P.2) - (P.1 - P.2)*(P.1 - P.2)))),
   (((Q.1 - Q.2)*(P.1+P.2)+(Q.1+Q.2)*(P.1 - P.2))*((Q.1 - Q.2)*(P.1+P.2)+(Q.1+Q.2)*(P.1 - P.2)),u*(((Q.1 - Q.2)*(P.1+P.2) - (Q.1+Q.2)*(P.1 - P.2))*((Q.1 - Q.2)*(P.1+P.2) - (Q.1+Q.2)*(P.1 - P.2)))))
def nxt (u:K) (bit:Nat) (S:(K×K)×(K×K)):(K×K)×(K×K) :=
  if bit=1 then ((stepL u S.2 S.1).2,(stepL u S.2 S.1).1) else stepL u S.1 S.2
def run (u:K) (k:Nat):Nat→(K×K)×(K×K)
  | 0=>((1,0),(u,1))
  | i+1=>nxt u (k / 2 ^ (254 - i) % 2) (run u k i)
def lad (k:Nat) (u:K):K:=(run u k 255).1.1*kinv (run u k 255).1.2
theorem diff_y {d:K} {P Q R:Pt} (hd:NS d) (hP:On d P) (hR:On d R) (h:Q=add d P R):P.2*Q.2+P.1*Q.1=R.2*(1+d*P.1*Q.1*P.2*Q.2):=by
  have hQ:On d Q:=by rw[h];exact add_on hd hP hR
  have e:=sub_of_add hd hR hP h
  have y:=add_y hd hQ (on_neg hP)
  rw[e] at y
  have y':R.2*(1 - d*Q.1*(0 - P.1)*Q.2*P.2)=Q.2*P.2 - Q.1*(0 - P.1):=y
  grobner
def Kept (d s:K) (R:Pt) (n:Nat) (S:(K×K)×(K×K)):Prop:=Rep s S.1.1 S.1.2 (mu d n R).2∧Rep s S.2.1 S.2.2 (mu d (n+1) R).2
theorem mu_succ (d:K) (n:Nat) (R:Pt):mu d (n+1) R=add d (mu d n R) R:=rfl
theorem kept_nxt {d s u:K} {R:Pt} (hc:Cv d s) (hR:On d R) (hu:u*s*(1 - R.2)=1+R.2) (u0:u≠0) (n b:Nat) (hb:b < 2) (S:(K×K)×(K×K)) (h:Kept d s R n S) :
    Kept d s R (2*n+b) (nxt u b S):=by
  obtain⟨h1,h2⟩:=h
  have o1:=mu_on hc.ns hR n
  have o2:=mu_on hc.ns hR (n+1)
  have dy:=diff_y hc.ns o1 hR (mu_succ d n R)
  have hs:mu d (2*n+1) R=add d (mu d n R) (mu d (n+1) R):=by rw[←mu_add hc.ns hR];congr 1;omega
  rcases (by omega:b=0∨b=1) with rfl|rfl
  · have e1:mu d (2*n+0) R=add d (mu d n R) (mu d n R):=by rw[←mu_add hc.ns hR];congr 1;omega
    refine⟨?_,?_⟩
    · rw[e1];exact dbl_rep hc o1 h1
    · rw[show 2*n+0+1=2*n+1 by omega,hs];exact next_rep hc o1 o2 hu u0 dy h1 h2
  · have e1:mu d (2*n+1+1) R=add d (mu d (n+1) R) (mu d (n+1) R):=by rw[←mu_add hc.ns hR];congr 1;omega
    refine⟨?_,?_⟩
    · rw[hs,add_comm]
      refine next_rep hc o2 o1 hu u0 ?_ h2 h1
      generalize (mu d n R).1=a1 at *
      generalize (mu d n R).2=a2 at *
      generalize (mu d (n+1) R).1=b1 at *
      generalize (mu d (n+1) R).2=b2 at *
      clear h1 h2
      grobner
    · rw[e1];exact dbl_rep hc o2 h2
theorem one_ne:(1:K)≠0:=by decide +kernel
theorem kept_run {d s u:K} {R:Pt} (hc:Cv d s) (hR:On d R) (hu:u*s*(1 - R.2)=1+R.2) (u0:u≠0) (k:Nat) (hk:k < 2 ^ 255) (i:Nat) (hi:i≤255) :
    Kept d s R (k / 2 ^ (255 - i)) (run u k i):=by
  induction i with
  | zero =>
    rw[Nat.div_eq_of_lt hk]
    refine⟨⟨?_,fun h=>one_ne h.1⟩,⟨?_,fun h=>one_ne h.2⟩⟩
    · show (1:K)*s*(1 - 1)=0*(1+1)
      grind
    · rw[show 0+1=1 from rfl,mu_one]
      show u*s*(1 - R.2)=1*(1+R.2)
      rw[hu];grind
  | succ i ih =>
    have h:=kept_nxt hc hR hu u0 _ (k / 2 ^ (254 - i) % 2) (Nat.mod_lt _ (by decide)) _ (ih (by omega))
    have e:2*(k / 2 ^ (255 - i))+k / 2 ^ (254 - i) % 2=k / 2 ^ (255 - (i+1)):=by
      rw[show 255 - i=254 - i+1 by omega,Nat.pow_succ,←Nat.div_div_eq_div_mul,show 255 - (i+1)=254 - i by omega]
      omega
    rw[e] at h
    exact h
def U (s y:K):K:=s*(1+y)*kinv (1 - y)
theorem rep_U {s X Z y:K} (ss:s*s=1) (h:Rep s X Z y):X*kinv Z=U s y:=by
  obtain⟨h,hn⟩:=h
  unfold U
  by_cases hy:y=1
  · subst hy
    have hz:Z=0:=by
      have:Z*2=0:=by grobner
      rcases mul_zero_or this with h|h
      · exact h
      · exact absurd h two_ne
    rw[hz,show (1:K) - 1=0 by grind,kinv_zero]
    grind
  · have h1:1 - y≠0:=fun e=>hy (by grobner)
    have hz:Z≠0:=fun e=>by
      subst e
      refine hn ⟨?_,rfl⟩
      have:X*(s*(1 - y))=0:=by grobner
      rcases mul_zero_or this with h|h
      · exact h
      · exact absurd h (mul_ne (s_ne ss) h1)
    have i1:=kinv_mul h1
    have i2:=kinv_mul hz
    refine cancel (mul_ne hz h1) ?_
    generalize kinv Z=t at *
    generalize kinv (1 - y)=r at *
    clear hn hy h1 hz
    grobner
theorem lad_U {d s u:K} {R:Pt} (hc:Cv d s) (hR:On d R) (hu:u*s*(1 - R.2)=1+R.2) (u0:u≠0) (k:Nat) (hk:k < 2 ^ 255):lad k u=U s (mu d k R).2:=by
  have h:=(kept_run hc hR hu u0 k hk 255 (by omega)).1
  rw[show k / 2 ^ (255 - 255)=k by simp] at h
  exact rep_U hc.ss h
theorem U_one (s:K):U s 1=0:=by unfold U;rw[show (1:K) - 1=0 by grind,kinv_zero];grind
theorem U_ne {s y:K} (ss:s*s=1) (h:U s y≠0):U s y*s*(1 - y)=1+y:=by
  have h1 : 1 - y ≠ 0 := fun e => h (by have : y = 1 := by grobner
                                        rw[this];exact U_one s)
  have i1:=kinv_mul h1
  unfold U
  generalize kinv (1 - y)=r at *
  clear h h1
  grobner
theorem U_zero {s y:K} (ss:s*s=1) (h:U s y=0):y=1∨y=0 - 1:=by
  by_cases hy:y=1
  · exact .inl hy
  · right
    have h1:1 - y≠0:=fun e=>hy (by grobner)
    unfold U at h
    rcases mul_zero_or h with h|h
    · rcases mul_zero_or h with h|h
      · exact absurd h (s_ne ss)
      · grobner
    · exact absurd h (kinv_ne h1)
theorem on_y {d:K} {P:Pt} (hd:NS d) (hP:On d P) (h:P.2*P.2=1):P.1=0:=by
  have hP':P.1*P.1+P.2*P.2=1+d*P.1*P.1*P.2*P.2:=hP
  generalize P.1=x at *
  generalize P.2=y at *
  have:x*x*(1 - d)=0:=by grobner
  rcases mul_zero_or this with h|h
  · rcases mul_zero_or h with h|h <;> exact h
  · exact absurd (by grobner) (hd 1)
theorem U_zero_pt {d s:K} {P:Pt} (hc:Cv d s) (hP:On d P) (h:U s P.2=0):P=O∨P=T:=by
  rcases U_zero hc.ss h with h|h
  · exact .inl (Prod.ext (on_y hc.ns hP (by rw[h];grind)) h)
  · exact .inr (Prod.ext (on_y hc.ns hP (by rw[h];grind)) h)
end Go.Proofs.Ed
/- Each u that is not 0 is that of a point,on one of two curves;what two ladders come to,one behind the other,does not hang on which is first. -/
namespace Go.Proofs.Ed
abbrev d1:K:=20800338683988658368647408995589388737092878452977063003340006470870624536394
abbrev d2:K:=28692721048178265397853269683490922171210976843790175684556505508326675974058
theorem d1_ns:NS d1:=ns_of (by decide +kernel) (by decide +kernel)
theorem d2_ns:NS d2:=ns_of (by decide +kernel) (by decide +kernel)
theorem d1_eq:d1*(1+c0)=c0:=by decide +kernel
theorem d2_eq:d2*c0=1+c0:=by decide +kernel
theorem cv1:Cv d1 1:=⟨d1_ns,by decide +kernel,by decide +kernel⟩
theorem cv2:Cv d2 (0 - 1):=⟨d2_ns,by decide +kernel,by decide +kernel⟩
theorem c_ne:c0≠0:=by decide +kernel
theorem c1_ne:1+c0≠0:=by decide +kernel
theorem no_root (u:K):u*u+(4*c0+2)*u+1≠0:=fun h=>by
  have i1:=kinv_mul (mul_ne four_ne c1_ne)
  have e:=d1_eq
  refine d1_ns ((2*u+(4*c0+2))*kinv (4*(1+c0))) ?_
  generalize kinv (4*(1+c0))=t at *
  refine cancel (mul_ne (mul_ne four_ne c1_ne) (mul_ne four_ne c1_ne)) ?_
  generalize d1=d at *
  generalize c0=c at *
  have h2:(2*u+(4*c+2))*(2*u+(4*c+2))=16*(c*(c+1)):=by grobner
  grobner
theorem exists_pt (u:K) (hu:u≠0):∃(d s:K) (P:Pt),Cv d s∧On d P∧u*s*(1 - P.2)=1+P.2:=by
  by_cases hp:u=1
  · exact⟨d1,1,(1,0),cv1,by show (1:K)*1+0*0=1+d1*1*1*0*0;grind,by rw[hp];show (1:K)*1*(1 - 0)=1+0;grind⟩
  by_cases hm:u=0 - 1
  · exact⟨d2,0 - 1,(1,0),cv2,by show (1:K)*1+0*0=1+d2*1*1*0*0;grind,by rw[hm];show (0 - 1:K)*(0 - 1)*(1 - 0)=1+0;grind⟩
  have n1:u+1≠0:=fun e=>hm (by grobner)
  have n2:u - 1≠0:=fun e=>hp (by grobner)
  have nr:=no_root u
  have i1:=kinv_mul n1
  have i2:=kinv_mul n2
  have i3:=kinv_mul nr
  have ha:4*u*(1+c0)*kinv (u*u+(4*c0+2)*u+1)≠0:=mul_ne (mul_ne (mul_ne four_ne hu) c1_ne) (kinv_ne nr)
  have e1:=d1_eq
  have e2:=d2_eq
  rcases square_or d1_ns (ns_ne d1_ns) ha with ⟨r,hr⟩|⟨r,hr⟩
  · refine⟨d1,1,(r,(u - 1)*kinv (u+1)),cv1,?_,?_⟩
    · show r*r+(u - 1)*kinv (u+1)*((u - 1)*kinv (u+1))=1+d1*r*r*((u - 1)*kinv (u+1))*((u - 1)*kinv (u+1))
      have hr':r*r*(u*u+(4*c0+2)*u+1)=4*u*(1+c0):=by
        rw[hr];generalize kinv (u*u+(4*c0+2)*u+1)=t at *;generalize u*u+(4*c0+2)*u+1=M at *;clear hr ha;generalize c0=c at *;grobner
      have hy:(u - 1)*kinv (u+1)*(u+1)=u - 1:=by generalize kinv (u+1)=t at *;clear hr hr' i2 i3;grobner
      generalize (u - 1)*kinv (u+1)=y at *
      generalize kinv (u*u+(4*c0+2)*u+1)=t at *
      clear hr i1 i2 i3 e2 ha
      refine cancel (mul_ne (mul_ne n1 n1) c1_ne) ?_
      clear nr n1 n2 hm hp hu
      generalize c0=c at *
      generalize d1=d at *
      grobner
    · show u*1*(1 - (u - 1)*kinv (u+1))=1+(u - 1)*kinv (u+1)
      generalize kinv (u+1)=t at *
      clear hr i2 i3 ha nr
      grobner
  · refine⟨d2,0 - 1,(r,(u+1)*kinv (u - 1)),cv2,?_,?_⟩
    · show r*r+(u+1)*kinv (u - 1)*((u+1)*kinv (u - 1))=1+d2*r*r*((u+1)*kinv (u - 1))*((u+1)*kinv (u - 1))
      have hr':r*r*(u*u+(4*c0+2)*u+1)=4*u*c0:=by
        rw[hr];generalize kinv (u*u+(4*c0+2)*u+1)=t at *;generalize u*u+(4*c0+2)*u+1=M at *;clear hr ha e2;generalize c0=c at *;generalize d1=d at *;grobner
      have hy:(u+1)*kinv (u - 1)*(u - 1)=u+1:=by generalize kinv (u - 1)=t at *;clear hr hr' i1 i3;grobner
      generalize (u+1)*kinv (u - 1)=y at *
      generalize kinv (u*u+(4*c0+2)*u+1)=t at *
      clear hr i1 i2 i3 e1 ha
      refine cancel (mul_ne (mul_ne n2 n2) c_ne) ?_
      clear nr n1 n2 hm hp hu
      generalize c0=c at *
      generalize d2=d at *
      grobner
    · show u*(0 - 1)*(1 - (u+1)*kinv (u - 1))=1+(u+1)*kinv (u - 1)
      generalize kinv (u - 1)=t at *
      clear hr i1 i3 ha nr
      grobner
end Go.Proofs.Ed
/- The ladder at the base,counted out: its order,and the chapter's example;from the base no product of clamped scalars comes to 0. -/
namespace Go.Proofs.Ed
open Go.Proofs.Fd
abbrev ell:Nat:=7237005577332262213973186563042994240857116359379907606001950938285454250989
theorem ell_run:(run 9 ell 255).1.2=0:=by decide +kernel
theorem ell_pr:Pr ell:=pr_7237005577332262213973186563042994240857116359379907606001950938285454250989
theorem ell_lt:ell < 2 ^ 255:=by decide
theorem nine_ne:(9:K)≠0:=by decide +kernel
theorem mu_ell {d s:K} {R:Pt} (hc:Cv d s) (hR:On d R) (hu:9*s*(1 - R.2)=1+R.2):mu d ell R=O:=by
  have h:=(kept_run hc hR hu nine_ne ell ell_lt 255 (by omega)).1
  rw[show ell / 2 ^ (255 - 255)=ell by simp,ell_run] at h
  obtain⟨h1,h2⟩:=h
  have hx:(run 9 ell 255).1.1≠0:=fun e=>h2 ⟨e,rfl⟩
  generalize (run 9 ell 255).1.1=x at *
  have o:=mu_on hc.ns hR ell
  have hz:x*s*(1 - (mu d ell R).2)=0:=by rw[h1];grind
  have y1:(mu d ell R).2=1:=by
    rcases mul_zero_or hz with h|h
    · exact absurd h (mul_ne hx (s_ne hc.ss))
    · grobner
  exact Prod.ext (on_y hc.ns o (by rw[y1];grind)) y1
theorem mu_rem {d:K} {R:Pt} (hd:NS d) (hR:On d R) (a b:Nat) (ha:mu d a R=O) (hb:mu d b R=O):mu d (b % a) R=O:=by
  have e:=Nat.div_add_mod b a
  rw[←e,mu_add hd hR,Nat.mul_comm,←mu_mul hd hR,ha,mu_O,O_add] at hb
  exact hb
theorem mu_gcd {d:K} {R:Pt} (hd:NS d) (hR:On d R) (a b:Nat) (ha:mu d a R=O) (hb:mu d b R=O):mu d (Nat.gcd a b) R=O:=by
  induction a,b using Nat.gcd.induction with
  | H0 b=>simpa using hb
  | H1 a b h0 ih =>
    rw[Nat.gcd_rec]
    exact ih (mu_rem hd hR a b ha hb) ha
theorem ell_dvd {d s:K} {R:Pt} (hc:Cv d s) (hR:On d R) (hu:9*s*(1 - R.2)=1+R.2) (n:Nat) (hn:mu d n R=O):ell ∣ n:=by
  by_cases h:ell ∣ n
  · exact h
  · exfalso
    have g:=pr_gcd ell_pr h
    have:=mu_gcd hc.ns hR n ell hn (mu_ell hc hR hu)
    rw[g,mu_one] at this
    rw[this] at hu
    have hu':9*s*(1 - 1)=(1:K)+1:=hu
    exact two_ne (by grobner)
def Cl (k:Nat):Prop:=∃m,k=8*m∧2 ^ 251≤m∧m < 2 ^ 252
theorem Cl.lt {k:Nat} (h:Cl k):k < 2 ^ 255:=by obtain⟨m,rfl,_,h2⟩:=h;omega
theorem Cl.even {k:Nat} (h:Cl k):2 ∣ k:=by obtain⟨m,rfl,_,_⟩:=h;exact⟨4*m,by omega⟩
theorem cl_not {k:Nat} (h:Cl k):¬ell ∣ k:=fun hd=>by
  obtain⟨m,rfl,h1,h2⟩:=h
  rcases ell_pr.2 8 m hd with h|h
  · have:=Nat.le_of_dvd (by decide) h
    unfold ell at this
    omega
  · have:=Nat.le_of_dvd (by omega) h
    unfold ell at this
    omega
theorem zero_dvd {d s:K} {R:Pt} (hc:Cv d s) (hR:On d R) (hu:9*s*(1 - R.2)=1+R.2) (n:Nat) (h:U s (mu d n R).2=0):ell ∣ n:=by
  have h2:mu d (2*n) R=O:=by
    rw[←mu_mul hc.ns hR]
    rcases U_zero_pt hc (mu_on hc.ns hR n) h with e|e
    · rw[e,mu_O]
    · rw[e];exact mu_even_T hc.ns 1
  rcases ell_pr.2 2 n (ell_dvd hc hR hu _ h2) with h|h
  · have:=Nat.le_of_dvd (by decide) h
    unfold ell at this
    omega
  · exact h
end Go.Proofs.Ed
/- Scalars and points as numbers: clamping,the highest bit passed over. No program is named here. -/
namespace Go.Proofs.Ed
open Go.Proofs.Fd
def clampN (n:Nat):Nat:=n % 2 ^ 254 / 8*8+2 ^ 254
theorem clampN_cl (n:Nat):Cl (clampN n):=by
  have h:n % 2 ^ 254 < 2 ^ 254:=Nat.mod_lt _ (by decide)
  refine⟨n % 2 ^ 254 / 8+2 ^ 251,?_,?_,?_⟩
  · unfold clampN;omega
  · omega
  · omega
theorem clampN_lt (n:Nat):clampN n < W256:=by
  have:=(clampN_cl n).lt
  have e:W256=2 ^ 256:=by decide
  rw[e];omega
def ptN (n:Nat):K:=⟨n % 2 ^ 255 % q,Nat.mod_lt _ (by decide)⟩
theorem num_set_last (l:List UInt8) (h:l.length=32) (y:UInt8):num (l.set 31 y)=num l % 256 ^ 31+256 ^ 31*y.toNat∧num l=num l % 256 ^ 31+256 ^ 31*l[31].toNat:=by
  have e1:l.set 31 y=l.take 31++[y]:=by
    rw[List.set_eq_take_append_cons_drop,if_pos (by omega),List.drop_of_length_le (by omega)]
  have e2:l=l.take 31++[l[31]]:=by
    have:=List.take_append_drop 31 l
    rw[List.drop_eq_getElem_cons (by omega),List.drop_of_length_le (by omega)] at this
    exact this.symm
  have hl:(l.take 31).length=31:=by rw[List.length_take];omega
  have hlt:=num_lt (l.take 31)
  rw[hl] at hlt
  have n1:num (l.take 31++[y])=num (l.take 31)+256 ^ 31*y.toNat:=by rw[num_append,hl];simp[num]
  have n2:num (l.take 31++[l[31]])=num (l.take 31)+256 ^ 31*l[31].toNat:=by rw[num_append,hl];simp[num]
  have n3:num l=num (l.take 31)+256 ^ 31*l[31].toNat:=by rw[←n2,←e2]
  have n4:num l % 256 ^ 31=num (l.take 31):=by rw[n3,Nat.add_mul_mod_self_left,Nat.mod_eq_of_lt hlt]
  rw[e1,n1,n4]
  exact⟨rfl,n3⟩
theorem num_set_first (l:List UInt8) (h:l.length=32) (y:UInt8):num (l.set 0 y)=num l / 256*256+y.toNat∧l[0].toNat=num l % 256:=by
  cases l with
  | nil=>simp at h
  | cons x r =>
    have hx:=x.toNat_lt
    simp only[List.set_cons_zero,num,List.getElem_cons_zero]
    omega
theorem num_top (l:List UInt8) (h:l.length=32) (y:UInt8) (hy:y.toNat=l[31].toNat % 128):num (l.set 31 y)=num l % 2 ^ 255:=by
  obtain⟨e1,e2⟩:=num_set_last l h y
  rw[e1,hy]
  have hlt:num l % 256 ^ 31 < 256 ^ 31:=Nat.mod_lt _ (by decide)
  generalize num l % 256 ^ 31=a at *
  generalize num l=n at *
  generalize l[31].toNat=x at *
  have e:(256:Nat) ^ 31=2 ^ 248:=by decide
  rw[e] at *
  omega
theorem num_clamp (l:List UInt8) (h:l.length=32) (x y:UInt8) (hx:x.toNat=l[0].toNat / 8*8) (hy:y.toNat=l[31].toNat % 64+64):num ((l.set 0 x).set 31 y)=clampN (num l):=by
  have h':(l.set 0 x).length=32:=by simpa using h
  obtain⟨e1,e2⟩:=num_set_last (l.set 0 x) h' y
  obtain⟨e3,e4⟩:=num_set_first l h x
  obtain⟨-,e5⟩:=num_set_last l h y
  rw[e1,e3,hy,hx,e4]
  unfold clampN
  generalize l[31].toNat=t at *
  generalize num l=n at *
  have e:(256:Nat) ^ 31=2 ^ 248:=by decide
  rw[e] at *
  clear e1 e2 e3 e4
  have g:n / 256*256+n % 256 / 8*8=n / 8*8:=by omega
  rw[g]
  have ha:n % 2 ^ 248 < 2 ^ 248:=Nat.mod_lt _ (by decide)
  have m1:n / 8*8 % 2 ^ 248=n % 2 ^ 248 / 8*8:=by omega
  have m2:n % 2 ^ 254=n % 2 ^ 248+2 ^ 248*(t % 64):=by omega
  rw[m1,m2]
  clear m1 m2 g e5 ha
  generalize n % 2 ^ 248=a
  generalize t % 64=r
  have m3:(a+2 ^ 248*r) / 8=a / 8+2 ^ 245*r:=by omega
  rw[m3,Nat.mul_add,Nat.add_mul,Nat.add_assoc]
  have m4:(2:Nat) ^ 248*64=2 ^ 254:=by decide
  have m5:2 ^ 245*r*8=2 ^ 248*r:=by rw[Nat.mul_assoc,Nat.mul_comm r,←Nat.mul_assoc]
  rw[m4,m5]
theorem bit_at (l:List UInt8) (t:Nat) (h:t / 8 < l.length):l[t / 8].toNat / 2 ^ (t % 8) % 2=num l / 2 ^ t % 2:=by
  have e:=num_at l (t / 8) h
  rw[←e,pow8]
  have:=bit_of (num l) 8 (t / 8) (t % 8) (Nat.mod_lt _ (by decide))
  rw[show (256:Nat)=2 ^ 8 by decide,this,Nat.div_add_mod]
end Go.Proofs.Ed
