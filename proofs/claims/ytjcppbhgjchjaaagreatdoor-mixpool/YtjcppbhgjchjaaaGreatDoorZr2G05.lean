/- A part of the walk. -/
import Derived.Test.YtjcppbhgjchjaaaGreatDoorZr2G02
set_option maxHeartbeats 8000000
set_option maxRecDepth 20000
namespace Go.Proofs.Ed
open Go.Proofs.Fd
abbrev q:Nat:=57896044618658097711785492504343953926634992332820282019728792003956564819949
abbrev K:=Fin q
def zaI (a:K):K:=⟨a.val ^ (p - 2) % p,Nat.mod_lt _ zrj⟩
theorem zdD (a b:K):(a*b).val=a.val*b.val % q:=rfl
theorem zeS:(0:K).val=0:=rfl
theorem zrA:(1:K).val=1:=rfl
theorem zkB {a:K} (h:a≠0):0 < a.val:=by
  rcases Nat.eq_zero_or_pos a.val with hz|hz
  . exact absurd (Fin.ext hz) h
  . exact hz
theorem zag {a b:K} (h:a*b=0):a=0\/b=0:=by
  have h1:a.val*b.val % q=0:=by rw[<-zdD,h];rfl
  rcases zro.2 a.val b.val (Nat.dvd_of_mod_eq_zero h1) with hd|hd
  . exact .inl (Fin.ext (by rw[zeS];exact Nat.eq_zero_of_dvd_of_lt hd a.isLt))
  . exact .inr (Fin.ext (by rw[zeS];exact Nat.eq_zero_of_dvd_of_lt hd b.isLt))
theorem zal {a b:K} (ha:a≠0) (hb:b≠0):a*b≠0:=fun h=>by
  rcases zag h with h|h
  . exact ha h
  . exact hb h
theorem zwa {a b:K} (h:a*b≠0):a≠0:=fun e=>h (by rw[e];grind)
theorem znW {a b:K} (h:a*b≠0):b≠0:=fun e=>h (by rw[e];grind)
theorem zaC {a:K} (h:a≠0):a*zaI a=1:=by
  apply Fin.ext;rw[zdD,zrA];exact zrp (zkB h) a.isLt
theorem znX (a:K):(zaI a).val=a.val ^ (p - 2) % p:=rfl
theorem zfP:zaI 0=0:=by
  apply Fin.ext;rw[znX,zeS,znT]
theorem za5 {a b c:K} (h:c≠0) (e:a*c=b*c):a=b:=by
  have:(a - b)*c=0:=by grobner
  rcases zag this with h1|h1
  . grobner
  . exact absurd h1 h
theorem zkC {a:K} (h:a≠0):zaI a≠0:=fun e=>by
  have:=zaC h;rw[e] at this;exact absurd this (by grind)
theorem zcu:(2:K)≠0:=by decide +kernel
theorem zih (a:K) (h:a≠0):∃i,2 ^ i % q=a.val:=by
  obtain⟨h1,h2,h3,h4⟩:=zeR zks;exact zqu h1 _ zkt h2 h3 h4 a.val (zkB h) a.isLt
def NS (d:K):Prop:=∀r:K,r*r≠d
theorem zcl (a:K) (i:Nat) (h:2 ^ (2*i) % q=a.val):∃r:K,r*r=a:=by
  refine⟨⟨2 ^ i % q,Nat.mod_lt _ (by decide)⟩,Fin.ext ?_⟩;rw[zdD];show 2 ^ i % q*(2 ^ i % q) % q=a.val
  rw[<-Nat.mul_mod,<-Nat.pow_add,<-h,show i+i=2*i by omega]
theorem zkD {d a:K} (hd:NS d) (h0:d≠0) (ha:a≠0):(∃r:K,r*r=a)\/(∃r:K,r*r=a*d):=by
  obtain⟨i,hi⟩:=zih a ha;obtain⟨j,hj⟩:=zih d h0;rcases Nat.mod_two_eq_zero_or_one j with ej|ej
  . exfalso
    obtain⟨r,hr⟩:=zcl d (j / 2) (by rw[show 2*(j / 2)=j by omega];exact hj);exact hd r hr
  . rcases Nat.mod_two_eq_zero_or_one i with ei|ei
    . exact .inl (zcl a (i / 2) (by rw[show 2*(i / 2)=i by omega];exact hi))
    . right
      refine zcl (a*d) ((i+j) / 2) ?_;rw[show 2*((i+j) / 2)=i+j by omega,zdD,<-hi,<-hj,<-Nat.mul_mod,Nat.pow_add]
theorem ztS {d:K} (h:pw 256 d.val ((p - 1) / 2) p≠1) (h0:d≠0):NS d:=by
  intro r hr;apply h;rw[zrn _ _ _ _ (by decide)];have hr0:r≠0:=fun e=>h0 (by rw[<-hr,e];grind)
  have e:d.val % p=r.val ^ 2 % p:=by rw[<-hr,zdD,Nat.pow_two];exact Nat.mod_mod _ _
  rw[Nat.pow_mod,e,<-Nat.pow_mod,<-Nat.pow_mul,show 2*((p - 1) / 2)=p - 1 by decide];exact zic r.val (zkB hr0) r.isLt
end Go.Proofs.Ed
namespace Go.Proofs.Ed
theorem ztT (d x1 y1 x2 y2 x3 y3:K)
  (e1:x1*x1+y1*y1=1+d*x1*x1*y1*y1)
  (e2:x2*x2+y2*y2=1+d*x2*x2*y2*y2)
  (e3:x3*x3+y3*y3=1+d*x3*x3*y3*y3) :
  ((x1*y2+y1*x2)*(1-d*x1*x2*y1*y2)*y3+(y1*y2-x1*x2)*(1+d*x1*x2*y1*y2)*x3)*((1-d*x2*x3*y2*y3)*(1+d*x2*x3*y2*y3)+d*x1*y1*(x2*y3+y2*x3)*(y2*y3-x2*x3))
  = (x1*(y2*y3-x2*x3)*(1+d*x2*x3*y2*y3)+y1*(x2*y3+y2*x3)*(1-d*x2*x3*y2*y3))*((1-d*x1*x2*y1*y2)*(1+d*x1*x2*y1*y2)+d*x3*y3*(x1*y2+y1*x2)*(y1*y2-x1*x2)):=by
  grobner
theorem ztU (d x1 y1 x2 y2 x3 y3:K)
  (e1:x1*x1+y1*y1=1+d*x1*x1*y1*y1)
  (e2:x2*x2+y2*y2=1+d*x2*x2*y2*y2)
  (e3:x3*x3+y3*y3=1+d*x3*x3*y3*y3) :
  ((y1*y2-x1*x2)*(1+d*x1*x2*y1*y2)*y3 - (x1*y2+y1*x2)*(1-d*x1*x2*y1*y2)*x3)*((1-d*x2*x3*y2*y3)*(1+d*x2*x3*y2*y3) - d*x1*y1*(x2*y3+y2*x3)*(y2*y3-x2*x3))
  = (y1*(y2*y3-x2*x3)*(1+d*x2*x3*y2*y3) - x1*(x2*y3+y2*x3)*(1-d*x2*x3*y2*y3))*((1-d*x1*x2*y1*y2)*(1+d*x1*x2*y1*y2) - d*x3*y3*(x1*y2+y1*x2)*(y1*y2-x1*x2)):=by
  grobner
theorem dadd (d x1 y1 x2 y2:K)
  (e1:x1*x1+y1*y1=1+d*x1*x1*y1*y1)
  (e2:x2*x2+y2*y2=1+d*x2*x2*y2*y2) :
  (y1+y2)*(y1+y2)*((1 - d*x1*x2*y1*y2)-(y1*y2 - x1*x2))*((1+d*x1*x2*y1*y2)-(y1*y2+x1*x2))=((1 - d*x1*x2*y1*y2)+(y1*y2 - x1*x2))*((1+d*x1*x2*y1*y2)+(y1*y2+x1*x2))*(y1-y2)*(y1-y2):=by grobner
end Go.Proofs.Ed
namespace Go.Proofs.Ed
abbrev Pt:=K×K
def On (d:K) (P:Pt):Prop:=P.1*P.1+P.2*P.2=1+d*P.1*P.1*P.2*P.2
def add (d:K) (P Q:Pt):Pt :=
  ((P.1*Q.2+P.2*Q.1)*zaI (1+d*P.1*Q.1*P.2*Q.2),(P.2*Q.2 - P.1*Q.1)*zaI (1 - d*P.1*Q.1*P.2*Q.2))
def neg (P:Pt):Pt:=(0 - P.1,P.2)
def O:Pt:=(0,1)
theorem zwb {d:K} (hd:NS d):d≠0:=fun e=>hd 0 (by rw[e];grind)
theorem ztV {d r s:K} (hd:NS d) (h:r*r=d*(s*s)):s=0:=by
  by_cases hs:s=0
  . exact hs
  . exfalso
    have h1:=zaC hs;refine hd (r*zaI s) ?_;generalize zaI s=t at *
    grobner
theorem zkE {d x1 y1 x2 y2 e:K} (hd:NS d) (e1:x1*x1+y1*y1=1+d*x1*x1*y1*y1) (e2:x2*x2+y2*y2=1+d*x2*x2*y2*y2)
    (he:e*e=1) (h:d*x1*x2*y1*y2=e):False:=by
  have a1:(x1+e*y1)*(x1+e*y1)=d*((x1*y1*(x2+y2))*(x1*y1*(x2+y2))):=by grobner
  have a2:(x1 - e*y1)*(x1 - e*y1)=d*((x1*y1*(x2 - y2))*(x1*y1*(x2 - y2))):=by grobner
  have b1:=ztV hd a1;have b2:=ztV hd a2;have c1:x1*y1*x2=0:=by
    have:2*(x1*y1*x2)=0:=by grobner
    rcases zag this with h|h
    . exact absurd h zcu
    . exact h
  have:e=0:=by grobner
  rw[this] at he;exact absurd he (by grind)
theorem znw {d:K} {P Q:Pt} (hd:NS d) (hP:On d P) (hQ:On d Q):1+d*P.1*Q.1*P.2*Q.2≠0:=fun h =>
  zkE (e:=0 - 1) hd hP hQ (by grobner) (by grobner)
theorem zkF {d:K} {P Q:Pt} (hd:NS d) (hP:On d P) (hQ:On d Q):1 - d*P.1*Q.1*P.2*Q.2≠0:=fun h =>
  zkE (e:=1) hd hP hQ (by grobner) (by grobner)
theorem zfQ {d:K} {P Q:Pt} (hd:NS d) (hP:On d P) (hQ:On d Q):(add d P Q).1*(1+d*P.1*Q.1*P.2*Q.2)=P.1*Q.2+P.2*Q.1:=by
  have h:=zaC (znw hd hP hQ);show (P.1*Q.2+P.2*Q.1)*zaI (1+d*P.1*Q.1*P.2*Q.2)*(1+d*P.1*Q.1*P.2*Q.2)=_
  generalize zaI (1+d*P.1*Q.1*P.2*Q.2)=t at *;generalize 1+d*P.1*Q.1*P.2*Q.2=D at *;generalize P.1*Q.2+P.2*Q.1=N at *
  grobner
theorem zdE {d:K} {P Q:Pt} (hd:NS d) (hP:On d P) (hQ:On d Q):(add d P Q).2*(1 - d*P.1*Q.1*P.2*Q.2)=P.2*Q.2 - P.1*Q.1:=by
  have h:=zaC (zkF hd hP hQ);show (P.2*Q.2 - P.1*Q.1)*zaI (1 - d*P.1*Q.1*P.2*Q.2)*(1 - d*P.1*Q.1*P.2*Q.2)=_
  generalize zaI (1 - d*P.1*Q.1*P.2*Q.2)=t at *;generalize 1 - d*P.1*Q.1*P.2*Q.2=D at *;generalize P.2*Q.2 - P.1*Q.1=N at *
  grobner
theorem ztW (d x1 y1 x2 y2:K)
  (e1:x1*x1+y1*y1=1+d*x1*x1*y1*y1)
  (e2:x2*x2+y2*y2=1+d*x2*x2*y2*y2) :
  (x1*y2+y1*x2)*(x1*y2+y1*x2)*((1-d*x1*x2*y1*y2)*(1-d*x1*x2*y1*y2))+(y1*y2-x1*x2)*(y1*y2-x1*x2)*((1+d*x1*x2*y1*y2)*(1+d*x1*x2*y1*y2))
   = (1-d*x1*x2*y1*y2)*(1-d*x1*x2*y1*y2)*((1+d*x1*x2*y1*y2)*(1+d*x1*x2*y1*y2))+d*((x1*y2+y1*x2)*(x1*y2+y1*x2))*((y1*y2-x1*x2)*(y1*y2-x1*x2)):=by
  grobner
theorem zem {d:K} {P Q:Pt} (hd:NS d) (hP:On d P) (hQ:On d Q):On d (add d P Q):=by
  have n1:=znw hd hP hQ;have n2:=zkF hd hP hQ;have h1:=zfQ hd hP hQ;have h2:=zdE hd hP hQ;have h:=ztW d P.1 P.2 Q.1 Q.2 hP hQ;rw[<-h1,<-h2] at h;unfold On;generalize 1+d*P.1*Q.1*P.2*Q.2=D1 at *;generalize 1 - d*P.1*Q.1*P.2*Q.2=D2 at *;generalize (add d P Q).1=X at *;generalize (add d P Q).2=Y at *;clear h1 h2;refine za5 (zal (zal n1 n1) (zal n2 n2)) ?_
  grobner
theorem add_comm (d:K) (P Q:Pt):add d P Q=add d Q P:=by
  unfold add;rw[show P.1*Q.2+P.2*Q.1=Q.1*P.2+Q.2*P.1 by grind,show P.2*Q.2 - P.1*Q.1=Q.2*P.2 - Q.1*P.1 by grind,show d*P.1*Q.1*P.2*Q.2=d*Q.1*P.1*Q.2*P.2 by grind]
theorem znY:zaI 1=1:=by
  have:=zaC (a:=1) (by decide +kernel);generalize zaI 1=t at *
  grind
theorem znZ (d:K) (P:Pt):add d P O=P:=by
  unfold add O;show ((P.1*1+P.2*0)*zaI (1+d*P.1*0*P.2*1),(P.2*1 - P.1*0)*zaI (1 - d*P.1*0*P.2*1))=P
  rw[show 1+d*P.1*0*P.2*1=1 by grind,show 1 - d*P.1*0*P.2*1=1 by grind,znY];exact Prod.ext (by show (P.1*1+P.2*0)*1=P.1;grind) (by show (P.2*1 - P.1*0)*1=P.2;grind)
theorem zrB (d:K) (P:Pt):add d O P=P:=by rw[add_comm,znZ]
theorem on_O (d:K):On d O:=by
  show (0:K)*0+1*1=1+d*0*0*1*1
  grind
theorem zen {d:K} {P:Pt} (h:On d P):On d (neg P):=by
  show (0 - P.1)*(0 - P.1)+P.2*P.2=1+d*(0 - P.1)*(0 - P.1)*P.2*P.2;have h':P.1*P.1+P.2*P.2=1+d*P.1*P.1*P.2*P.2:=h
  grobner
theorem zkG {d:K} {P:Pt} (hd:NS d) (h:On d P):add d P (neg P)=O:=by
  have h1:=zfQ hd h (zen h);have h2:=zdE hd h (zen h);have n1:=znw hd h (zen h);have n2:=zkF hd h (zen h);have h':P.1*P.1+P.2*P.2=1+d*P.1*P.1*P.2*P.2:=h;simp only[neg] at h1 h2 n1 n2 ⊢;refine Prod.ext ?_ ?_
  . refine za5 n1 (h1.trans ?_)
    show _=(0:K)*_
    grind
  . refine za5 n2 (h2.trans ?_)
    show _=(1:K)*_
    grobner
end Go.Proofs.Ed
namespace Go.Proofs.Ed
theorem zrC {d:K} {P Q R:Pt} (hd:NS d) (hP:On d P) (hQ:On d Q) (hR:On d R):(add d (add d P Q) R).1=(add d P (add d Q R)).1:=by
  have oL:=zem hd hP hQ;have oR:=zem hd hQ hR;have a1:=znw hd hP hQ;have a2:=zkF hd hP hQ;have b1:=znw hd hQ hR;have b2:=zkF hd hQ hR;have c1:=znw hd oL hR;have e1:=znw hd hP oR;have x1:=zfQ hd hP hQ;have y1:=zdE hd hP hQ;have x2:=zfQ hd hQ hR;have y2:=zdE hd hQ hR;have xl:=zfQ hd oL hR;have xr:=zfQ hd hP oR;have h:=ztT d P.1 P.2 Q.1 Q.2 R.1 R.2 hP hQ hR;rw[<-x1,<-y1,<-x2,<-y2] at h;clear x1 y1 x2 y2;generalize 1+d*P.1*Q.1*P.2*Q.2=D1 at *;generalize 1 - d*P.1*Q.1*P.2*Q.2=D2 at *;generalize 1+d*Q.1*R.1*Q.2*R.2=F1 at *;generalize 1 - d*Q.1*R.1*Q.2*R.2=F2 at *;generalize (add d (add d P Q) R).1=XL at *;generalize (add d P (add d Q R)).1=XR at *;generalize (add d P Q).1=u1 at *;generalize (add d P Q).2=u2 at *;generalize (add d Q R).1=v1 at *;generalize (add d Q R).2=v2 at *;clear oL oR hP hQ hR;obtain⟨E1,hE1⟩:∃E,1+d*u1*R.1*u2*R.2=E:=⟨_,rfl⟩;obtain⟨E2,hE2⟩:∃E,1+d*P.1*v1*P.2*v2=E:=⟨_,rfl⟩;rw[hE1] at c1 xl;rw[hE2] at e1 xr;have h':(u1*R.2+u2*R.1)*E2*(D1*D2*(F1*F2))=(P.1*v2+P.2*v1)*E1*(D1*D2*(F1*F2)):=by
    rw[<-hE1,<-hE2];clear hE1 hE2 xl xr;grobner
  have h2:=za5 (zal (zal a1 a2) (zal b1 b2)) h';rw[<-xl,<-xr] at h2;refine za5 (zal c1 e1) ?_;clear h h' hE1 hE2 xl xr
  grobner
theorem zrD {d:K} {P Q R:Pt} (hd:NS d) (hP:On d P) (hQ:On d Q) (hR:On d R):(add d (add d P Q) R).2=(add d P (add d Q R)).2:=by
  have oL:=zem hd hP hQ;have oR:=zem hd hQ hR;have a1:=znw hd hP hQ;have a2:=zkF hd hP hQ;have b1:=znw hd hQ hR;have b2:=zkF hd hQ hR;have c1:=zkF hd oL hR;have e1:=zkF hd hP oR;have x1:=zfQ hd hP hQ;have y1:=zdE hd hP hQ;have x2:=zfQ hd hQ hR;have y2:=zdE hd hQ hR;have xl:=zdE hd oL hR;have xr:=zdE hd hP oR;have h:=ztU d P.1 P.2 Q.1 Q.2 R.1 R.2 hP hQ hR;rw[<-x1,<-y1,<-x2,<-y2] at h;clear x1 y1 x2 y2;generalize 1+d*P.1*Q.1*P.2*Q.2=D1 at *;generalize 1 - d*P.1*Q.1*P.2*Q.2=D2 at *;generalize 1+d*Q.1*R.1*Q.2*R.2=F1 at *;generalize 1 - d*Q.1*R.1*Q.2*R.2=F2 at *;generalize (add d (add d P Q) R).2=XL at *;generalize (add d P (add d Q R)).2=XR at *;generalize (add d P Q).1=u1 at *;generalize (add d P Q).2=u2 at *;generalize (add d Q R).1=v1 at *;generalize (add d Q R).2=v2 at *;clear oL oR hP hQ hR;obtain⟨E1,hE1⟩:∃E,1 - d*u1*R.1*u2*R.2=E:=⟨_,rfl⟩;obtain⟨E2,hE2⟩:∃E,1 - d*P.1*v1*P.2*v2=E:=⟨_,rfl⟩;rw[hE1] at c1 xl;rw[hE2] at e1 xr;have h':(u2*R.2 - u1*R.1)*E2*(D1*D2*(F1*F2))=(P.2*v2 - P.1*v1)*E1*(D1*D2*(F1*F2)):=by
    rw[<-hE1,<-hE2];clear hE1 hE2 xl xr;grobner
  have h2:=za5 (zal (zal a1 a2) (zal b1 b2)) h';rw[<-xl,<-xr] at h2;refine za5 (zal c1 e1) ?_;clear h h' hE1 hE2 xl xr
  grobner
theorem add_assoc {d:K} {P Q R:Pt} (hd:NS d) (hP:On d P) (hQ:On d Q) (hR:On d R):add d (add d P Q) R=add d P (add d Q R) :=
  Prod.ext (zrC hd hP hQ hR) (zrD hd hP hQ hR)
def mu (d:K):Nat->Pt->Pt
  | 0,_=>O
  | n+1,P=>add d (mu d n P) P
theorem zha {d:K} {P:Pt} (hd:NS d) (hP:On d P) (n:Nat):On d (mu d n P):=by
  induction n with
  | zero=>exact on_O d
  | succ n ih=>exact zem hd ih hP
theorem zqz (d:K) (P:Pt):mu d 1 P=P:=zrB d P
theorem zfR {d:K} {P:Pt} (hd:NS d) (hP:On d P) (m n:Nat):mu d (m+n) P=add d (mu d m P) (mu d n P):=by
  induction n with
  | zero=>exact (znZ d _).symm
  | succ n ih =>
    show add d (mu d (m+n) P) P=add d (mu d m P) (add d (mu d n P) P);rw[ih,add_assoc hd (zha hd hP m) (zha hd hP n) hP]
theorem zwc {d:K} (n:Nat):mu d n O=O:=by
  induction n with
  | zero=>rfl
  | succ n ih=>show add d (mu d n O) O=O;rw[ih,znZ]
theorem zii {d:K} {P:Pt} (hd:NS d) (hP:On d P) (m n:Nat):mu d m (mu d n P)=mu d (m*n) P:=by
  induction m with
  | zero=>rw[Nat.zero_mul];rfl
  | succ m ih =>
    show add d (mu d m (mu d n P)) (mu d n P)=_;rw[ih,Nat.succ_mul,zfR hd hP]
def T:Pt:=(0,0 - 1)
theorem zxs (d:K):On d T:=by
  show (0:K)*0+(0 - 1)*(0 - 1)=1+d*0*0*(0 - 1)*(0 - 1)
  grind
theorem T_T {d:K} (hd:NS d):add d T T=O:=by
  have:neg T=T:=Prod.ext (by show (0:K) - 0=0;grind) rfl;have h:=zkG hd (zxs d);rw[this] at h;exact h
theorem zkH {d:K} (hd:NS d) (m:Nat):mu d (m*2) T=O:=by
  rw[<-zii hd (zxs d)];have:mu d 2 T=O:=by show add d (add d O T) T=O;rw[zrB,T_T hd]
  rw[this,zwc]
theorem zji {d:K} {P Q R:Pt} (hd:NS d) (hP:On d P) (hR:On d R) (h:Q=add d R P):add d Q (neg R)=P:=by
  rw[h,add_comm d R P,add_assoc hd hP hR (zen hR),zkG hd hR,znZ]
end Go.Proofs.Ed
namespace Go.Proofs.Ed
abbrev c0:K:=121665
structure Cv (d s:K):Prop where
  ns:NS d
  ss:s*s=1
  hk:4*s=(1 - d)*(2*s+4*c0+2)
def Rep (s X Z y:K):Prop:=X*s*(1 - y)=Z*(1+y)/\¬(X=0/\Z=0)
theorem ztX {s:K} (h:s*s=1):s≠0:=fun e=>by rw[e] at h;exact absurd h (by grind)
theorem zhb {s X Z y:K} (ss:s*s=1) (h:Rep s X Z y):∃l:K,l≠0/\X=l*(1+y)/\Z=s*l*(1 - y):=by
  obtain⟨h,hn⟩:=h;have h2:=zaC zcu;have hx:X=(X+s*Z)*zaI 2*(1+y):=by
    refine za5 zcu ?_;generalize zaI 2=t at *
    grobner
  have hz:Z=s*((X+s*Z)*zaI 2)*(1 - y):=by
    refine za5 zcu ?_;generalize zaI 2=t at *
    grobner
  refine⟨(X+s*Z)*zaI 2,fun e=>hn ?_,hx,hz⟩;rw[e] at hx hz;exact⟨by rw[hx];grind,by rw[hz];grind⟩
theorem zcW:(4:K)≠0:=by decide +kernel
theorem zeo:(16:K)≠0:=by decide +kernel
theorem Cv.one_d {d s:K} (h:Cv d s):1 - d≠0:=fun e=>h.ns 1 (by grobner)
theorem Cv.g_ne {d s:K} (h:Cv d s):2*s+4*c0+2≠0:=by
  have h1:=h.hk;have:=zal zcW (ztX h.ss);rw[h1] at this;exact znW this
theorem zkI {d s X Z:K} {P:Pt} (hc:Cv d s) (hP:On d P) (h:Rep s X Z P.2) :
    Rep s ((X+Z)*(X+Z)*((X - Z)*(X - Z))) (((X+Z)*(X+Z) - (X - Z)*(X - Z))*((X+Z)*(X+Z)+c0*((X+Z)*(X+Z) - (X - Z)*(X - Z)))) (add d P P).2:=by
  have ss:=hc.ss;have hk:=hc.hk;have n1:=hc.one_d;have hg:=hc.g_ne;have D:=zkF hc.ns hP hP;have hy:=zdE hc.ns hP hP;have on:P.1*P.1+P.2*P.2=1+d*P.1*P.1*P.2*P.2:=hP;obtain⟨l,hl,rfl,rfl⟩:=zhb ss h;generalize (add d P P).2=Y at *;generalize P.1=x at *;generalize P.2=y at *;have ex:(l*(1+y)+s*l*(1 - y))*(l*(1+y)+s*l*(1 - y))*((l*(1+y) - s*l*(1 - y))*(l*(1+y) - s*l*(1 - y)))=16*(l*l*(l*l))*(y*y):=by grobner
  have ez:((l*(1+y)+s*l*(1 - y))*(l*(1+y)+s*l*(1 - y)) - (l*(1+y) - s*l*(1 - y))*(l*(1+y) - s*l*(1 - y)))*((l*(1+y)+s*l*(1 - y))*(l*(1+y)+s*l*(1 - y))+c0*((l*(1+y)+s*l*(1 - y))*(l*(1+y)+s*l*(1 - y)) - (l*(1+y) - s*l*(1 - y))*(l*(1+y) - s*l*(1 - y))))
      = 4*(l*l*(l*l))*(1 - y*y)*(2*s*(1+y*y)+(4*c0+2)*(1 - y*y)):=by generalize c0=c at *;grobner
  rw[ex,ez];clear ex ez h hP;have l4:l*l*(l*l)≠0:=zal (zal hl hl) (zal hl hl);generalize l*l*(l*l)=L at *;have kk:4*s*(1 - d*y*y)=(1 - d)*(2*s*(1+y*y)+(4*c0+2)*(1 - y*y)):=by generalize c0=c at *;grobner
  generalize c0=c at *;generalize hG:2*s*(1+y*y)+(4*c+2)*(1 - y*y)=G at *;have ee:(1 - d*y*y)*(1 - x*x)=y*y*(1 - d):=by grobner
  refine⟨?_,fun ⟨e1,e2⟩ => ?_⟩
  . refine za5 (zal D n1) ?_
    have t1:(1+Y)*(1 - d*x*x*y*y)=2 - 2*(x*x):=by grobner
    have t2:(1 - Y)*(1 - d*x*x*y*y)=2 - 2*(y*y):=by grobner
    clear hG hg hk on hy D;generalize 1 - d*x*x*y*y=E at *
    grobner
  . have y0:y=0:=by
      rcases zag e1 with h|h
      . exact absurd h (zal zeo l4)
      . rcases zag h with h|h <;> exact h
    subst y0;have g:G=2*s+4*c+2:=by rw[<-hG];grobner
    rw[g] at e2;refine zal (zal (zal zcW l4) (b:=1 - 0*0) ?_) hg e2;decide +kernel
theorem ztY (s l m y1 y2:K) (ss:s*s=1):((m*(1+y2) - s*m*(1 - y2))*(l*(1+y1)+s*l*(1 - y1))+(m*(1+y2)+s*m*(1 - y2))*(l*(1+y1) - s*l*(1 - y1)))*((m*(1+y2) - s*m*(1 - y2))*(l*(1+y1)+s*l*(1 - y1))+(m*(1+y2)+s*m*(1 - y2))*(l*(1+y1) - s*l*(1 - y1)))=16*(l*l*(m*m))*((y1+y2)*(y1+y2)):=by
  have:(m*(1+y2) - s*m*(1 - y2))*(l*(1+y1)+s*l*(1 - y1))+(m*(1+y2)+s*m*(1 - y2))*(l*(1+y1) - s*l*(1 - y1))=4*(l*m)*(y1+y2):=by grobner
  rw[this];grind
theorem ztZ (s l m y1 y2:K) (ss:s*s=1):((m*(1+y2) - s*m*(1 - y2))*(l*(1+y1)+s*l*(1 - y1)) - (m*(1+y2)+s*m*(1 - y2))*(l*(1+y1) - s*l*(1 - y1)))*((m*(1+y2) - s*m*(1 - y2))*(l*(1+y1)+s*l*(1 - y1)) - (m*(1+y2)+s*m*(1 - y2))*(l*(1+y1) - s*l*(1 - y1)))=16*(l*l*(m*m))*((y1 - y2)*(y1 - y2)):=by
  have:(m*(1+y2) - s*m*(1 - y2))*(l*(1+y1)+s*l*(1 - y1)) - (m*(1+y2)+s*m*(1 - y2))*(l*(1+y1) - s*l*(1 - y1))=s*(4*(l*m)*(y2 - y1)):=by grobner
  rw[this];grobner
theorem zij {d s u X Z X' Z':K} {P Q R:Pt} (hc:Cv d s) (hP:On d P) (hQ:On d Q) (hu:u*s*(1 - R.2)=1+R.2) (u0:u≠0)
    (hd:P.2*Q.2+P.1*Q.1=R.2*(1+d*P.1*Q.1*P.2*Q.2)) (h:Rep s X Z P.2) (h':Rep s X' Z' Q.2) :
    Rep s (((X' - Z')*(X+Z)+(X'+Z')*(X - Z))*((X' - Z')*(X+Z)+(X'+Z')*(X - Z))) (u*(((X' - Z')*(X+Z) - (X'+Z')*(X - Z))*((X' - Z')*(X+Z) - (X'+Z')*(X - Z)))) (add d P Q).2:=by
  have ss:=hc.ss;have n1:=hc.one_d;have D1:=znw hc.ns hP hQ;have D2:=zkF hc.ns hP hQ;have hy:=zdE hc.ns hP hQ;have da:=dadd d P.1 P.2 Q.1 Q.2 hP hQ;have o1:P.1*P.1+P.2*P.2=1+d*P.1*P.1*P.2*P.2:=hP;have o2:Q.1*Q.1+Q.2*Q.2=1+d*Q.1*Q.1*Q.2*Q.2:=hQ;obtain⟨l,hl,rfl,rfl⟩:=zhb ss h;obtain⟨m,hm,rfl,rfl⟩:=zhb ss h';have r1:1 - R.2≠0:=fun e=>zcu (by grobner)
  have s0:=ztX ss;generalize (add d P Q).2=Y at *;generalize R.2=r at *;generalize P.1=x1 at *;generalize P.2=y1 at *;generalize Q.1=x2 at *;generalize Q.2=y2 at *;rw[ztY s l m y1 y2 ss,ztZ s l m y1 y2 ss];clear h h' hP hQ;have l4:16*(l*l*(m*m))≠0:=zal zeo (zal (zal hl hl) (zal hm hm));generalize 16*(l*l*(m*m))=L at *;have key:(y1+y2)*(y1+y2)*(1 - Y)*(1 - r)=(1+Y)*(1+r)*((y1 - y2)*(y1 - y2)):=by
    refine za5 (zal D1 D2) ?_;have h1:y1*y2 - x1*x2=Y*(1 - d*x1*x2*y1*y2):=hy.symm;have h2:y1*y2+x1*x2=r*(1+d*x1*x2*y1*y2):=hd;rw[h1,h2] at da;clear hy hd o1 o2 h1 h2;generalize 1 - d*x1*x2*y1*y2=E1 at *;generalize 1+d*x1*x2*y1*y2=E2 at *
    grobner
  refine⟨?_,fun ⟨e1,e2⟩ => ?_⟩
  . refine za5 r1 ?_
    clear hy hd o1 o2 da D1 D2
    grobner
  . have a1:y1+y2=0:=by
      rcases zag e1 with h|h
      . exact absurd h l4
      . rcases zag h with h|h <;> exact h
    have a2:y1 - y2=0:=by
      rcases zag e2 with h|h
      . exact absurd h u0
      . rcases zag h with h|h
        . exact absurd h l4
        . rcases zag h with h|h <;> exact h
    have b1:y1=0:=by
      have:2*y1=0:=by grobner
      rcases zag this with h|h
      . exact absurd h zcu
      . exact h
    have b2:y2=0:=by grobner
    subst b1;subst b2;have c1:r*r=1:=by grobner
    have c2:(r - 1)*(r+1)=0:=by grobner
    rcases zag c2 with h|h
    . exact r1 (by grobner)
    . have:u*s*2=0:=by grobner
      exact zal (zal u0 s0) zcu this
end Go.Proofs.Ed
namespace Go.Proofs.Ed
def zaG (u:K) (P Q:K×K):(K×K)×(K×K) :=
  (((P.1+P.2)*(P.1+P.2)*((P.1 - P.2)*(P.1 - P.2)),((P.1+P.2)*(P.1+P.2) - (P.1 - P.2)*(P.1 - P.2))*((P.1+P.2)*(P.1+P.2)+c0*((P.1+P.2)*(P.1+P.2) - (P.1 - P.2)*(P.1 - P.2)))),
   (((Q.1 - Q.2)*(P.1+P.2)+(Q.1+Q.2)*(P.1 - P.2))*((Q.1 - Q.2)*(P.1+P.2)+(Q.1+Q.2)*(P.1 - P.2)),u*(((Q.1 - Q.2)*(P.1+P.2) - (Q.1+Q.2)*(P.1 - P.2))*((Q.1 - Q.2)*(P.1+P.2) - (Q.1+Q.2)*(P.1 - P.2)))))
def nxt (u:K) (bit:Nat) (S:(K×K)×(K×K)):(K×K)×(K×K) :=
  if bit=1 then ((zaG u S.2 S.1).2,(zaG u S.2 S.1).1) else zaG u S.1 S.2
def run (u:K) (k:Nat):Nat->(K×K)×(K×K)
  | 0=>((1,0),(u,1))
  | i+1=>nxt u (k / 2 ^ (254 - i) % 2) (run u k i)
def lad (k:Nat) (u:K):K:=(run u k 255).1.1*zaI (run u k 255).1.2
theorem zt0 {d:K} {P Q R:Pt} (hd:NS d) (hP:On d P) (hR:On d R) (h:Q=add d P R):P.2*Q.2+P.1*Q.1=R.2*(1+d*P.1*Q.1*P.2*Q.2):=by
  have hQ:On d Q:=by rw[h];exact zem hd hP hR
  have e:=zji hd hR hP h;have y:=zdE hd hQ (zen hP);rw[e] at y;have y':R.2*(1 - d*Q.1*(0 - P.1)*Q.2*P.2)=Q.2*P.2 - Q.1*(0 - P.1):=y
  grobner
def zwd (d s:K) (R:Pt) (n:Nat) (S:(K×K)×(K×K)):Prop:=Rep s S.1.1 S.1.2 (mu d n R).2/\Rep s S.2.1 S.2.2 (mu d (n+1) R).2
theorem zrE (d:K) (n:Nat) (R:Pt):mu d (n+1) R=add d (mu d n R) R:=rfl
theorem zn0 {d s u:K} {R:Pt} (hc:Cv d s) (hR:On d R) (hu:u*s*(1 - R.2)=1+R.2) (u0:u≠0) (n b:Nat) (hb:b < 2) (S:(K×K)×(K×K)) (h:zwd d s R n S) :
    zwd d s R (2*n+b) (nxt u b S):=by
  obtain⟨h1,h2⟩:=h;have o1:=zha hc.ns hR n;have o2:=zha hc.ns hR (n+1);have dy:=zt0 hc.ns o1 hR (zrE d n R);have hs:mu d (2*n+1) R=add d (mu d n R) (mu d (n+1) R):=by rw[<-zfR hc.ns hR];congr 1;omega
  rcases (by omega:b=0\/b=1) with rfl|rfl
  . have e1:mu d (2*n+0) R=add d (mu d n R) (mu d n R):=by rw[<-zfR hc.ns hR];congr 1;omega
    refine⟨?_,?_⟩
    . rw[e1];exact zkI hc o1 h1
    . rw[show 2*n+0+1=2*n+1 by omega,hs];exact zij hc o1 o2 hu u0 dy h1 h2
  . have e1:mu d (2*n+1+1) R=add d (mu d (n+1) R) (mu d (n+1) R):=by rw[<-zfR hc.ns hR];congr 1;omega
    refine⟨?_,?_⟩
    . rw[hs,add_comm]
      refine zij hc o2 o1 hu u0 ?_ h2 h1;generalize (mu d n R).1=a1 at *;generalize (mu d n R).2=a2 at *;generalize (mu d (n+1) R).1=b1 at *;generalize (mu d (n+1) R).2=b2 at *;clear h1 h2
      grobner
    . rw[e1];exact zkI hc o2 h2
theorem zqA:(1:K)≠0:=by decide +kernel
theorem zik {d s u:K} {R:Pt} (hc:Cv d s) (hR:On d R) (hu:u*s*(1 - R.2)=1+R.2) (u0:u≠0) (k:Nat) (hk:k < 2 ^ 255) (i:Nat) (hi:i<=255) :
    zwd d s R (k / 2 ^ (255 - i)) (run u k i):=by
  induction i with
  | zero =>
    rw[Nat.div_eq_of_lt hk];refine⟨⟨?_,fun h=>zqA h.1⟩,⟨?_,fun h=>zqA h.2⟩⟩
    . show (1:K)*s*(1 - 1)=0*(1+1)
      grind
    . rw[show 0+1=1 from rfl,zqz]
      show u*s*(1 - R.2)=1*(1+R.2);rw[hu];grind
  | succ i ih =>
    have h:=zn0 hc hR hu u0 _ (k / 2 ^ (254 - i) % 2) (Nat.mod_lt _ (by decide)) _ (ih (by omega));have e:2*(k / 2 ^ (255 - i))+k / 2 ^ (254 - i) % 2=k / 2 ^ (255 - (i+1)):=by
      rw[show 255 - i=254 - i+1 by omega,Nat.pow_succ,<-Nat.div_div_eq_div_mul,show 255 - (i+1)=254 - i by omega];omega
    rw[e] at h;exact h
def U (s y:K):K:=s*(1+y)*zaI (1 - y)
theorem zwe {s X Z y:K} (ss:s*s=1) (h:Rep s X Z y):X*zaI Z=U s y:=by
  obtain⟨h,hn⟩:=h;unfold U;by_cases hy:y=1
  . subst hy
    have hz:Z=0:=by
      have:Z*2=0:=by grobner
      rcases zag this with h|h
      . exact h
      . exact absurd h zcu
    rw[hz,show (1:K) - 1=0 by grind,zfP]
    grind
  . have h1:1 - y≠0:=fun e=>hy (by grobner)
    have hz:Z≠0:=fun e=>by
      subst e;refine hn ⟨?_,rfl⟩;have:X*(s*(1 - y))=0:=by grobner
      rcases zag this with h|h
      . exact h
      . exact absurd h (zal (ztX ss) h1)
    have i1:=zaC h1;have i2:=zaC hz;refine za5 (zal hz h1) ?_;generalize zaI Z=t at *;generalize zaI (1 - y)=r at *;clear hn hy h1 hz
    grobner
theorem zrF {d s u:K} {R:Pt} (hc:Cv d s) (hR:On d R) (hu:u*s*(1 - R.2)=1+R.2) (u0:u≠0) (k:Nat) (hk:k < 2 ^ 255):lad k u=U s (mu d k R).2:=by
  have h:=(zik hc hR hu u0 k hk 255 (by omega)).1;rw[show k / 2 ^ (255 - 255)=k by simp] at h;exact zwe hc.ss h
theorem zwf (s:K):U s 1=0:=by unfold U;rw[show (1:K) - 1=0 by grind,zfP];grind
theorem U_ne {s y:K} (ss:s*s=1) (h:U s y≠0):U s y*s*(1 - y)=1+y:=by
  have h1 : 1 - y ≠ 0 := fun e => h (by have : y = 1 := by grobner
                                        rw[this];exact zwf s)
  have i1:=zaC h1;unfold U;generalize zaI (1 - y)=r at *;clear h h1
  grobner
theorem zt1 {s y:K} (ss:s*s=1) (h:U s y=0):y=1\/y=0 - 1:=by
  by_cases hy:y=1
  . exact .inl hy
  . right
    have h1:1 - y≠0:=fun e=>hy (by grobner)
    unfold U at h;rcases zag h with h|h
    . rcases zag h with h|h
      . exact absurd h (ztX ss)
      . grobner
    . exact absurd h (zkC h1)
theorem zwg {d:K} {P:Pt} (hd:NS d) (hP:On d P) (h:P.2*P.2=1):P.1=0:=by
  have hP':P.1*P.1+P.2*P.2=1+d*P.1*P.1*P.2*P.2:=hP;generalize P.1=x at *;generalize P.2=y at *;have:x*x*(1 - d)=0:=by grobner
  rcases zag this with h|h
  . rcases zag h with h|h <;> exact h
  . exact absurd (by grobner) (hd 1)
theorem zkJ {d s:K} {P:Pt} (hc:Cv d s) (hP:On d P) (h:U s P.2=0):P=O\/P=T:=by
  rcases zt1 hc.ss h with h|h
  . exact .inl (Prod.ext (zwg hc.ns hP (by rw[h];grind)) h)
  . exact .inr (Prod.ext (zwg hc.ns hP (by rw[h];grind)) h)
end Go.Proofs.Ed
namespace Go.Proofs.Ed
abbrev d1:K:=20800338683988658368647408995589388737092878452977063003340006470870624536394
abbrev d2:K:=28692721048178265397853269683490922171210976843790175684556505508326675974058
theorem zn1:NS d1:=ztS (by decide +kernel) (by decide +kernel)
theorem zwh:NS d2:=ztS (by decide +kernel) (by decide +kernel)
theorem zt2:d1*(1+c0)=c0:=by decide +kernel
theorem zwi:d2*c0=1+c0:=by decide +kernel
theorem cv1:Cv d1 1:=⟨zn1,by decide +kernel,by decide +kernel⟩
theorem cv2:Cv d2 (0 - 1):=⟨zwh,by decide +kernel,by decide +kernel⟩
theorem c_ne:c0≠0:=by decide +kernel
theorem zkK:1+c0≠0:=by decide +kernel
theorem zrG (u:K):u*u+(4*c0+2)*u+1≠0:=fun h=>by
  have i1:=zaC (zal zcW zkK);have e:=zt2;refine zn1 ((2*u+(4*c0+2))*zaI (4*(1+c0))) ?_;generalize zaI (4*(1+c0))=t at *;refine za5 (zal (zal zcW zkK) (zal zcW zkK)) ?_;generalize d1=d at *;generalize c0=c at *;have h2:(2*u+(4*c+2))*(2*u+(4*c+2))=16*(c*(c+1)):=by grobner
  grobner
theorem zfS (u:K) (hu:u≠0):∃(d s:K) (P:Pt),Cv d s/\On d P/\u*s*(1 - P.2)=1+P.2:=by
  by_cases hp:u=1
  . exact⟨d1,1,(1,0),cv1,by show (1:K)*1+0*0=1+d1*1*1*0*0;grind,by rw[hp];show (1:K)*1*(1 - 0)=1+0;grind⟩
  by_cases hm:u=0 - 1
  . exact⟨d2,0 - 1,(1,0),cv2,by show (1:K)*1+0*0=1+d2*1*1*0*0;grind,by rw[hm];show (0 - 1:K)*(0 - 1)*(1 - 0)=1+0;grind⟩
  have n1:u+1≠0:=fun e=>hm (by grobner)
  have n2:u - 1≠0:=fun e=>hp (by grobner)
  have nr:=zrG u;have i1:=zaC n1;have i2:=zaC n2;have i3:=zaC nr;have ha:4*u*(1+c0)*zaI (u*u+(4*c0+2)*u+1)≠0:=zal (zal (zal zcW hu) zkK) (zkC nr);have e1:=zt2;have e2:=zwi;rcases zkD zn1 (zwb zn1) ha with ⟨r,hr⟩|⟨r,hr⟩
  . refine⟨d1,1,(r,(u - 1)*zaI (u+1)),cv1,?_,?_⟩
    . show r*r+(u - 1)*zaI (u+1)*((u - 1)*zaI (u+1))=1+d1*r*r*((u - 1)*zaI (u+1))*((u - 1)*zaI (u+1))
      have hr':r*r*(u*u+(4*c0+2)*u+1)=4*u*(1+c0):=by
        rw[hr];generalize zaI (u*u+(4*c0+2)*u+1)=t at *;generalize u*u+(4*c0+2)*u+1=M at *;clear hr ha;generalize c0=c at *;grobner
      have hy:(u - 1)*zaI (u+1)*(u+1)=u - 1:=by generalize zaI (u+1)=t at *;clear hr hr' i2 i3;grobner
      generalize (u - 1)*zaI (u+1)=y at *;generalize zaI (u*u+(4*c0+2)*u+1)=t at *;clear hr i1 i2 i3 e2 ha;refine za5 (zal (zal n1 n1) zkK) ?_;clear nr n1 n2 hm hp hu;generalize c0=c at *;generalize d1=d at *
      grobner
    . show u*1*(1 - (u - 1)*zaI (u+1))=1+(u - 1)*zaI (u+1)
      generalize zaI (u+1)=t at *;clear hr i2 i3 ha nr
      grobner
  . refine⟨d2,0 - 1,(r,(u+1)*zaI (u - 1)),cv2,?_,?_⟩
    . show r*r+(u+1)*zaI (u - 1)*((u+1)*zaI (u - 1))=1+d2*r*r*((u+1)*zaI (u - 1))*((u+1)*zaI (u - 1))
      have hr':r*r*(u*u+(4*c0+2)*u+1)=4*u*c0:=by
        rw[hr];generalize zaI (u*u+(4*c0+2)*u+1)=t at *;generalize u*u+(4*c0+2)*u+1=M at *;clear hr ha e2;generalize c0=c at *;generalize d1=d at *;grobner
      have hy:(u+1)*zaI (u - 1)*(u - 1)=u+1:=by generalize zaI (u - 1)=t at *;clear hr hr' i1 i3;grobner
      generalize (u+1)*zaI (u - 1)=y at *;generalize zaI (u*u+(4*c0+2)*u+1)=t at *;clear hr i1 i2 i3 e1 ha;refine za5 (zal (zal n2 n2) c_ne) ?_;clear nr n1 n2 hm hp hu;generalize c0=c at *;generalize d2=d at *
      grobner
    . show u*(0 - 1)*(1 - (u+1)*zaI (u - 1))=1+(u+1)*zaI (u - 1)
      generalize zaI (u - 1)=t at *;clear hr i1 i3 ha nr
      grobner
end Go.Proofs.Ed
namespace Go.Proofs.Ed
open Go.Proofs.Fd
abbrev ell:Nat:=7237005577332262213973186563042994240857116359379907606001950938285454250989
theorem zrH:(run 9 ell 255).1.2=0:=by decide +kernel
theorem zfT:Pr ell:=zah
theorem zt3:ell < 2 ^ 255:=by decide
theorem zcX:(9:K)≠0:=by decide +kernel
theorem zt4 {d s:K} {R:Pt} (hc:Cv d s) (hR:On d R) (hu:9*s*(1 - R.2)=1+R.2):mu d ell R=O:=by
  have h:=(zik hc hR hu zcX ell zt3 255 (by omega)).1;rw[show ell / 2 ^ (255 - 255)=ell by simp,zrH] at h;obtain⟨h1,h2⟩:=h;have hx:(run 9 ell 255).1.1≠0:=fun e=>h2 ⟨e,rfl⟩
  generalize (run 9 ell 255).1.1=x at *;have o:=zha hc.ns hR ell;have hz:x*s*(1 - (mu d ell R).2)=0:=by rw[h1];grind
  have y1:(mu d ell R).2=1:=by
    rcases zag hz with h|h
    . exact absurd h (zal hx (ztX hc.ss))
    . grobner
  exact Prod.ext (zwg hc.ns o (by rw[y1];grind)) y1
theorem zt5 {d:K} {R:Pt} (hd:NS d) (hR:On d R) (a b:Nat) (ha:mu d a R=O) (hb:mu d b R=O):mu d (b % a) R=O:=by
  have e:=Nat.div_add_mod b a;rw[<-e,zfR hd hR,Nat.mul_comm,<-zii hd hR,ha,zwc,zrB] at hb;exact hb
theorem zt6 {d:K} {R:Pt} (hd:NS d) (hR:On d R) (a b:Nat) (ha:mu d a R=O) (hb:mu d b R=O):mu d (Nat.gcd a b) R=O:=by
  induction a,b using Nat.gcd.induction with
  | H0 b=>simpa using hb
  | H1 a b h0 ih =>
    rw[Nat.gcd_rec];exact ih (zt5 hd hR a b ha hb) ha
theorem zrI {d s:K} {R:Pt} (hc:Cv d s) (hR:On d R) (hu:9*s*(1 - R.2)=1+R.2) (n:Nat) (hn:mu d n R=O):ell ∣ n:=by
  by_cases h:ell ∣ n
  . exact h
  . exfalso
    have g:=zqt zfT h;have:=zt6 hc.ns hR n ell hn (zt4 hc hR hu);rw[g,zqz] at this;rw[this] at hu;have hu':9*s*(1 - 1)=(1:K)+1:=hu;exact zcu (by grobner)
def Cl (k:Nat):Prop:=∃m,k=8*m/\2 ^ 251<=m/\m < 2 ^ 252
theorem Cl.lt {k:Nat} (h:Cl k):k < 2 ^ 255:=by obtain⟨m,rfl,_,h2⟩:=h;omega
theorem zfU {k:Nat} (h:Cl k):¬ell ∣ k:=fun hd=>by
  obtain⟨m,rfl,h1,h2⟩:=h;rcases zfT.2 8 m hd with h|h
  . have:=Nat.le_of_dvd (by decide) h
    unfold ell at this;omega
  . have:=Nat.le_of_dvd (by omega) h
    unfold ell at this;omega
theorem zil {d s:K} {R:Pt} (hc:Cv d s) (hR:On d R) (hu:9*s*(1 - R.2)=1+R.2) (n:Nat) (h:U s (mu d n R).2=0):ell ∣ n:=by
  have h2:mu d (2*n) R=O:=by
    rw[<-zii hc.ns hR];rcases zkJ hc (zha hc.ns hR n) h with e|e
    . rw[e,zwc]
    . rw[e];exact zkH hc.ns 1
  rcases zfT.2 2 n (zrI hc hR hu _ h2) with h|h
  . have:=Nat.le_of_dvd (by decide) h
    unfold ell at this;omega
  . exact h
end Go.Proofs.Ed
namespace Go.Proofs.Ed
open Go.Proofs.Fd
def zam (n:Nat):Nat:=n % 2 ^ 254 / 8*8+2 ^ 254
theorem zfV (n:Nat):Cl (zam n):=by
  have h:n % 2 ^ 254 < 2 ^ 254:=Nat.mod_lt _ (by decide);refine⟨n % 2 ^ 254 / 8+2 ^ 251,?_,?_,?_⟩
  . unfold zam;omega
  . omega
  . omega
theorem zkL (n:Nat):zam n < zaD:=by
  have:=(zfV n).lt;have e:zaD=2 ^ 256:=by decide
  rw[e];omega
def ptN (n:Nat):K:=⟨n % 2 ^ 255 % q,Nat.mod_lt _ (by decide)⟩
theorem zbR (l:List UInt8) (h:l.length=32) (y:UInt8):num (l.set 31 y)=num l % 256 ^ 31+256 ^ 31*y.toNat/\num l=num l % 256 ^ 31+256 ^ 31*l[31].toNat:=by
  have e1:l.set 31 y=l.take 31++[y]:=by
    rw[List.set_eq_take_append_cons_drop,if_pos (by omega),List.drop_of_length_le (by omega)]
  have e2:l=l.take 31++[l[31]]:=by
    have:=List.take_append_drop 31 l;rw[List.drop_eq_getElem_cons (by omega),List.drop_of_length_le (by omega)] at this;exact this.symm
  have hl:(l.take 31).length=31:=by rw[List.length_take];omega
  have hlt:=zko (l.take 31);rw[hl] at hlt;have n1:num (l.take 31++[y])=num (l.take 31)+256 ^ 31*y.toNat:=by rw[zb4,hl];simp[num]
  have n2:num (l.take 31++[l[31]])=num (l.take 31)+256 ^ 31*l[31].toNat:=by rw[zb4,hl];simp[num]
  have n3:num l=num (l.take 31)+256 ^ 31*l[31].toNat:=by rw[<-n2,<-e2]
  have n4:num l % 256 ^ 31=num (l.take 31):=by rw[n3,Nat.add_mul_mod_self_left,Nat.mod_eq_of_lt hlt]
  rw[e1,n1,n4];exact⟨rfl,n3⟩
theorem zeT (l:List UInt8) (h:l.length=32) (y:UInt8):num (l.set 0 y)=num l / 256*256+y.toNat/\l[0].toNat=num l % 256:=by
  cases l with
  | nil=>simp at h
  | cons x r =>
    have hx:=x.toNat_lt;simp only[List.set_cons_zero,num,List.getElem_cons_zero];omega
theorem zrJ (l:List UInt8) (h:l.length=32) (y:UInt8) (hy:y.toNat=l[31].toNat % 128):num (l.set 31 y)=num l % 2 ^ 255:=by
  obtain⟨e1,e2⟩:=zbR l h y;rw[e1,hy];have hlt:num l % 256 ^ 31 < 256 ^ 31:=Nat.mod_lt _ (by decide);generalize num l % 256 ^ 31=a at *;generalize num l=n at *;generalize l[31].toNat=x at *;have e:(256:Nat) ^ 31=2 ^ 248:=by decide
  rw[e] at *;omega
theorem zkM (l:List UInt8) (h:l.length=32) (x y:UInt8) (hx:x.toNat=l[0].toNat / 8*8) (hy:y.toNat=l[31].toNat % 64+64):num ((l.set 0 x).set 31 y)=zam (num l):=by
  have h':(l.set 0 x).length=32:=by simpa using h
  obtain⟨e1,e2⟩:=zbR (l.set 0 x) h' y;obtain⟨e3,e4⟩:=zeT l h x;obtain⟨-,e5⟩:=zbR l h y;rw[e1,e3,hy,hx,e4];unfold zam;generalize l[31].toNat=t at *;generalize num l=n at *;have e:(256:Nat) ^ 31=2 ^ 248:=by decide
  rw[e] at *;clear e1 e2 e3 e4;have g:n / 256*256+n % 256 / 8*8=n / 8*8:=by omega
  rw[g];have ha:n % 2 ^ 248 < 2 ^ 248:=Nat.mod_lt _ (by decide);have m1:n / 8*8 % 2 ^ 248=n % 2 ^ 248 / 8*8:=by omega
  have m2:n % 2 ^ 254=n % 2 ^ 248+2 ^ 248*(t % 64):=by omega
  rw[m1,m2];clear m1 m2 g e5 ha;generalize n % 2 ^ 248=a;generalize t % 64=r;have m3:(a+2 ^ 248*r) / 8=a / 8+2 ^ 245*r:=by omega
  rw[m3,Nat.mul_add,Nat.add_mul,Nat.add_assoc];have m4:(2:Nat) ^ 248*64=2 ^ 254:=by decide
  have m5:2 ^ 245*r*8=2 ^ 248*r:=by rw[Nat.mul_assoc,Nat.mul_comm r,<-Nat.mul_assoc]
  rw[m4,m5]
theorem zt7 (l:List UInt8) (t:Nat) (h:t / 8 < l.length):l[t / 8].toNat / 2 ^ (t % 8) % 2=num l / 2 ^ t % 2:=by
  have e:=ztM l (t / 8) h;rw[<-e,pow8];have:=ztL (num l) 8 (t / 8) (t % 8) (Nat.mod_lt _ (by decide));rw[show (256:Nat)=2 ^ 8 by decide,this,Nat.div_add_mod]
end Go.Proofs.Ed
