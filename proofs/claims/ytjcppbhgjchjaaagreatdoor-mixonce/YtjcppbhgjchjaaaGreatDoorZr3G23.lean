/- A part of the walk. -/
import Derived.Test.YtjcppbhgjchjaaaGreatDoorZr3G19
import Derived.Shelf.Small.Bits
import Derived.Maps.OwnSet
import Derived.Laws.OwnMore
import Derived.Shelf.GgSortFunc.RowK
set_option maxHeartbeats 8000000
set_option maxRecDepth 20000
namespace Go.Proofs.Wd
open Go.Proofs.Hs Go.Proofs.Cc
def lab:List UInt8:=[119,105,100,101]
def zqE (key:List UInt8) (i:Nat):List UInt8:=((drv key lab 128).drop (32*i)).take 32
theorem zvL (key:List UInt8) (i:Nat) (h:i < 4):(zqE key i).length=32:=by
 unfold zqE drv;rw[List.length_take,List.length_drop,zbs];omega
def z12:List UInt8:=List.replicate 12 0
def stR (k l r:List UInt8):List UInt8:=za0 r (zqb (za0 l k) z12 0 r.length)
def stL (k l r:List UInt8):List UInt8:=za0 l (zd2 k r)
theorem zmI (k l r:List UInt8):(stR k l r).length=r.length:=by
 unfold stR;exact zaQ _ _ (by rw[zfR];exact nL _)
theorem zmJ (k l r:List UInt8) (h:l.length=32):(stL k l r).length=32:=by
 unfold stL;rw[zaQ _ _ (by rw[zcb,h];exact nL _),h]
def stp (key:List UInt8) (i:Nat) (p:List UInt8×List UInt8):List UInt8×List UInt8 :=
 if i % 2=0 then (p.1,stR (zqE key i) p.1 p.2) else (stL (zqE key i) p.1 p.2,p.2)
theorem zsS (key:List UInt8) (i:Nat) (l r:List UInt8) (h:i % 2=0):stp key i (l,r)=(l,stR (zqE key i) l r):=by unfold stp;rw[if_pos h]
theorem zth (key:List UInt8) (i:Nat) (l r:List UInt8) (h:¬i % 2=0):stp key i (l,r)=(stL (zqE key i) l r,r):=by unfold stp;rw[if_neg h]
theorem zmK (key:List UInt8) (i:Nat) (p:List UInt8×List UInt8) (h:p.1.length=32):(stp key i p).1.length=32/\(stp key i p).2.length=p.2.length:=by
 unfold stp
 split
 ·exact⟨h,zmI _ _ _⟩
 ·exact⟨zmJ _ _ _ h,rfl⟩
def run (key:List UInt8) (steps:List Nat) (p:List UInt8×List UInt8):List UInt8×List UInt8:=steps.foldl (fun p i=>stp key i p) p
theorem zkn (key:List UInt8) (i:Nat) (steps:List Nat) (p:List UInt8×List UInt8):run key (i::steps) p=run key steps (stp key i p):=rfl
theorem zuR (key:List UInt8) (p:List UInt8×List UInt8):run key [] p=p:=rfl
theorem zmL (key:List UInt8) (steps:List Nat) (p:List UInt8×List UInt8) (h:p.1.length=32):(run key steps p).1.length=32/\(run key steps p).2.length=p.2.length:=by
 induction steps generalizing p with
 | nil=>exact⟨h,rfl⟩
 | cons i s ih =>
  rw[zkn];obtain⟨h1,h2⟩:=zmK key i p h;obtain⟨h3,h4⟩:=ih (stp key i p) h1;exact⟨h3,h4.trans h2⟩
def zqc (key:List UInt8) (steps:List Nat) (b:List UInt8):List UInt8:=(run key steps (b.take 32,b.drop 32)).1++(run key steps (b.take 32,b.drop 32)).2
theorem zfT (key:List UInt8) (steps:List Nat) (b:List UInt8) (h:32<=b.length):(zqc key steps b).length=b.length:=by
 obtain⟨h1,h2⟩:=zmL key steps (b.take 32,b.drop 32) (by rw[List.length_take];omega);unfold zqc;rw[List.length_append,h1,h2];show 32+(b.drop 32).length=_
 rw[List.length_drop];omega
def zmM (key b:List UInt8):List UInt8:=zqc key [0,1,2,3] b
def zb4 (key b:List UInt8):List UInt8:=zqc key [3,2,1,0] b
theorem zhY (key b:List UInt8) (h:32<=b.length):(zmM key b).length=b.length:=zfT _ _ _ h
theorem zhZ (key b:List UInt8) (h:32<=b.length):(zb4 key b).length=b.length:=zfT _ _ _ h
def zfU (t:List UInt8) (n:Nat):List UInt8:=List.replicate 32 0++[UInt8.ofNat (t.length / 256),UInt8.ofNat t.length]++t++List.replicate (n - 34 - t.length) 0
theorem zgJ (t:List UInt8) (n:Nat) (h:t.length+34<=n):(zfU t n).length=n:=by
 unfold zfU;simp;omega
def zqF (b:List UInt8):Nat:=(b.getD 32 0).toNat*256+(b.getD 33 0).toNat
def zgK (b:List UInt8):Option (List UInt8) :=
 if (b.take 32).all (· == 0)=true/\zqF b+34<=b.length/\(b.drop (34+zqF b)).all (· == 0)=true then some ((b.drop 34).take (zqF b)) else none
end Go.Proofs.Wd
namespace Go.Proofs.Wd
def pln (t:List UInt8) (n q:Nat):List UInt8:=List.replicate 32 0++[UInt8.ofNat (t.length / 256),UInt8.ofNat t.length]++t.take q++List.replicate (n - 34 - q) 0
theorem zwz (t:List UInt8) (n q:Nat) (h:q<=t.length) (hn:t.length+34<=n):(pln t n q).length=n:=by unfold pln;simp;omega
theorem zvM (t:List UInt8) (n:Nat) (hn:34<=n):((List.replicate n (0:UInt8)).set 32 (UInt8.ofNat (t.length / 256))).set 33 (UInt8.ofNat t.length)=pln t n 0:=by
 obtain⟨m,rfl⟩:∃m,n=32+(m+2):=⟨n - 34,by omega⟩;have e:List.replicate (32+(m+2)) (0:UInt8)=List.replicate 32 0++(0::0::List.replicate m 0):=by
  rw[<-List.replicate_append_replicate];rfl
 unfold pln;rw[e,show 32+(m+2) - 34 - 0=m by omega,List.take_zero,List.append_nil,List.append_assoc];rw[List.set_append_right _ _ (by simp),List.set_append_right _ _ (by simp)];simp
theorem zvN (l:List UInt8):l.all (· == 0)=true↔∀j,j < l.length->l.getD j 0=0:=by
 rw[List.all_eq_true];constructor
 ·intro h j hj
  rw[List.getD_eq_getElem?_getD,List.getElem?_eq_getElem hj]
  simpa using h l[j] (List.getElem_mem hj)
 ·intro h x hx
  obtain⟨j,hj,rfl⟩:=List.mem_iff_getElem.1 hx;have:=h j hj;rw[List.getD_eq_getElem?_getD,List.getElem?_eq_getElem hj] at this
  simpa using this
end Go.Proofs.Wd
namespace Go.Proofs.YtjcppbhgjchjaaaGreatDoor
open Go.RowKit Go.Proofs.Fd Go.Proofs.Hs Go.Proofs.Cc Go.Proofs.Wd
theorem zko (l:List UInt8):(⟨l.toArray⟩:Ba).size=l.length:=by show l.toArray.size=_;simp
theorem zoU (l:List UInt8) (a b:Nat):((⟨l.toArray⟩:Ba).extract a b).data.toList=(l.drop a).take (b - a):=by
 rw[ByteArray.data_extract,Array.toList_extract,List.extract_eq_take_drop]
theorem ztL {s:Ba} {l:List UInt8} (h:s.data.toList=l):s=⟨l.toArray⟩:=by cases s;subst h;simp
theorem zcg (s:Ba):s.data.toList.length=s.size:=by simp
end Go.Proofs.YtjcppbhgjchjaaaGreatDoor
namespace Go.Proofs.Wh
def lv (n a:Nat):Nat:=(n ^^^ a).log2 / 6
def pl (n a:Nat):Nat:=64*lv n a+a / 2 ^ (6*lv n a) % 64
theorem xor_zero {a b:Nat} (h:a ^^^ b=0):a=b:=by
 apply Nat.eq_of_testBit_eq;intro i;have:=congrArg (fun x=>x.testBit i) h;simp only[Nat.testBit_xor,Nat.zero_testBit] at this;cases ha:a.testBit i <;> cases hb:b.testBit i <;> simp_all
theorem zh0 (a b k:Nat):(a ^^^ b) / 2 ^ k=a / 2 ^ k ^^^ b / 2 ^ k:=by
 simp only[<-Nat.shiftRight_eq_div_pow];exact Nat.shiftRight_xor_distrib
theorem zdg (n a:Nat):a / 2 ^ (6*(lv n a+1))=n / 2 ^ (6*(lv n a+1)):=by
 symm
 apply xor_zero;rw[<-zh0];apply Nat.div_eq_of_lt;refine Nat.lt_of_lt_of_le Nat.lt_log2_self (Nat.pow_le_pow_right (by decide) ?_);have:=Nat.lt_div_mul_add (a:=(n ^^^ a).log2) (b:=6) (by decide);unfold lv;omega
theorem zmN (n a:Nat):lv n a=0\/a / 2 ^ (6*lv n a)≠n / 2 ^ (6*lv n a):=by
 by_cases h:lv n a=0
 ·exact .inl h
 ·right
  intro e;have hx:n ^^^ a≠0:=by
   intro e0;apply h;unfold lv;rw[e0];rfl
  have h1:(n ^^^ a) / 2 ^ (6*lv n a)=0:=by
   rw[zh0,e];simp
  have h2:2 ^ (n ^^^ a).log2<=n ^^^ a:=Nat.log2_self_le hx;have h3:2 ^ (6*lv n a)<=2 ^ (n ^^^ a).log2:=Nat.pow_le_pow_right (by decide) (by unfold lv;omega);have h4:=Nat.div_pos (Nat.le_trans h3 h2) (Nat.two_pow_pos _);omega
theorem zd5 {a n l m:Nat} (h:a / 2 ^ (6*l)=n / 2 ^ (6*l)) (hm:l<=m):a / 2 ^ (6*m)=n / 2 ^ (6*m):=by
 obtain⟨d,rfl⟩:=Nat.le.dest hm;rw[show 6*(l+d)=6*l+6*d by omega,Nat.pow_add,<-Nat.div_div_eq_div_mul,<-Nat.div_div_eq_div_mul,h]
theorem zoV {n a l:Nat} (h1:a / 2 ^ (6*(l+1))=n / 2 ^ (6*(l+1))) (h2:l=0\/a / 2 ^ (6*l)≠n / 2 ^ (6*l)):lv n a=l:=by
 rcases Nat.lt_trichotomy (lv n a) l with h|h|h
 ·rcases h2 with h2|h2
  ·omega
  ·exact absurd (zd5 (zdg n a) (show lv n a+1<=l by omega)) h2
 ·exact h
 ·rcases zmN n a with h3|h3
  ·omega
  ·exact absurd (zd5 h1 (show l+1<=lv n a by omega)) h3
theorem dig (a l:Nat):a / 2 ^ (6*l)=64*(a / 2 ^ (6*(l+1)))+a / 2 ^ (6*l) % 64:=by
 rw[show 6*(l+1)=6*l+6 by omega,Nat.pow_add,<-Nat.div_div_eq_div_mul];have:=Nat.div_add_mod (a / 2 ^ (6*l)) 64;omega
theorem zd6 {a b k:Nat} (h:a / k < b / k):a < b:=by
 rcases Nat.lt_or_ge a b with h1|h1
 ·exact h1
 ·have:=Nat.div_le_div_right (c:=k) h1
  omega
theorem zoW {n a b:Nat} (hb:n<=b) (h:pl n a < pl n b):a < b:=by
 have da:a / 2 ^ (6*lv n a) % 64 < 64:=Nat.mod_lt _ (by decide);have db:b / 2 ^ (6*lv n b) % 64 < 64:=Nat.mod_lt _ (by decide);unfold pl at h;rcases Nat.lt_trichotomy (lv n a) (lv n b) with hl|hl|hl
 ·have e:=zd5 (zdg n a) (show lv n a+1<=lv n b by omega)
  rcases zmN n b with h0|h0
  ·omega
  ·have:=Nat.div_le_div_right (c:=2 ^ (6*lv n b)) hb
   exact zd6 (k:=2 ^ (6*lv n b)) (by omega)
 ·have ea:=dig a (lv n a)
  have eb:=dig b (lv n b);have ha:=zdg n a;have hb':=zdg n b;rw[hl] at ea ha h;exact zd6 (k:=2 ^ (6*lv n b)) (by omega)
 ·omega
theorem zh1 {n a b:Nat} (ha:n<=a) (h:a<=b):pl n a<=pl n b:=by
 rcases Nat.lt_or_ge (pl n b) (pl n a) with h1|h1
 ·have:=zoW ha h1
  omega
 ·exact h1
theorem zmO {n t a:Nat} (h:pl n t < pl n a):pl t a=pl n a:=by
 have da:a / 2 ^ (6*lv n a) % 64 < 64:=Nat.mod_lt _ (by decide);have dt:t / 2 ^ (6*lv n t) % 64 < 64:=Nat.mod_lt _ (by decide);have key:lv t a=lv n a:=by
  have h':=h;unfold pl at h';rcases Nat.lt_trichotomy (lv n t) (lv n a) with hl|hl|hl
  ·have e:=zd5 (zdg n t) (show lv n t+1<=lv n a by omega)
   have e1:=zd5 (zdg n t) (show lv n t+1<=lv n a+1 by omega);refine zoV ((zdg n a).trans e1.symm) ?_;rcases zmN n a with h0|h0
   ·exact .inl h0
   ·exact .inr (by rw[e];exact h0)
  ·have e1:=zdg n t
   rw[hl] at e1 h';refine zoV ((zdg n a).trans e1.symm) (.inr ?_);intro e;rw[e] at h';omega
  ·omega
 unfold pl;rw[key]
theorem zdh {n a:Nat} (hn:n<=1099511627776) (ha:a<=1099511627776):lv n a<=6:=by
 unfold lv;have h:(n ^^^ a).log2 < 41:=by
  by_cases h0:n ^^^ a=0
  ·rw[h0]
   decide
  ·exact (Nat.log2_lt h0).2 (Nat.xor_lt_two_pow (by omega) (by omega))
 omega
theorem zbD {n a:Nat} (hn:n<=1099511627776) (ha:a<=1099511627776):pl n a < 448:=by
 have:=zdh hn ha;have:a / 2 ^ (6*lv n a) % 64 < 64:=Nat.mod_lt _ (by decide);unfold pl;omega
theorem zlT (n a:Nat):pl n a / 64=lv n a:=by
 have:a / 2 ^ (6*lv n a) % 64 < 64:=Nat.mod_lt _ (by decide);unfold pl;omega
theorem zoX (n a:Nat):pl n a % 64=a / 2 ^ (6*lv n a) % 64:=by
 have:a / 2 ^ (6*lv n a) % 64 < 64:=Nat.mod_lt _ (by decide);unfold pl;omega
structure Tm where
 a:Nat
 n:Nat
 i:Int
def lt (x y:Tm):Prop:=x.a < y.a\/x.a=y.a/\x.n < y.n
structure St where
 now:Nat
 many:Nat
 l:List Tm
def maxT:Nat:=1099511627776
def maxI:Nat:=4096
structure Ok (s:St):Prop where
 now:s.now<=maxT
 sorted:s.l.Pairwise lt
 above:∀t∈s.l,s.now < t.a/\t.a<=maxT
 num:∀t∈s.l,1<=t.n/\t.n<=s.many
 apart:s.l.Pairwise fun x y=>x.n≠y.n
 long:s.l.length<=maxI
 wf:∀t∈s.l,-9223372036854775808<=t.i/\t.i < 9223372036854775808
def ins (t:Tm):List Tm->List Tm
 | []=>[t]
 | x::l=>if t.a < x.a then t::x::l else x::ins t l
def St.init:St:=⟨0,0,[]⟩
def putE (s:St) (at_:Int):Int:=if at_<=s.now then 140 else if (maxT:Int) < at_ then 1 else if maxI<=s.l.length then 2 else 0
def zkp (s:St) (at_:Int):Int:=if putE s at_=0 then s.many+1 else 0
def putS (s:St) (at_ id:Int):St:=if putE s at_=0 then ⟨s.now,s.many+1,ins ⟨at_.toNat,s.many+1,id⟩ s.l⟩ else s
def has (s:St) (n:Int):Bool:=s.l.any fun t=>decide ((t.n:Int)=n)
def advE (s:St) (tq:Int):Int:=if tq < s.now then 140 else if (maxT:Int) < tq then 1 else 0
def due (tq:Int) (l:List Tm):List Tm:=l.filter fun t=>decide ((t.a:Int)<=tq)
def rest (tq:Int) (l:List Tm):List Tm:=l.filter fun t=>!decide ((t.a:Int)<=tq)
def advV (s:St) (tq:Int):List Int:=if advE s tq=0 then (due tq s.l).map Tm.i else []
def advS (s:St) (tq:Int):St:=if advE s tq=0 then ⟨tq.toNat,s.many,rest tq s.l⟩ else s
theorem lt_irrefl (x:Tm):¬lt x x:=by
 unfold lt;omega
theorem lt_trans {x y z:Tm} (h:lt x y) (k:lt y z):lt x z:=by
 unfold lt at *;omega
theorem ins_perm (t:Tm):∀l,(ins t l).Perm (t::l)
 | []=>List.Perm.refl _
 | x::l=>by
  unfold ins
  split
  ·exact List.Perm.refl _
  ·exact ((ins_perm t l).cons x).trans (List.Perm.swap t x l)
theorem ins_length (t:Tm) (l:List Tm):(ins t l).length=l.length+1:=(ins_perm t l).length_eq
theorem ins_mem {t x:Tm} {l:List Tm}:x∈ins t l↔x=t\/x∈l:=by
 rw[(ins_perm t l).mem_iff,List.mem_cons]
theorem zcN {t:Tm}:∀{l:List Tm},l.Pairwise lt->(∀x∈l,x.n < t.n)->(ins t l).Pairwise lt
 | [],_,_=>List.pairwise_singleton _ _
 | x::l,h,hn=>by
  rw[List.pairwise_cons] at h;unfold ins
  split
  ·rename_i hlt
   rw[List.pairwise_cons,List.pairwise_cons];refine⟨fun y hy => ?_,h.1,h.2⟩;rcases List.mem_cons.1 hy with rfl|hy
   ·exact .inl hlt
   ·have:=h.1 y hy
    unfold lt at this ⊢;omega
  ·rename_i hge
   rw[List.pairwise_cons];refine⟨fun y hy => ?_,zcN h.2 (fun z hz=>hn z (List.mem_cons_of_mem _ hz))⟩;rcases ins_mem.1 hy with rfl|hy
   ·have:=hn x (List.mem_cons_self ..)
    unfold lt;omega
   ·exact h.1 y hy
theorem Ok.init:Ok St.init:=⟨by decide,List.Pairwise.nil,nofun,nofun,List.Pairwise.nil,by decide,nofun⟩
theorem Ok.put {s:St} (h:Ok s) (at_ id:Int) (hw : -9223372036854775808<=id/\id < 9223372036854775808):Ok (putS s at_ id):=by
 unfold putS
 split
 ·rename_i h0
  have h1:¬at_<=s.now:=fun c=>by simp[putE,c] at h0
  have h2:¬(maxT:Int) < at_:=fun c=>by simp[putE,h1,c] at h0
  have h3:¬maxI<=s.l.length:=fun c=>by simp[putE,h1,h2,c] at h0
  have hn:∀x∈s.l,x.n < s.many+1:=fun x hx=>by have:=(h.num x hx).2;omega
  refine⟨h.now,zcN h.sorted hn,fun t ht => ?_,fun t ht => ?_,?_,?_,fun t ht => ?_⟩
  ·rcases ins_mem.1 ht with rfl|ht
   ·simp only
    omega
   ·exact h.above t ht
  ·rcases ins_mem.1 ht with rfl|ht
   ·simp only
    omega
   ·have:=h.num t ht
    simp only;omega
  ·refine (ins_perm _ _).symm.pairwise ?_ (fun hxy=>Ne.symm hxy)
   rw[List.pairwise_cons];exact⟨fun x hx=>by have:=hn x hx;simp only;omega,h.apart⟩
  ·show (ins _ _).length<=_
   rw[ins_length];omega
  ·rcases ins_mem.1 ht with rfl|ht
   ·exact hw
   ·exact h.wf t ht
 ·exact h
theorem Ok.sub {s:St} (h:Ok s) (p:Tm->Bool):Ok ⟨s.now,s.many,s.l.filter p⟩ :=
 ⟨h.now,h.sorted.filter _,fun t ht=>h.above t (List.mem_filter.1 ht).1,fun t ht=>h.num t (List.mem_filter.1 ht).1,h.apart.filter _,Nat.le_trans (List.length_filter_le ..) h.long,fun t ht=>h.wf t (List.mem_filter.1 ht).1⟩
theorem zh2 {s:St} {tq:Int} (h:advE s tq=0):(s.now:Int)<=tq/\tq<=maxT:=by
 unfold advE at h
 split at h
 ·omega
 ·split at h <;> omega
theorem Ok.adv {s:St} (h:Ok s) (tq:Int):Ok (advS s tq):=by
 unfold advS
 split
 ·rename_i h0
  obtain⟨h1,h2⟩:=zh2 h0;have k:=h.sub fun t=>!decide ((t.a:Int)<=tq)
  refine⟨by simp only;omega,k.sorted,fun t ht => ?_,k.num,k.apart,k.long,k.wf⟩;have:=(k.above t ht).2;have h3:=(List.mem_filter.1 ht).2;simp at h3;simp only;omega
 ·exact h
def Sl (s:St) (sl:Nat->List Tm):Prop:=∀k,k < 448->(sl k).Perm (s.l.filter fun t=>decide (pl s.now t.a=k))
def upd (sl:Nat->List Tm) (k:Nat) (v:List Tm):Nat->List Tm:=fun j=>if j=k then v else sl j
theorem upd_same (sl:Nat->List Tm) (k:Nat) (v:List Tm):upd sl k v k=v:=by simp[upd]
theorem upd_other (sl:Nat->List Tm) {k j:Nat} (v:List Tm) (h:j≠k):upd sl k v j=sl j:=by simp[upd,h]
theorem Sl.init:Sl St.init (fun _=>[]):=fun _ _=>List.Perm.refl _
theorem Sl.length {s:St} {sl:Nat->List Tm} (h:Sl s sl) {k:Nat} (hk:k < 448):(sl k).length<=s.l.length:=by
 rw[(h k hk).length_eq];exact List.length_filter_le ..
theorem zfV {l:List Tm} (h:l.Pairwise fun x y=>x.n≠y.n):∀{x y:Tm},x∈l->y∈l->x.n=y.n->x=y:=by
 induction l with
 | nil=>intro x y hx;cases hx
 | cons z l ih =>
  intro x y hx hy e;rw[List.pairwise_cons] at h;rcases List.mem_cons.1 hx with hx1|hx1 <;> rcases List.mem_cons.1 hy with hy1|hy1
  ·rw[hx1,hy1]
  ·subst hx1
   exact absurd e (h.1 y hy1)
  ·subst hy1
   exact absurd e.symm (h.1 x hx1)
  ·exact ih h.2 hx1 hy1 e
theorem Sl.put {s:St} {sl:Nat->List Tm} (h:Sl s sl) (t:Tm):Sl ⟨s.now,s.many+1,ins t s.l⟩ (upd sl (pl s.now t.a) (sl (pl s.now t.a)++[t])):=fun k hk=>by
 show List.Perm _ ((ins t s.l).filter _);refine List.Perm.trans ?_ ((ins_perm t s.l).filter _).symm;by_cases e:k=pl s.now t.a
 ·subst e
  rw[upd_same,List.filter_cons_of_pos (by simp)];exact (List.perm_append_singleton t _).trans ((h _ hk).cons t)
 ·rw[upd_other _ _ e,List.filter_cons_of_neg (by simpa using fun c=>e c.symm)]
  exact h k hk
theorem zch {α:Type} (p q r:α->Bool):∀l:List α,(∀x∈l,r x=(p x || q x)/\(p x && q x)=false)->(l.filter p++l.filter q).Perm (l.filter r)
 | [],_=>List.Perm.refl _
 | x::l,h=>by
  have ih:=zch p q r l fun y hy=>h y (List.mem_cons_of_mem _ hy)
  obtain⟨h1,h2⟩:=h x (List.mem_cons_self ..);cases hp:p x <;> cases hq:q x <;> simp only[hp,hq,Bool.or_true,Bool.or_false,Bool.and_true,Bool.and_false,Bool.or_self,Bool.and_self] at h1 h2
  ·simpa[hp,hq,h1] using ih
  ·simp only[hp,hq,h1,List.filter_cons,if_true,Bool.false_eq_true,if_false]
   exact List.perm_middle.trans (ih.cons x)
  ·simp only[hp,hq,h1,List.filter_cons,if_true,Bool.false_eq_true,if_false]
   exact ih.cons x
  ·cases h2
def zhe (sl:Nat->List Tm):Nat->List Tm
 | 0=>[]
 | m+1=>zhe sl m++sl m
theorem zci {s:St} {sl:Nat->List Tm} (h:Sl s sl):∀m,m<=448->(zhe sl m).Perm (s.l.filter fun t=>decide (pl s.now t.a < m))
 | 0,_=>by simp[zhe]
 | m+1,hm=>by
  refine (List.Perm.append (zci h m (by omega)) (h m (by omega))).trans (zch _ _ _ _ fun x _ => ?_);by_cases e:pl s.now x.a=m
  ·simp[e]
  ·by_cases e1:pl s.now x.a < m
   ·simp[e,e1]
    omega
   ·simp[e,e1]
    omega
def rch (s:St) (tq:Nat):List Tm:=s.l.filter fun t=>decide (pl s.now t.a < pl s.now tq+1)
theorem zoY {s:St} (ho:Ok s) {tq:Nat} {r:List Tm} (h1:r.Perm (rch s tq)) (h2:r.Pairwise fun x y=>¬lt y x):r=rch s tq:=by
 refine List.Perm.eq_of_pairwise (le:=fun x y=>¬lt y x) ?_ h2 ?_ h1
 ·intro a b ha hb k1 k2
  have ha':=(List.mem_filter.1 (h1.mem_iff.1 ha)).1;have hb':=(List.mem_filter.1 hb).1;refine zfV ho.apart ha' hb' ?_;unfold lt at k1 k2;omega
 ·refine (ho.sorted.filter _).imp ?_
  intro x y hxy;unfold lt at *;omega
def cut (sl:Nat->List Tm) (m:Nat):Nat->List Tm:=fun k=>if k < m then [] else sl k
def plc (tq:Nat) (sl:Nat->List Tm) (r:List Tm):Nat->List Tm:=fun k=>sl k++r.filter fun t=>!decide (t.a<=tq) && decide (pl tq t.a=k)
theorem zmP (tq:Nat) (sl:Nat->List Tm):plc tq sl []=sl:=by
 funext k;simp[plc]
theorem zmQ {tq:Nat} (sl:Nat->List Tm) (r:List Tm) {t:Tm} (h:t.a<=tq):plc tq sl (r++[t])=plc tq sl r:=by
 funext k;simp[plc,List.filter_append,h]
theorem zkq {tq:Nat} (sl:Nat->List Tm) (r:List Tm) {t:Tm} (h:¬t.a<=tq):plc tq sl (r++[t])=upd (plc tq sl r) (pl tq t.a) (plc tq sl r (pl tq t.a)++[t]):=by
 funext k;by_cases e:k=pl tq t.a
 ·subst e
  rw[upd_same];simp[plc,List.filter_append,h]
 ·rw[upd_other _ _ e]
  simp[plc,List.filter_append,h,Ne.symm e]
theorem Sl.adv {s:St} {sl:Nat->List Tm} (h:Sl s sl) (ho:Ok s) {tq:Nat}:Sl ⟨tq,s.many,rest tq s.l⟩ (plc tq (cut sl (pl s.now tq+1)) (rch s tq)):=fun k hk=>by
 show List.Perm (cut sl _ k++(rch s tq).filter _) ((rest tq s.l).filter _);unfold rch rest;rw[List.filter_filter,List.filter_filter];have hcut:(cut sl (pl s.now tq+1) k).Perm (s.l.filter fun t=>decide (pl s.now t.a=k) && !decide (pl s.now t.a < pl s.now tq+1)):=by
  unfold cut
  split
  ·rename_i hlt
   rw[List.filter_eq_nil_iff.2];intro x _;simp;omega
  ·rename_i hge
   refine (h k hk).trans (List.Perm.of_eq (List.filter_congr fun x _ => ?_));by_cases e:pl s.now x.a=k
   ·subst e
    simp;omega
   ·simp[e]
 refine (hcut.append_right _).trans (zch _ _ _ _ fun x hx => ?_);have hab:=(ho.above x hx).1;by_cases c:pl s.now x.a < pl s.now tq+1
 ·simp[c]
  rw[Bool.and_comm]
 ·have hlt:pl s.now tq < pl s.now x.a:=by omega
  have h2:=zmO hlt;have h3:=zoW (Nat.le_of_lt hab) hlt;have h4:¬((x.a:Int)<=tq):=by omega
  simp[c,h2,h4]
theorem zmR {s:St} (ho:Ok s) {tq:Nat}:due tq (rch s tq)=due tq s.l:=by
 unfold due rch;rw[List.filter_filter];refine List.filter_congr fun x hx => ?_
 by_cases c:(x.a:Int)<=tq
 ·have:=zh1 (Nat.le_of_lt (ho.above x hx).1) (show x.a<=tq by omega)
  simp[c];omega
 ·simp[c]
def dl (tq:Nat) (r l:List Tm):List Tm:=l.filter fun t=>!(r.any fun u=>decide (u.n=t.n) && decide (u.a<=tq))
theorem zoZ (tq:Nat) (l:List Tm):dl tq [] l=l:=by simp[dl]
theorem zo0 {tq:Nat} (r l:List Tm) {t:Tm} (h:t.a<=tq):dl tq (r++[t]) l=(dl tq r l).filter fun x=>!decide ((x.n:Int)=t.n):=by
 unfold dl;rw[List.filter_filter];refine List.filter_congr fun x _ => ?_
 rw[List.any_append];have:decide ((x.n:Int)=t.n)=decide (t.n=x.n):=decide_eq_decide.2 ⟨fun h=>by omega,fun h=>by omega⟩;simp[h,this,Bool.and_comm]
theorem zmS {tq:Nat} (r l:List Tm) {t:Tm} (h:¬t.a<=tq):dl tq (r++[t]) l=dl tq r l:=by
 unfold dl;refine List.filter_congr fun x _ => ?_
 rw[List.any_append];simp[h]
theorem zo1 {s:St} (ho:Ok s) {tq:Nat}:dl tq (rch s tq) s.l=rest tq s.l:=by
 unfold dl rest;refine List.filter_congr fun x hx => ?_
 congr 1;rw[Bool.eq_iff_iff];simp only[List.any_eq_true,Bool.and_eq_true,decide_eq_true_eq];constructor
 ·rintro ⟨u,hu,e,hle⟩
  have:=zfV ho.apart (List.mem_filter.1 hu).1 hx e;subst this;omega
 ·intro hle
  refine⟨x,List.mem_filter.2 ⟨hx,?_⟩,rfl,by omega⟩;have:=zh1 (Nat.le_of_lt (ho.above x hx).1) (show x.a<=tq by omega);simp;omega
theorem zcj {s:St} {sl:Nat->List Tm} (h:Sl s sl) {m:Nat} (hm:m<=448):(zhe sl m).length<=s.l.length:=by
 rw[(zci h m hm).length_eq];exact List.length_filter_le ..
theorem zgL {s:St} {sl:Nat->List Tm} (h:Sl s sl) (ho:Ok s) {tq:Nat} {j k:Nat} (hk:k < 448):(plc tq (cut sl (pl s.now tq+1)) ((rch s tq).take j) k).length<=s.l.length:=by
 have e:=(h.adv (tq:=tq) ho).length hk;refine Nat.le_trans ?_ (Nat.le_trans e (List.length_filter_le ..));unfold plc;rw[List.length_append,List.length_append];exact Nat.add_le_add_left (((List.take_sublist j _).filter _).length_le) _
end Go.Proofs.Wh
namespace Go.Proofs.YtjcppbhgjchjaaaGreatDoor.Whl
open Go.RowKit Go.Proofs.Fd Go.Proofs.Wh
def zqG:Go.Shelf.Ren:=⟨fun x=>if x=125 then 159 else if x=128 then 237 else if x=129 then 238 else 0,fun x=>if x=3 then 3 else if x=4 then 4 else if x=5 then 5 else if x=9 then 9 else if x=46 then 124 else if x=51 then 192 else if x=53 then 80 else 0,fun n=>n⟩
theorem zmT:Lays.n125 Tryz.prog zqG :=
 { mixed:=by kernel_rfl,f125:=by kernel_rfl,f128:=by kernel_rfl,f129:=by kernel_rfl,t3:=by kernel_rfl,a3:=fun _=>by kernel_rfl,z3:=fun _=>by kernel_rfl,v3:=fun _=>by kernel_rfl,t4:=by kernel_rfl,a4:=fun _=>by kernel_rfl,z4:=fun _=>by kernel_rfl,v4:=fun _=>by kernel_rfl,t5:=by kernel_rfl,a5:=fun _=>by kernel_rfl,z5:=fun _=>by kernel_rfl,v5:=fun _=>by kernel_rfl,t9:=by kernel_rfl,a9:=fun _=>by kernel_rfl,z9:=fun _=>by kernel_rfl,v9:=fun _=>by kernel_rfl,t46:=by kernel_rfl,a46:=fun _=>by kernel_rfl,z46:=fun _=>by kernel_rfl,v46:=fun _=>by kernel_rfl,t51:=by kernel_rfl,a51:=fun _=>by kernel_rfl,z51:=fun _=>by kernel_rfl,v51:=fun _=>by kernel_rfl,t53:=by kernel_rfl,a53:=fun _=>by kernel_rfl,z53:=fun _=>by kernel_rfl,v53:=fun _=>by kernel_rfl }
theorem zgM:∀(x:Nat),x≠0->x < 2 ^ 64->Lib.bitLen x=x.log2+1:=by
 intro x
 induction x using Nat.strongRecOn with
 | ind x ih =>
  intro h0 h;rw[Lib.bitLen_half x h0 h,Nat.log2_def];by_cases h2:2<=x
  ·rw[if_pos h2,ih (x / 2) (by omega) (by omega) (by omega)]
   omega
  ·have:x=1:=by omega
   subst this;rfl
theorem zd7 (a b:Nat) (ha:a < 9223372036854775808) (hb:b < 9223372036854775808):bits .xor .i64 (a:Int) (b:Int)=((a ^^^ b:Nat):Int):=by
 have hx:a ^^^ b < 2 ^ 63:=Nat.xor_lt_two_pow (by omega) (by omega);have h1:(BitVec.ofInt 64 (a:Int)).toNat=a:=by rw[BitVec.toNat_ofInt];omega
 have h2:(BitVec.ofInt 64 (b:Int)).toNat=b:=by rw[BitVec.toNat_ofInt];omega
 show IntKind.i64.wrap ((BitVec.ofInt 64 (a:Int) ^^^ BitVec.ofInt 64 (b:Int)).toNat:Int)=_;rw[BitVec.toNat_xor,h1,h2,IntKind.wrap_i64];omega
theorem zh3 (x:Nat) (hx:x < 1099511627776*2) (w:Wo):Cl 159 #[.int .u64 (x:Int)] w fun e w'=>e = .returned (.int .i64 (Lib.bitLen x))/\w'=w:=by
 have h:=Any.bits_Len zmT (x:Int) w (by omega) (by omega);rw[Int.toNat_natCast] at h;exact h
theorem zmU (x:Nat) (hx:x < 2 ^ 64):max (Lib.bitLen x) 1 - 1=x.log2:=by
 by_cases h:x=0
 ·subst h
  rfl
 ·rw[zgM x h hx]
  omega
theorem zck (p now at_:Nat) (h1:now<=1099511627776) (h2:at_<=1099511627776) (w:Wo) (c0:w.cell? ⟨p,0,none⟩=some (.int .i64 (now:Int))) :
  Cl 157 #[.pointer (some ⟨p,0,none⟩),.int .i64 (at_:Int)] w fun e w'=>e = .returned (.tuple #[.int .i64 (lv now at_:Nat),.int .i64 ((pl now at_ % 64:Nat):Int)])/\(∃q,w'=w.drewN q):=by
 have hx:=zd7 at_ now (by omega) (by omega);have hX:at_ ^^^ now < 1099511627776*2:=Nat.xor_lt_two_pow (n:=41) (by omega) (by omega);obtain⟨x,hxx⟩:∃x,at_ ^^^ now=x:=⟨_,rfl⟩;rw[hxx] at hx hX;have hw:IntKind.u64.wrap (x:Int)=x:=by rw[IntKind.wrap_u64];omega
 have hlen:=fun W=>zh3 x hX W
 have hm:=zmU x (by omega);have hx2:x.log2 < 64:=by
  by_cases h0:x=0
  ·rw[h0]
   decide
  ·exact (Nat.log2_lt h0).2 (by omega)
 have hl:lv now at_=x.log2 / 6:=by rw[<-hxx,Nat.xor_comm];rfl
 obtain⟨b,hb⟩:∃b,Lib.bitLen x=b:=⟨_,rfl⟩;rw[hb] at hlen hm;obtain⟨h,hh⟩:∃h,x.log2=h:=⟨_,rfl⟩;rw[hh] at hm hx2 hl;obtain⟨l,hll⟩:∃l,lv now at_=l:=⟨_,rfl⟩;have z1:IntKind.i64.wrap (max (b:Int) 1 - 1)=(h:Int):=by rw[IntKind.wrap_i64];omega
 have z2:IntKind.i64.wrap ((h:Int) / 6)=(l:Int):=by rw[IntKind.wrap_i64];omega
 have l6:l<=10:=by omega
 have z3:IntKind.i64.wrap ((l:Int)*6)=((6*l:Nat):Int):=by rw[IntKind.wrap_i64];omega
 have hp:pl now at_ % 64=at_ / 2 ^ (6*l) % 64:=by rw[<-hll];exact zoX now at_
 rw[hll,hp];clear hp hll hl hm hb hh hxx hx2;go_enter Tryz.func157, Tryz.ntmps157;go_wp2_with (go_at_call 159;refine (hlen _).mono ?_;rintro e w' ⟨rfl,rfl⟩);go_quiet (fail);go_wp2;go_ret2;refine⟨?_,nq,rfl⟩;have e:((at_:Int) / 2 ^ (6*l)).tmod 64=((at_ / 2 ^ (6*l) % 64:Nat):Int):=by
  rw[show (at_:Int) / 2 ^ (6*l)=((at_ / 2 ^ (6*l):Nat):Int) by simp];exact (Int.ofNat_tmod _ 64).symm
 rw[e];rfl
def tc (t:Tm):List Value:=[.int .i64 (t.a:Int),.int .i64 (t.n:Int),.int .i64 t.i]
def tcs:List Tm->List Value
 | []=>[]
 | t::l=>tc t++tcs l
theorem ze1:∀l m:List Tm,tcs (l++m)=tcs l++tcs m
 | [],_=>rfl
 | t::l,m=>by rw[List.cons_append,tcs,ze1 l m,tcs,List.append_assoc]
theorem zbQ:∀l:List Tm,(tcs l).length=l.length*3
 | []=>rfl
 | t::l=>by rw[tcs,List.length_append,zbQ l,List.length_cons,tc];simp;omega
theorem zdi:∀(l:List Tm),∀u∈tcs l,u.oneCell'=true
 | [],u,h=>by cases h
 | t::l,u,h=>by
  rw[tcs,List.mem_append] at h;rcases h with h|h
  ·simp only[tc,List.mem_cons,List.not_mem_nil,or_false] at h
   rcases h with rfl|rfl|rfl <;> rfl
  ·exact zdi l u h
theorem zh4:∀(l:List Tm) (i:Nat) (hi:i < l.length),(tcs l)[i*3]?=some (.int .i64 (l[i].a:Int))/\(tcs l)[i*3+1]?=some (.int .i64 (l[i].n:Int))/\(tcs l)[i*3+2]?=some (.int .i64 l[i].i)
 | [],i,hi=>absurd hi (Nat.not_lt_zero _)
 | t::l,0,_=>⟨rfl,rfl,rfl⟩
 | t::l,i+1,hi=>by
  have ih:=zh4 l i (by simpa using hi);rw[show (i+1)*3=i*3+3 by omega];exact ih
structure Bf (F:Nat->Prop) (w w':Wo):Prop where
 os:w'.os=w.os
 tape:w'.tape=w.tape
 output:w'.output=w.output
 size:w.heap.size<=w'.heap.size
 block:∀g,g < w.heap.size->¬F g->w'.heap[g]?=w.heap[g]?
theorem Bf.refl (F:Nat->Prop) (w:Wo):Bf F w w:=⟨rfl,rfl,rfl,nL _,fun _ _ _=>rfl⟩
theorem Bf.of {F:Nat->Prop} {w w':Wo} (h:Bw w w'):Bf F w w':=⟨h.os,h.tape,h.output,h.size,fun g hg _=>h.block g hg⟩
theorem Bf.below {F:Nat->Prop} {B:Nat} {w w':Wo} (h:Bf F w w') (hF:∀g,F g->B<=g) (hB:B<=w.heap.size):Below B w w' :=
 ⟨h.os,h.tape,h.output,h.size,fun g hg=>h.block g (Nat.lt_of_lt_of_le hg hB) (fun c=>absurd (hF g c) (Nat.not_le.2 hg))⟩
theorem Bf.grown {F:Nat->Prop} {row:Option Nat} {w w':Wo} (k:w.grownBy w' row) (hr:∀g,row=some g->F g\/w.heap.size<=g):Bf F w w' :=
 ⟨k.os,k.tape,k.output,k.size,fun g hg hF=>k.block g hg (fun e=>by rcases hr g e.symm with h|h;exact hF h;omega)⟩
def Nx (w:Wo) (F F':Nat->Prop):Prop:=∀g,F' g->F g\/w.heap.size<=g
theorem Nx.refl (w:Wo) (F:Nat->Prop):Nx w F F:=fun _ h => .inl h
theorem Nx.trans {w w':Wo} {F F' F'':Nat->Prop} (h:Nx w F F') (k:Nx w' F' F'') (hs:w.heap.size<=w'.heap.size):Nx w F F'':=fun g hg=>by
 rcases k g hg with h1|h1
 ·exact h g h1
 ·exact .inr (Nat.le_trans hs h1)
theorem Bf.trans {F F':Nat->Prop} {a b c:Wo} (h:Bf F a b) (n:Nx a F F') (k:Bf F' b c):Bf F a c :=
 ⟨k.os.trans h.os,k.tape.trans h.tape,k.output.trans h.output,Nat.le_trans h.size k.size,fun g hg hF=>(k.block g (Nat.lt_of_lt_of_le hg h.size) (fun c=>by rcases n g c with h1|h1;exact hF h1;omega)).trans (h.block g hg hF)⟩
theorem Bf.later {F:Nat->Prop} {a b c:Wo} (h:Bf F a b) (k:Bw b c):Bf F a c:=h.trans (Nx.refl _ _) (Bf.of k)
theorem Bf.cell {F:Nat->Prop} {w w':Wo} (h:Bf F w w') {a:Addr} {v:Value} (hc:w.cell? a=some v) (hF:¬F a.block):w'.cell? a=some v :=
 (World.cell?_of_block (h.block a.block (World.block_lt_of_cell? _ _ hc) hF)).trans hc
theorem ownsRow_same {w w':Wo} {e:TypeId} {size n:Nat} {v:Value} {xs:List Value} (h:w.ownsRow 0 e size v n xs) (hs:∀g,v.ownBlock=some g->w'.heap[g]?=w.heap[g]?):w'.ownsRow 0 e size v n xs:=by
 refine⟨h.1,?_⟩;rcases h.2 with h1|⟨g,cap,cur,rfl,h2,h3,h4⟩
 ·exact .inl h1
 ·exact .inr ⟨g,cap,cur,rfl,h2,(hs g rfl).trans h3,h4⟩
theorem ownsMap_same {H:Type} {P:Program} {k:TypeId} {R:Value->Option (DataW H×List MemPlace)} {w w':Wo} {b n:Nat} {D:DataW H} (h:w.ownsMap P k R b n D) (hs:w'.heap[b]?=w.heap[b]?):w'.ownsMap P k R b n D:=by
 obtain⟨es,clock,hb,h2⟩:=h;exact⟨es,clock,hs.trans hb,h2⟩
theorem ownsMap_size {H:Type} {P:Program} {k:TypeId} {R:Value->Option (DataW H×List MemPlace)} {w:Wo} {b n:Nat} {D:DataW H} (h:w.ownsMap P k R b n D):w.ownsMap P k R b (Maps.size D) D:=by
 obtain⟨es,clock,hb,h2,h3,rfl⟩:=h;exact⟨es,clock,hb,h2,by rw[Maps.size_eq,length_sorted];simp,rfl⟩
def zjv (sv:Nat->Value) (k:Nat) (v:Value):Nat->Value:=fun j=>if j=k then v else sv j
abbrev zh5 (w:Wo) (bm:Nat) (D:DataW Unit):Prop:=w.ownsMap Tryz.prog 3 (plainElem Tryz.prog 3) bm (Maps.size D) D
abbrev zaH (w:Wo) (v:Value) (l:List Tm):Prop:=w.ownsRow 0 179 3 v l.length (tcs l)
structure Raw (w:Wo) (p now put:Nat) (sv:Nat->Value) (sl:Nat->List Tm) (bm:Nat) (D:DataW Unit):Prop where
 c0:w.cell? ⟨p,0,none⟩=some (.int .i64 (now:Int))
 c1:w.cell? ⟨p,1,none⟩=some (.int .i64 (put:Int))
 cs:∀k,k < 448->w.cell? ⟨p,2+k,none⟩=some (sv k)
 c3:w.cell? ⟨p,450,none⟩=some (.map (some bm))
 fr:∀o,w.frozen? ⟨p,o,none⟩=false
 row:∀k,k < 448->zaH w (sv k) (sl k)
 apart:∀j k,j < 448->k < 448->j≠k->∀g,(sv j).ownBlock=some g->(sv k).ownBlock≠some g
 pr:∀k,k < 448->(sv k).ownBlock≠some p
 mr:∀k,k < 448->(sv k).ownBlock≠some bm
 pm:bm≠p
 map:zh5 w bm D
def Foot (p:Nat) (sv:Nat->Value) (bm:Nat) (g:Nat):Prop:=g=p\/g=bm\/∃k,k < 448/\(sv k).ownBlock=some g
section
variable {w:Wo} {p now put:Nat} {sv:Nat->Value} {sl:Nat->List Tm} {bm:Nat} {D:DataW Unit}
theorem Raw.lt (h:Raw w p now put sv sl bm D) {g:Nat} (hg:Foot p sv bm g):g < w.heap.size:=by
 rcases hg with rfl|rfl|⟨k,hk,e⟩
 ·exact World.block_lt_of_cell? _ _ h.c0
 ·exact h.map.lt
 ·exact ((h.row k hk).lt g e).2
theorem Raw.same (h:Raw w p now put sv sl bm D) {w':Wo} (hs:∀g,Foot p sv bm g->w'.heap[g]?=w.heap[g]?):Raw w' p now put sv sl bm D:=by
 have hp:w'.heap[p]?=w.heap[p]?:=hs p (.inl rfl);exact⟨(World.cell?_of_block (a:=⟨p,0,none⟩) hp).trans h.c0,(World.cell?_of_block (a:=⟨p,1,none⟩) hp).trans h.c1,fun k hk=>(World.cell?_of_block (a:=⟨p,2+k,none⟩) hp).trans (h.cs k hk),
  (World.cell?_of_block (a:=⟨p,450,none⟩) hp).trans h.c3,fun o=>(World.frozen?_of_block (a:=⟨p,o,none⟩) hp).trans (h.fr o),fun k hk=>ownsRow_same (h.row k hk) (fun g e=>hs g (.inr (.inr ⟨k,hk,e⟩))),
  h.apart,h.pr,h.mr,h.pm,ownsMap_same h.map (hs bm (.inr (.inl rfl)))⟩
theorem Raw.later (h:Raw w p now put sv sl bm D) {w':Wo} (hb:Bw w w'):Raw w' p now put sv sl bm D:=h.same fun g hg=>hb.block g (h.lt hg)
theorem Raw.other (h:Raw w p now put sv sl bm D) {F:Nat->Prop} {w':Wo} (hb:Bf F w w') (hF:∀g,Foot p sv bm g->¬F g):Raw w' p now put sv sl bm D:=h.same fun g hg=>hb.block g (h.lt hg) (hF g hg)
theorem Raw.grown (h:Raw w p now put sv sl bm D) {row:Option Nat} {w':Wo} (hb:w.grownBy w' row) (hF:∀g,row=some g->¬Foot p sv bm g):Raw w' p now put sv sl bm D:=h.same fun g hg=>hb.block g (h.lt hg) (fun e=>hF g e.symm hg)
theorem Raw.setRow (h:Raw w p now put sv sl bm D) {k:Nat} (hk:k < 448) {w1:Wo} (hg:w.grownBy w1 (sv k).ownBlock) {v:Value} {l:List Tm} (ho:zaH w1 v l) (hl:∀g,v.ownBlock=some g->(sv k).ownBlock=some g\/w.heap.size<=g) :
  Raw (w1.setCell ⟨p,2+k,none⟩ v) p now put (zjv sv k v) (upd sl k l) bm D/\Nx w (Foot p sv bm) (Foot p (zjv sv k v) bm)/\Bf (Foot p sv bm) w (w1.setCell ⟨p,2+k,none⟩ v):=by
 have hpl:p < w.heap.size:=h.lt (.inl rfl);have hp1:w1.heap[p]?=w.heap[p]?:=hg.block p hpl (fun e=>h.pr k hk e.symm);have cp:∀(o:Nat),w1.cell? ⟨p,o,none⟩=w.cell? ⟨p,o,none⟩:=fun o=>World.cell?_of_block (a:=⟨p,o,none⟩) hp1
 have fp:∀(o:Nat),w1.frozen? ⟨p,o,none⟩=w.frozen? ⟨p,o,none⟩:=fun o=>World.frozen?_of_block (a:=⟨p,o,none⟩) hp1
 have ck:w1.cell? ⟨p,2+k,none⟩=some (sv k):=(cp _).trans (h.cs k hk);have co:∀(o:Nat) (u:Value),o≠2+k->w.cell? ⟨p,o,none⟩=some u->(w1.setCell ⟨p,2+k,none⟩ v).cell? ⟨p,o,none⟩=some u:=fun o u ho hc=>by
  rw[World.cell?_setCell_other _ _ _ _ (fun q=>ho (by injection q with q1 q2 q3;exact q2.symm)),cp,hc]
 have bo:∀g,g≠p->(w1.setCell ⟨p,2+k,none⟩ v).heap[g]?=w1.heap[g]?:=fun g hg=>Below.heap_setCell w1 ⟨p,2+k,none⟩ v g hg
 have newp:∀g,v.ownBlock=some g->g≠p:=fun g e=>by
  rcases hl g e with h1|h1
  ·intro c
   subst c;exact h.pr k hk h1
  ·omega
 have ksame:∀j,j < 448->j≠k->∀g,(sv j).ownBlock=some g->w1.heap[g]?=w.heap[g]?:=fun j hj hne g e=>hg.block g (h.lt (.inr (.inr ⟨j,hj,e⟩))) (fun c=>h.apart j k hj hk hne g e c.symm)
 refine⟨⟨?_,?_,?_,?_,?_,?_,?_,?_,?_,h.pm,?_⟩,?_,?_⟩
 ·exact co 0 _ (by omega) h.c0
 ·exact co 1 _ (by omega) h.c1
 ·intro j hj
  unfold zjv
  split
  ·rename_i e
   subst e;rw[World.cell?_setCell_same _ _ _ (by rw[ck])]
  ·rename_i e
   exact co (2+j) _ (by omega) (h.cs j hj)
 ·exact co 450 _ (by omega) h.c3
 ·intro o
  rw[World.frozen?_setCell,fp];exact h.fr o
 ·intro j hj
  unfold zjv upd
  split
  ·exact ownsRow_same ho (fun g e=>bo g (newp g e))
  ·rename_i hne
   refine ownsRow_same (h.row j hj) (fun g e => ?_);rw[bo g (fun c=>h.pr j hj (by rw[e,c]))];exact ksame j hj hne g e
 ·intro i j hi hj hne g ei ej
  unfold zjv at ei ej
  split at ei <;> split at ej
  ·omega
  ·rename_i hik hjk
   rcases hl g ei with h1|h1
   ·exact h.apart k j hk hj (Ne.symm hjk) g h1 ej
   ·have:=h.lt (.inr (.inr ⟨j,hj,ej⟩))
    omega
  ·rename_i hik hjk
   rcases hl g ej with h1|h1
   ·exact h.apart i k hi hk hik g ei h1
   ·have:=h.lt (.inr (.inr ⟨i,hi,ei⟩))
    omega
  ·exact h.apart i j hi hj hne g ei ej
 ·intro j hj e
  unfold zjv at e
  split at e
  ·exact newp p e rfl
  ·exact h.pr j hj e
 ·intro j hj e
  unfold zjv at e
  split at e
  ·rcases hl bm e with h1|h1
   ·exact h.mr k hk h1
   ·have:=h.map.lt
    omega
  ·exact h.mr j hj e
 ·refine ownsMap_same h.map ?_
  rw[bo bm h.pm];exact hg.block bm h.map.lt (fun e=>h.mr k hk e.symm)
 ·intro g hg'
  rcases hg' with rfl|rfl|⟨j,hj,e⟩
  ·exact .inl (.inl rfl)
  ·exact .inl (.inr (.inl rfl))
  ·unfold zjv at e
   split at e
   ·rcases hl g e with h1|h1
    ·exact .inl (.inr (.inr ⟨k,hk,h1⟩))
    ·exact .inr h1
   ·exact .inl (.inr (.inr ⟨j,hj,e⟩))
 ·refine⟨hg.os,hg.tape,hg.output,by simpa using hg.size,fun g hgl hF => ?_⟩
  rw[bo g (fun c=>hF (.inl c))];exact hg.block g hgl (fun c=>hF (.inr (.inr ⟨k,hk,c.symm⟩)))
theorem Raw.setMap (h:Raw w p now put sv sl bm D) {w1:Wo} (hg:w.grownBy w1 (some bm)) {D':DataW Unit} {n:Nat} (hm:w1.ownsMap Tryz.prog 3 (plainElem Tryz.prog 3) bm n D') :
  Raw w1 p now put sv sl bm D'/\Bf (Foot p sv bm) w w1:=by
 have hb:∀g,Foot p sv bm g->g≠bm->w1.heap[g]?=w.heap[g]?:=fun g hF hne=>hg.block g (h.lt hF) (fun e=>hne (by injection e))
 have hp:w1.heap[p]?=w.heap[p]?:=hb p (.inl rfl) (Ne.symm h.pm);refine⟨⟨(World.cell?_of_block (a:=⟨p,0,none⟩) hp).trans h.c0,(World.cell?_of_block (a:=⟨p,1,none⟩) hp).trans h.c1,fun k hk=>(World.cell?_of_block (a:=⟨p,2+k,none⟩) hp).trans (h.cs k hk),
  (World.cell?_of_block (a:=⟨p,450,none⟩) hp).trans h.c3,fun o=>(World.frozen?_of_block (a:=⟨p,o,none⟩) hp).trans (h.fr o),fun k hk=>ownsRow_same (h.row k hk) (fun g e=>hb g (.inr (.inr ⟨k,hk,e⟩)) (fun c=>h.mr k hk (by rw[e,c]))),
  h.apart,h.pr,h.mr,h.pm,ownsMap_size hm⟩,?_⟩
 exact⟨hg.os,hg.tape,hg.output,hg.size,fun g hgl hF=>hg.block g hgl (fun e=>hF (.inr (.inl (by injection e))))⟩
theorem Raw.setNow (h:Raw w p now put sv sl bm D) (n:Nat):Raw (w.setCell ⟨p,0,none⟩ (.int .i64 (n:Int))) p n put sv sl bm D/\Bf (Foot p sv bm) w (w.setCell ⟨p,0,none⟩ (.int .i64 (n:Int))):=by
 have co:∀(o:Nat) (u:Value),o≠0->w.cell? ⟨p,o,none⟩=some u->(w.setCell ⟨p,0,none⟩ (.int .i64 (n:Int))).cell? ⟨p,o,none⟩=some u:=fun o u ho hc=>by
  rw[World.cell?_setCell_other _ _ _ _ (fun q=>ho (by injection q with q1 q2 q3;exact q2.symm)),hc]
 have bo:∀g,g≠p->(w.setCell ⟨p,0,none⟩ (.int .i64 (n:Int))).heap[g]?=w.heap[g]?:=fun g hg=>Below.heap_setCell w ⟨p,0,none⟩ _ g hg
 refine⟨⟨by rw[World.cell?_setCell_same _ _ _ (by rw[h.c0])],co 1 _ (by omega) h.c1,fun k hk=>co (2+k) _ (by omega) (h.cs k hk),co 450 _ (by omega) h.c3,fun o=>by rw[World.frozen?_setCell];exact h.fr o,
  fun k hk=>ownsRow_same (h.row k hk) (fun g e=>bo g (fun c=>h.pr k hk (by rw[e,c]))),h.apart,h.pr,h.mr,h.pm,ownsMap_same h.map (bo bm h.pm)⟩,?_⟩
 exact⟨rfl,rfl,rfl,by simp,fun g hgl hF=>bo g (fun c=>hF (.inl c))⟩
theorem Raw.setPut (h:Raw w p now put sv sl bm D) (n:Nat):Raw (w.setCell ⟨p,1,none⟩ (.int .i64 (n:Int))) p now n sv sl bm D/\Bf (Foot p sv bm) w (w.setCell ⟨p,1,none⟩ (.int .i64 (n:Int))):=by
 have co:∀(o:Nat) (u:Value),o≠1->w.cell? ⟨p,o,none⟩=some u->(w.setCell ⟨p,1,none⟩ (.int .i64 (n:Int))).cell? ⟨p,o,none⟩=some u:=fun o u ho hc=>by
  rw[World.cell?_setCell_other _ _ _ _ (fun q=>ho (by injection q with q1 q2 q3;exact q2.symm)),hc]
 have bo:∀g,g≠p->(w.setCell ⟨p,1,none⟩ (.int .i64 (n:Int))).heap[g]?=w.heap[g]?:=fun g hg=>Below.heap_setCell w ⟨p,1,none⟩ _ g hg
 refine⟨⟨co 0 _ (by omega) h.c0,by rw[World.cell?_setCell_same _ _ _ (by rw[h.c1])],fun k hk=>co (2+k) _ (by omega) (h.cs k hk),co 450 _ (by omega) h.c3,fun o=>by rw[World.frozen?_setCell];exact h.fr o,
  fun k hk=>ownsRow_same (h.row k hk) (fun g e=>bo g (fun c=>h.pr k hk (by rw[e,c]))),h.apart,h.pr,h.mr,h.pm,ownsMap_same h.map (bo bm h.pm)⟩,?_⟩
 exact⟨rfl,rfl,rfl,by simp,fun g hgl hF=>bo g (fun c=>hF (.inl c))⟩
end
structure Mp (D:DataW Unit) (l:List Tm):Prop where
 has:∀n:Int,Maps.has D (.int .i64 n)=l.any fun t=>decide ((t.n:Int)=n)
 at_:∀t∈l,D.atKey (.int .i64 (t.n:Int)) (.lit (.int .i64 0)) = .lit (.int .i64 (t.a:Int))
 size:Maps.size D=l.length
theorem Mp.init:Mp (.map []) []:=⟨fun _=>rfl,nofun,rfl⟩
theorem Mp.perm {D:DataW Unit} {l m:List Tm} (h:Mp D l) (k:l.Perm m):Mp D m :=
 ⟨fun n=>(h.has n).trans (by rw[Bool.eq_iff_iff,List.any_eq_true,List.any_eq_true];exact⟨fun ⟨x,hx,e⟩=>⟨x,k.mem_iff.1 hx,e⟩,fun ⟨x,hx,e⟩=>⟨x,k.mem_iff.2 hx,e⟩⟩),fun t ht=>h.at_ t (k.mem_iff.2 ht),h.size.trans k.length_eq⟩
theorem key_ne {a b:Int} (h:a≠b):(Lit.int .i64 a)≠(Lit.int .i64 b):=fun c=>h (by injection c)
theorem Mp.put {D:DataW Unit} {l:List Tm} (h:Mp D l) (hD:Maps.Tidy D) {t:Tm} (ht:∀x∈l,x.n≠t.n):Mp (D.put (.int .i64 (t.n:Int)) (.lit (.int .i64 (t.a:Int)))) (t::l):=by
 have h0:Maps.has D (.int .i64 (t.n:Int))=false:=by
  rw[h.has,List.any_eq_false];intro x hx;have:=ht x hx;simp;omega
 refine⟨fun n => ?_,fun x hx => ?_,?_⟩
 ·rw[List.any_cons]
  by_cases e:(t.n:Int)=n
  ·subst e
   rw[Maps.has_put_same hD.isMap (by trivial)];simp
  ·rw[Maps.has_put_other (key_ne (Ne.symm e)),h.has]
   simp[e]
 ·rcases List.mem_cons.1 hx with rfl|hx
  ·exact Maps.atKey_put_same hD.isMap (by trivial) _ _
  ·have:=ht x hx
   rw[Maps.atKey_put_other (key_ne (by omega))];exact h.at_ x hx
 ·rw[Maps.size_put hD,h0,h.size]
  simp
theorem zbE:∀{l:List Tm},(l.Pairwise fun x y=>x.n≠y.n)->∀{t:Tm},t∈l->(l.filter fun x=>!decide ((x.n:Int)=t.n)).length+1=l.length
 | [],_,_,ht=>by cases ht
 | y::l,h,t,ht=>by
  rw[List.pairwise_cons] at h;by_cases e:y.n=t.n
  ·have:(l.filter fun x=>!decide ((x.n:Int)=t.n))=l:=by
    rw[List.filter_eq_self];intro x hx;have:=h.1 x hx;simp;omega
   simp[e,this]
  ·rcases List.mem_cons.1 ht with rfl|ht
   ·exact absurd rfl e
   ·have ih:=zbE h.2 ht
    have e':¬((y.n:Int)=t.n):=by omega
    simp only[List.filter_cons,e',decide_false,Bool.not_false,if_true,List.length_cons];omega
theorem Mp.del {D:DataW Unit} {l:List Tm} (h:Mp D l) (hD:Maps.Tidy D) (hl:l.Pairwise fun x y=>x.n≠y.n) {t:Tm} (ht:t∈l):Mp (D.del (.int .i64 (t.n:Int))) (l.filter fun x=>!decide ((x.n:Int)=t.n)):=by
 have h0:Maps.has D (.int .i64 (t.n:Int))=true:=by
  rw[h.has,List.any_eq_true];exact⟨t,ht,by simp⟩
 refine⟨fun n => ?_,fun x hx => ?_,?_⟩
 ·by_cases e:(t.n:Int)=n
  ·subst e
   rw[Maps.has_del_same]
   symm
   rw[List.any_eq_false];intro x hx
   simpa using (List.mem_filter.1 hx).2
  ·rw[Maps.has_del_other (key_ne (Ne.symm e)),h.has,List.any_filter]
   refine congrArg l.any (funext fun x => ?_);by_cases q:(x.n:Int)=n
   ·have:¬(x.n:Int)=t.n:=by omega
    simp[q];omega
   ·simp[q]
 ·have:=(List.mem_filter.1 hx).2
  simp at this;rw[Maps.atKey_del_other (key_ne (by omega))];exact h.at_ x (List.mem_filter.1 hx).1
 ·have h1:=Maps.size_del (k := .int .i64 (t.n:Int)) hD
  have h2:=zbE hl ht;rw[h0,h.size] at h1;simp at h1;omega
def WAt (w:Wo) (p:Nat) (F:Nat->Prop) (s:St):Prop:=Ok s/\∃sv sl bm D,F=Foot p sv bm/\Sl s sl/\Mp D s.l/\Raw w p s.now s.many sv sl bm D
def Stp (w:Wo) (p:Nat) (F:Nat->Prop) (s:St) (w':Wo):Prop:=∃F',WAt w' p F' s/\Nx w F F'/\Bf F w w'
theorem WAt.lt {w:Wo} {p:Nat} {F:Nat->Prop} {s:St} (h:WAt w p F s) {g:Nat} (hg:F g):g < w.heap.size:=by
 obtain⟨-,sv,sl,bm,D,rfl,-,-,hr⟩:=h;exact hr.lt hg
theorem WAt.ok {w:Wo} {p:Nat} {F:Nat->Prop} {s:St} (h:WAt w p F s):Ok s:=h.1
theorem WAt.other {w w':Wo} {p:Nat} {F G:Nat->Prop} {s:St} (h:WAt w p F s) (hb:Bf G w w') (hF:∀g,F g->¬G g):WAt w' p F s:=by
 obtain⟨ho,sv,sl,bm,D,rfl,h1,h2,hr⟩:=h;exact⟨ho,sv,sl,bm,D,rfl,h1,h2,hr.other hb hF⟩
theorem WAt.later {w w':Wo} {p:Nat} {F:Nat->Prop} {s:St} (h:WAt w p F s) (hb:Bw w w'):WAt w' p F s:=by
 obtain⟨ho,sv,sl,bm,D,rfl,h1,h2,hr⟩:=h;exact⟨ho,sv,sl,bm,D,rfl,h1,h2,hr.later hb⟩
theorem WAt.stays {w w':Wo} {p:Nat} {F:Nat->Prop} {s:St} (h:WAt w p F s) (hb:Bw w w'):Stp w p F s w':=⟨F,h.later hb,Nx.refl _ _,Bf.of hb⟩
def zjw (x y:Int):Int:=if x < y then -1 else if y < x then 1 else 0
def zkr (x y:Tm):Int:=if zjw x.a y.a=0 then zjw x.n y.n else zjw x.a y.a
theorem zh6 (x:Int) (w:Wo):Cl 239 #[.int .i64 x] w fun e w'=>e = .returned (.bool false)/\w'=w:=by
 go_enter Tryz.func239, Tryz.ntmps239;go_wp2;go_ret;exact⟨rfl,rfl⟩
theorem zcl (x y:Int) (w:Wo):Cl 161 #[.int .i64 x,.int .i64 y] w fun e w'=>e = .returned (.int .i64 (zjw x y))/\w'=w:=by
 have n1:=fun W=>zh6 x W
 have n2:=fun W=>zh6 y W
 unfold zjw;by_cases h1:x < y
 ·rw[if_pos h1]
  go_enter Tryz.func161, Tryz.ntmps161;go_wp2_with (first|(go_at_call 239;refine (n1 _).mono ?_;rintro e w' ⟨rfl,rfl⟩)|(go_at_call 239;refine (n2 _).mono ?_;rintro e w' ⟨rfl,rfl⟩));go_ret;exact⟨rfl,rfl⟩
 ·rw[if_neg h1]
  by_cases h2:y < x
  ·rw[if_pos h2]
   go_enter Tryz.func161, Tryz.ntmps161;go_wp2_with (first|(go_at_call 239;refine (n1 _).mono ?_;rintro e w' ⟨rfl,rfl⟩)|(go_at_call 239;refine (n2 _).mono ?_;rintro e w' ⟨rfl,rfl⟩));go_ret;exact⟨rfl,rfl⟩
  ·rw[if_neg h2]
   go_enter Tryz.func161, Tryz.ntmps161;go_wp2_with (first|(go_at_call 239;refine (n1 _).mono ?_;rintro e w' ⟨rfl,rfl⟩)|(go_at_call 239;refine (n2 _).mono ?_;rintro e w' ⟨rfl,rfl⟩));go_ret;exact⟨rfl,rfl⟩
theorem zo2 (g:Nat) (x y:Int) (w:Wo) (h1:w.cell? ⟨g,0,none⟩=some (.int .i64 x)) (h2:w.cell? ⟨g,1,none⟩=some (.int .i64 y)) :
  Cl 160 #[.slice (some ⟨g,0,none⟩) 2 2] w fun e w'=>e = .returned (.int .i64 (if x=0 then y else x))/\w'=w:=by
 by_cases hx:x=0
 ·rw[if_pos hx]
  subst hx;by_cases hy:y=0
  ·subst hy
   go_enter Tryz.func160, Tryz.ntmps160;go_wp2;refine wp_loop_rounds 4 ?_;rw[rounds_succ];go_wp2;rw[rounds_succ];go_wp2;rw[rounds_succ];go_wp2;go_ret;exact⟨rfl,rfl⟩
  ·go_enter Tryz.func160, Tryz.ntmps160
   go_wp2;refine wp_loop_rounds 4 ?_;rw[rounds_succ];go_wp2;rw[rounds_succ];go_wp2;go_ret;exact⟨rfl,rfl⟩
 ·rw[if_neg hx]
  go_enter Tryz.func160, Tryz.ntmps160;go_wp2;refine wp_loop_rounds 4 ?_;rw[rounds_succ];go_wp2;go_ret;exact⟨rfl,rfl⟩
def Gr (w w':Wo):Prop:=∃q os,w'=Go.Sort.grow (w.drewN q) os
theorem Gr.refl (w:Wo):Gr w w:=⟨0,#[],by simp;rfl⟩
theorem Gr.alloc {w w':Wo} (h:Gr w w') (o:Obj):Gr w (w'.alloc o):=by
 obtain⟨q,os,rfl⟩:=h;exact⟨q,os++#[o],by rw[Go.Sort.alloc_eq_grow,Go.Sort.grow_grow]⟩
theorem Gr.drew {w w':Wo} (h:Gr w w'):Gr w w'.drew:=by
 obtain⟨q,os,rfl⟩:=h;exact⟨q+1,os,rfl⟩
def C4 (w:Wo) (g h:Nat) (xa xn ya yn:Int) (w':Wo):Prop:=w'.cell? ⟨g,0,none⟩=some (.int .i64 xa)/\w'.cell? ⟨g,1,none⟩=some (.int .i64 xn)/\w'.cell? ⟨h,0,none⟩=some (.int .i64 ya)/\w'.cell? ⟨h,1,none⟩=some (.int .i64 yn)/\Gr w w'
theorem zqH {w w':Wo} {g h:Nat} {xa xn ya yn:Int} (o:Obj) (k:w'.cell? ⟨g,0,none⟩=some (.int .i64 xa)/\w'.cell? ⟨g,1,none⟩=some (.int .i64 xn)/\w'.cell? ⟨h,0,none⟩=some (.int .i64 ya)/\w'.cell? ⟨h,1,none⟩=some (.int .i64 yn)/\Gr w w') :
  (w'.alloc o).cell? ⟨g,0,none⟩=some (.int .i64 xa)/\(w'.alloc o).cell? ⟨g,1,none⟩=some (.int .i64 xn)/\(w'.alloc o).cell? ⟨h,0,none⟩=some (.int .i64 ya)/\(w'.alloc o).cell? ⟨h,1,none⟩=some (.int .i64 yn)/\Gr w (w'.alloc o) :=
 ⟨zab k.1,zab k.2.1,zab k.2.2.1,zab k.2.2.2.1,k.2.2.2.2.alloc o⟩
theorem zh7 (x y:Tm) (w:Wo) :
  Cl 84 #[.agg #[.int .i64 (x.a:Int),.int .i64 (x.n:Int),.int .i64 x.i],.agg #[.int .i64 (y.a:Int),.int .i64 (y.n:Int),.int .i64 y.i]] w fun e w'=>e = .returned (.int .i64 (zkr x y))/\Gr w w':=by
 have C1:Hid (∀W,Cl 161 #[.int .i64 (x.a:Int),.int .i64 (y.a:Int)] W fun e w'=>e = .returned (.int .i64 (zjw x.a y.a))/\w'=W):=fun W=>zcl x.a y.a W
 have C2:Hid (∀W,Cl 161 #[.int .i64 (x.n:Int),.int .i64 (y.n:Int)] W fun e w'=>e = .returned (.int .i64 (zjw x.n y.n))/\w'=W):=fun W=>zcl x.n y.n W
 unfold zkr;obtain⟨u,hu⟩:∃u,zjw x.a y.a=u:=⟨_,rfl⟩;obtain⟨v,hv⟩:∃v,zjw x.n y.n=v:=⟨_,rfl⟩;rw[hu] at C1;rw[hv] at C2;rw[hu,hv];clear hu hv;have C3':=fun g W h1 h2=>zo2 g u v W h1 h2
 obtain⟨r,hr⟩:∃r,(if u=0 then v else u)=r:=⟨_,rfl⟩;rw[hr] at C3' ⊢;have C3:Hid _:=C3';clear hr C3';have c0:((w.alloc (.cells #[.int .i64 (x.a:Int),.int .i64 (x.n:Int),.int .i64 x.i] 179)).alloc (.cells #[.int .i64 (y.a:Int),.int .i64 (y.n:Int),.int .i64 y.i] 179)).cell? ⟨w.heap.size,0,none⟩=some (.int .i64 (x.a:Int)):=by simp[go_sem]
 have c1:((w.alloc (.cells #[.int .i64 (x.a:Int),.int .i64 (x.n:Int),.int .i64 x.i] 179)).alloc (.cells #[.int .i64 (y.a:Int),.int .i64 (y.n:Int),.int .i64 y.i] 179)).cell? ⟨w.heap.size,1,none⟩=some (.int .i64 (x.n:Int)):=by simp[go_sem]
 have c2:((w.alloc (.cells #[.int .i64 (x.a:Int),.int .i64 (x.n:Int),.int .i64 x.i] 179)).alloc (.cells #[.int .i64 (y.a:Int),.int .i64 (y.n:Int),.int .i64 y.i] 179)).cell? ⟨w.heap.size+1,0,none⟩=some (.int .i64 (y.a:Int)):=by simp[go_sem]
 have c3:((w.alloc (.cells #[.int .i64 (x.a:Int),.int .i64 (x.n:Int),.int .i64 x.i] 179)).alloc (.cells #[.int .i64 (y.a:Int),.int .i64 (y.n:Int),.int .i64 y.i] 179)).cell? ⟨w.heap.size+1,1,none⟩=some (.int .i64 (y.n:Int)):=by simp[go_sem]
 have hgr:Hid (Gr w ((w.alloc (.cells #[.int .i64 (x.a:Int),.int .i64 (x.n:Int),.int .i64 x.i] 179)).alloc (.cells #[.int .i64 (y.a:Int),.int .i64 (y.n:Int),.int .i64 y.i] 179))):=((Gr.refl w).alloc _).alloc _;go_enter Tryz.func84, Tryz.ntmps84;go_wp2;obtain⟨W,hW⟩:∃W,((w.alloc (.cells #[.int .i64 (x.a:Int),.int .i64 (x.n:Int),.int .i64 x.i] 179)).alloc (.cells #[.int .i64 (y.a:Int),.int .i64 (y.n:Int),.int .i64 y.i] 179))=W:=⟨_,rfl⟩;rw[hW] at c0 c1 c2 c3 hgr ⊢;clear hW;obtain⟨g,hg⟩:∃g,w.heap.size=g:=⟨_,rfl⟩;rw[hg] at c0 c1 c2 c3 ⊢;clear hg;go_region_held3 (fun w'=>w'.cell? ⟨g,0,none⟩=some (.int .i64 (x.a:Int))/\w'.cell? ⟨g,1,none⟩=some (.int .i64 (x.n:Int))/\w'.cell? ⟨g+1,0,none⟩=some (.int .i64 (y.a:Int))/\w'.cell? ⟨g+1,1,none⟩=some (.int .i64 (y.n:Int))/\Gr w w') (first|exact⟨c0,c1,c2,c3,hgr.out.drew⟩|assumption|exact zqH _ (by assumption)) (first|(go_at_call 161;revert C1;intro C1;refine cM (C1.out _) ?_;rintro e w' ⟨rfl,rfl⟩;clear C1)|(go_at_call 161;refine cM (C2.out _) ?_;rintro e w' ⟨rfl,rfl⟩;clear C2)|(go_at_call 160;refine cM (C3.out _ _ (by simp[go_sem]) (by simp[go_sem])) ?_;rintro e w' ⟨rfl,rfl⟩));rename_i hH;have hX:Hid (Gr w (W.alloc (.cells #[.int .i64 u,.int .i64 v] 3)).drew):=hH.2.2.2.2;clear hH c0 c1 c2 c3 hgr;go_wp2;go_ret;exact⟨rfl,hX.out⟩
theorem zh8 (x y:Tm):zkr x y < 0↔lt x y:=by
 unfold zkr zjw lt
 split <;> split <;> omega
def zqI (w:Wo) (g:Nat) (l:List Tm):Prop:=∀i (hi:i < l.length),w.cell? ⟨g,i*3,none⟩=some (.int .i64 (l[i].a:Int))/\w.cell? ⟨g,i*3+1,none⟩=some (.int .i64 (l[i].n:Int))/\w.cell? ⟨g,i*3+2,none⟩=some (.int .i64 l[i].i)
theorem zdj {w:Wo} {v:Value} {l:List Tm} (h:zaH w v l):(v = .slice none 0 0/\l=[])\/∃g cap,v = .slice (some ⟨g,0,none⟩) l.length cap/\zqI w g l/\l.length<=cap:=by
 rcases h.2 with ⟨h1,h2⟩|⟨g,cap,cur,h1,h2,h3,h4,-⟩
 ·exact .inl ⟨h1,List.length_eq_zero_iff.1 h2⟩
 ·refine .inr ⟨g,cap,h1,fun i hi => ?_,h4⟩
  rw[h1] at h;obtain⟨a1,a2,a3⟩:=zh4 l i hi;exact⟨(h.cellAt (i*3) (by omega)).trans a1,(h.cellAt (i*3+1) (by omega)).trans a2,(h.cellAt (i*3+2) (by omega)).trans a3⟩
def T1 (w:Wo) (b:Nat) (t:Tm):Prop:=w.cell? ⟨b,0,none⟩=some (.int .i64 (t.a:Int))/\w.cell? ⟨b,1,none⟩=some (.int .i64 (t.n:Int))/\w.cell? ⟨b,2,none⟩=some (.int .i64 t.i)/\(∀o,w.frozen? ⟨b,o,none⟩=false)
end Go.Proofs.YtjcppbhgjchjaaaGreatDoor.Whl
