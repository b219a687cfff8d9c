/- Parts: LhA,LrK,LhB,LhC. -/
import Derived.Test.YtjpaodepnacimaaGreatDoorZdG18
import Derived.Test.YtjpaodepnacimaaGreatDoorZdG17
namespace Go.Proofs.YtjpaodepnacimaaGreatDoor
open Go.RowKit Go.Proofs.Fd Go.Proofs.Dk Go.Proofs.Lg
set_option maxRecDepth 20000
theorem lroom_any (q p fr mn g:Nat) (v:Value) (ts:List Bs) (tk:Nat) (m:Bs) (more:List Value) (w:World) (h1:tk≤mn) (h2:mn≤1024) (h:Hid (Hf w q p fr mn g v ts tk m more)) :
  Calls Tryz.prog 78 #[.pointer (some ⟨q,0,none⟩)] w fun e w'=>e = .returned (.int .i64 ((mn - tk:Nat):Int))∧Below w.heap.size w w':=by
 have k2:=h.out.bk.c 2 _ rfl
 have k5:=h.out.bk.c 5 _ rfl
 have y1:IntKind.i64.wrap ((mn - tk:Nat):Int)=((mn - tk:Nat):Int):=by rw[IntKind.wrap_i64];omega
 have y2:(mn:Int) - (tk:Int)=((mn - tk:Nat):Int):=by omega
 obtain⟨d,hd⟩:∃d,mn - tk=d:=⟨_,rfl⟩
 rw[hd] at y1 y2 ⊢
 clear hd h
 go_enter Tryz.func78, Tryz.ntmps78
 go_wp2_with fail
 go_region_with fail
 all_goals
  go_wp2
  go_ret
  exact⟨rfl,(Below.refl _ _).drew⟩
theorem lgeneration_any (q p fr mn g:Nat) (v:Value) (ts:List Bs) (tk:Nat) (m:Bs) (more:List Value) (w:World) (h:Hid (Hf w q p fr mn g v ts tk m more)) :
  Calls Tryz.prog 77 #[.pointer (some ⟨q,0,none⟩)] w fun e w'=>e = .returned (.int .i64 (g:Int))∧w'=w:=by
 have k3:=h.out.bk.c 3 _ rfl
 clear h
 go_enter Tryz.func77, Tryz.ntmps77
 go_wp2
 go_ret
 exact⟨rfl,rfl⟩
theorem lsyncl_any (w va:World) (p:Nat) (F:Nat→Prop) (s:St) (q fr mn g:Nat) (v:Value) (ts:List Bs) (tk:Nat) (m:Bs) (more:List Value) (hl:s.l.length≤1000000) (h:Hid (HD w va p F s q fr mn g v ts tk m more)) :
  Calls Tryz.prog 54 #[.pointer (some ⟨q,0,none⟩)] va fun e w'=>e = .returned (.int .i64 (syE s))∧Ds w va p F (syS s) w':=by
 have k0:=h.out.hf.bk.c 0 _ rfl
 have k1:=h.out.hf.bk.c 1 _ rfl
 have k2:=h.out.hf.bk.c 2 _ rfl
 have SY:Hid _:=lsync_any w va p F s fr mn hl h.out.dl
 unfold plc at SY
 obtain⟨x,hx⟩:∃x,syE s=x:=⟨_,rfl⟩
 obtain⟨t,ht⟩:∃t,syS s=t:=⟨_,rfl⟩
 rw[hx,ht] at SY ⊢
 clear hx ht h
 go_enter Tryz.func54, Tryz.ntmps54
 go_wp2_with fail
 refine Calls.mono SY.out ?_
 rintro e w1 ⟨rfl,hd⟩
 have FF:Hid _:=hd
 clear hd
 go_wp2
 go_ret
 exact⟨rfl,FF.out⟩
def apR (s:St) (fr mn tk:Nat) (m t:Bs):Int×St:=if may t≠0 then (may t,s) else if mn < tk+sn t then (151,s) else wrb s (fr+tk) (rcd m t)
theorem may_ok {t:Bs} (h:may t=0):1≤t.length∧t.length≤2000:=by
 unfold may at h
 split at h
 ·simp at h
 ·split at h
  ·simp at h
  ·omega
set_option maxHeartbeats 2000000 in
theorem lappend_any (w va:World) (p:Nat) (F:Nat→Prop) (s:St) (q fr mn g:Nat) (v:Value) (ts:List Bs) (tk:Nat) (m:Bs) (X:ByteArray) (hm:m.length=16) (hts:ts.length≤100000) (htk:tk≤mn) (hmn:mn≤1024) (hz:fr≤1024) (hl:s.l.length+100≤1000000) (hk:Hid (Kh w)) (h:Hid (HD w va p F s q fr mn g v ts tk m [])) :
  Calls Tryz.prog 52 #[.pointer (some ⟨q,0,none⟩),.string X] va fun e w'=>e = .returned (.int .i64 (apR s fr mn tk m X.data.toList).1)∧AdP w va p F q fr mn g v ts tk m [] X.data.toList (apR s fr mn tk m X.data.toList) w':=by
 have CH:Hid _:=lcheck_any X va
 have STAY:∀x:Int,x≠0→∀W,Below va.heap.size va W→AdP w va p F q fr mn g v ts tk m [] X.data.toList (x,s) W:=fun x hx W hb=>⟨F,v,Nx2.refl _ _ _ _,Bf.of hb,.inr ⟨hx,h.out.later hb⟩⟩
 unfold apR
 by_cases h1:may X.data.toList≠0
 ·rw[if_pos h1]
  have FF:Hid _:=STAY _ h1 va (Below.refl _ _)
  obtain⟨x,hx⟩:∃x,may X.data.toList=x:=⟨_,rfl⟩
  rw[hx] at CH h1 FF ⊢
  clear hx h STAY
  go_enter Tryz.func52, Tryz.ntmps52
  go_wp2_with fail
  refine Calls.mono CH.out ?_
  rintro e w1 ⟨rfl,rfl⟩
  go_wp2
  go_ret
  exact⟨rfl,FF.out⟩
 ·rw[if_neg h1]
  have h1':may X.data.toList=0:=Decidable.byContradiction h1
  have hb:=may_ok h1'
  rw[h1'] at CH
  have SO:Hid (Calls Tryz.prog 90 #[.string X] va fun e w'=>e = .returned (.int .i64 (sn X.data.toList:Int))∧w'=va):=lsectorsOf_any X.data.toList (by omega) va
  have RM:Hid _:=lroom_any q p fr mn g v ts tk m [] va htk hmn h.out.hf
  have hsn:sn X.data.toList≤100:=by unfold sn;omega
  by_cases h2:mn < tk+sn X.data.toList
  ·rw[if_pos h2]
   have g1:((mn - tk:Nat):Int) < (sn X.data.toList:Int):=by omega
   have FS:Hid _:=STAY 151 (by decide)
   obtain⟨n,hn⟩:∃n,sn X.data.toList=n:=⟨_,rfl⟩
   obtain⟨d,hd⟩:∃d,mn - tk=d:=⟨_,rfl⟩
   rw[hn] at SO g1
   rw[hd] at RM g1
   clear hn hd h STAY h1 h1' hb h2 hsn
   go_enter Tryz.func52, Tryz.ntmps52
   go_wp2_with fail
   refine Calls.mono CH.out ?_
   rintro e w1 ⟨rfl,rfl⟩
   go_wp2_with fail
   refine Calls.mono SO.out ?_
   rintro e w2 ⟨rfl,rfl⟩
   go_wp2_with fail
   refine Calls.mono RM.out ?_
   rintro e w3 ⟨rfl,hb3⟩
   have FF:Hid _:=FS.out w3 hb3
   clear FS hb3
   go_wp2
   go_ret
   exact⟨rfl,FF.out⟩
  ·rw[if_neg h2]
   have g1:¬((mn - tk:Nat):Int) < (sn X.data.toList:Int):=by omega
   have AD:Hid (∀W,Below va.heap.size va W→Calls Tryz.prog 91 #[.pointer (some ⟨q,0,none⟩),.string X] W fun e w'=>e = .returned (.int .i64 (wrb s (fr+tk) (rcd m X.data.toList)).1)∧AdP w va p F q fr mn g v ts tk m [] X.data.toList (wrb s (fr+tk) (rcd m X.data.toList)) w'):=fun W hbw =>
    (ladd_any w W p F s q fr mn g v ts tk m [] X.data.toList hm hb.2 hts (by omega) hl hk (h.out.later hbw)).mono fun _ _ ⟨he,F',v',n1,b1,hh⟩=>⟨he,F',v',(Nx2.refl va _ _ _).trans n1 hbw.size,(Bf.of hbw).trans (Nx.refl _ _) b1,hh⟩
   obtain⟨y,hy⟩:∃y,wrb s (fr+tk) (rcd m X.data.toList)=y:=⟨_,rfl⟩
   rw[hy] at AD ⊢
   obtain⟨n,hn⟩:∃n,sn X.data.toList=n:=⟨_,rfl⟩
   obtain⟨d,hd⟩:∃d,mn - tk=d:=⟨_,rfl⟩
   rw[hn] at SO g1
   rw[hd] at RM g1
   obtain⟨x,hx⟩:∃x,y.1=x:=⟨_,rfl⟩
   rw[hx] at AD ⊢
   clear hn hd h STAY h1 h1' hb h2 hsn hy hx
   go_enter Tryz.func52, Tryz.ntmps52
   go_wp2_with fail
   refine Calls.mono CH.out ?_
   rintro e w1 ⟨rfl,rfl⟩
   go_wp2_with fail
   refine Calls.mono SO.out ?_
   rintro e w2 ⟨rfl,rfl⟩
   go_wp2_with fail
   refine Calls.mono RM.out ?_
   rintro e w3 ⟨rfl,hb3⟩
   have A3:Hid _:=AD.out w3 hb3
   clear AD hb3
   go_wp2_with fail
   refine Calls.mono A3.out ?_
   rintro e w4 ⟨rfl,had⟩
   have FF:Hid _:=had
   clear had A3
   go_wp2
   go_ret
   exact⟨rfl,FF.out⟩
structure Rl (w:World) (d:Nat) (G:Nat→Prop) (s:St) (q:Nat) (v:Value) (x:Lo):Prop where
 rd:Rd w d G s q x.h x.g v x.ts x.tk x.mr
 h1:x.h≤1
 n4:4≤s.n
 n2:s.n≤1024
 tk:x.tk≤s.n / 2
 ok:∀t∈x.ts,1≤t.length∧t.length≤2000
section
variable {w:World} {d:Nat} {G:Nat→Prop} {s:St} {q:Nat} {v:Value} {x:Lo}
theorem Rl.later (k:Rl w d G s q v x) {w':World} (hb:Below w.heap.size w w'):Rl w' d G s q v x:=⟨k.rd.later hb,k.h1,k.n4,k.n2,k.tk,k.ok⟩
theorem Rl.tlen (k:Rl w d G s q v x):x.ts.length≤512:=by
 have h1:=tkn_ge_len x.ts
 have h2:tkn 1 x.ts≤s.n / 2:=k.tk
 have h3:=k.n2
 omega
theorem Rl.fq (k:Rl w d G s q v x) {y:Nat} (hy:FQ G q v y):y < w.heap.size:=by
 rcases hy with e|e
 ·exact k.rd.at_.lt e
 ·exact k.rd.rf.lt e
theorem Rl.other (k:Rl w d G s q v x) {w':World} {F:Nat→Prop} (hb:Bf F w w') (hF:∀y,FQ G q v y→¬F y):Rl w' d G s q v x :=
 ⟨⟨k.rd.at_.other hb (fun y hy=>hF y (.inl hy)),k.rd.rf.bf hb (fun y hy=>hF y (.inr hy)),k.rd.ap⟩,k.h1,k.n4,k.n2,k.tk,k.ok⟩
end
def RlP (w:World) (d:Nat) (G:Nat→Prop) (q:Nat) (v:Value) (s:St) (x:Lo) (w':World):Prop:=∃G' v',Rl w' d G' s q v' x∧Nx w G G'∧Nx w (HFt q v) (HFt q v')∧Bf (FQ G q v) w w'
set_option maxHeartbeats 1000000 in
theorem rroom_any (w:World) (d:Nat) (G:Nat→Prop) (s:St) (q:Nat) (v:Value) (x:Lo) (k:Hid (Rl w d G s q v x)) :
  Calls Tryz.prog 94 #[.pointer (some ⟨q,0,none⟩)] w fun e w'=>e = .returned (.int .i64 ((s.n / 2 - x.tk:Nat):Int))∧Below w.heap.size w w':=by
 have hn2:=k.out.n2
 have htk:x.tk≤s.n / 2:=k.out.tk
 have HA:Hid (∀W,Below w.heap.size w W→Calls Tryz.prog 79 #[.pointer (some ⟨d,0,none⟩)] W fun e w'=>e = .returned (.int .i64 ((s.n / 2:Nat):Int))∧w'=W):=fun W hb=>rhalf_any d G s W (k.out.rd.at_.later hb) (by omega)
 have k0:=k.out.rd.rf.bk.c 0 _ rfl
 have k5:=k.out.rd.rf.bk.c 5 _ rfl
 obtain⟨H,hH⟩:∃H,s.n / 2=H:=⟨_,rfl⟩
 obtain⟨t,ht⟩:∃t,x.tk=t:=⟨_,rfl⟩
 rw[hH] at HA htk ⊢
 rw[ht] at k5 htk ⊢
 have y1:IntKind.i64.wrap ((H:Int) - (t:Int))=((H - t:Nat):Int):=by rw[IntKind.wrap_i64];omega
 clear k ht
 go_enter Tryz.func94, Tryz.ntmps94
 go_wp2_with fail
 go_region_held3 (fun w'=>w'.cell? ⟨q,0,none⟩=some (.pointer (some ⟨d,0,none⟩))∧w'.cell? ⟨q,5,none⟩=some (.int .i64 (t:Int))∧Below w.heap.size w w') (first|exact⟨k0,k5,(Below.refl _ _).drew⟩|assumption) (first|(go_at_call 79;refine Calls.mono (HA.out _ (by first|exact (Below.refl _ _).drew|assumption)) ?_;rintro e w2 ⟨rfl,rfl⟩))
 go_wp2
 go_ret
 exact⟨rfl,(Below.refl _ _).drew⟩
set_option maxHeartbeats 1000000 in
theorem rappend_any (w:World) (d:Nat) (G:Nat→Prop) (s:St) (q:Nat) (v:Value) (x:Lo) (X:ByteArray) (hl:s.l.length+100≤1000000) (k:Hid (Rl w d G s q v x)) :
  Calls Tryz.prog 53 #[.pointer (some ⟨q,0,none⟩),.string X] w fun e w'=>e = .returned (.int .i64 (app s x X.data.toList).1.1)∧RlP w d G q v (app s x X.data.toList).1.2 (app s x X.data.toList).2 w':=by
 have MY:Hid _:=rmay_any X w
 obtain⟨t,ht⟩:∃t,X.data.toList=t:=⟨_,rfl⟩
 have hX:Hid (X=st t):=by show X=st t;rw[←ht];rfl
 rw[ht] at MY ⊢
 clear ht
 by_cases h0:may t=0
 ·have hok:=may_ok h0
  have RM:Hid _:=rroom_any w d G s q v x k
  have SC:Hid (∀W,Calls Tryz.prog 93 #[.string X] W fun e w'=>e = .returned (.int .i64 (sn t:Int))∧w'=W):=fun W=>by rw[hX.out];exact rsectors_any t (by omega) W
  have htk:x.tk≤s.n / 2:=k.out.tk
  have hn2:=k.out.n2
  rw[h0] at MY
  by_cases h2:s.n / 2 < x.tk+sn t
  ·have ea:app s x t=((151,s),x):=by rw[app,if_neg (by rw[h0];simp),if_pos h2]
   rw[ea]
   have FF:Hid (∀W,Below w.heap.size w W→RlP w d G q v s x W):=fun W hb=>⟨G,v,k.out.later hb,Nx.refl _ _,Nx.refl _ _,Bf.of hb⟩
   have g1:((s.n / 2 - x.tk:Nat):Int) < (sn t:Int):=by omega
   obtain⟨r,hr⟩:∃r:Int,((s.n / 2 - x.tk:Nat):Int)=r:=⟨_,rfl⟩
   obtain⟨z,hz⟩:∃z:Int,(sn t:Int)=z:=⟨_,rfl⟩
   rw[hr] at RM g1
   rw[hz] at SC g1
   clear hr hz ea h2 htk k hok
   go_enter Tryz.func53, Tryz.ntmps53
   go_wp2_with fail
   refine Calls.mono MY.out ?_
   rintro e w1 ⟨rfl,rfl⟩
   go_wp2_with fail
   refine Calls.mono (SC.out _) ?_
   rintro e w1 ⟨rfl,rfl⟩
   go_wp2_with fail
   refine Calls.mono RM.out ?_
   rintro e w2 ⟨rfl,hb⟩
   have F2:Hid _:=FF.out w2 hb
   clear FF hb RM
   go_wp2
   go_ret
   exact⟨rfl,F2.out⟩
  ·have ea:app s x t=(wrb s (x.h*(s.n / 2)+x.tk) (rcd x.mr t),if (wrb s (x.h*(s.n / 2)+x.tk) (rcd x.mr t)).1=0 then { x with ts:=x.ts++[t] } else x):=by rw[app,if_neg (by rw[h0];simp),if_neg h2]
   have g1:¬((s.n / 2 - x.tk:Nat):Int) < (sn t:Int):=by omega
   have PU:Hid (∀W,Below w.heap.size w W→Calls Tryz.prog 95 #[.pointer (some ⟨q,0,none⟩),.string X] W fun e w'=>e = .returned (.int .i64 (app s x t).1.1)∧RlP w d G q v (app s x t).1.2 (app s x t).2 w'):=fun W hb=>by
    have kk:=k.out.later hb
    have:=rput_any d G s q x.h x.g v x.ts x.tk x.mr t W (mks_len _ _ rfl) (by omega) kk.h1 (by omega) (by omega) (by have:=kk.tlen;omega) hl kk.rd
    rw[hX.out]
    refine this.mono ?_
    rintro e w' ⟨he,G',v',hc,n1,n2,b1⟩
    rw[ea]
    have hwn:=wrb_n s (x.h*(s.n / 2)+x.tk) (rcd x.mr t)
    obtain⟨⟨y,s2⟩,hy⟩:∃z,wrb s (x.h*(s.n / 2)+x.tk) (rcd x.mr t)=z:=⟨_,rfl⟩
    rw[hy] at he hc hwn ⊢
    have hwn':s2.n=s.n:=hwn
    have hsz:=hb.size
    have nx1:Nx w G G':=fun y hy=>(n1 y hy).imp id (fun z=>Nat.le_trans hsz z)
    have nx2:Nx w (HFt q v) (HFt q v'):=fun y hy=>(n2 y hy).imp id (fun z=>Nat.le_trans hsz z)
    refine⟨he,G',v',?_,nx1,nx2,(Bf.of hb).trans (Nx.refl _ _) b1⟩
    rcases hc with ⟨c0,c1⟩|⟨c0,c1⟩
    ·rw[if_pos c0]
     have et:(⟨x.h,x.g,x.ts++[t]⟩:Lo).tk=x.tk+sn t:=tkn_app x.ts 1 _
     have em:(⟨x.h,x.g,x.ts++[t]⟩:Lo).mr=rmk x.mr t:=mks_app x.ts (hm x.g) _
     refine⟨?_,kk.h1,by rw[hwn'];exact kk.n4,by rw[hwn'];exact kk.n2,by rw[et,hwn'];omega,fun u hu => ?_⟩
     ·show Rd w' d G' s2 q x.h x.g v' (x.ts++[t]) (⟨x.h,x.g,x.ts++[t]⟩:Lo).tk (⟨x.h,x.g,x.ts++[t]⟩:Lo).mr
      rw[et,em]
      exact c1
     ·rcases List.mem_append.1 hu with hu|hu
      ·exact kk.ok u hu
      ·rw[List.mem_singleton] at hu
       subst hu
       exact hok
    ·rw[if_neg c0]
     exact⟨c1,kk.h1,by rw[hwn'];exact kk.n4,by rw[hwn'];exact kk.n2,by rw[hwn'];exact kk.tk,kk.ok⟩
   obtain⟨⟨⟨y,s2⟩,x2⟩,hy⟩:∃z,app s x t=z:=⟨_,rfl⟩
   rw[hy] at PU ⊢
   obtain⟨r,hr⟩:∃r:Int,((s.n / 2 - x.tk:Nat):Int)=r:=⟨_,rfl⟩
   obtain⟨z,hz⟩:∃z:Int,(sn t:Int)=z:=⟨_,rfl⟩
   rw[hr] at RM g1
   rw[hz] at SC g1
   clear hr hz ea hy h2 htk k hok
   go_enter Tryz.func53, Tryz.ntmps53
   go_wp2_with fail
   refine Calls.mono MY.out ?_
   rintro e w1 ⟨rfl,rfl⟩
   go_wp2_with fail
   refine Calls.mono (SC.out _) ?_
   rintro e w1 ⟨rfl,rfl⟩
   go_wp2_with fail
   refine Calls.mono RM.out ?_
   rintro e w2 ⟨rfl,hb⟩
   have P2:Hid _:=PU.out w2 hb
   clear PU hb RM
   go_wp2_with fail
   refine Calls.mono P2.out ?_
   rintro e w3 ⟨rfl,f3⟩
   have F3:Hid _:=f3
   clear f3 P2
   go_wp2
   go_ret
   exact⟨rfl,F3.out⟩
 ·have ea:app s x t=((may t,s),x):=by rw[app,if_pos h0]
  rw[ea]
  have FF:Hid (RlP w d G q v s x w):=⟨G,v,k.out,Nx.refl _ _,Nx.refl _ _,Bf.refl _ _⟩
  obtain⟨z,hz⟩:∃z,may t=z:=⟨_,rfl⟩
  rw[hz] at MY h0 ⊢
  clear hz ea k
  go_enter Tryz.func53, Tryz.ntmps53
  go_wp2_with fail
  refine Calls.mono MY.out ?_
  rintro e w1 ⟨rfl,rfl⟩
  clear MY
  go_wp2
  go_ret
  exact⟨rfl,FF.out⟩
theorem owns_tx {w:World} {base:Nat} {v:Value} {l:List Bs} {n:Nat} (hn:l.length=n) (h:w.ownsRow base 9 1 v n (scs l)):∃a cap,v = .slice a n cap∧TxAt w a l∧(a=none→n=0∧cap=0):=by
 obtain⟨h1,h2⟩:=h
 rcases h2 with ⟨rfl,h0⟩|⟨g,cap,cur,rfl,-,hh,-,-,-,ht⟩
 ·subst h0
  have:l=[]:=List.length_eq_zero_iff.1 hn
  subst this
  exact⟨none,0,rfl,TxAt.nil _ _,fun _=>⟨rfl,rfl⟩⟩
 ·refine⟨_,cap,rfl,fun j hj=>⟨g,0,rfl,?_⟩,fun e=>by cases e⟩
  have e:cur[j]?=(scs l)[j]?:=by
   rw[←ht,List.getElem?_take_of_lt (by omega)];simp
  rw[Nat.zero_add]
  unfold World.cell?
  rw[hh]
  simp only[Option.isSome_none]
  show cur[j]?=_
  rw[e];simp[scs,hj]
theorem owns_zero {w:World} {base:Nat} {e:TypeId} {size n:Nat} {v:Value} {xs:List Value} (h:w.ownsRow base e size v n xs):w.ownsRow 0 e size v n xs:=by
 refine⟨h.1,?_⟩
 rcases h.2 with h2|⟨g,cap,cur,rfl,-,hh⟩
 ·exact .inl h2
 ·exact .inr ⟨g,cap,cur,rfl,Nat.zero_le _,hh⟩
theorem owns_laterS {w w':World} {base:Nat} {v:Value} {n:Nat} {xs:List Value} (h:w.ownsRow base 9 1 v n xs) (hb:Below w.heap.size w w'):w'.ownsRow base 9 1 v n xs:=by
 refine⟨h.1,?_⟩
 rcases h.2 with h2|⟨g,cap,cur,rfl,hg,hh,hr⟩
 ·exact .inl h2
 ·exact .inr ⟨g,cap,cur,rfl,hg,(hb.block g (Array.getElem?_eq_some_iff.1 hh).1).trans hh,hr⟩
theorem one_new (w:World) (x:Value) (t:TypeId):∀j u,[x][j]?=some u→(w.alloc (.cells #[x] t)).cell? (Addr.add ⟨w.heap.size,0,none⟩ j)=some u:=fun j u h=>by
 obtain rfl:j=0:=by
  match j,h with
  | 0,_=>rfl
  | j+1,h=>simp at h
 simp at h
 subst h
 rw[Addr.add_mid,Nat.zero_add,World.cell?_alloc_new]
 rfl
set_option maxHeartbeats 2000000 in
theorem lrecords_any (q p fr mn g:Nat) (v:Value) (ts:List Bs) (tk:Nat) (m:Bs) (more:List Value) (w:World) (hn:ts.length≤100000) (ht:∀t∈ts,t.length≤2000) (h:Hid (Hf w q p fr mn g v ts tk m more)) :
  Calls Tryz.prog 37 #[.pointer (some ⟨q,0,none⟩)] w fun e w'=>∃u,e = .returned u∧w'.ownsRow w.heap.size 9 1 u ts.length (scs ts)∧Below w.heap.size w w':=by
 obtain⟨i0,hi,hz0,hz1,hz2⟩:=info_parts infoS
 obtain⟨a,cap,rfl,tx,-⟩:=owns_tx rfl h.out.row
 have HX:Hid (TxAt w a ts):=tx
 have k4:=h.out.bk.c 4 _ rfl
 have HT:Hid (∀t∈ts,t.length≤2000):=ht
 obtain⟨n,hnn⟩:∃n,ts.length=n:=⟨_,rfl⟩
 have HN:Hid (ts.length=n):=hnn
 rw[hnn] at k4 hn ⊢
 clear tx h ht hnn
 go_enter Tryz.func37, Tryz.ntmps37
 go_wp2
 go_loopw [3,12] (fun sl i wr=>∃k:Nat,k≤n∧i = .int .i64 (k:Int)∧Hid (wr.ownsRow w.heap.size 9 1 sl k (scs (ts.take k))∧Below w.heap.size w wr)) (fun _ i _=>n - (intOf i).toNat)
 case atStart=>exact⟨0,Nat.zero_le _,rfl,⟨rfl,.inl ⟨rfl,rfl⟩⟩,Below.refl _ _⟩
 case round =>
  obtain⟨k,hk,rfl,J⟩:=hrel
  clear k4
  by_cases hlt:k < n
  ·have hkl:k < ts.length:=by rw[HN.out];exact hlt
   have g1:(k:Int) < (n:Int):=by omega
   obtain⟨b,o,rfl,c0⟩:=(HX.out.later J.out.2) k hkl
   have ET:Hid (ts.take (k+1)=ts.take k++[ts[k]]):=List.take_succ_eq_append_getElem hkl
   have hl:=HT.out _ (List.getElem_mem hkl)
   obtain⟨t,htt⟩:∃t,ts[k]=t:=⟨_,rfl⟩
   rw[htt] at c0 ET hl
   have CL:Hid (∀w,Calls Tryz.prog 43 #[.string (st t)] w fun e w'=>e = .returned (.string (st t))∧Below w.heap.size w w'):=fun w=>sclone_any (st t) (by rw[st_size];omega) w
   have HSV:Hid (Value.string (st t)=sv t):=(rfl:Value.string (st t)=sv t)
   unfold sv at c0
   obtain⟨T,hT⟩:∃T,st t=T:=⟨_,rfl⟩
   rw[hT] at c0 CL HSV
   clear htt hT
   go_wp2_with fail
   refine Calls.mono (CL.out _) ?_
   rintro e w1 ⟨rfl,hb⟩
   have J1:Hid (w1.ownsRow w.heap.size 9 1 u3 k (scs (ts.take k))∧Below w.heap.size w w1):=⟨owns_laterS J.out.1 hb,chain J.out.2 hb⟩
   clear hb J CL c0
   go_wp2_with (first
    | (at_builtin;refine wpList_append_own _ rfl _ _ 37 rfl w.heap.size 9 i0 (.string ⟨#[]⟩) 1 16 Tryz.underlying37 hi hz0 hz1 hz2 rfl (by decide) _ _ _ rfl (J1.out.1.alloc _) ⟨w1.heap.size,0,none⟩ 1 1 [.string T] rfl rfl (one_new _ _ _) (by intro u hu;simp at hu;subst hu;rfl) (by unfold maxLen;omega) (by omega) (by have:=J1.out.2.size;simp;omega) ?_;intro v1 w2 hown1 hgrow1 hnil1))
   go_roundw
   case rel =>
    refine⟨k+1,by omega,rfl,?_,?_⟩
    ·rw[ET.out,scs_app]
     rw[HSV.out] at hown1
     exact hown1
    ·exact (J1.out.2.alloc J1.out.2.size _).grown hgrow1 (by have:=J1.out.2.size;simp;omega) (fun q hq=>(J1.out.1.lt q hq).1)
   case measure=>simp[intOf];omega
  ·obtain rfl:k=n:=by omega
   have J2:Hid (wr.ownsRow w.heap.size 9 1 u3 k (scs ts)∧Below w.heap.size w wr):=by
    have:=J.out
    rw[List.take_of_length_le (by rw[HN.out];exact Nat.le_refl _)] at this
    exact this
   clear J
   go_wp2
   go_ret
   exact⟨u3,rfl,J2.out.1,J2.out.2⟩
def Bn7 (w V:World) (p:Nat) (F:Nat→Prop) (s2:St) (tl:List Bs) (xa:Option Addr) (xn xc:Nat) (w':World):Prop :=
 ∃F2,Dl w w' p F2 s2∧Nx V F F2∧Bf F V w'∧OwnsS w' (.slice xa xn xc) tl∧∀x,(Value.slice xa xn xc).ownBlock=some x→V.heap.size≤x∧¬F2 x
def Ci7 (w va:World) (p:Nat) (F:Nat→Prop) (s2:St) (tl:List Bs) (pp:Option Addr) (i1 i2 i3:Int) (i5:Int) (s6:ByteArray) (H:Nat) (xa:Option Addr) (xn xc:Nat) (wx:World):Prop :=
 Bn7 w va p F s2 tl xa xn xc wx∧Blk wx H (hq7 pp i1 i2 i3 xa xn xc i5 s6)∧va.heap.size≤H
theorem ci_new {w va V w2:World} {p:Nat} {F:Nat→Prop} {s2:St} {tl:List Bs} {pp:Option Addr} {i1 i2 i3:Int} {i5:Int} {s6:ByteArray} {xa:Option Addr} {xn xc:Nat} (ty:TypeId) (bl:Below va.heap.size va V) (h:Bn7 w V p F s2 tl xa xn xc w2) :
  Ci7 w va p F s2 tl pp i1 i2 i3 i5 s6 w2.heap.size xa xn xc (w2.alloc (.cells #[.pointer pp,.int .i64 i1,.int .i64 i2,.int .i64 i3,.slice xa xn xc,.int .i64 i5,.string s6] ty)):=by
 obtain⟨F2,h1,h2,h3,h4,h5⟩:=h
 exact⟨⟨F2,h1.later (nb _ _),(Nx.refl va F).trans h2 bl.size,((Bf.of bl).trans (Nx.refl _ _) h3).later (nb _ _),ownsRow_same h4 (fun x e=>(nb w2 _).block x (h4.lt x e).2),fun x e=>⟨Nat.le_trans bl.size (h5 x e).1,(h5 x e).2⟩⟩,Blk.new w2 _ _ (by simp),Nat.le_trans bl.size h3.size⟩
theorem ci_old {w va V w2:World} {p:Nat} {F:Nat→Prop} {s2:St} {tl:List Bs} {pp:Option Addr} {i1 i2 i3:Int} {i5:Int} {s6:ByteArray} {xa:Option Addr} {xn xc:Nat} {H:Nat} (hw:w.heap.size≤va.heap.size) (bl:Below va.heap.size va V) (h:Bn7 w V p F s2 tl xa xn xc w2) (bh:Blk V H hz0) (hF:¬F H) (nH:va.heap.size≤H) :
  Ci7 w va p F s2 tl pp i1 i2 i3 i5 s6 H xa xn xc (w2.setCells H 0 (hq7 pp i1 i2 i3 xa xn xc i5 s6)):=by
 obtain⟨F2,h1,h2,h3,h4,h5⟩:=h
 have hb:=bh.bf h3 hF
 have hF2:=h2.apart hF bh.lt
 have hv:(Value.slice xa xn xc).ownBlock≠some H:=fun e=>by have:=(h5 _ e).1;have:=bh.lt;omega
 exact⟨⟨F2,h1.sets hF2 (Nat.le_trans hw nH) _,(Nx.refl va F).trans h2 bl.size,((Bf.of bl).trans (Nx.refl _ _) h3).trans (fun x e => .inr (by rw[e];exact nH)) (Bf.sets (fun x=>x=H) H rfl _ 0 w2),ownsRow_same h4 (fun x e=>setCells_other w2 H 0 _ x (fun d=>hv (by rw[e,d]))),fun x e=>⟨Nat.le_trans bl.size (h5 x e).1,(h5 x e).2⟩⟩,hb.put _ rfl,nH⟩
def olc0:Oper:={ dst:=some 43,op:=Go.Op.move (Go.Operand.tmp 0),type := 84, pos := "log.go:88", after:=#[],guard:=none }
def olc1:Oper:={ dst:=some 44,op:=Go.Op.nilCheck (Go.Operand.tmp 43),type:=0,pos := "log.go:88", after:=#[{ on:=0,ground:=Go.Ground.data }],guard:=none }
def olc2:Oper:={ dst:=some 45,op:=Go.Op.fieldAddr 136 (Go.Operand.tmp 44) 0,type:=0,pos := "log.go:88", after:=#[{ on:=1,ground:=Go.Ground.data }],guard:=none }
def olc3:Oper:={ dst:=some 46,op:=Go.Op.fieldAddr 130 (Go.Operand.tmp 45) 0,type:=0,pos := "log.go:88", after:=#[{ on:=2,ground:=Go.Ground.data }],guard:=none }
def olc4:Oper:={ dst:=some 47,op:=Go.Op.load 128 (Go.Operand.tmp 46),type := 128, pos := "log.go:88", after:=#[{ on:=3,ground:=Go.Ground.data }],guard:=none }
def olc5:Oper:={ dst:=some 48,op:=Go.Op.call { callee:=Go.Callee.value (Go.Operand.func 64),args:=#[Go.Operand.tmp 47],argTypes:=#[128] },type := 128, pos := "log.go:88", after:=#[{ on:=4,ground:=Go.Ground.data }],guard:=none }
def olc6:Oper:={ dst:=some 49,op:=Go.Op.move (Go.Operand.tmp 0),type := 84, pos := "log.go:88", after:=#[],guard:=none }
def olc7:Oper:={ dst:=some 50,op:=Go.Op.nilCheck (Go.Operand.tmp 49),type:=0,pos := "log.go:88", after:=#[{ on:=6,ground:=Go.Ground.data }],guard:=none }
def olc8:Oper:={ dst:=some 51,op:=Go.Op.fieldAddr 136 (Go.Operand.tmp 50) 0,type:=0,pos := "log.go:88", after:=#[{ on:=7,ground:=Go.Ground.data }],guard:=none }
def olc9:Oper:={ dst:=some 52,op:=Go.Op.fieldAddr 130 (Go.Operand.tmp 51) 1,type:=0,pos := "log.go:88", after:=#[{ on:=8,ground:=Go.Ground.data }],guard:=none }
def olc10:Oper:={ dst:=some 53,op:=Go.Op.load 3 (Go.Operand.tmp 52),type := 3, pos := "log.go:88", after:=#[{ on:=9,ground:=Go.Ground.data }],guard:=none }
def olc11:Oper:={ dst:=some 54,op:=Go.Op.binOp Go.BinOp.add 3 (Go.Operand.tmp 53) (Go.Operand.const (Go.Value.int Go.IntKind.i64 1)) 3, type := 3, pos := "log.go:88", after:=#[{ on:=10,ground:=Go.Ground.data }],guard:=none }
def olc12:Oper:={ dst:=some 55,op:=Go.Op.move (Go.Operand.tmp 1),type := 37, pos := "log.go:88", after:=#[],guard:=none }
def olc13:Oper:={ dst:=some 56,op:=Go.Op.call { callee:=Go.Callee.value (Go.Operand.func 65),args:=#[Go.Operand.tmp 48,Go.Operand.tmp 54,Go.Operand.tmp 55],argTypes:=#[128, 3, 37] },type := 131, pos := "log.go:88", after:=#[{ on:=5,ground:=Go.Ground.data },{ on:=11,ground:=Go.Ground.data },{ on:=12,ground:=Go.Ground.data },{ on:=5,ground:=Go.Ground.chain }],guard:=none }
def olc14:Oper:={ dst:=some 42,op:=Go.Op.move (Go.Operand.tmp 56),type := 131, pos := "log.go:88", after:=#[{ on:=13,ground:=Go.Ground.data }],guard:=none }
def olc15:Oper:={ dst:=some 57,op:=Go.Op.extract (Go.Operand.tmp 42) 0,type := 130, pos := "log.go:88", after:=#[{ on:=14,ground:=Go.Ground.data }],guard:=none }
def olc16:Oper:={ dst:=some 58,op:=Go.Op.extract (Go.Operand.tmp 42) 1,type := 24, pos := "log.go:88", after:=#[{ on:=14,ground:=Go.Ground.data },{ on:=18,ground:=Go.Ground.gcOnly Go.Departure.lateStores }],guard:=none }
def olc17:Oper:={ dst:=some 9,op:=Go.Op.alloc 130, type:=0,pos := "log.go:88", after:=#[],guard:=none }
def olc18:Oper:={ dst:=none,op:=Go.Op.store 130 (Go.Operand.tmp 9) (Go.Operand.tmp 57),type:=0,pos := "log.go:88", after:=#[{ on:=17,ground:=Go.Ground.data },{ on:=15,ground:=Go.Ground.data },{ on:=13,ground:=Go.Ground.chain },{ on:=0,ground:=Go.Ground.phase },{ on:=1,ground:=Go.Ground.phase },{ on:=2,ground:=Go.Ground.phase },{ on:=3,ground:=Go.Ground.phase },{ on:=4,ground:=Go.Ground.phase },{ on:=5,ground:=Go.Ground.phase },{ on:=6,ground:=Go.Ground.phase },{ on:=7,ground:=Go.Ground.phase },{ on:=8,ground:=Go.Ground.phase },{ on:=9,ground:=Go.Ground.phase },{ on:=10,ground:=Go.Ground.phase },{ on:=11,ground:=Go.Ground.phase },{ on:=12,ground:=Go.Ground.phase },{ on:=13,ground:=Go.Ground.phase },{ on:=14,ground:=Go.Ground.phase },{ on:=15,ground:=Go.Ground.phase },{ on:=16,ground:=Go.Ground.textOnly Go.Departure.lateStores },{ on:=17,ground:=Go.Ground.phase }],guard:=none }
def olc19:Oper:={ dst:=some 10,op:=Go.Op.assign (Go.Operand.tmp 58),type := 24, pos := "log.go:88", after:=#[{ on:=16,ground:=Go.Ground.data },{ on:=18,ground:=Go.Ground.chain },{ on:=0,ground:=Go.Ground.phase },{ on:=1,ground:=Go.Ground.phase },{ on:=2,ground:=Go.Ground.phase },{ on:=3,ground:=Go.Ground.phase },{ on:=4,ground:=Go.Ground.phase },{ on:=5,ground:=Go.Ground.phase },{ on:=6,ground:=Go.Ground.phase },{ on:=7,ground:=Go.Ground.phase },{ on:=8,ground:=Go.Ground.phase },{ on:=9,ground:=Go.Ground.phase },{ on:=10,ground:=Go.Ground.phase },{ on:=11,ground:=Go.Ground.phase },{ on:=12,ground:=Go.Ground.phase },{ on:=13,ground:=Go.Ground.phase },{ on:=14,ground:=Go.Ground.phase },{ on:=15,ground:=Go.Ground.phase },{ on:=16,ground:=Go.Ground.phase },{ on:=17,ground:=Go.Ground.phase },{ on:=18,ground:=Go.Ground.phase }],guard:=none }
theorem cellbf {F:Nat→Prop} {w w':World} (hb:Bf F w w') {q o:Nat} {v:Value} (hq:¬F q) (h:w.cell? ⟨q,o,none⟩=some v):w'.cell? ⟨q,o,none⟩=some v:=hb.cell h hq
theorem keep4s {w:World} {B H:Nat} {x0 x1 x2 x3 y0 y1 y2 y3 y4 y5 y6:Value} (hne:B≠H) (h:w.cell? ⟨B,0,none⟩=some x0∧w.cell? ⟨B,1,none⟩=some x1∧w.cell? ⟨B,2,none⟩=some x2∧w.cell? ⟨B,3,none⟩=some x3) :
  (w.setCells H 0 [y0,y1,y2,y3,y4,y5,y6]).cell? ⟨B,0,none⟩=some x0∧(w.setCells H 0 [y0,y1,y2,y3,y4,y5,y6]).cell? ⟨B,1,none⟩=some x1∧(w.setCells H 0 [y0,y1,y2,y3,y4,y5,y6]).cell? ⟨B,2,none⟩=some x2∧(w.setCells H 0 [y0,y1,y2,y3,y4,y5,y6]).cell? ⟨B,3,none⟩=some x3:=by
 have hs:=setCells_other w H 0 [y0,y1,y2,y3,y4,y5,y6] B hne
 exact⟨(World.cell?_of_block (a:=⟨B,0,none⟩) hs).trans h.1,(World.cell?_of_block (a:=⟨B,1,none⟩) hs).trans h.2.1,(World.cell?_of_block (a:=⟨B,2,none⟩) hs).trans h.2.2.1,(World.cell?_of_block (a:=⟨B,3,none⟩) hs).trans h.2.2.2⟩
set_option maxHeartbeats 4000000 in
theorem compact_region (w:World) (p:Nat) (F:Nat→Prop) (s2:St) (tl:List Bs) (q fr fr2 mn:Nat) (gi:Int) (x:Int) (va:World) (a:Option Addr) (n c:Nat) (E:Option Addr→Int→Int→Int→Int→ByteArray→Prop) (hw:Hid (w.heap.size≤va.heap.size)) (hF:Hid (∀y,F y→y < va.heap.size)) (hq:Hid (¬F q∧q < va.heap.size)) (y1:IntKind.i64.wrap (gi+1)=gi+1)
  (b0:va.cell? ⟨q,0,none⟩=some (.pointer (some ⟨p,0,none⟩))) (b1:va.cell? ⟨q,1,none⟩=some (.int .i64 (fr:Int))) (b2:va.cell? ⟨q,2,none⟩=some (.int .i64 (mn:Int))) (b3:va.cell? ⟨q,3,none⟩=some (.int .i64 gi))
  (OT:Hid (∀w,Calls Tryz.prog 64 #[.agg #[.pointer (some ⟨p,0,none⟩),.int .i64 (fr:Int),.int .i64 (mn:Int)]] w fun e w'=>e = .returned (.agg #[.pointer (some ⟨p,0,none⟩),.int .i64 (fr2:Int),.int .i64 (mn:Int)])∧Below w.heap.size w w'))
  (BG:Hid (∀V,Below va.heap.size va V→Calls Tryz.prog 65 #[.agg #[.pointer (some ⟨p,0,none⟩),.int .i64 (fr2:Int),.int .i64 (mn:Int)],.int .i64 (gi+1),.slice a n c] V fun e w'=>∃pp i1 i2 i3 xa xn xc i5 s6,e = .returned (.tuple #[.agg #[.pointer pp,.int .i64 i1,.int .i64 i2,.int .i64 i3,.slice xa xn xc,.int .i64 i5,.string s6],.int .i64 x])∧E pp i1 i2 i3 i5 s6∧Bn7 w V p F s2 tl xa xn xc w'))
  (a2 a3 a4 a5 a6 a7 a8 a11 a12 a13 a14 a15 a16 a17 a18 a19 a20 a21 a22 a23 a24 a25 a26 a27 a28 a29 a30 a31 a32 a33 a34 a35 a36 a37 a38 a39 a40 a41:Value) (Q:Exit→Act→World→Prop)
  (hQ:Hid (∀(H:Nat) (pp:Option Addr) (i1 i2 i3:Int) (xa:Option Addr) (xn xc:Nat) (i5:Int) (s6:ByteArray) (wx:World) (u42 u43 u44 u45 u46 u47 u48 u49 u50 u51 u52 u53 u54 u55 u56 u57 u58:Value),E pp i1 i2 i3 i5 s6→Ci7 w va p F s2 tl pp i1 i2 i3 i5 s6 H xa xn xc wx→Q .normal { tmps:=#[.pointer (some ⟨q,0,none⟩),.slice a n c,a2,a3,a4,a5,a6,a7,a8,.pointer (some ⟨H,0,none⟩),.int .i64 x,a11,a12,a13,a14,a15,a16,a17,a18,a19,a20,a21,a22,a23,a24,a25,a26,a27,a28,a29,a30,a31,a32,a33,a34,a35,a36,a37,a38,a39,a40,a41,u42,u43,u44,u45,u46,u47,u48,u49,u50,u51,u52,u53,u54,u55,u56,u57,u58,undef,undef,undef,undef,undef,undef,undef],defers:=[] } wx)) :
  (Code.region 14 #[olc0,olc1,olc2,olc3,olc4,olc5,olc6,olc7,olc8,olc9,olc10,olc11,olc12,olc13,olc14,olc15,olc16,olc17,olc18,olc19] true).wp Tryz.prog Q { tmps:=#[.pointer (some ⟨q,0,none⟩),.slice a n c,a2,a3,a4,a5,a6,a7,a8,undef,undef,a11,a12,a13,a14,a15,a16,a17,a18,a19,a20,a21,a22,a23,a24,a25,a26,a27,a28,a29,a30,a31,a32,a33,a34,a35,a36,a37,a38,a39,a40,a41,undef,undef,undef,undef,undef,undef,undef,undef,undef,undef,undef,undef,undef,undef,undef,undef,undef,undef,undef,undef,undef,undef,undef,undef],defers:=[] } va:=by
 refine wp_region_noPanic ?_
 refine wp_region_held_drew (S:=fun w'=>w'.cell? ⟨q,0,none⟩=some (.pointer (some ⟨p,0,none⟩))∧w'.cell? ⟨q,1,none⟩=some (.int .i64 (fr:Int))∧w'.cell? ⟨q,2,none⟩=some (.int .i64 (mn:Int))∧w'.cell? ⟨q,3,none⟩=some (.int .i64 gi)) (by kernel_rfl) (⟨b0,b1,b2,b3⟩) (fun hHeld => ?_)
 obtain⟨Z,hZ⟩:∃Z,va.drew=Z:=⟨_,rfl⟩
 have hz:Hid (Below va.heap.size va Z):=by
  rw[←hZ]
  exact (Below.refl _ _).drew
 rw[hZ] at hHeld ⊢
 clear hZ b0 b1 b2 b3
 refine wT 0 olc0 ?_ ?_ ?_;rotate_left
 ·intro w' hSw;clear hSw;unfold olc0;first|(go_simp;done)|(go_simp;with_reducible rfl)
 simp only[olc0,Act.put,wA,wB,wC]
 refine wT 1 olc1 ?_ ?_ ?_;rotate_left
 ·intro w' hSw;clear hSw;unfold olc1;first|(go_simp;done)|(go_simp;with_reducible rfl)
 simp only[olc1,Act.put,wA,wB,wC]
 refine wT 2 olc2 ?_ ?_ ?_;rotate_left
 ·intro w' hSw;clear hSw;unfold olc2;first|(go_simp;done)|(go_simp;with_reducible rfl)
 simp only[olc2,Act.put,wA,wB,wC]
 refine wT 3 olc3 ?_ ?_ ?_;rotate_left
 ·intro w' hSw;clear hSw;unfold olc3;first|(go_simp;done)|(go_simp;with_reducible rfl)
 simp only[olc3,Act.put,wA,wB,wC]
 refine wT 4 olc4 ?_ ?_ ?_;rotate_left
 ·intro w' hSw;obtain⟨s0,s1,s2,s3⟩:=hSw;unfold olc4;first|(go_simp;done)|(go_simp;with_reducible rfl)
 simp only[olc4,Act.put,wA,wB,wC]
 refine wT 6 olc6 ?_ ?_ ?_;rotate_left
 ·intro w' hSw;clear hSw;unfold olc6;first|(go_simp;done)|(go_simp;with_reducible rfl)
 simp only[olc6,Act.put,wA,wB,wC]
 refine wT 7 olc7 ?_ ?_ ?_;rotate_left
 ·intro w' hSw;clear hSw;unfold olc7;first|(go_simp;done)|(go_simp;with_reducible rfl)
 simp only[olc7,Act.put,wA,wB,wC]
 refine wT 8 olc8 ?_ ?_ ?_;rotate_left
 ·intro w' hSw;clear hSw;unfold olc8;first|(go_simp;done)|(go_simp;with_reducible rfl)
 simp only[olc8,Act.put,wA,wB,wC]
 refine wT 9 olc9 ?_ ?_ ?_;rotate_left
 ·intro w' hSw;clear hSw;unfold olc9;first|(go_simp;done)|(go_simp;with_reducible rfl)
 simp only[olc9,Act.put,wA,wB,wC]
 refine wT 10 olc10 ?_ ?_ ?_;rotate_left
 ·intro w' hSw;obtain⟨s0,s1,s2,s3⟩:=hSw;unfold olc10;first|(go_simp;done)|(go_simp;with_reducible rfl)
 simp only[olc10,Act.put,wA,wB,wC]
 refine wT 11 olc11 ?_ ?_ ?_;rotate_left
 ·intro w' hSw;clear hSw;unfold olc11;first|(go_simp;done)|(go_simp;with_reducible rfl)
 simp only[olc11,Act.put,wA,wB,wC]
 refine wT 12 olc12 ?_ ?_ ?_;rotate_left
 ·intro w' hSw;clear hSw;unfold olc12;first|(go_simp;done)|(go_simp;with_reducible rfl)
 simp only[olc12,Act.put,wA,wB,wC]
 refine wpAnyH_ready (rs:=[5,17]) (by kernel_rfl) (by simp) ?_
 refine AllReadyH.cons (o:=olc5) rfl (fun KK hKK => ?_) (AllReadyH.cons (o:=olc17) rfl (fun KK hKK => ?_) AllReadyH.nil)
 ·unfold olc5
  go_simp
  refine Calls.mono (OT.out _) ?_
  rintro e w1 ⟨rfl,hb1⟩
  have sz1:=hb1.size
  have bl1:=chain hz.out hb1
  refine hKK.out _ _ ⟨cell_later hb1 hHeld.1,cell_later hb1 hHeld.2.1,cell_later hb1 hHeld.2.2.1,cell_later hb1 hHeld.2.2.2⟩ (fun hHeld1 => ?_)
  clear hKK KK
  refine wpAnyH_ready (rs:=[13,17]) (by kernel_rfl) (by simp) ?_
  refine AllReadyH.cons (o:=olc13) rfl (fun KK hKK => ?_) (AllReadyH.cons (o:=olc17) rfl (fun KK hKK => ?_) AllReadyH.nil)
  ·unfold olc13
   go_simp
   refine Calls.mono (BG.out w1 bl1) ?_
   rintro e w2 ⟨pp,i1,i2,i3,xa,xn,xc,i5,s6,rfl,he7,hb7⟩
   obtain⟨F7,-,-,bf7,-,-⟩:=id hb7
   refine hKK.out _ _ ⟨cellbf bf7 hq.out.1 hHeld1.1,cellbf bf7 hq.out.1 hHeld1.2.1,cellbf bf7 hq.out.1 hHeld1.2.2.1,cellbf bf7 hq.out.1 hHeld1.2.2.2⟩ (fun hHeld2 => ?_)
   clear hKK KK bf7 F7
   refine wT 14 olc14 ?_ ?_ ?_;rotate_left
   ·intro w' hSw;clear hSw;unfold olc14;first|(go_simp;done)|(go_simp;with_reducible rfl)
   simp only[olc14,Act.put,wA,wB,wC]
   refine wT 15 olc15 ?_ ?_ ?_;rotate_left
   ·intro w' hSw;clear hSw;unfold olc15;first|(go_simp;done)|(go_simp;with_reducible rfl)
   simp only[olc15,Act.put,wA,wB,wC]
   refine wT 16 olc16 ?_ ?_ ?_;rotate_left
   ·intro w' hSw;clear hSw;unfold olc16;first|(go_simp;done)|(go_simp;with_reducible rfl)
   simp only[olc16,Act.put,wA,wB,wC]
   refine wpAnyH_ready (rs:=[17]) (by kernel_rfl) (by simp) ?_
   refine AllReadyH.cons (o:=olc17) rfl (fun KK hKK => ?_) AllReadyH.nil
   unfold olc17
   go_simp
   have nw3:Blk (w2.alloc (.cells #[.pointer none,.int .i64 0,.int .i64 0,.int .i64 0,.slice none 0 0,.int .i64 0,.string ⟨#[]⟩] 130)) (w2.heap.size) hz0:=blk_at w2 hz0 _ (by simp) _ (by simp)
   refine hKK.out _ _ ⟨cell_alloc hHeld2.1,cell_alloc hHeld2.2.1,cell_alloc hHeld2.2.2.1,cell_alloc hHeld2.2.2.2⟩ (fun hHeld3 => ?_)
   clear hKK KK
   refine wpAnyH_ready (rs:=[18]) (by kernel_rfl) (by simp) ?_
   refine AllReadyH.cons (o:=olc18) rfl (fun KK hKK => ?_) AllReadyH.nil
   have FI:Hid _:=ci_new (pp:=pp) (i1:=i1) (i2:=i2) (i3:=i3) (i5:=i5) (s6:=s6) 130 bl1 hb7
   unfold olc18
   go_simp
   refine hKK.out _ _ ⟨cell_alloc hHeld2.1,cell_alloc hHeld2.2.1,cell_alloc hHeld2.2.2.1,cell_alloc hHeld2.2.2.2⟩ (fun hHeld4 => ?_)
   clear hKK KK
   refine wT 19 olc19 ?_ ?_ ?_;rotate_left
   ·intro w' hSw;clear hSw;unfold olc19;first|(go_simp;done)|(go_simp;with_reducible rfl)
   simp only[olc19,Act.put,wA,wB,wC]
   refine wpAnyH_done (by kernel_rfl) ?_ _
   refine NoPanic.normal ?_
   exact hQ.out _ _ _ _ _ _ _ _ _ _ _ _ _ _ _ _ _ _ _ _ _ _ _ _ _ _ _ _ he7 FI.out
  ·unfold olc17
   go_simp
   have nw2:Blk (w1.alloc (.cells #[.pointer none,.int .i64 0,.int .i64 0,.int .i64 0,.slice none 0 0,.int .i64 0,.string ⟨#[]⟩] 130)) (w1.heap.size) hz0:=blk_at w1 hz0 _ (by simp) _ (by simp)
   have bs2:=bl1.size
   have bl2:=chain bl1 (nb w1 (.cells #[.pointer none,.int .i64 0,.int .i64 0,.int .i64 0,.slice none 0 0,.int .i64 0,.string ⟨#[]⟩] 130))
   refine hKK.out _ _ ⟨cell_alloc hHeld1.1,cell_alloc hHeld1.2.1,cell_alloc hHeld1.2.2.1,cell_alloc hHeld1.2.2.2⟩ (fun hHeld2 => ?_)
   clear hKK KK
   refine wpAnyH_ready (rs:=[13]) (by kernel_rfl) (by simp) ?_
   refine AllReadyH.cons (o:=olc13) rfl (fun KK hKK => ?_) AllReadyH.nil
   unfold olc13
   go_simp
   refine Calls.mono (BG.out (w1.alloc (.cells #[.pointer none,.int .i64 0,.int .i64 0,.int .i64 0,.slice none 0 0,.int .i64 0,.string ⟨#[]⟩] 130)) bl2) ?_
   rintro e w3 ⟨pp,i1,i2,i3,xa,xn,xc,i5,s6,rfl,he7,hb7⟩
   obtain⟨F7,-,-,bf7,-,-⟩:=id hb7
   refine hKK.out _ _ ⟨cellbf bf7 hq.out.1 hHeld2.1,cellbf bf7 hq.out.1 hHeld2.2.1,cellbf bf7 hq.out.1 hHeld2.2.2.1,cellbf bf7 hq.out.1 hHeld2.2.2.2⟩ (fun hHeld3 => ?_)
   clear hKK KK bf7 F7
   refine wT 14 olc14 ?_ ?_ ?_;rotate_left
   ·intro w' hSw;clear hSw;unfold olc14;first|(go_simp;done)|(go_simp;with_reducible rfl)
   simp only[olc14,Act.put,wA,wB,wC]
   refine wT 15 olc15 ?_ ?_ ?_;rotate_left
   ·intro w' hSw;clear hSw;unfold olc15;first|(go_simp;done)|(go_simp;with_reducible rfl)
   simp only[olc15,Act.put,wA,wB,wC]
   refine wT 16 olc16 ?_ ?_ ?_;rotate_left
   ·intro w' hSw;clear hSw;unfold olc16;first|(go_simp;done)|(go_simp;with_reducible rfl)
   simp only[olc16,Act.put,wA,wB,wC]
   refine wpAnyH_ready (rs:=[18]) (by kernel_rfl) (by simp) ?_
   refine AllReadyH.cons (o:=olc18) rfl (fun KK hKK => ?_) AllReadyH.nil
   have hHn:va.heap.size≤w1.heap.size:=by have:=hz.out.size;omega
   have hHF:¬F (w1.heap.size):=fun c=>by have:=hF.out _ c;omega
   have hne:q≠w1.heap.size:=fun c=>by have:=hq.out.2;omega
   have FI:Hid _:=ci_old (pp:=pp) (i1:=i1) (i2:=i2) (i3:=i3) (i5:=i5) (s6:=s6) hw.out bl2 hb7 nw2 hHF hHn
   obtain⟨F7,-,-,bf7,-,-⟩:=id hb7
   have bk7:=nw2.bf bf7 hHF
   have z0:=bk7.c 0 _ rfl
   have z1:=bk7.c 1 _ rfl
   have z2:=bk7.c 2 _ rfl
   have z3:=bk7.c 3 _ rfl
   have z4:=bk7.c 4 _ rfl
   have z5:=bk7.c 5 _ rfl
   have z6:=bk7.c 6 _ rfl
   have zf:=bk7.f
   unfold olc18
   go_simp
   refine hKK.out _ _ (keep4s hne hHeld3) (fun hHeld4 => ?_)
   clear hKK KK bk7 bf7 F7 z0 z1 z2 z3 z4 z5 z6 zf
   refine wT 19 olc19 ?_ ?_ ?_;rotate_left
   ·intro w' hSw;clear hSw;unfold olc19;first|(go_simp;done)|(go_simp;with_reducible rfl)
   simp only[olc19,Act.put,wA,wB,wC]
   refine wpAnyH_done (by kernel_rfl) ?_ _
   refine NoPanic.normal ?_
   exact hQ.out _ _ _ _ _ _ _ _ _ _ _ _ _ _ _ _ _ _ _ _ _ _ _ _ _ _ _ _ he7 FI.out
 ·unfold olc17
  go_simp
  have nw1:Blk (Z.alloc (.cells #[.pointer none,.int .i64 0,.int .i64 0,.int .i64 0,.slice none 0 0,.int .i64 0,.string ⟨#[]⟩] 130)) (Z.heap.size) hz0:=blk_at Z hz0 _ (by simp) _ (by simp)
  have bs1:=hz.out.size
  have bl1:=chain hz.out (nb Z (.cells #[.pointer none,.int .i64 0,.int .i64 0,.int .i64 0,.slice none 0 0,.int .i64 0,.string ⟨#[]⟩] 130))
  refine hKK.out _ _ ⟨cell_alloc hHeld.1,cell_alloc hHeld.2.1,cell_alloc hHeld.2.2.1,cell_alloc hHeld.2.2.2⟩ (fun hHeld1 => ?_)
  clear hKK KK
  refine wpAnyH_ready (rs:=[5]) (by kernel_rfl) (by simp) ?_
  refine AllReadyH.cons (o:=olc5) rfl (fun KK hKK => ?_) AllReadyH.nil
  unfold olc5
  go_simp
  refine Calls.mono (OT.out _) ?_
  rintro e w2 ⟨rfl,hb2⟩
  have sz2:=hb2.size
  have bl2:=chain bl1 hb2
  have bh2:=nw1.later hb2
  refine hKK.out _ _ ⟨cell_later hb2 hHeld1.1,cell_later hb2 hHeld1.2.1,cell_later hb2 hHeld1.2.2.1,cell_later hb2 hHeld1.2.2.2⟩ (fun hHeld2 => ?_)
  clear hKK KK
  refine wpAnyH_ready (rs:=[13]) (by kernel_rfl) (by simp) ?_
  refine AllReadyH.cons (o:=olc13) rfl (fun KK hKK => ?_) AllReadyH.nil
  unfold olc13
  go_simp
  refine Calls.mono (BG.out w2 bl2) ?_
  rintro e w3 ⟨pp,i1,i2,i3,xa,xn,xc,i5,s6,rfl,he7,hb7⟩
  obtain⟨F7,-,-,bf7,-,-⟩:=id hb7
  refine hKK.out _ _ ⟨cellbf bf7 hq.out.1 hHeld2.1,cellbf bf7 hq.out.1 hHeld2.2.1,cellbf bf7 hq.out.1 hHeld2.2.2.1,cellbf bf7 hq.out.1 hHeld2.2.2.2⟩ (fun hHeld3 => ?_)
  clear hKK KK bf7 F7
  refine wT 14 olc14 ?_ ?_ ?_;rotate_left
  ·intro w' hSw;clear hSw;unfold olc14;first|(go_simp;done)|(go_simp;with_reducible rfl)
  simp only[olc14,Act.put,wA,wB,wC]
  refine wT 15 olc15 ?_ ?_ ?_;rotate_left
  ·intro w' hSw;clear hSw;unfold olc15;first|(go_simp;done)|(go_simp;with_reducible rfl)
  simp only[olc15,Act.put,wA,wB,wC]
  refine wT 16 olc16 ?_ ?_ ?_;rotate_left
  ·intro w' hSw;clear hSw;unfold olc16;first|(go_simp;done)|(go_simp;with_reducible rfl)
  simp only[olc16,Act.put,wA,wB,wC]
  refine wpAnyH_ready (rs:=[18]) (by kernel_rfl) (by simp) ?_
  refine AllReadyH.cons (o:=olc18) rfl (fun KK hKK => ?_) AllReadyH.nil
  have hHn:va.heap.size≤Z.heap.size:=by have:=hz.out.size;omega
  have hHF:¬F (Z.heap.size):=fun c=>by have:=hF.out _ c;omega
  have hne:q≠Z.heap.size:=fun c=>by have:=hq.out.2;omega
  have FI:Hid _:=ci_old (pp:=pp) (i1:=i1) (i2:=i2) (i3:=i3) (i5:=i5) (s6:=s6) hw.out bl2 hb7 bh2 hHF hHn
  obtain⟨F7,-,-,bf7,-,-⟩:=id hb7
  have bk7:=bh2.bf bf7 hHF
  have z0:=bk7.c 0 _ rfl
  have z1:=bk7.c 1 _ rfl
  have z2:=bk7.c 2 _ rfl
  have z3:=bk7.c 3 _ rfl
  have z4:=bk7.c 4 _ rfl
  have z5:=bk7.c 5 _ rfl
  have z6:=bk7.c 6 _ rfl
  have zf:=bk7.f
  unfold olc18
  go_simp
  refine hKK.out _ _ (keep4s hne hHeld3) (fun hHeld4 => ?_)
  clear hKK KK bk7 bf7 F7 z0 z1 z2 z3 z4 z5 z6 zf
  refine wT 19 olc19 ?_ ?_ ?_;rotate_left
  ·intro w' hSw;clear hSw;unfold olc19;first|(go_simp;done)|(go_simp;with_reducible rfl)
  simp only[olc19,Act.put,wA,wB,wC]
  refine wpAnyH_done (by kernel_rfl) ?_ _
  refine NoPanic.normal ?_
  exact hQ.out _ _ _ _ _ _ _ _ _ _ _ _ _ _ _ _ _ _ _ _ _ _ _ _ _ _ _ _ he7 FI.out
end Go.Proofs.YtjpaodepnacimaaGreatDoor
