/- A part of the walk. -/
import Derived.Test.YtjcppbhgjchjaaaGreatDoorZr3G23
import Derived.Lib.AppendZeros
import Derived.Shelf.SlSortCmp.WholeK
set_option maxHeartbeats 8000000
set_option maxRecDepth 20000
namespace Go.Proofs.YtjcppbhgjchjaaaGreatDoor.Whl
open Go.RowKit Go.Proofs.Fd Go.Proofs.Wh
theorem zo3:(Tryz.prog.info? 179).map (fun i=>(i.zero,i.size,i.bytes))=some (some (.agg #[.int .i64 0,.int .i64 0,.int .i64 0]),3,24):=by kernel_rfl
theorem zmV (w:Wo) (ty:TypeId) (v:Value) (l:List Tm) (h:zaH w v l) (hl:l.length<=4096) (t:Tm) (b:Nat) (c0:w.cell? ⟨b,0,none⟩=some (.int .i64 (t.a:Int))) (c1:w.cell? ⟨b,1,none⟩=some (.int .i64 (t.n:Int))) (c2:w.cell? ⟨b,2,none⟩=some (.int .i64 t.i)) :
  ∃v' w',(Builtin.append_ #[167, 167] ty #[v,.slice (some ⟨b,0,none⟩) 1 1]).run Tryz.prog w = .ok v' w'/\zaH w' v' (l++[t])/\w.grownBy w' v.ownBlock/\(v'.ownBlock=v.ownBlock\/v'.ownBlock=some w.heap.size):=by
 obtain⟨i0,hi,hz0,hz1,hz2⟩:=info_parts zo3;obtain⟨v',w',r1,r2,r3,-,r5⟩:=run_append_own_at (P:=Tryz.prog) w 0 167 ty 179 i0 _ 3 24 Tryz.underlying167 hi hz0 hz1 hz2 rfl (by decide) v l.length (tcs l) h ⟨b,0,none⟩ 1 1 (tc t) rfl (fun j u hu=>by
   have q:Addr.add ⟨b,0,none⟩ j=⟨b,j,none⟩:=by simp[Addr.add];intro h;exact h.symm
   rw[q]
   match j,hu with
   | 0,hu=>simp[tc] at hu;subst hu;exact c0
   | 1,hu=>simp[tc] at hu;subst hu;exact c1
   | 2,hu=>simp[tc] at hu;subst hu;exact c2
   | j+3,hu=>simp[tc] at hu) (zdi [t]) (by unfold maxLen;omega) (by omega) (Nat.zero_le _)
 refine⟨v',w',r1,?_,r3,r5⟩;unfold zaH;rw[ze1,List.length_append]
 simpa[tcs] using r2
theorem zbR {w:Wo} {v:Value} {l:List Tm} (h:zaH w v l):∃a n c,v = .slice a n c:=by
 rcases h.2 with ⟨rfl,-⟩|⟨g,cap,cur,rfl,-⟩
 ·exact⟨_,_,_,rfl⟩
 ·exact⟨_,_,_,rfl⟩
theorem zlU {w:Wo} {p B o:Nat} {v x y z:Value} (hne:p≠B) (h:w.cell? ⟨B,0,none⟩=some x/\w.cell? ⟨B,1,none⟩=some y/\w.cell? ⟨B,2,none⟩=some z) :
  (w.setCell ⟨p,o,none⟩ v).cell? ⟨B,0,none⟩=some x/\(w.setCell ⟨p,o,none⟩ v).cell? ⟨B,1,none⟩=some y/\(w.setCell ⟨p,o,none⟩ v).cell? ⟨B,2,none⟩=some z :=
 ⟨zaa h.1 hne,zaa h.2.1 hne,zaa h.2.2 hne⟩
def zqJ:Oper:={ dst:=some 13,op := .move (.tmp 0),type := 107, pos := "wheel.go:119", after:=#[],guard:=none }
def zqK:Oper:={ dst:=some 14,op := .move (.tmp 4),type := 3, pos := "wheel.go:119", after:=#[],guard:=none }
def zqL:Oper:={ dst:=some 15,op := .move (.tmp 5),type := 3, pos := "wheel.go:119", after:=#[],guard:=none }
def zqM:Oper:={ dst:=some 16,op := .move (.tmp 0),type := 107, pos := "wheel.go:119", after:=#[],guard:=none }
def zqN:Oper:={ dst:=some 17,op := .move (.tmp 4),type := 3, pos := "wheel.go:119", after:=#[],guard:=none }
def zqO:Oper:={ dst:=some 18,op := .move (.tmp 5),type := 3, pos := "wheel.go:119", after:=#[],guard:=none }
def zqP:Oper:={ dst:=some 19,op := .nilCheck (.tmp 16),type:=0,pos := "wheel.go:119", after:=#[eD 3],guard:=none }
def zqQ:Oper:={ dst:=some 20,op := .fieldAddr 171 (.tmp 19) 2,type:=0,pos := "wheel.go:119", after:=#[eD 6],guard:=none }
def zqR:Oper:={ dst:=some 21,op := .indexAddr 169 (.tmp 20) (.tmp 17),type:=0,pos := "wheel.go:119", after:=#[eD 7,eD 4],guard:=none }
def zqS:Oper:={ dst:=some 22,op := .indexAddr 168 (.tmp 21) (.tmp 18),type:=0,pos := "wheel.go:119", after:=#[eD 8,eD 5],guard:=none }
def zks:Oper:={ dst:=some 23,op := .load 167 (.tmp 22),type := 167, pos := "wheel.go:119", after:=#[eD 9],guard:=none }
def zmW:Oper:={ dst:=some 24,op := .load 179 (.tmp 3),type := 179, pos := "wheel.go:119", after:=#[],guard:=none }
def zkt:Oper:={ dst:=some 25,op := .buildSlice 167 1 #[(0,Go.Operand.tmp 24)],type := 167, pos := "wheel.go:119", after:=#[eD 11],guard:=none }
def zku:Oper:={ dst:=some 26,op := .call { callee:=Go.Callee.builtin Go.Builtin.append,args:=#[Go.Operand.tmp 23,Go.Operand.tmp 25],argTypes:=#[167, 167] },type := 167, pos := "wheel.go:119", after:=#[eD 10,eD 12],guard:=none }
def zmX:Oper:={ dst:=some 27,op := .nilCheck (.tmp 13),type:=0,pos := "wheel.go:119", after:=#[eD 0],guard:=none }
def zmY:Oper:={ dst:=some 28,op := .fieldAddr 171 (.tmp 27) 2,type:=0,pos := "wheel.go:119", after:=#[eD 14],guard:=none }
def zmZ:Oper:={ dst:=some 29,op := .indexAddr 169 (.tmp 28) (.tmp 14),type:=0,pos := "wheel.go:119", after:=#[eD 15,eD 1],guard:=none }
def zgN:Oper:={ dst:=some 30,op := .indexAddr 168 (.tmp 29) (.tmp 15),type:=0,pos := "wheel.go:119", after:=#[eD 16,eD 2,eP 0,eP 1,eP 2,eP 3,eP 4,eP 5,eP 6,eP 7,eP 8,eP 9,eP 10,eP 11,eP 12,eP 13],guard:=none }
def zkv:Oper:={ dst:=none,op := .store 167 (.tmp 30) (.tmp 26),type:=0,pos := "wheel.go:119", after:=#[eD 17,eD 13,eC 13,eP 0,eP 1,eP 2,eP 3,eP 4,eP 5,eP 6,eP 7,eP 8,eP 9,eP 10,eP 11,eP 12,eP 13],guard:=none }
theorem zd8 (p now put:Nat) (sv:Nat->Value) (sl:Nat->List Tm) (bm:Nat) (D:DataW Unit) (t:Tm) (h1:now<=1099511627776) (h2:t.a<=1099511627776) (w:Wo) (R:Hid (Raw w p now put sv sl bm D)) (hl:(sl (pl now t.a)).length<=4096) :
  Cl 85 #[.pointer (some ⟨p,0,none⟩),.agg #[.int .i64 (t.a:Int),.int .i64 (t.n:Int),.int .i64 t.i]] w fun e w'=>e = .returned (.tuple #[])/\∃sv',Raw w' p now put sv' (upd sl (pl now t.a) (sl (pl now t.a)++[t])) bm D/\Nx w (Foot p sv bm) (Foot p sv' bm)/\Bf (Foot p sv bm) w w':=by
 have hpl:=zbD h1 h2;have hlv:=zdh h1 h2;have hmod:=Nat.mod_lt (pl now t.a) (show 0 < 64 by decide);have hsum:64*lv now t.a+pl now t.a % 64=pl now t.a:=by have:=zlT now t.a;omega
 have R1:Hid (Raw (w.alloc (.cells #[.int .i64 (t.a:Int),.int .i64 (t.n:Int),.int .i64 t.i] 179)) p now put sv sl bm D):=R.out.later ((bQ _ _).alloc (nL _) _);have CP:Hid _:=fun W c=>zck p now t.a h1 h2 W c
 obtain⟨k,hk⟩:∃k,pl now t.a=k:=⟨_,rfl⟩;obtain⟨x,hx⟩:∃x,lv now t.a=x:=⟨_,rfl⟩;obtain⟨y,hy⟩:∃y,pl now t.a % 64=y:=⟨_,rfl⟩;rw[hy] at CP hmod hsum;rw[hx] at CP hlv hsum;rw[hk] at hl hpl hsum ⊢;clear hy hx hk;have q1:(x:Int) < 7:=by omega
 have q2:(y:Int) < 64:=by omega
 go_enter Tryz.func85, Tryz.ntmps85;go_wp2_with fail;refine cM (CP.out _ R1.out.c0) ?_;rintro e w1 ⟨rfl,⟨q,rfl⟩⟩;go_wp2_with fail;obtain⟨B,hB⟩:∃B,w.heap.size=B:=⟨_,rfl⟩;have R2:Hid (Raw ((w.alloc (.cells #[.int .i64 (t.a:Int),.int .i64 (t.n:Int),.int .i64 t.i] 179)).drewN q) p now put sv sl bm D):=R1.out.later (below_drewN (bQ _ _) _);have HT:Hid (T1 ((w.alloc (.cells #[.int .i64 (t.a:Int),.int .i64 (t.n:Int),.int .i64 t.i] 179)).drewN q) B t):=by
  rw[<-hB];exact⟨by simp[go_sem],by simp[go_sem],by simp[go_sem],fun o=>by simp[go_sem]⟩
 have BW:Hid (Below B w ((w.alloc (.cells #[.int .i64 (t.a:Int),.int .i64 (t.n:Int),.int .i64 t.i] 179)).drewN q)):=by
  rw[<-hB];exact below_drewN ((bQ _ _).alloc (nL _) _) _
 have HX:Hid (((w.alloc (.cells #[.int .i64 (t.a:Int),.int .i64 (t.n:Int),.int .i64 t.i] 179)).drewN q).heap[B]?=some (.cells #[.int .i64 (t.a:Int),.int .i64 (t.n:Int),.int .i64 t.i] 179 (0,0))):=by
  rw[<-hB];exact heap_alloc_new w _
 have NB:Hid (∀g,(sv k).ownBlock=some g->g < w.heap.size):=fun g hg=>R.out.lt (.inr (.inr ⟨k,hpl,hg⟩))
 obtain⟨W,hW⟩:∃W,((w.alloc (.cells #[.int .i64 (t.a:Int),.int .i64 (t.n:Int),.int .i64 t.i] 179)).drewN q)=W:=⟨_,rfl⟩;have HB:Hid (w.heap.size=B):=hB;rw[hW] at R2 HT BW HX ⊢;rw[hB];clear hW hB R1 CP R;obtain⟨b0,b1,b2,-⟩:=HT.out;have e1:2+k=2+x*64+y:=by omega
 have ck:=R2.out.cs k hpl;rw[e1] at ck;have PB:Hid (p≠B):=fun c=>absurd (R2.out.fr 0) (by
  have h1:=HT.out.1;have h2:=R2.out.c1;have h3:=R2.out.c3;rw[c] at h3;have h4:W.heap[B]?=some (.cells #[.int .i64 (t.a:Int),.int .i64 (t.n:Int),.int .i64 t.i] 179 (0,0)):=HX.out;simp[World.cell?,h4] at h3)
 have AA:Hid (∀Z,W.drew=Z->∃va vn vc w',(Builtin.append_ #[167, 167] 167 #[sv k,.slice (some ⟨Z.heap.size,0,none⟩) 1 1]).run Tryz.prog (Z.alloc (.cells #[.int .i64 (t.a:Int),.int .i64 (t.n:Int),.int .i64 t.i] 179)) = .ok (.slice va vn vc) w'/\Hid (w'.cell? ⟨p,2+x*64+y,none⟩=some (sv k)/\w'.frozen? ⟨p,2+x*64+y,none⟩=false/\(∃sv',Raw (w'.setCell ⟨p,2+x*64+y,none⟩ (.slice va vn vc)) p now put sv' (upd sl k (sl k++[t])) bm D/\Nx w (Foot p sv bm) (Foot p sv' bm)/\Bf (Foot p sv bm) w (w'.setCell ⟨p,2+x*64+y,none⟩ (.slice va vn vc)))/\((Z.alloc (.cells #[.int .i64 (t.a:Int),.int .i64 (t.n:Int),.int .i64 t.i] 179)).cell? ⟨B,0,none⟩=some (.int .i64 (t.a:Int))/\(Z.alloc (.cells #[.int .i64 (t.a:Int),.int .i64 (t.n:Int),.int .i64 t.i] 179)).cell? ⟨B,1,none⟩=some (.int .i64 (t.n:Int))/\(Z.alloc (.cells #[.int .i64 (t.a:Int),.int .i64 (t.n:Int),.int .i64 t.i] 179)).cell? ⟨B,2,none⟩=some (.int .i64 t.i)->w'.cell? ⟨B,0,none⟩=some (.int .i64 (t.a:Int))/\w'.cell? ⟨B,1,none⟩=some (.int .i64 (t.n:Int))/\w'.cell? ⟨B,2,none⟩=some (.int .i64 t.i)))):=by
  rintro Z rfl;have R3:Raw (W.drew.alloc (.cells #[.int .i64 (t.a:Int),.int .i64 (t.n:Int),.int .i64 t.i] 179)) p now put sv sl bm D:=R2.out.later ((bQ _ _).drew.alloc (nL _) _);obtain⟨v',w',r1,r2,r3,r4⟩:=zmV _ 167 (sv k) (sl k) (R3.row k hpl) hl t W.drew.heap.size (by simp[go_sem]) (by simp[go_sem]) (by simp[go_sem]);obtain⟨va,vn,vc,rfl⟩:=zbR r2;have r5:=R3.setRow hpl r3 r2 (fun g hg=>by
   rcases r4 with h|h
   ·exact .inl (h.symm.trans hg)
   ·rw[h] at hg
    injection hg with hg
    exact .inr (by omega))
  have hp1:w'.heap[p]?=(W.drew.alloc (.cells #[.int .i64 (t.a:Int),.int .i64 (t.n:Int),.int .i64 t.i] 179)).heap[p]?:=r3.block p (R3.lt (.inl rfl)) (fun e=>R3.pr k hpl e.symm);refine⟨va,vn,vc,w',r1,?_,?_,?_,?_⟩
  ·rw[<-e1]
   exact (World.cell?_of_block (a:=⟨p,2+k,none⟩) hp1).trans (R3.cs k hpl)
  ·exact (World.frozen?_of_block (a:=⟨p,2+x*64+y,none⟩) hp1).trans (R3.fr _)
  ·rw[<-e1]
   have b0:Bf (Foot p sv bm) w (W.drew.alloc (.cells #[.int .i64 (t.a:Int),.int .i64 (t.n:Int),.int .i64 t.i] 179)):=by
    have hbw:=BW.out;rw[<-HB.out] at hbw;exact (Bf.of hbw).later ((bQ _ _).drew.alloc (nL _) _)
   exact⟨_,r5.1,(Nx.refl w _).trans r5.2.1 b0.size,b0.trans (Nx.refl _ _) r5.2.2⟩
  ·rintro ⟨d0,d1,d2⟩
   have hne:some B≠(sv k).ownBlock:=fun c=>by
    have h4:W.heap[B]?=some (.cells #[.int .i64 (t.a:Int),.int .i64 (t.n:Int),.int .i64 t.i] 179 (0,0)):=HX.out;have h5:B < w.heap.size:=NB.out B c.symm;have:=HB.out;omega
   exact⟨r3.cell d0 hne,r3.cell d1 hne,r3.cell d2 hne⟩
 clear R2 HT BW HX;refine wp_region_noPanic ?_;refine wp_region_held_drew (S:=fun w'=>w'.cell? ⟨B,0,none⟩=some (.int .i64 (t.a:Int))/\w'.cell? ⟨B,1,none⟩=some (.int .i64 (t.n:Int))/\w'.cell? ⟨B,2,none⟩=some (.int .i64 t.i)) (by kernel_rfl) (⟨b0,b1,b2⟩) (fun hHeld => ?_);obtain⟨Z,hZ⟩:∃Z,W.drew=Z:=⟨_,rfl⟩;rw[hZ] at hHeld ⊢;have ckZ:Hid (Z.cell? ⟨p,2+x*64+y,none⟩=some (sv k)):=by rw[<-hZ];exact ck
 clear ck b0 b1 b2;refine wT 0 zqJ ?_ ?_ ?_;rotate_left
 ·intro w' hSw;clear hSw;unfold zqJ;first|(go_simp;done)|(go_simp;with_reducible rfl)
 simp only[zqJ,Act.put,wA,wB,wC];refine wT 1 zqK ?_ ?_ ?_;rotate_left
 ·intro w' hSw;clear hSw;unfold zqK;first|(go_simp;done)|(go_simp;with_reducible rfl)
 simp only[zqK,Act.put,wA,wB,wC];refine wT 2 zqL ?_ ?_ ?_;rotate_left
 ·intro w' hSw;clear hSw;unfold zqL;first|(go_simp;done)|(go_simp;with_reducible rfl)
 simp only[zqL,Act.put,wA,wB,wC];refine wT 3 zqM ?_ ?_ ?_;rotate_left
 ·intro w' hSw;clear hSw;unfold zqM;first|(go_simp;done)|(go_simp;with_reducible rfl)
 simp only[zqM,Act.put,wA,wB,wC];refine wT 4 zqN ?_ ?_ ?_;rotate_left
 ·intro w' hSw;clear hSw;unfold zqN;first|(go_simp;done)|(go_simp;with_reducible rfl)
 simp only[zqN,Act.put,wA,wB,wC];refine wT 5 zqO ?_ ?_ ?_;rotate_left
 ·intro w' hSw;clear hSw;unfold zqO;first|(go_simp;done)|(go_simp;with_reducible rfl)
 simp only[zqO,Act.put,wA,wB,wC];refine wT 6 zqP ?_ ?_ ?_;rotate_left
 ·intro w' hSw;clear hSw;unfold zqP;first|(go_simp;done)|(go_simp;with_reducible rfl)
 simp only[zqP,Act.put,wA,wB,wC];refine wT 7 zqQ ?_ ?_ ?_;rotate_left
 ·intro w' hSw;clear hSw;unfold zqQ;first|(go_simp;done)|(go_simp;with_reducible rfl)
 simp only[zqQ,Act.put,wA,wB,wC];refine wT 8 zqR ?_ ?_ ?_;rotate_left
 ·intro w' hSw;clear hSw;unfold zqR;first|(go_simp;done)|(go_simp;with_reducible rfl)
 simp only[zqR,Act.put,wA,wB,wC];refine wT 9 zqS ?_ ?_ ?_;rotate_left
 ·intro w' hSw;clear hSw;unfold zqS;first|(go_simp;done)|(go_simp;with_reducible rfl)
 simp only[zqS,Act.put,wA,wB,wC];refine wT 11 zmW ?_ ?_ ?_;rotate_left
 ·intro w' hSw;obtain⟨s0,s1,s2⟩:=hSw;unfold zmW;first|(go_simp;done)|(go_simp;with_reducible rfl)
 simp only[zmW,Act.put,wA,wB,wC];refine wT 14 zmX ?_ ?_ ?_;rotate_left
 ·intro w' hSw;clear hSw;unfold zmX;first|(go_simp;done)|(go_simp;with_reducible rfl)
 simp only[zmX,Act.put,wA,wB,wC];refine wT 15 zmY ?_ ?_ ?_;rotate_left
 ·intro w' hSw;clear hSw;unfold zmY;first|(go_simp;done)|(go_simp;with_reducible rfl)
 simp only[zmY,Act.put,wA,wB,wC];refine wT 16 zmZ ?_ ?_ ?_;rotate_left
 ·intro w' hSw;clear hSw;unfold zmZ;first|(go_simp;done)|(go_simp;with_reducible rfl)
 simp only[zmZ,Act.put,wA,wB,wC];refine wpAnyH_ready (rs:=[10,12]) (by kernel_rfl) (by simp) ?_;refine AllReadyH.cons (o:=zks) rfl (fun KK hKK => ?_) (AllReadyH.cons (o:=zkt) rfl (fun KK hKK => ?_) AllReadyH.nil)
 ·have lc:=ckZ.out
  unfold zks;go_simp;refine hKK.out _ _ hHeld (fun hHeldL => ?_);clear hKK KK lc;refine wpAnyH_ready (rs:=[12]) (by kernel_rfl) (by simp) ?_;refine AllReadyH.cons (o:=zkt) rfl (fun KK hKK => ?_) AllReadyH.nil;unfold zkt;go_simp;refine hKK.out _ _ ⟨zab hHeldL.1,zab hHeldL.2.1,zab hHeldL.2.2⟩ (fun hHeldB => ?_);clear hKK KK;refine wpAnyH_ready (rs:=[13]) (by kernel_rfl) (by simp) ?_;refine AllReadyH.cons (o:=zku) rfl (fun KK hKK => ?_) AllReadyH.nil;obtain⟨va,vn,vc,w',hr,AO⟩:=AA.out Z hZ;rw[if_pos (by kernel_rfl)];refine Go.Lib.wp_append_run _ _ _ _ _ rfl _ _ rfl rfl _ _ hr ?_;refine hKK.out _ _ (AO.out.2.2.2 hHeldB) (fun hHeldA => ?_);clear hKK KK hr;simp only[zku,Act.put,wA,wB,wC];refine wT 17 zgN ?_ ?_ ?_;rotate_left
  ·intro w' hSw;clear hSw;unfold zgN;first|(go_simp;done)|(go_simp;with_reducible rfl)
  simp only[zgN,Act.put,wA,wB,wC];refine wpAnyH_ready (rs:=[18]) (by kernel_rfl) (by simp) ?_;refine AllReadyH.cons (o:=zkv) rfl (fun KK hKK => ?_) AllReadyH.nil;have sc:=AO.out.1;have sf:=AO.out.2.1;unfold zkv;go_simp;refine hKK.out _ _ (zlU PB.out hHeldA) (fun hHeldS => ?_);clear hKK KK sc sf;refine wpAnyH_done (by kernel_rfl) ?_ _;refine NoPanic.normal ?_;go_end0;exact⟨rfl,AO.out.2.2.1⟩
 ·unfold zkt
  go_simp;refine hKK.out _ _ ⟨zab hHeld.1,zab hHeld.2.1,zab hHeld.2.2⟩ (fun hHeldB => ?_);clear hKK KK;refine wpAnyH_ready (rs:=[10]) (by kernel_rfl) (by simp) ?_;refine AllReadyH.cons (o:=zks) rfl (fun KK hKK => ?_) AllReadyH.nil;have lc:=zab (o:=(.cells #[.int .i64 (t.a:Int),.int .i64 (t.n:Int),.int .i64 t.i] 179)) ckZ.out;unfold zks;go_simp;refine hKK.out _ _ hHeldB (fun hHeldL => ?_);clear hKK KK lc;refine wpAnyH_ready (rs:=[13]) (by kernel_rfl) (by simp) ?_;refine AllReadyH.cons (o:=zku) rfl (fun KK hKK => ?_) AllReadyH.nil;obtain⟨va,vn,vc,w',hr,AO⟩:=AA.out Z hZ;rw[if_pos (by kernel_rfl)];refine Go.Lib.wp_append_run _ _ _ _ _ rfl _ _ rfl rfl _ _ hr ?_;refine hKK.out _ _ (AO.out.2.2.2 hHeldL) (fun hHeldA => ?_);clear hKK KK hr;simp only[zku,Act.put,wA,wB,wC];refine wT 17 zgN ?_ ?_ ?_;rotate_left
  ·intro w' hSw;clear hSw;unfold zgN;first|(go_simp;done)|(go_simp;with_reducible rfl)
  simp only[zgN,Act.put,wA,wB,wC];refine wpAnyH_ready (rs:=[18]) (by kernel_rfl) (by simp) ?_;refine AllReadyH.cons (o:=zkv) rfl (fun KK hKK => ?_) AllReadyH.nil;have sc:=AO.out.1;have sf:=AO.out.2.1;unfold zkv;go_simp;refine hKK.out _ _ (zlU PB.out hHeldA) (fun hHeldS => ?_);clear hKK KK sc sf;refine wpAnyH_done (by kernel_rfl) ?_ _;refine NoPanic.normal ?_;go_end0;exact⟨rfl,AO.out.2.2.1⟩
theorem zm0 (p now:Nat) (w:Wo) (c0:w.cell? ⟨p,0,none⟩=some (.int .i64 (now:Int))) :
  Cl 245 #[.pointer (some ⟨p,0,none⟩)] w fun e w'=>e = .returned (.int .i64 (now:Int))/\w'=w:=by
 go_enter Tryz.func245, Tryz.ntmps245;go_wp2;go_ret;exact⟨rfl,rfl⟩
theorem zo4 (w:Wo) (bm:Nat) (D:DataW Unit) (h:zh5 w bm D) (ty:TypeId):(Builtin.len_ #[166] ty #[.map (some bm)]).run Tryz.prog w = .ok (.int .i64 (Maps.size D)) w:=h.len Tryz.underlying166 ty
theorem zkw (p bm:Nat) (D:DataW Unit) (w:Wo) (c3:w.cell? ⟨p,450,none⟩=some (.map (some bm))) (hm:zh5 w bm D) :
  Cl 246 #[.pointer (some ⟨p,0,none⟩)] w fun e w'=>e = .returned (.int .i64 (Maps.size D:Nat))/\w'=w:=by
 have hl:=zo4 w bm D hm;go_enter Tryz.func246, Tryz.ntmps246;go_wp2;go_ret;exact⟨rfl,rfl⟩
def zW:Array Value:=(.int .i64 0 :: .int .i64 0::(List.replicate 448 (.slice none 0 0)++[.map none])).toArray
theorem zh9:zW.size=451:=by decide +kernel
theorem zm1 (w:Wo):(zeroValue 171).run Tryz.prog w = .ok (.agg zW) w:=by kernel_rfl
theorem zm2 (k:Nat) (hk:k < 448):zW[2+k]?=some (.slice none 0 0):=by
 unfold zW;rw[List.getElem?_toArray,show 2+k=k+1+1 by omega,List.getElem?_cons_succ,List.getElem?_cons_succ,List.getElem?_append_left (by rw[List.length_replicate];exact hk),List.getElem?_replicate_of_lt hk]
theorem zkx (w:Wo) :
  Cl 45 #[] w fun e w'=>e = .returned (.pointer (some ⟨w.heap.size+1,0,none⟩))/\w'=(w.alloc (.map #[] 0)).alloc (.cells (zW.setIfInBounds 450 (.map (some w.heap.size))) 171):=by
 have hmm:=@run_makeMap Tryz.prog;have hz:=zm1;have hs:=zh9;obtain⟨Z,hZ⟩:∃Z,zW=Z:=⟨_,rfl⟩;rw[hZ] at hz hs ⊢;clear hZ;go_enter Tryz.func45, Tryz.ntmps45;go_wp2;go_ret;exact⟨rfl,rfl⟩
theorem new_any (w:Wo) :
  Cl 45 #[] w fun e w'=>∃p F,e = .returned (.pointer (some ⟨p,0,none⟩))/\WAt w' p F St.init/\(∀g,F g->w.heap.size<=g)/\Bw w w':=by
 refine (zkx w).mono ?_;rintro e w' ⟨rfl,rfl⟩;obtain⟨cur,hcur⟩:∃cur,zW.setIfInBounds 450 (.map (some w.heap.size))=cur:=⟨_,rfl⟩;have g0:cur[0]?=some (.int .i64 0):=by rw[<-hcur,Array.getElem?_setIfInBounds_ne (by omega)];rfl
 have g1:cur[1]?=some (.int .i64 0):=by rw[<-hcur,Array.getElem?_setIfInBounds_ne (by omega)];rfl
 have gs:∀k,k < 448->cur[2+k]?=some (.slice none 0 0):=fun k hk=>by rw[<-hcur,Array.getElem?_setIfInBounds_ne (by omega)];exact zm2 k hk
 have g3:cur[450]?=some (.map (some w.heap.size)):=by rw[<-hcur,Array.getElem?_setIfInBounds_self_of_lt (by rw[zh9];omega)]
 rw[hcur];have hb:Bw w ((w.alloc (.map #[] 0)).alloc (.cells cur 171)):=((bQ _ w).alloc (nL _) _).alloc (by simp) _;have hc:∀o,((w.alloc (.map #[] 0)).alloc (.cells cur 171)).cell? ⟨w.heap.size+1,o,none⟩=cur[o]?:=fun o=>by
  simp
 refine⟨w.heap.size+1,Foot (w.heap.size+1) (fun _ => .slice none 0 0) w.heap.size,rfl,⟨Ok.init,_,fun _=>[],_,.map [],rfl,Sl.init,Mp.init,?_⟩,?_,hb⟩
 ·refine⟨(hc 0).trans g0,(hc 1).trans g1,fun k hk=>(hc (2+k)).trans (gs k hk),(hc 450).trans g3,fun o=>by simp[go_sem],fun _ _=>World.ownsRow_nil _ _ _ _,fun _ _ _ _ _ g e=>(by cases e),fun _ _ e=>(by cases e),fun _ _ e=>(by cases e),by omega,?_⟩
  exact (World.ownsMap_made w Tryz.prog 3 (plainElem Tryz.prog 3)).alloc _
 ·rintro g (rfl|rfl|⟨k,-,e⟩)
  ·omega
  ·exact nL _
  ·cases e
theorem zky (p:Nat) (F:Nat->Prop) (s:St) (w:Wo) (h:WAt w p F s) :
  Cl 246 #[.pointer (some ⟨p,0,none⟩)] w fun e w'=>e = .returned (.int .i64 (s.l.length:Int))/\w'=w:=by
 obtain⟨ho,sv,sl,bm,D,rfl,h1,h2,hr⟩:=h;have:=zkw p bm D w hr.c3 hr.map;rw[h2.size] at this;exact this
theorem nowW_any (p:Nat) (F:Nat->Prop) (s:St) (w:Wo) (h:WAt w p F s) :
  Cl 245 #[.pointer (some ⟨p,0,none⟩)] w fun e w'=>e = .returned (.int .i64 (s.now:Int))/\w'=w:=by
 obtain⟨ho,sv,sl,bm,D,rfl,h1,h2,hr⟩:=h;exact zm0 p s.now w hr.c0
theorem int_key:Maps.Keyed Tryz.prog 3 := Maps.int_keyed Tryz.underlying3
theorem wf_i64 {n:Int} (h1 : -9223372036854775808<=n) (h2:n < 9223372036854775808):(Lit.int .i64 n).wf=true:=WalkArith.wf_i64 ⟨h1,by omega⟩
theorem zm3 (w:Wo) (bm:Nat) (D:DataW Unit) (h:zh5 w bm D) (hs:Maps.size D<=4096) (n a:Nat) (hn:n < 4611686018427387904) (ha:a < 4611686018427387904) :
  ∃w',(Instr.mapUpdate 166 (.map (some bm)) (.int .i64 (n:Int)) (.int .i64 (a:Int))).run Tryz.prog w = .ok () w'/\w'.ownsMap Tryz.prog 3 (plainElem Tryz.prog 3) bm (Maps.size D+1) (D.put (.int .i64 (n:Int)) (.lit (.int .i64 (a:Int))))/\w.grownBy w' (some bm) :=
 h.update int_key Tryz.underlying166 (by unfold maxLen;omega) (Maps.keyOf_int_mk Tryz.underlying3 (wf_i64 (by omega) (by omega))) (plainElem_int Tryz.underlying3 (wf_i64 (by omega) (by omega)))
theorem put_any (p:Nat) (F:Nat->Prop) (s:St) (at_ id:Int) (hw : -9223372036854775808<=id/\id < 9223372036854775808) (hm:s.many < 1099511627776) (w:Wo) (H:Hid (WAt w p F s)) :
  Cl 169 #[.pointer (some ⟨p,0,none⟩),.int .i64 at_,.int .i64 id] w fun e w'=>e = .returned (.tuple #[.int .i64 (zkp s at_),.int .i64 (putE s at_)])/\Stp w p F (putS s at_ id) w':=by
 have CL:Hid _:=zky p F s w H.out;have c0:w.cell? ⟨p,0,none⟩=some (.int .i64 (s.now:Int)):=by
  obtain⟨ho,sv,sl,bm,D,rfl,h1,h2,hr⟩:=H.out;exact hr.c0
 by_cases g1:at_<=(s.now:Int)
 ·have e0:putE s at_=140:=by unfold putE;rw[if_pos g1]
  have e1:zkp s at_=0:=by unfold zkp;rw[e0];rfl
  have e2:putS s at_ id=s:=by unfold putS;rw[e0];rfl
  rw[e0,e1,e2];clear e0 e1 e2;go_enter Tryz.func169, Tryz.ntmps169;go_wp2;go_ret2;exact⟨rfl,H.out.stays (bQ _ _)⟩
 ·by_cases g2:(1099511627776:Int) < at_
  ·have e0:putE s at_=1:=by unfold putE;rw[if_neg g1,if_pos (show (maxT:Int) < at_ from g2)]
   have e1:zkp s at_=0:=by unfold zkp;rw[e0];rfl
   have e2:putS s at_ id=s:=by unfold putS;rw[e0];rfl
   rw[e0,e1,e2];clear e0 e1 e2;go_enter Tryz.func169, Tryz.ntmps169;go_wp2;go_ret2;exact⟨rfl,H.out.stays (bQ _ _)⟩
  ·by_cases g3:(4096:Int)<=(s.l.length:Int)
   ·have e0:putE s at_=2:=by unfold putE;rw[if_neg g1,if_neg (show ¬(maxT:Int) < at_ from g2),if_pos (show maxI<=s.l.length by unfold maxI;omega)]
    have e1:zkp s at_=0:=by unfold zkp;rw[e0];rfl
    have e2:putS s at_ id=s:=by unfold putS;rw[e0];rfl
    rw[e0,e1,e2];clear e0 e1 e2;go_enter Tryz.func169, Tryz.ntmps169;go_wp2_with (go_at_call 246;refine cM CL.out ?_;rintro e w' ⟨rfl,rfl⟩);go_ret2;exact⟨rfl,H.out.stays (bQ _ _)⟩
   ·have e0:putE s at_=0:=by unfold putE;rw[if_neg g1,if_neg (show ¬(maxT:Int) < at_ from g2),if_neg (show ¬maxI<=s.l.length by unfold maxI;omega)]
    have e1:zkp s at_=((s.many+1:Nat):Int):=by unfold zkp;rw[if_pos e0];rfl
    have e2:putS s at_ id=⟨s.now,s.many+1,ins ⟨at_.toNat,s.many+1,id⟩ s.l⟩:=by unfold putS;rw[if_pos e0]
    have okp:=H.out.ok.put at_ id hw;rw[e2] at okp;rw[e0,e1,e2];clear e0 e1 e2;obtain⟨a,rfl⟩:∃a:Nat,at_=(a:Int):=⟨at_.toNat,by omega⟩;rw[Int.toNat_natCast] at okp ⊢;have OKP:Hid _:=okp;clear okp;obtain⟨ho,sv,sl,bm,D,rfl,h1,h2,hr⟩:=H.out;have hnow:s.now<=1099511627776:=ho.now;have r1:=hr.setPut (s.many+1);have hsz:Maps.size D<=4096:=by rw[h2.size];omega
    obtain⟨w3,m1,m2,m3⟩:=zm3 ((w.setCell ⟨p,1,none⟩ (.int .i64 ((s.many+1:Nat):Int))).drew) bm D r1.1.map hsz (s.many+1) a (by omega) (by omega);have r2:=(Raw.later r1.1 (bQ _ _).drew).setMap m3 m2;have c3:=r1.1.c3;have d1:=r1.1.c1;have c1:=hr.c1;have f1:=hr.fr;have PL:Hid _:=zd8 p s.now (s.many+1) sv sl bm (D.put (.int .i64 ((s.many+1:Nat):Int)) (.lit (.int .i64 (a:Int)))) ⟨a,s.many+1,id⟩ hnow (by show a<=_;omega) w3 r2.1 (by have:=h1.length (k:=pl s.now a) (zbD hnow (by omega));show (sl (pl s.now a)).length<=_;omega);have d1':=r2.1.c1;have FIN:Hid (∀sv' w4,Raw w4 p s.now (s.many+1) sv' (upd sl (pl s.now a) (sl (pl s.now a)++[⟨a,s.many+1,id⟩])) bm (D.put (.int .i64 ((s.many+1:Nat):Int)) (.lit (.int .i64 (a:Int))))/\Nx w3 (Foot p sv bm) (Foot p sv' bm)/\Bf (Foot p sv bm) w3 w4->Stp w p (Foot p sv bm) ⟨s.now,s.many+1,ins ⟨a,s.many+1,id⟩ s.l⟩ w4):=by
     rintro sv' w4 ⟨k1,k2,k3⟩;have b3:Bf (Foot p sv bm) w w3:=(r1.2.later (bQ _ _).drew).trans (Nx.refl _ _) r2.2;refine⟨Foot p sv' bm,⟨OKP.out,sv',_,bm,_,rfl,h1.put ⟨a,s.many+1,id⟩,?_,k1⟩,(Nx.refl w _).trans k2 b3.size,b3.trans (Nx.refl _ _) k3⟩;refine (h2.put (t:=⟨a,s.many+1,id⟩) (hr.map.tidy int_key) (fun x hx => ?_)).perm (ins_perm _ _).symm;have:=(ho.num x hx).2;show x.n≠s.many+1
     omega
    have z1:IntKind.i64.wrap ((s.many:Int)+1)=((s.many+1:Nat):Int):=by rw[IntKind.wrap_i64];omega
    have hpl:p < w.heap.size:=hr.lt (.inl rfl);clear H hr h1 h2 ho r1 r2 m2 m3 OKP;obtain⟨M,hM⟩:∃M,s.many+1=M:=⟨_,rfl⟩;rw[hM] at m1 d1 c3 PL d1' FIN z1 ⊢;go_enter Tryz.func169, Tryz.ntmps169;go_wp2_with (go_at_call 246;refine cM CL.out ?_;rintro e w' ⟨rfl,rfl⟩);clear hM c1 f1;obtain⟨W,hW⟩:∃W,w'.setCell ⟨p,1,none⟩ (.int .i64 (M:Int))=W:=⟨_,rfl⟩;rw[hW] at m1 d1 c3 ⊢;clear hW CL c0;go_region_with (fail)
    all_goals
     go_wp2_with fail;refine cM PL.out ?_;rintro e w4 ⟨rfl,sv',hR⟩;have c4:=hR.1.c1;have FF:Hid _:=FIN.out sv' w4 hR;clear hR FIN d1';go_wp2;go_ret2;exact⟨rfl,FF.out⟩
def mv (l:List Tm) (j q:Nat):List Tm:=(l.eraseIdx j).take (q - 1)++l.drop (q - 1)
theorem zaH.tm {w:Wo} {g n cap:Nat} {l:List Tm} (h:zaH w (.slice (some ⟨g,0,none⟩) n cap) l):zqI w g l/\l.length=n/\n<=cap/\(∀o,w.frozen? ⟨g,o,none⟩=false)/\g < w.heap.size:=by
 rcases zdj h with ⟨h1,-⟩|⟨g',cap',h1,h2,h3⟩
 ·cases h1
 ·injection h1 with e1 e2 e3
  injection e1 with e1
  injection e1 with e4 e5
  subst e2;subst e3;subst e4;exact⟨h2,rfl,h3,fun o=>h.frozenAt o,(h.lt g rfl).2⟩
theorem wp_delete_run {P:Program} (w:Wo) {o:Oper} {a:Act} {K:Act->Wo->Prop} {Q:Exit->Act->Wo->Prop} (s x:Operand) (t tn:TypeId)
  (ho:o.op = .call { callee := .builtin .delete,args:=#[s,x],argTypes:=#[t,tn] }) (vs vx:Value) (hs:a.eval s=vs) (hx:a.eval x=vx)
  (v':Value) (w':Wo) (hr:(Builtin.delete_ #[t,tn] o.type #[vs,vx]).run P w = .ok v' w') (h:K (a.put o.dst v') w'):o.wp P a w K Q:=by
 unfold Oper.wp execOp;simp only[ho,resolve,invoke,builtin,Sem.run_bind,Sem.run_pure,Result.andThen_ok,List.map_toArray,List.map_cons,List.map_nil,hs,hx,hr];exact h
theorem zm4 (w:Wo) (bm:Nat) (D:DataW Unit) (h:zh5 w bm D) (n:Int) (h1 : -9223372036854775808<=n) (h2:n < 9223372036854775808) (ty:TypeId) :
  ∃w',(Builtin.delete_ #[166, 3] ty #[.map (some bm),.int .i64 n]).run Tryz.prog w = .ok (.tuple #[]) w'/\w'.ownsMap Tryz.prog 3 (plainElem Tryz.prog 3) bm (Maps.size D) (D.del (.int .i64 n))/\w.grownBy w' (some bm):=by
 obtain⟨w',r1,r2,r3⟩:=h.drop int_key Tryz.underlying166 (Maps.keyOf_int_mk Tryz.underlying3 (wf_i64 h1 h2)) ty;exact⟨w',r1,r2,r3.grown⟩
def zo5:Go.Shelf.Ren:=⟨fun x=>if x=6 then 83 else if x=14 then 158 else if x=15 then 159 else if x=20 then 229 else if x=21 then 230 else if x=22 then 231 else if x=23 then 232 else if x=24 then 233 else if x=25 then 234 else if x=26 then 235 else if x=27 then 236 else if x=28 then 237 else if x=29 then 238 else if x=46 then 297 else if x=47 then 298 else if x=48 then 299 else if x=49 then 300 else if x=50 then 301 else if x=57 then 345 else 0,fun x=>if x=0 then 0 else if x=3 then 3 else if x=4 then 4 else if x=5 then 5 else if x=9 then 9 else if x=20 then 20 else if x=22 then 167 else if x=24 then 179 else if x=25 then 180 else if x=39 then 124 else if x=45 then 299 else if x=46 then 300 else if x=50 then 304 else if x=53 then 192 else if x=55 then 80 else if x=66 then 355 else if x=70 then 359 else if x=76 then 391 else if x=77 then 254 else 0,fun n=>n⟩
theorem zkz:SlLaysF0.n6 Tryz.prog zo5 :=
 { mixed:=by kernel_rfl,f6:=⟨Tryz.f83.name,by kernel_rfl,by kernel_rfl⟩,f14:=⟨Tryz.f158.name,by kernel_rfl,by kernel_rfl⟩,f15:=by kernel_rfl,f20:=⟨Tryz.f229.name,by kernel_rfl,by kernel_rfl⟩,f21:=⟨Tryz.f230.name,by kernel_rfl,by kernel_rfl⟩,f22:=⟨Tryz.f231.name,by kernel_rfl,by kernel_rfl⟩,f23:=⟨Tryz.f232.name,by kernel_rfl,by kernel_rfl⟩,f24:=⟨Tryz.f233.name,by kernel_rfl,by kernel_rfl⟩,f25:=⟨Tryz.f234.name,by kernel_rfl,by kernel_rfl⟩,f26:=⟨Tryz.f235.name,by kernel_rfl,by kernel_rfl⟩,f27:=⟨Tryz.f236.name,by kernel_rfl,by kernel_rfl⟩,f28:=by kernel_rfl,f29:=by kernel_rfl,f46:=⟨Tryz.f297.name,by kernel_rfl,by kernel_rfl⟩,f47:=by kernel_rfl,f48:=by kernel_rfl,f49:=⟨Tryz.f300.name,by kernel_rfl,by kernel_rfl⟩,f50:=⟨Tryz.f301.name,by kernel_rfl,by kernel_rfl⟩,f57:=⟨Tryz.f345.name,by kernel_rfl,by kernel_rfl⟩,t0:=by kernel_rfl,a0:=fun _=>by kernel_rfl,z0:=fun _=>by kernel_rfl,v0:=fun _=>by kernel_rfl,t3:=by kernel_rfl,a3:=fun _=>by kernel_rfl,z3:=fun _=>by kernel_rfl,v3:=fun _=>by kernel_rfl,t4:=by kernel_rfl,a4:=fun _=>by kernel_rfl,z4:=fun _=>by kernel_rfl,v4:=fun _=>by kernel_rfl,t5:=by kernel_rfl,a5:=fun _=>by kernel_rfl,z5:=fun _=>by kernel_rfl,v5:=fun _=>by kernel_rfl,t9:=by kernel_rfl,a9:=fun _=>by kernel_rfl,z9:=fun _=>by kernel_rfl,v9:=fun _=>by kernel_rfl,t22:=by kernel_rfl,a22:=fun _=>by kernel_rfl,z22:=fun _=>by kernel_rfl,v22:=fun _=>by kernel_rfl,t25:=by kernel_rfl,a25:=fun _=>by kernel_rfl,z25:=fun _=>by kernel_rfl,v25:=fun _=>by kernel_rfl,t39:=by kernel_rfl,a39:=fun _=>by kernel_rfl,z39:=fun _=>by kernel_rfl,v39:=fun _=>by kernel_rfl,t45:=by kernel_rfl,a45:=fun _=>by kernel_rfl,z45:=fun _=>by kernel_rfl,v45:=fun _=>by kernel_rfl,t46:=by kernel_rfl,a46:=fun _=>by kernel_rfl,z46:=fun _=>by kernel_rfl,v46:=fun _=>by kernel_rfl,t50:=by kernel_rfl,a50:=fun _=>by kernel_rfl,z50:=fun _=>by kernel_rfl,v50:=fun _=>by kernel_rfl,t53:=by kernel_rfl,a53:=fun _=>by kernel_rfl,z53:=fun _=>by kernel_rfl,v53:=fun _=>by kernel_rfl,t55:=by kernel_rfl,a55:=fun _=>by kernel_rfl,z55:=fun _=>by kernel_rfl,v55:=fun _=>by kernel_rfl,t66:=by kernel_rfl,a66:=fun _=>by kernel_rfl,z66:=fun _=>by kernel_rfl,v66:=fun _=>by kernel_rfl,t70:=by kernel_rfl,a70:=fun _=>by kernel_rfl,z70:=fun _=>by kernel_rfl,v70:=fun _=>by kernel_rfl,t76:=by kernel_rfl,a76:=fun _=>by kernel_rfl,z76:=fun _=>by kernel_rfl,v76:=fun _=>by kernel_rfl,t77:=by kernel_rfl,a77:=fun _=>by kernel_rfl,z77:=fun _=>by kernel_rfl,v77:=fun _=>by kernel_rfl }
theorem swoT:Go.Sort.SWO (ltOf zkr):=by
 have h:∀x y,ltOf zkr x y=true↔lt x y:=fun x y=>by unfold ltOf;rw[decide_eq_true_eq];exact zh8 x y
 have h':∀x y,ltOf zkr x y=false↔¬lt x y:=fun x y=>by rw[<-h];simp
 refine⟨fun x=>(h' x x).2 (lt_irrefl x),fun x y z h1 h2=>(h x z).2 (lt_trans ((h x y).1 h1) ((h y z).1 h2)),fun x y z h1 h2 => ?_⟩;rw[h'] at *;unfold lt at *;omega
theorem zkA [Inhabited Tm] (blk off size:Nat) (w:Wo):CmpLays Tryz.prog 84 #[] tc 3 zkr blk off size w:=fun _ _ _ _ x y=>zh7 x y _
theorem zo6 (w:Wo):(isAgg 179).run Tryz.prog w = .ok true w:=by kernel_rfl
theorem zqT (w:Wo):(Go.sizeOf 179).run Tryz.prog w = .ok 3 w:=by kernel_rfl
theorem zo7 (t:Tm) (j:Nat) (hj:j < 3):∃u,(tc t)[j]?=some u/\(tc t)[j]! = u:=by
 match j,hj with
 | 0,_=>exact⟨_,rfl,rfl⟩
 | 1,_=>exact⟨_,rfl,rfl⟩
 | 2,_=>exact⟨_,rfl,rfl⟩
theorem zia:∀(l:List Tm) (j:Nat) (hj:j < l.length*3),(tcs l)[j]?=some ((tc l[j / 3])[j % 3]!)
 | [],j,hj=>absurd hj (by simp)
 | t::l,j,hj=>by
  rw[tcs];by_cases h:j < 3
  ·rw[List.getElem?_append_left (by simpa[tc] using h)]
   have e1:j / 3=0:=by omega
   have e2:j % 3=j:=by omega
   simp only[e1,e2,List.getElem_cons_zero];obtain⟨u,h1,h2⟩:=zo7 t j h;rw[h1,h2]
  ·rw[List.getElem?_append_right (by simp[tc];omega)]
   have e0:(tc t).length=3:=rfl;rw[e0,zia l (j - 3) (by rw[List.length_cons] at hj;omega)];have e1:j / 3=(j - 3) / 3+1:=by omega
   have e2:j % 3=(j - 3) % 3:=by omega
   simp only[e1,e2,List.getElem_cons_succ]
theorem zfW [Inhabited Tm] (l:List Tm):(Go.Sort.flatK tc 3 l.toArray).toList=tcs l:=by
 apply List.ext_getElem?;intro j;by_cases hj:j < l.length*3
 ·rw[zia l j hj,Array.getElem?_toList,Array.getElem?_eq_getElem (by rw[Go.Sort.size_flatK];simpa using hj),<-getElem!_pos,Go.Sort.get_flatK tc 3 l.toArray j (by simpa using hj)]
  have:j / 3 < l.toArray.size:=by simp;omega
  rw[getElem!_pos l.toArray (j / 3) this];simp
 ·rw[List.getElem?_eq_none (by rw[Array.length_toList,Go.Sort.size_flatK];simp;omega),List.getElem?_eq_none (by rw[zbQ];omega)]
theorem zm5 [Inhabited Tm] (g cap:Nat) (l:List Tm) (n:Nat) (hn:l.length=n) (h1:n<=4096) (w:Wo) (h:zaH w (.slice (some ⟨g,0,none⟩) n cap) l) :
  Cl 83 #[.slice (some ⟨g,0,none⟩) n cap,.func (.func 84) #[] #[]] w fun e w'=>e = .returned (.tuple #[])/\∃l':List Tm,l'.Perm l/\l'.Pairwise (fun x y=>¬lt y x)/\zaH w' (.slice (some ⟨g,0,none⟩) n cap) l'/\w.grownBy w' (some g):=by
 subst hn;rcases h.2 with ⟨h2,-⟩|⟨g',cap',cur,h2,-,hb,hnc,hcm,hcs,htk⟩
 ·cases h2
 ·cases h2
  have hF:Go.Sort.flatK tc 3 l.toArray=(tcs l).toArray:=by apply Array.ext';rw[zfW]
  have hH:Go.Sort.HoldsK tc 3 w g 0 l.toArray:=by
   intro j hj;rw[Go.Sort.size_flatK] at hj;have hj':j < l.length*3:=by simpa using hj
   refine⟨?_,by simp[World.frozen?,hb]⟩;rw[Nat.zero_add,h.cellAt j hj',zia l j hj',Go.Sort.get_flatK tc 3 l.toArray j hj];have:j / 3 < l.toArray.size:=by simp;omega
   rw[getElem!_pos l.toArray (j / 3) this];simp
  have eg:∀args w,(callFunc 84 args).run Tryz.prog w = .ok (.enter 84 args) w:=enters_of Tryz.func84 (by kernel_rfl) rfl;have hg:g < w.heap.size:=(Array.getElem?_eq_some_iff.1 hb).1;have hcon:=AnyQ.slices_SortFunc zkz 3 zo6 zqT tc (fun _=>rfl) (fun x v hv=>zdi [x] v (by simpa[tcs] using hv)) zkr swoT 84 #[] g 0 cap l.toArray w eg (zkA g 0 l.toArray.size w) hH hg (by simp;omega);have es:l.toArray.size=l.length:=by simp
  rw[es] at hcon
  change Cl 83 _ _ _ at hcon
  refine cM hcon ?_;rintro e w' ⟨rfl,d',m,os,⟨p1,p2,p3⟩,hs,rfl⟩;have d1:d'.size=l.length:=p1.trans es;refine⟨rfl,d'.toList,?_,?_,?_,?_⟩
  ·have e1:d'.extract 0 l.length=d':=by rw[<-d1];exact Array.extract_size
   have e2:l.toArray.extract 0 l.length=l.toArray:=by rw[<-es];exact Array.extract_size
   rw[e1,e2] at p3;exact p3
  ·rw[List.pairwise_iff_getElem]
   intro i j hi hj hij;have:=hs i j (Nat.zero_le _) hij (by rw[<-d1];simpa using hj);rw[getElem!_pos d' j (by simpa using hj),getElem!_pos d' i (by simpa using hi)] at this;rw[<-zh8]
   simpa[ltOf] using this
  ·have dl:d'.toList.length=l.length:=by simpa using d1
   have hF':Go.Sort.flatK tc 3 d'=(tcs d'.toList).toArray:=by
    apply Array.ext';have:=zfW d'.toList
    simpa using this
   refine⟨by rw[zbQ],.inr ⟨g,cap,Go.Sort.putCells id 0 (Go.Sort.flatK tc 3 d') cur,by rw[dl],Nat.zero_le _,?_,by rw[dl];omega,hcm,by simp[Go.Sort.putCells,hcs],?_⟩⟩
   ·unfold sortWorldK Go.Sort.putRowK
    rw[Go.Sort.heap_grow_old _ _ (by simpa[Go.Sort.putRow,Go.Sort.mapBlock,Go.Sort.ahead] using hg)];simp[Go.Sort.putRow,Go.Sort.mapBlock,Go.Sort.ahead,Array.getElem?_modify,hb,Go.Sort.onCells]
   ·rw[hF',dl]
    apply List.ext_getElem?;intro j;by_cases hj:j < l.length*3
    ·have hj2:j < (tcs d'.toList).length:=by rw[zbQ,dl];exact hj
     have hj3:j < cur.size:=by rw[hcs];omega
     rw[List.getElem?_take_of_lt hj,Array.getElem?_toList];simp[Go.Sort.putCells,hj2,hj3]
    ·rw[List.getElem?_take_eq_none (by omega),List.getElem?_eq_none (by rw[zbQ,dl];omega)]
  ·refine⟨rfl,rfl,rfl,by simp[sortWorldK,Go.Sort.putRowK,Go.Sort.putRow,Go.Sort.mapBlock,Go.Sort.ahead],fun k hk hne => ?_⟩
   unfold sortWorldK Go.Sort.putRowK;rw[Go.Sort.heap_grow_old _ _ (by simpa[Go.Sort.putRow,Go.Sort.mapBlock,Go.Sort.ahead] using hk)];have:g≠k:=fun e=>hne (by rw[e])
   simp[Go.Sort.putRow,Go.Sort.mapBlock,Go.Sort.ahead,Array.getElem?_modify,this]
theorem zkB (g cap:Nat) (l:List Tm) (n:Nat) (hn:l.length=n) (h1:n<=4096) (w:Wo) (h:zaH w (.slice (some ⟨g,0,none⟩) n cap) l) :
  Cl 83 #[.slice (some ⟨g,0,none⟩) n cap,.func (.func 84) #[] #[]] w fun e w'=>e = .returned (.tuple #[])/\∃l':List Tm,l'.Perm l/\l'.Pairwise (fun x y=>¬lt y x)/\zaH w' (.slice (some ⟨g,0,none⟩) n cap) l'/\w.grownBy w' (some g) :=
 @zm5 ⟨⟨0,0,0⟩⟩ g cap l n hn h1 w h
theorem zm6 (w:Wo) (fv:Value):Cl 229 #[.slice none 0 0,.int .i64 0,.int .i64 0,fv] w fun e w'=>e = .returned (.tuple #[])/\w'=w:=by
 go_enter Tryz.func229, Tryz.ntmps229;go_wp2;refine wp_loop_rounds 1 ?_;rw[rounds_succ];go_wp2;go_end0;exact⟨rfl,rfl⟩
theorem zm7 (w:Wo) (fv:Value):Cl 158 #[.slice none 0 0,.int .i64 0,.int .i64 0,.int .i64 0,fv] w fun e w'=>e = .returned (.tuple #[])/\w'=w:=by
 have C:=fun W=>zm6 W fv
 go_enter Tryz.func158, Tryz.ntmps158;go_wp2;refine wp_loop_rounds 1 ?_;rw[rounds_succ];go_wp2_with (go_at_call 229;refine (C _).mono ?_;rintro e w' ⟨rfl,rfl⟩);exact bodyPost_ret (results_none Tryz.results158 _ _ _) rfl ⟨rfl,rfl⟩
theorem zkC (w:Wo) (fv:Value):Cl 83 #[.slice none 0 0,fv] w fun e w'=>e = .returned (.tuple #[])/\w'=w:=by
 have C:=fun W=>zm7 W fv
 have L:∀W,Cl 159 #[.int .u64 0] W fun e w'=>e = .returned (.int .i64 0)/\w'=W:=fun W=>zh3 0 (by decide) W
 go_enter Tryz.func83, Tryz.ntmps83;go_wp2_with (first|(go_at_call 159;refine (L _).mono ?_;rintro e w' ⟨rfl,rfl⟩)|(go_at_call 158;refine (C _).mono ?_;rintro e w' ⟨rfl,rfl⟩));go_end0;exact⟨rfl,rfl⟩
theorem zib (l:List Tm) (h1:l.length<=4096) (w:Wo) (va:Option Addr) (vn vc:Nat) (h:zaH w (.slice va vn vc) l) :
  Cl 83 #[.slice va vn vc,.func (.func 84) #[] #[]] w fun e w'=>e = .returned (.tuple #[])/\∃l':List Tm,l'.Perm l/\l'.Pairwise (fun x y=>¬lt y x)/\zaH w' (.slice va vn vc) l'/\w.grownBy w' (Value.slice va vn vc).ownBlock:=by
 rcases zdj h with ⟨e,rfl⟩|⟨g,cap,e,-,-⟩
 ·rw[e] at h ⊢
  refine (zkC w _).mono ?_;rintro e w' ⟨rfl,rfl⟩;exact⟨rfl,[],List.Perm.refl _,List.Pairwise.nil,h,⟨rfl,rfl,rfl,nL _,fun _ _ _=>rfl⟩⟩
 ·rw[e] at h ⊢
  exact zkB g cap l l.length rfl h1 w h
theorem zkD (w:Wo) (ty:TypeId) (v u:Value) (l m:List Tm) (h:zaH w v l) (k:zaH w u m) (hl:l.length+m.length<=8192) :
  ∃va vn vc w',(Builtin.append_ #[167, 167] ty #[v,u]).run Tryz.prog w = .ok (.slice va vn vc) w'/\zaH w' (.slice va vn vc) (l++m)/\w.grownBy w' v.ownBlock/\((Value.slice va vn vc).ownBlock=v.ownBlock\/(Value.slice va vn vc).ownBlock=some w.heap.size):=by
 obtain⟨i0,hi,hz0,hz1,hz2⟩:=info_parts zo3;rcases k.2 with ⟨rfl,hm⟩|⟨g,cap,cur,rfl,-,hb,hc,-⟩
 ·obtain rfl:=List.length_eq_zero_iff.1 hm
  obtain⟨va,vn,vc,rfl⟩:=zbR h;refine⟨va,vn,vc,w,run_append_owned_none (P:=Tryz.prog) w 0 167 ty 179 i0 3 Tryz.underlying167 hi _ _ _ h,by rw[List.append_nil];exact h,⟨rfl,rfl,rfl,nL _,fun _ _ _=>rfl⟩,.inl rfl⟩
 ·obtain⟨v',w',r1,r2,r3,-,r5⟩:=run_append_own_at (P:=Tryz.prog) w 0 167 ty 179 i0 _ 3 24 Tryz.underlying167 hi hz0 hz1 hz2 rfl (by decide) v l.length (tcs l) h ⟨g,0,none⟩ m.length cap (tcs m) (zbQ m) (k.cells rfl) (zdi m) (by unfold maxLen;omega) (by omega) (Nat.zero_le _)
  have r2':zaH w' v' (l++m):=by
   unfold zaH;rw[ze1,List.length_append];exact r2
  obtain⟨va,vn,vc,rfl⟩:=zbR r2';exact⟨va,vn,vc,w',r1,r2',r3,r5⟩
def zeM (sv:Nat->Value) (m:Nat):Nat->Value:=fun j=>if j < m then .slice none 0 0 else sv j
theorem zic (sv:Nat->Value) (m:Nat):zjv (zeM sv m) m (.slice none 0 0)=zeM sv (m+1):=by
 funext j;unfold zjv zeM;by_cases h:j=m
 ·simp[h]
 ·by_cases h2:j < m
  ·have:j < m+1:=by omega
   simp[h,h2,this]
  ·have:¬j < m+1:=by omega
   simp[h,h2,this]
theorem zkE (sl:Nat->List Tm) (m:Nat):upd (cut sl m) m []=cut sl (m+1):=by
 funext j;unfold upd cut;by_cases h:j=m
 ·simp[h]
 ·by_cases h2:j < m
  ·have:j < m+1:=by omega
   simp[h,h2,this]
  ·have:¬j < m+1:=by omega
   simp[h,h2,this]
theorem zid (sv:Nat->Value):zeM sv 0=sv:=by funext j;simp[zeM]
theorem zkF (sl:Nat->List Tm):cut sl 0=sl:=by funext j;simp[cut]
structure Tk (w:Wo) (p now put:Nat) (sv:Nat->Value) (sl:Nat->List Tm) (bm:Nat) (D:DataW Unit) (m:Nat) (v:Value) (wr:Wo):Prop where
 raw:Raw wr p now put (zeM sv m) (cut sl m) bm D
 own:zaH wr v (zhe sl m)
 new:∀g,v.ownBlock=some g->w.heap.size<=g
 bf:Bf (Foot p sv bm) w wr
theorem Tk.foot {p:Nat} {sv:Nat->Value} {bm m g:Nat} (h:Foot p (zeM sv m) bm g):Foot p sv bm g:=by
 rcases h with h|h|⟨k,hk,e⟩
 ·exact .inl h
 ·exact .inr (.inl h)
 ·unfold zeM at e
  split at e
  ·cases e
  ·exact .inr (.inr ⟨k,hk,e⟩)
theorem Tk.start {w:Wo} {p now put:Nat} {sv:Nat->Value} {sl:Nat->List Tm} {bm:Nat} {D:DataW Unit} (R:Raw w p now put sv sl bm D) (q:Nat):Tk w p now put sv sl bm D 0 (.slice none 0 0) (w.drewN q) :=
 ⟨by rw[zid,zkF];exact R.later (below_drewN (bQ _ _) _),World.ownsRow_nil _ _ _ _,fun g e=>(by cases e),Bf.of (below_drewN (bQ _ _) _)⟩
theorem Tk.step {w wr:Wo} {p now put:Nat} {sv:Nat->Value} {sl:Nat->List Tm} {bm m:Nat} {D:DataW Unit} {v:Value} (h:Tk w p now put sv sl bm D m v wr) (hm:m < 448) (hlt:∀g,Foot p sv bm g->g < w.heap.size) (hl:(zhe sl m).length<=4096) (hl2:(sl m).length<=4096) :
  ∃va vn vc w',(Builtin.append_ #[167, 167] 167 #[v,sv m]).run Tryz.prog wr = .ok (.slice va vn vc) w'/\w'.cell? ⟨p,2+m,none⟩=some (sv m)/\w'.frozen? ⟨p,2+m,none⟩=false/\Tk w p now put sv sl bm D (m+1) (.slice va vn vc) (w'.setCell ⟨p,2+m,none⟩ (.slice none 0 0)):=by
 have e1:zeM sv m m=sv m:=by simp[zeM]
 have e2:cut sl m m=sl m:=by simp[cut]
 have k1:=h.raw.row m hm;rw[e1,e2] at k1;obtain⟨va,vn,vc,w',r1,r2,r3,r4⟩:=zkD wr 167 v (sv m) (zhe sl m) (sl m) h.own k1 (by omega);have notF:∀g,v.ownBlock=some g->¬Foot p (zeM sv m) bm g:=fun g e c=>by
  have h1:=h.new g e;have h2:=hlt g (Tk.foot c);omega
 have R2:=h.raw.grown r3 notF;have R3:=R2.setRow (w1:=w') hm (⟨rfl,rfl,rfl,nL _,fun _ _ _=>rfl⟩) (v := .slice none 0 0) (l:=[]) (World.ownsRow_nil _ _ _ _) (fun g e=>by cases e);rw[zic,zkE] at R3;have newb:∀g,(Value.slice va vn vc).ownBlock=some g->w.heap.size<=g:=fun g e=>by
  rcases r4 with c|c
  ·exact h.new g (by rw[<-c];exact e)
  ·rw[c] at e
   injection e with e
   have:=h.bf.size;omega
 refine⟨va,vn,vc,w',r1,?_,R2.fr _,R3.1,?_,newb,?_⟩
 ·rw[R2.cs m hm,e1]
 ·refine ownsRow_same r2 (fun g e => ?_)
  have hg:=newb g e;exact Below.heap_setCell w' ⟨p,2+m,none⟩ _ g (fun c=>by have:=hlt p (.inl rfl);simp only at c;omega)
 ·have b1:Bf (Foot p sv bm) w w':=by
   refine h.bf.trans (F':=fun g=>v.ownBlock=some g) (fun g e => .inr (h.new g e)) (Bf.grown r3 (fun g e => .inl e))
  refine b1.trans (F':=fun g=>g=p) (fun g e => .inl (.inl e)) ⟨rfl,rfl,rfl,by simp,fun g _ hg=>Below.heap_setCell w' ⟨p,2+m,none⟩ _ g hg⟩
theorem zkG (p now put tt:Nat) (sv:Nat->Value) (sl:Nat->List Tm) (bm:Nat) (D:DataW Unit) (h1:now<=1099511627776) (h2:tt<=1099511627776) (w:Wo) (R:Hid (Raw w p now put sv sl bm D)) (hl:Hid (∀m,m<=448->(zhe sl m).length<=4096)) :
  Cl 82 #[.pointer (some ⟨p,0,none⟩),.int .i64 (tt:Int)] w fun e w'=>∃va vn vc,e = .returned (.slice va vn vc)/\Tk w p now put sv sl bm D (pl now tt+1) (.slice va vn vc) w':=by
 have hpl:=zbD h1 h2;have hlv:=zdh h1 h2;have hmod:=Nat.mod_lt (pl now tt) (show 0 < 64 by decide);have hsum:64*lv now tt+pl now tt % 64=pl now tt:=by have:=zlT now tt;omega
 have CP:Hid _:=zck p now tt h1 h2 w R.out.c0;obtain⟨pt,hk⟩:∃k,pl now tt=k:=⟨_,rfl⟩;obtain⟨x,hx⟩:∃x,lv now tt=x:=⟨_,rfl⟩;obtain⟨y,hy⟩:∃y,pl now tt % 64=y:=⟨_,rfl⟩;rw[hy] at CP hmod hsum;rw[hx] at CP hlv hsum;rw[hk] at hpl hsum ⊢;clear hy hx hk;go_enter Tryz.func82, Tryz.ntmps82;go_wp2;go_step3;go_wp2_with (go_at_call 157;refine cM CP.out ?_;rintro e w1 ⟨rfl,⟨q,rfl⟩⟩);go_step3;go_wp2;have I0:Hid (Tk w p now put sv sl bm D 0 (.slice none 0 0) (w.drewN q)):=Tk.start R.out q;have FL:Hid (∀g,Foot p sv bm g->g < w.heap.size):=fun g hg=>R.out.lt hg
 have SL:Hid (∀m,m < 448->(zhe sl m).length<=4096/\(sl m).length<=4096):=fun m hm=>by
  refine⟨hl.out m (by omega),?_⟩;have:=hl.out (m+1) (by omega);rw[zhe,List.length_append] at this;omega
 obtain⟨W0,hW0⟩:∃W0,w.drewN q=W0:=⟨_,rfl⟩;rw[hW0] at I0 ⊢;clear hW0 CP R hl;go_loopw [7,16] (fun v i wr=>∃(a:Nat) (va:Option Addr) (vn vc:Nat),a<=x/\i = .int .i64 (a:Int)/\v = .slice va vn vc/\Hid (Tk w p now put sv sl bm D (64*a) (.slice va vn vc) wr)) (fun v i wr=>7 - (intOf i).toNat)
 case atStart=>exact⟨0,none,0,0,by omega,rfl,rfl,I0.out⟩
 case round =>
  obtain⟨a,va,vn,vc,ha,rfl,rfl,I⟩:=hrel;clear I0;have a7:(a:Int) < 7:=by omega
  go_wp2;go_loopw [7,19] (fun v j wr=>∃(b:Nat) (va:Option Addr) (vn vc:Nat),b<=64/\64*a+b<=pt/\j = .int .i64 (b:Int)/\v = .slice va vn vc/\Hid (Tk w p now put sv sl bm D (64*a+b) (.slice va vn vc) wr)) (fun v j wr=>64 - (intOf j).toNat)
  case atStart=>exact⟨0,va,vn,vc,by omega,by omega,rfl,rfl,I.out⟩
  case round =>
   obtain⟨b,va,vn,vc,hb,hab,rfl,rfl,I⟩:=hrel;by_cases hb64:b < 64
   ·have b64:(b:Int) < 64:=by omega
    have hm:64*a+b < 448:=by omega
    obtain⟨va2,vn2,vc2,w',r1,r2,r3,r4⟩:=I.out.step hm FL.out (SL.out _ hm).1 (SL.out _ hm).2;have ck:=I.out.raw.cs _ hm;have e1:2+(64*a+b)=2+a*64+b:=by omega
    have e2:zeM sv (64*a+b) (64*a+b)=sv (64*a+b):=by simp[zeM]
    rw[e1,e2] at ck;rw[e1] at r2 r3 r4;have J:Hid _:=r4;clear r4 e2;obtain⟨u,hu⟩:∃u,sv (64*a+b)=u:=⟨_,rfl⟩;rw[hu] at ck r1 r2;clear hu;by_cases hax:a=x
    ·have x1:((a:Int) == (x:Int))=true:=by rw[beq_iff_eq];omega
     by_cases hby:b=y
     ·have y1:((b:Int) == (y:Int))=true:=by rw[beq_iff_eq];omega
      have HP:Hid (64*a+b+1=pt+1):=by show _=_;omega
      clear hax hby
      go_wp2_with (at_builtin;refine Go.Lib.wpList_append_run _ rfl _ _ _ _ rfl _ _ rfl rfl _ _ r1 ?_)
      try rw[Exit.noGoto_ret]
      go_ret;refine⟨va2,vn2,vc2,rfl,?_⟩;rw[<-HP.out];exact J.out
     ·have y1:((b:Int) == (y:Int))=false:=by rw[beq_eq_false_iff_ne];omega
      have HP:Hid (64*a+b+1<=pt):=by show _<=_;omega
      clear hax hby
      go_wp2_with (at_builtin;refine Go.Lib.wpList_append_run _ rfl _ _ _ _ rfl _ _ rfl rfl _ _ r1 ?_);go_roundw
      case rel=>exact⟨b+1,va2,vn2,vc2,by omega,HP.out,by go_num,rfl,J.out⟩
      case measure=>simp[intOf];omega
    ·have x1:((a:Int) == (x:Int))=false:=by rw[beq_eq_false_iff_ne];omega
     have HP:Hid (64*a+b+1<=pt):=by show _<=_;omega
     clear hax;go_wp2_with (at_builtin;refine Go.Lib.wpList_append_run _ rfl _ _ _ _ rfl _ _ rfl rfl _ _ r1 ?_);go_roundw
     case rel=>exact⟨b+1,va2,vn2,vc2,by omega,HP.out,by go_num,rfl,J.out⟩
     case measure=>simp[intOf];omega
   ·obtain rfl:b=64:=by omega
    go_wp2;go_roundw
    case rel=>exact⟨a+1,va,vn,vc,by omega,by go_num,rfl,I.out⟩
    case measure=>simp[intOf];omega
def ic (l:List Int):List Value:=l.map (Value.int .i64)
abbrev OwnsI (w:Wo) (v:Value) (l:List Int):Prop:=w.ownsRow 0 3 1 v l.length (ic l)
theorem zqU:(Tryz.prog.info? 3).map (fun i=>(i.zero,i.size,i.bytes))=some (some (.int .i64 0),1,8):=by kernel_rfl
theorem ze2 {w:Wo} {v:Value} {l:List Int} (h:OwnsI w v l):∃a n c,v = .slice a n c:=by
 rcases h.2 with ⟨rfl,-⟩|⟨g,cap,cur,rfl,-⟩
 ·exact⟨_,_,_,rfl⟩
 ·exact⟨_,_,_,rfl⟩
theorem zm8 (w:Wo) (ty:TypeId) (v:Value) (l:List Int) (h:OwnsI w v l) (hl:l.length<=8192) (x:Int) (b:Nat) (c0:w.cell? ⟨b,0,none⟩=some (.int .i64 x)) :
  ∃va vn vc w',(Builtin.append_ #[45, 45] ty #[v,.slice (some ⟨b,0,none⟩) 1 1]).run Tryz.prog w = .ok (.slice va vn vc) w'/\OwnsI w' (.slice va vn vc) (l++[x])/\w.grownBy w' v.ownBlock/\((Value.slice va vn vc).ownBlock=v.ownBlock\/(Value.slice va vn vc).ownBlock=some w.heap.size):=by
 obtain⟨i0,hi,hz0,hz1,hz2⟩:=info_parts zqU;obtain⟨v',w',r1,r2,r3,-,r5⟩:=run_append_own_at (P:=Tryz.prog) w 0 45 ty 3 i0 _ 1 8 Tryz.underlying45 hi hz0 hz1 hz2 rfl (by decide) v l.length (ic l) h ⟨b,0,none⟩ 1 1 [.int .i64 x] rfl (fun j u hu=>by
   have q:Addr.add ⟨b,0,none⟩ j=⟨b,j,none⟩:=by simp[Addr.add];intro h;exact h.symm
   rw[q]
   match j,hu with
   | 0,hu=>simp at hu;subst hu;exact c0
   | j+1,hu=>simp at hu) (fun u hu=>by simp at hu;subst hu;rfl) (by unfold maxLen;omega) (by omega) (Nat.zero_le _)
 have r2':OwnsI w' v' (l++[x]):=by
  unfold OwnsI ic;rw[List.map_append,List.length_append];exact r2
 obtain⟨va,vn,vc,rfl⟩:=ze2 r2';exact⟨va,vn,vc,w',r1,r2',r3,r5⟩
def Ad (w:Wo) (p:Nat) (F:Nat->Prop) (s:St) (sl:Nat->List Tm) (bm tt:Nat) (r:List Tm) (v:Value) (k:Nat) (vi:Value) (wr:Wo):Prop :=
 ∃sv D,Raw wr p tt s.many sv (plc tt (cut sl (pl s.now tt+1)) (r.take k)) bm D/\Mp D (dl tt (r.take k) s.l)/\zaH wr v r/\OwnsI wr vi ((Wh.due tt (r.take k)).map Tm.i)
  /\ (∀g,v.ownBlock=some g->¬Foot p sv bm g/\vi.ownBlock≠some g)/\(∀g,vi.ownBlock=some g->¬Foot p sv bm g/\w.heap.size<=g)/\Nx w F (Foot p sv bm)/\Bf F w wr
theorem Ad.later {w:Wo} {p:Nat} {F:Nat->Prop} {s:St} {sl:Nat->List Tm} {bm tt:Nat} {r:List Tm} {v:Value} {k:Nat} {vi:Value} {wr w':Wo} (h:Ad w p F s sl bm tt r v k vi wr) (hb:Bw wr w'):Ad w p F s sl bm tt r v k vi w':=by
 obtain⟨sv,D,h1,h2,h3,h4,h5,h6,h7,h8⟩:=h;exact⟨sv,D,h1.later hb,h2,ownsRow_same h3 (fun g e=>hb.block g (h3.lt g e).2),ownsRow_same h4 (fun g e=>hb.block g (h4.lt g e).2),h5,h6,h7,h8.later hb⟩
theorem Ad.late {w:Wo} {p:Nat} {F:Nat->Prop} {s:St} {sl:Nat->List Tm} {bm tt:Nat} {r:List Tm} {v:Value} {k:Nat} {vi:Value} {wr:Wo} (h:Ad w p F s sl bm tt r v k vi wr) (hk:k < r.length) (ht:¬r[k].a<=tt) :
  ∃sv D,Raw wr p tt s.many sv (plc tt (cut sl (pl s.now tt+1)) (r.take k)) bm D/\∀sv' w',Raw w' p tt s.many sv' (upd (plc tt (cut sl (pl s.now tt+1)) (r.take k)) (pl tt r[k].a) (plc tt (cut sl (pl s.now tt+1)) (r.take k) (pl tt r[k].a)++[r[k]])) bm D->Nx wr (Foot p sv bm) (Foot p sv' bm)->Bf (Foot p sv bm) wr w'->Ad w p F s sl bm tt r v (k+1) vi w':=by
 obtain⟨sv,D,h1,h2,h3,h4,h5,h6,h7,h8⟩:=h;refine⟨sv,D,h1,fun sv' w' k1 k2 k3 => ?_⟩;have e:r.take (k+1)=r.take k++[r[k]]:=List.take_succ_eq_append_getElem hk;have ed:Wh.due tt (r.take k++[r[k]])=Wh.due tt (r.take k):=by
  unfold Wh.due;rw[List.filter_append,List.filter_cons_of_neg (by simpa using by omega),List.filter_nil,List.append_nil]
 have kf:∀g,g < wr.heap.size->¬Foot p sv bm g->¬Foot p sv' bm g:=fun g hg hn c=>by
  rcases k2 g c with c|c
  ·exact hn c
  ·omega
 refine⟨sv',D,?_,?_,?_,?_,fun g e=>⟨kf g (h3.lt g e).2 (h5 g e).1,(h5 g e).2⟩,fun g e=>⟨kf g (h4.lt g e).2 (h6 g e).1,(h6 g e).2⟩,h7.trans k2 h8.size,h8.trans h7 k3⟩
 ·rw[e,zkq _ _ ht]
  exact k1
 ·rw[e,zmS _ _ ht]
  exact h2
 ·exact ownsRow_same h3 (fun g e=>k3.block g (h3.lt g e).2 (h5 g e).1)
 ·rw[e,ed]
  exact ownsRow_same h4 (fun g e=>k3.block g (h4.lt g e).2 (h6 g e).1)
theorem Ad.due {w:Wo} {p:Nat} {F:Nat->Prop} {s:St} {sl:Nat->List Tm} {bm tt:Nat} {r:List Tm} {v:Value} {k:Nat} {vi:Value} {wr:Wo} (h:Ad w p F s sl bm tt r v k vi wr) (hm:s.many < 1099511627776) (ho:Ok s) (hr:r=rch s tt) (hk:k < r.length) (ht:r[k].a<=tt) :
  ∃w1,wr.cell? ⟨p,450,none⟩=some (.map (some bm))/\(Builtin.delete_ #[166, 3] 0 #[.map (some bm),.int .i64 (r[k].n:Int)]).run Tryz.prog wr = .ok (.tuple #[]) w1/\wr.grownBy w1 (some bm)/\p≠bm
   /\ ∀w2,Bw w1 w2->∀b,w1.heap.size<=b->w2.cell? ⟨b,0,none⟩=some (.int .i64 r[k].i)->∃va vn vc w',(Builtin.append_ #[45, 45] 45 #[vi,.slice (some ⟨b,0,none⟩) 1 1]).run Tryz.prog w2 = .ok (.slice va vn vc) w'/\Ad w p F s sl bm tt r v (k+1) (.slice va vn vc) w':=by
 obtain⟨sv,D,h1,h2,h3,h4,h5,h6,h7,h8⟩:=h;have hmem:r[k]∈s.l:=by
  have:r[k]∈rch s tt:=by
   have:=List.getElem_mem hk;rw[<-hr];exact this
  exact (List.mem_filter.1 this).1
 have hnum:=ho.num _ hmem;have hapr:r.Pairwise fun x y=>x.n≠y.n:=by
  rw[hr];exact ho.apart.filter _
 have hin:r[k]∈dl tt (r.take k) s.l:=by
  refine List.mem_filter.2 ⟨hmem,?_⟩;rw[Bool.not_eq_true',List.any_eq_false];intro u hu;obtain⟨i,hi,rfl⟩:=List.getElem_of_mem hu;rw[List.length_take] at hi;rw[List.getElem_take];have:=(List.pairwise_iff_getElem.1 hapr) i k (by omega) hk (by omega);simp[this]
 obtain⟨w1,m1,m2,m3⟩:=zm4 wr bm D h1.map (r[k].n:Int) (by omega) (by omega) 0;have R1:=h1.setMap m3 m2;refine⟨w1,h1.c3,m1,m3,Ne.symm h1.pm,fun w2 hb b hbl c => ?_⟩;have R2:=R1.1.later hb;have hvm:∀g,v.ownBlock=some g->some g≠some bm:=fun g e c=>(h5 g e).1 (.inr (.inl (by injection c)))
 have him:∀g,vi.ownBlock=some g->some g≠some bm:=fun g e c=>(h6 g e).1 (.inr (.inl (by injection c)))
 have o3:zaH w2 v r:=ownsRow_same h3 (fun g e=>(hb.block g (Nat.lt_of_lt_of_le (h3.lt g e).2 m3.size)).trans (m3.block g (h3.lt g e).2 (hvm g e)));have o4:OwnsI w2 vi ((Wh.due tt (r.take k)).map Tm.i):=ownsRow_same h4 (fun g e=>(hb.block g (Nat.lt_of_lt_of_le (h4.lt g e).2 m3.size)).trans (m3.block g (h4.lt g e).2 (him g e)));have hlen:((Wh.due tt (r.take k)).map Tm.i).length<=4096:=by
  rw[List.length_map];refine Nat.le_trans (List.length_filter_le ..) (Nat.le_trans (List.length_take_le _ _) ?_);have h9:r.length<=s.l.length:=by rw[hr];exact List.length_filter_le ..
  have:s.l.length<=4096:=ho.long;have:=hk;omega
 obtain⟨va,vn,vc,w',r1,r2,r3,r4⟩:=zm8 w2 45 vi _ o4 (by omega) r[k].i b c;have e:r.take (k+1)=r.take k++[r[k]]:=List.take_succ_eq_append_getElem hk;have ed:Wh.due tt (r.take k++[r[k]])=Wh.due tt (r.take k)++[r[k]]:=by
  unfold Wh.due;rw[List.filter_append,List.filter_cons_of_pos (by simpa using by omega),List.filter_nil]
 have hsz:wr.heap.size<=w2.heap.size:=Nat.le_trans m3.size hb.size;have hloc:∀g,(Value.slice va vn vc).ownBlock=some g->vi.ownBlock=some g\/w2.heap.size<=g:=fun g e=>by
  rcases r4 with c|c
  ·exact .inl (by rw[<-c];exact e)
  ·rw[c] at e
   injection e with e
   exact .inr (by omega)
 refine⟨va,vn,vc,w',r1,sv,D.del (.int .i64 (r[k].n:Int)),?_,?_,?_,?_,?_,?_,h7,?_⟩
 ·rw[e,zmQ _ _ ht]
  exact R2.grown r3 (fun g e=>(h6 g e).1)
 ·rw[e,zo0 _ _ ht]
  exact h2.del (h1.map.tidy int_key) (ho.apart.filter _) hin
 ·exact ownsRow_same o3 (fun g e=>r3.block g (o3.lt g e).2 (fun c=>(h5 g e).2 c.symm))
 ·rw[e,ed,List.map_append]
  exact r2
 ·intro g e
  refine⟨(h5 g e).1,fun c => ?_⟩;rcases hloc g c with h|h
  ·exact (h5 g e).2 h
  ·have:=(h3.lt g e).2
   omega
 ·intro g e
  rcases hloc g e with h|h
  ·exact h6 g h
  ·refine⟨fun c => ?_,?_⟩
   ·have:=h1.lt c
    omega
   ·have:=h8.size
    omega
 ·have b1:Bf F w w1:=h8.trans h7 R1.2
  have b2:Bf F w w2:=b1.later hb;exact b2.trans (F':=fun g=>vi.ownBlock=some g) (fun g e => .inr (h6 g e).2) (Bf.grown r3 (fun g e => .inl e))
end Go.Proofs.YtjcppbhgjchjaaaGreatDoor.Whl
