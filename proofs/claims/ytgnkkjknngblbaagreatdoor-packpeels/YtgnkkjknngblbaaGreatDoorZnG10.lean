/- The document's Small: a number modulo p. -/
import Derived.Test.YtgnkkjknngblbaaGreatDoorZnG09
import Derived.Deep.RegionHeld3
import Derived.Deep.DrawnRows
import Derived.Deep.DeepCutAuto
namespace Go.Proofs.YtgnkkjknngblbaaGreatDoor.Crv
open Go.RowKit Go.Proofs.Fd
set_option maxRecDepth 20000
attribute [local go_sem ↓] Go.wp_at_zero Go.wp_at_succ
theorem absW {Pp:World→Prop} {W:World} (F:World→Prop) (hF:F W) (h:∀w3,F w3→Pp w3):Pp W:=h W hF
def mid (d:Nat→Int):Prop:=∀j,j < 10 → -1125899906842624≤d j∧d j≤1125899906842624
theorem mid_big {d:Nat→Int} (h:mid d):∀j,j < 10 → -1152921504606846976≤d j∧d j≤1152921504606846976:=fun j hj=>by
 have:=h j hj;omega
theorem fo_mid (d:Nat→Int) (h0:0≤vN 10 d) (h:vN 10 d < 2 ^ 270):mid (fo d)∧0≤ev d 9∧ev d 9≤137438953472:=by
 have h2:=ev_top d
 have h9:0≤ev d 9∧ev d 9≤137438953472:=by omega
 refine⟨fun j hj => ?_,h9⟩
 have hl:=ev_low d
 unfold fo
 split
 ·have:=hl 0 (by omega);omega
 ·split
  ·omega
  ·have:=hl j (by omega);omega
def Sm (V:Int) (k:Nat) (v:Int):Prop:=0≤v∧v % (p:Int)=V % (p:Int)∧v < 2 ^ 270∧(1≤k→v < 57896044618658097711785492504343953926634992332820282019728792003956565868544)∧(2≤k→v < 57896044618658097711785492504343953926634992332820282019728792003956564819968)
theorem Sm_next {V v:Int} {k:Nat} (h:Sm V k v):Sm V (k+1) (v - v / 57896044618658097711785492504343953926634992332820282019728792003956564819968*57896044618658097711785492504343953926634992332820282019728792003956564819949):=by
 obtain⟨h0,h1,h2,h3,h4⟩:=h
 have f:=fold_step v h0
 have g:=fold_less1 v h0 h2
 refine⟨f.1,f.2.trans h1,by omega,fun _=>g,fun hk => ?_⟩
 by_cases e:k=1
 ·exact fold_less2 v h0 (h3 (by omega))
 ·exact fold_less3 v h0 (h4 (by omega))
theorem pd_bd (j:Nat):0≤pd j∧pd j < 67108864:=by
 unfold pd;split
 ·omega
 ·split <;> omega
def lp (d:Nat→Int) (k j:Nat):Int:=if j < k then d j - pd j else d j
theorem lp_val (d:Nat→Int):vN 10 (lp d 10)=vN 10 d - (p:Int):=by
 have e:=pd_val
 rw[←e,vN10,vN10,vN10]
 have f0:lp d 10 0=d 0 - pd 0:=rfl
 have f1:lp d 10 1=d 1 - pd 1:=rfl
 have f2:lp d 10 2=d 2 - pd 2:=rfl
 have f3:lp d 10 3=d 3 - pd 3:=rfl
 have f4:lp d 10 4=d 4 - pd 4:=rfl
 have f5:lp d 10 5=d 5 - pd 5:=rfl
 have f6:lp d 10 6=d 6 - pd 6:=rfl
 have f7:lp d 10 7=d 7 - pd 7:=rfl
 have f8:lp d 10 8=d 8 - pd 8:=rfl
 have f9:lp d 10 9=d 9 - pd 9:=rfl
 rw[f0,f1,f2,f3,f4,f5,f6,f7,f8,f9]
 omega
theorem ev_can (d:Nat→Int) (h0:0≤vN 10 d) (h:vN 10 d < 57896044618658097711785492504343953926634992332820282019728792003956564819968):can (ev d)∧ev d 9 < 2097152:=by
 have h2:=ev_top d
 refine⟨fun j hj => ?_,by omega⟩
 by_cases e:j=9
 ·subst e;omega
 ·exact ev_low d j (by omega)
set_option maxRecDepth 100000 in
set_option maxHeartbeats 4000000 in
theorem Small_any (d:Nat→Int) (hd:Hid (mid d)) (h0:Hid (0≤vN 10 d∧vN 10 d < 2 ^ 270)) (w:World) :
  Calls Tryz.prog 153 #[.agg #[.int .i64 (d 0),.int .i64 (d 1),.int .i64 (d 2),.int .i64 (d 3),.int .i64 (d 4),.int .i64 (d 5),.int .i64 (d 6),.int .i64 (d 7),.int .i64 (d 8),.int .i64 (d 9)]] w fun e w'=>∃c:Nat→Int,e = .returned (.agg #[.int .i64 (c 0),.int .i64 (c 1),.int .i64 (c 2),.int .i64 (c 3),.int .i64 (c 4),.int .i64 (c 5),.int .i64 (c 6),.int .i64 (c 7),.int .i64 (c 8),.int .i64 (c 9)])∧(can c∧vN 10 c=vN 10 d % (p:Int))∧Below w.heap.size w w':=by
 go_enter Tryz.func153, Tryz.ntmps153
 go_wp2
 go_loopw [3] (fun i wr=>∃(k:Nat) (f:Nat→Int),k≤3∧i = .int .i64 k∧Hid (RowAt wr w.heap.size 10 f∧RowAt wr (w.heap.size+1) 10 (fun _=>0)∧mid f∧Sm (vN 10 d) k (vN 10 f)∧Below w.heap.size w wr)) (fun i _=>3 - (intOf i).toNat)
 case atStart =>
  refine⟨0,d,Nat.zero_le _,rfl,⟨?_,?_⟩,⟨?_,?_⟩,hd.out,⟨h0.out.1,rfl,h0.out.2,fun h=>by omega,fun h=>by omega⟩,?_⟩
  ·intro o;simp[go_sem]
  ·intro j hj
   have:j=0∨j=1∨j=2∨j=3∨j=4∨j=5∨j=6∨j=7∨j=8∨j=9:=by omega
   rcases this with rfl|rfl|rfl|rfl|rfl|rfl|rfl|rfl|rfl|rfl <;> simp[go_sem]
  ·intro o;simp[go_sem]
  ·intro j hj
   have:j=0∨j=1∨j=2∨j=3∨j=4∨j=5∨j=6∨j=7∨j=8∨j=9:=by omega
   rcases this with rfl|rfl|rfl|rfl|rfl|rfl|rfl|rfl|rfl|rfl <;> simp[go_sem]
  ·exact ((Below.refl _ _).alloc (Nat.le_refl _) _).alloc (by simp) _
 case round =>
  obtain⟨k,f,hk,rfl,I⟩:=hrel
  by_cases hlt:k < 3
  ·have c0:=I.out.1.2 0 (by omega);have c1:=I.out.1.2 1 (by omega);have c2:=I.out.1.2 2 (by omega);have c3:=I.out.1.2 3 (by omega);have c4:=I.out.1.2 4 (by omega);have c5:=I.out.1.2 5 (by omega);have c6:=I.out.1.2 6 (by omega);have c7:=I.out.1.2 7 (by omega);have c8:=I.out.1.2 8 (by omega);have c9:=I.out.1.2 9 (by omega)
   have HC:Hid (0≤ev f 9∧ev f 9≤137438953472∧mid (fo f)):=by have:=fo_mid f I.out.2.2.2.1.1 I.out.2.2.2.1.2.2.1;exact⟨this.2.1,this.2.2,this.1⟩
   have HL:Hid (0≤ev f 0∧ev f 0 < 67108864):=ev_low f 0 (by omega)
   go_wp2_with fail
   refine Calls.mono (even_any f (mid_big I.out.2.2.1) _) ?_
   rintro e w1 ⟨rfl,hb1⟩
   have J:Hid (RowAt w1 w.heap.size 10 f∧RowAt w1 (w.heap.size+1) 10 (fun _=>0)∧Below w.heap.size w w1):=⟨I.out.1.later (by omega) hb1,I.out.2.1.later (by omega) hb1,chain I.out.2.2.2.2 hb1⟩
   clear hb1 c0 c1 c2 c3 c4 c5 c6 c7 c8 c9
   have c0:=J.out.1.2 0 (by omega);have c1:=J.out.1.2 1 (by omega);have c2:=J.out.1.2 2 (by omega);have c3:=J.out.1.2 3 (by omega);have c4:=J.out.1.2 4 (by omega);have c5:=J.out.1.2 5 (by omega);have c6:=J.out.1.2 6 (by omega);have c7:=J.out.1.2 7 (by omega);have c8:=J.out.1.2 8 (by omega);have c9:=J.out.1.2 9 (by omega)
   have cf:=J.out.1.1
   obtain⟨X,eX⟩:∃X,ev f 9=X:=⟨_,rfl⟩
   obtain⟨Z,eZ⟩:∃Z,ev f 0=Z:=⟨_,rfl⟩
   have q1:Int.tdiv X 2097152=X / 2097152:=by rw[←eX];exact Int.tdiv_eq_ediv_of_nonneg HC.out.1
   have bx:0≤X:=by rw[←eX];exact HC.out.1
   have bx2:X≤137438953472:=by rw[←eX];exact HC.out.2.1
   have bz:0≤Z:=by rw[←eZ];exact HL.out.1
   have bz2:Z < 67108864:=by rw[←eZ];exact HL.out.2
   rw[eX,eZ]
   have EX:Hid (ev f 9=X∧ev f 0=Z):=⟨eX,eZ⟩
   clear eX eZ
   go_wp2
   go_roundw
   case rel =>
    rw[←EX.out.1,←EX.out.2]
    refine⟨k+1,fo f,by omega,by go_num,RowAt.congr (RowAt.set (RowAt.set (RowAt.whole J.out.1 (ev f)) 9 (by omega) _) 0 (by omega) _) (fun j hj=>rfl),RowAt.other (RowAt.other (RowAt.put J.out.2.1 (by omega) (ev f)) (by simp) _) (by simp) _,HC.out.2.2,by rw[fo_val];exact Sm_next I.out.2.2.2.1,((below_put10 J.out.2.2 (Nat.le_refl _) (ev f)).setCell (by simp) _).setCell (by simp) _⟩
   case measure=>simp[intOf];omega
  ·have hk3:k=3:=by omega
   subst hk3
   have c0:=I.out.1.2 0 (by omega);have c1:=I.out.1.2 1 (by omega);have c2:=I.out.1.2 2 (by omega);have c3:=I.out.1.2 3 (by omega);have c4:=I.out.1.2 4 (by omega);have c5:=I.out.1.2 5 (by omega);have c6:=I.out.1.2 6 (by omega);have c7:=I.out.1.2 7 (by omega);have c8:=I.out.1.2 8 (by omega);have c9:=I.out.1.2 9 (by omega)
   have G0:Hid ((can (ev f)∧ev f 9 < 2097152)∧vN 10 (ev f)=vN 10 f):=⟨ev_can f I.out.2.2.2.1.1 (I.out.2.2.2.1.2.2.2.2 (by omega)),ev_val f⟩
   go_wp2_with fail
   refine Calls.mono (even_any f (mid_big I.out.2.2.1) _) ?_
   rintro e w1 ⟨rfl,hb1⟩
   have J:Hid (RowAt w1 w.heap.size 10 f∧RowAt w1 (w.heap.size+1) 10 (fun _=>0)∧Below w.heap.size w w1):=⟨I.out.1.later (by omega) hb1,I.out.2.1.later (by omega) hb1,chain I.out.2.2.2.2 hb1⟩
   clear hb1 c0 c1 c2 c3 c4 c5 c6 c7 c8 c9
   have c0:=J.out.1.2 0 (by omega);have c1:=J.out.1.2 1 (by omega);have c2:=J.out.1.2 2 (by omega);have c3:=J.out.1.2 3 (by omega);have c4:=J.out.1.2 4 (by omega);have c5:=J.out.1.2 5 (by omega);have c6:=J.out.1.2 6 (by omega);have c7:=J.out.1.2 7 (by omega);have c8:=J.out.1.2 8 (by omega);have c9:=J.out.1.2 9 (by omega)
   have cf:=J.out.1.1
   go_wp2
   refine absW (fun w3=>RowAt w3 w.heap.size 10 (ev f)∧RowAt w3 (w.heap.size+1) 10 (fun _=>0)∧Below w.heap.size w w3) ⟨RowAt.whole J.out.1 (ev f),RowAt.put J.out.2.1 (by omega) (ev f),below_put10 J.out.2.2 (Nat.le_refl _) (ev f)⟩ ?_
   intro w3 hw3
   have K:Hid (RowAt w3 w.heap.size 10 (ev f)∧RowAt w3 (w.heap.size+1) 10 (fun _=>0)∧Below w.heap.size w w3):=hw3
   clear hw3 J c0 c1 c2 c3 c4 c5 c6 c7 c8 c9 cf
   obtain⟨g,hg⟩:∃g,ev f=g:=⟨_,rfl⟩
   rw[hg] at K G0
   try rw[hg]
   have SV:Hid (Sm (vN 10 d) 3 (vN 10 g)):=by show Sm _ _ _;rw[G0.out.2];exact I.out.2.2.2.1
   have CG:Hid (can g):=G0.out.1.1
   clear hg I G0
   by_cases hlt:vN 10 g < (p:Int)
   ·have fin:Hid (can g∧vN 10 g=vN 10 d % (p:Int)):=⟨CG.out,by rw[←SV.out.2.1,Int.emod_eq_of_lt SV.out.1 hlt]⟩
    have R1:Hid (∀w,Calls Tryz.prog 173 #[.agg #[.int .i64 (g 0),.int .i64 (g 1),.int .i64 (g 2),.int .i64 (g 3),.int .i64 (g 4),.int .i64 (g 5),.int .i64 (g 6),.int .i64 (g 7),.int .i64 (g 8),.int .i64 (g 9)],.agg #[.int .i64 (pd 0),.int .i64 (pd 1),.int .i64 (pd 2),.int .i64 (pd 3),.int .i64 (pd 4),.int .i64 (pd 5),.int .i64 (pd 6),.int .i64 (pd 7),.int .i64 (pd 8),.int .i64 (pd 9)]] w fun e w'=>e = .returned (.bool true)∧Below w.heap.size w w'):=fun w=>by
     have:=rless_any g pd CG pd_can w
     rw[pd_val,decide_eq_true hlt] at this
     exact this
    clear hlt
    refine wp_loop_rounds 2 ?_
    rw[rounds_succ]
    have c0:=K.out.1.2 0 (by omega);have c1:=K.out.1.2 1 (by omega);have c2:=K.out.1.2 2 (by omega);have c3:=K.out.1.2 3 (by omega);have c4:=K.out.1.2 4 (by omega);have c5:=K.out.1.2 5 (by omega);have c6:=K.out.1.2 6 (by omega);have c7:=K.out.1.2 7 (by omega);have c8:=K.out.1.2 8 (by omega);have c9:=K.out.1.2 9 (by omega)
    go_wp2
    go_region_with (first|(go_at_call 174;refine Calls.mono (P_any _) ?_;rintro e wa1 ⟨rfl,hba1⟩;have KA1:=RowAt.later (RowAt.drew K.out.1) (by omega) hba1;have k0:=KA1.2 0 (by omega);have k1:=KA1.2 1 (by omega);have k2:=KA1.2 2 (by omega);have k3:=KA1.2 3 (by omega);have k4:=KA1.2 4 (by omega);have k5:=KA1.2 5 (by omega);have k6:=KA1.2 6 (by omega);have k7:=KA1.2 7 (by omega);have k8:=KA1.2 8 (by omega);have k9:=KA1.2 9 (by omega))|(go_at_call 173;refine Calls.mono (R1.out _) ?_;rintro e wb1 ⟨rfl,hbb1⟩;have KB1:=RowAt.later KA1 (by omega) hbb1;have m0:=KB1.2 0 (by omega);have m1:=KB1.2 1 (by omega);have m2:=KB1.2 2 (by omega);have m3:=KB1.2 3 (by omega);have m4:=KB1.2 4 (by omega);have m5:=KB1.2 5 (by omega);have m6:=KB1.2 6 (by omega);have m7:=KB1.2 7 (by omega);have m8:=KB1.2 8 (by omega);have m9:=KB1.2 9 (by omega)))
    all_goals
     have L1:Hid (RowAt wb1 w.heap.size 10 g∧RowAt wb1 (w.heap.size+1) 10 (fun _=>0)∧Below w.heap.size w wb1):=⟨KB1,RowAt.later (RowAt.later (RowAt.drew K.out.2.1) (by omega) hba1) (by omega) hbb1,chain (chain K.out.2.2.drew hba1) hbb1⟩
     clear hba1 hbb1 KA1 KB1 c0 c1 c2 c3 c4 c5 c6 c7 c8 c9 k0 k1 k2 k3 k4 k5 k6 k7 k8 k9 m0 m1 m2 m3 m4 m5 m6 m7 m8 m9
     have c0:=L1.out.1.2 0 (by omega);have c1:=L1.out.1.2 1 (by omega);have c2:=L1.out.1.2 2 (by omega);have c3:=L1.out.1.2 3 (by omega);have c4:=L1.out.1.2 4 (by omega);have c5:=L1.out.1.2 5 (by omega);have c6:=L1.out.1.2 6 (by omega);have c7:=L1.out.1.2 7 (by omega);have c8:=L1.out.1.2 8 (by omega);have c9:=L1.out.1.2 9 (by omega)
     have r0:=L1.out.2.1.2 0 (by omega);have r1:=L1.out.2.1.2 1 (by omega);have r2:=L1.out.2.1.2 2 (by omega);have r3:=L1.out.2.1.2 3 (by omega);have r4:=L1.out.2.1.2 4 (by omega);have r5:=L1.out.2.1.2 5 (by omega);have r6:=L1.out.2.1.2 6 (by omega);have r7:=L1.out.2.1.2 7 (by omega);have r8:=L1.out.2.1.2 8 (by omega);have r9:=L1.out.2.1.2 9 (by omega)
     have rf:=L1.out.2.1.1
     go_wp2
     refine bodyPost_ret (v := .agg #[.int .i64 (g 0),.int .i64 (g 1),.int .i64 (g 2),.int .i64 (g 3),.int .i64 (g 4),.int .i64 (g 5),.int .i64 (g 6),.int .i64 (g 7),.int .i64 (g 8),.int .i64 (g 9)]) (by simp[results,Tryz.results153, go_sem, *]) rfl ⟨g,rfl,fin.out,?_⟩
     exact below_put10 L1.out.2.2 (by omega) g
   ·have HGE:Hid ((p:Int)≤vN 10 g):=by show _≤_;omega
    have R1:Hid (∀w,Calls Tryz.prog 173 #[.agg #[.int .i64 (g 0),.int .i64 (g 1),.int .i64 (g 2),.int .i64 (g 3),.int .i64 (g 4),.int .i64 (g 5),.int .i64 (g 6),.int .i64 (g 7),.int .i64 (g 8),.int .i64 (g 9)],.agg #[.int .i64 (pd 0),.int .i64 (pd 1),.int .i64 (pd 2),.int .i64 (pd 3),.int .i64 (pd 4),.int .i64 (pd 5),.int .i64 (pd 6),.int .i64 (pd 7),.int .i64 (pd 8),.int .i64 (pd 9)]] w fun e w'=>e = .returned (.bool false)∧Below w.heap.size w w'):=fun w=>by
     have:=rless_any g pd CG pd_can w
     rw[pd_val,decide_eq_false hlt] at this
     exact this
    clear hlt
    refine wp_loop_rounds 2 ?_
    rw[rounds_succ]
    have c0:=K.out.1.2 0 (by omega);have c1:=K.out.1.2 1 (by omega);have c2:=K.out.1.2 2 (by omega);have c3:=K.out.1.2 3 (by omega);have c4:=K.out.1.2 4 (by omega);have c5:=K.out.1.2 5 (by omega);have c6:=K.out.1.2 6 (by omega);have c7:=K.out.1.2 7 (by omega);have c8:=K.out.1.2 8 (by omega);have c9:=K.out.1.2 9 (by omega)
    go_wp2
    go_region_with (first|(go_at_call 174;refine Calls.mono (P_any _) ?_;rintro e wa1 ⟨rfl,hba1⟩;have KA1:=RowAt.later (RowAt.drew K.out.1) (by omega) hba1;have k0:=KA1.2 0 (by omega);have k1:=KA1.2 1 (by omega);have k2:=KA1.2 2 (by omega);have k3:=KA1.2 3 (by omega);have k4:=KA1.2 4 (by omega);have k5:=KA1.2 5 (by omega);have k6:=KA1.2 6 (by omega);have k7:=KA1.2 7 (by omega);have k8:=KA1.2 8 (by omega);have k9:=KA1.2 9 (by omega))|(go_at_call 173;refine Calls.mono (R1.out _) ?_;rintro e wb1 ⟨rfl,hbb1⟩;have KB1:=RowAt.later KA1 (by omega) hbb1;have m0:=KB1.2 0 (by omega);have m1:=KB1.2 1 (by omega);have m2:=KB1.2 2 (by omega);have m3:=KB1.2 3 (by omega);have m4:=KB1.2 4 (by omega);have m5:=KB1.2 5 (by omega);have m6:=KB1.2 6 (by omega);have m7:=KB1.2 7 (by omega);have m8:=KB1.2 8 (by omega);have m9:=KB1.2 9 (by omega)))
    all_goals
     have L1:Hid (RowAt wb1 w.heap.size 10 g∧RowAt wb1 (w.heap.size+1) 10 (fun _=>0)∧Below w.heap.size w wb1):=⟨KB1,RowAt.later (RowAt.later (RowAt.drew K.out.2.1) (by omega) hba1) (by omega) hbb1,chain (chain K.out.2.2.drew hba1) hbb1⟩
     clear hba1 hbb1 KA1 KB1 c0 c1 c2 c3 c4 c5 c6 c7 c8 c9 k0 k1 k2 k3 k4 k5 k6 k7 k8 k9 m0 m1 m2 m3 m4 m5 m6 m7 m8 m9
     go_wp2_with fail
     refine Calls.mono (P_any _) ?_
     rintro e w4 ⟨rfl,hb4⟩
     have M:Hid (RowAt w4 w.heap.size 10 g∧RowAt w4 (w.heap.size+1) 10 (fun _=>0)∧Below w.heap.size w w4):=⟨L1.out.1.later (by omega) hb4,L1.out.2.1.later (by omega) hb4,chain L1.out.2.2 hb4⟩
     clear hb4 L1
     go_wp2
     have hne1:Hid (w.heap.size < w4.heap.size∧w.heap.size+1 < w4.heap.size):=⟨World.block_lt_of_cell? _ _ (M.out.1.2 0 (by omega)),World.block_lt_of_cell? _ _ (M.out.2.1.2 0 (by omega))⟩
     go_loopw [6] (fun i wr=>∃k:Nat,k≤10∧i = .int .i64 k∧Hid (RowAt wr w.heap.size 10 (lp g k)∧RowAt wr (w.heap.size+1) 10 (fun _=>0)∧RowAt wr w4.heap.size 10 pd∧Below w.heap.size w wr)) (fun i _=>10 - (intOf i).toNat)
     case atStart =>
      have ba:Below w4.heap.size w4 (w4.alloc (.cells #[.int .i64 (pd 0),.int .i64 (pd 1),.int .i64 (pd 2),.int .i64 (pd 3),.int .i64 (pd 4),.int .i64 (pd 5),.int .i64 (pd 6),.int .i64 (pd 7),.int .i64 (pd 8),.int .i64 (pd 9)] 114)):=(Below.refl _ _).alloc (Nat.le_refl _) _
      refine⟨0,by omega,rfl,RowAt.congr (M.out.1.later (by omega) ba) (fun j hj=>rfl),M.out.2.1.later (by omega) ba,⟨fun o=>by simp[go_sem],fun j hj => ?_⟩,chain M.out.2.2 ba⟩
      have:j=0∨j=1∨j=2∨j=3∨j=4∨j=5∨j=6∨j=7∨j=8∨j=9:=by omega
      rcases this with rfl|rfl|rfl|rfl|rfl|rfl|rfl|rfl|rfl|rfl <;> simp[go_sem]
     case round =>
      obtain⟨k,hk,rfl,N⟩:=hrel
      by_cases hk10:k < 10
      ·have ck:=N.out.1.2 k hk10
       have cp:=N.out.2.2.1.2 k hk10
       have cf:=N.out.1.1
       have b0:(0:Int)≤(k:Int):=by omega
       have b1:(k:Int) < 10:=by omega
       have hX:Hid (lp g k k=g k∧0≤g k∧g k < 67108864∧0≤pd k∧pd k < 67108864):=⟨by unfold lp;rw[if_neg (by omega)],(CG.out k hk10).1,(CG.out k hk10).2,pd_bd k⟩
       obtain⟨X,eX⟩:∃X,lp g k k=X:=⟨_,rfl⟩
       obtain⟨Y,eY⟩:∃Y,pd k=Y:=⟨_,rfl⟩
       rw[eX] at ck
       rw[eY] at cp
       have bx:0≤X:=by rw[←eX,hX.out.1];exact hX.out.2.1
       have bx2:X < 67108864:=by rw[←eX,hX.out.1];exact hX.out.2.2.1
       have by1:0≤Y:=by rw[←eY];exact hX.out.2.2.2.1
       have by2:Y < 67108864:=by rw[←eY];exact hX.out.2.2.2.2
       have EX:Hid (lp g k k=X∧pd k=Y):=⟨eX,eY⟩
       clear eX eY
       go_wp2
       go_region
       go_wp2
       go_roundw
       case rel =>
        rw[←EX.out.1,←EX.out.2,hX.out.1]
        refine⟨k+1,by omega,by go_num,RowAt.congr (RowAt.set (RowAt.drew N.out.1) k hk10 _) (fun j hj => ?_),RowAt.other (RowAt.drew N.out.2.1) (by simp) _,RowAt.other (RowAt.drew N.out.2.2.1) (by have:=hne1.out;simp;omega) _,(N.out.2.2.2.drew.setCell (by simp) _)⟩
        unfold lp
        by_cases e:j=k
        ·rw[if_pos e,if_pos (by omega),e]
        ·rw[if_neg e]
         by_cases e2:j < k
         ·rw[if_pos e2,if_pos (by omega)]
         ·rw[if_neg e2,if_neg (by omega)]
       case measure=>simp[intOf];omega
      ·have hkk:k=10:=by omega
       subst hkk
       have c0:=N.out.1.2 0 (by omega);have c1:=N.out.1.2 1 (by omega);have c2:=N.out.1.2 2 (by omega);have c3:=N.out.1.2 3 (by omega);have c4:=N.out.1.2 4 (by omega);have c5:=N.out.1.2 5 (by omega);have c6:=N.out.1.2 6 (by omega);have c7:=N.out.1.2 7 (by omega);have c8:=N.out.1.2 8 (by omega);have c9:=N.out.1.2 9 (by omega)
       have SG:=SV.out
       have ML:Hid (mid (lp g 10)):=fun j hj=>by
        have h1:=CG.out j hj
        have h2:=pd_bd j
        show _≤lp g 10 j∧lp g 10 j≤_
        unfold lp;rw[if_pos hj];omega
       have HV:Hid (0≤vN 10 (lp g 10)∧vN 10 (lp g 10) < 57896044618658097711785492504343953926634992332820282019728792003956564819968∧vN 10 (lp g 10) < (p:Int)∧vN 10 (lp g 10)=vN 10 d % (p:Int)):=by
        have e:=lp_val g
        have h1:=HGE.out
        have h2:=SV.out.2.2.2.2 (by omega)
        have hp:(p:Int)=57896044618658097711785492504343953926634992332820282019728792003956564819949:=rfl
        refine⟨by omega,by omega,by omega,?_⟩
        rw[←SV.out.2.1,e,hp]
        rw[hp] at h1
        omega
       obtain⟨h,eh⟩:∃h,ev (lp g 10)=h:=⟨_,rfl⟩
       have CH:Hid (can h∧vN 10 h=vN 10 d % (p:Int)∧vN 10 h < (p:Int)):=by
        rw[←eh];exact⟨(ev_can _ HV.out.1 HV.out.2.1).1,by rw[ev_val];exact HV.out.2.2.2,by rw[ev_val];exact HV.out.2.2.1⟩
       have EV:Hid (∀w,Calls Tryz.prog 172 #[.agg #[.int .i64 (lp g 10 0),.int .i64 (lp g 10 1),.int .i64 (lp g 10 2),.int .i64 (lp g 10 3),.int .i64 (lp g 10 4),.int .i64 (lp g 10 5),.int .i64 (lp g 10 6),.int .i64 (lp g 10 7),.int .i64 (lp g 10 8),.int .i64 (lp g 10 9)]] w fun e w'=>e = .returned (.agg #[.int .i64 (h 0),.int .i64 (h 1),.int .i64 (h 2),.int .i64 (h 3),.int .i64 (h 4),.int .i64 (h 5),.int .i64 (h 6),.int .i64 (h 7),.int .i64 (h 8),.int .i64 (h 9)])∧Below w.heap.size w w'):=fun w=>by
        have:=even_any (lp g 10) (mid_big ML.out) w;rw[eh] at this;exact this
       clear eh SG
       go_wp2_with fail
       refine Calls.mono (EV.out _) ?_
       rintro e w5 ⟨rfl,hb5⟩
       have J5:Hid (RowAt w5 w.heap.size 10 (lp g 10)∧RowAt w5 (w.heap.size+1) 10 (fun _=>0)∧Below w.heap.size w w5):=⟨N.out.1.later (by omega) hb5,N.out.2.1.later (by omega) hb5,chain N.out.2.2.2 hb5⟩
       clear hb5 c0 c1 c2 c3 c4 c5 c6 c7 c8 c9
       have c0:=J5.out.1.2 0 (by omega);have c1:=J5.out.1.2 1 (by omega);have c2:=J5.out.1.2 2 (by omega);have c3:=J5.out.1.2 3 (by omega);have c4:=J5.out.1.2 4 (by omega);have c5:=J5.out.1.2 5 (by omega);have c6:=J5.out.1.2 6 (by omega);have c7:=J5.out.1.2 7 (by omega);have c8:=J5.out.1.2 8 (by omega);have c9:=J5.out.1.2 9 (by omega)
       have cf:=J5.out.1.1
       go_wp2
       refine absW (fun w3=>RowAt w3 w.heap.size 10 h∧RowAt w3 (w.heap.size+1) 10 (fun _=>0)∧Below w.heap.size w w3) ⟨RowAt.whole J5.out.1 h,RowAt.put J5.out.2.1 (by omega) h,below_put10 J5.out.2.2 (Nat.le_refl _) h⟩ ?_
       intro w6 hw6
       have K6:Hid (RowAt w6 w.heap.size 10 h∧RowAt w6 (w.heap.size+1) 10 (fun _=>0)∧Below w.heap.size w w6):=hw6
       clear hw6 J5 c0 c1 c2 c3 c4 c5 c6 c7 c8 c9 cf N
       have R2:Hid (∀w,Calls Tryz.prog 173 #[.agg #[.int .i64 (h 0),.int .i64 (h 1),.int .i64 (h 2),.int .i64 (h 3),.int .i64 (h 4),.int .i64 (h 5),.int .i64 (h 6),.int .i64 (h 7),.int .i64 (h 8),.int .i64 (h 9)],.agg #[.int .i64 (pd 0),.int .i64 (pd 1),.int .i64 (pd 2),.int .i64 (pd 3),.int .i64 (pd 4),.int .i64 (pd 5),.int .i64 (pd 6),.int .i64 (pd 7),.int .i64 (pd 8),.int .i64 (pd 9)]] w fun e w'=>e = .returned (.bool true)∧Below w.heap.size w w'):=fun w=>by
        have:=rless_any h pd CH.out.1 pd_can w
        rw[pd_val,decide_eq_true CH.out.2.2] at this
        exact this
       rw[rounds_succ]
       have c0:=K6.out.1.2 0 (by omega);have c1:=K6.out.1.2 1 (by omega);have c2:=K6.out.1.2 2 (by omega);have c3:=K6.out.1.2 3 (by omega);have c4:=K6.out.1.2 4 (by omega);have c5:=K6.out.1.2 5 (by omega);have c6:=K6.out.1.2 6 (by omega);have c7:=K6.out.1.2 7 (by omega);have c8:=K6.out.1.2 8 (by omega);have c9:=K6.out.1.2 9 (by omega)
       go_wp2
       go_region_with (first|(go_at_call 174;refine Calls.mono (P_any _) ?_;rintro e wa2 ⟨rfl,hba2⟩;have KA2:=RowAt.later (RowAt.drew K6.out.1) (by omega) hba2;have k0:=KA2.2 0 (by omega);have k1:=KA2.2 1 (by omega);have k2:=KA2.2 2 (by omega);have k3:=KA2.2 3 (by omega);have k4:=KA2.2 4 (by omega);have k5:=KA2.2 5 (by omega);have k6:=KA2.2 6 (by omega);have k7:=KA2.2 7 (by omega);have k8:=KA2.2 8 (by omega);have k9:=KA2.2 9 (by omega))|(go_at_call 173;refine Calls.mono (R2.out _) ?_;rintro e wb2 ⟨rfl,hbb2⟩;have KB2:=RowAt.later KA2 (by omega) hbb2;have m0:=KB2.2 0 (by omega);have m1:=KB2.2 1 (by omega);have m2:=KB2.2 2 (by omega);have m3:=KB2.2 3 (by omega);have m4:=KB2.2 4 (by omega);have m5:=KB2.2 5 (by omega);have m6:=KB2.2 6 (by omega);have m7:=KB2.2 7 (by omega);have m8:=KB2.2 8 (by omega);have m9:=KB2.2 9 (by omega)))
       all_goals
        have L2:Hid (RowAt wb2 w.heap.size 10 h∧RowAt wb2 (w.heap.size+1) 10 (fun _=>0)∧Below w.heap.size w wb2):=⟨KB2,RowAt.later (RowAt.later (RowAt.drew K6.out.2.1) (by omega) hba2) (by omega) hbb2,chain (chain K6.out.2.2.drew hba2) hbb2⟩
        clear hba2 hbb2 KA2 KB2 c0 c1 c2 c3 c4 c5 c6 c7 c8 c9 k0 k1 k2 k3 k4 k5 k6 k7 k8 k9 m0 m1 m2 m3 m4 m5 m6 m7 m8 m9
        have c0:=L2.out.1.2 0 (by omega);have c1:=L2.out.1.2 1 (by omega);have c2:=L2.out.1.2 2 (by omega);have c3:=L2.out.1.2 3 (by omega);have c4:=L2.out.1.2 4 (by omega);have c5:=L2.out.1.2 5 (by omega);have c6:=L2.out.1.2 6 (by omega);have c7:=L2.out.1.2 7 (by omega);have c8:=L2.out.1.2 8 (by omega);have c9:=L2.out.1.2 9 (by omega)
        have r0:=L2.out.2.1.2 0 (by omega);have r1:=L2.out.2.1.2 1 (by omega);have r2:=L2.out.2.1.2 2 (by omega);have r3:=L2.out.2.1.2 3 (by omega);have r4:=L2.out.2.1.2 4 (by omega);have r5:=L2.out.2.1.2 5 (by omega);have r6:=L2.out.2.1.2 6 (by omega);have r7:=L2.out.2.1.2 7 (by omega);have r8:=L2.out.2.1.2 8 (by omega);have r9:=L2.out.2.1.2 9 (by omega)
        have rf:=L2.out.2.1.1
        go_wp2
        refine bodyPost_ret (v := .agg #[.int .i64 (h 0),.int .i64 (h 1),.int .i64 (h 2),.int .i64 (h 3),.int .i64 (h 4),.int .i64 (h 5),.int .i64 (h 6),.int .i64 (h 7),.int .i64 (h 8),.int .i64 (h 9)]) (by simp[results,Tryz.results153, go_sem, *]) rfl ⟨h,rfl,⟨CH.out.1,CH.out.2.1⟩,?_⟩
        exact below_put10 L2.out.2.2 (by omega) h
end Go.Proofs.YtgnkkjknngblbaaGreatDoor.Crv
