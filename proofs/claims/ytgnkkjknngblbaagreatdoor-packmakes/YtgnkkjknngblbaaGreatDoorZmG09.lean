/- The document's prime,and which of two numbers is less. -/
import Derived.Test.YtgnkkjknngblbaaGreatDoorZmG08
import Derived.Test.YtgnkkjknngblbaaGreatDoorZmG03
import Derived.Test.YtgnkkjknngblbaaGreatDoorZmG02
import Derived.Deep.QuietTactic
import Derived.BigQuiet
namespace Go.Proofs.YtgnkkjknngblbaaGreatDoor.Crv
open Go.RowKit Go.Proofs.Fd
set_option maxRecDepth 20000
theorem RowAt.later {W w1:World} {b n:Nat} {d:Nat→Int} (h:RowAt W b n d) (hn:0 < n) (hb:Below W.heap.size W w1):RowAt w1 b n d:=by
 have hl:b < W.heap.size:=World.block_lt_of_cell? _ _ (h.2 0 hn)
 exact⟨fun o=>(frozen_kept hb hl).trans (h.1 o),fun j hj=>cell_later hb (h.2 j hj)⟩
theorem RowAt.set {w:World} {b n:Nat} {d:Nat→Int} (h:RowAt w b n d) (k:Nat) (hk:k < n) (v:Int):RowAt (w.setCell ⟨b,k,none⟩ (.int .i64 v)) b n (fun j=>if j=k then v else d j):=by
 refine⟨fun o=>by simp[go_sem,h.1],fun j hj => ?_⟩
 by_cases e:j=k
 ·subst e
  have:=h.2 j hj
  simp[go_sem,this]
 ·rw[World.cell?_setCell_other _ _ _ _ (by simp;try omega)]
  show _=some (Value.int .i64 (if j=k then v else d j))
  rw[if_neg e];exact h.2 j hj
theorem RowAt.other {w:World} {b n:Nat} {d:Nat→Int} (h:RowAt w b n d) {a:Addr} (hne:a.block≠b) (v:Value):RowAt (w.setCell a v) b n d :=
 ⟨fun o=>(frozen_setCell hne).trans (h.1 o),fun j hj=>cell_setCell (h.2 j hj) hne⟩
theorem RowAt.congr {w:World} {b n:Nat} {d c:Nat→Int} (h:RowAt w b n d) (e:∀j,j < n→d j=c j):RowAt w b n c :=
 ⟨h.1,fun j hj=>by rw[←e j hj];exact h.2 j hj⟩
theorem RowAt.drew {w:World} {b n:Nat} {d:Nat→Int} (h:RowAt w b n d):RowAt w.drew b n d:=h
theorem RowAt.drewN {w:World} {b n:Nat} {d:Nat→Int} (h:RowAt w b n d) (k:Nat):RowAt (w.drewN k) b n d:=h
theorem RowAt.whole {w:World} {b:Nat} {d:Nat→Int} (h:RowAt w b 10 d) (c:Nat→Int):RowAt ((((((((((w.setCell ⟨b,0,none⟩ (.int .i64 (c 0))).setCell ⟨b,1,none⟩ (.int .i64 (c 1))).setCell ⟨b,2,none⟩ (.int .i64 (c 2))).setCell ⟨b,3,none⟩ (.int .i64 (c 3))).setCell ⟨b,4,none⟩ (.int .i64 (c 4))).setCell ⟨b,5,none⟩ (.int .i64 (c 5))).setCell ⟨b,6,none⟩ (.int .i64 (c 6))).setCell ⟨b,7,none⟩ (.int .i64 (c 7))).setCell ⟨b,8,none⟩ (.int .i64 (c 8))).setCell ⟨b,9,none⟩ (.int .i64 (c 9))) b 10 c:=by
 refine RowAt.congr ((((((((((h.set 0 (by omega) (c 0)).set 1 (by omega) (c 1)).set 2 (by omega) (c 2)).set 3 (by omega) (c 3)).set 4 (by omega) (c 4)).set 5 (by omega) (c 5)).set 6 (by omega) (c 6)).set 7 (by omega) (c 7)).set 8 (by omega) (c 8)).set 9 (by omega) (c 9)) (fun j hj => ?_)
 have:j=0∨j=1∨j=2∨j=3∨j=4∨j=5∨j=6∨j=7∨j=8∨j=9:=by omega
 rcases this with rfl|rfl|rfl|rfl|rfl|rfl|rfl|rfl|rfl|rfl <;> rfl
theorem RowAt.put {w:World} {b n:Nat} {d:Nat→Int} (h:RowAt w b n d) {q:Nat} (hne:q≠b) (c:Nat→Int):RowAt ((((((((((w.setCell ⟨q,0,none⟩ (.int .i64 (c 0))).setCell ⟨q,1,none⟩ (.int .i64 (c 1))).setCell ⟨q,2,none⟩ (.int .i64 (c 2))).setCell ⟨q,3,none⟩ (.int .i64 (c 3))).setCell ⟨q,4,none⟩ (.int .i64 (c 4))).setCell ⟨q,5,none⟩ (.int .i64 (c 5))).setCell ⟨q,6,none⟩ (.int .i64 (c 6))).setCell ⟨q,7,none⟩ (.int .i64 (c 7))).setCell ⟨q,8,none⟩ (.int .i64 (c 8))).setCell ⟨q,9,none⟩ (.int .i64 (c 9))) b n d :=
 ((((((((((h.other (a:=⟨q,0,none⟩) hne _).other (a:=⟨q,1,none⟩) hne _).other (a:=⟨q,2,none⟩) hne _).other (a:=⟨q,3,none⟩) hne _).other (a:=⟨q,4,none⟩) hne _).other (a:=⟨q,5,none⟩) hne _).other (a:=⟨q,6,none⟩) hne _).other (a:=⟨q,7,none⟩) hne _).other (a:=⟨q,8,none⟩) hne _).other (a:=⟨q,9,none⟩) hne _)
theorem below_put10 {B:Nat} {a w:World} (h:Below B a w) {q:Nat} (hc:B≤q) (c:Nat→Int):Below B a ((((((((((w.setCell ⟨q,0,none⟩ (.int .i64 (c 0))).setCell ⟨q,1,none⟩ (.int .i64 (c 1))).setCell ⟨q,2,none⟩ (.int .i64 (c 2))).setCell ⟨q,3,none⟩ (.int .i64 (c 3))).setCell ⟨q,4,none⟩ (.int .i64 (c 4))).setCell ⟨q,5,none⟩ (.int .i64 (c 5))).setCell ⟨q,6,none⟩ (.int .i64 (c 6))).setCell ⟨q,7,none⟩ (.int .i64 (c 7))).setCell ⟨q,8,none⟩ (.int .i64 (c 8))).setCell ⟨q,9,none⟩ (.int .i64 (c 9))) :=
 ((((((((((h.setCell (p:=⟨q,0,none⟩) hc _).setCell (p:=⟨q,1,none⟩) hc _).setCell (p:=⟨q,2,none⟩) hc _).setCell (p:=⟨q,3,none⟩) hc _).setCell (p:=⟨q,4,none⟩) hc _).setCell (p:=⟨q,5,none⟩) hc _).setCell (p:=⟨q,6,none⟩) hc _).setCell (p:=⟨q,7,none⟩) hc _).setCell (p:=⟨q,8,none⟩) hc _).setCell (p:=⟨q,9,none⟩) hc _)
set_option maxHeartbeats 2000000 in
theorem P_any (w:World) :
  Calls Tryz.prog 174 #[] w fun e w'=>e = .returned (.agg #[.int .i64 (pd 0),.int .i64 (pd 1),.int .i64 (pd 2),.int .i64 (pd 3),.int .i64 (pd 4),.int .i64 (pd 5),.int .i64 (pd 6),.int .i64 (pd 7),.int .i64 (pd 8),.int .i64 (pd 9)])∧Below w.heap.size w w':=by
 go_enter Tryz.func174, Tryz.ntmps174
 go_wp2
 refine wp_loop_rounds 11 ?_
 rw[rounds_succ]
 go_wp2
 rw[rounds_succ]
 go_wp2
 rw[rounds_succ]
 go_wp2
 rw[rounds_succ]
 go_wp2
 rw[rounds_succ]
 go_wp2
 rw[rounds_succ]
 go_wp2
 rw[rounds_succ]
 go_wp2
 rw[rounds_succ]
 go_wp2
 rw[rounds_succ]
 go_wp2
 rw[rounds_succ]
 go_wp2
 rw[rounds_succ]
 go_wp2
 refine bodyPost_ret (v := .agg #[.int .i64 (pd 0),.int .i64 (pd 1),.int .i64 (pd 2),.int .i64 (pd 3),.int .i64 (pd 4),.int .i64 (pd 5),.int .i64 (pd 6),.int .i64 (pd 7),.int .i64 (pd 8),.int .i64 (pd 9)]) (by simp[results,Tryz.results174, go_sem,pd]) rfl ⟨rfl,?_⟩
 repeat (first|refine Below.setCell ?_ (by simp;try omega) _|refine Below.drew ?_|refine Below.alloc ?_ (by simp;try omega) _|exact Below.refl _ _)
set_option maxHeartbeats 2000000 in
theorem rless_any (a b:Nat→Int) (ha:Hid (can a)) (hb:Hid (can b)) (w:World) :
  Calls Tryz.prog 173 #[.agg #[.int .i64 (a 0),.int .i64 (a 1),.int .i64 (a 2),.int .i64 (a 3),.int .i64 (a 4),.int .i64 (a 5),.int .i64 (a 6),.int .i64 (a 7),.int .i64 (a 8),.int .i64 (a 9)],.agg #[.int .i64 (b 0),.int .i64 (b 1),.int .i64 (b 2),.int .i64 (b 3),.int .i64 (b 4),.int .i64 (b 5),.int .i64 (b 6),.int .i64 (b 7),.int .i64 (b 8),.int .i64 (b 9)]] w fun e w'=>e = .returned (.bool (decide (vN 10 a < vN 10 b)))∧Below w.heap.size w w':=by
 go_enter Tryz.func173, Tryz.ntmps173
 go_wp2
 go_loopw [5] (fun i wr=>∃(n:Nat) (x:Int),i = .int .i64 x∧Hid (x=9 - (n:Int)) ∧ -1≤x∧x≤9∧Hid (RowAt wr w.heap.size 10 a∧RowAt wr (w.heap.size+1) 10 b∧(∀j:Nat,x < (j:Int)→j < 10→a j=b j)∧Below w.heap.size w wr)) (fun i _=>(intOf i+1).toNat)
 case atStart =>
  refine⟨0,9,rfl,rfl,by omega,by omega,⟨?_,?_⟩,⟨?_,?_⟩,?_,?_⟩
  ·intro o;simp[go_sem]
  ·intro j hj
   have:j=0∨j=1∨j=2∨j=3∨j=4∨j=5∨j=6∨j=7∨j=8∨j=9:=by omega
   rcases this with rfl|rfl|rfl|rfl|rfl|rfl|rfl|rfl|rfl|rfl <;> simp[go_sem]
  ·intro o;simp[go_sem]
  ·intro j hj
   have:j=0∨j=1∨j=2∨j=3∨j=4∨j=5∨j=6∨j=7∨j=8∨j=9:=by omega
   rcases this with rfl|rfl|rfl|rfl|rfl|rfl|rfl|rfl|rfl|rfl <;> simp[go_sem]
  ·intro j h1 h2;omega
  ·exact ((Below.refl _ _).alloc (Nat.le_refl _) _).alloc (by simp) _
 case round =>
  obtain⟨n,x,rfl,hx,lo,hi,I⟩:=hrel
  by_cases hlt:x < 0
  ·have hg:¬(0:Int)≤x:=by omega
   have fin:Hid (decide (vN 10 a < vN 10 b)=false):=by
    show decide (vN 10 a < vN 10 b)=false
    rw[vN_congr a b 10 (fun j hj=>I.out.2.2.1 j (by omega) hj)];simp
   go_wp2
   go_ret
   exact⟨ret_bool fin.out.symm,I.out.2.2.2⟩
  ·have hg:(0:Int)≤x:=by omega
   obtain⟨k,rfl⟩:=Int.eq_ofNat_of_zero_le hg
   have ck:=I.out.1.2 k (by omega)
   have cb:=I.out.2.1.2 k (by omega)
   have b1:(k:Int) < 10:=by omega
   obtain⟨X,eX⟩:∃X,a k=X:=⟨_,rfl⟩
   obtain⟨Y,eY⟩:∃Y,b k=Y:=⟨_,rfl⟩
   rw[eX] at ck
   rw[eY] at cb
   have EX:Hid (a k=X∧b k=Y):=⟨eX,eY⟩
   clear eX eY hlt
   by_cases hne:X=Y
   ·have hb2:(X != Y)=false:=by simp[hne]
    have HE:Hid (X=Y):=hne
    clear hne
    go_wp2
    go_quiet (fail)
    go_wp2
    go_roundw
    case rel =>
     refine⟨n+1,(k:Int) - 1,by go_num,?_,by omega,by omega,I.out.1.drewN _,I.out.2.1.drewN _,?_,below_drewN I.out.2.2.2 _⟩
     ·have:=hx.out;show (k:Int) - 1=_;omega
     ·intro j h1 h2
      by_cases ej:j=k
      ·rw[ej,EX.out.1,EX.out.2];exact HE.out
      ·exact I.out.2.2.1 j (by omega) h2
    case measure=>simp[intOf];try omega
   ·have hb2:(X != Y)=true:=by simp[hne]
    have fin:Hid (decide (X < Y)=decide (vN 10 a < vN 10 b)):=by
     show decide (X < Y)=decide (vN 10 a < vN 10 b)
     have hs:∀j,k < j→j < 10→a j=b j:=fun j h1 h2=>I.out.2.2.1 j (by omega) h2
     by_cases hxy:X < Y
     ·rw[decide_eq_true hxy,decide_eq_true (vN_less a b k 10 (by omega) ha.out hb.out hs (by rw[EX.out.1,EX.out.2];exact hxy))]
     ·have:=vN_less b a k 10 (by omega) hb.out ha.out (fun j h1 h2=>(hs j h1 h2).symm) (by rw[EX.out.1,EX.out.2];omega)
      rw[decide_eq_false hxy,decide_eq_false (by omega)]
    clear hne
    go_wp2
    go_quiet (fail)
    go_wp2
    go_quiet (fail)
    go_wp2
    go_ret
    exact⟨ret_bool fin.out,below_drewN (below_drewN I.out.2.2.2 _) _⟩
end Go.Proofs.YtgnkkjknngblbaaGreatDoor.Crv
