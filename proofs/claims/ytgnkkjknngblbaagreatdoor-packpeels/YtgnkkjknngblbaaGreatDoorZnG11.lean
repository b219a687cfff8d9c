/- Parts: R4,R5,R6. -/
import Derived.Test.YtgnkkjknngblbaaGreatDoorZnG10
import Derived.Test.YtgnkkjknngblbaaGreatDoorZnG02
import Derived.Test.YtgnkkjknngblbaaGreatDoorZnG03
namespace Go.Proofs.YtgnkkjknngblbaaGreatDoor.Crv
open Go.RowKit Go.Proofs.Fd
set_option maxRecDepth 20000
theorem row_new (w:World) (d:Nat→Int) (t:TypeId):RowAt (w.alloc (.cells #[.int .i64 (d 0),.int .i64 (d 1),.int .i64 (d 2),.int .i64 (d 3),.int .i64 (d 4),.int .i64 (d 5),.int .i64 (d 6),.int .i64 (d 7),.int .i64 (d 8),.int .i64 (d 9)] t)) w.heap.size 10 d:=by
 refine⟨fun o=>by simp[go_sem],fun j hj => ?_⟩
 have:j=0∨j=1∨j=2∨j=3∨j=4∨j=5∨j=6∨j=7∨j=8∨j=9:=by omega
 rcases this with rfl|rfl|rfl|rfl|rfl|rfl|rfl|rfl|rfl|rfl <;> simp[go_sem]
theorem row_zero (w:World) (t:TypeId):RowAt (w.alloc (.cells #[.int .i64 0,.int .i64 0,.int .i64 0,.int .i64 0,.int .i64 0,.int .i64 0,.int .i64 0,.int .i64 0,.int .i64 0,.int .i64 0] t)) w.heap.size 10 (fun _=>0):=by
 refine⟨fun o=>by simp[go_sem],fun j hj => ?_⟩
 have:j=0∨j=1∨j=2∨j=3∨j=4∨j=5∨j=6∨j=7∨j=8∨j=9:=by omega
 rcases this with rfl|rfl|rfl|rfl|rfl|rfl|rfl|rfl|rfl|rfl <;> simp[go_sem]
theorem below_alloc (w:World) (o:Obj):Below w.heap.size w (w.alloc o):=(Below.refl _ _).alloc (Nat.le_refl _) _
def sm (a b:Nat→Int) (k j:Nat):Int:=if j < k then a j+b j else a j
theorem sm_val (a b:Nat→Int):vN 10 (sm a b 10)=vN 10 a+vN 10 b:=by
 rw[vN10,vN10,vN10]
 have f0:sm a b 10 0=a 0+b 0:=rfl
 have f1:sm a b 10 1=a 1+b 1:=rfl
 have f2:sm a b 10 2=a 2+b 2:=rfl
 have f3:sm a b 10 3=a 3+b 3:=rfl
 have f4:sm a b 10 4=a 4+b 4:=rfl
 have f5:sm a b 10 5=a 5+b 5:=rfl
 have f6:sm a b 10 6=a 6+b 6:=rfl
 have f7:sm a b 10 7=a 7+b 7:=rfl
 have f8:sm a b 10 8=a 8+b 8:=rfl
 have f9:sm a b 10 9=a 9+b 9:=rfl
 rw[f0,f1,f2,f3,f4,f5,f6,f7,f8,f9]
 omega
theorem sm_next (a b:Nat→Int) (k j:Nat):(if j=k then a k+b k else sm a b k j)=sm a b (k+1) j:=by
 unfold sm
 by_cases e:j=k
 ·rw[if_pos e,if_pos (by omega),e]
 ·rw[if_neg e]
  by_cases e2:j < k
  ·rw[if_pos e2,if_pos (by omega)]
  ·rw[if_neg e2,if_neg (by omega)]
theorem can_bd {d:Nat→Int} (h:can d):0≤vN 10 d∧vN 10 d < 1852673427797059126777135760139006525652319754650249024631321344126610074238976:=by
 have:=vN_bd 10 d h
 have e:(67108864:Int) ^ 10=1852673427797059126777135760139006525652319754650249024631321344126610074238976:=by decide
 rw[e] at this;exact this
set_option maxRecDepth 100000 in
set_option maxHeartbeats 4000000 in
theorem Plus_any (a b:Nat→Int) (ha:Hid (can a)) (hb:Hid (can b)) (w:World) :
  Calls Tryz.prog 122 #[.agg #[.int .i64 (a 0),.int .i64 (a 1),.int .i64 (a 2),.int .i64 (a 3),.int .i64 (a 4),.int .i64 (a 5),.int .i64 (a 6),.int .i64 (a 7),.int .i64 (a 8),.int .i64 (a 9)],.agg #[.int .i64 (b 0),.int .i64 (b 1),.int .i64 (b 2),.int .i64 (b 3),.int .i64 (b 4),.int .i64 (b 5),.int .i64 (b 6),.int .i64 (b 7),.int .i64 (b 8),.int .i64 (b 9)]] w fun e w'=>∃c:Nat→Int,e = .returned (.agg #[.int .i64 (c 0),.int .i64 (c 1),.int .i64 (c 2),.int .i64 (c 3),.int .i64 (c 4),.int .i64 (c 5),.int .i64 (c 6),.int .i64 (c 7),.int .i64 (c 8),.int .i64 (c 9)])∧(can c∧vN 10 c=(vN 10 a+vN 10 b) % (p:Int))∧Below w.heap.size w w':=by
 go_enter Tryz.func122, Tryz.ntmps122
 go_wp2
 go_loopw [5] (fun i wr=>∃k:Nat,k≤10∧i = .int .i64 k∧Hid (RowAt wr w.heap.size 10 (sm a b k)∧RowAt wr (w.heap.size+1) 10 b∧RowAt wr (w.heap.size+1+1) 10 (fun _=>0)∧Below w.heap.size w wr)) (fun i _=>10 - (intOf i).toNat)
 case atStart =>
  refine⟨0,by omega,rfl,RowAt.congr (((row_new w a 114).later (by omega) (below_alloc _ _)).later (by omega) (below_alloc _ _)) (fun j hj=>rfl),?_,?_,((below_alloc _ _).alloc (by simp) _).alloc (by simp;omega) _⟩
  ·have:=(row_new (w.alloc (.cells #[.int .i64 (a 0),.int .i64 (a 1),.int .i64 (a 2),.int .i64 (a 3),.int .i64 (a 4),.int .i64 (a 5),.int .i64 (a 6),.int .i64 (a 7),.int .i64 (a 8),.int .i64 (a 9)] 114)) b 114).later (by omega) (below_alloc _ (.cells #[.int .i64 0,.int .i64 0,.int .i64 0,.int .i64 0,.int .i64 0,.int .i64 0,.int .i64 0,.int .i64 0,.int .i64 0,.int .i64 0] 114))
   simpa using this
  ·have:=row_zero ((w.alloc (.cells #[.int .i64 (a 0),.int .i64 (a 1),.int .i64 (a 2),.int .i64 (a 3),.int .i64 (a 4),.int .i64 (a 5),.int .i64 (a 6),.int .i64 (a 7),.int .i64 (a 8),.int .i64 (a 9)] 114)).alloc (.cells #[.int .i64 (b 0),.int .i64 (b 1),.int .i64 (b 2),.int .i64 (b 3),.int .i64 (b 4),.int .i64 (b 5),.int .i64 (b 6),.int .i64 (b 7),.int .i64 (b 8),.int .i64 (b 9)] 114)) 114
   simpa using this
 case round =>
  obtain⟨k,hk,rfl,N⟩:=hrel
  by_cases hk10:k < 10
  ·have ck:=N.out.1.2 k hk10
   have cp:=N.out.2.1.2 k hk10
   have cf:=N.out.1.1
   have b0:(0:Int)≤(k:Int):=by omega
   have b1:(k:Int) < 10:=by omega
   have hX:Hid (sm a b k k=a k∧(0≤a k∧a k < 67108864)∧(0≤b k∧b k < 67108864)):=⟨by unfold sm;rw[if_neg (by omega)],ha.out k hk10,hb.out k hk10⟩
   obtain⟨X,eX⟩:∃X,sm a b k k=X:=⟨_,rfl⟩
   obtain⟨Y,eY⟩:∃Y,b k=Y:=⟨_,rfl⟩
   rw[eX] at ck
   rw[eY] at cp
   have bx:0≤X:=by rw[←eX,hX.out.1];exact hX.out.2.1.1
   have bx2:X < 67108864:=by rw[←eX,hX.out.1];exact hX.out.2.1.2
   have by1:0≤Y:=by rw[←eY];exact hX.out.2.2.1
   have by2:Y < 67108864:=by rw[←eY];exact hX.out.2.2.2
   have EX:Hid (sm a b k k=X∧b k=Y):=⟨eX,eY⟩
   clear eX eY
   go_wp2
   go_region
   go_wp2
   go_roundw
   case rel =>
    rw[←EX.out.1,←EX.out.2,hX.out.1]
    exact⟨k+1,by omega,by go_num,RowAt.congr (RowAt.set (RowAt.drew N.out.1) k hk10 _) (fun j hj=>sm_next a b k j),RowAt.other (RowAt.drew N.out.2.1) (by simp) _,RowAt.other (RowAt.drew N.out.2.2.1) (by simp;try omega) _,(N.out.2.2.2.drew.setCell (by simp) _)⟩
   case measure=>simp[intOf];omega
  ·have hkk:k=10:=by omega
   subst hkk
   have c0:=N.out.1.2 0 (by omega);have c1:=N.out.1.2 1 (by omega);have c2:=N.out.1.2 2 (by omega);have c3:=N.out.1.2 3 (by omega);have c4:=N.out.1.2 4 (by omega);have c5:=N.out.1.2 5 (by omega);have c6:=N.out.1.2 6 (by omega);have c7:=N.out.1.2 7 (by omega);have c8:=N.out.1.2 8 (by omega);have c9:=N.out.1.2 9 (by omega)
   have ML:Hid (mid (sm a b 10)):=fun j hj=>by
    have h1:=ha.out j hj
    have h2:=hb.out j hj
    show _≤sm a b 10 j∧sm a b 10 j≤_
    unfold sm;rw[if_pos hj];omega
   have HV:Hid (0≤vN 10 (sm a b 10)∧vN 10 (sm a b 10) < 2 ^ 270):=by
    have h1:=can_bd ha.out
    have h2:=can_bd hb.out
    show _∧_
    rw[sm_val];omega
   go_wp2_with fail
   refine Calls.mono (Small_any (sm a b 10) ML HV _) ?_
   rintro e w5 ⟨h,rfl,ch,hb5⟩
   have CH:Hid (can h∧vN 10 h=(vN 10 a+vN 10 b) % (p:Int)):=by rw[sm_val] at ch;exact ch
   have J5:Hid (RowAt w5 (w.heap.size+1+1) 10 (fun _=>0)∧Below w.heap.size w w5):=⟨N.out.2.2.1.later (by omega) hb5,chain N.out.2.2.2 hb5⟩
   clear hb5 ch c0 c1 c2 c3 c4 c5 c6 c7 c8 c9
   have c0:=J5.out.1.2 0 (by omega);have c1:=J5.out.1.2 1 (by omega);have c2:=J5.out.1.2 2 (by omega);have c3:=J5.out.1.2 3 (by omega);have c4:=J5.out.1.2 4 (by omega);have c5:=J5.out.1.2 5 (by omega);have c6:=J5.out.1.2 6 (by omega);have c7:=J5.out.1.2 7 (by omega);have c8:=J5.out.1.2 8 (by omega);have c9:=J5.out.1.2 9 (by omega)
   have cf:=J5.out.1.1
   go_wp2
   refine bodyPost_ret (v := .agg #[.int .i64 (h 0),.int .i64 (h 1),.int .i64 (h 2),.int .i64 (h 3),.int .i64 (h 4),.int .i64 (h 5),.int .i64 (h 6),.int .i64 (h 7),.int .i64 (h 8),.int .i64 (h 9)]) (by simp[results,Tryz.results122, go_sem, *]) rfl ⟨h,rfl,CH.out,?_⟩
   exact below_put10 J5.out.2 (by omega) h
def ls (a b:Nat→Int) (k j:Nat):Int:=if j < k then a j+(pd j - b j) else a j
theorem ls_val (a b:Nat→Int):vN 10 (ls a b 10)=vN 10 a+(p:Int) - vN 10 b:=by
 have e:=pd_val
 rw[←e,vN10,vN10,vN10,vN10]
 have f0:ls a b 10 0=a 0+(pd 0 - b 0):=rfl
 have f1:ls a b 10 1=a 1+(pd 1 - b 1):=rfl
 have f2:ls a b 10 2=a 2+(pd 2 - b 2):=rfl
 have f3:ls a b 10 3=a 3+(pd 3 - b 3):=rfl
 have f4:ls a b 10 4=a 4+(pd 4 - b 4):=rfl
 have f5:ls a b 10 5=a 5+(pd 5 - b 5):=rfl
 have f6:ls a b 10 6=a 6+(pd 6 - b 6):=rfl
 have f7:ls a b 10 7=a 7+(pd 7 - b 7):=rfl
 have f8:ls a b 10 8=a 8+(pd 8 - b 8):=rfl
 have f9:ls a b 10 9=a 9+(pd 9 - b 9):=rfl
 rw[f0,f1,f2,f3,f4,f5,f6,f7,f8,f9]
 omega
theorem ls_next (a b:Nat→Int) (k j:Nat):(if j=k then a k+(pd k - b k) else ls a b k j)=ls a b (k+1) j:=by
 unfold ls
 by_cases e:j=k
 ·rw[if_pos e,if_pos (by omega),e]
 ·rw[if_neg e]
  by_cases e2:j < k
  ·rw[if_pos e2,if_pos (by omega)]
  ·rw[if_neg e2,if_neg (by omega)]
set_option maxRecDepth 100000 in
set_option maxHeartbeats 4000000 in
theorem Less_any (a b:Nat→Int) (ha:Hid (can a)) (hb:Hid (can b)) (hbp:Hid (vN 10 b≤(p:Int))) (w:World) :
  Calls Tryz.prog 154 #[.agg #[.int .i64 (a 0),.int .i64 (a 1),.int .i64 (a 2),.int .i64 (a 3),.int .i64 (a 4),.int .i64 (a 5),.int .i64 (a 6),.int .i64 (a 7),.int .i64 (a 8),.int .i64 (a 9)],.agg #[.int .i64 (b 0),.int .i64 (b 1),.int .i64 (b 2),.int .i64 (b 3),.int .i64 (b 4),.int .i64 (b 5),.int .i64 (b 6),.int .i64 (b 7),.int .i64 (b 8),.int .i64 (b 9)]] w fun e w'=>∃c:Nat→Int,e = .returned (.agg #[.int .i64 (c 0),.int .i64 (c 1),.int .i64 (c 2),.int .i64 (c 3),.int .i64 (c 4),.int .i64 (c 5),.int .i64 (c 6),.int .i64 (c 7),.int .i64 (c 8),.int .i64 (c 9)])∧(can c∧vN 10 c=(vN 10 a+(p:Int) - vN 10 b) % (p:Int))∧Below w.heap.size w w':=by
 go_enter Tryz.func154, Tryz.ntmps154
 go_wp2_with fail
 refine Calls.mono (P_any _) ?_
 rintro e w4 ⟨rfl,hb4⟩
 have M:Hid (RowAt w4 w.heap.size 10 a∧RowAt w4 (w.heap.size+1) 10 b∧RowAt w4 (w.heap.size+1+1) 10 (fun _=>0)∧Below w.heap.size w w4):=by
  have r1:=((row_new w a 114).later (by omega) (below_alloc _ (.cells #[.int .i64 (b 0),.int .i64 (b 1),.int .i64 (b 2),.int .i64 (b 3),.int .i64 (b 4),.int .i64 (b 5),.int .i64 (b 6),.int .i64 (b 7),.int .i64 (b 8),.int .i64 (b 9)] 114))).later (by omega) (below_alloc _ (.cells #[.int .i64 0,.int .i64 0,.int .i64 0,.int .i64 0,.int .i64 0,.int .i64 0,.int .i64 0,.int .i64 0,.int .i64 0,.int .i64 0] 114))
  have r2:=(row_new (w.alloc (.cells #[.int .i64 (a 0),.int .i64 (a 1),.int .i64 (a 2),.int .i64 (a 3),.int .i64 (a 4),.int .i64 (a 5),.int .i64 (a 6),.int .i64 (a 7),.int .i64 (a 8),.int .i64 (a 9)] 114)) b 114).later (by omega) (below_alloc _ (.cells #[.int .i64 0,.int .i64 0,.int .i64 0,.int .i64 0,.int .i64 0,.int .i64 0,.int .i64 0,.int .i64 0,.int .i64 0,.int .i64 0] 114))
  have r3:=row_zero ((w.alloc (.cells #[.int .i64 (a 0),.int .i64 (a 1),.int .i64 (a 2),.int .i64 (a 3),.int .i64 (a 4),.int .i64 (a 5),.int .i64 (a 6),.int .i64 (a 7),.int .i64 (a 8),.int .i64 (a 9)] 114)).alloc (.cells #[.int .i64 (b 0),.int .i64 (b 1),.int .i64 (b 2),.int .i64 (b 3),.int .i64 (b 4),.int .i64 (b 5),.int .i64 (b 6),.int .i64 (b 7),.int .i64 (b 8),.int .i64 (b 9)] 114)) 114
  refine⟨r1.later (by omega) hb4,?_,?_,chain (((below_alloc _ _).alloc (by simp) _).alloc (by simp;omega) _) hb4⟩
  ·have:=r2.later (by omega) hb4;simpa using this
  ·have:=r3.later (by omega) hb4;simpa using this
 clear hb4
 have hne1:Hid (w.heap.size < w4.heap.size∧w.heap.size+1 < w4.heap.size∧w.heap.size+1+1 < w4.heap.size):=⟨World.block_lt_of_cell? _ _ (M.out.1.2 0 (by omega)),World.block_lt_of_cell? _ _ (M.out.2.1.2 0 (by omega)),World.block_lt_of_cell? _ _ (M.out.2.2.1.2 0 (by omega))⟩
 go_wp2
 go_loopw [6] (fun i wr=>∃k:Nat,k≤10∧i = .int .i64 k∧Hid (RowAt wr w.heap.size 10 (ls a b k)∧RowAt wr (w.heap.size+1) 10 b∧RowAt wr (w.heap.size+1+1) 10 (fun _=>0)∧RowAt wr w4.heap.size 10 pd∧Below w.heap.size w wr)) (fun i _=>10 - (intOf i).toNat)
 case atStart =>
  have ba:Below w4.heap.size w4 (w4.alloc (.cells #[.int .i64 (pd 0),.int .i64 (pd 1),.int .i64 (pd 2),.int .i64 (pd 3),.int .i64 (pd 4),.int .i64 (pd 5),.int .i64 (pd 6),.int .i64 (pd 7),.int .i64 (pd 8),.int .i64 (pd 9)] 114)):=below_alloc _ _
  exact⟨0,by omega,rfl,RowAt.congr (M.out.1.later (by omega) ba) (fun j hj=>rfl),M.out.2.1.later (by omega) ba,M.out.2.2.1.later (by omega) ba,row_new w4 pd 114, chain M.out.2.2.2 ba⟩
 case round =>
  obtain⟨k,hk,rfl,N⟩:=hrel
  by_cases hk10:k < 10
  ·have ck:=N.out.1.2 k hk10
   have cp:=N.out.2.1.2 k hk10
   have cq:=N.out.2.2.2.1.2 k hk10
   have cf:=N.out.1.1
   have b0:(0:Int)≤(k:Int):=by omega
   have b1:(k:Int) < 10:=by omega
   have hX:Hid (ls a b k k=a k∧(0≤a k∧a k < 67108864)∧(0≤b k∧b k < 67108864)∧0≤pd k∧pd k < 67108864):=⟨by unfold ls;rw[if_neg (by omega)],ha.out k hk10,hb.out k hk10,pd_bd k⟩
   obtain⟨X,eX⟩:∃X,ls a b k k=X:=⟨_,rfl⟩
   obtain⟨Y,eY⟩:∃Y,b k=Y:=⟨_,rfl⟩
   obtain⟨Z,eZ⟩:∃Z,pd k=Z:=⟨_,rfl⟩
   rw[eX] at ck
   rw[eY] at cp
   rw[eZ] at cq
   have bx:0≤X:=by rw[←eX,hX.out.1];exact hX.out.2.1.1
   have bx2:X < 67108864:=by rw[←eX,hX.out.1];exact hX.out.2.1.2
   have by1:0≤Y:=by rw[←eY];exact hX.out.2.2.1.1
   have by2:Y < 67108864:=by rw[←eY];exact hX.out.2.2.1.2
   have bz1:0≤Z:=by rw[←eZ];exact hX.out.2.2.2.1
   have bz2:Z < 67108864:=by rw[←eZ];exact hX.out.2.2.2.2
   have EX:Hid (ls a b k k=X∧b k=Y∧pd k=Z):=⟨eX,eY,eZ⟩
   clear eX eY eZ
   go_wp2
   go_region
   go_wp2
   go_roundw
   case rel =>
    rw[←EX.out.1,←EX.out.2.1,←EX.out.2.2,hX.out.1]
    exact⟨k+1,by omega,by go_num,RowAt.congr (RowAt.set (RowAt.drew N.out.1) k hk10 _) (fun j hj=>ls_next a b k j),RowAt.other (RowAt.drew N.out.2.1) (by simp) _,RowAt.other (RowAt.drew N.out.2.2.1) (by simp;try omega) _,RowAt.other (RowAt.drew N.out.2.2.2.1) (by have:=hne1.out;simp;omega) _,(N.out.2.2.2.2.drew.setCell (by simp) _)⟩
   case measure=>simp[intOf];omega
  ·have hkk:k=10:=by omega
   subst hkk
   have c0:=N.out.1.2 0 (by omega);have c1:=N.out.1.2 1 (by omega);have c2:=N.out.1.2 2 (by omega);have c3:=N.out.1.2 3 (by omega);have c4:=N.out.1.2 4 (by omega);have c5:=N.out.1.2 5 (by omega);have c6:=N.out.1.2 6 (by omega);have c7:=N.out.1.2 7 (by omega);have c8:=N.out.1.2 8 (by omega);have c9:=N.out.1.2 9 (by omega)
   have ML:Hid (mid (ls a b 10)):=fun j hj=>by
    have h1:=ha.out j hj
    have h2:=hb.out j hj
    have h3:=pd_bd j
    show _≤ls a b 10 j∧ls a b 10 j≤_
    unfold ls;rw[if_pos hj];omega
   have HV:Hid (0≤vN 10 (ls a b 10)∧vN 10 (ls a b 10) < 2 ^ 270):=by
    have h1:=can_bd ha.out
    have h2:=can_bd hb.out
    have h3:=hbp.out
    have hp:(p:Int)=57896044618658097711785492504343953926634992332820282019728792003956564819949:=rfl
    show _∧_
    rw[ls_val];omega
   go_wp2_with fail
   refine Calls.mono (Small_any (ls a b 10) ML HV _) ?_
   rintro e w5 ⟨h,rfl,ch,hb5⟩
   have CH:Hid (can h∧vN 10 h=(vN 10 a+(p:Int) - vN 10 b) % (p:Int)):=by rw[ls_val] at ch;exact ch
   have J5:Hid (RowAt w5 (w.heap.size+1+1) 10 (fun _=>0)∧Below w.heap.size w w5):=⟨N.out.2.2.1.later (by omega) hb5,chain N.out.2.2.2.2 hb5⟩
   clear hb5 ch c0 c1 c2 c3 c4 c5 c6 c7 c8 c9
   have c0:=J5.out.1.2 0 (by omega);have c1:=J5.out.1.2 1 (by omega);have c2:=J5.out.1.2 2 (by omega);have c3:=J5.out.1.2 3 (by omega);have c4:=J5.out.1.2 4 (by omega);have c5:=J5.out.1.2 5 (by omega);have c6:=J5.out.1.2 6 (by omega);have c7:=J5.out.1.2 7 (by omega);have c8:=J5.out.1.2 8 (by omega);have c9:=J5.out.1.2 9 (by omega)
   have cf:=J5.out.1.1
   go_wp2
   refine bodyPost_ret (v := .agg #[.int .i64 (h 0),.int .i64 (h 1),.int .i64 (h 2),.int .i64 (h 3),.int .i64 (h 4),.int .i64 (h 5),.int .i64 (h 6),.int .i64 (h 7),.int .i64 (h 8),.int .i64 (h 9)]) (by simp[results,Tryz.results154, go_sem, *]) rfl ⟨h,rfl,CH.out,?_⟩
   exact below_put10 J5.out.2 (by omega) h
end Go.Proofs.YtgnkkjknngblbaaGreatDoor.Crv
namespace Go.Proofs.YtgnkkjknngblbaaGreatDoor.Crv
open Go.RowKit Go.Proofs.Fd
set_option maxRecDepth 20000
theorem row_zero20 (w:World) (t:TypeId):RowAt (w.alloc (.cells #[.int .i64 0,.int .i64 0,.int .i64 0,.int .i64 0,.int .i64 0,.int .i64 0,.int .i64 0,.int .i64 0,.int .i64 0,.int .i64 0,.int .i64 0,.int .i64 0,.int .i64 0,.int .i64 0,.int .i64 0,.int .i64 0,.int .i64 0,.int .i64 0,.int .i64 0,.int .i64 0] t)) w.heap.size 20 (fun _=>0):=by
 refine⟨fun o=>by simp[go_sem],fun j hj => ?_⟩
 have:j=0∨j=1∨j=2∨j=3∨j=4∨j=5∨j=6∨j=7∨j=8∨j=9∨j=10∨j=11∨j=12∨j=13∨j=14∨j=15∨j=16∨j=17∨j=18∨j=19:=by omega
 rcases this with rfl|rfl|rfl|rfl|rfl|rfl|rfl|rfl|rfl|rfl|rfl|rfl|rfl|rfl|rfl|rfl|rfl|rfl|rfl|rfl <;> simp[go_sem]
theorem st_next (d:Nat→Int) (k j:Nat):(if j=k+1 then d (k+1)+cy d (k+1) else if j=k then md d k else st d k j)=st d (k+1) j:=by
 unfold st
 by_cases e1:j=k+1
 ·rw[if_pos e1,if_neg (by omega),if_pos e1,e1]
 ·rw[if_neg e1]
  by_cases e2:j=k
  ·rw[if_pos e2,if_pos (by omega),e2]
  ·rw[if_neg e2]
   by_cases e3:j < k
   ·rw[if_pos e3,if_pos (by omega)]
   ·rw[if_neg e3,if_neg e2,if_neg (by omega),if_neg e1]
def TAt (w wr:World) (a b:Nat→Int):Prop :=
 RowAt wr w.heap.size 10 a∧RowAt wr (w.heap.size+1) 10 b∧RowAt wr (w.heap.size+1+1) 10 (fun _=>0)∧Below w.heap.size w wr
theorem TAt.set {w wr:World} {a b:Nat→Int} (h:TAt w wr a b) {x:Addr} (hx:w.heap.size+1+1 < x.block) (v:Value):TAt w (wr.setCell x v) a b :=
 ⟨h.1.other (by omega) v,h.2.1.other (by omega) v,h.2.2.1.other (by omega) v,h.2.2.2.setCell (by omega) v⟩
theorem TAt.drew {w wr:World} {a b:Nat→Int} (h:TAt w wr a b):TAt w wr.drew a b:=⟨h.1.drew,h.2.1.drew,h.2.2.1.drew,h.2.2.2.drew⟩
theorem TAt.later {w wr w1:World} {a b:Nat→Int} (h:TAt w wr a b) (hb:Below wr.heap.size wr w1):TAt w w1 a b :=
 ⟨h.1.later (by omega) hb,h.2.1.later (by omega) hb,h.2.2.1.later (by omega) hb,chain h.2.2.2 hb⟩
set_option maxRecDepth 100000 in
set_option maxHeartbeats 8000000 in
theorem Times_any (a b:Nat→Int) (ha:Hid (can a)) (hb:Hid (can b)) (w:World) :
  Calls Tryz.prog 123 #[.agg #[.int .i64 (a 0),.int .i64 (a 1),.int .i64 (a 2),.int .i64 (a 3),.int .i64 (a 4),.int .i64 (a 5),.int .i64 (a 6),.int .i64 (a 7),.int .i64 (a 8),.int .i64 (a 9)],.agg #[.int .i64 (b 0),.int .i64 (b 1),.int .i64 (b 2),.int .i64 (b 3),.int .i64 (b 4),.int .i64 (b 5),.int .i64 (b 6),.int .i64 (b 7),.int .i64 (b 8),.int .i64 (b 9)]] w fun e w'=>∃c:Nat→Int,e = .returned (.agg #[.int .i64 (c 0),.int .i64 (c 1),.int .i64 (c 2),.int .i64 (c 3),.int .i64 (c 4),.int .i64 (c 5),.int .i64 (c 6),.int .i64 (c 7),.int .i64 (c 8),.int .i64 (c 9)])∧(can c∧vN 10 c=(vN 10 a*vN 10 b) % (p:Int))∧Below w.heap.size w w':=by
 go_enter Tryz.func123, Tryz.ntmps123
 go_wp2
 go_loopw [6] (fun s wr=>∃i:Nat,i≤10∧s = .int .i64 i∧Hid (RowAt wr (w.heap.size+1+1+1) 20 (pr a b i)∧TAt w wr a b)) (fun s _=>10 - (intOf s).toNat)
 case atStart =>
  have q1:=(((row_new w a 114).later (by omega) (below_alloc _ (.cells #[.int .i64 (b 0),.int .i64 (b 1),.int .i64 (b 2),.int .i64 (b 3),.int .i64 (b 4),.int .i64 (b 5),.int .i64 (b 6),.int .i64 (b 7),.int .i64 (b 8),.int .i64 (b 9)] 114))).later (by omega) (below_alloc _ (.cells #[.int .i64 0,.int .i64 0,.int .i64 0,.int .i64 0,.int .i64 0,.int .i64 0,.int .i64 0,.int .i64 0,.int .i64 0,.int .i64 0] 114))).later (by omega) (below_alloc _ (.cells #[.int .i64 0,.int .i64 0,.int .i64 0,.int .i64 0,.int .i64 0,.int .i64 0,.int .i64 0,.int .i64 0,.int .i64 0,.int .i64 0,.int .i64 0,.int .i64 0,.int .i64 0,.int .i64 0,.int .i64 0,.int .i64 0,.int .i64 0,.int .i64 0,.int .i64 0,.int .i64 0] 178))
  have q2:=((row_new (w.alloc (.cells #[.int .i64 (a 0),.int .i64 (a 1),.int .i64 (a 2),.int .i64 (a 3),.int .i64 (a 4),.int .i64 (a 5),.int .i64 (a 6),.int .i64 (a 7),.int .i64 (a 8),.int .i64 (a 9)] 114)) b 114).later (by omega) (below_alloc _ (.cells #[.int .i64 0,.int .i64 0,.int .i64 0,.int .i64 0,.int .i64 0,.int .i64 0,.int .i64 0,.int .i64 0,.int .i64 0,.int .i64 0] 114))).later (by omega) (below_alloc _ (.cells #[.int .i64 0,.int .i64 0,.int .i64 0,.int .i64 0,.int .i64 0,.int .i64 0,.int .i64 0,.int .i64 0,.int .i64 0,.int .i64 0,.int .i64 0,.int .i64 0,.int .i64 0,.int .i64 0,.int .i64 0,.int .i64 0,.int .i64 0,.int .i64 0,.int .i64 0,.int .i64 0] 178))
  have q3:=(row_zero ((w.alloc (.cells #[.int .i64 (a 0),.int .i64 (a 1),.int .i64 (a 2),.int .i64 (a 3),.int .i64 (a 4),.int .i64 (a 5),.int .i64 (a 6),.int .i64 (a 7),.int .i64 (a 8),.int .i64 (a 9)] 114)).alloc (.cells #[.int .i64 (b 0),.int .i64 (b 1),.int .i64 (b 2),.int .i64 (b 3),.int .i64 (b 4),.int .i64 (b 5),.int .i64 (b 6),.int .i64 (b 7),.int .i64 (b 8),.int .i64 (b 9)] 114)) 114).later (by omega) (below_alloc _ (.cells #[.int .i64 0,.int .i64 0,.int .i64 0,.int .i64 0,.int .i64 0,.int .i64 0,.int .i64 0,.int .i64 0,.int .i64 0,.int .i64 0,.int .i64 0,.int .i64 0,.int .i64 0,.int .i64 0,.int .i64 0,.int .i64 0,.int .i64 0,.int .i64 0,.int .i64 0,.int .i64 0] 178))
  have q4:=row_zero20 (((w.alloc (.cells #[.int .i64 (a 0),.int .i64 (a 1),.int .i64 (a 2),.int .i64 (a 3),.int .i64 (a 4),.int .i64 (a 5),.int .i64 (a 6),.int .i64 (a 7),.int .i64 (a 8),.int .i64 (a 9)] 114)).alloc (.cells #[.int .i64 (b 0),.int .i64 (b 1),.int .i64 (b 2),.int .i64 (b 3),.int .i64 (b 4),.int .i64 (b 5),.int .i64 (b 6),.int .i64 (b 7),.int .i64 (b 8),.int .i64 (b 9)] 114)).alloc (.cells #[.int .i64 0,.int .i64 0,.int .i64 0,.int .i64 0,.int .i64 0,.int .i64 0,.int .i64 0,.int .i64 0,.int .i64 0,.int .i64 0] 114)) 178
  refine⟨0,by omega,rfl,RowAt.congr (d:=fun _=>0) ?_ (fun j hj=>rfl),q1,?_,?_,(((below_alloc _ _).alloc (by simp) _).alloc (by simp;omega) _).alloc (by simp;omega) _⟩
  ·simpa using q4
  ·simpa using q2
  ·simpa using q3
 case round =>
  obtain⟨i,hi,rfl,I⟩:=hrel
  by_cases hi10:i < 10
  ·have bi0:(0:Int)≤(i:Int):=by omega
   have bi1:(i:Int) < 10:=by omega
   go_wp2
   go_loopw [7] (fun s wr=>∃k:Nat,k≤10∧s = .int .i64 k∧Hid (RowAt wr (w.heap.size+1+1+1) 20 (wf a b i k)∧TAt w wr a b)) (fun s _=>10 - (intOf s).toNat)
   case atStart=>exact⟨0,by omega,rfl,RowAt.congr I.out.1 (fun j hj=>(wf_zero a b i j).symm),I.out.2⟩
   case round =>
    obtain⟨k,hk,rfl,N⟩:=hrel
    by_cases hk10:k < 10
    ·have ck:=N.out.1.2 (i+k) (by omega)
     have ca:=N.out.2.1.2 i hi10
     have cb:=N.out.2.2.1.2 k hk10
     have cf:=N.out.1.1
     have b0:(0:Int)≤(k:Int):=by omega
     have b1:(k:Int) < 10:=by omega
     have b2:(i:Int)+(k:Int) < 20:=by omega
     have hX:Hid (wf a b i k (i+k)=pr a b i (i+k)∧(0≤pr a b i (i+k)∧pr a b i (i+k)≤45035996273704960)∧0≤a i*b k∧a i*b k≤4503599627370496):=by
      have h1:=pr_bd a b ha.out hb.out i (i+k) (by omega)
      exact⟨wf_here a b i k,by omega,prod_bd (ha.out i hi10) (hb.out k hk10)⟩
     obtain⟨X,eX⟩:∃X,wf a b i k (i+k)=X:=⟨_,rfl⟩
     obtain⟨Y,eY⟩:∃Y,a i=Y:=⟨_,rfl⟩
     obtain⟨Z,eZ⟩:∃Z,b k=Z:=⟨_,rfl⟩
     obtain⟨Q,eQ⟩:∃Q,Y*Z=Q:=⟨_,rfl⟩
     rw[eX] at ck
     rw[eY] at ca
     rw[eZ] at cb
     have bx:0≤X:=by rw[←eX,hX.out.1];exact hX.out.2.1.1
     have bx2:X≤45035996273704960:=by rw[←eX,hX.out.1];exact hX.out.2.1.2
     have bq:0≤Q:=by rw[←eQ,←eY,←eZ];exact hX.out.2.2.1
     have bq2:Q≤4503599627370496:=by rw[←eQ,←eY,←eZ];exact hX.out.2.2.2
     have EX:Hid (wf a b i k (i+k)=X∧a i=Y∧b k=Z∧Y*Z=Q):=⟨eX,eY,eZ,eQ⟩
     clear eX eY eZ
     go_wp2
     go_region
     go_wp2
     go_roundw
     case rel =>
      rw[←EX.out.1,←EX.out.2.2.2,←EX.out.2.1,←EX.out.2.2.1,hX.out.1]
      exact⟨k+1,by omega,by go_num,RowAt.congr (RowAt.set (RowAt.drew N.out.1) (i+k) (by omega) _) (fun j hj=>wf_next a b i k j),TAt.set N.out.2.drew (by simp) _⟩
     case measure=>simp[intOf];omega
    ·have hkk:k=10:=by omega
     subst hkk
     go_wp2
     go_roundw
     case rel=>exact⟨i+1,by omega,by go_num,RowAt.congr N.out.1 (fun j hj=>wf_full a b i j),N.out.2⟩
     case measure=>simp[intOf];omega
  ·have hii:i=10:=by omega
   subst hii
   clear hi10 hi
   go_wp2
   go_loopw [8] (fun s wr=>∃k:Nat,k≤19∧s = .int .i64 k∧Hid (RowAt wr (w.heap.size+1+1+1) 20 (st (pr a b 10) k)∧TAt w wr a b)) (fun s _=>19 - (intOf s).toNat)
   case atStart=>exact⟨0,by omega,rfl,RowAt.congr I.out.1 (fun j hj=>by unfold st;split;omega;split;(rename_i h1 h2;rw[h2];simp[cy]);rfl),I.out.2⟩
   case round =>
    obtain⟨k,hk,rfl,N⟩:=hrel
    have WB:Hid (∀j,0≤pr a b 10 j∧pr a b 10 j≤45035996273704960):=fun j=>by
     have:=pr_bd a b ha.out hb.out 10 j (by omega);omega
    obtain⟨d,ed⟩:∃d,pr a b 10=d:=⟨_,rfl⟩
    have ED:Hid (pr a b 10=d):=ed
    by_cases hk19:k < 19
    ·rw[ed] at N WB
     clear ed
     have ck:=N.out.1.2 k (by omega)
     have ck1:=N.out.1.2 (k+1) (by omega)
     have fz:=N.out.1.1
     have b0:(0:Int)≤(k:Int):=by omega
     have b1:(k:Int) < 20:=by omega
     have b2:(k:Int)+1 < 20:=by omega
     have HX:Hid (st d k k=d k+cy d k∧st d k (k+1)=d (k+1)∧(-34359738368≤cy d k∧cy d k≤34359738368)∧(0≤d k∧d k≤45035996273704960)∧(0≤d (k+1)∧d (k+1)≤45035996273704960)) :=
      ⟨by unfold st;rw[if_neg (by omega),if_pos rfl],by unfold st;rw[if_neg (by omega),if_neg (by omega)],cy_bd d k (fun j hj=>by have:=WB.out j;omega),WB.out k,WB.out (k+1)⟩
     obtain⟨X,eX⟩:∃X,st d k k=X:=⟨_,rfl⟩
     obtain⟨Y,eY⟩:∃Y,st d k (k+1)=Y:=⟨_,rfl⟩
     rw[eX] at ck
     rw[eY] at ck1
     have EX:Hid (st d k k=X∧st d k (k+1)=Y):=⟨eX,eY⟩
     clear eX eY
     go_wp2
     go_roundw
     case rel =>
      have h1:=HX.out
      rw[EX.out.1,EX.out.2] at h1
      obtain⟨hx,hy,hc,hk1,hk2⟩:=h1
      have w1:wrap64 (X / 67108864*67108864)=X / 67108864*67108864:=w64 _ (by omega)
      have w2:wrap64 (X - X / 67108864*67108864)=md d k:=by rw[w64 _ (by omega)];unfold md;omega
      have w3:wrap64 (Y+X / 67108864)=d (k+1)+cy d (k+1):=by
       rw[w64 _ (by omega)];simp only[cy];omega
      rw[w1,w2,w3,ED.out]
      refine⟨k+1,by omega,by go_num,RowAt.congr (RowAt.set (RowAt.set N.out.1 k (by omega) _) (k+1) (by omega) _) (fun j hj=>st_next d k j),TAt.set (TAt.set N.out.2 (by simp) _) (by simp) _⟩
     case measure=>simp[intOf];omega
    ·have hkk:k=19:=by omega
     subst hkk
     have NW:Hid (RowAt wr (w.heap.size+1+1+1) 20 (wd20 a b)∧TAt w wr a b):=N.out
     clear ed ED hk19 hk N I
     have BW:Hid (∀j,j < 20→0≤wd20 a b j∧wd20 a b j < 67108864):=fun j hj=>wd20_bd a b ha.out hb.out j hj
     go_wp2
     have hne:Hid (w.heap.size+1+1+1 < wr.heap.size):=World.block_lt_of_cell? _ _ (NW.out.1.2 0 (by omega))
     go_loopw [11] (fun s wx=>∃k:Nat,k≤10∧s = .int .i64 k∧Hid (RowAt wx (w.heap.size+1+1+1) 20 (wd20 a b)∧RowAt wx wr.heap.size 10 (Fd.tm a b k)∧TAt w wx a b)) (fun s _=>10 - (intOf s).toNat)
     case atStart =>
      exact⟨0,by omega,rfl,NW.out.1.later (by omega) (below_alloc _ _),RowAt.congr (row_zero wr 114) (fun j hj=>rfl),NW.out.2.later (below_alloc _ _)⟩
     case round =>
      obtain⟨k,hk,rfl,M⟩:=hrel
      by_cases hk10:k < 10
      ·have ck:=M.out.1.2 k (by omega)
       have cp:=M.out.1.2 (10+k) (by omega)
       have co:=M.out.2.1.2 k hk10
       have cf:=M.out.2.1.1
       have b0:(0:Int)≤(k:Int):=by omega
       have b1:(k:Int) < 10:=by omega
       have b2:(k:Int) < 20:=by omega
       have b3:10+(k:Int) < 20:=by omega
       obtain⟨X,eX⟩:∃X,wd20 a b k=X:=⟨_,rfl⟩
       obtain⟨Y,eY⟩:∃Y,wd20 a b (10+k)=Y:=⟨_,rfl⟩
       rw[eX] at ck
       rw[eY] at cp
       have bx:0≤X:=by rw[←eX];exact (BW.out k (by omega)).1
       have bx2:X < 67108864:=by rw[←eX];exact (BW.out k (by omega)).2
       have by1:0≤Y:=by rw[←eY];exact (BW.out (10+k) (by omega)).1
       have by2:Y < 67108864:=by rw[←eY];exact (BW.out (10+k) (by omega)).2
       have EX:Hid (wd20 a b k=X∧wd20 a b (10+k)=Y):=⟨eX,eY⟩
       clear eX eY
       go_wp2
       go_region
       go_wp2
       go_roundw
       case rel =>
        rw[←EX.out.1,←EX.out.2]
        exact⟨k+1,by omega,by go_num,RowAt.other (RowAt.drew M.out.1) (by have:=hne.out;simp;omega) _,RowAt.congr (RowAt.set (RowAt.drew M.out.2.1) k hk10 _) (fun j hj=>tm_next a b k j),TAt.set M.out.2.2.drew (by have:=hne.out;simp;omega) _⟩
       case measure=>simp[intOf];omega
      ·have hkk:k=10:=by omega
       subst hkk
       have c0:=M.out.2.1.2 0 (by omega);have c1:=M.out.2.1.2 1 (by omega);have c2:=M.out.2.1.2 2 (by omega);have c3:=M.out.2.1.2 3 (by omega);have c4:=M.out.2.1.2 4 (by omega);have c5:=M.out.2.1.2 5 (by omega);have c6:=M.out.2.1.2 6 (by omega);have c7:=M.out.2.1.2 7 (by omega);have c8:=M.out.2.1.2 8 (by omega);have c9:=M.out.2.1.2 9 (by omega)
       have TV:=tm_val a b ha.out hb.out
       have ML:Hid (mid (Fd.tm a b 10)):=fun j hj=>by
        have h1:=BW.out j (by omega)
        have h2:=BW.out (10+j) (by omega)
        show _≤Fd.tm a b 10 j∧Fd.tm a b 10 j≤_
        unfold Fd.tm;rw[if_pos hj];omega
       have HV:Hid (0≤vN 10 (Fd.tm a b 10)∧vN 10 (Fd.tm a b 10) < 2 ^ 270):=by
        show _∧_
        omega
       have TE:Hid (vN 10 (Fd.tm a b 10) % (p:Int)=(vN 10 a*vN 10 b) % (p:Int)):=TV.2.2
       clear TV
       go_wp2_with fail
       refine Calls.mono (Small_any (Fd.tm a b 10) ML HV _) ?_
       rintro e w5 ⟨h,rfl,ch,hb5⟩
       have CH:Hid (can h∧vN 10 h=(vN 10 a*vN 10 b) % (p:Int)):=by rw[TE.out] at ch;exact ch
       have J5:Hid (RowAt w5 (w.heap.size+1+1) 10 (fun _=>0)∧Below w.heap.size w w5):=⟨M.out.2.2.2.2.1.later (by omega) hb5,chain M.out.2.2.2.2.2 hb5⟩
       clear hb5 ch c0 c1 c2 c3 c4 c5 c6 c7 c8 c9
       have c0:=J5.out.1.2 0 (by omega);have c1:=J5.out.1.2 1 (by omega);have c2:=J5.out.1.2 2 (by omega);have c3:=J5.out.1.2 3 (by omega);have c4:=J5.out.1.2 4 (by omega);have c5:=J5.out.1.2 5 (by omega);have c6:=J5.out.1.2 6 (by omega);have c7:=J5.out.1.2 7 (by omega);have c8:=J5.out.1.2 8 (by omega);have c9:=J5.out.1.2 9 (by omega)
       have cf:=J5.out.1.1
       go_wp2
       refine bodyPost_ret (v := .agg #[.int .i64 (h 0),.int .i64 (h 1),.int .i64 (h 2),.int .i64 (h 3),.int .i64 (h 4),.int .i64 (h 5),.int .i64 (h 6),.int .i64 (h 7),.int .i64 (h 8),.int .i64 (h 9)]) (by simp[results,Tryz.results123, go_sem, *]) rfl ⟨h,rfl,CH.out,?_⟩
       exact below_put10 J5.out.2 (by omega) h
end Go.Proofs.YtgnkkjknngblbaaGreatDoor.Crv
namespace Go.Proofs.YtgnkkjknngblbaaGreatDoor.Crv
open Go.RowKit Go.Proofs.Fd
set_option maxRecDepth 20000
def dig (c:Nat→Int) (n:Nat):Prop:=can c∧vN 10 c=(n:Int)
theorem dig_times {a b c:Nat→Int} {x y:Nat} (ha:dig a x) (hb:dig b y) (h:can c∧vN 10 c=(vN 10 a*vN 10 b) % (p:Int)):dig c (x*y % p):=by
 refine⟨h.1,?_⟩
 rw[h.2,ha.2,hb.2,←Int.natCast_mul,←Int.natCast_emod]
theorem dig_plus {a b c:Nat→Int} {x y:Nat} (ha:dig a x) (hb:dig b y) (h:can c∧vN 10 c=(vN 10 a+vN 10 b) % (p:Int)):dig c ((x+y) % p):=by
 refine⟨h.1,?_⟩
 rw[h.2,ha.2,hb.2,←Int.natCast_add,←Int.natCast_emod]
theorem dig_less {a b c:Nat→Int} {x y:Nat} (ha:dig a x) (hb:dig b y) (hy:y≤p) (h:can c∧vN 10 c=(vN 10 a+(p:Int) - vN 10 b) % (p:Int)):dig c ((x+p - y) % p):=by
 refine⟨h.1,?_⟩
 rw[h.2,ha.2,hb.2,show (x:Int)+(p:Int) - (y:Int)=((x+p - y:Nat):Int) by omega,←Int.natCast_emod]
def od1 (j:Nat):Int:=if j=0 then 1 else 0
theorem od1_dig:dig od1 1:=by
 refine⟨fun j hj => ?_,by decide⟩
 unfold od1;split <;> omega
set_option maxHeartbeats 1000000 in
theorem One_any (w:World):Calls Tryz.prog 124 #[] w fun e w'=>e = .returned (.agg #[.int .i64 (od1 0),.int .i64 (od1 1),.int .i64 (od1 2),.int .i64 (od1 3),.int .i64 (od1 4),.int .i64 (od1 5),.int .i64 (od1 6),.int .i64 (od1 7),.int .i64 (od1 8),.int .i64 (od1 9)])∧Below w.heap.size w w':=by
 go_enter Tryz.func124, Tryz.ntmps124
 go_wp2
 refine bodyPost_ret (v := .agg #[.int .i64 (od1 0),.int .i64 (od1 1),.int .i64 (od1 2),.int .i64 (od1 3),.int .i64 (od1 4),.int .i64 (od1 5),.int .i64 (od1 6),.int .i64 (od1 7),.int .i64 (od1 8),.int .i64 (od1 9)]) (by simp[results,Tryz.results124, go_sem,od1]) rfl ⟨rfl,?_⟩
 repeat (first|refine Below.setCell ?_ (by simp;try omega) _|refine Below.drew ?_|refine Below.alloc ?_ (by simp;try omega) _|exact Below.refl _ _)
theorem rTimes (a b:Nat→Int) (x y:Nat) (ha:Hid (dig a x)) (hb:Hid (dig b y)) (w:World) :
  Calls Tryz.prog 123 #[.agg #[.int .i64 (a 0),.int .i64 (a 1),.int .i64 (a 2),.int .i64 (a 3),.int .i64 (a 4),.int .i64 (a 5),.int .i64 (a 6),.int .i64 (a 7),.int .i64 (a 8),.int .i64 (a 9)],.agg #[.int .i64 (b 0),.int .i64 (b 1),.int .i64 (b 2),.int .i64 (b 3),.int .i64 (b 4),.int .i64 (b 5),.int .i64 (b 6),.int .i64 (b 7),.int .i64 (b 8),.int .i64 (b 9)]] w fun e w'=>∃c:Nat→Int,e = .returned (.agg #[.int .i64 (c 0),.int .i64 (c 1),.int .i64 (c 2),.int .i64 (c 3),.int .i64 (c 4),.int .i64 (c 5),.int .i64 (c 6),.int .i64 (c 7),.int .i64 (c 8),.int .i64 (c 9)])∧dig c (x*y % p)∧Below w.heap.size w w':=by
 refine Calls.mono (Times_any a b ha.out.1 hb.out.1 w) ?_
 rintro e w1 ⟨c,rfl,hc,hb1⟩
 exact⟨c,rfl,dig_times ha.out hb.out hc,hb1⟩
set_option maxRecDepth 100000 in
set_option maxHeartbeats 8000000 in
theorem Inverse_any (a:Nat→Int) (x:Nat) (ha:Hid (dig a x)) (w:World) :
  Calls Tryz.prog 126 #[.agg #[.int .i64 (a 0),.int .i64 (a 1),.int .i64 (a 2),.int .i64 (a 3),.int .i64 (a 4),.int .i64 (a 5),.int .i64 (a 6),.int .i64 (a 7),.int .i64 (a 8),.int .i64 (a 9)]] w fun e w'=>∃c:Nat→Int,e = .returned (.agg #[.int .i64 (c 0),.int .i64 (c 1),.int .i64 (c 2),.int .i64 (c 3),.int .i64 (c 4),.int .i64 (c 5),.int .i64 (c 6),.int .i64 (c 7),.int .i64 (c 8),.int .i64 (c 9)])∧dig c (x ^ (p - 2) % p)∧Below w.heap.size w w':=by
 go_enter Tryz.func126, Tryz.ntmps126
 go_wp2_with fail
 refine Calls.mono (One_any _) ?_
 rintro e w4 ⟨rfl,hb4⟩
 have M:Hid (RowAt w4 w.heap.size 10 a∧RowAt w4 (w.heap.size+1) 10 (fun _=>0)∧Below w.heap.size w w4):=by
  have r1:=(row_new w a 114).later (by omega) (below_alloc _ (.cells #[.int .i64 0,.int .i64 0,.int .i64 0,.int .i64 0,.int .i64 0,.int .i64 0,.int .i64 0,.int .i64 0,.int .i64 0,.int .i64 0] 114))
  have r2:=row_zero (w.alloc (.cells #[.int .i64 (a 0),.int .i64 (a 1),.int .i64 (a 2),.int .i64 (a 3),.int .i64 (a 4),.int .i64 (a 5),.int .i64 (a 6),.int .i64 (a 7),.int .i64 (a 8),.int .i64 (a 9)] 114)) 114
  refine⟨r1.later (by omega) hb4,?_,chain ((below_alloc _ _).alloc (by simp) _) hb4⟩
  have:=r2.later (by omega) hb4;simpa using this
 clear hb4
 have hne:Hid (w.heap.size < w4.heap.size∧w.heap.size+1 < w4.heap.size):=⟨World.block_lt_of_cell? _ _ (M.out.1.2 0 (by omega)),World.block_lt_of_cell? _ _ (M.out.2.1.2 0 (by omega))⟩
 go_wp2
 go_loopw [4] (fun s wr=>∃(n:Nat) (y:Int) (f:Nat→Int),s = .int .i64 y∧Hid (y=254 - (n:Int)) ∧ -1≤y∧y≤254∧Hid (RowAt wr w.heap.size 10 a∧RowAt wr (w.heap.size+1) 10 (fun _=>0)∧RowAt wr w4.heap.size 10 f∧dig f (x ^ ex n % p)∧Below w.heap.size w wr)) (fun s _=>(intOf s+1).toNat)
 case atStart =>
  have ba:Below w4.heap.size w4 (w4.alloc (.cells #[.int .i64 (od1 0),.int .i64 (od1 1),.int .i64 (od1 2),.int .i64 (od1 3),.int .i64 (od1 4),.int .i64 (od1 5),.int .i64 (od1 6),.int .i64 (od1 7),.int .i64 (od1 8),.int .i64 (od1 9)] 114)):=below_alloc _ _
  refine⟨0,254,od1,rfl,rfl,by omega,by omega,M.out.1.later (by omega) ba,M.out.2.1.later (by omega) ba,row_new w4 od1 114, ?_,chain M.out.2.2 ba⟩
  rw[show x ^ ex 0 % p=1 by (show x ^ 0 % p=1);rw[Nat.pow_zero];decide];exact od1_dig
 case round =>
  obtain⟨n,y,f,rfl,hy,lo,hi,I⟩:=hrel
  have c0:=I.out.2.2.1.2 0 (by omega);have c1:=I.out.2.2.1.2 1 (by omega);have c2:=I.out.2.2.1.2 2 (by omega);have c3:=I.out.2.2.1.2 3 (by omega);have c4:=I.out.2.2.1.2 4 (by omega);have c5:=I.out.2.2.1.2 5 (by omega);have c6:=I.out.2.2.1.2 6 (by omega);have c7:=I.out.2.2.1.2 7 (by omega);have c8:=I.out.2.2.1.2 8 (by omega);have c9:=I.out.2.2.1.2 9 (by omega)
  by_cases hlt:y < 0
  ·have hg:¬(0:Int)≤y:=by omega
   have hn:Hid (n=255):=by have:=hy.out;show n=255;omega
   have r0:=I.out.2.1.2 0 (by omega);have r1:=I.out.2.1.2 1 (by omega);have r2:=I.out.2.1.2 2 (by omega);have r3:=I.out.2.1.2 3 (by omega);have r4:=I.out.2.1.2 4 (by omega);have r5:=I.out.2.1.2 5 (by omega);have r6:=I.out.2.1.2 6 (by omega);have r7:=I.out.2.1.2 7 (by omega);have r8:=I.out.2.1.2 8 (by omega);have r9:=I.out.2.1.2 9 (by omega)
   have rf:=I.out.2.1.1
   go_wp2
   refine bodyPost_ret (v := .agg #[.int .i64 (f 0),.int .i64 (f 1),.int .i64 (f 2),.int .i64 (f 3),.int .i64 (f 4),.int .i64 (f 5),.int .i64 (f 6),.int .i64 (f 7),.int .i64 (f 8),.int .i64 (f 9)]) (by simp[results,Tryz.results126, go_sem, *]) rfl ⟨f,rfl,?_,?_⟩
   ·have:=I.out.2.2.2.1;rw[hn.out,ex_all] at this;exact this
   ·exact below_put10 I.out.2.2.2.2 (by omega) f
  ·have hg:(0:Int)≤y:=by omega
   clear lo hlt
   go_wp2_with fail
   refine Calls.mono (rTimes f f _ _ I.out.2.2.2.1 I.out.2.2.2.1 _) ?_
   rintro e w1 ⟨h,rfl,dh,hb1⟩
   have J:Hid (RowAt w1 w.heap.size 10 a∧RowAt w1 (w.heap.size+1) 10 (fun _=>0)∧RowAt w1 w4.heap.size 10 f∧dig h (x ^ (2*ex n) % p)∧Below w.heap.size w w1) :=
    ⟨I.out.1.later (by omega) hb1,I.out.2.1.later (by omega) hb1,I.out.2.2.1.later (by omega) hb1,by rw[pow_sq_mod] at dh;exact dh,chain I.out.2.2.2.2 hb1⟩
   clear dh hb1 c0 c1 c2 c3 c4 c5 c6 c7 c8 c9
   have c0:=J.out.2.2.1.2 0 (by omega);have c1:=J.out.2.2.1.2 1 (by omega);have c2:=J.out.2.2.1.2 2 (by omega);have c3:=J.out.2.2.1.2 3 (by omega);have c4:=J.out.2.2.1.2 4 (by omega);have c5:=J.out.2.2.1.2 5 (by omega);have c6:=J.out.2.2.1.2 6 (by omega);have c7:=J.out.2.2.1.2 7 (by omega);have c8:=J.out.2.2.1.2 8 (by omega);have c9:=J.out.2.2.1.2 9 (by omega)
   have cf:=J.out.2.2.1.1
   by_cases h2:y=2
   ·have b2:(y != 2)=false:=by simp[h2]
    have hn:Hid (n=252∨n=250):=by have:=hy.out;show n=252∨n=250;omega
    clear h2
    go_wp2
    go_roundw
    case rel =>
     refine⟨n+1,y - 1,h,by go_num,?_,by omega,by omega,RowAt.put J.out.1 (by have:=hne.out;omega) h,RowAt.put J.out.2.1 (by have:=hne.out;omega) h,RowAt.whole J.out.2.2.1 h,?_,below_put10 J.out.2.2.2.2 (by have:=hne.out;omega) h⟩
     ·have:=hy.out;show y - 1=_;omega
     ·rw[ex_skip n hn.out];exact J.out.2.2.2.1
    case measure=>simp[intOf];omega
   ·by_cases h4:y=4
    ·have b2:(y != 2)=true:=by simp[h2]
     have b4:(y != 4)=false:=by simp[h4]
     have hn:Hid (n=252∨n=250):=by have:=hy.out;show n=252∨n=250;omega
     clear h2 h4
     go_wp2
     go_roundw
     case rel =>
      refine⟨n+1,y - 1,h,by go_num,?_,by omega,by omega,RowAt.put J.out.1 (by have:=hne.out;omega) h,RowAt.put J.out.2.1 (by have:=hne.out;omega) h,RowAt.whole J.out.2.2.1 h,?_,below_put10 J.out.2.2.2.2 (by have:=hne.out;omega) h⟩
      ·have:=hy.out;show y - 1=_;omega
      ·rw[ex_skip n hn.out];exact J.out.2.2.2.1
     case measure=>simp[intOf];omega
    ·have b2:(y != 2)=true:=by simp[h2]
     have b4:(y != 4)=true:=by simp[h4]
     have hn:Hid (¬(n=252∨n=250)):=by have:=hy.out;show ¬(n=252∨n=250);omega
     clear h2 h4
     have q0:=J.out.1.2 0 (by omega);have q1:=J.out.1.2 1 (by omega);have q2:=J.out.1.2 2 (by omega);have q3:=J.out.1.2 3 (by omega);have q4:=J.out.1.2 4 (by omega);have q5:=J.out.1.2 5 (by omega);have q6:=J.out.1.2 6 (by omega);have q7:=J.out.1.2 7 (by omega);have q8:=J.out.1.2 8 (by omega);have q9:=J.out.1.2 9 (by omega)
     have hq:¬w4.heap.size=w.heap.size:=by have:=hne.out;omega
     have hq':¬w.heap.size=w4.heap.size:=by have:=hne.out;omega
     go_wp2_with fail
     refine Calls.mono (rTimes h a _ _ J.out.2.2.2.1 ha _) ?_
     rintro e w2 ⟨g,rfl,dg,hb2⟩
     have K:Hid (RowAt w2 w.heap.size 10 a∧RowAt w2 (w.heap.size+1) 10 (fun _=>0)∧RowAt w2 w4.heap.size 10 h∧dig g (x ^ (2*ex n+1) % p)∧Below w.heap.size w w2) :=
      ⟨RowAt.later (RowAt.put J.out.1 (by have:=hne.out;omega) h) (by omega) hb2,RowAt.later (RowAt.put J.out.2.1 (by have:=hne.out;omega) h) (by omega) hb2,RowAt.later (RowAt.whole J.out.2.2.1 h) (by omega) hb2,by rw[pow_mul_mod] at dg;exact dg,chain (below_put10 J.out.2.2.2.2 (by have:=hne.out;omega) h) hb2⟩
     clear dg hb2 c0 c1 c2 c3 c4 c5 c6 c7 c8 c9 q0 q1 q2 q3 q4 q5 q6 q7 q8 q9 cf
     have c0:=K.out.2.2.1.2 0 (by omega);have c1:=K.out.2.2.1.2 1 (by omega);have c2:=K.out.2.2.1.2 2 (by omega);have c3:=K.out.2.2.1.2 3 (by omega);have c4:=K.out.2.2.1.2 4 (by omega);have c5:=K.out.2.2.1.2 5 (by omega);have c6:=K.out.2.2.1.2 6 (by omega);have c7:=K.out.2.2.1.2 7 (by omega);have c8:=K.out.2.2.1.2 8 (by omega);have c9:=K.out.2.2.1.2 9 (by omega)
     have cf:=K.out.2.2.1.1
     go_wp2
     go_roundw
     case rel =>
      refine⟨n+1,y - 1,g,by go_num,?_,by omega,by omega,RowAt.put K.out.1 (by have:=hne.out;omega) g,RowAt.put K.out.2.1 (by have:=hne.out;omega) g,RowAt.whole K.out.2.2.1 g,?_,below_put10 K.out.2.2.2.2 (by have:=hne.out;omega) g⟩
      ·have:=hy.out;show y - 1=_;omega
      ·rw[ex_take n hn.out];exact K.out.2.2.2.1
     case measure=>simp[intOf];omega
end Go.Proofs.YtgnkkjknngblbaaGreatDoor.Crv
