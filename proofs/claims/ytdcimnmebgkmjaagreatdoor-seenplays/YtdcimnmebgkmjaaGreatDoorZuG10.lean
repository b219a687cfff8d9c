/- Sync. -/
import Derived.Test.YtdcimnmebgkmjaaGreatDoorZuG09
import Derived.Deep.WholeRow
import Derived.Deep.Cut
namespace Go.Proofs.YtdcimnmebgkmjaaGreatDoor
open Go.RowKit Go.Proofs.Fd Go.Proofs.Dk
set_option maxRecDepth 20000
theorem ownsW_at {w:World} {va:Option Addr} {n vc:Nat} {l:List Wt} (h:OwnsW w (.slice va n vc) l) (h64:∀x∈l,x.b.length=64) (k:Nat) (hk:k < l.length):∃g,va=some ⟨g,0,none⟩∧w.rangeAt g (k*65) (wc l[k]):=by
 rcases h.2 with ⟨h1,h2⟩|⟨g,cap,cur,h1,-⟩
 ·omega
 ·have h1':=h1
  injection h1' with e1 e2 e3
  subst e1
  subst e2
  refine⟨g,rfl,fun j u hu => ?_⟩
  have hj:j < 65:=by
   have:=(List.getElem?_eq_some_iff.1 hu).1
   rw[wc_len (h64 _ (List.getElem_mem hk))] at this
   exact this
  rw[h.cellAt (k*65+j) (by omega),wcs_at l h64 k hk j hj,hu]
theorem load_w {w:World} {b o:Nat} {x:Wt} (h:w.rangeAt b o (wc x)) (hl:x.b.length=64):(Instr.loadAt 113 (.pointer (some ⟨b,o,none⟩))).run Tryz.prog w = .ok (.agg (wc x).toArray) w:=by
 obtain⟨i0,hi,hz0,hz1,hz2⟩:=info_parts infoW
 exact run_loadAt_mid w b o _ (wc x) _ h Tryz.underlying113 rfl (by rw[hi,wc_len hl,←hz1];rfl)
theorem alloc_w (w:World):(Instr.alloc 113 true (.tuple #[])).run Tryz.prog w = .ok (.pointer (some ⟨w.heap.size,0,none⟩)) (w.alloc (.cells (#[.int .i64 0]++Array.replicate 64 (.int .u8 0)) 113)):=by
 obtain⟨i0,hi,hz0,hz1,hz2⟩:=info_parts infoW
 simp[Instr.alloc,newVar,newRow,zeroValue,typeInfo,hi,hz0,zeroW,Value.cells]
theorem store_new (x:Wt) (hx:x.b.length=64) (w:World):(Instr.storeAt 113 (.pointer (some ⟨w.heap.size,0,none⟩)) (.agg (wc x).toArray)).run Tryz.prog (w.alloc (.cells (#[.int .i64 0]++Array.replicate 64 (.int .u8 0)) 113)) = .ok () (w.alloc (.cells (wc x).toArray 113)):=by
 obtain⟨i0,hi,hz0,hz1,hz2⟩:=info_parts infoW
 refine run_storeAt_new w _ _ _ (by rw[hi];simp[hz1,wc_len hx]) (by simp[wc_len hx]) (all_oneCell_toArray (fun v hv=>wcs_one [x] v (by simpa[wcs] using hv)))
theorem wp_alloc_run {P:Program} {o:Oper} {a:Act} {w:World} {K:Act→World→Prop} {Q:Exit→Act→World→Prop} (t:TypeId) (ho:o.op = .alloc t)
  (v:Value) (w':World) (hr:(Instr.alloc t true (.tuple #[])).run P w = .ok v w') (h:K (a.put o.dst v) w'):o.wp P a w K Q:=by
 unfold Oper.wp execOp
 simp only[ho,Sem.run_bind,hr,Result.andThen_ok]
 exact h
theorem box_w (x:Wt) (w:World):(w.alloc (.cells (wc x).toArray 113)).cell? ⟨w.heap.size,0,none⟩=some (.int .i64 (x.k:Int))∧(w.alloc (.cells (wc x).toArray 113)).rangeAt w.heap.size 1 (bc x.b):=by
 refine⟨by rw[World.cell?_alloc_new];simp[wc],fun j u hu => ?_⟩
 rw[World.cell?_alloc_new,Nat.add_comm]
 simpa[wc] using hu
theorem exec_load {P:Program} {o:Oper} {a:Act} {w:World} (t:TypeId) (x:Operand) (ho:o.op = .load t x) (u:Value) (hu:a.eval x=u) (v:Value) (hr:(Instr.loadAt t u).run P w = .ok v w):(execOp a.eval o).run P w = .ok (.value v) w:=by
 unfold execOp
 simp only[ho,hu,Sem.run_bind,hr,Result.andThen_ok]
 rfl
theorem store_c {w:World} {b o:Nat} {l:Bs} (h:w.there b o 64) (hl:l.length=64):(Instr.storeAt 98 (.pointer (some ⟨b,o,none⟩)) (.agg (bc l).toArray)).run Tryz.prog w = .ok () (w.setCells b o (bc l)):=by
 obtain⟨i0,hi,hz0,hz1,hz2⟩:=info_parts infoC
 have hs:(bc l).toArray.size=64:=by simp[bc_len,hl]
 have:=run_storeAt_mid (P:=Tryz.prog) w b o 98 (bc l).toArray (by rw[hs];exact h) (by rw[hi,hs,←hz1];rfl) (all_oneCell_toArray (bc_one l))
 simpa using this
theorem Bk.cell {w:World} {a o:Nat} {vs:List Value} {g j:Nat} {v:Value} (hne:a≠g) (h:w.cell? ⟨g,j,none⟩=some v):(w.setCells a o vs).cell? ⟨g,j,none⟩=some v:=(World.cell?_of_block (a:=⟨g,j,none⟩) (setCells_other w a o vs g (Ne.symm hne))).trans h
theorem Bk.range {w:World} {a o:Nat} {vs:List Value} {g j:Nat} {cs:List Value} (hne:a≠g) (h:w.rangeAt g j cs):(w.setCells a o vs).rangeAt g j cs:=rangeAt_same h (setCells_other w a o vs g (Ne.symm hne))
def ops0:Oper:={ dst:=some 23,op:=Go.Op.move (Go.Operand.tmp 0),type := 23, pos := "disk.go:78", after:=#[],guard:=none }
def ops1:Oper:={ dst:=some 24,op:=Go.Op.nilCheck (Go.Operand.tmp 23),type:=0,pos := "disk.go:78", after:=#[{ on:=0,ground:=Go.Ground.data }],guard:=none }
def ops2:Oper:={ dst:=some 25,op:=Go.Op.fieldAddr 67 (Go.Operand.tmp 24) 2,type:=0,pos := "disk.go:78", after:=#[{ on:=1,ground:=Go.Ground.data }],guard:=none }
def ops3:Oper:={ dst:=some 26,op:=Go.Op.load 64 (Go.Operand.tmp 25),type := 64, pos := "disk.go:78", after:=#[{ on:=2,ground:=Go.Ground.data }],guard:=none }
def ops4:Oper:={ dst:=some 27,op:=Go.Op.fieldAddr 113 (Go.Operand.tmp 4) 0,type:=0,pos := "disk.go:78", after:=#[],guard:=none }
def ops5:Oper:={ dst:=some 28,op:=Go.Op.load 3 (Go.Operand.tmp 27),type := 3, pos := "disk.go:78", after:=#[{ on:=4,ground:=Go.Ground.data }],guard:=none }
def ops6:Oper:={ dst:=some 29,op:=Go.Op.fieldAddr 113 (Go.Operand.tmp 4) 1,type:=0,pos := "disk.go:78", after:=#[],guard:=none }
def ops7:Oper:={ dst:=some 30,op:=Go.Op.load 98 (Go.Operand.tmp 29),type := 98, pos := "disk.go:78", after:=#[{ on:=6,ground:=Go.Ground.data }],guard:=none }
def ops8:Oper:={ dst:=some 31,op:=Go.Op.indexAddr 64 (Go.Operand.tmp 26) (Go.Operand.tmp 28),type:=0,pos := "disk.go:78", after:=#[{ on:=3,ground:=Go.Ground.data },{ on:=5,ground:=Go.Ground.data },{ on:=0,ground:=Go.Ground.phase },{ on:=1,ground:=Go.Ground.phase },{ on:=2,ground:=Go.Ground.phase },{ on:=3,ground:=Go.Ground.phase },{ on:=4,ground:=Go.Ground.phase },{ on:=5,ground:=Go.Ground.phase },{ on:=6,ground:=Go.Ground.phase },{ on:=7,ground:=Go.Ground.phase }],guard:=none }
def ops9:Oper:={ dst:=none,op:=Go.Op.store 98 (Go.Operand.tmp 31) (Go.Operand.tmp 30),type:=0,pos := "disk.go:78", after:=#[{ on:=8,ground:=Go.Ground.data },{ on:=7,ground:=Go.Ground.data },{ on:=0,ground:=Go.Ground.phase },{ on:=1,ground:=Go.Ground.phase },{ on:=2,ground:=Go.Ground.phase },{ on:=3,ground:=Go.Ground.phase },{ on:=4,ground:=Go.Ground.phase },{ on:=5,ground:=Go.Ground.phase },{ on:=6,ground:=Go.Ground.phase },{ on:=7,ground:=Go.Ground.phase }],guard:=none }
set_option maxHeartbeats 2000000 in
theorem sync_any (p:Nat) (F:Nat→Prop) (s:St) (w:World) (h:KAt w p F s) (hl:s.l.length≤1000000) :
  Calls Tryz.prog 100 #[.pointer (some ⟨p,0,none⟩)] w fun e w'=>e = .returned (.int .i64 (syE s))∧Stp w p F (syS s) w':=by
 have c0:w.cell? ⟨p,0,none⟩=some (.int .i64 (if s.down=true then 1 else 0)):=by
  obtain⟨-,a,b,v,-,hr⟩:=h
  exact hr.c0
 unfold syE syS
 by_cases hd:s.down=true
 ·rw[if_pos hd] at c0
  rw[if_pos hd,if_pos hd]
  have FF:Hid (Stp w p F s w):=h.stays (Below.refl _ _)
  clear h hl hd
  go_enter Tryz.func100, Tryz.ntmps100
  go_wp2
  go_ret
  exact⟨rfl,FF.out⟩
 ·rw[if_neg hd] at c0
  rw[if_neg hd,if_neg hd]
  have BN:Hid _:=burn_any p F s (by simpa using hd) w h
  by_cases hf:s.fuse=1
  ·rw[if_pos hf,if_pos hf]
   have e1:decide (s.fuse=1)=true:=decide_eq_true hf
   rw[e1] at BN
   clear h hl hd hf e1
   go_enter Tryz.func100, Tryz.ntmps100
   go_wp2_with fail
   refine Calls.mono BN.out ?_
   rintro e w2 ⟨rfl,h1,h2⟩
   have FF:Hid (Stp w p F (brnS s) w2):=⟨F,h1,Nx.refl _ _,h2⟩
   clear h1 h2 BN
   go_wp2
   go_ret
   exact⟨rfl,FF.out⟩
  ·rw[if_neg hf,if_neg hf]
   have e1:decide (s.fuse=1)=false:=decide_eq_false hf
   rw[e1] at BN
   have HL:Hid (s.l.length≤1000000):=hl
   have HO0:Hid (Ok s):=h.1
   clear h hd hf e1
   go_enter Tryz.func100, Tryz.ntmps100
   go_wp2_with fail
   refine Calls.mono BN.out ?_
   rintro e w1 ⟨rfl,h1,h2⟩
   obtain⟨ho,a,b,v,rfl,hr⟩:=h1
   have hrow:=hr.row
   obtain⟨va,vc,rfl⟩:=ownsW_slice hrow
   have c4:=hr.c4
   have I0:Hid (Raw w1 p s.n (brnS s).down (brnS s).fuse s.f s.sh s.l a b (.slice va s.l.length vc)∧Bf (Foot p a b (.slice va s.l.length vc)) w w1):=⟨hr,h2⟩
   have HO:Hid (Ok s):=HO0.out
   obtain⟨n,hn⟩:∃n,s.l.length=n:=⟨_,rfl⟩
   have c4':w1.cell? ⟨p,4,none⟩=some (.slice va n vc):=by rw[←hn];exact c4
   rw[hn] at I0 hl
   clear hr h2 ho BN hrow c4
   go_wp2_with fail
   go_loopw [19] (fun i wr=>∃(k:Nat) (f:Nat→Bs),k≤n∧i = .int .i64 (k:Int)∧Hid (Raw wr p s.n (brnS s).down (brnS s).fuse f s.sh s.l a b (.slice va n vc)∧Bf (Foot p a b (.slice va n vc)) w wr∧lay f (s.l.drop k)=s.sh)) (fun i wr=>n - (intOf i).toNat)
   case atStart=>exact⟨0,s.f,Nat.zero_le _,rfl,I0.out.1,I0.out.2,rfl⟩
   case round =>
    obtain⟨k,f,hk,rfl,I⟩:=hrel
    clear I0
    by_cases hlt:k < n
    ·have g1:(k:Int) < (n:Int):=by omega
     have hkl:k < s.l.length:=by omega
     obtain⟨g,rfl,RW⟩:=ownsW_at I.out.1.row (fun x hx=>(HO.out.wk x hx).2) k hkl
     have LW:Hid _:=load_w RW (HO.out.wk _ (List.getElem_mem hkl)).2
     obtain⟨x,hx⟩:∃x,s.l[k]=x:=⟨_,rfl⟩
     have h64:x.b.length=64:=by rw[←hx];exact (HO.out.wk _ (List.getElem_mem hkl)).2
     have hxk:x.k < s.n:=by rw[←hx];exact (HO.out.wk _ (List.getElem_mem hkl)).1
     rw[hx] at LW
     have SN:Hid _:=store_new x h64 wr
     have BX:Hid _:=box_w x wr
     have J1:Hid (Raw (wr.alloc (.cells (wc x).toArray 113)) p s.n (brnS s).down (brnS s).fuse f s.sh s.l a b (.slice (some ⟨g,0,none⟩) n vc)∧Bf (Foot p a b (.slice (some ⟨g,0,none⟩) n vc)) w (wr.alloc (.cells (wc x).toArray 113))):=⟨I.out.1.later ((Below.refl _ _).alloc (Nat.le_refl _) _),I.out.2.1.later ((Below.refl _ _).alloc (Nat.le_refl _) _)⟩
     have LY:Hid (lay (upd f x.k x.b) (s.l.drop (k+1))=s.sh):=by
      have:=I.out.2.2
      rw[List.drop_eq_getElem_cons hkl,hx,lay] at this
      exact this
     have NB:Hid (∀q,Foot p a b (.slice (some ⟨g,0,none⟩) n vc) q→q≠wr.heap.size):=fun q hq=>Nat.ne_of_lt (I.out.1.lt hq)
     clear I RW hx
     go_upto_region 5 with fail
     refine wp_region_lit ?_
     refine wpList_plain rfl (fun K hK => ?_)
     go_simp
     refine hK _ _ ?_
     clear hK K
     refine wpList_plain rfl (fun K hK=>wp_load_run _ _ rfl _ rfl _ LW.out (hK _ _ ?_))
     refine wpList_plain rfl (fun K hK=>wp_alloc_run _ rfl _ _ (alloc_w _) (hK _ _ ?_))
     refine wpList_plain rfl (fun K hK=>wp_store_run _ _ _ rfl _ rfl _ rfl _ SN.out (hK _ _ ?_))
     refine wpList_nil ?_
     obtain⟨B,hB⟩:∃B,wr.heap.size=B:=⟨_,rfl⟩
     obtain⟨W,hW⟩:∃W,wr.alloc (.cells (wc x).toArray 113)=W:=⟨_,rfl⟩
     simp only[Act.put,List.setIfInBounds_toArray,List.set_cons_zero,List.set_cons_succ]
     rw[hB] at NB BX ⊢
     rw[hW] at BX J1 ⊢
     clear LW SN hB hW
     have c2:=J1.out.1.c2
     have G3:(x.k:Int) < ((s.n:Nat):Int):=by omega
     have RA:Hid (Raw ((W.drew).setCells a (x.k*64) (bc x.b)) p s.n (brnS s).down (brnS s).fuse (upd f x.k x.b) s.sh s.l a b (.slice (some ⟨g,0,none⟩) n vc)∧Bf (Foot p a b (.slice (some ⟨g,0,none⟩) n vc)) w ((W.drew).setCells a (x.k*64) (bc x.b))) :=
      ⟨(J1.out.1.later (Below.refl _ _).drew).wholeA hxk h64,(J1.out.2.later (Below.refl _ _).drew).trans (Nx.refl _ _) (Bf.sets _ a (.inr (.inl rfl)) _ _ _)⟩
     have PA:Hid (a≠p):=J1.out.1.pa
     have TH:Hid (W.drew.there a (x.k*64) 64):=(J1.out.1.later (Below.refl _ _).drew).sa.there hxk
     have AB:Hid (a≠B):=NB.out a (.inr (.inl rfl))
     have b0:=BX.out.1
     have RB:=BX.out.2
     have H64:Hid (x.b.length=64):=h64
     obtain⟨N,hN⟩:∃N,s.n=N:=⟨_,rfl⟩
     rw[hN] at c2 G3
     go_upto_region 6 with fail
     clear J1 BX NB h64
     refine wp_region_noPanic ?_
     refine wp_region_held_drew (S:=fun w'=>w'.cell? ⟨p,2,none⟩=some (.slice (some ⟨a,0,none⟩) N N)∧w'.cell? ⟨B,0,none⟩=some (.int .i64 (x.k:Int))∧w'.rangeAt B 1 (bc x.b)) (by kernel_rfl) (⟨c2,b0,RB⟩) (fun hHeld => ?_)
     obtain⟨Z,hZ⟩:∃Z,W.drew=Z:=⟨_,rfl⟩
     rw[hZ] at hHeld RA TH ⊢
     clear c2 b0 RB hZ
     refine wpAnyH_take (i:=0) (oi:=ops0) (v := ?_) rfl (by kernel_rfl) (by kernel_rfl) (by kernel_rfl) (fun _ _ _ h=>h) (Or.inl ⟨by rfl,?_⟩) (by assumption) ?_
     rotate_left
     ·intro w' hSw
      clear hSw
      unfold ops0
      first
      | (go_simp;done)
      | (go_simp;with_reducible rfl)
     simp only[ops0,Act.put,List.setIfInBounds_toArray,List.set_cons_zero,List.set_cons_succ]
     refine wpAnyH_take (i:=1) (oi:=ops1) (v := ?_) rfl (by kernel_rfl) (by kernel_rfl) (by kernel_rfl) (fun _ _ _ h=>h) (Or.inl ⟨by rfl,?_⟩) (by assumption) ?_
     rotate_left
     ·intro w' hSw
      clear hSw
      unfold ops1
      first
      | (go_simp;done)
      | (go_simp;with_reducible rfl)
     simp only[ops1,Act.put,List.setIfInBounds_toArray,List.set_cons_zero,List.set_cons_succ]
     refine wpAnyH_take (i:=2) (oi:=ops2) (v := ?_) rfl (by kernel_rfl) (by kernel_rfl) (by kernel_rfl) (fun _ _ _ h=>h) (Or.inl ⟨by rfl,?_⟩) (by assumption) ?_
     rotate_left
     ·intro w' hSw
      clear hSw
      unfold ops2
      first
      | (go_simp;done)
      | (go_simp;with_reducible rfl)
     simp only[ops2,Act.put,List.setIfInBounds_toArray,List.set_cons_zero,List.set_cons_succ]
     refine wpAnyH_take (i:=3) (oi:=ops3) (v := ?_) rfl (by kernel_rfl) (by kernel_rfl) (by kernel_rfl) (fun _ _ _ h=>h) (Or.inl ⟨by rfl,?_⟩) (by assumption) ?_
     rotate_left
     ·intro w' hSw
      obtain⟨s0,s1,s2⟩:=hSw
      unfold ops3
      first
      | (go_simp;done)
      | (go_simp;with_reducible rfl)
     simp only[ops3,Act.put,List.setIfInBounds_toArray,List.set_cons_zero,List.set_cons_succ]
     refine wpAnyH_take (i:=4) (oi:=ops4) (v := ?_) rfl (by kernel_rfl) (by kernel_rfl) (by kernel_rfl) (fun _ _ _ h=>h) (Or.inl ⟨by rfl,?_⟩) (by assumption) ?_
     rotate_left
     ·intro w' hSw
      clear hSw
      unfold ops4
      first
      | (go_simp;done)
      | (go_simp;with_reducible rfl)
     simp only[ops4,Act.put,List.setIfInBounds_toArray,List.set_cons_zero,List.set_cons_succ]
     refine wpAnyH_take (i:=5) (oi:=ops5) (v := ?_) rfl (by kernel_rfl) (by kernel_rfl) (by kernel_rfl) (fun _ _ _ h=>h) (Or.inl ⟨by rfl,?_⟩) (by assumption) ?_
     rotate_left
     ·intro w' hSw
      obtain⟨s0,s1,s2⟩:=hSw
      unfold ops5
      first
      | (go_simp;done)
      | (go_simp;with_reducible rfl)
     simp only[ops5,Act.put,List.setIfInBounds_toArray,List.set_cons_zero,List.set_cons_succ]
     refine wpAnyH_take (i:=6) (oi:=ops6) (v := ?_) rfl (by kernel_rfl) (by kernel_rfl) (by kernel_rfl) (fun _ _ _ h=>h) (Or.inl ⟨by rfl,?_⟩) (by assumption) ?_
     rotate_left
     ·intro w' hSw
      clear hSw
      unfold ops6
      first
      | (go_simp;done)
      | (go_simp;with_reducible rfl)
     simp only[ops6,Act.put,List.setIfInBounds_toArray,List.set_cons_zero,List.set_cons_succ]
     refine wpAnyH_take (i:=7) (oi:=ops7) (v:=(.agg (bc x.b).toArray)) rfl (by kernel_rfl) (by kernel_rfl) (by kernel_rfl) (fun _ _ _ h=>h) (Or.inl ⟨by rfl,fun w' hSw=>exec_load _ _ rfl _ rfl _ (load_c hSw.2.2 H64.out)⟩) (by assumption) ?_
     simp only[ops7,Act.put,List.setIfInBounds_toArray,List.set_cons_zero,List.set_cons_succ]
     refine wpAnyH_take (i:=8) (oi:=ops8) (v := ?_) rfl (by kernel_rfl) (by kernel_rfl) (by kernel_rfl) (fun _ _ _ h=>h) (Or.inl ⟨by rfl,?_⟩) (by assumption) ?_
     rotate_left
     ·intro w' hSw
      clear hSw
      unfold ops8
      first
      | (go_simp;done)
      | (go_simp;with_reducible rfl)
     simp only[ops8,Act.put,List.setIfInBounds_toArray,List.set_cons_zero,List.set_cons_succ]
     refine wpAnyH_ready (rs:=[9]) (by kernel_rfl) (by simp) ?_
     refine AllReadyH.cons (o:=ops9) rfl (fun KK hKK => ?_) AllReadyH.nil
     rw[if_pos (by kernel_rfl)]
     refine wp_store_run _ _ _ rfl _ rfl _ rfl _ (store_c TH.out H64.out) ?_
     refine hKK.out _ _ ⟨Bk.cell PA.out hHeld.1,Bk.cell AB.out hHeld.2.1,Bk.range AB.out hHeld.2.2⟩ (fun hHeldS => ?_)
     clear hKK KK hHeldS hHeld
     simp only[ops9,Act.put]
     refine wpAnyH_done (by kernel_rfl) ?_ _
     refine NoPanic.normal ?_
     all_goals (go_wp2;go_roundw)
     case rel=>exact⟨k+1,upd f x.k x.b,by omega,by go_num,RA.out.1,RA.out.2,LY.out⟩
     case measure=>simp[intOf];omega
    ·obtain rfl:k=n:=by omega
     have e0:f=s.sh:=by
      have:=I.out.2.2
      rw[List.drop_of_length_le (by omega),lay] at this
      exact this
     subst e0
     have R2:=I.out.1.setRow (w1:=wr) (u := .slice none 0 0) (m:=[]) ⟨rfl,rfl,rfl,Nat.le_refl _,fun _ _ _=>rfl⟩ (World.ownsRow_nil _ _ _ _) (fun g e=>by cases e)
     have FF:Hid (Stp w p (Foot p a b (.slice va k vc)) { brnS s with f:=s.sh,l:=[] } (wr.setCell ⟨p,4,none⟩ (.slice none 0 0))):=by
      refine⟨_,⟨⟨HO.out.n1,HO.out.n2,HO.out.sh64,nofun,HO.out.brn.fu⟩,a,b,_,rfl,R2.1⟩,?_,I.out.2.1.trans (Nx.refl _ _) R2.2.2⟩
      exact (Nx.refl w _).trans R2.2.1 I.out.2.1.size
     have c4:=I.out.1.c4
     have f4:=I.out.1.fr 4
     have HN:Hid (s.l.length=k):=hn
     clear I R2 c4' hn c0
     go_wp2
     go_ret
     refine⟨rfl,?_⟩
     have e:(brnS s).l.length=k:=HN.out
     rw[e]
     exact FF.out
end Go.Proofs.YtdcimnmebgkmjaaGreatDoor
