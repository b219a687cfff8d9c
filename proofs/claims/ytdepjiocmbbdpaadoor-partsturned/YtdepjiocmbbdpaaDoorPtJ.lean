/- A message keeps a part; its body. -/
import Derived.Test.YtdepjiocmbbdpaaDoorPtI
import Derived.Sort.Row
namespace Go.Proofs.YtdepjiocmbbdpaaDoor
open Go.RowKit Go.Proofs.Fd Go.Proofs.Pt
set_option maxRecDepth 20000

def opt10 : Oper := { dst := some 6, op := Go.Op.move (Go.Operand.tmp 0), type := 79, pos := "message.go:23", after := #[], guard := none }
def opt11 : Oper := { dst := some 7, op := Go.Op.nilCheck (Go.Operand.tmp 6), type := 0, pos := "message.go:23", after := #[{ on := 0, ground := Go.Ground.data }], guard := none }
def opt12 : Oper := { dst := some 8, op := Go.Op.fieldAddr 83 (Go.Operand.tmp 7) 0, type := 0, pos := "message.go:23", after := #[{ on := 1, ground := Go.Ground.data }], guard := none }
def opt13 : Oper := { dst := some 9, op := Go.Op.load 60 (Go.Operand.tmp 8), type := 60, pos := "message.go:23", after := #[{ on := 2, ground := Go.Ground.data }], guard := none }
def opt14 : Oper := { dst := some 10, op := Go.Op.fieldAddr 64 (Go.Operand.tmp 3) 0, type := 0, pos := "message.go:23", after := #[], guard := none }
def opt15 : Oper := { dst := some 11, op := Go.Op.load 60 (Go.Operand.tmp 10), type := 60, pos := "message.go:23", after := #[{ on := 4, ground := Go.Ground.data }], guard := none }
def opt16 : Oper := { dst := some 12, op := Go.Op.binOp Go.BinOp.neq 60 (Go.Operand.tmp 9) (Go.Operand.tmp 11) 60, type := 4, pos := "message.go:23", after := #[{ on := 3, ground := Go.Ground.data }, { on := 5, ground := Go.Ground.data }], guard := none }
def opt17 : Oper := { dst := some 5, op := Go.Op.assign (Go.Operand.tmp 12), type := 4, pos := "message.go:23", after := #[{ on := 6, ground := Go.Ground.data }], guard := none }
def opt30 : Oper := { dst := some 14, op := Go.Op.move (Go.Operand.tmp 0), type := 79, pos := "message.go:25", after := #[], guard := none }
def opt31 : Oper := { dst := some 15, op := Go.Op.nilCheck (Go.Operand.tmp 14), type := 0, pos := "message.go:25", after := #[{ on := 0, ground := Go.Ground.data }], guard := none }
def opt32 : Oper := { dst := some 16, op := Go.Op.fieldAddr 83 (Go.Operand.tmp 15) 1, type := 0, pos := "message.go:25", after := #[{ on := 1, ground := Go.Ground.data }], guard := none }
def opt33 : Oper := { dst := some 17, op := Go.Op.load 22 (Go.Operand.tmp 16), type := 22, pos := "message.go:25", after := #[{ on := 2, ground := Go.Ground.data }], guard := none }
def opt34 : Oper := { dst := some 18, op := Go.Op.fieldAddr 64 (Go.Operand.tmp 3) 1, type := 0, pos := "message.go:25", after := #[], guard := none }
def opt35 : Oper := { dst := some 19, op := Go.Op.load 3 (Go.Operand.tmp 18), type := 3, pos := "message.go:25", after := #[{ on := 4, ground := Go.Ground.data }], guard := none }
def opt36 : Oper := { dst := some 20, op := Go.Op.indexAddr 22 (Go.Operand.tmp 17) (Go.Operand.tmp 19), type := 0, pos := "message.go:25", after := #[{ on := 3, ground := Go.Ground.data }, { on := 5, ground := Go.Ground.data }], guard := none }
def opt37 : Oper := { dst := some 21, op := Go.Op.load 9 (Go.Operand.tmp 20), type := 9, pos := "message.go:25", after := #[{ on := 6, ground := Go.Ground.data }], guard := none }
def opt38 : Oper := { dst := some 22, op := Go.Op.binOp Go.BinOp.neq 9 (Go.Operand.tmp 21) (Go.Operand.const (Go.Value.string { data := #[] })) 9, type := 4, pos := "message.go:25", after := #[{ on := 7, ground := Go.Ground.data }], guard := none }
def opt39 : Oper := { dst := some 13, op := Go.Op.assign (Go.Operand.tmp 22), type := 4, pos := "message.go:25", after := #[{ on := 8, ground := Go.Ground.data }], guard := none }
def opt50 : Oper := { dst := some 23, op := Go.Op.move (Go.Operand.tmp 0), type := 79, pos := "message.go:28", after := #[], guard := none }
def opt51 : Oper := { dst := some 24, op := Go.Op.nilCheck (Go.Operand.tmp 23), type := 0, pos := "message.go:28", after := #[{ on := 0, ground := Go.Ground.data }], guard := none }
def opt52 : Oper := { dst := some 25, op := Go.Op.fieldAddr 83 (Go.Operand.tmp 24) 1, type := 0, pos := "message.go:28", after := #[{ on := 1, ground := Go.Ground.data }], guard := none }
def opt53 : Oper := { dst := some 26, op := Go.Op.load 22 (Go.Operand.tmp 25), type := 22, pos := "message.go:28", after := #[{ on := 2, ground := Go.Ground.data }], guard := none }
def opt54 : Oper := { dst := some 27, op := Go.Op.fieldAddr 64 (Go.Operand.tmp 3) 1, type := 0, pos := "message.go:28", after := #[], guard := none }
def opt55 : Oper := { dst := some 28, op := Go.Op.load 3 (Go.Operand.tmp 27), type := 3, pos := "message.go:28", after := #[{ on := 4, ground := Go.Ground.data }], guard := none }
def opt56 : Oper := { dst := some 29, op := Go.Op.fieldAddr 64 (Go.Operand.tmp 3) 2, type := 0, pos := "message.go:28", after := #[], guard := none }
def opt57 : Oper := { dst := some 30, op := Go.Op.load 9 (Go.Operand.tmp 29), type := 9, pos := "message.go:28", after := #[{ on := 6, ground := Go.Ground.data }], guard := none }
def opt58 : Oper := { dst := some 31, op := Go.Op.call { callee := Go.Callee.value (Go.Operand.func 51), args := #[Go.Operand.tmp 30], argTypes := #[9] }, type := 9, pos := "message.go:28", after := #[{ on := 7, ground := Go.Ground.data }], guard := none }
def opt59 : Oper := { dst := some 32, op := Go.Op.indexAddr 22 (Go.Operand.tmp 26) (Go.Operand.tmp 28), type := 0, pos := "message.go:28", after := #[{ on := 3, ground := Go.Ground.data }, { on := 5, ground := Go.Ground.data }, { on := 0, ground := Go.Ground.phase }, { on := 1, ground := Go.Ground.phase }, { on := 2, ground := Go.Ground.phase }, { on := 3, ground := Go.Ground.phase }, { on := 4, ground := Go.Ground.phase }, { on := 5, ground := Go.Ground.phase }, { on := 6, ground := Go.Ground.phase }, { on := 7, ground := Go.Ground.phase }, { on := 8, ground := Go.Ground.phase }], guard := none }
def opt510 : Oper := { dst := none, op := Go.Op.store 9 (Go.Operand.tmp 32) (Go.Operand.tmp 31), type := 0, pos := "message.go:28", after := #[{ on := 9, ground := Go.Ground.data }, { on := 8, ground := Go.Ground.data }, { on := 8, ground := Go.Ground.chain }, { on := 0, ground := Go.Ground.phase }, { on := 1, ground := Go.Ground.phase }, { on := 2, ground := Go.Ground.phase }, { on := 3, ground := Go.Ground.phase }, { on := 4, ground := Go.Ground.phase }, { on := 5, ground := Go.Ground.phase }, { on := 6, ground := Go.Ground.phase }, { on := 7, ground := Go.Ground.phase }, { on := 8, ground := Go.Ground.phase }], guard := none }
theorem exec_msg {w : World} {A : Nat} {p : Pa} (k : Blk w A (pac p)) : w.rangeAt A 0 (mkc p.m) := by
  have := k.r
  unfold pac at this
  exact range_left this
/-- A block of cells stays one when a cell is set. -/
theorem obj_set {w : World} {b o : Nat} {v : Value} (h : ∃ C e, w.heap[b]? = some (.cells C e (0, 0))) : ∃ C e, (w.setCell ⟨b, o, none⟩ v).heap[b]? = some (.cells C e (0, 0)) := by
  obtain ⟨C, e, hC⟩ := h
  refine ⟨C.setIfInBounds o v, e, ?_⟩
  rw [Go.Sort.setCell_eq]
  unfold Go.Sort.mapBlock
  simp [Array.getElem?_modify, hC, Go.Sort.onCells]
set_option maxHeartbeats 4000000 in
theorem mtake_any (b g : Nat) (x : Ms) (p : Pa) (h8 : Mk8 p.m) (hm : May p) (hl : p.p.length ≤ 200) (hpos : x.code p = 0 → 1 ≤ x.mi) (w : World) (h : Hid (MsgAt w b g x)) :
    Calls Tryd.prog 42 #[.pointer (some ⟨b, 0, none⟩), .agg (pac p).toArray] w fun e w' => e = .returned (.int .i64 (x.code p : Int)) ∧ MsgAt w' b g (x.take p) ∧ Bf (fun q => q = b ∨ q = g) w w' := by
  obtain ⟨W0, hW0⟩ : ∃ W, w.alloc (.cells (pac p).toArray 64) = W := ⟨_, rfl⟩
  have y0 : Blk W0 w.heap.size (pac p) := hW0 ▸ Blk.new w (pac p) _ (pac_ne _)
  have b0 : Below w.heap.size w W0 := hW0 ▸ (Below.refl _ w).alloc (Nat.le_refl _) _
  have I0 : Hid (MsgAt W0 b g x ∧ Blk W0 w.heap.size (pac p)) := ⟨h.out.later b0, y0⟩
  have I1 : Hid (MsgAt W0.drew b g x ∧ Blk W0.drew w.heap.size (pac p)) := ⟨I0.out.1.later (Below.refl _ _).drew, y0.drew⟩
  have B1 : Hid (Below w.heap.size w W0.drew) := b0.drew
  clear y0 b0
  by_cases hmm : x.m ≠ p.m
  · have ec : x.code p = 220 := if_pos hmm
    have et : x.take p = x := by unfold Ms.take; rw [if_neg (by rw [ec]; decide)]
    rw [ec, et]
    have dm : decide (x.m ≠ p.m) = true := decide_eq_true hmm
    clear hpos ec et hmm
    go_enter Tryd.func42, Tryd.ntmps42
    go_upto_region 1 with fail
    refine wp_region_noPanic ?_
    refine wp_region_held_drew (S := fun w' => MsgAt w' b g x ∧ Blk w' w.heap.size (pac p)) (by kernel_rfl) (I1.out) (fun hHeld => ?_)
    refine wpAnyH_take (i := 0) (oi := opt10) (v := ?_) rfl (by kernel_rfl) (by kernel_rfl) (by kernel_rfl) (fun _ _ _ h => h) (Or.inl ⟨by rfl, ?_⟩) (by assumption) ?_
    rotate_left
    · intro w' hSw
      clear hSw
      unfold opt10
      first
      | (go_simp; done)
      | (go_simp; with_reducible rfl)
    simp only [opt10, Act.put, List.setIfInBounds_toArray, List.set_cons_zero, List.set_cons_succ]
    refine wpAnyH_take (i := 1) (oi := opt11) (v := ?_) rfl (by kernel_rfl) (by kernel_rfl) (by kernel_rfl) (fun _ _ _ h => h) (Or.inl ⟨by rfl, ?_⟩) (by assumption) ?_
    rotate_left
    · intro w' hSw
      clear hSw
      unfold opt11
      first
      | (go_simp; done)
      | (go_simp; with_reducible rfl)
    simp only [opt11, Act.put, List.setIfInBounds_toArray, List.set_cons_zero, List.set_cons_succ]
    refine wpAnyH_take (i := 2) (oi := opt12) (v := ?_) rfl (by kernel_rfl) (by kernel_rfl) (by kernel_rfl) (fun _ _ _ h => h) (Or.inl ⟨by rfl, ?_⟩) (by assumption) ?_
    rotate_left
    · intro w' hSw
      clear hSw
      unfold opt12
      first
      | (go_simp; done)
      | (go_simp; with_reducible rfl)
    simp only [opt12, Act.put, List.setIfInBounds_toArray, List.set_cons_zero, List.set_cons_succ]
    refine wpAnyH_take (i := 3) (oi := opt13) (v := ?_) rfl (by kernel_rfl) (by kernel_rfl) (by kernel_rfl) (fun _ _ _ h => h) (Or.inl ⟨by rfl, ?_⟩) (by assumption) ?_
    rotate_left
    · intro w' hSw
      exact exec_load (load_mark hSw.1.f.1 (mkc_len hSw.1.m8)) opt13 _ rfl (by first | rfl | kernel_rfl)
    simp only [opt13, Act.put, List.setIfInBounds_toArray, List.set_cons_zero, List.set_cons_succ]
    refine wpAnyH_take (i := 4) (oi := opt14) (v := ?_) rfl (by kernel_rfl) (by kernel_rfl) (by kernel_rfl) (fun _ _ _ h => h) (Or.inl ⟨by rfl, ?_⟩) (by assumption) ?_
    rotate_left
    · intro w' hSw
      clear hSw
      unfold opt14
      first
      | (go_simp; done)
      | (go_simp; with_reducible rfl)
    simp only [opt14, Act.put, List.setIfInBounds_toArray, List.set_cons_zero, List.set_cons_succ]
    refine wpAnyH_take (i := 5) (oi := opt15) (v := ?_) rfl (by kernel_rfl) (by kernel_rfl) (by kernel_rfl) (fun _ _ _ h => h) (Or.inl ⟨by rfl, ?_⟩) (by assumption) ?_
    rotate_left
    · intro w' hSw
      exact exec_load (load_mark (exec_msg hSw.2) (mkc_len h8)) opt15 _ rfl (by first | rfl | kernel_rfl)
    simp only [opt15, Act.put, List.setIfInBounds_toArray, List.set_cons_zero, List.set_cons_succ]
    refine wpAnyH_take (i := 6) (oi := opt16) (v := ?_) rfl (by kernel_rfl) (by kernel_rfl) (by kernel_rfl) (fun _ _ _ h => h) (Or.inl ⟨by rfl, ?_⟩) (by assumption) ?_
    rotate_left
    · intro w' hSw
      exact (exec_ne_mark hSw.1.m8 h8 opt16 _ _ rfl (by first | rfl | kernel_rfl) (by first | rfl | kernel_rfl) w').trans (by rw [dm])
    simp only [opt16, Act.put, List.setIfInBounds_toArray, List.set_cons_zero, List.set_cons_succ]
    refine wpAnyH_take (i := 7) (oi := opt17) (v := ?_) rfl (by kernel_rfl) (by kernel_rfl) (by kernel_rfl) (fun _ _ _ h => h) (Or.inl ⟨by rfl, ?_⟩) (by assumption) ?_
    rotate_left
    · intro w' hSw
      clear hSw
      unfold opt17
      first
      | (go_simp; done)
      | (go_simp; with_reducible rfl)
    simp only [opt17, Act.put, List.setIfInBounds_toArray, List.set_cons_zero, List.set_cons_succ]
    refine wpAnyH_done (by kernel_rfl) ?_ _
    refine NoPanic.normal ?_
    go_wp2
    go_ret
    exact ⟨rfl, I1.out.1, Bf.of B1.out⟩
  have hme : x.m = p.m := Classical.not_not.1 hmm
  have dm : decide (x.m ≠ p.m) = false := decide_eq_false hmm
  have kn : p.k < x.m.2.1 := by rw [hme]; exact hm.2.1
  have kl : p.k < x.ps.length := by rw [h.out.l]; exact kn
  have eg : x.ps.getD p.k [] = x.ps[p.k] := by rw [List.getD_eq_getElem?_getD, List.getElem?_eq_getElem kl]; rfl
  obtain ⟨N, hN⟩ : ∃ N, x.m.2.1 = N := ⟨_, rfl⟩
  have k1 : (p.k : Int) < (N : Int) := by omega
  have k0 : (0 : Int) ≤ (p.k : Int) := by omega
  have c15 : ∀ W, MsgAt W b g x → W.cell? ⟨b, 15, none⟩ = some (.slice (some ⟨g, 0, none⟩) N N) := fun W hW => by have := hW.f.2.2.1; rw [hN] at this; exact this
  have C15 : Hid _ := c15
  clear c15
  by_cases hq : x.ps[p.k] ≠ []
  · have ec : x.code p = 6 := by unfold Ms.code; rw [if_neg hmm, if_pos (by rw [eg]; exact hq)]
    have et : x.take p = x := by unfold Ms.take; rw [if_neg (by rw [ec]; decide)]
    rw [ec, et]
    have sn : List.isEmpty x.ps[p.k] = false := by simpa using hq
    have I2 : Hid (MsgAt W0.drew.drew b g x ∧ Blk W0.drew.drew w.heap.size (pac p)) := ⟨I1.out.1.later (Below.refl _ _).drew, I1.out.2.drew⟩
    clear hpos ec et hmm eg hq
    go_enter Tryd.func42, Tryd.ntmps42
    go_upto_region 1 with fail
    refine wp_region_noPanic ?_
    refine wp_region_held_drew (S := fun w' => MsgAt w' b g x ∧ Blk w' w.heap.size (pac p)) (by kernel_rfl) (I1.out) (fun hHeld => ?_)
    refine wpAnyH_take (i := 0) (oi := opt10) (v := ?_) rfl (by kernel_rfl) (by kernel_rfl) (by kernel_rfl) (fun _ _ _ h => h) (Or.inl ⟨by rfl, ?_⟩) (by assumption) ?_
    rotate_left
    · intro w' hSw
      clear hSw
      unfold opt10
      first
      | (go_simp; done)
      | (go_simp; with_reducible rfl)
    simp only [opt10, Act.put, List.setIfInBounds_toArray, List.set_cons_zero, List.set_cons_succ]
    refine wpAnyH_take (i := 1) (oi := opt11) (v := ?_) rfl (by kernel_rfl) (by kernel_rfl) (by kernel_rfl) (fun _ _ _ h => h) (Or.inl ⟨by rfl, ?_⟩) (by assumption) ?_
    rotate_left
    · intro w' hSw
      clear hSw
      unfold opt11
      first
      | (go_simp; done)
      | (go_simp; with_reducible rfl)
    simp only [opt11, Act.put, List.setIfInBounds_toArray, List.set_cons_zero, List.set_cons_succ]
    refine wpAnyH_take (i := 2) (oi := opt12) (v := ?_) rfl (by kernel_rfl) (by kernel_rfl) (by kernel_rfl) (fun _ _ _ h => h) (Or.inl ⟨by rfl, ?_⟩) (by assumption) ?_
    rotate_left
    · intro w' hSw
      clear hSw
      unfold opt12
      first
      | (go_simp; done)
      | (go_simp; with_reducible rfl)
    simp only [opt12, Act.put, List.setIfInBounds_toArray, List.set_cons_zero, List.set_cons_succ]
    refine wpAnyH_take (i := 3) (oi := opt13) (v := ?_) rfl (by kernel_rfl) (by kernel_rfl) (by kernel_rfl) (fun _ _ _ h => h) (Or.inl ⟨by rfl, ?_⟩) (by assumption) ?_
    rotate_left
    · intro w' hSw
      exact exec_load (load_mark hSw.1.f.1 (mkc_len hSw.1.m8)) opt13 _ rfl (by first | rfl | kernel_rfl)
    simp only [opt13, Act.put, List.setIfInBounds_toArray, List.set_cons_zero, List.set_cons_succ]
    refine wpAnyH_take (i := 4) (oi := opt14) (v := ?_) rfl (by kernel_rfl) (by kernel_rfl) (by kernel_rfl) (fun _ _ _ h => h) (Or.inl ⟨by rfl, ?_⟩) (by assumption) ?_
    rotate_left
    · intro w' hSw
      clear hSw
      unfold opt14
      first
      | (go_simp; done)
      | (go_simp; with_reducible rfl)
    simp only [opt14, Act.put, List.setIfInBounds_toArray, List.set_cons_zero, List.set_cons_succ]
    refine wpAnyH_take (i := 5) (oi := opt15) (v := ?_) rfl (by kernel_rfl) (by kernel_rfl) (by kernel_rfl) (fun _ _ _ h => h) (Or.inl ⟨by rfl, ?_⟩) (by assumption) ?_
    rotate_left
    · intro w' hSw
      exact exec_load (load_mark (exec_msg hSw.2) (mkc_len h8)) opt15 _ rfl (by first | rfl | kernel_rfl)
    simp only [opt15, Act.put, List.setIfInBounds_toArray, List.set_cons_zero, List.set_cons_succ]
    refine wpAnyH_take (i := 6) (oi := opt16) (v := ?_) rfl (by kernel_rfl) (by kernel_rfl) (by kernel_rfl) (fun _ _ _ h => h) (Or.inl ⟨by rfl, ?_⟩) (by assumption) ?_
    rotate_left
    · intro w' hSw
      exact (exec_ne_mark hSw.1.m8 h8 opt16 _ _ rfl (by first | rfl | kernel_rfl) (by first | rfl | kernel_rfl) w').trans (by rw [dm])
    simp only [opt16, Act.put, List.setIfInBounds_toArray, List.set_cons_zero, List.set_cons_succ]
    refine wpAnyH_take (i := 7) (oi := opt17) (v := ?_) rfl (by kernel_rfl) (by kernel_rfl) (by kernel_rfl) (fun _ _ _ h => h) (Or.inl ⟨by rfl, ?_⟩) (by assumption) ?_
    rotate_left
    · intro w' hSw
      clear hSw
      unfold opt17
      first
      | (go_simp; done)
      | (go_simp; with_reducible rfl)
    simp only [opt17, Act.put, List.setIfInBounds_toArray, List.set_cons_zero, List.set_cons_succ]
    refine wpAnyH_done (by kernel_rfl) ?_ _
    refine NoPanic.normal ?_
    go_upto_region 3 with fail
    refine wp_region_noPanic ?_
    refine wp_region_held_drew (S := fun w' => MsgAt w' b g x ∧ Blk w' w.heap.size (pac p)) (by kernel_rfl) (I2.out) (fun hHeld => ?_)
    refine wpAnyH_take (i := 0) (oi := opt30) (v := ?_) rfl (by kernel_rfl) (by kernel_rfl) (by kernel_rfl) (fun _ _ _ h => h) (Or.inl ⟨by rfl, ?_⟩) (by assumption) ?_
    rotate_left
    · intro w' hSw
      clear hSw
      unfold opt30
      first
      | (go_simp; done)
      | (go_simp; with_reducible rfl)
    simp only [opt30, Act.put, List.setIfInBounds_toArray, List.set_cons_zero, List.set_cons_succ]
    refine wpAnyH_take (i := 1) (oi := opt31) (v := ?_) rfl (by kernel_rfl) (by kernel_rfl) (by kernel_rfl) (fun _ _ _ h => h) (Or.inl ⟨by rfl, ?_⟩) (by assumption) ?_
    rotate_left
    · intro w' hSw
      clear hSw
      unfold opt31
      first
      | (go_simp; done)
      | (go_simp; with_reducible rfl)
    simp only [opt31, Act.put, List.setIfInBounds_toArray, List.set_cons_zero, List.set_cons_succ]
    refine wpAnyH_take (i := 2) (oi := opt32) (v := ?_) rfl (by kernel_rfl) (by kernel_rfl) (by kernel_rfl) (fun _ _ _ h => h) (Or.inl ⟨by rfl, ?_⟩) (by assumption) ?_
    rotate_left
    · intro w' hSw
      clear hSw
      unfold opt32
      first
      | (go_simp; done)
      | (go_simp; with_reducible rfl)
    simp only [opt32, Act.put, List.setIfInBounds_toArray, List.set_cons_zero, List.set_cons_succ]
    refine wpAnyH_take (i := 3) (oi := opt33) (v := ?_) rfl (by kernel_rfl) (by kernel_rfl) (by kernel_rfl) (fun _ _ _ h => h) (Or.inl ⟨by rfl, ?_⟩) (by assumption) ?_
    rotate_left
    · intro w' hSw
      have hsw := C15.out _ hSw.1
      unfold opt33
      first
      | (go_simp; done)
      | (go_simp; with_reducible rfl)
    simp only [opt33, Act.put, List.setIfInBounds_toArray, List.set_cons_zero, List.set_cons_succ]
    refine wpAnyH_take (i := 4) (oi := opt34) (v := ?_) rfl (by kernel_rfl) (by kernel_rfl) (by kernel_rfl) (fun _ _ _ h => h) (Or.inl ⟨by rfl, ?_⟩) (by assumption) ?_
    rotate_left
    · intro w' hSw
      clear hSw
      unfold opt34
      first
      | (go_simp; done)
      | (go_simp; with_reducible rfl)
    simp only [opt34, Act.put, List.setIfInBounds_toArray, List.set_cons_zero, List.set_cons_succ]
    refine wpAnyH_take (i := 5) (oi := opt35) (v := ?_) rfl (by kernel_rfl) (by kernel_rfl) (by kernel_rfl) (fun _ _ _ h => h) (Or.inl ⟨by rfl, ?_⟩) (by assumption) ?_
    rotate_left
    · intro w' hSw
      have hsw := (paf hSw.2.r h8).k
      unfold opt35
      first
      | (go_simp; done)
      | (go_simp; with_reducible rfl)
    simp only [opt35, Act.put, List.setIfInBounds_toArray, List.set_cons_zero, List.set_cons_succ]
    refine wpAnyH_take (i := 6) (oi := opt36) (v := ?_) rfl (by kernel_rfl) (by kernel_rfl) (by kernel_rfl) (fun _ _ _ h => h) (Or.inl ⟨by rfl, ?_⟩) (by assumption) ?_
    rotate_left
    · intro w' hSw
      clear hSw
      unfold opt36
      first
      | (go_simp; done)
      | (go_simp; with_reducible rfl)
    simp only [opt36, Act.put, List.setIfInBounds_toArray, List.set_cons_zero, List.set_cons_succ]
    refine wpAnyH_take (i := 7) (oi := opt37) (v := ?_) rfl (by kernel_rfl) (by kernel_rfl) (by kernel_rfl) (fun _ _ _ h => h) (Or.inl ⟨by rfl, ?_⟩) (by assumption) ?_
    rotate_left
    · intro w' hSw
      have hsw := hSw.1.r.c p.k _ (scl_get _ _ kl)
      unfold opt37
      first
      | (go_simp; done)
      | (go_simp; with_reducible rfl)
    simp only [opt37, Act.put, List.setIfInBounds_toArray, List.set_cons_zero, List.set_cons_succ]
    refine wpAnyH_take (i := 8) (oi := opt38) (v := ?_) rfl (by kernel_rfl) (by kernel_rfl) (by kernel_rfl) (fun _ _ _ h => h) (Or.inl ⟨by rfl, ?_⟩) (by assumption) ?_
    rotate_left
    · intro w' hSw
      clear hSw
      unfold opt38
      first
      | (go_simp; done)
      | (go_simp; with_reducible rfl)
    simp only [opt38, Act.put, List.setIfInBounds_toArray, List.set_cons_zero, List.set_cons_succ]
    refine wpAnyH_take (i := 9) (oi := opt39) (v := ?_) rfl (by kernel_rfl) (by kernel_rfl) (by kernel_rfl) (fun _ _ _ h => h) (Or.inl ⟨by rfl, ?_⟩) (by assumption) ?_
    rotate_left
    · intro w' hSw
      clear hSw
      unfold opt39
      first
      | (go_simp; done)
      | (go_simp; with_reducible rfl)
    simp only [opt39, Act.put, List.setIfInBounds_toArray, List.set_cons_zero, List.set_cons_succ]
    refine wpAnyH_done (by kernel_rfl) ?_ _
    refine NoPanic.normal ?_
    go_wp2
    go_ret
    exact ⟨rfl, I2.out.1, Bf.of B1.out.drew⟩
  have hq0 : x.ps[p.k] = [] := Classical.not_not.1 hq
  have ec : x.code p = 0 := by unfold Ms.code; rw [if_neg hmm, if_neg (by rw [eg]; exact hq)]
  have et : x.take p = x.put p := by unfold Ms.take; rw [if_pos ec]
  have m1 := hpos ec
  rw [ec, et]
  have I2 : Hid (MsgAt W0.drew.drew b g x ∧ Blk W0.drew.drew w.heap.size (pac p)) := ⟨I1.out.1.later (Below.refl _ _).drew, I1.out.2.drew⟩
  have I3 : Hid (MsgAt W0.drew.drew.drew b g x ∧ Blk W0.drew.drew.drew w.heap.size (pac p)) := ⟨I2.out.1.later (Below.refl _ _).drew, I2.out.2.drew⟩
  have CL : Hid (∀ w, Calls Tryd.prog 51 #[.string (st p.p)] w fun e w' => e = .returned (.string (st p.p)) ∧ Below w.heap.size w w') := fun w => sclone_any (st p.p) (by rw [st_size]; omega) w
  have sm : wrap64 ((x.mi : Int) - 1) = ((x.mi - 1 : Nat) : Int) := by have := h.out.mi; unfold wrap64; omega
  have sm2 : (x.mi : Int) - 1 = ((x.mi - 1 : Nat) : Int) := by omega
  have mi11 := h.out.mi
  clear hpos ec et hmm eg hq
  go_enter Tryd.func42, Tryd.ntmps42
  go_upto_region 1 with fail
  refine wp_region_noPanic ?_
  refine wp_region_held_drew (S := fun w' => MsgAt w' b g x ∧ Blk w' w.heap.size (pac p)) (by kernel_rfl) (I1.out) (fun hHeld => ?_)
  refine wpAnyH_take (i := 0) (oi := opt10) (v := ?_) rfl (by kernel_rfl) (by kernel_rfl) (by kernel_rfl) (fun _ _ _ h => h) (Or.inl ⟨by rfl, ?_⟩) (by assumption) ?_
  rotate_left
  · intro w' hSw
    clear hSw
    unfold opt10
    first
    | (go_simp; done)
    | (go_simp; with_reducible rfl)
  simp only [opt10, Act.put, List.setIfInBounds_toArray, List.set_cons_zero, List.set_cons_succ]
  refine wpAnyH_take (i := 1) (oi := opt11) (v := ?_) rfl (by kernel_rfl) (by kernel_rfl) (by kernel_rfl) (fun _ _ _ h => h) (Or.inl ⟨by rfl, ?_⟩) (by assumption) ?_
  rotate_left
  · intro w' hSw
    clear hSw
    unfold opt11
    first
    | (go_simp; done)
    | (go_simp; with_reducible rfl)
  simp only [opt11, Act.put, List.setIfInBounds_toArray, List.set_cons_zero, List.set_cons_succ]
  refine wpAnyH_take (i := 2) (oi := opt12) (v := ?_) rfl (by kernel_rfl) (by kernel_rfl) (by kernel_rfl) (fun _ _ _ h => h) (Or.inl ⟨by rfl, ?_⟩) (by assumption) ?_
  rotate_left
  · intro w' hSw
    clear hSw
    unfold opt12
    first
    | (go_simp; done)
    | (go_simp; with_reducible rfl)
  simp only [opt12, Act.put, List.setIfInBounds_toArray, List.set_cons_zero, List.set_cons_succ]
  refine wpAnyH_take (i := 3) (oi := opt13) (v := ?_) rfl (by kernel_rfl) (by kernel_rfl) (by kernel_rfl) (fun _ _ _ h => h) (Or.inl ⟨by rfl, ?_⟩) (by assumption) ?_
  rotate_left
  · intro w' hSw
    exact exec_load (load_mark hSw.1.f.1 (mkc_len hSw.1.m8)) opt13 _ rfl (by first | rfl | kernel_rfl)
  simp only [opt13, Act.put, List.setIfInBounds_toArray, List.set_cons_zero, List.set_cons_succ]
  refine wpAnyH_take (i := 4) (oi := opt14) (v := ?_) rfl (by kernel_rfl) (by kernel_rfl) (by kernel_rfl) (fun _ _ _ h => h) (Or.inl ⟨by rfl, ?_⟩) (by assumption) ?_
  rotate_left
  · intro w' hSw
    clear hSw
    unfold opt14
    first
    | (go_simp; done)
    | (go_simp; with_reducible rfl)
  simp only [opt14, Act.put, List.setIfInBounds_toArray, List.set_cons_zero, List.set_cons_succ]
  refine wpAnyH_take (i := 5) (oi := opt15) (v := ?_) rfl (by kernel_rfl) (by kernel_rfl) (by kernel_rfl) (fun _ _ _ h => h) (Or.inl ⟨by rfl, ?_⟩) (by assumption) ?_
  rotate_left
  · intro w' hSw
    exact exec_load (load_mark (exec_msg hSw.2) (mkc_len h8)) opt15 _ rfl (by first | rfl | kernel_rfl)
  simp only [opt15, Act.put, List.setIfInBounds_toArray, List.set_cons_zero, List.set_cons_succ]
  refine wpAnyH_take (i := 6) (oi := opt16) (v := ?_) rfl (by kernel_rfl) (by kernel_rfl) (by kernel_rfl) (fun _ _ _ h => h) (Or.inl ⟨by rfl, ?_⟩) (by assumption) ?_
  rotate_left
  · intro w' hSw
    exact (exec_ne_mark hSw.1.m8 h8 opt16 _ _ rfl (by first | rfl | kernel_rfl) (by first | rfl | kernel_rfl) w').trans (by rw [dm])
  simp only [opt16, Act.put, List.setIfInBounds_toArray, List.set_cons_zero, List.set_cons_succ]
  refine wpAnyH_take (i := 7) (oi := opt17) (v := ?_) rfl (by kernel_rfl) (by kernel_rfl) (by kernel_rfl) (fun _ _ _ h => h) (Or.inl ⟨by rfl, ?_⟩) (by assumption) ?_
  rotate_left
  · intro w' hSw
    clear hSw
    unfold opt17
    first
    | (go_simp; done)
    | (go_simp; with_reducible rfl)
  simp only [opt17, Act.put, List.setIfInBounds_toArray, List.set_cons_zero, List.set_cons_succ]
  refine wpAnyH_done (by kernel_rfl) ?_ _
  refine NoPanic.normal ?_
  go_upto_region 3 with fail
  refine wp_region_noPanic ?_
  refine wp_region_held_drew (S := fun w' => MsgAt w' b g x ∧ Blk w' w.heap.size (pac p)) (by kernel_rfl) (I2.out) (fun hHeld => ?_)
  refine wpAnyH_take (i := 0) (oi := opt30) (v := ?_) rfl (by kernel_rfl) (by kernel_rfl) (by kernel_rfl) (fun _ _ _ h => h) (Or.inl ⟨by rfl, ?_⟩) (by assumption) ?_
  rotate_left
  · intro w' hSw
    clear hSw
    unfold opt30
    first
    | (go_simp; done)
    | (go_simp; with_reducible rfl)
  simp only [opt30, Act.put, List.setIfInBounds_toArray, List.set_cons_zero, List.set_cons_succ]
  refine wpAnyH_take (i := 1) (oi := opt31) (v := ?_) rfl (by kernel_rfl) (by kernel_rfl) (by kernel_rfl) (fun _ _ _ h => h) (Or.inl ⟨by rfl, ?_⟩) (by assumption) ?_
  rotate_left
  · intro w' hSw
    clear hSw
    unfold opt31
    first
    | (go_simp; done)
    | (go_simp; with_reducible rfl)
  simp only [opt31, Act.put, List.setIfInBounds_toArray, List.set_cons_zero, List.set_cons_succ]
  refine wpAnyH_take (i := 2) (oi := opt32) (v := ?_) rfl (by kernel_rfl) (by kernel_rfl) (by kernel_rfl) (fun _ _ _ h => h) (Or.inl ⟨by rfl, ?_⟩) (by assumption) ?_
  rotate_left
  · intro w' hSw
    clear hSw
    unfold opt32
    first
    | (go_simp; done)
    | (go_simp; with_reducible rfl)
  simp only [opt32, Act.put, List.setIfInBounds_toArray, List.set_cons_zero, List.set_cons_succ]
  refine wpAnyH_take (i := 3) (oi := opt33) (v := ?_) rfl (by kernel_rfl) (by kernel_rfl) (by kernel_rfl) (fun _ _ _ h => h) (Or.inl ⟨by rfl, ?_⟩) (by assumption) ?_
  rotate_left
  · intro w' hSw
    have hsw := C15.out _ hSw.1
    unfold opt33
    first
    | (go_simp; done)
    | (go_simp; with_reducible rfl)
  simp only [opt33, Act.put, List.setIfInBounds_toArray, List.set_cons_zero, List.set_cons_succ]
  refine wpAnyH_take (i := 4) (oi := opt34) (v := ?_) rfl (by kernel_rfl) (by kernel_rfl) (by kernel_rfl) (fun _ _ _ h => h) (Or.inl ⟨by rfl, ?_⟩) (by assumption) ?_
  rotate_left
  · intro w' hSw
    clear hSw
    unfold opt34
    first
    | (go_simp; done)
    | (go_simp; with_reducible rfl)
  simp only [opt34, Act.put, List.setIfInBounds_toArray, List.set_cons_zero, List.set_cons_succ]
  refine wpAnyH_take (i := 5) (oi := opt35) (v := ?_) rfl (by kernel_rfl) (by kernel_rfl) (by kernel_rfl) (fun _ _ _ h => h) (Or.inl ⟨by rfl, ?_⟩) (by assumption) ?_
  rotate_left
  · intro w' hSw
    have hsw := (paf hSw.2.r h8).k
    unfold opt35
    first
    | (go_simp; done)
    | (go_simp; with_reducible rfl)
  simp only [opt35, Act.put, List.setIfInBounds_toArray, List.set_cons_zero, List.set_cons_succ]
  refine wpAnyH_take (i := 6) (oi := opt36) (v := ?_) rfl (by kernel_rfl) (by kernel_rfl) (by kernel_rfl) (fun _ _ _ h => h) (Or.inl ⟨by rfl, ?_⟩) (by assumption) ?_
  rotate_left
  · intro w' hSw
    clear hSw
    unfold opt36
    first
    | (go_simp; done)
    | (go_simp; with_reducible rfl)
  simp only [opt36, Act.put, List.setIfInBounds_toArray, List.set_cons_zero, List.set_cons_succ]
  refine wpAnyH_take (i := 7) (oi := opt37) (v := ?_) rfl (by kernel_rfl) (by kernel_rfl) (by kernel_rfl) (fun _ _ _ h => h) (Or.inl ⟨by rfl, ?_⟩) (by assumption) ?_
  rotate_left
  · intro w' hSw
    have hsw := hSw.1.r.c p.k _ (scl_get _ _ kl); rw [hq0] at hsw
    unfold opt37
    first
    | (go_simp; done)
    | (go_simp; with_reducible rfl)
  simp only [opt37, Act.put, List.setIfInBounds_toArray, List.set_cons_zero, List.set_cons_succ]
  refine wpAnyH_take (i := 8) (oi := opt38) (v := ?_) rfl (by kernel_rfl) (by kernel_rfl) (by kernel_rfl) (fun _ _ _ h => h) (Or.inl ⟨by rfl, ?_⟩) (by assumption) ?_
  rotate_left
  · intro w' hSw
    clear hSw
    unfold opt38
    first
    | (go_simp; done)
    | (go_simp; with_reducible rfl)
  simp only [opt38, Act.put, List.setIfInBounds_toArray, List.set_cons_zero, List.set_cons_succ]
  refine wpAnyH_take (i := 9) (oi := opt39) (v := ?_) rfl (by kernel_rfl) (by kernel_rfl) (by kernel_rfl) (fun _ _ _ h => h) (Or.inl ⟨by rfl, ?_⟩) (by assumption) ?_
  rotate_left
  · intro w' hSw
    clear hSw
    unfold opt39
    first
    | (go_simp; done)
    | (go_simp; with_reducible rfl)
  simp only [opt39, Act.put, List.setIfInBounds_toArray, List.set_cons_zero, List.set_cons_succ]
  refine wpAnyH_done (by kernel_rfl) ?_ _
  refine NoPanic.normal ?_
  go_upto_region 5 with fail
  refine wp_region_noPanic ?_
  refine wp_region_held_drew (S := fun w' => (∃ ps, MsgAt w' b g ⟨x.m, ps, x.mi⟩) ∧ Blk w' w.heap.size (pac p)) (by kernel_rfl) (⟨⟨_, I3.out.1⟩, I3.out.2⟩) (fun hHeld => ?_)
  refine wpAnyH_take (i := 0) (oi := opt50) (v := ?_) rfl (by kernel_rfl) (by kernel_rfl) (by kernel_rfl) (fun _ _ _ h => h) (Or.inl ⟨by rfl, ?_⟩) (by assumption) ?_
  rotate_left
  · intro w' hSw
    clear hSw
    unfold opt50
    first
    | (go_simp; done)
    | (go_simp; with_reducible rfl)
  simp only [opt50, Act.put, List.setIfInBounds_toArray, List.set_cons_zero, List.set_cons_succ]
  refine wpAnyH_take (i := 1) (oi := opt51) (v := ?_) rfl (by kernel_rfl) (by kernel_rfl) (by kernel_rfl) (fun _ _ _ h => h) (Or.inl ⟨by rfl, ?_⟩) (by assumption) ?_
  rotate_left
  · intro w' hSw
    clear hSw
    unfold opt51
    first
    | (go_simp; done)
    | (go_simp; with_reducible rfl)
  simp only [opt51, Act.put, List.setIfInBounds_toArray, List.set_cons_zero, List.set_cons_succ]
  refine wpAnyH_take (i := 2) (oi := opt52) (v := ?_) rfl (by kernel_rfl) (by kernel_rfl) (by kernel_rfl) (fun _ _ _ h => h) (Or.inl ⟨by rfl, ?_⟩) (by assumption) ?_
  rotate_left
  · intro w' hSw
    clear hSw
    unfold opt52
    first
    | (go_simp; done)
    | (go_simp; with_reducible rfl)
  simp only [opt52, Act.put, List.setIfInBounds_toArray, List.set_cons_zero, List.set_cons_succ]
  refine wpAnyH_take (i := 3) (oi := opt53) (v := ?_) rfl (by kernel_rfl) (by kernel_rfl) (by kernel_rfl) (fun _ _ _ h => h) (Or.inl ⟨by rfl, ?_⟩) (by assumption) ?_
  rotate_left
  · intro w' hSw
    obtain ⟨⟨ps, hps⟩, hpb⟩ := hSw; have hsw := hps.f.2.2.1; simp only [hN] at hsw
    unfold opt53
    first
    | (go_simp; done)
    | (go_simp; with_reducible rfl)
  simp only [opt53, Act.put, List.setIfInBounds_toArray, List.set_cons_zero, List.set_cons_succ]
  refine wpAnyH_take (i := 4) (oi := opt54) (v := ?_) rfl (by kernel_rfl) (by kernel_rfl) (by kernel_rfl) (fun _ _ _ h => h) (Or.inl ⟨by rfl, ?_⟩) (by assumption) ?_
  rotate_left
  · intro w' hSw
    clear hSw
    unfold opt54
    first
    | (go_simp; done)
    | (go_simp; with_reducible rfl)
  simp only [opt54, Act.put, List.setIfInBounds_toArray, List.set_cons_zero, List.set_cons_succ]
  refine wpAnyH_take (i := 5) (oi := opt55) (v := ?_) rfl (by kernel_rfl) (by kernel_rfl) (by kernel_rfl) (fun _ _ _ h => h) (Or.inl ⟨by rfl, ?_⟩) (by assumption) ?_
  rotate_left
  · intro w' hSw
    have hsw := (paf hSw.2.r h8).k
    unfold opt55
    first
    | (go_simp; done)
    | (go_simp; with_reducible rfl)
  simp only [opt55, Act.put, List.setIfInBounds_toArray, List.set_cons_zero, List.set_cons_succ]
  refine wpAnyH_take (i := 6) (oi := opt56) (v := ?_) rfl (by kernel_rfl) (by kernel_rfl) (by kernel_rfl) (fun _ _ _ h => h) (Or.inl ⟨by rfl, ?_⟩) (by assumption) ?_
  rotate_left
  · intro w' hSw
    clear hSw
    unfold opt56
    first
    | (go_simp; done)
    | (go_simp; with_reducible rfl)
  simp only [opt56, Act.put, List.setIfInBounds_toArray, List.set_cons_zero, List.set_cons_succ]
  refine wpAnyH_take (i := 7) (oi := opt57) (v := ?_) rfl (by kernel_rfl) (by kernel_rfl) (by kernel_rfl) (fun _ _ _ h => h) (Or.inl ⟨by rfl, ?_⟩) (by assumption) ?_
  rotate_left
  · intro w' hSw
    have hsw := (paf hSw.2.r h8).p
    unfold opt57
    first
    | (go_simp; done)
    | (go_simp; with_reducible rfl)
  simp only [opt57, Act.put, List.setIfInBounds_toArray, List.set_cons_zero, List.set_cons_succ]
  refine wpAnyH_ready (rs := [8]) (by kernel_rfl) (by simp) ?_
  refine AllReadyH.cons (o := opt58) rfl (fun KK hKK => ?_) AllReadyH.nil
  unfold opt58
  go_simp
  refine Calls.mono (CL.out _) ?_
  rintro e wk ⟨rfl, hbk⟩
  have BK : Hid (Below w.heap.size w wk) := chain B1.out.drew.drew hbk
  have IK : Hid (MsgAt wk b g x) := I3.out.1.later hbk
  obtain ⟨V, hV⟩ : ∃ V, wk.setCell ⟨g, p.k, none⟩ (.string (st p.p)) = V := ⟨_, rfl⟩
  have zr : Blk V g (scl (x.ps.set p.k p.p)) := by
    have := IK.out.r.set p.k (by rw [scl_len]; exact kl) (.string (st p.p))
    rw [scl_set, hV] at this; exact this
  have bf : Bf (fun q => q = g) wk V := hV ▸ Bf.put1 wk g p.k [.string (st p.p)]
  have za : Blk V b (msc x.m g x.mi) := IK.out.a.bf bf IK.out.ne
  have zpl : ∀ q ∈ x.ps.set p.k p.p, q.length ≤ 200 := fun q hq => by
    rcases List.mem_or_eq_of_mem_set hq with h | h
    · exact IK.out.pl q h
    · rw [h]; exact hl
  have gw : g < w.heap.size := h.out.r.lt
  have ZA : Hid (Blk V w.heap.size (pac p)) := (I3.out.2.later hbk).bf bf (by omega)
  have ZM : Hid (MsgAt V b g ⟨x.m, x.ps.set p.k p.p, x.mi⟩) := ⟨za, zr, IK.out.ne, by rw [List.length_set]; exact IK.out.l, IK.out.m8, IK.out.n1, IK.out.n11, IK.out.mi, zpl, by rw [bf.block b IK.out.a.lt IK.out.ne]; exact IK.out.o⟩
  have c16 : V.cell? ⟨b, 16, none⟩ = some (.int .i64 (x.mi : Int)) := ZM.out.f.2.2.2
  have f16 := za.f
  have FI : Hid (MsgAt (V.setCell ⟨b, 16, none⟩ (.int .i64 ((x.mi - 1 : Nat) : Int))) b g (x.put p) ∧ Bf (fun q => q = b ∨ q = g) w (V.setCell ⟨b, 16, none⟩ (.int .i64 ((x.mi - 1 : Nat) : Int)))) := by
    have bf2 := Bf.put1 V b 16 [.int .i64 ((x.mi - 1 : Nat) : Int)]
    have ea : (msc x.m g x.mi).set 16 (.int .i64 ((x.mi - 1 : Nat) : Int)) = msc x.m g (x.mi - 1) := by
      unfold msc
      rw [List.set_append_right _ _ (by rw [mkc_len IK.out.m8]; omega), mkc_len IK.out.m8]; rfl
    have za2 : Blk (V.setCell ⟨b, 16, none⟩ (.int .i64 ((x.mi - 1 : Nat) : Int))) b (msc x.m g (x.mi - 1)) := by
      rw [← ea]; exact za.set 16 (by rw [msc_len IK.out.m8]; omega) _
    refine ⟨⟨za2, zr.bf bf2 (fun e => IK.out.ne e.symm), IK.out.ne, by unfold Ms.put; rw [List.length_set]; exact IK.out.l, IK.out.m8, IK.out.n1, IK.out.n11, by unfold Ms.put; simp only; omega, zpl, obj_set ZM.out.o⟩, ?_⟩
    · have e1 : Bf (fun q => q = b ∨ q = g) w wk := Bf.of BK.out
      have e2 : Bf (fun q => q = b ∨ q = g) wk V := ⟨bf.os, bf.tape, bf.output, bf.size, fun z hz hF => bf.block z hz (fun e => hF (.inr e))⟩
      have e3 : Bf (fun q => q = b ∨ q = g) V (V.setCell ⟨b, 16, none⟩ (.int .i64 ((x.mi - 1 : Nat) : Int))) := ⟨bf2.os, bf2.tape, bf2.output, bf2.size, fun z hz hF => bf2.block z hz (fun e => hF (.inl e))⟩
      exact (e1.trans (Nx.refl _ _) e2).trans (Nx.refl _ _) e3
  clear zr bf za zpl
  refine hKK.out _ _ (⟨⟨_, IK.out⟩, hHeld.2.later hbk⟩) (fun hHeld => ?_)
  clear hKK KK
  try simp only [opt58, Act.put, List.setIfInBounds_toArray, List.set_cons_zero, List.set_cons_succ]
  refine wpAnyH_take (i := 9) (oi := opt59) (v := ?_) rfl (by kernel_rfl) (by kernel_rfl) (by kernel_rfl) (fun _ _ _ h => h) (Or.inl ⟨by rfl, ?_⟩) (by assumption) ?_
  rotate_left
  · intro w' hSw
    clear hSw
    unfold opt59
    first
    | (go_simp; done)
    | (go_simp; with_reducible rfl)
  simp only [opt59, Act.put, List.setIfInBounds_toArray, List.set_cons_zero, List.set_cons_succ]
  refine wpAnyH_ready (rs := [10]) (by kernel_rfl) (by simp) ?_
  refine AllReadyH.cons (o := opt510) rfl (fun KK hKK => ?_) AllReadyH.nil
  have gF := IK.out.r.f
  have gc := IK.out.r.c p.k _ (scl_get _ _ kl)
  rw [hq0] at gc
  unfold opt510
  go_simp
  refine hKK.out _ _ (⟨⟨_, ZM.out⟩, ZA.out⟩) (fun _ => ?_)
  clear hKK KK gF gc
  try simp only [opt510, Act.put]
  refine wpAnyH_done (by kernel_rfl) ?_ _
  refine NoPanic.normal ?_
  clear ZM ZA hV IK BK
  go_wp2
  go_ret
  exact ⟨rfl, FI.out⟩
end Go.Proofs.YtdepjiocmbbdpaaDoor
