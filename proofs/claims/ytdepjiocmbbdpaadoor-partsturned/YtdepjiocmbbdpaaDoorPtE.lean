/- Which parts may be. -/
import Derived.Test.YtdepjiocmbbdpaaDoorPtD
namespace Go.Proofs.YtdepjiocmbbdpaaDoor
open Go.RowKit Go.Proofs.Fd Go.Proofs.Pt
set_option maxRecDepth 20000

def opmb0 : Oper := { dst := some 34, op := Go.Op.move (Go.Operand.tmp 3), type := 3, pos := "part.go:95", after := #[], guard := none }
def opmb1 : Oper := { dst := some 35, op := Go.Op.call { callee := Go.Callee.value (Go.Operand.func 33), args := #[Go.Operand.tmp 34], argTypes := #[3] }, type := 3, pos := "part.go:95", after := #[{ on := 0, ground := Go.Ground.data }], guard := none }
def opmb2 : Oper := { dst := some 36, op := Go.Op.fieldAddr 64 (Go.Operand.tmp 1) 0, type := 0, pos := "part.go:95", after := #[], guard := none }
def opmb3 : Oper := { dst := some 37, op := Go.Op.fieldAddr 60 (Go.Operand.tmp 36) 1, type := 0, pos := "part.go:95", after := #[{ on := 2, ground := Go.Ground.data }], guard := none }
def opmb4 : Oper := { dst := some 38, op := Go.Op.load 3 (Go.Operand.tmp 37), type := 3, pos := "part.go:95", after := #[{ on := 3, ground := Go.Ground.data }], guard := none }
def opmb5 : Oper := { dst := some 39, op := Go.Op.binOp Go.BinOp.eql 3 (Go.Operand.tmp 35) (Go.Operand.tmp 38) 3, type := 4, pos := "part.go:95", after := #[{ on := 1, ground := Go.Ground.data }, { on := 4, ground := Go.Ground.data }], guard := none }
def opmb6 : Oper := { dst := some 40, op := Go.Op.move (Go.Operand.tmp 39), type := 4, pos := "part.go:95", after := #[{ on := 5, ground := Go.Ground.data }, { on := 1, ground := Go.Ground.chain }], guard := none }
def opmb7 : Oper := { dst := some 41, op := Go.Op.move (Go.Operand.tmp 3), type := 3, pos := "part.go:95", after := #[{ on := 6, ground := Go.Ground.guard }], guard := some (6, true) }
def opmb8 : Oper := { dst := some 42, op := Go.Op.binOp Go.BinOp.leq 3 (Go.Operand.tmp 41) (Go.Operand.const (Go.Value.int Go.IntKind.i64 2048)) 3, type := 4, pos := "part.go:95", after := #[{ on := 7, ground := Go.Ground.data }, { on := 6, ground := Go.Ground.guard }], guard := some (6, true) }
def opmb9 : Oper := { dst := some 43, op := Go.Op.pick (Go.Operand.tmp 40) (Go.Operand.tmp 42) (Go.Operand.const (Go.Value.bool false)), type := 4, pos := "part.go:95", after := #[{ on := 6, ground := Go.Ground.data }, { on := 8, ground := Go.Ground.data }], guard := none }
def opmb10 : Oper := { dst := some 2, op := Go.Op.assign (Go.Operand.tmp 43), type := 4, pos := "part.go:95", after := #[{ on := 9, ground := Go.Ground.data }, { on := 6, ground := Go.Ground.chain }, { on := 0, ground := Go.Ground.phase }, { on := 1, ground := Go.Ground.phase }, { on := 2, ground := Go.Ground.phase }, { on := 3, ground := Go.Ground.phase }, { on := 4, ground := Go.Ground.phase }, { on := 5, ground := Go.Ground.phase }, { on := 6, ground := Go.Ground.phase }, { on := 7, ground := Go.Ground.phase }, { on := 8, ground := Go.Ground.phase }, { on := 9, ground := Go.Ground.phase }], guard := none }
theorem ret_b {x y : Bool} (h : x = y) : Ending.returned (.bool x) = Ending.returned (.bool y) := by rw [h]
set_option maxHeartbeats 4000000 in
theorem mayBe_any (p : Pa) (hm : Mk8 p.m) (hk : p.k < 256) (hn : p.m.2.1 < 256) (hp : p.p.length ≤ 140737488000000) (w : World) :
    Calls Tryd.prog 37 #[.agg (pac p).toArray] w fun e w' => e = .returned (.bool (decide (May p))) ∧ Below w.heap.size w w' := by
  obtain ⟨W0, hW0⟩ : ∃ W, w.alloc (.cells (pac p).toArray 64) = W := ⟨_, rfl⟩
  have y0 : Blk W0 w.heap.size (pac p) := hW0 ▸ Blk.new w (pac p) _ (pac_ne p)
  have b0 : Hid (Below w.heap.size w W0) := by show Below _ _ _; exact hW0 ▸ (Below.refl _ w).alloc (Nat.le_refl _) _
  have F0 := paf y0.r hm
  have cn := F0.n
  have ck := F0.k
  have cp := F0.p
  obtain ⟨L, hL⟩ : ∃ L, p.p.length = L := ⟨_, rfl⟩
  have sz : (st p.p).size = L := by rw [st_size, hL]
  have CO : Hid (∀ w, Calls Tryd.prog 33 #[.int .i64 ((p.k : Int) * 200 + (L : Int))] w fun e w' => e = .returned (.int .i64 (cnt (200 * p.k + L) : Int)) ∧ w' = w) := fun w => by
    have := countOf_any (200 * p.k + L) (by rw [hL] at hp; omega) w
    rw [show ((200 * p.k + L : Nat) : Int) = (p.k : Int) * 200 + (L : Int) by omega] at this
    exact this
  obtain ⟨R, hR⟩ : ∃ R, decide (May p) = R := ⟨_, rfl⟩
  have HM : Hid (∀ b : Bool, (b = true ↔ May p) → b = R) := fun b h => by
    rw [← hR]
    by_cases hb : May p
    · rw [decide_eq_true hb]; exact h.2 hb
    · rw [decide_eq_false hb]; cases b
      · rfl
      · exact absurd (h.1 rfl) hb
  rw [hR]
  unfold May at HM
  rw [hL] at HM hp
  clear F0 y0 hL hR
  generalize st p.p = P at *
  generalize p.k = K at *
  generalize p.m.2.1 = N at *
  by_cases g1 : 11 < N
  · have g1' : (11 : Int) < (N : Int) := by omega
    have RR : Hid (false = R) := HM.out false ⟨fun h => (by cases h), fun h => (by omega)⟩
    clear HM CO
    go_enter Tryd.func37, Tryd.ntmps37
    go_wp2
    go_ret
    exact ⟨ret_b RR.out, b0.out⟩
  by_cases g2 : N ≤ K
  · have g2' : (N : Int) ≤ (K : Int) := by omega
    have g1' : ¬ (11 : Int) < (N : Int) := by omega
    have RR : Hid (false = R) := HM.out false ⟨fun h => (by cases h), fun h => (by omega)⟩
    clear HM CO
    go_enter Tryd.func37, Tryd.ntmps37
    go_wp2
    go_ret
    exact ⟨ret_b RR.out, b0.out⟩
  have g1' : ¬ (11 : Int) < (N : Int) := by omega
  have g2' : ¬ (N : Int) ≤ (K : Int) := by omega
  have e1 : wrap64 ((N : Int) - 1) = ((N - 1 : Nat) : Int) := by unfold wrap64; omega
  by_cases g3 : K + 1 < N
  · have g3' : (K : Int) < ((N - 1 : Nat) : Int) := by omega
    have RR : Hid (((L : Int) == 200) = R) := HM.out _ (by rw [beq_iff_eq, if_pos g3]; omega)
    clear HM CO
    go_enter Tryd.func37, Tryd.ntmps37
    go_wp2
    go_ret
    exact ⟨ret_b RR.out, b0.out⟩
  · have g3' : ¬ (K : Int) < ((N - 1 : Nat) : Int) := by omega
    have e2 : wrap64 ((K : Int) * 200) = ((200 * K : Nat) : Int) := by unfold wrap64; omega
    have e3 : wrap64 (((200 * K : Nat) : Int) + (L : Int)) = ((200 * K + L : Nat) : Int) := by unfold wrap64; omega
    have RR : Hid (∀ b : Bool, (b = true ↔ cnt (200 * K + L) = N ∧ 200 * K + L ≤ 2048) → b = R) := fun b hb => HM.out b (by rw [hb, if_neg g3]; omega)
    clear HM
    generalize cnt (200 * K + L) = C at *
    by_cases gC : C = N
    · subst gC
      go_enter Tryd.func37, Tryd.ntmps37
      go_upto_region 6 with fail
      refine wp_region_noPanic ?_
      refine wp_region_held_drew (S := fun w' => w'.cell? ⟨w.heap.size, 8, none⟩ = some (.int .i64 (C : Int))) (by kernel_rfl) (cn) (fun hHeld => ?_)
      refine wpAnyH_take (i := 0) (oi := opmb0) (v := ?_) rfl (by kernel_rfl) (by kernel_rfl) (by kernel_rfl) (fun _ _ _ h => h) (Or.inl ⟨by rfl, ?_⟩) (by assumption) ?_
      rotate_left
      · intro w' hSw
        clear hSw
        unfold opmb0
        first
        | (go_simp; done)
        | (go_simp; with_reducible rfl)
      simp only [opmb0, Act.put, List.setIfInBounds_toArray, List.set_cons_zero, List.set_cons_succ]
      refine wpAnyH_take (i := 2) (oi := opmb2) (v := ?_) rfl (by kernel_rfl) (by kernel_rfl) (by kernel_rfl) (fun _ _ _ h => h) (Or.inl ⟨by rfl, ?_⟩) (by assumption) ?_
      rotate_left
      · intro w' hSw
        clear hSw
        unfold opmb2
        first
        | (go_simp; done)
        | (go_simp; with_reducible rfl)
      simp only [opmb2, Act.put, List.setIfInBounds_toArray, List.set_cons_zero, List.set_cons_succ]
      refine wpAnyH_take (i := 3) (oi := opmb3) (v := ?_) rfl (by kernel_rfl) (by kernel_rfl) (by kernel_rfl) (fun _ _ _ h => h) (Or.inl ⟨by rfl, ?_⟩) (by assumption) ?_
      rotate_left
      · intro w' hSw
        clear hSw
        unfold opmb3
        first
        | (go_simp; done)
        | (go_simp; with_reducible rfl)
      simp only [opmb3, Act.put, List.setIfInBounds_toArray, List.set_cons_zero, List.set_cons_succ]
      refine wpAnyH_take (i := 4) (oi := opmb4) (v := ?_) rfl (by kernel_rfl) (by kernel_rfl) (by kernel_rfl) (fun _ _ _ h => h) (Or.inl ⟨by rfl, ?_⟩) (by assumption) ?_
      rotate_left
      · intro w' hSw
        have hsw := hSw
        unfold opmb4
        first
        | (go_simp; done)
        | (go_simp; with_reducible rfl)
      simp only [opmb4, Act.put, List.setIfInBounds_toArray, List.set_cons_zero, List.set_cons_succ]
      refine wpAnyH_ready (rs := [1]) (by kernel_rfl) (by simp) ?_
      refine AllReadyH.cons (o := opmb1) rfl (fun KK hKK => ?_) AllReadyH.nil
      unfold opmb1
      go_simp
      refine Calls.mono (CO.out _) ?_
      rintro e wk ⟨rfl, rfl⟩
      refine hKK.out _ _ (hHeld) (fun hHeld => ?_)
      clear hKK KK
      try simp only [opmb1, Act.put, List.setIfInBounds_toArray, List.set_cons_zero, List.set_cons_succ]
      refine wpAnyH_take (i := 5) (oi := opmb5) (v := ?_) rfl (by kernel_rfl) (by kernel_rfl) (by kernel_rfl) (fun _ _ _ h => h) (Or.inl ⟨by rfl, ?_⟩) (by assumption) ?_
      rotate_left
      · intro w' hSw
        clear hSw
        unfold opmb5
        first
        | (go_simp; done)
        | (go_simp; with_reducible rfl)
      simp only [opmb5, Act.put, List.setIfInBounds_toArray, List.set_cons_zero, List.set_cons_succ]
      refine wpAnyH_take (i := 6) (oi := opmb6) (v := ?_) rfl (by kernel_rfl) (by kernel_rfl) (by kernel_rfl) (fun _ _ _ h => h) (Or.inl ⟨by rfl, ?_⟩) (by assumption) ?_
      rotate_left
      · intro w' hSw
        clear hSw
        unfold opmb6
        first
        | (go_simp; done)
        | (go_simp; with_reducible rfl)
      simp only [opmb6, Act.put, List.setIfInBounds_toArray, List.set_cons_zero, List.set_cons_succ]
      refine wpAnyH_take (i := 7) (oi := opmb7) (v := ?_) rfl (by kernel_rfl) (by kernel_rfl) (by kernel_rfl) (fun _ _ _ h => h) (Or.inl ⟨by rfl, ?_⟩) (by assumption) ?_
      rotate_left
      · intro w' hSw
        clear hSw
        unfold opmb7
        first
        | (go_simp; done)
        | (go_simp; with_reducible rfl)
      simp only [opmb7, Act.put, List.setIfInBounds_toArray, List.set_cons_zero, List.set_cons_succ]
      refine wpAnyH_take (i := 8) (oi := opmb8) (v := ?_) rfl (by kernel_rfl) (by kernel_rfl) (by kernel_rfl) (fun _ _ _ h => h) (Or.inl ⟨by rfl, ?_⟩) (by assumption) ?_
      rotate_left
      · intro w' hSw
        clear hSw
        unfold opmb8
        first
        | (go_simp; done)
        | (go_simp; with_reducible rfl)
      simp only [opmb8, Act.put, List.setIfInBounds_toArray, List.set_cons_zero, List.set_cons_succ]
      refine wpAnyH_take (i := 9) (oi := opmb9) (v := ?_) rfl (by kernel_rfl) (by kernel_rfl) (by kernel_rfl) (fun _ _ _ h => h) (Or.inl ⟨by rfl, ?_⟩) (by assumption) ?_
      rotate_left
      · intro w' hSw
        clear hSw
        unfold opmb9
        first
        | (go_simp; done)
        | (go_simp; with_reducible rfl)
      simp only [opmb9, Act.put, List.setIfInBounds_toArray, List.set_cons_zero, List.set_cons_succ]
      refine wpAnyH_take (i := 10) (oi := opmb10) (v := ?_) rfl (by kernel_rfl) (by kernel_rfl) (by kernel_rfl) (fun _ _ _ h => h) (Or.inl ⟨by rfl, ?_⟩) (by assumption) ?_
      rotate_left
      · intro w' hSw
        clear hSw
        unfold opmb10
        first
        | (go_simp; done)
        | (go_simp; with_reducible rfl)
      simp only [opmb10, Act.put, List.setIfInBounds_toArray, List.set_cons_zero, List.set_cons_succ]
      refine wpAnyH_done (by kernel_rfl) ?_ _
      refine NoPanic.normal ?_
      go_wp2
      go_ret
      exact ⟨ret_b (RR.out _ (by simp; omega)), b0.out.drew⟩
    · have gc : ((C : Int) == (N : Int)) = false := by rw [beq_eq_false_iff_ne]; omega
      go_enter Tryd.func37, Tryd.ntmps37
      go_upto_region 6 with fail
      refine wp_region_noPanic ?_
      refine wp_region_held_drew (S := fun w' => w'.cell? ⟨w.heap.size, 8, none⟩ = some (.int .i64 (N : Int))) (by kernel_rfl) (cn) (fun hHeld => ?_)
      refine wpAnyH_take (i := 0) (oi := opmb0) (v := ?_) rfl (by kernel_rfl) (by kernel_rfl) (by kernel_rfl) (fun _ _ _ h => h) (Or.inl ⟨by rfl, ?_⟩) (by assumption) ?_
      rotate_left
      · intro w' hSw
        clear hSw
        unfold opmb0
        first
        | (go_simp; done)
        | (go_simp; with_reducible rfl)
      simp only [opmb0, Act.put, List.setIfInBounds_toArray, List.set_cons_zero, List.set_cons_succ]
      refine wpAnyH_take (i := 2) (oi := opmb2) (v := ?_) rfl (by kernel_rfl) (by kernel_rfl) (by kernel_rfl) (fun _ _ _ h => h) (Or.inl ⟨by rfl, ?_⟩) (by assumption) ?_
      rotate_left
      · intro w' hSw
        clear hSw
        unfold opmb2
        first
        | (go_simp; done)
        | (go_simp; with_reducible rfl)
      simp only [opmb2, Act.put, List.setIfInBounds_toArray, List.set_cons_zero, List.set_cons_succ]
      refine wpAnyH_take (i := 3) (oi := opmb3) (v := ?_) rfl (by kernel_rfl) (by kernel_rfl) (by kernel_rfl) (fun _ _ _ h => h) (Or.inl ⟨by rfl, ?_⟩) (by assumption) ?_
      rotate_left
      · intro w' hSw
        clear hSw
        unfold opmb3
        first
        | (go_simp; done)
        | (go_simp; with_reducible rfl)
      simp only [opmb3, Act.put, List.setIfInBounds_toArray, List.set_cons_zero, List.set_cons_succ]
      refine wpAnyH_take (i := 4) (oi := opmb4) (v := ?_) rfl (by kernel_rfl) (by kernel_rfl) (by kernel_rfl) (fun _ _ _ h => h) (Or.inl ⟨by rfl, ?_⟩) (by assumption) ?_
      rotate_left
      · intro w' hSw
        have hsw := hSw
        unfold opmb4
        first
        | (go_simp; done)
        | (go_simp; with_reducible rfl)
      simp only [opmb4, Act.put, List.setIfInBounds_toArray, List.set_cons_zero, List.set_cons_succ]
      refine wpAnyH_ready (rs := [1]) (by kernel_rfl) (by simp) ?_
      refine AllReadyH.cons (o := opmb1) rfl (fun KK hKK => ?_) AllReadyH.nil
      unfold opmb1
      go_simp
      refine Calls.mono (CO.out _) ?_
      rintro e wk ⟨rfl, rfl⟩
      refine hKK.out _ _ (hHeld) (fun hHeld => ?_)
      clear hKK KK
      try simp only [opmb1, Act.put, List.setIfInBounds_toArray, List.set_cons_zero, List.set_cons_succ]
      refine wpAnyH_take (i := 5) (oi := opmb5) (v := ?_) rfl (by kernel_rfl) (by kernel_rfl) (by kernel_rfl) (fun _ _ _ h => h) (Or.inl ⟨by rfl, ?_⟩) (by assumption) ?_
      rotate_left
      · intro w' hSw
        clear hSw
        unfold opmb5
        first
        | (go_simp; done)
        | (go_simp; with_reducible rfl)
      simp only [opmb5, Act.put, List.setIfInBounds_toArray, List.set_cons_zero, List.set_cons_succ]
      refine wpAnyH_take (i := 6) (oi := opmb6) (v := ?_) rfl (by kernel_rfl) (by kernel_rfl) (by kernel_rfl) (fun _ _ _ h => h) (Or.inl ⟨by rfl, ?_⟩) (by assumption) ?_
      rotate_left
      · intro w' hSw
        clear hSw
        unfold opmb6
        first
        | (go_simp; done)
        | (go_simp; with_reducible rfl)
      simp only [opmb6, Act.put, List.setIfInBounds_toArray, List.set_cons_zero, List.set_cons_succ]
      refine wpAnyH_take (i := 7) (oi := opmb7) (v := undef) rfl (by kernel_rfl) (by kernel_rfl) (by kernel_rfl) (fun _ _ _ h => h) (Or.inr ⟨by rfl, rfl⟩) (by assumption) ?_
      simp only [opmb7, Act.put, List.setIfInBounds_toArray, List.set_cons_zero, List.set_cons_succ]
      refine wpAnyH_take (i := 8) (oi := opmb8) (v := undef) rfl (by kernel_rfl) (by kernel_rfl) (by kernel_rfl) (fun _ _ _ h => h) (Or.inr ⟨by rfl, rfl⟩) (by assumption) ?_
      simp only [opmb8, Act.put, List.setIfInBounds_toArray, List.set_cons_zero, List.set_cons_succ]
      refine wpAnyH_take (i := 9) (oi := opmb9) (v := ?_) rfl (by kernel_rfl) (by kernel_rfl) (by kernel_rfl) (fun _ _ _ h => h) (Or.inl ⟨by rfl, ?_⟩) (by assumption) ?_
      rotate_left
      · intro w' hSw
        clear hSw
        unfold opmb9
        first
        | (go_simp; done)
        | (go_simp; with_reducible rfl)
      simp only [opmb9, Act.put, List.setIfInBounds_toArray, List.set_cons_zero, List.set_cons_succ]
      refine wpAnyH_take (i := 10) (oi := opmb10) (v := ?_) rfl (by kernel_rfl) (by kernel_rfl) (by kernel_rfl) (fun _ _ _ h => h) (Or.inl ⟨by rfl, ?_⟩) (by assumption) ?_
      rotate_left
      · intro w' hSw
        clear hSw
        unfold opmb10
        first
        | (go_simp; done)
        | (go_simp; with_reducible rfl)
      simp only [opmb10, Act.put, List.setIfInBounds_toArray, List.set_cons_zero, List.set_cons_succ]
      refine wpAnyH_done (by kernel_rfl) ?_ _
      refine NoPanic.normal ?_
      go_wp2
      go_ret
      exact ⟨ret_b (RR.out false ⟨fun h => (by cases h), fun h => absurd h.1 gC⟩), b0.out.drew⟩
end Go.Proofs.YtdepjiocmbbdpaaDoor
