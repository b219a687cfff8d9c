/- TapePlays: a tape answers, call by call, as the document has it. -/
import Derived.Test.YtfieabdjfhkpjaaTaA
import Derived.Test.YtfieabdjfhkpjaaTaS
namespace Go.Proofs.Ytfieabdjfhkpjaa
open Go.RowKit Go.Proofs.Fd Go.Proofs.Ta
set_option maxRecDepth 20000

/-- The program's tape and the document's, of the call's own. -/
def Duo (w wr : World) (p d : Nat) (l : List UInt8) : Prop := TAt wr p l ∧ DAt wr d l ∧ p ≠ d ∧ (w.heap.size ≤ p ∧ w.heap.size ≤ d) ∧ Below w.heap.size w wr
theorem Duo.later {w wr w' : World} {p d : Nat} {l : List UInt8} (h : Duo w wr p d l) (hb : Below wr.heap.size wr w') : Duo w w' p d l := by
  obtain ⟨i1, i2, i3, i4, i5⟩ := h
  exact ⟨i1.later hb, i2.later hb, i3, i4, chain i5 hb⟩
def opa0 : Oper := { dst := some 34, op := Go.Op.move (Go.Operand.tmp 8), type := 23, pos := "law.go:47", after := #[], guard := none }
def opa1 : Oper := { dst := some 35, op := Go.Op.binOp Go.BinOp.eql 23 (Go.Operand.tmp 34) (Go.Operand.const (Go.Value.pointer none)) 23, type := 4, pos := "law.go:47", after := #[{ on := 0, ground := Go.Ground.data }], guard := none }
def opa2 : Oper := { dst := some 36, op := Go.Op.move (Go.Operand.tmp 35), type := 4, pos := "law.go:47", after := #[{ on := 1, ground := Go.Ground.data }], guard := none }
def opa3 : Oper := { dst := some 37, op := Go.Op.move (Go.Operand.tmp 8), type := 23, pos := "law.go:47", after := #[{ on := 2, ground := Go.Ground.guard }], guard := some (2, false) }
def opa4 : Oper := { dst := some 38, op := Go.Op.move (Go.Operand.tmp 6), type := 25, pos := "law.go:47", after := #[{ on := 2, ground := Go.Ground.guard }], guard := some (2, false) }
def opa5 : Oper := { dst := some 39, op := Go.Op.nilCheck (Go.Operand.tmp 38), type := 0, pos := "law.go:47", after := #[{ on := 4, ground := Go.Ground.data }, { on := 2, ground := Go.Ground.guard }], guard := some (2, false) }
def opa6 : Oper := { dst := some 40, op := Go.Op.fieldAddr 27 (Go.Operand.tmp 39) 0, type := 0, pos := "law.go:47", after := #[{ on := 5, ground := Go.Ground.data }, { on := 2, ground := Go.Ground.guard }], guard := some (2, false) }
def opa7 : Oper := { dst := some 41, op := Go.Op.load 9 (Go.Operand.tmp 40), type := 9, pos := "law.go:47", after := #[{ on := 6, ground := Go.Ground.data }, { on := 2, ground := Go.Ground.guard }], guard := some (2, false) }
def opa8 : Oper := { dst := some 42, op := Go.Op.build 27 #[(0, Go.Operand.tmp 41)], type := 27, pos := "law.go:47", after := #[{ on := 7, ground := Go.Ground.data }, { on := 2, ground := Go.Ground.guard }], guard := some (2, false) }
def opa9 : Oper := { dst := some 43, op := Go.Op.box 27 (Go.Operand.tmp 42), type := 25, pos := "law.go:47", after := #[{ on := 8, ground := Go.Ground.data }, { on := 2, ground := Go.Ground.guard }], guard := some (2, false) }
def opa10 : Oper := { dst := some 44, op := Go.Op.move (Go.Operand.tmp 1), type := 22, pos := "law.go:47", after := #[{ on := 2, ground := Go.Ground.guard }], guard := some (2, false) }
def opa11 : Oper := { dst := some 45, op := Go.Op.move (Go.Operand.tmp 7), type := 3, pos := "law.go:47", after := #[{ on := 2, ground := Go.Ground.guard }], guard := some (2, false) }
def opa12 : Oper := { dst := some 46, op := Go.Op.indexAddr 22 (Go.Operand.tmp 44) (Go.Operand.tmp 45), type := 0, pos := "law.go:47", after := #[{ on := 10, ground := Go.Ground.data }, { on := 11, ground := Go.Ground.data }, { on := 2, ground := Go.Ground.guard }], guard := some (2, false) }
def opa13 : Oper := { dst := some 47, op := Go.Op.load 32 (Go.Operand.tmp 46), type := 32, pos := "law.go:47", after := #[{ on := 12, ground := Go.Ground.data }, { on := 2, ground := Go.Ground.guard }], guard := some (2, false) }
def opa14 : Oper := { dst := some 48, op := Go.Op.call { callee := Go.Callee.value (Go.Operand.func 11), args := #[Go.Operand.tmp 37, Go.Operand.tmp 43, Go.Operand.tmp 47], argTypes := #[23, 25, 32] }, type := 4, pos := "law.go:47", after := #[{ on := 3, ground := Go.Ground.data }, { on := 9, ground := Go.Ground.data }, { on := 13, ground := Go.Ground.data }, { on := 2, ground := Go.Ground.chain }, { on := 2, ground := Go.Ground.guard }], guard := some (2, false) }
def opa15 : Oper := { dst := some 49, op := Go.Op.unOp Go.UnOp.not 4 (Go.Operand.tmp 48), type := 4, pos := "law.go:47", after := #[{ on := 14, ground := Go.Ground.data }, { on := 2, ground := Go.Ground.guard }], guard := some (2, false) }
def opa16 : Oper := { dst := some 50, op := Go.Op.pick (Go.Operand.tmp 36) (Go.Operand.const (Go.Value.bool true)) (Go.Operand.tmp 49), type := 4, pos := "law.go:47", after := #[{ on := 2, ground := Go.Ground.data }, { on := 15, ground := Go.Ground.data }], guard := none }
def opb0 : Oper := { dst := some 51, op := Go.Op.move (Go.Operand.tmp 5), type := 23, pos := "law.go:50", after := #[], guard := none }
def opb1 : Oper := { dst := some 52, op := Go.Op.move (Go.Operand.tmp 6), type := 25, pos := "law.go:50", after := #[], guard := none }
def opb2 : Oper := { dst := some 53, op := Go.Op.move (Go.Operand.tmp 1), type := 22, pos := "law.go:50", after := #[], guard := none }
def opb3 : Oper := { dst := some 54, op := Go.Op.move (Go.Operand.tmp 7), type := 3, pos := "law.go:50", after := #[], guard := none }
def opb4 : Oper := { dst := some 55, op := Go.Op.indexAddr 22 (Go.Operand.tmp 53) (Go.Operand.tmp 54), type := 0, pos := "law.go:50", after := #[{ on := 2, ground := Go.Ground.data }, { on := 3, ground := Go.Ground.data }], guard := none }
def opb5 : Oper := { dst := some 56, op := Go.Op.load 32 (Go.Operand.tmp 55), type := 32, pos := "law.go:50", after := #[{ on := 4, ground := Go.Ground.data }], guard := none }
def opb6 : Oper := { dst := some 57, op := Go.Op.call { callee := Go.Callee.value (Go.Operand.func 11), args := #[Go.Operand.tmp 51, Go.Operand.tmp 52, Go.Operand.tmp 56], argTypes := #[23, 25, 32] }, type := 4, pos := "law.go:50", after := #[{ on := 0, ground := Go.Ground.data }, { on := 1, ground := Go.Ground.data }, { on := 5, ground := Go.Ground.data }], guard := none }
def opb7 : Oper := { dst := some 58, op := Go.Op.unOp Go.UnOp.not 4 (Go.Operand.tmp 57), type := 4, pos := "law.go:50", after := #[{ on := 6, ground := Go.Ground.data }], guard := none }
def opb8 : Oper := { dst := some 59, op := Go.Op.move (Go.Operand.tmp 58), type := 4, pos := "law.go:50", after := #[{ on := 7, ground := Go.Ground.data }, { on := 6, ground := Go.Ground.chain }], guard := none }
def opb9 : Oper := { dst := some 60, op := Go.Op.move (Go.Operand.tmp 5), type := 23, pos := "law.go:50", after := #[{ on := 8, ground := Go.Ground.guard }], guard := some (8, false) }
def opb10 : Oper := { dst := some 61, op := Go.Op.call { callee := Go.Callee.value (Go.Operand.func 12), args := #[Go.Operand.tmp 60], argTypes := #[23] }, type := 3, pos := "law.go:50", after := #[{ on := 9, ground := Go.Ground.data }, { on := 8, ground := Go.Ground.chain }, { on := 8, ground := Go.Ground.guard }], guard := some (8, false) }
def opb11 : Oper := { dst := some 62, op := Go.Op.move (Go.Operand.tmp 6), type := 25, pos := "law.go:50", after := #[{ on := 8, ground := Go.Ground.guard }], guard := some (8, false) }
def opb12 : Oper := { dst := some 63, op := Go.Op.nilCheck (Go.Operand.tmp 62), type := 0, pos := "law.go:50", after := #[{ on := 11, ground := Go.Ground.data }, { on := 8, ground := Go.Ground.guard }], guard := some (8, false) }
def opb13 : Oper := { dst := some 64, op := Go.Op.fieldAddr 27 (Go.Operand.tmp 63) 0, type := 0, pos := "law.go:50", after := #[{ on := 12, ground := Go.Ground.data }, { on := 8, ground := Go.Ground.guard }], guard := some (8, false) }
def opb14 : Oper := { dst := some 65, op := Go.Op.load 9 (Go.Operand.tmp 64), type := 9, pos := "law.go:50", after := #[{ on := 13, ground := Go.Ground.data }, { on := 8, ground := Go.Ground.guard }], guard := some (8, false) }
def opb15 : Oper := { dst := some 66, op := Go.Op.call { callee := Go.Callee.builtin Go.Builtin.len, args := #[Go.Operand.tmp 65], argTypes := #[9] }, type := 3, pos := "law.go:50", after := #[{ on := 14, ground := Go.Ground.data }, { on := 8, ground := Go.Ground.guard }], guard := some (8, false) }
def opb16 : Oper := { dst := some 67, op := Go.Op.binOp Go.BinOp.neq 3 (Go.Operand.tmp 61) (Go.Operand.tmp 66) 3, type := 4, pos := "law.go:50", after := #[{ on := 10, ground := Go.Ground.data }, { on := 15, ground := Go.Ground.data }, { on := 8, ground := Go.Ground.guard }], guard := some (8, false) }
def opb17 : Oper := { dst := some 68, op := Go.Op.pick (Go.Operand.tmp 59) (Go.Operand.const (Go.Value.bool true)) (Go.Operand.tmp 67), type := 4, pos := "law.go:50", after := #[{ on := 8, ground := Go.Ground.data }, { on := 16, ground := Go.Ground.data }], guard := none }
set_option maxHeartbeats 4000000 in
theorem TapePlays_walk (t : ByteArray) (ht : t.size ≤ 140737488351232) (a : Option Addr) (cs : List (Int × Int)) (n cap : Nat) (hn : Hid (cs.length = n)) (w : World) (hc : Hid (ActAt w a cs)) :
    Calls Try.prog 3 #[.string t, .slice a n cap] w fun e w' => e = .returned (.bool true) ∧ Below w.heap.size w w' := by
  have NW : Hid (∀ w, _) := fun w => new_any t ht w
  have HT : Hid (t.size ≤ 140737488351232) := ht
  clear ht
  go_enter Try.func3, Try.ntmps3
  go_wp2_with fail
  refine Calls.mono (NW.out _) ?_
  rintro e w1 ⟨p, rfl, hT, hp, hb⟩
  obtain ⟨W, hW⟩ : ∃ W, w1.alloc (.cells #[.string t] 27) = W := ⟨_, rfl⟩
  obtain ⟨d, hd⟩ : ∃ d, w1.heap.size = d := ⟨_, rfl⟩
  have I2 : Hid (Duo w W p d t.data.toList) := by
    have hD := DAt.new w1 t.data.toList 27 (by have := HT.out; simpa using this)
    rw [ba_list, hW, hd] at hD
    have hB : Below w1.heap.size w1 W := by rw [← hW]; exact (Below.refl _ _).alloc (Nat.le_refl _) _
    have := hT.lt
    have := hb.size
    exact ⟨hT.later hB, hD, by omega, ⟨hp, by omega⟩, chain hb hB⟩
  clear hT hp hb NW HT
  go_wp2_with fail
  refine Calls.mono (works_any _) ?_
  rintro e w3 ⟨rfl, hb⟩
  have I3 : Hid (Duo w w3 p d t.data.toList) := I2.out.later hb
  clear hb I2 hW hd
  go_wp2
  go_loopw [7] (fun i wr => ∃ (k : Nat) (l : List UInt8), k ≤ n ∧ k ≤ 100 ∧ i = .int .i64 (k : Int) ∧ Hid (Duo w wr p d l)) (fun i _ => 100 - (intOf i).toNat)
  case atStart => exact ⟨0, _, by omega, by omega, rfl, I3.out⟩
  case round =>
    obtain ⟨k, l, hk, hk2, rfl, I⟩ := hrel
    clear I3
    by_cases hlt : k < n ∧ k < 100
    · have g1 : (k : Int) < (n : Int) := by omega
      have g2 : (k : Int) < 100 := by omega
      go_wp2_with fail
      refine Calls.mono (fork_any p l wr I.out.1) ?_
      rintro e w4 ⟨pf, rfl, hT, hp, hb⟩
      have I4 : Hid (Duo w w4 p d l ∧ TAt w4 pf l ∧ p ≠ pf ∧ d ≠ pf ∧ w.heap.size ≤ pf) := by
        have := I.out.1.lt
        have := I.out.2.1.lt
        have := I.out.2.2.2.2.size
        exact ⟨I.out.later hb, hT, by omega, by omega, by omega⟩
      clear hT hp hb I
      obtain ⟨b1, o1, rfl, c0, c1⟩ := (hc.out.later I4.out.1.2.2.2.2) k (by have := hn.out; omega)
      have lbw : Hid (b1 < w.heap.size) := by
        obtain ⟨b2, o2, e2, c2, -⟩ := hc.out k (by have := hn.out; omega)
        cases e2
        exact World.block_lt_of_cell? _ _ c2
      obtain ⟨x, hx⟩ : ∃ x, (cs[k]'(by have := hn.out; omega)).1 = x := ⟨_, rfl⟩
      obtain ⟨y, hy⟩ : ∃ y, (cs[k]'(by have := hn.out; omega)).2 = y := ⟨_, rfl⟩
      rw [hx] at c0
      rw [hy] at c1
      have cd := I4.out.1.2.1.1
      obtain ⟨S, hS⟩ : ∃ S : ByteArray, ⟨l.toArray⟩ = S := ⟨_, rfl⟩
      rw [hS] at cd
      have ST : Hid (∀ D, w4.drew = D → Calls Try.prog 11 #[.pointer (some ⟨pf, 0, none⟩), .pointer (some ⟨D.heap.size, 0, none⟩), .agg #[.int .i64 x, .int .i64 y]] (D.alloc (.cells #[.string S] 27)) fun e w' => e = .returned (.bool true) ∧ Duo w w' p d l ∧ But pf D.heap.size (D.alloc (.cells #[.string S] 27)) w') := fun D hD => by
        obtain ⟨⟨i1, i2, i3, ⟨i4, i5⟩, i6⟩, j1, j2, j3, j4⟩ := I4.out
        have hB : Below w4.heap.size w4 (D.alloc (.cells #[.string S] 27)) := by rw [← hD]; exact (Below.refl _ _).drew.alloc (Nat.le_refl _) _
        have eD : D.heap.size = w4.heap.size := by rw [← hD]; rfl
        have hN := DAt.new D l 27 j1.small
        rw [hS] at hN
        have l1 := i1.lt
        have l2 := i2.lt
        have l3 := j1.lt
        have l4 := i6.size
        refine Calls.mono (step_any pf D.heap.size l x y _ (by omega) (j1.later hB) hN) ?_
        rintro e w5 ⟨rfl, m, -, -, hb5⟩
        refine ⟨rfl, ⟨(i1.later hB).apart hb5 j2 (by omega), (i2.later hB).apart hb5 j3 (by omega), i3, ⟨i4, i5⟩, ?_⟩, hb5⟩
        exact (chain i6 hB).trans (hb5.below j4 (by omega) (by have := (chain i6 hB).size; omega))
      have LD : Hid (d ≠ pf ∧ d < w4.heap.size ∧ w.heap.size ≤ pf ∧ w.heap.size ≤ w4.heap.size) := ⟨I4.out.2.2.2.1, I4.out.1.2.1.lt, I4.out.2.2.2.2, I4.out.1.2.2.2.2.size⟩
      clear hx hy hS I4
      go_wp2
      refine wp_region_noPanic ?_
      refine wp_region_held_drew (S := fun w' => w'.cell? ⟨d, 0, none⟩ = some (.string S) ∧ w'.cell? ⟨b1, o1 + k * 2, none⟩ = some (.int .i64 x) ∧ w'.cell? ⟨b1, o1 + k * 2 + 1, none⟩ = some (.int .i64 y)) (by kernel_rfl) (⟨cd, c0, c1⟩) (fun hHeld => ?_)
      obtain ⟨D, hD⟩ : ∃ D, w4.drew = D := ⟨_, rfl⟩
      rw [hD] at hHeld ⊢
      refine wpAnyH_take (i := 0) (oi := opa0) (v := ?_) rfl (by kernel_rfl) (by kernel_rfl) (by kernel_rfl) (fun _ _ _ h => h) (Or.inl ⟨by rfl, ?_⟩) (by assumption) ?_
      rotate_left
      · intro w' hSw
        clear hSw
        unfold opa0
        first
        | (go_simp; done)
        | (go_simp; with_reducible rfl)
      simp only [opa0, Act.put, List.setIfInBounds_toArray, List.set_cons_zero, List.set_cons_succ]
      refine wpAnyH_take (i := 1) (oi := opa1) (v := ?_) rfl (by kernel_rfl) (by kernel_rfl) (by kernel_rfl) (fun _ _ _ h => h) (Or.inl ⟨by rfl, ?_⟩) (by assumption) ?_
      rotate_left
      · intro w' hSw
        clear hSw
        unfold opa1
        first
        | (go_simp; done)
        | (go_simp; with_reducible rfl)
      simp only [opa1, Act.put, List.setIfInBounds_toArray, List.set_cons_zero, List.set_cons_succ]
      refine wpAnyH_take (i := 2) (oi := opa2) (v := ?_) rfl (by kernel_rfl) (by kernel_rfl) (by kernel_rfl) (fun _ _ _ h => h) (Or.inl ⟨by rfl, ?_⟩) (by assumption) ?_
      rotate_left
      · intro w' hSw
        clear hSw
        unfold opa2
        first
        | (go_simp; done)
        | (go_simp; with_reducible rfl)
      simp only [opa2, Act.put, List.setIfInBounds_toArray, List.set_cons_zero, List.set_cons_succ]
      refine wpAnyH_take (i := 3) (oi := opa3) (v := ?_) rfl (by kernel_rfl) (by kernel_rfl) (by kernel_rfl) (fun _ _ _ h => h) (Or.inl ⟨by rfl, ?_⟩) (by assumption) ?_
      rotate_left
      · intro w' hSw
        clear hSw
        unfold opa3
        first
        | (go_simp; done)
        | (go_simp; with_reducible rfl)
      simp only [opa3, Act.put, List.setIfInBounds_toArray, List.set_cons_zero, List.set_cons_succ]
      refine wpAnyH_take (i := 4) (oi := opa4) (v := ?_) rfl (by kernel_rfl) (by kernel_rfl) (by kernel_rfl) (fun _ _ _ h => h) (Or.inl ⟨by rfl, ?_⟩) (by assumption) ?_
      rotate_left
      · intro w' hSw
        clear hSw
        unfold opa4
        first
        | (go_simp; done)
        | (go_simp; with_reducible rfl)
      simp only [opa4, Act.put, List.setIfInBounds_toArray, List.set_cons_zero, List.set_cons_succ]
      refine wpAnyH_take (i := 5) (oi := opa5) (v := ?_) rfl (by kernel_rfl) (by kernel_rfl) (by kernel_rfl) (fun _ _ _ h => h) (Or.inl ⟨by rfl, ?_⟩) (by assumption) ?_
      rotate_left
      · intro w' hSw
        clear hSw
        unfold opa5
        first
        | (go_simp; done)
        | (go_simp; with_reducible rfl)
      simp only [opa5, Act.put, List.setIfInBounds_toArray, List.set_cons_zero, List.set_cons_succ]
      refine wpAnyH_take (i := 6) (oi := opa6) (v := ?_) rfl (by kernel_rfl) (by kernel_rfl) (by kernel_rfl) (fun _ _ _ h => h) (Or.inl ⟨by rfl, ?_⟩) (by assumption) ?_
      rotate_left
      · intro w' hSw
        clear hSw
        unfold opa6
        first
        | (go_simp; done)
        | (go_simp; with_reducible rfl)
      simp only [opa6, Act.put, List.setIfInBounds_toArray, List.set_cons_zero, List.set_cons_succ]
      refine wpAnyH_take (i := 7) (oi := opa7) (v := ?_) rfl (by kernel_rfl) (by kernel_rfl) (by kernel_rfl) (fun _ _ _ h => h) (Or.inl ⟨by rfl, ?_⟩) (by assumption) ?_
      rotate_left
      · intro w' hSw
        obtain ⟨s0, s1, s2⟩ := hSw
        unfold opa7
        first
        | (go_simp; done)
        | (go_simp; with_reducible rfl)
      simp only [opa7, Act.put, List.setIfInBounds_toArray, List.set_cons_zero, List.set_cons_succ]
      refine wpAnyH_take (i := 8) (oi := opa8) (v := ?_) rfl (by kernel_rfl) (by kernel_rfl) (by kernel_rfl) (fun _ _ _ h => h) (Or.inl ⟨by rfl, ?_⟩) (by assumption) ?_
      rotate_left
      · intro w' hSw
        clear hSw
        unfold opa8
        first
        | (go_simp; done)
        | (go_simp; with_reducible rfl)
      simp only [opa8, Act.put, List.setIfInBounds_toArray, List.set_cons_zero, List.set_cons_succ]
      refine wpAnyH_take (i := 10) (oi := opa10) (v := ?_) rfl (by kernel_rfl) (by kernel_rfl) (by kernel_rfl) (fun _ _ _ h => h) (Or.inl ⟨by rfl, ?_⟩) (by assumption) ?_
      rotate_left
      · intro w' hSw
        clear hSw
        unfold opa10
        first
        | (go_simp; done)
        | (go_simp; with_reducible rfl)
      simp only [opa10, Act.put, List.setIfInBounds_toArray, List.set_cons_zero, List.set_cons_succ]
      refine wpAnyH_take (i := 11) (oi := opa11) (v := ?_) rfl (by kernel_rfl) (by kernel_rfl) (by kernel_rfl) (fun _ _ _ h => h) (Or.inl ⟨by rfl, ?_⟩) (by assumption) ?_
      rotate_left
      · intro w' hSw
        clear hSw
        unfold opa11
        first
        | (go_simp; done)
        | (go_simp; with_reducible rfl)
      simp only [opa11, Act.put, List.setIfInBounds_toArray, List.set_cons_zero, List.set_cons_succ]
      refine wpAnyH_take (i := 12) (oi := opa12) (v := ?_) rfl (by kernel_rfl) (by kernel_rfl) (by kernel_rfl) (fun _ _ _ h => h) (Or.inl ⟨by rfl, ?_⟩) (by assumption) ?_
      rotate_left
      · intro w' hSw
        clear hSw
        unfold opa12
        first
        | (go_simp; done)
        | (go_simp; with_reducible rfl)
      simp only [opa12, Act.put, List.setIfInBounds_toArray, List.set_cons_zero, List.set_cons_succ]
      refine wpAnyH_take (i := 13) (oi := opa13) (v := ?_) rfl (by kernel_rfl) (by kernel_rfl) (by kernel_rfl) (fun _ _ _ h => h) (Or.inl ⟨by rfl, ?_⟩) (by assumption) ?_
      rotate_left
      · intro w' hSw
        obtain ⟨s0, s1, s2⟩ := hSw
        unfold opa13
        first
        | (go_simp; done)
        | (go_simp; with_reducible rfl)
      simp only [opa13, Act.put, List.setIfInBounds_toArray, List.set_cons_zero, List.set_cons_succ]
      refine wpAnyH_ready (rs := [9]) (by kernel_rfl) (by simp) ?_
      refine AllReadyH.cons (o := opa9) rfl (fun KK hKK => ?_) AllReadyH.nil
      unfold opa9
      go_simp
      refine hKK.out _ _ (⟨cell_alloc hHeld.1, cell_alloc hHeld.2.1, cell_alloc hHeld.2.2⟩) (fun hHeldA => ?_)
      clear hKK KK
      refine wpAnyH_ready (rs := [14]) (by kernel_rfl) (by simp) ?_
      refine AllReadyH.cons (o := opa14) rfl (fun KK hKK => ?_) AllReadyH.nil
      unfold opa14
      go_simp
      refine Calls.mono (ST.out D hD) ?_
      rintro e w5 ⟨rfl, hu5, hb5⟩
      have lD : D.heap.size = w4.heap.size := by rw [← hD]; rfl
      have I5 : Hid (Duo w w5 p d l) := hu5
      have hHeldX := hHeldA
      have k0 : w5.cell? ⟨b1, o1 + k * 2, none⟩ = some (.int .i64 x) := hb5.cell hHeldX.2.1 (show b1 ≠ pf by have := lbw.out; have := LD.out; omega) (show b1 ≠ D.heap.size by have := lbw.out; have := LD.out; omega)
      have k1 : w5.cell? ⟨b1, o1 + k * 2 + 1, none⟩ = some (.int .i64 y) := hb5.cell hHeldX.2.2 (show b1 ≠ pf by have := lbw.out; have := LD.out; omega) (show b1 ≠ D.heap.size by have := lbw.out; have := LD.out; omega)
      have kd : w5.cell? ⟨d, 0, none⟩ = some (.string S) := hb5.cell hHeldX.1 LD.out.1 (show d ≠ D.heap.size by have := LD.out; omega)
      refine hKK.out _ _ (⟨kd, k0, k1⟩) (fun hHeldB => ?_)
      clear hKK KK
      clear hHeldX lD hu5 hb5 hHeldA hHeld ST c0 c1 cd kd
      refine wpAnyH_take (i := 15) (oi := opa15) (v := ?_) rfl (by kernel_rfl) (by kernel_rfl) (by kernel_rfl) (fun _ _ _ h => h) (Or.inl ⟨by rfl, ?_⟩) (by assumption) ?_
      rotate_left
      · intro w' hSw
        clear hSw
        unfold opa15
        first
        | (go_simp; done)
        | (go_simp; with_reducible rfl)
      simp only [opa15, Act.put, List.setIfInBounds_toArray, List.set_cons_zero, List.set_cons_succ]
      refine wpAnyH_take (i := 16) (oi := opa16) (v := ?_) rfl (by kernel_rfl) (by kernel_rfl) (by kernel_rfl) (fun _ _ _ h => h) (Or.inl ⟨by rfl, ?_⟩) (by assumption) ?_
      rotate_left
      · intro w' hSw
        clear hSw
        unfold opa16
        first
        | (go_simp; done)
        | (go_simp; with_reducible rfl)
      simp only [opa16, Act.put, List.setIfInBounds_toArray, List.set_cons_zero, List.set_cons_succ]
      refine wpAnyH_done (by kernel_rfl) ?_ _
      refine NoPanic.normal ?_
      clear hHeldB hD LD
      have SU : Hid (∀ E, w5.drew = E → Calls Try.prog 11 #[.pointer (some ⟨p, 0, none⟩), .pointer (some ⟨d, 0, none⟩), .agg #[.int .i64 x, .int .i64 y]] E fun e w' => e = .returned (.bool true) ∧ ∃ m, Duo w w' p d m ∧ But p d E w') := fun E hE => by
        subst hE
        obtain ⟨i1, i2, i3, ⟨i4, i5⟩, i6⟩ := I5.out
        refine Calls.mono (step_any p d l x y w5.drew i3 i1 i2) ?_
        rintro e w6 ⟨rfl, m, h1, h2, hb6⟩
        exact ⟨rfl, m, ⟨h1, h2, i3, ⟨i4, i5⟩, i6.drew.trans (hb6.below i4 i5 i6.size)⟩, hb6⟩
      clear I5
      go_wp2
      refine wp_region_noPanic ?_
      refine wp_region_held_drew (S := fun w' => w'.cell? ⟨b1, o1 + k * 2, none⟩ = some (.int .i64 x) ∧ w'.cell? ⟨b1, o1 + k * 2 + 1, none⟩ = some (.int .i64 y)) (by kernel_rfl) (⟨k0, k1⟩) (fun hHeld => ?_)
      obtain ⟨E, hE⟩ : ∃ E, w5.drew = E := ⟨_, rfl⟩
      rw [hE] at hHeld ⊢
      refine wpAnyH_take (i := 0) (oi := opb0) (v := ?_) rfl (by kernel_rfl) (by kernel_rfl) (by kernel_rfl) (fun _ _ _ h => h) (Or.inl ⟨by rfl, ?_⟩) (by assumption) ?_
      rotate_left
      · intro w' hSw
        clear hSw
        unfold opb0
        first
        | (go_simp; done)
        | (go_simp; with_reducible rfl)
      simp only [opb0, Act.put, List.setIfInBounds_toArray, List.set_cons_zero, List.set_cons_succ]
      refine wpAnyH_take (i := 1) (oi := opb1) (v := ?_) rfl (by kernel_rfl) (by kernel_rfl) (by kernel_rfl) (fun _ _ _ h => h) (Or.inl ⟨by rfl, ?_⟩) (by assumption) ?_
      rotate_left
      · intro w' hSw
        clear hSw
        unfold opb1
        first
        | (go_simp; done)
        | (go_simp; with_reducible rfl)
      simp only [opb1, Act.put, List.setIfInBounds_toArray, List.set_cons_zero, List.set_cons_succ]
      refine wpAnyH_take (i := 2) (oi := opb2) (v := ?_) rfl (by kernel_rfl) (by kernel_rfl) (by kernel_rfl) (fun _ _ _ h => h) (Or.inl ⟨by rfl, ?_⟩) (by assumption) ?_
      rotate_left
      · intro w' hSw
        clear hSw
        unfold opb2
        first
        | (go_simp; done)
        | (go_simp; with_reducible rfl)
      simp only [opb2, Act.put, List.setIfInBounds_toArray, List.set_cons_zero, List.set_cons_succ]
      refine wpAnyH_take (i := 3) (oi := opb3) (v := ?_) rfl (by kernel_rfl) (by kernel_rfl) (by kernel_rfl) (fun _ _ _ h => h) (Or.inl ⟨by rfl, ?_⟩) (by assumption) ?_
      rotate_left
      · intro w' hSw
        clear hSw
        unfold opb3
        first
        | (go_simp; done)
        | (go_simp; with_reducible rfl)
      simp only [opb3, Act.put, List.setIfInBounds_toArray, List.set_cons_zero, List.set_cons_succ]
      refine wpAnyH_take (i := 4) (oi := opb4) (v := ?_) rfl (by kernel_rfl) (by kernel_rfl) (by kernel_rfl) (fun _ _ _ h => h) (Or.inl ⟨by rfl, ?_⟩) (by assumption) ?_
      rotate_left
      · intro w' hSw
        clear hSw
        unfold opb4
        first
        | (go_simp; done)
        | (go_simp; with_reducible rfl)
      simp only [opb4, Act.put, List.setIfInBounds_toArray, List.set_cons_zero, List.set_cons_succ]
      refine wpAnyH_take (i := 5) (oi := opb5) (v := ?_) rfl (by kernel_rfl) (by kernel_rfl) (by kernel_rfl) (fun _ _ _ h => h) (Or.inl ⟨by rfl, ?_⟩) (by assumption) ?_
      rotate_left
      · intro w' hSw
        obtain ⟨s1, s2⟩ := hSw
        unfold opb5
        first
        | (go_simp; done)
        | (go_simp; with_reducible rfl)
      simp only [opb5, Act.put, List.setIfInBounds_toArray, List.set_cons_zero, List.set_cons_succ]
      refine wpAnyH_ready (rs := [6]) (by kernel_rfl) (by simp) ?_
      refine AllReadyH.cons (o := opb6) rfl (fun KK hKK => ?_) AllReadyH.nil
      unfold opb6
      go_simp
      refine Calls.mono (SU.out E hE) ?_
      rintro e w6 ⟨rfl, m, hu6, hb6⟩
      have h6 : Hid (w6.cell? ⟨b1, o1 + k * 2, none⟩ = some (.int .i64 x) ∧ w6.cell? ⟨b1, o1 + k * 2 + 1, none⟩ = some (.int .i64 y)) := ⟨hb6.cell hHeld.1 (show b1 ≠ p by have := lbw.out; have := hu6.2.2.2.1.1; omega) (show b1 ≠ d by have := lbw.out; have := hu6.2.2.2.1.2; omega), hb6.cell hHeld.2 (show b1 ≠ p by have := lbw.out; have := hu6.2.2.2.1.1; omega) (show b1 ≠ d by have := lbw.out; have := hu6.2.2.2.1.2; omega)⟩
      have I6 : Hid (Duo w w6 p d m) := hu6
      obtain ⟨Z, hZ⟩ : ∃ Z : ByteArray, ⟨m.toArray⟩ = Z := ⟨_, rfl⟩
      have cz6 : Hid (w6.cell? ⟨d, 0, none⟩ = some (.string Z)) := by rw [← hZ]; exact I6.out.2.1.1
      have LF : Hid (∀ w', TAt w' p m → Calls Try.prog 12 #[.pointer (some ⟨p, 0, none⟩)] w' fun e w'' => e = .returned (.int .i64 (Z.size : Int)) ∧ Below w'.heap.size w' w'') := by
        rw [← hZ, ba_size]; exact fun w' h => left_any p m w' h
      clear hZ hu6 hb6 SU
      refine hKK.out _ _ h6.out (fun hHeldC => ?_)
      clear hKK KK hHeld h6
      refine wpAnyH_take (i := 7) (oi := opb7) (v := ?_) rfl (by kernel_rfl) (by kernel_rfl) (by kernel_rfl) (fun _ _ _ h => h) (Or.inl ⟨by rfl, ?_⟩) (by assumption) ?_
      rotate_left
      · intro w' hSw
        clear hSw
        unfold opb7
        first
        | (go_simp; done)
        | (go_simp; with_reducible rfl)
      simp only [opb7, Act.put, List.setIfInBounds_toArray, List.set_cons_zero, List.set_cons_succ]
      refine wpAnyH_take (i := 8) (oi := opb8) (v := ?_) rfl (by kernel_rfl) (by kernel_rfl) (by kernel_rfl) (fun _ _ _ h => h) (Or.inl ⟨by rfl, ?_⟩) (by assumption) ?_
      rotate_left
      · intro w' hSw
        clear hSw
        unfold opb8
        first
        | (go_simp; done)
        | (go_simp; with_reducible rfl)
      simp only [opb8, Act.put, List.setIfInBounds_toArray, List.set_cons_zero, List.set_cons_succ]
      refine wpAnyH_take (i := 9) (oi := opb9) (v := ?_) rfl (by kernel_rfl) (by kernel_rfl) (by kernel_rfl) (fun _ _ _ h => h) (Or.inl ⟨by rfl, ?_⟩) (by assumption) ?_
      rotate_left
      · intro w' hSw
        clear hSw
        unfold opb9
        first
        | (go_simp; done)
        | (go_simp; with_reducible rfl)
      simp only [opb9, Act.put, List.setIfInBounds_toArray, List.set_cons_zero, List.set_cons_succ]
      refine wpAnyH_take (i := 11) (oi := opb11) (v := ?_) rfl (by kernel_rfl) (by kernel_rfl) (by kernel_rfl) (fun _ _ _ h => h) (Or.inl ⟨by rfl, ?_⟩) (by assumption) ?_
      rotate_left
      · intro w' hSw
        clear hSw
        unfold opb11
        first
        | (go_simp; done)
        | (go_simp; with_reducible rfl)
      simp only [opb11, Act.put, List.setIfInBounds_toArray, List.set_cons_zero, List.set_cons_succ]
      refine wpAnyH_take (i := 12) (oi := opb12) (v := ?_) rfl (by kernel_rfl) (by kernel_rfl) (by kernel_rfl) (fun _ _ _ h => h) (Or.inl ⟨by rfl, ?_⟩) (by assumption) ?_
      rotate_left
      · intro w' hSw
        clear hSw
        unfold opb12
        first
        | (go_simp; done)
        | (go_simp; with_reducible rfl)
      simp only [opb12, Act.put, List.setIfInBounds_toArray, List.set_cons_zero, List.set_cons_succ]
      refine wpAnyH_take (i := 13) (oi := opb13) (v := ?_) rfl (by kernel_rfl) (by kernel_rfl) (by kernel_rfl) (fun _ _ _ h => h) (Or.inl ⟨by rfl, ?_⟩) (by assumption) ?_
      rotate_left
      · intro w' hSw
        clear hSw
        unfold opb13
        first
        | (go_simp; done)
        | (go_simp; with_reducible rfl)
      simp only [opb13, Act.put, List.setIfInBounds_toArray, List.set_cons_zero, List.set_cons_succ]
      refine wpAnyH_ready (rs := [10, 14]) (by kernel_rfl) (by simp) ?_
      refine AllReadyH.cons (o := opb10) rfl (fun KK hKK => ?_) (AllReadyH.cons (o := opb14) rfl (fun KK hKK => ?_) AllReadyH.nil)
      · unfold opb10
        go_simp
        refine Calls.mono (LF.out _ I6.out.1) ?_
        rintro e w7 ⟨rfl, hb7⟩
        have I7 : Hid (Duo w w7 p d m) := I6.out.later hb7
        have cz7 : Hid (w7.cell? ⟨d, 0, none⟩ = some (.string Z)) := cell_later hb7 cz6.out
        have h7 : Hid (w7.cell? ⟨b1, o1 + k * 2, none⟩ = some (.int .i64 x) ∧ w7.cell? ⟨b1, o1 + k * 2 + 1, none⟩ = some (.int .i64 y)) := ⟨cell_later hb7 hHeldC.1, cell_later hb7 hHeldC.2⟩
        clear hb7
        refine hKK.out _ _ h7.out (fun hHeldD => ?_)
        clear hKK KK h7
        refine wpAnyH_ready (rs := [14]) (by kernel_rfl) (by simp) ?_
        refine AllReadyH.cons (o := opb14) rfl (fun KK hKK => ?_) AllReadyH.nil
        have lc := cz7.out
        unfold opb14
        go_simp
        refine hKK.out _ _ hHeldD (fun hHeldE => ?_)
        clear hKK KK lc
        refine wpAnyH_take (i := 15) (oi := opb15) (v := ?_) rfl (by kernel_rfl) (by kernel_rfl) (by kernel_rfl) (fun _ _ _ h => h) (Or.inl ⟨by rfl, ?_⟩) (by assumption) ?_
        rotate_left
        · intro w' hSw
          clear hSw
          unfold opb15
          first
          | (go_simp; done)
          | (go_simp; with_reducible rfl)
        simp only [opb15, Act.put, List.setIfInBounds_toArray, List.set_cons_zero, List.set_cons_succ]
        refine wpAnyH_take (i := 16) (oi := opb16) (v := ?_) rfl (by kernel_rfl) (by kernel_rfl) (by kernel_rfl) (fun _ _ _ h => h) (Or.inl ⟨by rfl, ?_⟩) (by assumption) ?_
        rotate_left
        · intro w' hSw
          clear hSw
          unfold opb16
          first
          | (go_simp; done)
          | (go_simp; with_reducible rfl)
        simp only [opb16, Act.put, List.setIfInBounds_toArray, List.set_cons_zero, List.set_cons_succ]
        refine wpAnyH_take (i := 17) (oi := opb17) (v := ?_) rfl (by kernel_rfl) (by kernel_rfl) (by kernel_rfl) (fun _ _ _ h => h) (Or.inl ⟨by rfl, ?_⟩) (by assumption) ?_
        rotate_left
        · intro w' hSw
          clear hSw
          unfold opb17
          first
          | (go_simp; done)
          | (go_simp; with_reducible rfl)
        simp only [opb17, Act.put, List.setIfInBounds_toArray, List.set_cons_zero, List.set_cons_succ]
        refine wpAnyH_done (by kernel_rfl) ?_ _
        refine NoPanic.normal ?_
        go_wp2
        go_roundw
        case rel => exact ⟨k + 1, m, by omega, by omega, by go_num, I7.out⟩
        case measure => simp [intOf]; omega
      · have lc := cz6.out
        unfold opb14
        go_simp
        refine hKK.out _ _ hHeldC (fun hHeldE => ?_)
        clear hKK KK lc
        refine wpAnyH_take (i := 15) (oi := opb15) (v := ?_) rfl (by kernel_rfl) (by kernel_rfl) (by kernel_rfl) (fun _ _ _ h => h) (Or.inl ⟨by rfl, ?_⟩) (by assumption) ?_
        rotate_left
        · intro w' hSw
          clear hSw
          unfold opb15
          first
          | (go_simp; done)
          | (go_simp; with_reducible rfl)
        simp only [opb15, Act.put, List.setIfInBounds_toArray, List.set_cons_zero, List.set_cons_succ]
        refine wpAnyH_ready (rs := [10]) (by kernel_rfl) (by simp) ?_
        refine AllReadyH.cons (o := opb10) rfl (fun KK hKK => ?_) AllReadyH.nil
        unfold opb10
        go_simp
        refine Calls.mono (LF.out _ I6.out.1) ?_
        rintro e w7 ⟨rfl, hb7⟩
        have I7 : Hid (Duo w w7 p d m) := I6.out.later hb7
        have cz7 : Hid (w7.cell? ⟨d, 0, none⟩ = some (.string Z)) := cell_later hb7 cz6.out
        have h7 : Hid (w7.cell? ⟨b1, o1 + k * 2, none⟩ = some (.int .i64 x) ∧ w7.cell? ⟨b1, o1 + k * 2 + 1, none⟩ = some (.int .i64 y)) := ⟨cell_later hb7 hHeldC.1, cell_later hb7 hHeldC.2⟩
        clear hb7
        refine hKK.out _ _ h7.out (fun hHeldD => ?_)
        clear hKK KK h7
        refine wpAnyH_take (i := 16) (oi := opb16) (v := ?_) rfl (by kernel_rfl) (by kernel_rfl) (by kernel_rfl) (fun _ _ _ h => h) (Or.inl ⟨by rfl, ?_⟩) (by assumption) ?_
        rotate_left
        · intro w' hSw
          clear hSw
          unfold opb16
          first
          | (go_simp; done)
          | (go_simp; with_reducible rfl)
        simp only [opb16, Act.put, List.setIfInBounds_toArray, List.set_cons_zero, List.set_cons_succ]
        refine wpAnyH_take (i := 17) (oi := opb17) (v := ?_) rfl (by kernel_rfl) (by kernel_rfl) (by kernel_rfl) (fun _ _ _ h => h) (Or.inl ⟨by rfl, ?_⟩) (by assumption) ?_
        rotate_left
        · intro w' hSw
          clear hSw
          unfold opb17
          first
          | (go_simp; done)
          | (go_simp; with_reducible rfl)
        simp only [opb17, Act.put, List.setIfInBounds_toArray, List.set_cons_zero, List.set_cons_succ]
        refine wpAnyH_done (by kernel_rfl) ?_ _
        refine NoPanic.normal ?_
        go_wp2
        go_roundw
        case rel => exact ⟨k + 1, m, by omega, by omega, by go_num, I7.out⟩
        case measure => simp [intOf]; omega
    · have B9 : Hid (Below w.heap.size w wr) := I.out.2.2.2.2
      clear I
      by_cases q : k < n
      · have g1 : (k : Int) < (n : Int) := by omega
        have g2 : ¬ (k : Int) < 100 := by omega
        go_wp2
        go_ret
        exact ⟨rfl, B9.out⟩
      · have g1 : ¬ (k : Int) < (n : Int) := by omega
        go_wp2
        go_ret
        exact ⟨rfl, B9.out⟩
end Go.Proofs.Ytfieabdjfhkpjaa
