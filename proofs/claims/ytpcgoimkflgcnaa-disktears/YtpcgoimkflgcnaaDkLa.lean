/- DiskTears. -/
import Derived.Test.YtpcgoimkflgcnaaDkL1
namespace Go.Proofs.Ytpcgoimkflgcnaa
open Go.RowKit Go.Proofs.Fd Go.Proofs.Dk
set_option maxRecDepth 20000

theorem tears_0 (A B : Bs) (y : Int) : lay (tear [y] (lay zs ([] ++ [(⟨0, A⟩ : Wt)] ++ [⟨1, A⟩])) ([] ++ [⟨0, B⟩]) 0) [] 0 = mix (pk y) B A := by
  simp [lay, tear, upd, pkAt]
theorem tears_1 (A B : Bs) (y : Int) : lay (tear [y] (lay zs ([] ++ [(⟨0, A⟩ : Wt)] ++ [⟨1, A⟩])) ([] ++ [⟨0, B⟩]) 0) [] 1 = A := by
  simp [lay, tear, upd]
theorem tears_b (A B : Bs) : lay (lay zs ([] ++ [(⟨0, A⟩ : Wt)] ++ [⟨1, A⟩])) ([] ++ [⟨0, B⟩]) 0 = B := by
  simp [lay, upd]
def opt0 : Oper := { dst := some 81, op := Go.Op.move (Go.Operand.tmp 8), type := 24, pos := "theorems.go:73", after := #[], guard := none }
def opt1 : Oper := { dst := some 82, op := Go.Op.binOp Go.BinOp.eql 24 (Go.Operand.tmp 81) (Go.Operand.const (Go.Value.int Go.IntKind.i64 0)) 24, type := 4, pos := "theorems.go:73", after := #[{ on := 0, ground := Go.Ground.data }], guard := none }
def opt2 : Oper := { dst := some 83, op := Go.Op.move (Go.Operand.tmp 82), type := 4, pos := "theorems.go:73", after := #[{ on := 1, ground := Go.Ground.data }], guard := none }
def opt3 : Oper := { dst := some 84, op := Go.Op.move (Go.Operand.tmp 16), type := 24, pos := "theorems.go:73", after := #[{ on := 2, ground := Go.Ground.guard }], guard := some (2, true) }
def opt4 : Oper := { dst := some 85, op := Go.Op.binOp Go.BinOp.eql 24 (Go.Operand.tmp 84) (Go.Operand.const (Go.Value.int Go.IntKind.i64 0)) 24, type := 4, pos := "theorems.go:73", after := #[{ on := 3, ground := Go.Ground.data }, { on := 2, ground := Go.Ground.guard }], guard := some (2, true) }
def opt5 : Oper := { dst := some 86, op := Go.Op.pick (Go.Operand.tmp 83) (Go.Operand.tmp 85) (Go.Operand.const (Go.Value.bool false)), type := 4, pos := "theorems.go:73", after := #[{ on := 2, ground := Go.Ground.data }, { on := 4, ground := Go.Ground.data }], guard := none }
def opt6 : Oper := { dst := some 87, op := Go.Op.move (Go.Operand.tmp 86), type := 4, pos := "theorems.go:73", after := #[{ on := 5, ground := Go.Ground.data }, { on := 2, ground := Go.Ground.chain }], guard := none }
def opt7 : Oper := { dst := some 88, op := Go.Op.move (Go.Operand.tmp 14), type := 9, pos := "theorems.go:73", after := #[{ on := 6, ground := Go.Ground.guard }], guard := some (6, true) }
def opt8 : Oper := { dst := some 89, op := Go.Op.move (Go.Operand.tmp 10), type := 9, pos := "theorems.go:73", after := #[{ on := 6, ground := Go.Ground.guard }], guard := some (6, true) }
def opt9 : Oper := { dst := some 90, op := Go.Op.move (Go.Operand.tmp 13), type := 3, pos := "theorems.go:73", after := #[{ on := 6, ground := Go.Ground.guard }], guard := some (6, true) }
def opt10 : Oper := { dst := some 91, op := Go.Op.slice 9 (Go.Operand.tmp 89) none (some (Go.Operand.tmp 90)) none, type := 9, pos := "theorems.go:73", after := #[{ on := 8, ground := Go.Ground.data }, { on := 9, ground := Go.Ground.data }, { on := 6, ground := Go.Ground.guard }], guard := some (6, true) }
def opt11 : Oper := { dst := some 92, op := Go.Op.move (Go.Operand.tmp 9), type := 9, pos := "theorems.go:73", after := #[{ on := 6, ground := Go.Ground.guard }], guard := some (6, true) }
def opt12 : Oper := { dst := some 93, op := Go.Op.move (Go.Operand.tmp 13), type := 3, pos := "theorems.go:73", after := #[{ on := 6, ground := Go.Ground.guard }], guard := some (6, true) }
def opt13 : Oper := { dst := some 94, op := Go.Op.slice 9 (Go.Operand.tmp 92) (some (Go.Operand.tmp 93)) none none, type := 9, pos := "theorems.go:73", after := #[{ on := 11, ground := Go.Ground.data }, { on := 12, ground := Go.Ground.data }, { on := 6, ground := Go.Ground.guard }], guard := some (6, true) }
def opt14 : Oper := { dst := some 95, op := Go.Op.binOp Go.BinOp.add 9 (Go.Operand.tmp 91) (Go.Operand.tmp 94) 9, type := 9, pos := "theorems.go:73", after := #[{ on := 10, ground := Go.Ground.data }, { on := 13, ground := Go.Ground.data }, { on := 6, ground := Go.Ground.guard }], guard := some (6, true) }
def opt15 : Oper := { dst := some 96, op := Go.Op.binOp Go.BinOp.eql 9 (Go.Operand.tmp 88) (Go.Operand.tmp 95) 9, type := 4, pos := "theorems.go:73", after := #[{ on := 7, ground := Go.Ground.data }, { on := 14, ground := Go.Ground.data }, { on := 6, ground := Go.Ground.guard }], guard := some (6, true) }
def opt16 : Oper := { dst := some 97, op := Go.Op.pick (Go.Operand.tmp 87) (Go.Operand.tmp 96) (Go.Operand.const (Go.Value.bool false)), type := 4, pos := "theorems.go:73", after := #[{ on := 6, ground := Go.Ground.data }, { on := 15, ground := Go.Ground.data }], guard := none }
def opt17 : Oper := { dst := some 98, op := Go.Op.move (Go.Operand.tmp 97), type := 4, pos := "theorems.go:73", after := #[{ on := 16, ground := Go.Ground.data }, { on := 6, ground := Go.Ground.chain }], guard := none }
def opt18 : Oper := { dst := some 99, op := Go.Op.move (Go.Operand.tmp 15), type := 9, pos := "theorems.go:73", after := #[{ on := 17, ground := Go.Ground.guard }], guard := some (17, true) }
def opt19 : Oper := { dst := some 100, op := Go.Op.move (Go.Operand.tmp 9), type := 9, pos := "theorems.go:73", after := #[{ on := 17, ground := Go.Ground.guard }], guard := some (17, true) }
def opt20 : Oper := { dst := some 101, op := Go.Op.binOp Go.BinOp.eql 9 (Go.Operand.tmp 99) (Go.Operand.tmp 100) 9, type := 4, pos := "theorems.go:73", after := #[{ on := 18, ground := Go.Ground.data }, { on := 19, ground := Go.Ground.data }, { on := 17, ground := Go.Ground.guard }], guard := some (17, true) }
def opt21 : Oper := { dst := some 102, op := Go.Op.pick (Go.Operand.tmp 98) (Go.Operand.tmp 101) (Go.Operand.const (Go.Value.bool false)), type := 4, pos := "theorems.go:73", after := #[{ on := 17, ground := Go.Ground.data }, { on := 20, ground := Go.Ground.data }], guard := none }
def opt22 : Oper := { dst := some 6, op := Go.Op.assign (Go.Operand.tmp 102), type := 4, pos := "theorems.go:73", after := #[{ on := 21, ground := Go.Ground.data }, { on := 17, ground := Go.Ground.chain }, { on := 0, ground := Go.Ground.phase }, { on := 1, ground := Go.Ground.phase }, { on := 2, ground := Go.Ground.phase }, { on := 3, ground := Go.Ground.phase }, { on := 4, ground := Go.Ground.phase }, { on := 5, ground := Go.Ground.phase }, { on := 6, ground := Go.Ground.phase }, { on := 7, ground := Go.Ground.phase }, { on := 8, ground := Go.Ground.phase }, { on := 9, ground := Go.Ground.phase }, { on := 10, ground := Go.Ground.phase }, { on := 11, ground := Go.Ground.phase }, { on := 12, ground := Go.Ground.phase }, { on := 13, ground := Go.Ground.phase }, { on := 14, ground := Go.Ground.phase }, { on := 15, ground := Go.Ground.phase }, { on := 16, ground := Go.Ground.phase }, { on := 17, ground := Go.Ground.phase }, { on := 18, ground := Go.Ground.phase }, { on := 19, ground := Go.Ground.phase }, { on := 20, ground := Go.Ground.phase }, { on := 21, ground := Go.Ground.phase }], guard := none }
set_option maxHeartbeats 1000000 in
theorem DiskTears_walk (old fresh : ByteArray) (y : Int) (w : World) :
    Calls Try.prog 5 #[.string old, .string fresh, .int .i64 y] w fun e w' => e = .returned (.bool true) ∧ Below w.heap.size w w' := by
  have NW : Hid _ := newL w w 2 (by decide) (by decide) (Below.refl _ _)
  have WK : Hid (∀ w, _) := works_any
  have SO : Hid (∀ w, _) := sector_any old
  have SF : Hid (∀ w, _) := sector_any fresh
  have LA := sec_len old.data.toList
  have LB := sec_len fresh.data.toList
  obtain ⟨A, hA⟩ : ∃ A, sec old.data.toList = A := ⟨_, rfl⟩
  obtain ⟨B, hB⟩ : ∃ B, sec fresh.data.toList = B := ⟨_, rfl⟩
  rw [hA] at LA SO
  rw [hB] at LB SF
  clear hA hB
  have HA : Hid (A.length = 64) := LA
  have HB : Hid (B.length = 64) := LB
  clear LA LB
  go_enter Try.func5, Try.ntmps5
  go_wp2_with fail
  refine Calls.mono NW.out ?_
  rintro e w1 ⟨p, F, rfl, I1, -, -⟩
  have J1 : Hid _ := I1
  clear NW I1
  go_wp2_with fail
  refine Calls.mono (WK.out _) ?_
  rintro e w2 ⟨rfl, hb⟩
  have J2 : Hid _ := J1.out.later hb
  clear J1 hb WK
  go_wp2_with fail
  refine Calls.mono (SO.out _) ?_
  rintro e w3 ⟨rfl, hb⟩
  have J3 : Hid _ := J2.out.later hb
  clear J2 hb SO
  go_wp2_with fail
  refine Calls.mono (SF.out _) ?_
  rintro e w4 ⟨rfl, hb⟩
  have J4 : Hid _ := J3.out.later hb
  clear J3 hb SF
  go_wp2_with fail
  refine Calls.mono (writeU w w4 p F 2 zs [] 0 A (by decide) HA.out (by decide) J4.out) ?_
  rintro e w5 ⟨rfl, F5, I5, -, -⟩
  have J5 : Hid _ := I5
  clear J4 I5
  go_wp2_with fail
  refine Calls.mono (writeU w w5 p F5 2 zs _ 1 A (by decide) HA.out (by simp) J5.out) ?_
  rintro e w6 ⟨rfl, F6, I6, -, -⟩
  have J6 : Hid _ := I6
  clear J5 I6
  go_wp2_with fail
  refine Calls.mono (syncU w w6 p F6 2 zs _ (by simp) J6.out) ?_
  rintro e w7 ⟨rfl, F7, I7, -, -⟩
  have J7 : Hid _ := I7
  clear J6 I7
  go_wp2_with fail
  refine Calls.mono (writeU w w7 p F7 2 _ [] 0 B (by decide) HB.out (by decide) J7.out) ?_
  rintro e w8 ⟨rfl, F8, I8, -, -⟩
  have J8 : Hid _ := I8
  clear J7 I8
  go_wp2_with fail
  refine Calls.mono (readU w w8 p F8 2 _ _ 0 (by decide) J8.out) ?_
  rintro e w9 ⟨rfl, rfl⟩
  rw [tears_b]
  go_wp2_with fail
  refine Calls.mono (crash1 w w9 p F8 2 _ _ y (by simp) J8.out) ?_
  rintro e w10 ⟨rfl, F10, I10⟩
  have J10 : Hid _ := I10
  clear J8 I10
  obtain ⟨m, hm, hme, AM'⟩ := among_is y 65 (by decide) (by decide)
  have AM : Hid _ := AM'
  have hpk : pk y = m := by
    have := pk_eq y
    have h2 : ((65 : Nat) : Int) = 65 := rfl
    rw [h2] at hme
    omega
  clear AM' hme
  go_wp2_with fail
  refine Calls.mono (AM.out _) ?_
  rintro e w11 ⟨rfl, rfl⟩
  clear AM
  go_wp2_with fail
  refine Calls.mono (readU w w11 p F10 2 _ _ 0 (by decide) J10.out) ?_
  rintro e w12 ⟨rfl, rfl⟩
  rw [tears_0, hpk]
  go_wp2_with fail
  refine Calls.mono (readU w w12 p F10 2 _ _ 1 (by decide) J10.out) ?_
  rintro e w13 ⟨rfl, rfl⟩
  rw [tears_1]
  have FF : Hid (Below w.heap.size w w13) := J10.out.below
  clear J10 hpk
  have gm : (m : Int) ≤ 64 := by omega
  have sA : (st A).size = 64 := by rw [st_size]; exact HA.out
  have sB : (st B).size = 64 := by rw [st_size]; exact HB.out
  have z1 : ¬ 9223372036854775807 < min m 64 + (64 - m) := by omega
  have z2 : (st (mix m B A)).toList = ((st B).extract 0 m ++ (st A).extract m 64).toList := by
    rw [st_cut B 0 m, st_cut A m 64, st_app, List.drop_zero, List.take_of_length_le (l := A) (by rw [HA.out]; omega)]
    rfl
  go_wp2_with fail
  refine wp_region_noPanic ?_
  refine wp_region_held_drew (S := fun _ => True) (by kernel_rfl) (trivial) (fun hHeld => ?_)
  refine wpAnyH_take (i := 0) (oi := opt0) (v := ?_) rfl (by kernel_rfl) (by kernel_rfl) (by kernel_rfl) (fun _ _ _ h => h) (Or.inl ⟨by rfl, ?_⟩) (by assumption) ?_
  rotate_left
  · intro w' hSw
    clear hSw
    unfold opt0
    first
    | (go_simp; done)
    | (go_simp; with_reducible rfl)
  simp only [opt0, Act.put, List.setIfInBounds_toArray, List.set_cons_zero, List.set_cons_succ]
  refine wpAnyH_take (i := 1) (oi := opt1) (v := ?_) rfl (by kernel_rfl) (by kernel_rfl) (by kernel_rfl) (fun _ _ _ h => h) (Or.inl ⟨by rfl, ?_⟩) (by assumption) ?_
  rotate_left
  · intro w' hSw
    clear hSw
    unfold opt1
    first
    | (go_simp; done)
    | (go_simp; with_reducible rfl)
  simp only [opt1, Act.put, List.setIfInBounds_toArray, List.set_cons_zero, List.set_cons_succ]
  refine wpAnyH_take (i := 2) (oi := opt2) (v := ?_) rfl (by kernel_rfl) (by kernel_rfl) (by kernel_rfl) (fun _ _ _ h => h) (Or.inl ⟨by rfl, ?_⟩) (by assumption) ?_
  rotate_left
  · intro w' hSw
    clear hSw
    unfold opt2
    first
    | (go_simp; done)
    | (go_simp; with_reducible rfl)
  simp only [opt2, Act.put, List.setIfInBounds_toArray, List.set_cons_zero, List.set_cons_succ]
  refine wpAnyH_take (i := 3) (oi := opt3) (v := ?_) rfl (by kernel_rfl) (by kernel_rfl) (by kernel_rfl) (fun _ _ _ h => h) (Or.inl ⟨by rfl, ?_⟩) (by assumption) ?_
  rotate_left
  · intro w' hSw
    clear hSw
    unfold opt3
    first
    | (go_simp; done)
    | (go_simp; with_reducible rfl)
  simp only [opt3, Act.put, List.setIfInBounds_toArray, List.set_cons_zero, List.set_cons_succ]
  refine wpAnyH_take (i := 4) (oi := opt4) (v := ?_) rfl (by kernel_rfl) (by kernel_rfl) (by kernel_rfl) (fun _ _ _ h => h) (Or.inl ⟨by rfl, ?_⟩) (by assumption) ?_
  rotate_left
  · intro w' hSw
    clear hSw
    unfold opt4
    first
    | (go_simp; done)
    | (go_simp; with_reducible rfl)
  simp only [opt4, Act.put, List.setIfInBounds_toArray, List.set_cons_zero, List.set_cons_succ]
  refine wpAnyH_take (i := 5) (oi := opt5) (v := ?_) rfl (by kernel_rfl) (by kernel_rfl) (by kernel_rfl) (fun _ _ _ h => h) (Or.inl ⟨by rfl, ?_⟩) (by assumption) ?_
  rotate_left
  · intro w' hSw
    clear hSw
    unfold opt5
    first
    | (go_simp; done)
    | (go_simp; with_reducible rfl)
  simp only [opt5, Act.put, List.setIfInBounds_toArray, List.set_cons_zero, List.set_cons_succ]
  refine wpAnyH_take (i := 6) (oi := opt6) (v := ?_) rfl (by kernel_rfl) (by kernel_rfl) (by kernel_rfl) (fun _ _ _ h => h) (Or.inl ⟨by rfl, ?_⟩) (by assumption) ?_
  rotate_left
  · intro w' hSw
    clear hSw
    unfold opt6
    first
    | (go_simp; done)
    | (go_simp; with_reducible rfl)
  simp only [opt6, Act.put, List.setIfInBounds_toArray, List.set_cons_zero, List.set_cons_succ]
  refine wpAnyH_take (i := 7) (oi := opt7) (v := ?_) rfl (by kernel_rfl) (by kernel_rfl) (by kernel_rfl) (fun _ _ _ h => h) (Or.inl ⟨by rfl, ?_⟩) (by assumption) ?_
  rotate_left
  · intro w' hSw
    clear hSw
    unfold opt7
    first
    | (go_simp; done)
    | (go_simp; with_reducible rfl)
  simp only [opt7, Act.put, List.setIfInBounds_toArray, List.set_cons_zero, List.set_cons_succ]
  refine wpAnyH_take (i := 8) (oi := opt8) (v := ?_) rfl (by kernel_rfl) (by kernel_rfl) (by kernel_rfl) (fun _ _ _ h => h) (Or.inl ⟨by rfl, ?_⟩) (by assumption) ?_
  rotate_left
  · intro w' hSw
    clear hSw
    unfold opt8
    first
    | (go_simp; done)
    | (go_simp; with_reducible rfl)
  simp only [opt8, Act.put, List.setIfInBounds_toArray, List.set_cons_zero, List.set_cons_succ]
  refine wpAnyH_take (i := 9) (oi := opt9) (v := ?_) rfl (by kernel_rfl) (by kernel_rfl) (by kernel_rfl) (fun _ _ _ h => h) (Or.inl ⟨by rfl, ?_⟩) (by assumption) ?_
  rotate_left
  · intro w' hSw
    clear hSw
    unfold opt9
    first
    | (go_simp; done)
    | (go_simp; with_reducible rfl)
  simp only [opt9, Act.put, List.setIfInBounds_toArray, List.set_cons_zero, List.set_cons_succ]
  refine wpAnyH_take (i := 10) (oi := opt10) (v := ?_) rfl (by kernel_rfl) (by kernel_rfl) (by kernel_rfl) (fun _ _ _ h => h) (Or.inl ⟨by rfl, ?_⟩) (by assumption) ?_
  rotate_left
  · intro w' hSw
    clear hSw
    unfold opt10
    first
    | (go_simp; done)
    | (go_simp; with_reducible rfl)
  simp only [opt10, Act.put, List.setIfInBounds_toArray, List.set_cons_zero, List.set_cons_succ]
  refine wpAnyH_take (i := 11) (oi := opt11) (v := ?_) rfl (by kernel_rfl) (by kernel_rfl) (by kernel_rfl) (fun _ _ _ h => h) (Or.inl ⟨by rfl, ?_⟩) (by assumption) ?_
  rotate_left
  · intro w' hSw
    clear hSw
    unfold opt11
    first
    | (go_simp; done)
    | (go_simp; with_reducible rfl)
  simp only [opt11, Act.put, List.setIfInBounds_toArray, List.set_cons_zero, List.set_cons_succ]
  refine wpAnyH_take (i := 12) (oi := opt12) (v := ?_) rfl (by kernel_rfl) (by kernel_rfl) (by kernel_rfl) (fun _ _ _ h => h) (Or.inl ⟨by rfl, ?_⟩) (by assumption) ?_
  rotate_left
  · intro w' hSw
    clear hSw
    unfold opt12
    first
    | (go_simp; done)
    | (go_simp; with_reducible rfl)
  simp only [opt12, Act.put, List.setIfInBounds_toArray, List.set_cons_zero, List.set_cons_succ]
  refine wpAnyH_take (i := 13) (oi := opt13) (v := ?_) rfl (by kernel_rfl) (by kernel_rfl) (by kernel_rfl) (fun _ _ _ h => h) (Or.inl ⟨by rfl, ?_⟩) (by assumption) ?_
  rotate_left
  · intro w' hSw
    clear hSw
    unfold opt13
    first
    | (go_simp; done)
    | (go_simp; with_reducible rfl)
  simp only [opt13, Act.put, List.setIfInBounds_toArray, List.set_cons_zero, List.set_cons_succ]
  refine wpAnyH_take (i := 14) (oi := opt14) (v := ?_) rfl (by kernel_rfl) (by kernel_rfl) (by kernel_rfl) (fun _ _ _ h => h) (Or.inl ⟨by rfl, ?_⟩) (by assumption) ?_
  rotate_left
  · intro w' hSw
    clear hSw
    unfold opt14
    first
    | (go_simp; done)
    | (go_simp; with_reducible rfl)
  simp only [opt14, Act.put, List.setIfInBounds_toArray, List.set_cons_zero, List.set_cons_succ]
  refine wpAnyH_take (i := 15) (oi := opt15) (v := ?_) rfl (by kernel_rfl) (by kernel_rfl) (by kernel_rfl) (fun _ _ _ h => h) (Or.inl ⟨by rfl, ?_⟩) (by assumption) ?_
  rotate_left
  · intro w' hSw
    clear hSw
    unfold opt15
    first
    | (go_simp; done)
    | (go_simp; with_reducible rfl)
  simp only [opt15, Act.put, List.setIfInBounds_toArray, List.set_cons_zero, List.set_cons_succ]
  refine wpAnyH_take (i := 16) (oi := opt16) (v := ?_) rfl (by kernel_rfl) (by kernel_rfl) (by kernel_rfl) (fun _ _ _ h => h) (Or.inl ⟨by rfl, ?_⟩) (by assumption) ?_
  rotate_left
  · intro w' hSw
    clear hSw
    unfold opt16
    first
    | (go_simp; done)
    | (go_simp; with_reducible rfl)
  simp only [opt16, Act.put, List.setIfInBounds_toArray, List.set_cons_zero, List.set_cons_succ]
  refine wpAnyH_take (i := 17) (oi := opt17) (v := ?_) rfl (by kernel_rfl) (by kernel_rfl) (by kernel_rfl) (fun _ _ _ h => h) (Or.inl ⟨by rfl, ?_⟩) (by assumption) ?_
  rotate_left
  · intro w' hSw
    clear hSw
    unfold opt17
    first
    | (go_simp; done)
    | (go_simp; with_reducible rfl)
  simp only [opt17, Act.put, List.setIfInBounds_toArray, List.set_cons_zero, List.set_cons_succ]
  refine wpAnyH_take (i := 18) (oi := opt18) (v := ?_) rfl (by kernel_rfl) (by kernel_rfl) (by kernel_rfl) (fun _ _ _ h => h) (Or.inl ⟨by rfl, ?_⟩) (by assumption) ?_
  rotate_left
  · intro w' hSw
    clear hSw
    unfold opt18
    first
    | (go_simp; done)
    | (go_simp; with_reducible rfl)
  simp only [opt18, Act.put, List.setIfInBounds_toArray, List.set_cons_zero, List.set_cons_succ]
  refine wpAnyH_take (i := 19) (oi := opt19) (v := ?_) rfl (by kernel_rfl) (by kernel_rfl) (by kernel_rfl) (fun _ _ _ h => h) (Or.inl ⟨by rfl, ?_⟩) (by assumption) ?_
  rotate_left
  · intro w' hSw
    clear hSw
    unfold opt19
    first
    | (go_simp; done)
    | (go_simp; with_reducible rfl)
  simp only [opt19, Act.put, List.setIfInBounds_toArray, List.set_cons_zero, List.set_cons_succ]
  refine wpAnyH_take (i := 20) (oi := opt20) (v := ?_) rfl (by kernel_rfl) (by kernel_rfl) (by kernel_rfl) (fun _ _ _ h => h) (Or.inl ⟨by rfl, ?_⟩) (by assumption) ?_
  rotate_left
  · intro w' hSw
    clear hSw
    unfold opt20
    first
    | (go_simp; done)
    | (go_simp; with_reducible rfl)
  simp only [opt20, Act.put, List.setIfInBounds_toArray, List.set_cons_zero, List.set_cons_succ]
  refine wpAnyH_take (i := 21) (oi := opt21) (v := ?_) rfl (by kernel_rfl) (by kernel_rfl) (by kernel_rfl) (fun _ _ _ h => h) (Or.inl ⟨by rfl, ?_⟩) (by assumption) ?_
  rotate_left
  · intro w' hSw
    clear hSw
    unfold opt21
    first
    | (go_simp; done)
    | (go_simp; with_reducible rfl)
  simp only [opt21, Act.put, List.setIfInBounds_toArray, List.set_cons_zero, List.set_cons_succ]
  refine wpAnyH_take (i := 22) (oi := opt22) (v := ?_) rfl (by kernel_rfl) (by kernel_rfl) (by kernel_rfl) (fun _ _ _ h => h) (Or.inl ⟨by rfl, ?_⟩) (by assumption) ?_
  rotate_left
  · intro w' hSw
    clear hSw
    unfold opt22
    first
    | (go_simp; done)
    | (go_simp; with_reducible rfl)
  simp only [opt22, Act.put, List.setIfInBounds_toArray, List.set_cons_zero, List.set_cons_succ]
  refine wpAnyH_done (by kernel_rfl) ?_ _
  refine NoPanic.normal ?_
  go_wp2
  go_ret
  exact ⟨rfl, FF.out.drew⟩
end Go.Proofs.Ytpcgoimkflgcnaa
