/- The program's Decode. -/
import Derived.Test.YthcopaeelbaobaaRP3
import Derived.Test.YthcopaeelbaobaaRCl
namespace Go.Proofs.Ythcopaeelbaobaa
open Go.RowKit Go.Proofs.Fd Go.Proofs.Rt
set_option maxRecDepth 20000

/-- The answer of read lies in block b. -/
theorem res_read (tmps : Array Value) (w : World) (b : Nat) (k n u d : Int) (id : ByteArray) (h2 : tmps.getD 2 undef = .pointer (some ⟨b, 0, none⟩)) (l : HopAt w b ⟨k, n, u, d, id⟩) :
    (results Try.f21 tmps).run Try.prog w = .ok (.agg #[.int .i64 k, .int .i64 n, .int .i64 u, .int .i64 d, .string id]) w := by
  have l1 := run_loadVar_mid (P := Try.prog) w b 0 23 [.int .i64 k, .int .i64 n, .int .i64 u, .int .i64 d, .string id] _ l.range Try.underlying23 rfl (by kernel_rfl)
  unfold results
  rw [Try.results21]
  have h2' : tmps[2]?.getD undef = .pointer (some ⟨b, 0, none⟩) := by simpa using h2
  simp [h2', l1, asAddr]

theorem or_two (c2 c3 : UInt8) : bits .or .i64 ((c2.toNat : Int) * 256) (c3.toNat : Int) = (c2.toNat : Int) * 256 + (c3.toNat : Int) := by
  have h2 := c2.toNat_lt
  have h3 := c3.toNat_lt
  rw [show (c2.toNat : Int) * 256 = ((c2.toNat * 256 : Nat) : Int) by omega, (bits_nat .i64 16 (by decide) (fun n _ _ => by rw [IntKind.wrap_i64]; omega) (c2.toNat * 256) c3.toNat (by omega) (by omega)).2]
  have := Nat.shiftLeft_add_eq_or_of_lt (show c3.toNat < 2 ^ 8 from h3) c2.toNat
  rw [Nat.shiftLeft_eq] at this
  rw [show c2.toNat * 256 = c2.toNat * 2 ^ 8 by omega, ← this]
  omega

set_option maxHeartbeats 1000000 in
theorem read_any (b : ByteArray) (hb : b.size = 24) (c0 c1 c2 c3 : UInt8) (l0 : 0 < b.size) (l1 : 1 < b.size) (l2 : 2 < b.size) (l3 : 3 < b.size) (hc0 : b[0] = c0) (hc1 : b[1] = c1) (hc2 : b[2] = c2) (hc3 : b[3] = c3) (w : World) :
    Calls Try.prog 21 #[.string b] w fun e w' => e = .returned (hv ⟨(c0.toNat : Int), (c1.toNat : Int), (c1.toNat : Int), (c2.toNat : Int) * 256 + (c3.toNat : Int), b.extract 4 20⟩) ∧ Below w.heap.size w w' := by
  have zb : (b.size : Int) = 24 := by omega
  have z0 : (0 : Int) < (b.size : Int) := by omega
  have z1 : (1 : Int) < (b.size : Int) := by omega
  have z2 : (2 : Int) < (b.size : Int) := by omega
  have z3 : (3 : Int) < (b.size : Int) := by omega
  have q0 := c0.toNat_lt
  have q1 := c1.toNat_lt
  have q2 := c2.toNat_lt
  have q3 := c3.toNat_lt
  obtain ⟨X, hX⟩ : ∃ X, b.extract 4 20 = X := ⟨_, rfl⟩
  have sX : X.size = 16 := by rw [← hX]; simp [hb]
  have CL : Hid (∀ w, Calls Try.prog 22 #[.string X] w fun e w' => e = .returned (.string X) ∧ Below w.heap.size w w') := fun w => clone_any X (by omega) w
  have t0 : IntKind.i64.wrap (c0.toNat : Int) = (c0.toNat : Int) := by rw [IntKind.wrap_i64]; omega
  have t2 : IntKind.i64.wrap (c2.toNat : Int) = (c2.toNat : Int) := by rw [IntKind.wrap_i64]; omega
  have t3 : IntKind.i64.wrap (c3.toNat : Int) = (c3.toNat : Int) := by rw [IntKind.wrap_i64]; omega
  have t4 : IntKind.i64.wrap ((c2.toNat : Int) * 256) = (c2.toNat : Int) * 256 := by rw [IntKind.wrap_i64]; omega
  have OW := or_two c2 c3
  rw [hX]
  unfold hv
  simp only
  go_enter Try.func21, Try.ntmps21
  go_wp2_with fail
  obtain ⟨A, hA⟩ : ∃ A, w.alloc (.cells #[.int .i64 0, .int .i64 0, .int .i64 0, .int .i64 0, .string ⟨#[]⟩] 23) = A := ⟨_, rfl⟩
  have C0 : Hid (HopAt A w.heap.size ⟨0, 0, 0, 0, ⟨#[]⟩⟩ ∧ Below w.heap.size w A.drew) := by
    rw [← hA]
    exact ⟨HopAt.fresh _ _ _ _ _ _ _, ((Below.refl _ _).alloc (Nat.le_refl _) _).drew⟩
  have HB : Hid (∀ w1, Below A.drew.heap.size A.drew w1 → HopAt w1 w.heap.size ⟨0, 0, 0, 0, ⟨#[]⟩⟩ ∧ Below w.heap.size w w1) := fun w1 h => ⟨(C0.out.1.later (Below.refl _ _).drew).later h, chain C0.out.2 h⟩
  rw [hA]
  clear hA
  refine wp_region_noPanic ?_
  refine wp_region_held_drew (S := fun w' => Below w.heap.size w w') (by kernel_rfl) C0.out.2 (fun hHeld => ?_)
  refine wpAnyH_take (i := 0) (oi := { dst := some 7, op := Op.move (Operand.tmp 0), type := 9, pos := "route.go:94", after := #[], guard := none }) (v := ?_) rfl (by kernel_rfl) (by kernel_rfl) (by kernel_rfl) (fun _ _ _ h => h) (Or.inl ⟨by rfl, ?_⟩) (by assumption) ?_
  rotate_left
  · intro w' hSw
    first
    | (go_simp; done)
    | (go_simp; with_reducible rfl)
  simp only [Act.put, List.setIfInBounds_toArray, List.set_cons_zero, List.set_cons_succ]
  refine wpAnyH_take (i := 1) (oi := { dst := some 8, op := Op.index 9 (Operand.tmp 7) (Operand.const (Value.int IntKind.i64 0)), type := 5, pos := "route.go:94", after := #[{ on := 0, ground := Ground.data }], guard := none }) (v := ?_) rfl (by kernel_rfl) (by kernel_rfl) (by kernel_rfl) (fun _ _ _ h => h) (Or.inl ⟨by rfl, ?_⟩) (by assumption) ?_
  rotate_left
  · intro w' hSw
    first
    | (go_simp; done)
    | (go_simp; with_reducible rfl)
  simp only [Act.put, List.setIfInBounds_toArray, List.set_cons_zero, List.set_cons_succ]
  refine wpAnyH_take (i := 2) (oi := { dst := some 9, op := Op.convert 5 3 (Operand.tmp 8), type := 3, pos := "route.go:94", after := #[{ on := 1, ground := Ground.data }], guard := none }) (v := ?_) rfl (by kernel_rfl) (by kernel_rfl) (by kernel_rfl) (fun _ _ _ h => h) (Or.inl ⟨by rfl, ?_⟩) (by assumption) ?_
  rotate_left
  · intro w' hSw
    first
    | (go_simp; done)
    | (go_simp; with_reducible rfl)
  simp only [Act.put, List.setIfInBounds_toArray, List.set_cons_zero, List.set_cons_succ]
  refine wpAnyH_take (i := 3) (oi := { dst := some 10, op := Op.move (Operand.tmp 3), type := 3, pos := "route.go:94", after := #[], guard := none }) (v := ?_) rfl (by kernel_rfl) (by kernel_rfl) (by kernel_rfl) (fun _ _ _ h => h) (Or.inl ⟨by rfl, ?_⟩) (by assumption) ?_
  rotate_left
  · intro w' hSw
    first
    | (go_simp; done)
    | (go_simp; with_reducible rfl)
  simp only [Act.put, List.setIfInBounds_toArray, List.set_cons_zero, List.set_cons_succ]
  refine wpAnyH_take (i := 4) (oi := { dst := some 11, op := Op.move (Operand.tmp 3), type := 3, pos := "route.go:94", after := #[], guard := none }) (v := ?_) rfl (by kernel_rfl) (by kernel_rfl) (by kernel_rfl) (fun _ _ _ h => h) (Or.inl ⟨by rfl, ?_⟩) (by assumption) ?_
  rotate_left
  · intro w' hSw
    first
    | (go_simp; done)
    | (go_simp; with_reducible rfl)
  simp only [Act.put, List.setIfInBounds_toArray, List.set_cons_zero, List.set_cons_succ]
  refine wpAnyH_take (i := 5) (oi := { dst := some 12, op := Op.move (Operand.tmp 0), type := 9, pos := "route.go:94", after := #[], guard := none }) (v := ?_) rfl (by kernel_rfl) (by kernel_rfl) (by kernel_rfl) (fun _ _ _ h => h) (Or.inl ⟨by rfl, ?_⟩) (by assumption) ?_
  rotate_left
  · intro w' hSw
    first
    | (go_simp; done)
    | (go_simp; with_reducible rfl)
  simp only [Act.put, List.setIfInBounds_toArray, List.set_cons_zero, List.set_cons_succ]
  refine wpAnyH_take (i := 6) (oi := { dst := some 13, op := Op.index 9 (Operand.tmp 12) (Operand.const (Value.int IntKind.i64 2)), type := 5, pos := "route.go:94", after := #[{ on := 5, ground := Ground.data }], guard := none }) (v := ?_) rfl (by kernel_rfl) (by kernel_rfl) (by kernel_rfl) (fun _ _ _ h => h) (Or.inl ⟨by rfl, ?_⟩) (by assumption) ?_
  rotate_left
  · intro w' hSw
    first
    | (go_simp; done)
    | (go_simp; with_reducible rfl)
  simp only [Act.put, List.setIfInBounds_toArray, List.set_cons_zero, List.set_cons_succ]
  refine wpAnyH_take (i := 7) (oi := { dst := some 14, op := Op.convert 5 3 (Operand.tmp 13), type := 3, pos := "route.go:94", after := #[{ on := 6, ground := Ground.data }], guard := none }) (v := ?_) rfl (by kernel_rfl) (by kernel_rfl) (by kernel_rfl) (fun _ _ _ h => h) (Or.inl ⟨by rfl, ?_⟩) (by assumption) ?_
  rotate_left
  · intro w' hSw
    first
    | (go_simp; done)
    | (go_simp; with_reducible rfl)
  simp only [Act.put, List.setIfInBounds_toArray, List.set_cons_zero, List.set_cons_succ]
  refine wpAnyH_take (i := 8) (oi := { dst := some 15, op := Op.binOp BinOp.shl 3 (Operand.tmp 14) (Operand.const (Value.int IntKind.u64 8)) 41, type := 3, pos := "route.go:94", after := #[{ on := 7, ground := Ground.data }], guard := none }) (v := ?_) rfl (by kernel_rfl) (by kernel_rfl) (by kernel_rfl) (fun _ _ _ h => h) (Or.inl ⟨by rfl, ?_⟩) (by assumption) ?_
  rotate_left
  · intro w' hSw
    first
    | (go_simp; done)
    | (go_simp; with_reducible rfl)
  simp only [Act.put, List.setIfInBounds_toArray, List.set_cons_zero, List.set_cons_succ]
  refine wpAnyH_take (i := 9) (oi := { dst := some 16, op := Op.move (Operand.tmp 0), type := 9, pos := "route.go:94", after := #[], guard := none }) (v := ?_) rfl (by kernel_rfl) (by kernel_rfl) (by kernel_rfl) (fun _ _ _ h => h) (Or.inl ⟨by rfl, ?_⟩) (by assumption) ?_
  rotate_left
  · intro w' hSw
    first
    | (go_simp; done)
    | (go_simp; with_reducible rfl)
  simp only [Act.put, List.setIfInBounds_toArray, List.set_cons_zero, List.set_cons_succ]
  refine wpAnyH_take (i := 10) (oi := { dst := some 17, op := Op.index 9 (Operand.tmp 16) (Operand.const (Value.int IntKind.i64 3)), type := 5, pos := "route.go:94", after := #[{ on := 9, ground := Ground.data }], guard := none }) (v := ?_) rfl (by kernel_rfl) (by kernel_rfl) (by kernel_rfl) (fun _ _ _ h => h) (Or.inl ⟨by rfl, ?_⟩) (by assumption) ?_
  rotate_left
  · intro w' hSw
    first
    | (go_simp; done)
    | (go_simp; with_reducible rfl)
  simp only [Act.put, List.setIfInBounds_toArray, List.set_cons_zero, List.set_cons_succ]
  refine wpAnyH_take (i := 11) (oi := { dst := some 18, op := Op.convert 5 3 (Operand.tmp 17), type := 3, pos := "route.go:94", after := #[{ on := 10, ground := Ground.data }], guard := none }) (v := ?_) rfl (by kernel_rfl) (by kernel_rfl) (by kernel_rfl) (fun _ _ _ h => h) (Or.inl ⟨by rfl, ?_⟩) (by assumption) ?_
  rotate_left
  · intro w' hSw
    first
    | (go_simp; done)
    | (go_simp; with_reducible rfl)
  simp only [Act.put, List.setIfInBounds_toArray, List.set_cons_zero, List.set_cons_succ]
  refine wpAnyH_take (i := 12) (oi := { dst := some 19, op := Op.binOp BinOp.or 3 (Operand.tmp 15) (Operand.tmp 18) 3, type := 3, pos := "route.go:94", after := #[{ on := 8, ground := Ground.data }, { on := 11, ground := Ground.data }], guard := none }) (v := ?_) rfl (by kernel_rfl) (by kernel_rfl) (by kernel_rfl) (fun _ _ _ h => h) (Or.inl ⟨by rfl, ?_⟩) (by assumption) ?_
  rotate_left
  · intro w' hSw
    first
    | (go_simp; done)
    | (go_simp; with_reducible rfl)
  simp only [Act.put, List.setIfInBounds_toArray, List.set_cons_zero, List.set_cons_succ]
  refine wpAnyH_take (i := 13) (oi := { dst := some 20, op := Op.move (Operand.tmp 0), type := 9, pos := "route.go:94", after := #[], guard := none }) (v := ?_) rfl (by kernel_rfl) (by kernel_rfl) (by kernel_rfl) (fun _ _ _ h => h) (Or.inl ⟨by rfl, ?_⟩) (by assumption) ?_
  rotate_left
  · intro w' hSw
    first
    | (go_simp; done)
    | (go_simp; with_reducible rfl)
  simp only [Act.put, List.setIfInBounds_toArray, List.set_cons_zero, List.set_cons_succ]
  refine wpAnyH_take (i := 14) (oi := { dst := some 21, op := Op.slice 9 (Operand.tmp 20) (some (Operand.const (Value.int IntKind.i64 4))) (some (Operand.const (Value.int IntKind.i64 20))) none, type := 9, pos := "route.go:94", after := #[{ on := 13, ground := Ground.data }], guard := none }) (v := ?_) rfl (by kernel_rfl) (by kernel_rfl) (by kernel_rfl) (fun _ _ _ h => h) (Or.inl ⟨by rfl, ?_⟩) (by assumption) ?_
  rotate_left
  · intro w' hSw
    first
    | (go_simp; done)
    | (go_simp; with_reducible rfl)
  simp only [Act.put, List.setIfInBounds_toArray, List.set_cons_zero, List.set_cons_succ]
  refine wpAnyH_ready (rs := [15]) (by kernel_rfl) (by simp) ?_
  refine AllReadyH.cons (o := { dst := some 22, op := Op.call { callee := Callee.value (Operand.func 22), args := #[Operand.tmp 21], argTypes := #[9] }, type := 9, pos := "route.go:99", after := #[{ on := 14, ground := Ground.data }], guard := none }) rfl (fun K hK => ?_) AllReadyH.nil
  go_simp
  refine Calls.mono (CL.out _) ?_
  rintro e w1 ⟨rfl, hb1⟩
  have B1 : Hid (HopAt w1 w.heap.size ⟨0, 0, 0, 0, ⟨#[]⟩⟩ ∧ Below w.heap.size w w1) := HB.out _ hb1
  obtain ⟨r0, r1, r2, r3, r4⟩ := B1.out.1.cells
  have fz := B1.out.1.1
  have f0 := fz 0
  have f1 := fz 1
  have f2 := fz 2
  have f3 := fz 3
  have f4 := fz 4
  clear hb1 fz hHeld
  refine hK.out _ _ B1.out.2 (fun hHeld => ?_)
  clear hK K
  refine wpAnyH_take (i := 16) (oi := { dst := some 23, op := Op.build 23 #[(0, Operand.tmp 9), (1, Operand.tmp 10), (2, Operand.tmp 11), (3, Operand.tmp 19), (4, Operand.tmp 22)], type := 23, pos := "route.go:94", after := #[{ on := 2, ground := Ground.data }, { on := 3, ground := Ground.data }, { on := 4, ground := Ground.data }, { on := 12, ground := Ground.data }, { on := 15, ground := Ground.data }], guard := none }) (v := ?_) rfl (by kernel_rfl) (by kernel_rfl) (by kernel_rfl) (fun _ _ _ h => h) (Or.inl ⟨by rfl, ?_⟩) (by assumption) ?_
  rotate_left
  · intro w' hSw
    first
    | (go_simp; done)
    | (go_simp; with_reducible rfl)
  simp only [Act.put, List.setIfInBounds_toArray, List.set_cons_zero, List.set_cons_succ]
  refine wpAnyH_ready (rs := [17]) (by kernel_rfl) (by simp) ?_
  refine AllReadyH.cons rfl (fun K hK => ?_) AllReadyH.nil
  go_simp
  refine hK.out _ _ (below_put5 B1.out.2 (Nat.le_refl _) _ _ _ _ _) (fun hHeld2 => ?_)
  clear hK K
  refine wpAnyH_done (by kernel_rfl) ?_ _
  refine NoPanic.normal ?_
  have HW : Hid (_ ∧ _) := And.intro (HopAt.whole B1.out.1 (c0.toNat : Int) (c1.toNat : Int) (c1.toNat : Int) ((c2.toNat : Int) * 256 + (c3.toNat : Int)) X) (below_put5 B1.out.2 (Nat.le_refl w.heap.size) (.int .i64 (c0.toNat : Int)) (.int .i64 (c1.toNat : Int)) (.int .i64 (c1.toNat : Int)) (.int .i64 ((c2.toNat : Int) * 256 + (c3.toNat : Int))) (.string X))
  clear B1 hHeld hHeld2 HB C0 CL
  go_wp2
  refine bodyPost_ret (v := .agg #[.int .i64 (c0.toNat : Int), .int .i64 (c1.toNat : Int), .int .i64 (c1.toNat : Int), .int .i64 ((c2.toNat : Int) * 256 + (c3.toNat : Int)), .string X]) ?_ rfl ⟨rfl, HW.out.2⟩
  exact res_read _ _ w.heap.size _ _ _ _ _ (by kernel_rfl) HW.out.1
end Go.Proofs.Ythcopaeelbaobaa
