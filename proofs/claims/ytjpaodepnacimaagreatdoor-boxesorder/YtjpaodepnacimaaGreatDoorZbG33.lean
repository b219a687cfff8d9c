/- Parts: BpQ, BpR, BpS, BpT, BpU, BpV. -/
import Derived.Test.YtjpaodepnacimaaGreatDoorZbG32
namespace Go.Proofs.YtjpaodepnacimaaGreatDoor
open Go.RowKit Go.Proofs.Fd Go.Proofs.Dk Go.Proofs.Lg Go.Proofs.Bx
set_option maxRecDepth 20000
theorem xamong_is (x : Int) (N : Nat) (h0 : 0 < N) (h1 : N ≤ 1000) :
    ∃ m : Nat, m < N ∧ (∀ i : Nat, x = (i : Int) → i < N → m = i) ∧ ∀ w, Calls Tryz.prog 14 #[.int .i64 x, .int .i64 (N : Int)] w fun e w' => e = .returned (.int .i64 (m : Int)) ∧ w' = w := by
  have hN : (0 : Int) < (N : Int) := by omega
  have r1 := Int.tmod_lt_of_pos x hN
  have r2 := Int.lt_tmod_of_pos x hN
  obtain ⟨r, hr⟩ : ∃ r, Int.tmod x (N : Int) = r := ⟨_, rfl⟩
  rw [hr] at r1 r2
  have s1 := Int.tmod_lt_of_pos (r + (N : Int)) hN
  have s2 := Int.tmod_nonneg (N : Int) (show 0 ≤ r + (N : Int) by omega)
  obtain ⟨m, hm⟩ : ∃ m : Nat, Int.tmod (r + (N : Int)) (N : Int) = (m : Int) := ⟨(Int.tmod (r + (N : Int)) (N : Int)).toNat, by omega⟩
  rw [hm] at s1
  have z1 : IntKind.i64.wrap (Int.tmod x (N : Int)) = r := by rw [hr, IntKind.wrap_i64]; omega
  have z2 : IntKind.i64.wrap (r + (N : Int)) = r + (N : Int) := by rw [IntKind.wrap_i64]; omega
  have z3 : IntKind.i64.wrap (Int.tmod (r + (N : Int)) (N : Int)) = (m : Int) := by rw [hm, IntKind.wrap_i64]; omega
  have hN2 : ¬ (N : Int) = 0 := by omega
  have hi : ∀ i : Nat, x = (i : Int) → i < N → m = i := fun i e hi => by
    have e1 : r = (i : Int) := by rw [← hr, e, Int.tmod_eq_of_lt (by omega) (by omega)]
    have e2 : Int.tmod (r + (N : Int)) (N : Int) = (i : Int) := by
      rw [e1, Int.tmod_eq_emod_of_nonneg (by omega), Int.add_emod_right, Int.emod_eq_of_lt (by omega) (by omega)]
    rw [hm] at e2
    omega
  refine ⟨m, by omega, hi, fun w => ?_⟩
  clear r1 r2 s1 s2 h0 h1 hN hi
  go_enter Tryz.func14, Tryz.ntmps14
  go_wp2
  go_ret
  exact ⟨rfl, rfl⟩
def xil : Bs := [102, 105, 102, 116, 101, 101, 110, 32, 98, 121, 116, 101, 115, 32, 33]
def xid (m : Nat) : Bs := UInt8.ofNat (97 + m) :: xil
theorem xid_ok (m : Nat) : okI (xid m) = true := by
  have h : xid m ≠ zr 16 := fun e => by
    have := congrArg (fun l => l[1]?) e
    exact absurd this (by show some (102 : UInt8) ≠ (zr 16)[1]?; decide)
  unfold okI
  rw [decide_eq_false h]
  rfl
set_option maxHeartbeats 1000000 in
theorem lxid_any (m : Nat) (hm : m < 20) (x : Int) (AM : Hid (∀ w, Calls Tryz.prog 14 #[.int .i64 x, .int .i64 20] w fun e w' => e = .returned (.int .i64 (m : Int)) ∧ w' = w)) (w : World) :
    Calls Tryz.prog 16 #[.int .i64 x] w fun e w' => e = .returned (.string (st (xid m))) ∧ Below w.heap.size w w' := by
  have HP : Hid ((⟨#[UInt8.ofNat (97 + m)]⟩ : ByteArray) ++ ⟨#[102, 105, 102, 116, 101, 101, 110, 32, 98, 121, 116, 101, 115, 32, 33]⟩ = st (xid m)) := st_app [UInt8.ofNat (97 + m)] xil
  have y1 : IntKind.i64.wrap (97 + (m : Int)) = 97 + (m : Int) := by rw [IntKind.wrap_i64]; omega
  have y2 : IntKind.u8.wrap (97 + (m : Int)) = ((UInt8.ofNat (97 + m)).toNat : Int) := by
    rw [UInt8.toNat_ofNat', IntKind.wrap_u8]
    omega
  have BA : BytesAt (w.alloc (.cells #[.int .u8 ((UInt8.ofNat (97 + m)).toNat : Int)] 5)) w.heap.size [UInt8.ofNat (97 + m)] := fun j hj => by
    refine ⟨?_, by simp [go_sem]⟩
    rw [World.cell?_alloc_new]
    match j, hj with
    | 0, _ => rfl
  have CV := BA.string (cap := 1) (n := 1) rfl
  have NB : Hid (Below w.heap.size w (w.alloc (.cells #[.int .u8 ((UInt8.ofNat (97 + m)).toNat : Int)] 5))) := nb _ _
  obtain ⟨c, hc⟩ : ∃ c, UInt8.ofNat (97 + m) = c := ⟨_, rfl⟩
  rw [hc] at y2 CV NB HP
  clear hc BA hm
  go_enter Tryz.func16, Tryz.ntmps16
  go_wp2_with fail
  refine Calls.mono (AM.out _) ?_
  rintro e w1 ⟨rfl, hw⟩
  have hw' := hw.symm
  subst hw'
  clear hw AM
  go_wp2
  go_ret
  exact ⟨by rw [← HP.out]; rfl, NB.out⟩
end Go.Proofs.YtjpaodepnacimaaGreatDoor
namespace Go.Proofs.YtjpaodepnacimaaGreatDoor
open Go.RowKit Go.Proofs.Fd Go.Proofs.Dk Go.Proofs.Lg Go.Proofs.Bx
set_option maxRecDepth 20000
def opdo0 : Oper := { dst := some 24, op := Go.Op.move (Go.Operand.tmp 0), type := 32, pos := "theorems.go:87", after := #[], guard := none }
def opdo1 : Oper := { dst := some 25, op := Go.Op.move (Go.Operand.tmp 5), type := 3, pos := "theorems.go:87", after := #[], guard := none }
def opdo2 : Oper := { dst := some 26, op := Go.Op.fieldAddr 56 (Go.Operand.tmp 3) 1, type := 0, pos := "theorems.go:87", after := #[], guard := none }
def opdo3 : Oper := { dst := some 27, op := Go.Op.load 3 (Go.Operand.tmp 26), type := 3, pos := "theorems.go:87", after := #[{ on := 2, ground := Go.Ground.data }], guard := none }
def opdo4 : Oper := { dst := some 28, op := Go.Op.call { callee := Go.Callee.value (Go.Operand.func 16), args := #[Go.Operand.tmp 27], argTypes := #[3] }, type := 9, pos := "theorems.go:87", after := #[{ on := 3, ground := Go.Ground.data }], guard := none }
def opdo5 : Oper := { dst := some 29, op := Go.Op.fieldAddr 56 (Go.Operand.tmp 3) 3, type := 0, pos := "theorems.go:87", after := #[], guard := none }
def opdo6 : Oper := { dst := some 30, op := Go.Op.load 9 (Go.Operand.tmp 29), type := 9, pos := "theorems.go:87", after := #[{ on := 5, ground := Go.Ground.data }], guard := none }
def opdo7 : Oper := { dst := some 31, op := Go.Op.call { callee := Go.Callee.value (Go.Operand.func 21), args := #[Go.Operand.tmp 24, Go.Operand.tmp 25, Go.Operand.tmp 28, Go.Operand.tmp 30], argTypes := #[32, 3, 9, 9] }, type := 24, pos := "theorems.go:87", after := #[{ on := 0, ground := Go.Ground.data }, { on := 1, ground := Go.Ground.data }, { on := 4, ground := Go.Ground.data }, { on := 6, ground := Go.Ground.data }, { on := 4, ground := Go.Ground.chain }], guard := none }
def opdo8 : Oper := { dst := some 4, op := Go.Op.assign (Go.Operand.tmp 31), type := 24, pos := "theorems.go:87", after := #[{ on := 7, ground := Go.Ground.data }, { on := 7, ground := Go.Ground.chain }, { on := 0, ground := Go.Ground.phase }, { on := 1, ground := Go.Ground.phase }, { on := 2, ground := Go.Ground.phase }, { on := 3, ground := Go.Ground.phase }, { on := 4, ground := Go.Ground.phase }, { on := 5, ground := Go.Ground.phase }, { on := 6, ground := Go.Ground.phase }, { on := 7, ground := Go.Ground.phase }], guard := none }
theorem xdo_put (b who : Nat) (i0 i1 : Int) (T I : ByteArray) (Q : Int → World → Prop) (W : World)
    (AM : Hid (∀ w, Calls Tryz.prog 14 #[.int .i64 i0, .int .i64 3] w fun e w' => e = .returned (.int .i64 (who : Int)) ∧ w' = w))
    (ID : Hid (∀ w, Calls Tryz.prog 16 #[.int .i64 i1] w fun e w' => e = .returned (.string I) ∧ Below w.heap.size w w'))
    (PT : Hid (∀ V, Below W.heap.size W V → Calls Tryz.prog 21 #[.pointer (some ⟨b, 0, none⟩), .int .i64 (who : Int), .string I, .string T] V fun e w' => ∃ z, e = .returned (.int .i64 z) ∧ Q z w')) :
    Calls Tryz.prog 17 #[.pointer (some ⟨b, 0, none⟩), .agg #[.int .i64 i0, .int .i64 i1, .bool false, .string T]] W fun e w' => ∃ z, e = .returned (.int .i64 z) ∧ Q z w' := by
  have C1 : Hid (∀ V, Below (W.alloc (.cells #[.int .i64 i0, .int .i64 i1, .bool false, .string T] 56)).heap.size (W.alloc (.cells #[.int .i64 i0, .int .i64 i1, .bool false, .string T] 56)) V → V.cell? ⟨W.heap.size, 1, none⟩ = some (.int .i64 i1) ∧ V.cell? ⟨W.heap.size, 3, none⟩ = some (.string T)) := fun V h =>
    ⟨cell_later h (by rw [World.cell?_alloc_new]; rfl), cell_later h (by rw [World.cell?_alloc_new]; rfl)⟩
  have hb0 : Hid (Below W.heap.size W (W.alloc (.cells #[.int .i64 i0, .int .i64 i1, .bool false, .string T] 56))) := nb _ _
  go_enter Tryz.func17, Tryz.ntmps17
  go_wp2_with fail
  refine Calls.mono (AM.out _) ?_
  rintro e w1 ⟨rfl, hw⟩
  have hw' := hw.symm
  subst hw'
  clear hw AM
  go_upto_region 5 with fail
  refine wp_region_noPanic ?_
  refine wp_region_held_drew (S := fun _ => True) (by kernel_rfl) (trivial) (fun hHeld => ?_)
  have hd0 := (Below.refl (W.alloc (.cells #[.int .i64 i0, .int .i64 i1, .bool false, .string T] 56)).heap.size (W.alloc (.cells #[.int .i64 i0, .int .i64 i1, .bool false, .string T] 56))).drew
  obtain ⟨X, hX⟩ : ∃ X, (W.alloc (.cells #[.int .i64 i0, .int .i64 i1, .bool false, .string T] 56)) = X := ⟨_, rfl⟩
  obtain ⟨B, hB⟩ : ∃ B, W.heap.size = B := ⟨_, rfl⟩
  rw [hX] at hd0 hb0 C1 ⊢
  rw [hB] at C1 ⊢
  clear hX hB
  refine wpAnyH_take (i := 0) (oi := opdo0) (v := ?_) rfl (by kernel_rfl) (by kernel_rfl) (by kernel_rfl) (fun _ _ _ h => h) (Or.inl ⟨by rfl, ?_⟩) (by assumption) ?_
  rotate_left
  · intro w' hSw
    clear hSw
    unfold opdo0
    first
    | (go_simp; done)
    | (go_simp; with_reducible rfl)
  simp only [opdo0, Act.put, List.setIfInBounds_toArray, List.set_cons_zero, List.set_cons_succ]
  refine wpAnyH_take (i := 1) (oi := opdo1) (v := ?_) rfl (by kernel_rfl) (by kernel_rfl) (by kernel_rfl) (fun _ _ _ h => h) (Or.inl ⟨by rfl, ?_⟩) (by assumption) ?_
  rotate_left
  · intro w' hSw
    clear hSw
    unfold opdo1
    first
    | (go_simp; done)
    | (go_simp; with_reducible rfl)
  simp only [opdo1, Act.put, List.setIfInBounds_toArray, List.set_cons_zero, List.set_cons_succ]
  refine wpAnyH_take (i := 2) (oi := opdo2) (v := ?_) rfl (by kernel_rfl) (by kernel_rfl) (by kernel_rfl) (fun _ _ _ h => h) (Or.inl ⟨by rfl, ?_⟩) (by assumption) ?_
  rotate_left
  · intro w' hSw
    clear hSw
    unfold opdo2
    first
    | (go_simp; done)
    | (go_simp; with_reducible rfl)
  simp only [opdo2, Act.put, List.setIfInBounds_toArray, List.set_cons_zero, List.set_cons_succ]
  refine wpAnyH_take (i := 5) (oi := opdo5) (v := ?_) rfl (by kernel_rfl) (by kernel_rfl) (by kernel_rfl) (fun _ _ _ h => h) (Or.inl ⟨by rfl, ?_⟩) (by assumption) ?_
  rotate_left
  · intro w' hSw
    clear hSw
    unfold opdo5
    first
    | (go_simp; done)
    | (go_simp; with_reducible rfl)
  simp only [opdo5, Act.put, List.setIfInBounds_toArray, List.set_cons_zero, List.set_cons_succ]
  refine wpAnyH_ready (rs := [3, 6]) (by kernel_rfl) (by simp) ?_
  refine AllReadyH.cons (o := opdo3) rfl (fun KK hKK => ?_) (AllReadyH.cons (o := opdo6) rfl (fun KK hKK => ?_) AllReadyH.nil)
  · have lc := (C1.out _ hd0).1
    unfold opdo3
    go_simp
    refine hKK.out _ _ trivial (fun _ => ?_)
    clear hKK KK lc
    try simp only [opdo3, Act.put, List.setIfInBounds_toArray, List.set_cons_zero, List.set_cons_succ]
    refine wpAnyH_ready (rs := [4, 6]) (by kernel_rfl) (by simp) ?_
    refine AllReadyH.cons (o := opdo4) rfl (fun KK hKK => ?_) (AllReadyH.cons (o := opdo6) rfl (fun KK hKK => ?_) AllReadyH.nil)
    · unfold opdo4
      go_simp
      refine Calls.mono (ID.out _) ?_
      rintro e w2 ⟨rfl, h2⟩
      have h3 := chain hd0 h2
      refine hKK.out _ _ trivial (fun _ => ?_)
      clear hKK KK h2
      try simp only [opdo4, Act.put, List.setIfInBounds_toArray, List.set_cons_zero, List.set_cons_succ]
      refine wpAnyH_ready (rs := [6]) (by kernel_rfl) (by simp) ?_
      refine AllReadyH.cons (o := opdo6) rfl (fun KK hKK => ?_) AllReadyH.nil
      have lc := (C1.out _ h3).2
      unfold opdo6
      go_simp
      refine hKK.out _ _ trivial (fun _ => ?_)
      clear hKK KK lc
      try simp only [opdo6, Act.put, List.setIfInBounds_toArray, List.set_cons_zero, List.set_cons_succ]
      refine wpAnyH_ready (rs := [7]) (by kernel_rfl) (by simp) ?_
      refine AllReadyH.cons (o := opdo7) rfl (fun KK hKK => ?_) AllReadyH.nil
      have P1 : Hid _ := PT.out _ (chain hb0.out h3)
      unfold opdo7
      go_simp
      refine Calls.mono P1.out ?_
      rintro e w3 ⟨z, rfl, hz⟩
      have F3 : Hid _ := hz
      clear hz
      refine hKK.out _ _ trivial (fun _ => ?_)
      clear hKK KK P1
      try simp only [opdo7, Act.put, List.setIfInBounds_toArray, List.set_cons_zero, List.set_cons_succ]
      refine wpAnyH_take (i := 8) (oi := opdo8) (v := ?_) rfl (by kernel_rfl) (by kernel_rfl) (by kernel_rfl) (fun _ _ _ h => h) (Or.inl ⟨by rfl, ?_⟩) (by assumption) ?_
      rotate_left
      · intro w' hSw
        clear hSw
        unfold opdo8
        first
        | (go_simp; done)
        | (go_simp; with_reducible rfl)
      simp only [opdo8, Act.put, List.setIfInBounds_toArray, List.set_cons_zero, List.set_cons_succ]
      refine wpAnyH_done (by kernel_rfl) ?_ _
      refine NoPanic.normal ?_
      go_wp2
      go_ret
      exact ⟨_, rfl, F3.out⟩
    · have lc := (C1.out _ hd0).2
      unfold opdo6
      go_simp
      refine hKK.out _ _ trivial (fun _ => ?_)
      clear hKK KK lc
      try simp only [opdo6, Act.put, List.setIfInBounds_toArray, List.set_cons_zero, List.set_cons_succ]
      refine wpAnyH_ready (rs := [4]) (by kernel_rfl) (by simp) ?_
      refine AllReadyH.cons (o := opdo4) rfl (fun KK hKK => ?_) AllReadyH.nil
      unfold opdo4
      go_simp
      refine Calls.mono (ID.out _) ?_
      rintro e w2 ⟨rfl, h2⟩
      have h3 := chain hd0 h2
      refine hKK.out _ _ trivial (fun _ => ?_)
      clear hKK KK h2
      try simp only [opdo4, Act.put, List.setIfInBounds_toArray, List.set_cons_zero, List.set_cons_succ]
      refine wpAnyH_ready (rs := [7]) (by kernel_rfl) (by simp) ?_
      refine AllReadyH.cons (o := opdo7) rfl (fun KK hKK => ?_) AllReadyH.nil
      have P1 : Hid _ := PT.out _ (chain hb0.out h3)
      unfold opdo7
      go_simp
      refine Calls.mono P1.out ?_
      rintro e w3 ⟨z, rfl, hz⟩
      have F3 : Hid _ := hz
      clear hz
      refine hKK.out _ _ trivial (fun _ => ?_)
      clear hKK KK P1
      try simp only [opdo7, Act.put, List.setIfInBounds_toArray, List.set_cons_zero, List.set_cons_succ]
      refine wpAnyH_take (i := 8) (oi := opdo8) (v := ?_) rfl (by kernel_rfl) (by kernel_rfl) (by kernel_rfl) (fun _ _ _ h => h) (Or.inl ⟨by rfl, ?_⟩) (by assumption) ?_
      rotate_left
      · intro w' hSw
        clear hSw
        unfold opdo8
        first
        | (go_simp; done)
        | (go_simp; with_reducible rfl)
      simp only [opdo8, Act.put, List.setIfInBounds_toArray, List.set_cons_zero, List.set_cons_succ]
      refine wpAnyH_done (by kernel_rfl) ?_ _
      refine NoPanic.normal ?_
      go_wp2
      go_ret
      exact ⟨_, rfl, F3.out⟩
  · have lc := (C1.out _ hd0).2
    unfold opdo6
    go_simp
    refine hKK.out _ _ trivial (fun _ => ?_)
    clear hKK KK lc
    try simp only [opdo6, Act.put, List.setIfInBounds_toArray, List.set_cons_zero, List.set_cons_succ]
    refine wpAnyH_ready (rs := [3]) (by kernel_rfl) (by simp) ?_
    refine AllReadyH.cons (o := opdo3) rfl (fun KK hKK => ?_) AllReadyH.nil
    have lc := (C1.out _ hd0).1
    unfold opdo3
    go_simp
    refine hKK.out _ _ trivial (fun _ => ?_)
    clear hKK KK lc
    try simp only [opdo3, Act.put, List.setIfInBounds_toArray, List.set_cons_zero, List.set_cons_succ]
    refine wpAnyH_ready (rs := [4]) (by kernel_rfl) (by simp) ?_
    refine AllReadyH.cons (o := opdo4) rfl (fun KK hKK => ?_) AllReadyH.nil
    unfold opdo4
    go_simp
    refine Calls.mono (ID.out _) ?_
    rintro e w2 ⟨rfl, h2⟩
    have h3 := chain hd0 h2
    refine hKK.out _ _ trivial (fun _ => ?_)
    clear hKK KK h2
    try simp only [opdo4, Act.put, List.setIfInBounds_toArray, List.set_cons_zero, List.set_cons_succ]
    refine wpAnyH_ready (rs := [7]) (by kernel_rfl) (by simp) ?_
    refine AllReadyH.cons (o := opdo7) rfl (fun KK hKK => ?_) AllReadyH.nil
    have P1 : Hid _ := PT.out _ (chain hb0.out h3)
    unfold opdo7
    go_simp
    refine Calls.mono P1.out ?_
    rintro e w3 ⟨z, rfl, hz⟩
    have F3 : Hid _ := hz
    clear hz
    refine hKK.out _ _ trivial (fun _ => ?_)
    clear hKK KK P1
    try simp only [opdo7, Act.put, List.setIfInBounds_toArray, List.set_cons_zero, List.set_cons_succ]
    refine wpAnyH_take (i := 8) (oi := opdo8) (v := ?_) rfl (by kernel_rfl) (by kernel_rfl) (by kernel_rfl) (fun _ _ _ h => h) (Or.inl ⟨by rfl, ?_⟩) (by assumption) ?_
    rotate_left
    · intro w' hSw
      clear hSw
      unfold opdo8
      first
      | (go_simp; done)
      | (go_simp; with_reducible rfl)
    simp only [opdo8, Act.put, List.setIfInBounds_toArray, List.set_cons_zero, List.set_cons_succ]
    refine wpAnyH_done (by kernel_rfl) ?_ _
    refine NoPanic.normal ?_
    go_wp2
    go_ret
    exact ⟨_, rfl, F3.out⟩
theorem xdo_ack (b who : Nat) (i0 i1 : Int) (T I : ByteArray) (Q : Int → World → Prop) (W : World)
    (AM : Hid (∀ w, Calls Tryz.prog 14 #[.int .i64 i0, .int .i64 3] w fun e w' => e = .returned (.int .i64 (who : Int)) ∧ w' = w))
    (ID : Hid (∀ w, Calls Tryz.prog 16 #[.int .i64 i1] w fun e w' => e = .returned (.string I) ∧ Below w.heap.size w w'))
    (AK : Hid (∀ V, Below W.heap.size W V → Calls Tryz.prog 23 #[.pointer (some ⟨b, 0, none⟩), .int .i64 (who : Int), .slice (some ⟨V.heap.size, 0, none⟩) 1 1] (V.alloc (.cells #[.string I] 9)) fun e w' => ∃ (k : Int) (z : Int), e = .returned (.tuple #[.int .i64 k, .int .i64 z]) ∧ Q z w')) :
    Calls Tryz.prog 17 #[.pointer (some ⟨b, 0, none⟩), .agg #[.int .i64 i0, .int .i64 i1, .bool true, .string T]] W fun e w' => ∃ z, e = .returned (.int .i64 z) ∧ Q z w' := by
  have hb0 : Hid (Below W.heap.size W (W.alloc (.cells #[.int .i64 i0, .int .i64 i1, .bool true, .string T] 56))) := nb _ _
  go_enter Tryz.func17, Tryz.ntmps17
  go_wp2_with fail
  refine Calls.mono (AM.out _) ?_
  rintro e w1 ⟨rfl, hw⟩
  have hw' := hw.symm
  subst hw'
  clear hw AM
  go_wp2_with fail
  refine Calls.mono (ID.out _) ?_
  rintro e w2 ⟨rfl, h2⟩
  have A1 : Hid _ := AK.out w2 (chain hb0.out h2)
  clear ID AK h2 hb0
  go_wp2_with fail
  refine Calls.mono A1.out ?_
  rintro e w3 ⟨k, z, rfl, h3⟩
  have F3 : Hid _ := h3
  clear h3 A1
  go_wp2
  go_ret
  exact ⟨_, rfl, F3.out⟩
end Go.Proofs.YtjpaodepnacimaaGreatDoor
namespace Go.Proofs.YtjpaodepnacimaaGreatDoor
open Go.RowKit Go.Proofs.Fd Go.Proofs.Dk Go.Proofs.Lg Go.Proofs.Bx
set_option maxRecDepth 20000
set_option maxHeartbeats 2000000 in
theorem xsame_core (x0 x1 x2 y0 y1 y2 : Option Addr) (n0 n1 n2 m0 m1 m2 c0 c1 c2 d0 d1 d2 : Nat) (W : World)
    (S0 : Hid (∀ V, Below W.heap.size W V → Calls Tryz.prog 28 #[.slice x0 n0 c0, .slice y0 m0 d0] V fun e w' => e = .returned (.bool true) ∧ Below V.heap.size V w'))
    (S1 : Hid (∀ V, Below W.heap.size W V → Calls Tryz.prog 28 #[.slice x1 n1 c1, .slice y1 m1 d1] V fun e w' => e = .returned (.bool true) ∧ Below V.heap.size V w'))
    (S2 : Hid (∀ V, Below W.heap.size W V → Calls Tryz.prog 28 #[.slice x2 n2 c2, .slice y2 m2 d2] V fun e w' => e = .returned (.bool true) ∧ Below V.heap.size V w')) :
    Calls Tryz.prog 19 #[.agg #[.slice x0 n0 c0, .slice x1 n1 c1, .slice x2 n2 c2], .agg #[.slice y0 m0 d0, .slice y1 m1 d1, .slice y2 m2 d2]] W fun e w' => e = .returned (.bool true) ∧ Below W.heap.size W w' := by
  have hs : (W.alloc (.cells #[.slice x0 n0 c0, .slice x1 n1 c1, .slice x2 n2 c2] 54)).heap.size = W.heap.size + 1 := by simp
  have HA : Hid (Below W.heap.size W ((W.alloc (.cells #[.slice x0 n0 c0, .slice x1 n1 c1, .slice x2 n2 c2] 54)).alloc (.cells #[.slice y0 m0 d0, .slice y1 m1 d1, .slice y2 m2 d2] 54))) := chain (nb _ _) (nb _ _)
  have CX : Hid (∀ V, Below ((W.alloc (.cells #[.slice x0 n0 c0, .slice x1 n1 c1, .slice x2 n2 c2] 54)).alloc (.cells #[.slice y0 m0 d0, .slice y1 m1 d1, .slice y2 m2 d2] 54)).heap.size ((W.alloc (.cells #[.slice x0 n0 c0, .slice x1 n1 c1, .slice x2 n2 c2] 54)).alloc (.cells #[.slice y0 m0 d0, .slice y1 m1 d1, .slice y2 m2 d2] 54)) V → ∀ j v, #[Value.slice x0 n0 c0, .slice x1 n1 c1, .slice x2 n2 c2][j]? = some v → V.cell? ⟨W.heap.size, j, none⟩ = some v) := fun V h j v hv => cell_later h (cell_alloc (by rw [World.cell?_alloc_new]; exact hv))
  have CY : Hid (∀ V, Below ((W.alloc (.cells #[.slice x0 n0 c0, .slice x1 n1 c1, .slice x2 n2 c2] 54)).alloc (.cells #[.slice y0 m0 d0, .slice y1 m1 d1, .slice y2 m2 d2] 54)).heap.size ((W.alloc (.cells #[.slice x0 n0 c0, .slice x1 n1 c1, .slice x2 n2 c2] 54)).alloc (.cells #[.slice y0 m0 d0, .slice y1 m1 d1, .slice y2 m2 d2] 54)) V → ∀ j v, #[Value.slice y0 m0 d0, .slice y1 m1 d1, .slice y2 m2 d2][j]? = some v → V.cell? ⟨W.heap.size + 1, j, none⟩ = some v) := fun V h j v hv => cell_later h (by rw [← hs, World.cell?_alloc_new]; exact hv)
  clear hs
  go_enter Tryz.func19, Tryz.ntmps19
  go_wp2_with fail
  obtain ⟨A, hA⟩ : ∃ A, ((W.alloc (.cells #[.slice x0 n0 c0, .slice x1 n1 c1, .slice x2 n2 c2] 54)).alloc (.cells #[.slice y0 m0 d0, .slice y1 m1 d1, .slice y2 m2 d2] 54)) = A := ⟨_, rfl⟩
  rw [hA] at HA CX CY ⊢
  obtain ⟨B, hB⟩ : ∃ B, W.heap.size = B := ⟨_, rfl⟩
  obtain ⟨C, hC⟩ : ∃ C, B + 1 = C := ⟨_, rfl⟩
  have SS0 : Hid (∀ V, Below A.heap.size A V → _) := fun V h => S0.out V (chain HA.out h)
  have SS1 : Hid (∀ V, Below A.heap.size A V → _) := fun V h => S1.out V (chain HA.out h)
  have SS2 : Hid (∀ V, Below A.heap.size A V → _) := fun V h => S2.out V (chain HA.out h)
  have FIN : Hid (∀ V, Below A.heap.size A V → Below W.heap.size W V) := fun V h => chain HA.out h
  rw [hB] at CX CY ⊢
  rw [hC] at CY ⊢
  clear hA hC S0 S1 S2 HA
  go_loopw [6] (fun i wr => ∃ u : Nat, u ≤ 3 ∧ i = .int .i64 (u : Int) ∧ Hid (Below A.heap.size A wr)) (fun i _ => 3 - (intOf i).toNat)
  case atStart => exact ⟨0, by omega, rfl, Below.refl _ _⟩
  case round =>
    obtain ⟨u, hu, rfl, J⟩ := hrel
    rcases (by omega : u = 0 ∨ u = 1 ∨ u = 2 ∨ u = 3) with rfl | rfl | rfl | rfl
    · have cx := CX.out _ J.out.drew 0 _ rfl
      have cy := CY.out _ J.out.drew 0 _ rfl
      have T1 : Hid _ := SS0.out _ J.out.drew
      have G : Hid (∀ V, Below wr.drew.heap.size wr.drew V → Below A.heap.size A V) := fun V h => chain J.out.drew h
      clear J
      go_wp2_with fail
      go_region_held3 (fun w' => w'.cell? ⟨B, 0, none⟩ = some (.slice x0 n0 c0) ∧ w'.cell? ⟨C, 0, none⟩ = some (.slice y0 m0 d0)) (first | exact ⟨cx, cy⟩ | assumption | exact ⟨cell_later (by assumption) cx, cell_later (by assumption) cy⟩) (first | (go_at_call 28; refine Calls.mono T1.out ?_; rintro e w3 ⟨rfl, h3⟩))
      go_wp2
      go_roundw
      case rel => exact ⟨1, by omega, by first | rfl | go_num, G.out _ (by assumption)⟩
      case measure => simp [intOf]
    · have cx := CX.out _ J.out.drew 1 _ rfl
      have cy := CY.out _ J.out.drew 1 _ rfl
      have T1 : Hid _ := SS1.out _ J.out.drew
      have G : Hid (∀ V, Below wr.drew.heap.size wr.drew V → Below A.heap.size A V) := fun V h => chain J.out.drew h
      clear J
      go_wp2_with fail
      go_region_held3 (fun w' => w'.cell? ⟨B, 1, none⟩ = some (.slice x1 n1 c1) ∧ w'.cell? ⟨C, 1, none⟩ = some (.slice y1 m1 d1)) (first | exact ⟨cx, cy⟩ | assumption | exact ⟨cell_later (by assumption) cx, cell_later (by assumption) cy⟩) (first | (go_at_call 28; refine Calls.mono T1.out ?_; rintro e w3 ⟨rfl, h3⟩))
      go_wp2
      go_roundw
      case rel => exact ⟨2, by omega, by first | rfl | go_num, G.out _ (by assumption)⟩
      case measure => simp [intOf]
    · have cx := CX.out _ J.out.drew 2 _ rfl
      have cy := CY.out _ J.out.drew 2 _ rfl
      have T1 : Hid _ := SS2.out _ J.out.drew
      have G : Hid (∀ V, Below wr.drew.heap.size wr.drew V → Below A.heap.size A V) := fun V h => chain J.out.drew h
      clear J
      go_wp2_with fail
      go_region_held3 (fun w' => w'.cell? ⟨B, 2, none⟩ = some (.slice x2 n2 c2) ∧ w'.cell? ⟨C, 2, none⟩ = some (.slice y2 m2 d2)) (first | exact ⟨cx, cy⟩ | assumption | exact ⟨cell_later (by assumption) cx, cell_later (by assumption) cy⟩) (first | (go_at_call 28; refine Calls.mono T1.out ?_; rintro e w3 ⟨rfl, h3⟩))
      go_wp2
      go_roundw
      case rel => exact ⟨3, by omega, by first | rfl | go_num, G.out _ (by assumption)⟩
      case measure => simp [intOf]
    · have F1 : Hid _ := FIN.out _ J.out
      go_wp2
      go_ret
      exact ⟨rfl, by first | exact F1.out | (rw [← hB]; exact F1.out)⟩
end Go.Proofs.YtjpaodepnacimaaGreatDoor
namespace Go.Proofs.YtjpaodepnacimaaGreatDoor
open Go.RowKit Go.Proofs.Fd Go.Proofs.Dk Go.Proofs.Lg Go.Proofs.Bx
set_option maxRecDepth 20000
def Ok3 (C : Nat) (w : World) (y : Value) (l : List Sl) : Prop := ∃ a c, y = .slice a l.length c ∧ Sli w a l.length c l ∧ ∀ x, a = some x → C < x.block
theorem Ok3.later {C : Nat} {w w' : World} {y : Value} {l : List Sl} (h : Ok3 C w y l) (hb : Below w.heap.size w w') : Ok3 C w' y l := by
  obtain ⟨a, c, e, s, hx⟩ := h
  exact ⟨a, c, e, s.later hb, hx⟩
theorem Ok3.sets {C D : Nat} {w : World} {y : Value} {l : List Sl} (h : Ok3 C w y l) (hD : D ≤ C) (k : Nat) (vs : List Value) : Ok3 C (w.setCells D k vs) y l := by
  obtain ⟨a, c, e, s, hx⟩ := h
  exact ⟨a, c, e, s.bf (Bf.sets (fun z => z = D) D rfl vs k w) (fun x ex _ c => by have := hx x ex; omega), hx⟩
theorem Ok3.of {C : Nat} {w w' : World} {y : Value} {l : List Sl} (h : w'.ownsRow w.heap.size 58 2 y l.length (scx l)) (hC : C < w.heap.size) : Ok3 C w' y l := by
  obtain ⟨a, c, e, s, hx⟩ := owns_sl rfl h
  exact ⟨a, c, e, s, fun x ex => by have := hx x ex; omega⟩
def z3 : List Value := [.slice none 0 0, .slice none 0 0, .slice none 0 0]
structure AlI (W : World) (L : Nat → List Sl) (u : Nat) (wr : World) : Prop where
  bl : Below W.heap.size W wr
  rb : Blk wr W.heap.size z3
  ob : ∃ v0 v1 v2, Blk wr (W.heap.size + 1) [v0, v1, v2] ∧ (0 < u → Ok3 (W.heap.size + 1) wr v0 (L 0)) ∧ (1 < u → Ok3 (W.heap.size + 1) wr v1 (L 1)) ∧ (2 < u → Ok3 (W.heap.size + 1) wr v2 (L 2))
theorem AlI.step {W : World} {L : Nat → List Sl} {u : Nat} {wr : World} (h : AlI W L u wr) (hu : u < 3) {w3 : World} {y : Value} (hb : Below wr.heap.size wr w3) (ho : w3.ownsRow wr.heap.size 58 2 y (L u).length (scx (L u))) : AlI W L (u + 1) (w3.setCell ⟨W.heap.size + 1, u, none⟩ y) := by
  obtain ⟨bl, rb, v0, v1, v2, ob, o0, o1, o2⟩ := h
  have hlt := ob.lt
  have ok := Ok3.of ho hlt
  have bf : Bf (fun z => z = W.heap.size + 1) w3 (w3.setCells (W.heap.size + 1) u [y]) := Bf.sets (fun z => z = W.heap.size + 1) _ rfl [y] u w3
  have ob3 := (ob.later hb).set u (by simpa using hu) y
  refine ⟨(bl.trans (hb.mono bl.size)).setCell (p := ⟨W.heap.size + 1, u, none⟩) (by show _ ≤ W.heap.size + 1; omega) y, (rb.later hb).bf bf (by intro e; omega), ?_⟩
  have st : ∀ {v l}, Ok3 (W.heap.size + 1) w3 v l → Ok3 (W.heap.size + 1) (w3.setCell ⟨W.heap.size + 1, u, none⟩ y) v l := fun k => k.sets (Nat.le_refl _) u [y]
  rcases (by omega : u = 0 ∨ u = 1 ∨ u = 2) with rfl | rfl | rfl
  · exact ⟨y, v1, v2, ob3, fun _ => st ok, fun h => absurd h (by decide), fun h => absurd h (by decide)⟩
  · exact ⟨v0, y, v2, ob3, fun _ => st ((o0 (by decide)).later hb), fun _ => st ok, fun h => absurd h (by decide)⟩
  · exact ⟨v0, v1, y, ob3, fun _ => st ((o0 (by decide)).later hb), fun _ => st ((o1 (by decide)).later hb), fun _ => st ok⟩
theorem AlI.drew {W : World} {L : Nat → List Sl} {u : Nat} {wr : World} (h : AlI W L u wr) : AlI W L u wr.drew := ⟨h.bl.drew, h.rb.drew, by
  obtain ⟨v0, v1, v2, ob, o0, o1, o2⟩ := h.ob
  exact ⟨v0, v1, v2, ob.drew, fun k => (o0 k).later (Below.refl _ _).drew, fun k => (o1 k).later (Below.refl _ _).drew, fun k => (o2 k).later (Below.refl _ _).drew⟩⟩
theorem size3 : (Tryz.prog.info? 54).map (·.size) = some 3 := by kernel_rfl
def AlR (W : World) (L : Nat → List Sl) (e : Ending) (w' : World) : Prop := ∃ v0 v1 v2, e = .returned (.agg #[v0, v1, v2]) ∧ Ok3 (W.heap.size + 1) w' v0 (L 0) ∧ Ok3 (W.heap.size + 1) w' v1 (L 1) ∧ Ok3 (W.heap.size + 1) w' v2 (L 2) ∧ Below W.heap.size W w'
theorem Ok3.one {C : Nat} {w : World} {y : Value} {l : List Sl} (h : Ok3 C w y l) : y.oneCell' = true := by
  obtain ⟨a, c, rfl, -, -⟩ := h
  rfl
theorem AlI.fin {W : World} {L : Nat → List Sl} {wr : World} (h : AlI W L 3 wr) : ∃ v0 v1 v2, (Instr.loadAt 54 (.pointer (some ⟨W.heap.size + 1, 0, none⟩))).run Tryz.prog wr = .ok (.agg #[v0, v1, v2]) wr ∧ (Instr.storeAt 54 (.pointer (some ⟨W.heap.size, 0, none⟩)) (.agg #[v0, v1, v2])).run Tryz.prog wr = .ok () (wr.setCells W.heap.size 0 [v0, v1, v2]) ∧ Hid ((loadVar 54 ⟨W.heap.size, 0, none⟩).run Tryz.prog (wr.setCells W.heap.size 0 [v0, v1, v2]) = .ok (.agg #[v0, v1, v2]) (wr.setCells W.heap.size 0 [v0, v1, v2]) ∧ AlR W L (.returned (.agg #[v0, v1, v2])) (wr.setCells W.heap.size 0 [v0, v1, v2])) := by
  obtain ⟨bl, rb, v0, v1, v2, ob, o0, o1, o2⟩ := h
  have k0 := o0 (by decide)
  have k1 := o1 (by decide)
  have k2 := o2 (by decide)
  have one : ∀ v ∈ [v0, v1, v2], v.oneCell' = true := fun v hv => by
    simp at hv
    rcases hv with rfl | rfl | rfl
    · exact k0.one
    · exact k1.one
    · exact k2.one
  have L1 := run_loadAt_mid (P := Tryz.prog) wr (W.heap.size + 1) 0 54 [v0, v1, v2] _ ob.r Tryz.underlying54 rfl size3
  have S1 := run_storeAt_mid (P := Tryz.prog) wr W.heap.size 0 54 #[v0, v1, v2] rb.there size3 (by simpa using one)
  have R1 := run_loadVar_mid (P := Tryz.prog) (wr.setCells W.heap.size 0 [v0, v1, v2]) W.heap.size 0 54 [v0, v1, v2] _ (rb.put [v0, v1, v2] rfl).r Tryz.underlying54 rfl size3
  exact ⟨v0, v1, v2, L1, S1, R1, v0, v1, v2, rfl, k0.sets (by omega) 0 _, k1.sets (by omega) 0 _, k2.sets (by omega) 0 _, below_sets (Nat.le_refl _) _ 0 bl⟩
end Go.Proofs.YtjpaodepnacimaaGreatDoor
namespace Go.Proofs.YtjpaodepnacimaaGreatDoor
open Go.RowKit Go.Proofs.Fd Go.Proofs.Dk Go.Proofs.Lg Go.Proofs.Bx
set_option maxRecDepth 20000
set_option maxHeartbeats 4000000 in
theorem xall_core (b : Nat) (L : Nat → List Sl) (W : World)
    (FI : Hid (∀ (u : Nat) V, u < 3 → Below W.heap.size W V → Calls Tryz.prog 22 #[.pointer (some ⟨b, 0, none⟩), .int .i64 (u : Int), .int .i64 256] V fun e w' => ∃ y, e = .returned (.tuple #[y, .int .i64 0]) ∧ w'.ownsRow V.heap.size 58 2 y (L u).length (scx (L u)) ∧ Below V.heap.size V w')) :
    Calls Tryz.prog 20 #[.pointer (some ⟨b, 0, none⟩)] W fun e w' => AlR W L e w' := by
  have hs : (W.alloc (.cells z3.toArray 54)).heap.size = W.heap.size + 1 := by simp
  have n2 := nb (W.alloc (.cells z3.toArray 54)) (.cells z3.toArray 54)
  have I0 : Hid (AlI W L 0 ((W.alloc (.cells z3.toArray 54)).alloc (.cells z3.toArray 54))) := by
    refine ⟨chain (nb _ _) n2, (Blk.new W z3 _ (by unfold z3; simp)).later n2, .slice none 0 0, .slice none 0 0, .slice none 0 0, ?_, fun h => absurd h (by decide), fun h => absurd h (by decide), fun h => absurd h (by decide)⟩
    have := Blk.new (W.alloc (.cells z3.toArray 54)) z3 54 (by unfold z3; simp)
    rw [hs] at this
    exact this
  have FN : Hid (∀ wr, AlI W L 3 wr → _) := fun wr h => h.fin
  have ST : Hid (∀ (u : Nat) wr w3 y, u < 3 → AlI W L u wr → Below wr.heap.size wr w3 → w3.ownsRow wr.heap.size 58 2 y (L u).length (scx (L u)) → AlI W L (u + 1) (w3.setCell ⟨W.heap.size + 1, u, none⟩ y)) := fun u wr w3 y hu h hb ho => h.step hu hb ho
  have CE : Hid (∀ (u : Nat) wr w3, u < 3 → AlI W L u wr → Below wr.heap.size wr w3 → (∃ v, w3.cell? ⟨W.heap.size + 1, u, none⟩ = some v) ∧ w3.frozen? ⟨W.heap.size + 1, u, none⟩ = false) := fun u wr w3 hu h hb => by
    obtain ⟨v0, v1, v2, ob, -⟩ := h.ob
    have ob := ob.later hb
    refine ⟨?_, ob.f u⟩
    rcases (by omega : u = 0 ∨ u = 1 ∨ u = 2) with rfl | rfl | rfl
    · exact ⟨_, ob.c 0 _ rfl⟩
    · exact ⟨_, ob.c 1 _ rfl⟩
    · exact ⟨_, ob.c 2 _ rfl⟩
  have FL : Hid (∀ (u : Nat) wr, u < 3 → AlI W L u wr → _) := fun u wr hu h => FI.out u wr hu h.bl
  unfold z3 at I0
  clear hs n2 FI
  go_enter Tryz.func20, Tryz.ntmps20
  go_wp2_with fail
  obtain ⟨A, hA⟩ : ∃ A, (W.alloc (.cells [Value.slice none 0 0, .slice none 0 0, .slice none 0 0].toArray 54)).alloc (.cells [Value.slice none 0 0, .slice none 0 0, .slice none 0 0].toArray 54) = A := ⟨_, rfl⟩
  rw [hA] at I0 ⊢
  obtain ⟨B, hB⟩ : ∃ B, W.heap.size = B := ⟨_, rfl⟩
  obtain ⟨C, hC⟩ : ∃ C, B + 1 = C := ⟨_, rfl⟩
  rw [hB, hC] at FN ST CE
  rw [hB, hC]
  clear hA hB hC
  go_loopw [5] (fun i wr => ∃ u : Nat, u ≤ 3 ∧ i = .int .i64 (u : Int) ∧ Hid (AlI W L u wr)) (fun i _ => 3 - (intOf i).toNat)
  case atStart => exact ⟨0, by omega, rfl, I0.out⟩
  case round =>
    obtain ⟨u, hu, rfl, J⟩ := hrel
    clear I0
    by_cases hlt : u < 3
    · have g1 : (u : Int) < 3 := by omega
      have g0 : (0 : Int) ≤ (u : Int) := by omega
      have F1 : Hid _ := FL.out u wr hlt J.out
      go_wp2_with fail
      refine Calls.mono F1.out ?_
      rintro e w3 ⟨y, rfl, ho, hb⟩
      obtain ⟨ya, yc, ey, -, -⟩ := owns_sl rfl ho
      subst ey
      obtain ⟨⟨v, cv⟩, fv⟩ := CE.out u wr w3 hlt J.out hb
      have S1 : Hid _ := ST.out u wr w3 _ hlt J.out hb ho
      clear F1 ho hb J FN ST CE FL
      go_wp2
      go_roundw
      case rel => exact ⟨u + 1, by omega, by go_num, S1.out⟩
      case measure => simp [intOf]; omega
    · obtain rfl : u = 3 := by omega
      obtain ⟨v0, v1, v2, L1, S1, R1⟩ := FN.out wr J.out
      have L2 : Hid _ := L1
      have S2 : Hid _ := S1
      clear L1 S1 FN ST CE FL J
      go_upto_region 7 with fail
      refine wp_region_lit ?_
      refine wpList_plain rfl (fun K2 hK2 => wp_load_run _ _ rfl _ rfl _ L2.out (hK2 _ _ ?_))
      refine wpList_plain rfl (fun K2 hK2 => wp_store_run _ _ _ rfl _ rfl _ rfl _ S2.out (hK2 _ _ ?_))
      refine wpList_nil ?_
      obtain ⟨W5, hW5⟩ : ∃ X, wr.setCells B 0 [v0, v1, v2] = X := ⟨_, rfl⟩
      rw [hW5] at R1 ⊢
      clear S2 L2 hW5
      go_wp2
      refine bodyPost_ret (v := .agg #[v0, v1, v2]) ?_ rfl ?_
      · exact res_c1 Tryz.results20 _ _ B _ (by kernel_rfl) R1.out.1
      · exact R1.out.2
end Go.Proofs.YtjpaodepnacimaaGreatDoor
namespace Go.Proofs.YtjpaodepnacimaaGreatDoor
open Go.RowKit Go.Proofs.Fd Go.Proofs.Dk Go.Proofs.Lg Go.Proofs.Bx
set_option maxRecDepth 20000
set_option maxHeartbeats 1000000 in
theorem xsameSlots_yes (a : Option Addr) (n c : Nat) (b : Option Addr) (c' : Nat) (ss : List Sl) (hn : Hid (ss.length = n)) (hm : n ≤ 9223372036854775807) (w : World) (h1 : Hid (SlAt w a ss)) (h2 : Hid (SlAt w b ss)) :
    Calls Tryz.prog 28 #[.slice a n c, .slice b n c'] w fun e w' => e = .returned (.bool true) ∧ Below w.heap.size w w' := by
  go_enter Tryz.func28, Tryz.ntmps28
  go_wp2
  go_loopw [5] (fun i wr => ∃ k : Nat, k ≤ n ∧ i = .int .i64 (k : Int) ∧ Hid (Below w.heap.size w wr)) (fun i _ => n - (intOf i).toNat)
  case atStart => exact ⟨0, Nat.zero_le _, rfl, Below.refl _ _⟩
  case round =>
    obtain ⟨k, hk, rfl, I⟩ := hrel
    by_cases hlt : k < n
    · have g1 : (k : Int) < (n : Int) := by omega
      have hk' : k < ss.length := by rw [hn.out]; exact hlt
      obtain ⟨b1, o1, rfl, x1, y1⟩ := h1.out.later I.out k hk'
      obtain ⟨b2, o2, rfl, x2, y2⟩ := h2.out.later I.out k hk'
      unfold sv at x1 y1 x2 y2
      obtain ⟨id, hid⟩ : ∃ X, st ss[k].1 = X := ⟨_, rfl⟩
      obtain ⟨tx, htx⟩ : ∃ X, st ss[k].2 = X := ⟨_, rfl⟩
      rw [hid] at x1 x2
      rw [htx] at y1 y2
      clear hid htx
      have YY : (id.toList == id.toList) = true := by simp
      have ZZ : (tx.toList == tx.toList) = true := by simp
      have gk : k < n := hlt
      go_wp2_with fail
      go_quiet (fail)
      have I2 : Hid (Below w.heap.size w (wr.drewN nq)) := below_drewN I.out _
      clear x1 x2 y1 y2 I
      go_wp2
      go_roundw
      case rel => exact ⟨k + 1, by omega, by go_num, I2.out⟩
      case measure => simp [intOf]; omega
    · obtain rfl : k = n := by omega
      go_wp2
      go_ret
      exact ⟨rfl, I.out⟩
theorem xsame_yes {w : World} {C D : Nat} {v0 v1 v2 u0 u1 u2 : Value} {l0 l1 l2 : List Sl} (h0 : Ok3 C w v0 l0) (h1 : Ok3 C w v1 l1) (h2 : Ok3 C w v2 l2) (k0 : Ok3 D w u0 l0) (k1 : Ok3 D w u1 l1) (k2 : Ok3 D w u2 l2) :
    Calls Tryz.prog 19 #[.agg #[v0, v1, v2], .agg #[u0, u1, u2]] w fun e w' => e = .returned (.bool true) ∧ Below w.heap.size w w' := by
  obtain ⟨a0, c0, rfl, s0, -⟩ := h0
  obtain ⟨a1, c1, rfl, s1, -⟩ := h1
  obtain ⟨a2, c2, rfl, s2, -⟩ := h2
  obtain ⟨b0, d0, rfl, t0, -⟩ := k0
  obtain ⟨b1, d1, rfl, t1, -⟩ := k1
  obtain ⟨b2, d2, rfl, t2, -⟩ := k2
  exact xsame_core _ _ _ _ _ _ _ _ _ _ _ _ _ _ _ _ _ _ w
    (fun V hb => xsameSlots_yes _ _ _ _ _ l0 rfl (Nat.le_trans s0.le s0.cm) V (s0.at_.later hb) (t0.at_.later hb))
    (fun V hb => xsameSlots_yes _ _ _ _ _ l1 rfl (Nat.le_trans s1.le s1.cm) V (s1.at_.later hb) (t1.at_.later hb))
    (fun V hb => xsameSlots_yes _ _ _ _ _ l2 rfl (Nat.le_trans s2.le s2.cm) V (s2.at_.later hb) (t2.at_.later hb))
end Go.Proofs.YtjpaodepnacimaaGreatDoor
