/- A message's mark. -/
import Derived.Test.YtdepjiocmbbdpaaDoorPtB
import Derived.Test.YtdepjiocmbbdpaaDoorK9
namespace Go.Proofs.YtdepjiocmbbdpaaDoor
open Go.RowKit Go.Proofs.Fd Go.Proofs.Pt
set_option maxRecDepth 20000

theorem short6 (i b : Bs) (hi : i.length = 8) (hb : b.length ≤ 140737488355328) (B : Nat) (w : World) (hk : Kh w) (h0 : w.cell? ⟨B, 0, none⟩ = some (.string (st i))) (h1 : w.cell? ⟨B, 1, none⟩ = some (.string (st b))) :
    Calls Tryd.prog 34 #[.int .i64 6, .slice (some ⟨B, 0, none⟩) 2 2] w fun e w' => e = .returned (.tuple #[.string (st (dg6 i b)), .int .i64 0]) ∧ Below w.heap.size w w' := by
  have := Short_ok 6 (by decide) (by decide) (some ⟨B, 0, none⟩) [st i, st b] 2 2 rfl (by decide) w hk (strAt2 h0 h1) (by intro s hs; simp at hs; rcases hs with rfl | rfl <;> rw [st_size] <;> omega)
  have e : (shs [st i, st b]).extract 0 6 = st (dg6 i b) := by
    apply ByteArray.ext
    apply Array.ext'
    simp [shs, dg6, ByteArray.data_extract]
  rw [e] at this
  exact this
def opmk0 : Oper := { dst := some 8, op := Go.Op.load 57 (Go.Operand.tmp 2), type := 57, pos := "part.go:48", after := #[], guard := none }
def opmk1 : Oper := { dst := some 9, op := Go.Op.move (Go.Operand.tmp 1), type := 9, pos := "part.go:48", after := #[], guard := none }
def opmk2 : Oper := { dst := some 10, op := Go.Op.call { callee := Go.Callee.builtin Go.Builtin.len, args := #[Go.Operand.tmp 9], argTypes := #[9] }, type := 3, pos := "part.go:48", after := #[{ on := 1, ground := Go.Ground.data }], guard := none }
def opmk3 : Oper := { dst := some 11, op := Go.Op.call { callee := Go.Callee.value (Go.Operand.func 33), args := #[Go.Operand.tmp 10], argTypes := #[3] }, type := 3, pos := "part.go:48", after := #[{ on := 2, ground := Go.Ground.data }], guard := none }
def opmk4 : Oper := { dst := some 12, op := Go.Op.build 60 #[(0, Go.Operand.tmp 8), (1, Go.Operand.tmp 11)], type := 60, pos := "part.go:48", after := #[{ on := 0, ground := Go.Ground.data }, { on := 3, ground := Go.Ground.data }], guard := none }
def opmk5 : Oper := { dst := some 5, op := Go.Op.alloc 60, type := 0, pos := "part.go:48", after := #[], guard := none }
def opmk6 : Oper := { dst := none, op := Go.Op.store 60 (Go.Operand.tmp 5) (Go.Operand.tmp 12), type := 0, pos := "part.go:48", after := #[{ on := 5, ground := Go.Ground.data }, { on := 4, ground := Go.Ground.data }, { on := 3, ground := Go.Ground.chain }, { on := 0, ground := Go.Ground.phase }, { on := 1, ground := Go.Ground.phase }, { on := 2, ground := Go.Ground.phase }, { on := 3, ground := Go.Ground.phase }, { on := 4, ground := Go.Ground.phase }, { on := 5, ground := Go.Ground.phase }], guard := none }
/-- What markOf has laid. -/
structure Mo (w : World) (i : Bs) (m : Mk) (W : World) : Prop where
  a : Blk W w.heap.size (bc i)
  b : Blk W (w.heap.size + 1) (mkc m0)
  c : Blk W (w.heap.size + 2) (mkc m)
  d : Below w.heap.size w W
theorem Mo.later {w : World} {i : Bs} {m : Mk} {W W' : World} (h : Mo w i m W) (hb : Below W.heap.size W W') : Mo w i m W' := ⟨h.a.later hb, h.b.later hb, h.c.later hb, chain h.d hb⟩
theorem Kh.below {B : Nat} {w w' : World} (h : Kh w) (hb : Below B w w') (hB : w.heap.size ≤ B) : Kh w' := h.later (hb.mono hB)
set_option maxHeartbeats 4000000 in
theorem markOf_any (i b : Bs) (hi : i.length = 8) (hb : b.length ≤ 140737488355328) (w : World) (hk : Hid (Kh w)) :
    Calls Tryd.prog 19 #[.agg (bc i).toArray, .string (st b)] w fun e w' => e = .returned (.agg (mkc (mkOf i b)).toArray) ∧ Below w.heap.size w w' := by
  have NT : Hid (∀ w, Calls Tryd.prog 35 #[.agg (bc i).toArray] w fun e w' => e = .returned (.string (st i)) ∧ Below w.heap.size w w') := fun w => nameText_any i hi w
  have SH : Hid (∀ B w, Kh w → w.cell? ⟨B, 0, none⟩ = some (.string (st i)) → w.cell? ⟨B, 1, none⟩ = some (.string (st b)) → _) := fun B w => short6 i b hi hb B w
  have CO : Hid (∀ w, Calls Tryd.prog 33 #[.int .i64 ((st b).size : Int)] w fun e w' => e = .returned (.int .i64 (cnt b.length : Int)) ∧ w' = w) := fun w => by rw [st_size]; exact countOf_any _ hb w
  have dl := dg6_len i b
  unfold mkOf
  generalize cnt b.length = N at *
  generalize dg6 i b = D at *
  have sD := st_size D
  rw [dl] at sD
  have ln : Hid ((bc i).length = 8) := by show _ = _; rw [bc_len, hi]
  have B8 : Hid (∀ w, (Instr.build 60 #[(0, .agg (bc i).toArray), (1, .int .i64 (N : Int))]).run Tryd.prog w = .ok (.agg (mkc (i, N, zb 6)).toArray) w) := fun w => build_mark i hi N w
  obtain ⟨W0, hW0⟩ : ∃ W, w.alloc (.cells (bc i).toArray 57) = W := ⟨_, rfl⟩
  have y0 : Blk W0 w.heap.size (bc i) := hW0 ▸ Blk.new w (bc i) _ (bc_ne hi)
  have s0 : W0.heap.size = w.heap.size + 1 := by rw [← hW0]; simp
  have b0 : Below w.heap.size w W0 := hW0 ▸ (Below.refl _ w).alloc (Nat.le_refl _) _
  obtain ⟨W1, hW1⟩ : ∃ W, W0.alloc (.cells (mkc m0).toArray 60) = W := ⟨_, rfl⟩
  have AL0 : Hid ((Instr.alloc 60 true (.tuple #[])).run Tryd.prog W0 = .ok (.pointer (some ⟨w.heap.size + 1, 0, none⟩)) W1) := by
    have := allocMark W0; rw [s0, hW1] at this; exact this
  have n1 : Below W0.heap.size W0 W1 := hW1 ▸ (Below.refl _ W0).alloc (Nat.le_refl _) _
  have z1 : Blk W1 (w.heap.size + 1) (mkc m0) := by
    have := Blk.new W0 (mkc m0) 60 (mkc_ne _); rw [s0, hW1] at this; exact this
  have s1 : W1.heap.size = w.heap.size + 2 := by rw [← hW1]; simp [s0]
  obtain ⟨W2, hW2⟩ : ∃ W, W1.drew.alloc (.cells (mkc m0).toArray 60) = W := ⟨_, rfl⟩
  have AL1 : Hid ((Instr.alloc 60 true (.tuple #[])).run Tryd.prog W1.drew = .ok (.pointer (some ⟨w.heap.size + 2, 0, none⟩)) W2) := by
    have := allocMark W1.drew; rw [drew_size, s1, hW2] at this; exact this
  have n2 : Below W1.heap.size W1 W2 := hW2 ▸ (Below.refl _ W1).drew.alloc (Nat.le_refl _) _
  have z2 : Blk W2 (w.heap.size + 2) (mkc m0) := by
    have := Blk.new W1.drew (mkc m0) 60 (mkc_ne _); rw [drew_size, s1, hW2] at this; exact this
  obtain ⟨W3, hW3⟩ : ∃ W, W2.setCells (w.heap.size + 2) 0 (mkc (i, N, zb 6)) = W := ⟨_, rfl⟩
  have ST1 : Hid ((Instr.storeAt 60 (.pointer (some ⟨w.heap.size + 2, 0, none⟩)) (.agg (mkc (i, N, zb 6)).toArray)).run Tryd.prog W2 = .ok () W3) := by
    have := store_row 60 sizeMark z2.there (vs := mkc (i, N, zb 6)) (mkc_len ⟨hi, rfl⟩) (mkc_one _); rw [hW3] at this; exact this
  have bf : Bf (fun g => g = w.heap.size + 2) W2 W3 := hW3 ▸ Bf.put1 _ _ _ _
  have M3 : Hid (Mo w i (i, N, zb 6) W3) := ⟨((y0.later n1).later n2).bf bf (by omega), (z1.later n2).bf bf (by omega), hW3 ▸ z2.put _ (by rw [mkc_len ⟨hi, rfl⟩, mkc_len m0_ok]), (chain (chain b0 n1) n2).trans (bf.below (fun g e => by omega) (by have := z2.lt; omega))⟩
  have L1 : Hid (∀ W, W.heap[w.heap.size]? = W1.heap[w.heap.size]? → (Instr.loadAt 57 (.pointer (some ⟨w.heap.size, 0, none⟩))).run Tryd.prog W = .ok (.agg (bc i).toArray) W) := fun W e => load_name (rangeAt_same (y0.later n1).r e) ln.out
  have h20 : Hid (W2.heap[w.heap.size]? = W1.heap[w.heap.size]?) := n2.block _ (by rw [s1]; omega)
  have h30 : Hid (W3.heap[w.heap.size]? = W1.heap[w.heap.size]?) := (bf.block _ (by have := z2.lt; omega) (by omega)).trans h20.out
  clear y0 b0 n1 z1 n2 z2 bf s0 hb
  go_enter Tryd.func19, Tryd.ntmps19
  go_upto_region 0 with fail
  refine wp_region_lit ?_
  refine wpList_plain rfl (fun K2 hK2 => ?_)
  go_simp
  refine hK2 _ _ ?_
  clear hK2 K2
  refine wpList_plain rfl (fun K2 hK2 => wp_alloc_run _ rfl _ _ (AL0.out) (hK2 _ _ ?_))
  try simp only [Act.put, List.setIfInBounds_toArray, List.set_cons_zero, List.set_cons_succ]
  refine wpList_nil ?_
  try simp only [Act.put, List.setIfInBounds_toArray, List.set_cons_zero, List.set_cons_succ]
  clear hW0 hW1
  go_upto_region 1 with fail
  refine (fun (KEY : (?KK1 : Prop)) => ?main1) ?key1
  case main1 =>
    refine wp_region_noPanic ?_
    refine wp_region_held_drew (S := fun w' => w'.heap[w.heap.size]? = W1.heap[w.heap.size]?) (by kernel_rfl) (rfl) (fun hHeld => ?_)
    refine wpAnyH_take (i := 0) (oi := opmk0) (v := ?_) rfl (by kernel_rfl) (by kernel_rfl) (by kernel_rfl) (fun _ _ _ h => h) (Or.inl ⟨by rfl, ?_⟩) (by assumption) ?_
    rotate_left
    · intro w' hSw
      exact exec_load (L1.out w' hSw) opmk0 _ rfl (by first | rfl | kernel_rfl)
    simp only [opmk0, Act.put, List.setIfInBounds_toArray, List.set_cons_zero, List.set_cons_succ]
    refine wpAnyH_take (i := 1) (oi := opmk1) (v := ?_) rfl (by kernel_rfl) (by kernel_rfl) (by kernel_rfl) (fun _ _ _ h => h) (Or.inl ⟨by rfl, ?_⟩) (by assumption) ?_
    rotate_left
    · intro w' hSw
      clear hSw
      unfold opmk1
      first
      | (go_simp; done)
      | (go_simp; with_reducible rfl)
    simp only [opmk1, Act.put, List.setIfInBounds_toArray, List.set_cons_zero, List.set_cons_succ]
    refine wpAnyH_take (i := 2) (oi := opmk2) (v := ?_) rfl (by kernel_rfl) (by kernel_rfl) (by kernel_rfl) (fun _ _ _ h => h) (Or.inl ⟨by rfl, ?_⟩) (by assumption) ?_
    rotate_left
    · intro w' hSw
      clear hSw
      unfold opmk2
      first
      | (go_simp; done)
      | (go_simp; with_reducible rfl)
    simp only [opmk2, Act.put, List.setIfInBounds_toArray, List.set_cons_zero, List.set_cons_succ]
    refine wpAnyH_ready (rs := [3, 5]) (by kernel_rfl) (by simp) ?_
    refine AllReadyH.cons (o := opmk3) rfl (fun KK hKK => ?_) (AllReadyH.cons (o := opmk5) rfl (fun KK hKK => ?_) AllReadyH.nil)
    · unfold opmk3
      go_simp
      refine Calls.mono (CO.out _) ?_
      rintro e wk ⟨rfl, rfl⟩
      refine hKK.out _ _ (hHeld) (fun hHeld => ?_)
      clear hKK KK
      try simp only [opmk3, Act.put, List.setIfInBounds_toArray, List.set_cons_zero, List.set_cons_succ]
      refine wpAnyH_take (i := 4) (oi := opmk4) (v := ?_) rfl (by kernel_rfl) (by kernel_rfl) (by kernel_rfl) (fun _ _ _ h => h) (Or.inl ⟨by rfl, ?_⟩) (by assumption) ?_
      rotate_left
      · intro w' hSw
        exact exec_build (B8.out w') opmk4 _ rfl (by first | rfl | kernel_rfl)
      simp only [opmk4, Act.put, List.setIfInBounds_toArray, List.set_cons_zero, List.set_cons_succ]
      refine wpAnyH_ready (rs := [5]) (by kernel_rfl) (by simp) ?_
      refine AllReadyH.cons (o := opmk5) rfl (fun KK hKK => ?_) AllReadyH.nil
      rw [if_pos (by kernel_rfl)]
      refine wp_alloc_run _ rfl _ _ (AL1.out) ?_
      refine hKK.out _ _ (h20.out) (fun hHeld => ?_)
      clear hKK KK
      try simp only [opmk5, Act.put, List.setIfInBounds_toArray, List.set_cons_zero, List.set_cons_succ]
      refine wpAnyH_ready (rs := [6]) (by kernel_rfl) (by simp) ?_
      refine AllReadyH.cons (o := opmk6) rfl (fun KK hKK => ?_) AllReadyH.nil
      rw [if_pos (by kernel_rfl)]
      refine wp_store_run _ _ _ rfl _ rfl _ rfl _ (ST1.out) ?_
      refine hKK.out _ _ (h30.out) (fun hHeld => ?_)
      clear hKK KK
      try simp only [opmk6, Act.put]
      refine wpAnyH_done (by kernel_rfl) ?_ _
      refine NoPanic.normal ?_
      exact KEY
    · rw [if_pos (by kernel_rfl)]
      refine wp_alloc_run _ rfl _ _ (AL1.out) ?_
      refine hKK.out _ _ (h20.out) (fun hHeld => ?_)
      clear hKK KK
      try simp only [opmk5, Act.put, List.setIfInBounds_toArray, List.set_cons_zero, List.set_cons_succ]
      refine wpAnyH_ready (rs := [3]) (by kernel_rfl) (by simp) ?_
      refine AllReadyH.cons (o := opmk3) rfl (fun KK hKK => ?_) AllReadyH.nil
      unfold opmk3
      go_simp
      refine Calls.mono (CO.out _) ?_
      rintro e wk ⟨rfl, rfl⟩
      refine hKK.out _ _ (hHeld) (fun hHeld => ?_)
      clear hKK KK
      try simp only [opmk3, Act.put, List.setIfInBounds_toArray, List.set_cons_zero, List.set_cons_succ]
      refine wpAnyH_take (i := 4) (oi := opmk4) (v := ?_) rfl (by kernel_rfl) (by kernel_rfl) (by kernel_rfl) (fun _ _ _ h => h) (Or.inl ⟨by rfl, ?_⟩) (by assumption) ?_
      rotate_left
      · intro w' hSw
        exact exec_build (B8.out w') opmk4 _ rfl (by first | rfl | kernel_rfl)
      simp only [opmk4, Act.put, List.setIfInBounds_toArray, List.set_cons_zero, List.set_cons_succ]
      refine wpAnyH_ready (rs := [6]) (by kernel_rfl) (by simp) ?_
      refine AllReadyH.cons (o := opmk6) rfl (fun KK hKK => ?_) AllReadyH.nil
      rw [if_pos (by kernel_rfl)]
      refine wp_store_run _ _ _ rfl _ rfl _ rfl _ (ST1.out) ?_
      refine hKK.out _ _ (h30.out) (fun hHeld => ?_)
      clear hKK KK
      try simp only [opmk6, Act.put]
      refine wpAnyH_done (by kernel_rfl) ?_ _
      refine NoPanic.normal ?_
      exact KEY
  clear AL0 AL1 ST1 L1 h20 h30 hW2 hW3 CO B8
  have L3 : Hid ((Instr.loadAt 57 (.pointer (some ⟨w.heap.size, 0, none⟩))).run Tryd.prog W3 = .ok (.agg (bc i).toArray) W3) := load_name M3.out.a.r ln.out
  go_upto_region 2 with fail
  refine wp_region_lit ?_
  refine wpList_plain rfl (fun K2 hK2 => wp_load_run _ _ rfl _ rfl _ (L3.out) (hK2 _ _ ?_))
  try simp only [Act.put, List.setIfInBounds_toArray, List.set_cons_zero, List.set_cons_succ]
  refine wpList_plain rfl (fun K2 hK2 => ?_)
  go_simp
  refine Calls.mono (NT.out _) ?_
  rintro e w4 ⟨rfl, hb4⟩
  have M4 : Hid (Mo w i (i, N, zb 6) w4) := M3.out.later hb4
  obtain ⟨W5, hW5⟩ : ∃ W, w4.alloc (.cells #[.string (st i), .string (st b)] 9) = W := ⟨_, rfl⟩
  have M5 : Hid (Mo w i (i, N, zb 6) W5 ∧ W5.cell? ⟨w4.heap.size, 0, none⟩ = some (.string (st i)) ∧ W5.cell? ⟨w4.heap.size, 1, none⟩ = some (.string (st b))) := ⟨M4.out.later (hW5 ▸ (Below.refl _ _).alloc (Nat.le_refl _) _), by rw [← hW5]; simp [go_sem], by rw [← hW5]; simp [go_sem]⟩
  clear hb4
  refine hK2 _ _ ?_
  clear hK2 K2
  try simp only [Act.put, List.setIfInBounds_toArray, List.set_cons_zero, List.set_cons_succ]
  refine wpList_plain rfl (fun K2 hK2 => ?_)
  go_simp
  refine hK2 _ _ ?_
  clear hK2 K2
  refine wpList_plain rfl (fun K2 hK2 => ?_)
  go_simp
  refine hK2 _ _ ?_
  clear hK2 K2
  refine wpList_plain rfl (fun K2 hK2 => ?_)
  go_simp
  refine Calls.mono (SH.out _ _ (hk.out.below M5.out.1.d (Nat.le_refl _)) M5.out.2.1 M5.out.2.2) ?_
  rintro e w6 ⟨rfl, hb6⟩
  have M6 : Hid (Mo w i (i, N, zb 6) w6) := M5.out.1.later hb6
  clear hb6 hW5 M5 M4 M3 L3
  refine hK2 _ _ ?_
  clear hK2 K2
  try simp only [Act.put, List.setIfInBounds_toArray, List.set_cons_zero, List.set_cons_succ]
  refine wpList_plain rfl (fun K2 hK2 => ?_)
  go_simp
  refine hK2 _ _ ?_
  clear hK2 K2
  refine wpList_plain rfl (fun K2 hK2 => ?_)
  go_simp
  refine hK2 _ _ ?_
  clear hK2 K2
  refine wpList_plain rfl (fun K2 hK2 => ?_)
  go_simp
  refine hK2 _ _ ?_
  clear hK2 K2
  refine wpList_plain rfl (fun K2 hK2 => ?_)
  go_simp
  refine hK2 _ _ ?_
  clear hK2 K2
  refine wpList_plain rfl (fun K2 hK2 => ?_)
  go_simp
  refine hK2 _ _ ?_
  clear hK2 K2
  refine wpList_nil ?_
  try simp only [Act.put, List.setIfInBounds_toArray, List.set_cons_zero, List.set_cons_succ]
  obtain ⟨W7, hW7⟩ : ∃ W, w6.setCells (w.heap.size + 2) 9 (bc D) = W := ⟨_, rfl⟩
  have C0 : (Builtin.copy_ #[54, 9] 3 #[.slice (some ⟨w.heap.size + 2, 9, none⟩) 6 6, .string (st D)]).run Tryd.prog w6 = .ok (.int .i64 ((6 : Nat) : Int)) W7 := by
    have := copy_str w6 (w.heap.size + 2) 9 6 6 (st D) 6 (by rw [sD]; rfl) (there_digest M6.out.c ⟨hi, rfl⟩)
    rw [List.take_of_length_le (by simp [dl]), hW7] at this
    exact this
  have bf7 : Bf (fun g => g = w.heap.size + 2) w6 W7 := hW7 ▸ Bf.put1 _ _ _ _
  have M7 : Mo w i (i, N, D) W7 := ⟨M6.out.a.bf bf7 (by omega), M6.out.b.bf bf7 (by omega), hW7 ▸ M6.out.c.digest hi dl rfl, M6.out.d.trans (bf7.below (fun g e => by omega) (by have := M6.out.c.lt; omega))⟩
  obtain ⟨W8, hW8⟩ : ∃ W, W7.setCells (w.heap.size + 1) 0 (mkc (i, N, D)) = W := ⟨_, rfl⟩
  have L7 : Hid ((Instr.loadAt 60 (.pointer (some ⟨w.heap.size + 2, 0, none⟩))).run Tryd.prog W7 = .ok (.agg (mkc (i, N, D)).toArray) W7) := load_mark M7.c.r (mkc_len ⟨hi, dl⟩)
  have S7 : Hid ((Instr.storeAt 60 (.pointer (some ⟨w.heap.size + 1, 0, none⟩)) (.agg (mkc (i, N, D)).toArray)).run Tryd.prog W7 = .ok () W8) := by
    have := store_row 60 sizeMark M7.b.there (vs := mkc (i, N, D)) (mkc_len ⟨hi, dl⟩) (mkc_one _); rw [hW8] at this; exact this
  have F8 : Hid (Blk W8 (w.heap.size + 1) (mkc (i, N, D)) ∧ Below w.heap.size w W8) := ⟨hW8 ▸ M7.b.put _ (by rw [mkc_len ⟨hi, dl⟩, mkc_len m0_ok]), hW8 ▸ below_sets (by omega) _ _ M7.d⟩
  have lm : Hid ((mkc (i, N, D)).length = 15) := mkc_len ⟨hi, dl⟩
  clear bf7 M7 M6 hW7 hW8 dl sD
  go_upto_region 3 with fail
  refine wp_region_lit ?_
  refine wpList_plain rfl (fun K2 hK2 => ?_)
  go_simp
  refine hK2 _ _ ?_
  clear hK2 K2
  refine wpList_plain rfl (fun K2 hK2 => ?_)
  go_simp
  refine hK2 _ _ ?_
  clear hK2 K2
  refine wpList_plain rfl (fun K2 hK2 => ?_)
  go_simp
  refine hK2 _ _ ?_
  clear hK2 K2
  refine wpList_plain rfl (fun K2 hK2 => ?_)
  go_simp
  refine hK2 _ _ ?_
  clear hK2 K2
  refine wpList_nil ?_
  try simp only [Act.put, List.setIfInBounds_toArray, List.set_cons_zero, List.set_cons_succ]
  clear C0
  go_upto_region 4 with fail
  refine wp_region_lit ?_
  refine wpList_plain rfl (fun K2 hK2 => wp_load_run _ _ rfl _ rfl _ (L7.out) (hK2 _ _ ?_))
  try simp only [Act.put, List.setIfInBounds_toArray, List.set_cons_zero, List.set_cons_succ]
  refine wpList_plain rfl (fun K2 hK2 => wp_store_run _ _ _ rfl _ rfl _ rfl _ (S7.out) (hK2 _ _ ?_))
  try simp only [Act.put]
  refine wpList_nil ?_
  try simp only [Act.put, List.setIfInBounds_toArray, List.set_cons_zero, List.set_cons_succ]
  go_wp2
  refine bodyPost_ret (v := .agg (mkc (i, N, D)).toArray) ?_ rfl ⟨rfl, F8.out.2⟩
  exact res_c1 Tryd.results19 _ _ (w.heap.size + 1) _ (by kernel_rfl) (run_loadVar_mid _ (w.heap.size + 1) 0 60 (mkc (i, N, D)) _ F8.out.1.r Tryd.underlying60 rfl (by rw [lm.out]; exact sizeMark))
end Go.Proofs.YtdepjiocmbbdpaaDoor
