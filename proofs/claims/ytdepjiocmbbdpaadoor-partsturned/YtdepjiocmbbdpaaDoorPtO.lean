/- The two queues of a joiner. -/
import Derived.Test.YtdepjiocmbbdpaaDoorPtL
import Derived.Maps.AppendAt
namespace Go.Proofs.YtdepjiocmbbdpaaDoor
open Go.RowKit Go.Proofs.Fd Go.Proofs.Pt
set_option maxRecDepth 20000

def opix0 : Oper := { dst := some 11, op := Go.Op.load 57 (Go.Operand.tmp 3), type := 57, pos := "slices.go:98", after := #[], guard := none }
def opix1 : Oper := { dst := some 12, op := Go.Op.move (Go.Operand.tmp 0), type := 71, pos := "slices.go:98", after := #[], guard := none }
def opix2 : Oper := { dst := some 13, op := Go.Op.move (Go.Operand.tmp 5), type := 3, pos := "slices.go:98", after := #[], guard := none }
def opix3 : Oper := { dst := some 14, op := Go.Op.indexAddr 71 (Go.Operand.tmp 12) (Go.Operand.tmp 13), type := 0, pos := "slices.go:98", after := #[{ on := 1, ground := Go.Ground.data }, { on := 2, ground := Go.Ground.data }], guard := none }
def opix4 : Oper := { dst := some 15, op := Go.Op.load 57 (Go.Operand.tmp 14), type := 57, pos := "slices.go:98", after := #[{ on := 3, ground := Go.Ground.data }], guard := none }
def opix5 : Oper := { dst := some 16, op := Go.Op.binOp Go.BinOp.eql 57 (Go.Operand.tmp 11) (Go.Operand.tmp 15) 57, type := 4, pos := "slices.go:98", after := #[{ on := 0, ground := Go.Ground.data }, { on := 4, ground := Go.Ground.data }], guard := none }
def ophs0 : Oper := { dst := some 5, op := Go.Op.move (Go.Operand.tmp 0), type := 100, pos := "queue.go:22", after := #[], guard := none }
def ophs1 : Oper := { dst := some 6, op := Go.Op.nilCheck (Go.Operand.tmp 5), type := 0, pos := "queue.go:22", after := #[{ on := 0, ground := Go.Ground.data }], guard := none }
def ophs2 : Oper := { dst := some 7, op := Go.Op.fieldAddr 73 (Go.Operand.tmp 6) 1, type := 0, pos := "queue.go:22", after := #[{ on := 1, ground := Go.Ground.data }], guard := none }
def ophs3 : Oper := { dst := some 8, op := Go.Op.load 71 (Go.Operand.tmp 7), type := 71, pos := "queue.go:22", after := #[{ on := 2, ground := Go.Ground.data }], guard := none }
def ophs4 : Oper := { dst := some 9, op := Go.Op.load 57 (Go.Operand.tmp 3), type := 57, pos := "queue.go:22", after := #[], guard := none }
def ophs5 : Oper := { dst := some 10, op := Go.Op.call { callee := Go.Callee.value (Go.Operand.func 38), args := #[Go.Operand.tmp 8, Go.Operand.tmp 9], argTypes := #[71, 57] }, type := 4, pos := "queue.go:22", after := #[{ on := 3, ground := Go.Ground.data }, { on := 4, ground := Go.Ground.data }], guard := none }
def ophs6 : Oper := { dst := some 4, op := Go.Op.assign (Go.Operand.tmp 10), type := 4, pos := "queue.go:22", after := #[{ on := 5, ground := Go.Ground.data }, { on := 5, ground := Go.Ground.chain }, { on := 0, ground := Go.Ground.phase }, { on := 1, ground := Go.Ground.phase }, { on := 2, ground := Go.Ground.phase }, { on := 3, ground := Go.Ground.phase }, { on := 4, ground := Go.Ground.phase }, { on := 5, ground := Go.Ground.phase }], guard := none }
theorem flat_at : ∀ (D : List Bs), (∀ n ∈ D, n.length = 8) → ∀ (k : Nat) (hk : k < D.length) (t : Nat), t < 8 → (D.flatMap bc)[k * 8 + t]? = (bc D[k])[t]?
  | [], _, k, hk, _, _ => absurd hk (Nat.not_lt_zero _)
  | x :: D, h, 0, _, t, ht => by
    rw [List.flatMap_cons, Nat.zero_mul, Nat.zero_add, List.getElem?_append_left (by rw [bc_len, h x (List.mem_cons_self ..)]; exact ht)]; rfl
  | x :: D, h, k + 1, hk, t, ht => by
    have ih := flat_at D (fun n hn => h n (List.mem_cons_of_mem _ hn)) k (by simpa using hk) t ht
    rw [List.flatMap_cons, List.getElem?_append_right (by rw [bc_len, h x (List.mem_cons_self ..)]; omega), bc_len, h x (List.mem_cons_self ..), show (k + 1) * 8 + t - 8 = k * 8 + t by omega]
    exact ih
theorem flat_one (D : List Bs) : ∀ u ∈ D.flatMap bc, u.oneCell' = true := fun u h => by
  obtain ⟨x, -, hx⟩ := List.mem_flatMap.1 h
  exact bc_one x u hx
set_option maxHeartbeats 4000000 in
theorem index_any (v : Value) (D : List Bs) (hD : ∀ n ∈ D, n.length = 8) (i : Bs) (hi : i.length = 8) (lD : D.length ≤ 1024) (w : World) (h : NRow w v D) :
    Calls Tryd.prog 49 #[v, .agg (bc i).toArray] w fun e w' => ∃ r : Int, e = .returned (.int .i64 r) ∧ (0 ≤ r ↔ i ∈ D) ∧ Below w.heap.size w w' := by
  obtain ⟨W0, hW0⟩ : ∃ W, w.alloc (.cells (bc i).toArray 57) = W := ⟨_, rfl⟩
  have y0 : Blk W0 w.heap.size (bc i) := hW0 ▸ Blk.new w (bc i) _ (bc_ne hi)
  have b0 : Below w.heap.size w W0 := hW0 ▸ (Below.refl _ w).alloc (Nat.le_refl _) _
  have I0 : Hid (Blk W0 w.heap.size (bc i) ∧ Below w.heap.size w W0) := ⟨y0, b0⟩
  have ln : Hid ((bc i).length = 8) := by show _ = _; rw [bc_len, hi]
  have HI : Hid (i.length = 8) := hi
  clear y0 b0 hi
  rcases row_shape h with ⟨rfl, hn⟩ | ⟨g, c, rfl, hnc, hcl, hg⟩
  · have e0 : Hid ((0 : Int) ≤ -1 ↔ i ∈ D) := by
      rw [List.length_eq_zero_iff.1 hn]; exact ⟨fun z => by omega, fun z => by cases z⟩
    clear hn h
    go_enter Tryd.func49, Tryd.ntmps49
    go_wp2_with fail
    go_loopw [8] (fun iv wr => iv = .int .i64 0 ∧ wr = W0) (fun _ _ => 0)
    case atStart => exact ⟨rfl, rfl⟩
    case round =>
      obtain ⟨rfl, rfl⟩ := hrel
      go_wp2
      go_ret
      exact ⟨-1, rfl, e0.out, I0.out.2⟩
  · obtain ⟨n, hn⟩ : ∃ n, D.length = n := ⟨_, rfl⟩
    have RA : Hid (∀ k (hk : k < D.length) W, Below w.heap.size w W → W.rangeAt g (k * 8) (bc D[k])) := fun k hk W hb => by
      intro t u hu
      have ht : t < 8 := by have := (List.getElem?_eq_some_iff.1 hu).1; rw [bc_len, hD _ (List.getElem_mem hk)] at this; exact this
      exact cell_later hb (hcl (k * 8 + t) u (by rw [flat_at D hD k hk t ht]; exact hu))
    have HD : Hid (∀ n ∈ D, n.length = 8) := hD
    rw [hn] at hnc lD ⊢
    clear hcl h hD
    go_enter Tryd.func49, Tryd.ntmps49
    go_wp2_with fail
    go_loopw [8] (fun iv wr => ∃ k : Nat, k ≤ n ∧ iv = .int .i64 (k : Int) ∧ Hid ((∀ q (hq : q < k) (hl : q < D.length), D[q] ≠ i) ∧ Blk wr w.heap.size (bc i) ∧ Below w.heap.size w wr)) (fun iv _ => n - (intOf iv).toNat)
    case atStart => exact ⟨0, Nat.zero_le _, rfl, fun q hq => absurd hq (Nat.not_lt_zero _), I0.out.1, I0.out.2⟩
    case round =>
      obtain ⟨k, hk, rfl, I⟩ := hrel
      clear I0
      by_cases hlt : k < n
      · have q1 : (k : Int) < (n : Int) := by omega
        have q0 : (0 : Int) ≤ (k : Int) := by omega
        have hB : k < D.length := by rw [hn]; exact hlt
        have RK := RA.out k hB _ I.out.2.2.drew
        obtain ⟨X, hX⟩ : ∃ x, D[k] = x := ⟨_, rfl⟩
        have X8 : Hid (X.length = 8) := by show _ = _; rw [← hX]; exact HD.out _ (List.getElem_mem hB)
        have lX : Hid ((bc X).length = 8) := by show _ = _; rw [bc_len]; exact X8.out
        have NX : Hid (X ≠ i → ∀ q (hq : q < k + 1) (hl : q < D.length), D[q] ≠ i) := fun z q hq hl => by
          by_cases e : q = k
          · subst e; rw [hX]; exact z
          · exact I.out.1 q (by omega) hl
        have YX : Hid (i = X → (0 ≤ (k : Int) ↔ i ∈ D)) := fun z => ⟨fun _ => by rw [z, ← hX]; exact List.getElem_mem hB, fun _ => by omega⟩
        rw [hX] at RK
        have IM : Hid (wr.drew.rangeAt g (k * 8) (bc X) ∧ Blk wr.drew w.heap.size (bc i)) := ⟨RK, I.out.2.1.drew⟩
        clear RK
        by_cases he : i = X
        · have de : decide (i = X) = true := decide_eq_true he
          have YY : Hid _ := YX.out he
          clear NX YX he
          go_upto_region 4 with fail
          refine wp_region_noPanic ?_
          refine wp_region_held_drew (S := fun w' => w'.rangeAt g (k * 8) (bc X) ∧ Blk w' w.heap.size (bc i)) (by kernel_rfl) (IM.out) (fun hHeld => ?_)
          refine wpAnyH_take (i := 0) (oi := opix0) (v := ?_) rfl (by kernel_rfl) (by kernel_rfl) (by kernel_rfl) (fun _ _ _ h => h) (Or.inl ⟨by rfl, ?_⟩) (by assumption) ?_
          rotate_left
          · intro w' hSw
            exact exec_load (load_name hSw.2.r ln.out) opix0 _ rfl (by first | rfl | kernel_rfl)
          simp only [opix0, Act.put, List.setIfInBounds_toArray, List.set_cons_zero, List.set_cons_succ]
          refine wpAnyH_take (i := 1) (oi := opix1) (v := ?_) rfl (by kernel_rfl) (by kernel_rfl) (by kernel_rfl) (fun _ _ _ h => h) (Or.inl ⟨by rfl, ?_⟩) (by assumption) ?_
          rotate_left
          · intro w' hSw
            clear hSw
            unfold opix1
            first
            | (go_simp; done)
            | (go_simp; with_reducible rfl)
          simp only [opix1, Act.put, List.setIfInBounds_toArray, List.set_cons_zero, List.set_cons_succ]
          refine wpAnyH_take (i := 2) (oi := opix2) (v := ?_) rfl (by kernel_rfl) (by kernel_rfl) (by kernel_rfl) (fun _ _ _ h => h) (Or.inl ⟨by rfl, ?_⟩) (by assumption) ?_
          rotate_left
          · intro w' hSw
            clear hSw
            unfold opix2
            first
            | (go_simp; done)
            | (go_simp; with_reducible rfl)
          simp only [opix2, Act.put, List.setIfInBounds_toArray, List.set_cons_zero, List.set_cons_succ]
          refine wpAnyH_take (i := 3) (oi := opix3) (v := ?_) rfl (by kernel_rfl) (by kernel_rfl) (by kernel_rfl) (fun _ _ _ h => h) (Or.inl ⟨by rfl, ?_⟩) (by assumption) ?_
          rotate_left
          · intro w' hSw
            clear hSw
            unfold opix3
            first
            | (go_simp; done)
            | (go_simp; with_reducible rfl)
          simp only [opix3, Act.put, List.setIfInBounds_toArray, List.set_cons_zero, List.set_cons_succ]
          refine wpAnyH_take (i := 4) (oi := opix4) (v := ?_) rfl (by kernel_rfl) (by kernel_rfl) (by kernel_rfl) (fun _ _ _ h => h) (Or.inl ⟨by rfl, ?_⟩) (by assumption) ?_
          rotate_left
          · intro w' hSw
            exact exec_load (load_name hSw.1 lX.out) opix4 _ rfl (by first | rfl | kernel_rfl)
          simp only [opix4, Act.put, List.setIfInBounds_toArray, List.set_cons_zero, List.set_cons_succ]
          refine wpAnyH_take (i := 5) (oi := opix5) (v := ?_) rfl (by kernel_rfl) (by kernel_rfl) (by kernel_rfl) (fun _ _ _ h => h) (Or.inl ⟨by rfl, ?_⟩) (by assumption) ?_
          rotate_left
          · intro w' hSw
            exact (exec_eq_name HI.out X8.out opix5 _ _ rfl (by first | rfl | kernel_rfl) (by first | rfl | kernel_rfl) w').trans (by rw [de])
          simp only [opix5, Act.put, List.setIfInBounds_toArray, List.set_cons_zero, List.set_cons_succ]
          refine wpAnyH_done (by kernel_rfl) ?_ _
          refine NoPanic.normal ?_
          go_wp2
          go_ret
          exact ⟨k, rfl, YY.out, I.out.2.2.drew⟩
        · have de : decide (i = X) = false := decide_eq_false he
          have N1 : Hid _ := NX.out (fun z => he z.symm)
          clear NX YX he
          go_upto_region 4 with fail
          refine wp_region_noPanic ?_
          refine wp_region_held_drew (S := fun w' => w'.rangeAt g (k * 8) (bc X) ∧ Blk w' w.heap.size (bc i)) (by kernel_rfl) (IM.out) (fun hHeld => ?_)
          refine wpAnyH_take (i := 0) (oi := opix0) (v := ?_) rfl (by kernel_rfl) (by kernel_rfl) (by kernel_rfl) (fun _ _ _ h => h) (Or.inl ⟨by rfl, ?_⟩) (by assumption) ?_
          rotate_left
          · intro w' hSw
            exact exec_load (load_name hSw.2.r ln.out) opix0 _ rfl (by first | rfl | kernel_rfl)
          simp only [opix0, Act.put, List.setIfInBounds_toArray, List.set_cons_zero, List.set_cons_succ]
          refine wpAnyH_take (i := 1) (oi := opix1) (v := ?_) rfl (by kernel_rfl) (by kernel_rfl) (by kernel_rfl) (fun _ _ _ h => h) (Or.inl ⟨by rfl, ?_⟩) (by assumption) ?_
          rotate_left
          · intro w' hSw
            clear hSw
            unfold opix1
            first
            | (go_simp; done)
            | (go_simp; with_reducible rfl)
          simp only [opix1, Act.put, List.setIfInBounds_toArray, List.set_cons_zero, List.set_cons_succ]
          refine wpAnyH_take (i := 2) (oi := opix2) (v := ?_) rfl (by kernel_rfl) (by kernel_rfl) (by kernel_rfl) (fun _ _ _ h => h) (Or.inl ⟨by rfl, ?_⟩) (by assumption) ?_
          rotate_left
          · intro w' hSw
            clear hSw
            unfold opix2
            first
            | (go_simp; done)
            | (go_simp; with_reducible rfl)
          simp only [opix2, Act.put, List.setIfInBounds_toArray, List.set_cons_zero, List.set_cons_succ]
          refine wpAnyH_take (i := 3) (oi := opix3) (v := ?_) rfl (by kernel_rfl) (by kernel_rfl) (by kernel_rfl) (fun _ _ _ h => h) (Or.inl ⟨by rfl, ?_⟩) (by assumption) ?_
          rotate_left
          · intro w' hSw
            clear hSw
            unfold opix3
            first
            | (go_simp; done)
            | (go_simp; with_reducible rfl)
          simp only [opix3, Act.put, List.setIfInBounds_toArray, List.set_cons_zero, List.set_cons_succ]
          refine wpAnyH_take (i := 4) (oi := opix4) (v := ?_) rfl (by kernel_rfl) (by kernel_rfl) (by kernel_rfl) (fun _ _ _ h => h) (Or.inl ⟨by rfl, ?_⟩) (by assumption) ?_
          rotate_left
          · intro w' hSw
            exact exec_load (load_name hSw.1 lX.out) opix4 _ rfl (by first | rfl | kernel_rfl)
          simp only [opix4, Act.put, List.setIfInBounds_toArray, List.set_cons_zero, List.set_cons_succ]
          refine wpAnyH_take (i := 5) (oi := opix5) (v := ?_) rfl (by kernel_rfl) (by kernel_rfl) (by kernel_rfl) (fun _ _ _ h => h) (Or.inl ⟨by rfl, ?_⟩) (by assumption) ?_
          rotate_left
          · intro w' hSw
            exact (exec_eq_name HI.out X8.out opix5 _ _ rfl (by first | rfl | kernel_rfl) (by first | rfl | kernel_rfl) w').trans (by rw [de])
          simp only [opix5, Act.put, List.setIfInBounds_toArray, List.set_cons_zero, List.set_cons_succ]
          refine wpAnyH_done (by kernel_rfl) ?_ _
          refine NoPanic.normal ?_
          go_wp2
          go_roundw
          case rel => exact ⟨k + 1, by omega, by go_num, N1.out, I.out.2.1.drew, I.out.2.2.drew⟩
          case measure => simp [intOf]; omega
      · have q1 : ¬ (k : Int) < (n : Int) := by omega
        obtain rfl : k = n := by omega
        have E0 : Hid ((0 : Int) ≤ -1 ↔ i ∈ D) := ⟨fun z => by omega, fun z => by
          obtain ⟨q, hq, e⟩ := List.mem_iff_getElem.1 z
          exact absurd e (I.out.1 q (by omega) hq)⟩
        go_wp2
        go_ret
        exact ⟨-1, rfl, E0.out, I.out.2.2⟩
theorem contains_any (v : Value) (D : List Bs) (hD : ∀ n ∈ D, n.length = 8) (i : Bs) (hi : i.length = 8) (lD : D.length ≤ 1024) (w : World) (h : NRow w v D) :
    Calls Tryd.prog 38 #[v, .agg (bc i).toArray] w fun e w' => e = .returned (.bool (decide (i ∈ D))) ∧ Below w.heap.size w w' := by
  obtain ⟨W0, hW0⟩ : ∃ W, w.alloc (.cells (bc i).toArray 57) = W := ⟨_, rfl⟩
  have y0 : Blk W0 w.heap.size (bc i) := hW0 ▸ Blk.new w (bc i) _ (bc_ne hi)
  have b0 : Below w.heap.size w W0 := hW0 ▸ (Below.refl _ w).alloc (Nat.le_refl _) _
  have IX : Hid _ := index_any v D hD i hi lD W0 (ownsRow_same h fun g e => b0.block g (h.lt g e).2)
  have L0 : Hid ((Instr.loadAt 57 (.pointer (some ⟨w.heap.size, 0, none⟩))).run Tryd.prog W0 = .ok (.agg (bc i).toArray) W0) := load_name y0.r (by rw [bc_len, hi])
  have B0 : Hid (Below w.heap.size w W0) := b0
  clear y0 b0 h
  go_enter Tryd.func38, Tryd.ntmps38
  go_upto_region 1 with fail
  refine wp_region_lit ?_
  refine wpList_plain rfl (fun K2 hK2 => ?_)
  go_simp
  refine hK2 _ _ ?_
  clear hK2 K2
  refine wpList_plain rfl (fun K2 hK2 => wp_load_run _ _ rfl _ rfl _ (L0.out) (hK2 _ _ ?_))
  try simp only [Act.put, List.setIfInBounds_toArray, List.set_cons_zero, List.set_cons_succ]
  refine wpList_plain rfl (fun K2 hK2 => ?_)
  go_simp
  refine Calls.mono (IX.out) ?_
  rintro e w2 ⟨r, rfl, hr0, hb2⟩
  have hr : Hid (0 ≤ r ↔ i ∈ D) := hr0
  have B2 : Hid (Below w.heap.size w w2) := chain B0.out hb2
  clear hb2 hr0
  refine hK2 _ _ ?_
  clear hK2 K2
  try simp only [Act.put, List.setIfInBounds_toArray, List.set_cons_zero, List.set_cons_succ]
  refine wpList_plain rfl (fun K2 hK2 => ?_)
  go_simp
  refine hK2 _ _ ?_
  clear hK2 K2
  refine wpList_plain rfl (fun K2 hK2 => ?_)
  go_simp
  refine hK2 _ _ ?_
  clear hK2 K2
  refine wpList_nil ?_
  try simp only [Act.put, List.setIfInBounds_toArray, List.set_cons_zero, List.set_cons_succ]
  go_wp2
  go_ret
  refine ⟨?_, B2.out⟩
  show Ending.returned (.bool _) = _
  congr 2
  by_cases hz : 0 ≤ r
  · rw [decide_eq_true hz, decide_eq_true (hr.out.1 hz)]
  · rw [decide_eq_false hz, decide_eq_false (fun z => hz (hr.out.2 z))]
set_option maxHeartbeats 1000000 in
theorem has_any (j : Nat) (J : Jn) (vS vD : Value) (B : List (Nat × Nat)) (i : Bs) (hi : i.length = 8) (w : World) (h : Hid (JAt w j J vS vD B)) :
    Calls Tryd.prog 26 #[.pointer (some ⟨j, 2, none⟩), .agg (bc i).toArray] w fun e w' => e = .returned (.bool (decide (i ∈ J.D))) ∧ Below w.heap.size w w' := by
  obtain ⟨W0, hW0⟩ : ∃ W, w.alloc (.cells (bc i).toArray 57) = W := ⟨_, rfl⟩
  have y0 : Blk W0 w.heap.size (bc i) := hW0 ▸ Blk.new w (bc i) _ (bc_ne hi)
  have b0 : Below w.heap.size w W0 := hW0 ▸ (Below.refl _ w).alloc (Nat.le_refl _) _
  have I0 : Hid (JAt W0.drew j J vS vD B ∧ Blk W0.drew w.heap.size (bc i) ∧ Below w.heap.size w W0.drew) := ⟨h.out.later b0.drew, y0.drew, b0.drew⟩
  have ln : Hid ((bc i).length = 8) := by show _ = _; rw [bc_len, hi]
  have CO : Hid (∀ W, JAt W j J vS vD B → Calls Tryd.prog 38 #[vD, .agg (bc i).toArray] W fun e w' => e = .returned (.bool (decide (i ∈ J.D))) ∧ Below W.heap.size W w') := fun W hW => contains_any vD J.D hW.l8 i hi hW.lD W hW.d
  generalize decide (i ∈ J.D) = R at *
  clear y0 b0 h
  go_enter Tryd.func26, Tryd.ntmps26
  go_upto_region 1 with fail
  refine wp_region_noPanic ?_
  refine wp_region_held_drew (S := fun w' => JAt w' j J vS vD B ∧ Blk w' w.heap.size (bc i)) (by kernel_rfl) (⟨I0.out.1, I0.out.2.1⟩) (fun hHeld => ?_)
  refine wpAnyH_take (i := 0) (oi := ophs0) (v := ?_) rfl (by kernel_rfl) (by kernel_rfl) (by kernel_rfl) (fun _ _ _ h => h) (Or.inl ⟨by rfl, ?_⟩) (by assumption) ?_
  rotate_left
  · intro w' hSw
    clear hSw
    unfold ophs0
    first
    | (go_simp; done)
    | (go_simp; with_reducible rfl)
  simp only [ophs0, Act.put, List.setIfInBounds_toArray, List.set_cons_zero, List.set_cons_succ]
  refine wpAnyH_take (i := 1) (oi := ophs1) (v := ?_) rfl (by kernel_rfl) (by kernel_rfl) (by kernel_rfl) (fun _ _ _ h => h) (Or.inl ⟨by rfl, ?_⟩) (by assumption) ?_
  rotate_left
  · intro w' hSw
    clear hSw
    unfold ophs1
    first
    | (go_simp; done)
    | (go_simp; with_reducible rfl)
  simp only [ophs1, Act.put, List.setIfInBounds_toArray, List.set_cons_zero, List.set_cons_succ]
  refine wpAnyH_take (i := 2) (oi := ophs2) (v := ?_) rfl (by kernel_rfl) (by kernel_rfl) (by kernel_rfl) (fun _ _ _ h => h) (Or.inl ⟨by rfl, ?_⟩) (by assumption) ?_
  rotate_left
  · intro w' hSw
    clear hSw
    unfold ophs2
    first
    | (go_simp; done)
    | (go_simp; with_reducible rfl)
  simp only [ophs2, Act.put, List.setIfInBounds_toArray, List.set_cons_zero, List.set_cons_succ]
  refine wpAnyH_take (i := 3) (oi := ophs3) (v := ?_) rfl (by kernel_rfl) (by kernel_rfl) (by kernel_rfl) (fun _ _ _ h => h) (Or.inl ⟨by rfl, ?_⟩) (by assumption) ?_
  rotate_left
  · intro w' hSw
    have hsw := hSw.1.blk.c 3 _ rfl
    unfold ophs3
    first
    | (go_simp; done)
    | (go_simp; with_reducible rfl)
  simp only [ophs3, Act.put, List.setIfInBounds_toArray, List.set_cons_zero, List.set_cons_succ]
  refine wpAnyH_take (i := 4) (oi := ophs4) (v := ?_) rfl (by kernel_rfl) (by kernel_rfl) (by kernel_rfl) (fun _ _ _ h => h) (Or.inl ⟨by rfl, ?_⟩) (by assumption) ?_
  rotate_left
  · intro w' hSw
    exact exec_load (load_name hSw.2.r ln.out) ophs4 _ rfl (by first | rfl | kernel_rfl)
  simp only [ophs4, Act.put, List.setIfInBounds_toArray, List.set_cons_zero, List.set_cons_succ]
  refine wpAnyH_ready (rs := [5]) (by kernel_rfl) (by simp) ?_
  refine AllReadyH.cons (o := ophs5) rfl (fun KK hKK => ?_) AllReadyH.nil
  unfold ophs5
  go_simp
  refine Calls.mono (CO.out _ I0.out.1) ?_
  rintro e w2 ⟨rfl, hb2⟩
  have B2 : Hid (Below w.heap.size w w2) := chain I0.out.2.2 hb2
  refine hKK.out _ _ (⟨hHeld.1.later hb2, hHeld.2.later hb2⟩) (fun hHeld => ?_)
  clear hKK KK
  try simp only [ophs5, Act.put, List.setIfInBounds_toArray, List.set_cons_zero, List.set_cons_succ]
  refine wpAnyH_take (i := 6) (oi := ophs6) (v := ?_) rfl (by kernel_rfl) (by kernel_rfl) (by kernel_rfl) (fun _ _ _ h => h) (Or.inl ⟨by rfl, ?_⟩) (by assumption) ?_
  rotate_left
  · intro w' hSw
    clear hSw
    unfold ophs6
    first
    | (go_simp; done)
    | (go_simp; with_reducible rfl)
  simp only [ophs6, Act.put, List.setIfInBounds_toArray, List.set_cons_zero, List.set_cons_succ]
  refine wpAnyH_done (by kernel_rfl) ?_ _
  refine NoPanic.normal ?_
  go_wp2
  go_ret
  exact ⟨rfl, B2.out⟩
end Go.Proofs.YtdepjiocmbbdpaaDoor
