/- The document's sums and differences. -/
import Derived.Test.YtdebfelgaiofeaaR3
namespace Go.Proofs.Ytdebfelgaiofeaa
open Go.RowKit Go.Proofs.Fd

theorem row_new (w : World) (d : Nat → Int) (t : TypeId) : RowAt (w.alloc (.cells #[.int .i64 (d 0), .int .i64 (d 1), .int .i64 (d 2), .int .i64 (d 3), .int .i64 (d 4), .int .i64 (d 5), .int .i64 (d 6), .int .i64 (d 7), .int .i64 (d 8), .int .i64 (d 9)] t)) w.heap.size 10 d := by
  refine ⟨fun o => by simp [go_sem], fun j hj => ?_⟩
  have : j = 0 ∨ j = 1 ∨ j = 2 ∨ j = 3 ∨ j = 4 ∨ j = 5 ∨ j = 6 ∨ j = 7 ∨ j = 8 ∨ j = 9 := by omega
  rcases this with rfl | rfl | rfl | rfl | rfl | rfl | rfl | rfl | rfl | rfl <;> simp [go_sem]

theorem row_zero (w : World) (t : TypeId) : RowAt (w.alloc (.cells #[.int .i64 0, .int .i64 0, .int .i64 0, .int .i64 0, .int .i64 0, .int .i64 0, .int .i64 0, .int .i64 0, .int .i64 0, .int .i64 0] t)) w.heap.size 10 (fun _ => 0) := by
  refine ⟨fun o => by simp [go_sem], fun j hj => ?_⟩
  have : j = 0 ∨ j = 1 ∨ j = 2 ∨ j = 3 ∨ j = 4 ∨ j = 5 ∨ j = 6 ∨ j = 7 ∨ j = 8 ∨ j = 9 := by omega
  rcases this with rfl | rfl | rfl | rfl | rfl | rfl | rfl | rfl | rfl | rfl <;> simp [go_sem]

theorem below_alloc (w : World) (o : Obj) : Below w.heap.size w (w.alloc o) := (Below.refl _ _).alloc (Nat.le_refl _) _

/-- The first k digits summed. -/
def sm (a b : Nat → Int) (k j : Nat) : Int := if j < k then a j + b j else a j

theorem sm_val (a b : Nat → Int) : vN 10 (sm a b 10) = vN 10 a + vN 10 b := by
  rw [vN10, vN10, vN10]
  have f0 : sm a b 10 0 = a 0 + b 0 := rfl
  have f1 : sm a b 10 1 = a 1 + b 1 := rfl
  have f2 : sm a b 10 2 = a 2 + b 2 := rfl
  have f3 : sm a b 10 3 = a 3 + b 3 := rfl
  have f4 : sm a b 10 4 = a 4 + b 4 := rfl
  have f5 : sm a b 10 5 = a 5 + b 5 := rfl
  have f6 : sm a b 10 6 = a 6 + b 6 := rfl
  have f7 : sm a b 10 7 = a 7 + b 7 := rfl
  have f8 : sm a b 10 8 = a 8 + b 8 := rfl
  have f9 : sm a b 10 9 = a 9 + b 9 := rfl
  rw [f0, f1, f2, f3, f4, f5, f6, f7, f8, f9]
  omega

theorem sm_next (a b : Nat → Int) (k j : Nat) : (if j = k then a k + b k else sm a b k j) = sm a b (k + 1) j := by
  unfold sm
  by_cases e : j = k
  · rw [if_pos e, if_pos (by omega), e]
  · rw [if_neg e]
    by_cases e2 : j < k
    · rw [if_pos e2, if_pos (by omega)]
    · rw [if_neg e2, if_neg (by omega)]

theorem can_bd {d : Nat → Int} (h : can d) : 0 ≤ vN 10 d ∧ vN 10 d < 1852673427797059126777135760139006525652319754650249024631321344126610074238976 := by
  have := vN_bd 10 d h
  have e : (67108864 : Int) ^ 10 = 1852673427797059126777135760139006525652319754650249024631321344126610074238976 := by decide
  rw [e] at this; exact this

set_option maxRecDepth 100000 in
set_option maxHeartbeats 4000000 in
theorem Plus_any (a b : Nat → Int) (ha : Hid (can a)) (hb : Hid (can b)) (w : World) :
    Calls Try.prog 40 #[.agg #[.int .i64 (a 0), .int .i64 (a 1), .int .i64 (a 2), .int .i64 (a 3), .int .i64 (a 4), .int .i64 (a 5), .int .i64 (a 6), .int .i64 (a 7), .int .i64 (a 8), .int .i64 (a 9)], .agg #[.int .i64 (b 0), .int .i64 (b 1), .int .i64 (b 2), .int .i64 (b 3), .int .i64 (b 4), .int .i64 (b 5), .int .i64 (b 6), .int .i64 (b 7), .int .i64 (b 8), .int .i64 (b 9)]] w fun e w' => ∃ c : Nat → Int, e = .returned (.agg #[.int .i64 (c 0), .int .i64 (c 1), .int .i64 (c 2), .int .i64 (c 3), .int .i64 (c 4), .int .i64 (c 5), .int .i64 (c 6), .int .i64 (c 7), .int .i64 (c 8), .int .i64 (c 9)]) ∧ (can c ∧ vN 10 c = (vN 10 a + vN 10 b) % (p : Int)) ∧ Below w.heap.size w w' := by
  go_enter Try.func40, Try.ntmps40
  go_wp2
  go_loopw [5] (fun i wr => ∃ k : Nat, k ≤ 10 ∧ i = .int .i64 k ∧ Hid (RowAt wr w.heap.size 10 (sm a b k) ∧ RowAt wr (w.heap.size + 1) 10 b ∧ RowAt wr (w.heap.size + 1 + 1) 10 (fun _ => 0) ∧ Below w.heap.size w wr)) (fun i _ => 10 - (intOf i).toNat)
  case atStart =>
    refine ⟨0, by omega, rfl, RowAt.congr (((row_new w a 42).later (by omega) (below_alloc _ _)).later (by omega) (below_alloc _ _)) (fun j hj => rfl), ?_, ?_, ((below_alloc _ _).alloc (by simp) _).alloc (by simp; omega) _⟩
    · have := (row_new (w.alloc (.cells #[.int .i64 (a 0), .int .i64 (a 1), .int .i64 (a 2), .int .i64 (a 3), .int .i64 (a 4), .int .i64 (a 5), .int .i64 (a 6), .int .i64 (a 7), .int .i64 (a 8), .int .i64 (a 9)] 42)) b 42).later (by omega) (below_alloc _ (.cells #[.int .i64 0, .int .i64 0, .int .i64 0, .int .i64 0, .int .i64 0, .int .i64 0, .int .i64 0, .int .i64 0, .int .i64 0, .int .i64 0] 42))
      simpa using this
    · have := row_zero ((w.alloc (.cells #[.int .i64 (a 0), .int .i64 (a 1), .int .i64 (a 2), .int .i64 (a 3), .int .i64 (a 4), .int .i64 (a 5), .int .i64 (a 6), .int .i64 (a 7), .int .i64 (a 8), .int .i64 (a 9)] 42)).alloc (.cells #[.int .i64 (b 0), .int .i64 (b 1), .int .i64 (b 2), .int .i64 (b 3), .int .i64 (b 4), .int .i64 (b 5), .int .i64 (b 6), .int .i64 (b 7), .int .i64 (b 8), .int .i64 (b 9)] 42)) 42
      simpa using this
  case round =>
    obtain ⟨k, hk, rfl, N⟩ := hrel
    by_cases hk10 : k < 10
    · have ck := N.out.1.2 k hk10
      have cp := N.out.2.1.2 k hk10
      have cf := N.out.1.1
      have b0 : (0 : Int) ≤ (k : Int) := by omega
      have b1 : (k : Int) < 10 := by omega
      have hX : Hid (sm a b k k = a k ∧ (0 ≤ a k ∧ a k < 67108864) ∧ (0 ≤ b k ∧ b k < 67108864)) := ⟨by unfold sm; rw [if_neg (by omega)], ha.out k hk10, hb.out k hk10⟩
      obtain ⟨X, eX⟩ : ∃ X, sm a b k k = X := ⟨_, rfl⟩
      obtain ⟨Y, eY⟩ : ∃ Y, b k = Y := ⟨_, rfl⟩
      rw [eX] at ck
      rw [eY] at cp
      have bx : 0 ≤ X := by rw [← eX, hX.out.1]; exact hX.out.2.1.1
      have bx2 : X < 67108864 := by rw [← eX, hX.out.1]; exact hX.out.2.1.2
      have by1 : 0 ≤ Y := by rw [← eY]; exact hX.out.2.2.1
      have by2 : Y < 67108864 := by rw [← eY]; exact hX.out.2.2.2
      have EX : Hid (sm a b k k = X ∧ b k = Y) := ⟨eX, eY⟩
      clear eX eY
      go_wp2
      go_region
      go_wp2
      go_roundw
      case rel =>
        rw [← EX.out.1, ← EX.out.2, hX.out.1]
        exact ⟨k + 1, by omega, by go_num, RowAt.congr (RowAt.set (RowAt.drew N.out.1) k hk10 _) (fun j hj => sm_next a b k j), RowAt.other (RowAt.drew N.out.2.1) (by simp) _, RowAt.other (RowAt.drew N.out.2.2.1) (by simp; try omega) _, (N.out.2.2.2.drew.setCell (by simp) _)⟩
      case measure => simp [intOf]; omega
    · have hkk : k = 10 := by omega
      subst hkk
      have c0 := N.out.1.2 0 (by omega); have c1 := N.out.1.2 1 (by omega); have c2 := N.out.1.2 2 (by omega); have c3 := N.out.1.2 3 (by omega); have c4 := N.out.1.2 4 (by omega); have c5 := N.out.1.2 5 (by omega); have c6 := N.out.1.2 6 (by omega); have c7 := N.out.1.2 7 (by omega); have c8 := N.out.1.2 8 (by omega); have c9 := N.out.1.2 9 (by omega)
      have ML : Hid (mid (sm a b 10)) := fun j hj => by
        have h1 := ha.out j hj
        have h2 := hb.out j hj
        show _ ≤ sm a b 10 j ∧ sm a b 10 j ≤ _
        unfold sm; rw [if_pos hj]; omega
      have HV : Hid (0 ≤ vN 10 (sm a b 10) ∧ vN 10 (sm a b 10) < 2 ^ 270) := by
        have h1 := can_bd ha.out
        have h2 := can_bd hb.out
        show _ ∧ _
        rw [sm_val]; omega
      go_wp2_with fail
      refine Calls.mono (Small_any (sm a b 10) ML HV _) ?_
      rintro e w5 ⟨h, rfl, ch, hb5⟩
      have CH : Hid (can h ∧ vN 10 h = (vN 10 a + vN 10 b) % (p : Int)) := by rw [sm_val] at ch; exact ch
      have J5 : Hid (RowAt w5 (w.heap.size + 1 + 1) 10 (fun _ => 0) ∧ Below w.heap.size w w5) := ⟨N.out.2.2.1.later (by omega) hb5, chain N.out.2.2.2 hb5⟩
      clear hb5 ch c0 c1 c2 c3 c4 c5 c6 c7 c8 c9
      have c0 := J5.out.1.2 0 (by omega); have c1 := J5.out.1.2 1 (by omega); have c2 := J5.out.1.2 2 (by omega); have c3 := J5.out.1.2 3 (by omega); have c4 := J5.out.1.2 4 (by omega); have c5 := J5.out.1.2 5 (by omega); have c6 := J5.out.1.2 6 (by omega); have c7 := J5.out.1.2 7 (by omega); have c8 := J5.out.1.2 8 (by omega); have c9 := J5.out.1.2 9 (by omega)
      have cf := J5.out.1.1
      go_wp2
      refine bodyPost_ret (v := .agg #[.int .i64 (h 0), .int .i64 (h 1), .int .i64 (h 2), .int .i64 (h 3), .int .i64 (h 4), .int .i64 (h 5), .int .i64 (h 6), .int .i64 (h 7), .int .i64 (h 8), .int .i64 (h 9)]) (by simp [results, Try.results40, go_sem, *]) rfl ⟨h, rfl, CH.out, ?_⟩
      exact below_put10 J5.out.2 (by omega) h

/-- The first k digits of a plus p less b. -/
def ls (a b : Nat → Int) (k j : Nat) : Int := if j < k then a j + (pd j - b j) else a j

theorem ls_val (a b : Nat → Int) : vN 10 (ls a b 10) = vN 10 a + (p : Int) - vN 10 b := by
  have e := pd_val
  rw [← e, vN10, vN10, vN10, vN10]
  have f0 : ls a b 10 0 = a 0 + (pd 0 - b 0) := rfl
  have f1 : ls a b 10 1 = a 1 + (pd 1 - b 1) := rfl
  have f2 : ls a b 10 2 = a 2 + (pd 2 - b 2) := rfl
  have f3 : ls a b 10 3 = a 3 + (pd 3 - b 3) := rfl
  have f4 : ls a b 10 4 = a 4 + (pd 4 - b 4) := rfl
  have f5 : ls a b 10 5 = a 5 + (pd 5 - b 5) := rfl
  have f6 : ls a b 10 6 = a 6 + (pd 6 - b 6) := rfl
  have f7 : ls a b 10 7 = a 7 + (pd 7 - b 7) := rfl
  have f8 : ls a b 10 8 = a 8 + (pd 8 - b 8) := rfl
  have f9 : ls a b 10 9 = a 9 + (pd 9 - b 9) := rfl
  rw [f0, f1, f2, f3, f4, f5, f6, f7, f8, f9]
  omega

theorem ls_next (a b : Nat → Int) (k j : Nat) : (if j = k then a k + (pd k - b k) else ls a b k j) = ls a b (k + 1) j := by
  unfold ls
  by_cases e : j = k
  · rw [if_pos e, if_pos (by omega), e]
  · rw [if_neg e]
    by_cases e2 : j < k
    · rw [if_pos e2, if_pos (by omega)]
    · rw [if_neg e2, if_neg (by omega)]

set_option maxRecDepth 100000 in
set_option maxHeartbeats 4000000 in
theorem Less_any (a b : Nat → Int) (ha : Hid (can a)) (hb : Hid (can b)) (hbp : Hid (vN 10 b ≤ (p : Int))) (w : World) :
    Calls Try.prog 57 #[.agg #[.int .i64 (a 0), .int .i64 (a 1), .int .i64 (a 2), .int .i64 (a 3), .int .i64 (a 4), .int .i64 (a 5), .int .i64 (a 6), .int .i64 (a 7), .int .i64 (a 8), .int .i64 (a 9)], .agg #[.int .i64 (b 0), .int .i64 (b 1), .int .i64 (b 2), .int .i64 (b 3), .int .i64 (b 4), .int .i64 (b 5), .int .i64 (b 6), .int .i64 (b 7), .int .i64 (b 8), .int .i64 (b 9)]] w fun e w' => ∃ c : Nat → Int, e = .returned (.agg #[.int .i64 (c 0), .int .i64 (c 1), .int .i64 (c 2), .int .i64 (c 3), .int .i64 (c 4), .int .i64 (c 5), .int .i64 (c 6), .int .i64 (c 7), .int .i64 (c 8), .int .i64 (c 9)]) ∧ (can c ∧ vN 10 c = (vN 10 a + (p : Int) - vN 10 b) % (p : Int)) ∧ Below w.heap.size w w' := by
  go_enter Try.func57, Try.ntmps57
  go_wp2_with fail
  refine Calls.mono (P_any _) ?_
  rintro e w4 ⟨rfl, hb4⟩
  have M : Hid (RowAt w4 w.heap.size 10 a ∧ RowAt w4 (w.heap.size + 1) 10 b ∧ RowAt w4 (w.heap.size + 1 + 1) 10 (fun _ => 0) ∧ Below w.heap.size w w4) := by
    have r1 := ((row_new w a 42).later (by omega) (below_alloc _ (.cells #[.int .i64 (b 0), .int .i64 (b 1), .int .i64 (b 2), .int .i64 (b 3), .int .i64 (b 4), .int .i64 (b 5), .int .i64 (b 6), .int .i64 (b 7), .int .i64 (b 8), .int .i64 (b 9)] 42))).later (by omega) (below_alloc _ (.cells #[.int .i64 0, .int .i64 0, .int .i64 0, .int .i64 0, .int .i64 0, .int .i64 0, .int .i64 0, .int .i64 0, .int .i64 0, .int .i64 0] 42))
    have r2 := (row_new (w.alloc (.cells #[.int .i64 (a 0), .int .i64 (a 1), .int .i64 (a 2), .int .i64 (a 3), .int .i64 (a 4), .int .i64 (a 5), .int .i64 (a 6), .int .i64 (a 7), .int .i64 (a 8), .int .i64 (a 9)] 42)) b 42).later (by omega) (below_alloc _ (.cells #[.int .i64 0, .int .i64 0, .int .i64 0, .int .i64 0, .int .i64 0, .int .i64 0, .int .i64 0, .int .i64 0, .int .i64 0, .int .i64 0] 42))
    have r3 := row_zero ((w.alloc (.cells #[.int .i64 (a 0), .int .i64 (a 1), .int .i64 (a 2), .int .i64 (a 3), .int .i64 (a 4), .int .i64 (a 5), .int .i64 (a 6), .int .i64 (a 7), .int .i64 (a 8), .int .i64 (a 9)] 42)).alloc (.cells #[.int .i64 (b 0), .int .i64 (b 1), .int .i64 (b 2), .int .i64 (b 3), .int .i64 (b 4), .int .i64 (b 5), .int .i64 (b 6), .int .i64 (b 7), .int .i64 (b 8), .int .i64 (b 9)] 42)) 42
    refine ⟨r1.later (by omega) hb4, ?_, ?_, chain (((below_alloc _ _).alloc (by simp) _).alloc (by simp; omega) _) hb4⟩
    · have := r2.later (by omega) hb4; simpa using this
    · have := r3.later (by omega) hb4; simpa using this
  clear hb4
  have hne1 : Hid (w.heap.size < w4.heap.size ∧ w.heap.size + 1 < w4.heap.size ∧ w.heap.size + 1 + 1 < w4.heap.size) := ⟨World.block_lt_of_cell? _ _ (M.out.1.2 0 (by omega)), World.block_lt_of_cell? _ _ (M.out.2.1.2 0 (by omega)), World.block_lt_of_cell? _ _ (M.out.2.2.1.2 0 (by omega))⟩
  go_wp2
  go_loopw [6] (fun i wr => ∃ k : Nat, k ≤ 10 ∧ i = .int .i64 k ∧ Hid (RowAt wr w.heap.size 10 (ls a b k) ∧ RowAt wr (w.heap.size + 1) 10 b ∧ RowAt wr (w.heap.size + 1 + 1) 10 (fun _ => 0) ∧ RowAt wr w4.heap.size 10 pd ∧ Below w.heap.size w wr)) (fun i _ => 10 - (intOf i).toNat)
  case atStart =>
    have ba : Below w4.heap.size w4 (w4.alloc (.cells #[.int .i64 (pd 0), .int .i64 (pd 1), .int .i64 (pd 2), .int .i64 (pd 3), .int .i64 (pd 4), .int .i64 (pd 5), .int .i64 (pd 6), .int .i64 (pd 7), .int .i64 (pd 8), .int .i64 (pd 9)] 42)) := below_alloc _ _
    exact ⟨0, by omega, rfl, RowAt.congr (M.out.1.later (by omega) ba) (fun j hj => rfl), M.out.2.1.later (by omega) ba, M.out.2.2.1.later (by omega) ba, row_new w4 pd 42, chain M.out.2.2.2 ba⟩
  case round =>
    obtain ⟨k, hk, rfl, N⟩ := hrel
    by_cases hk10 : k < 10
    · have ck := N.out.1.2 k hk10
      have cp := N.out.2.1.2 k hk10
      have cq := N.out.2.2.2.1.2 k hk10
      have cf := N.out.1.1
      have b0 : (0 : Int) ≤ (k : Int) := by omega
      have b1 : (k : Int) < 10 := by omega
      have hX : Hid (ls a b k k = a k ∧ (0 ≤ a k ∧ a k < 67108864) ∧ (0 ≤ b k ∧ b k < 67108864) ∧ 0 ≤ pd k ∧ pd k < 67108864) := ⟨by unfold ls; rw [if_neg (by omega)], ha.out k hk10, hb.out k hk10, pd_bd k⟩
      obtain ⟨X, eX⟩ : ∃ X, ls a b k k = X := ⟨_, rfl⟩
      obtain ⟨Y, eY⟩ : ∃ Y, b k = Y := ⟨_, rfl⟩
      obtain ⟨Z, eZ⟩ : ∃ Z, pd k = Z := ⟨_, rfl⟩
      rw [eX] at ck
      rw [eY] at cp
      rw [eZ] at cq
      have bx : 0 ≤ X := by rw [← eX, hX.out.1]; exact hX.out.2.1.1
      have bx2 : X < 67108864 := by rw [← eX, hX.out.1]; exact hX.out.2.1.2
      have by1 : 0 ≤ Y := by rw [← eY]; exact hX.out.2.2.1.1
      have by2 : Y < 67108864 := by rw [← eY]; exact hX.out.2.2.1.2
      have bz1 : 0 ≤ Z := by rw [← eZ]; exact hX.out.2.2.2.1
      have bz2 : Z < 67108864 := by rw [← eZ]; exact hX.out.2.2.2.2
      have EX : Hid (ls a b k k = X ∧ b k = Y ∧ pd k = Z) := ⟨eX, eY, eZ⟩
      clear eX eY eZ
      go_wp2
      go_region
      go_wp2
      go_roundw
      case rel =>
        rw [← EX.out.1, ← EX.out.2.1, ← EX.out.2.2, hX.out.1]
        exact ⟨k + 1, by omega, by go_num, RowAt.congr (RowAt.set (RowAt.drew N.out.1) k hk10 _) (fun j hj => ls_next a b k j), RowAt.other (RowAt.drew N.out.2.1) (by simp) _, RowAt.other (RowAt.drew N.out.2.2.1) (by simp; try omega) _, RowAt.other (RowAt.drew N.out.2.2.2.1) (by have := hne1.out; simp; omega) _, (N.out.2.2.2.2.drew.setCell (by simp) _)⟩
      case measure => simp [intOf]; omega
    · have hkk : k = 10 := by omega
      subst hkk
      have c0 := N.out.1.2 0 (by omega); have c1 := N.out.1.2 1 (by omega); have c2 := N.out.1.2 2 (by omega); have c3 := N.out.1.2 3 (by omega); have c4 := N.out.1.2 4 (by omega); have c5 := N.out.1.2 5 (by omega); have c6 := N.out.1.2 6 (by omega); have c7 := N.out.1.2 7 (by omega); have c8 := N.out.1.2 8 (by omega); have c9 := N.out.1.2 9 (by omega)
      have ML : Hid (mid (ls a b 10)) := fun j hj => by
        have h1 := ha.out j hj
        have h2 := hb.out j hj
        have h3 := pd_bd j
        show _ ≤ ls a b 10 j ∧ ls a b 10 j ≤ _
        unfold ls; rw [if_pos hj]; omega
      have HV : Hid (0 ≤ vN 10 (ls a b 10) ∧ vN 10 (ls a b 10) < 2 ^ 270) := by
        have h1 := can_bd ha.out
        have h2 := can_bd hb.out
        have h3 := hbp.out
        have hp : (p : Int) = 57896044618658097711785492504343953926634992332820282019728792003956564819949 := rfl
        show _ ∧ _
        rw [ls_val]; omega
      go_wp2_with fail
      refine Calls.mono (Small_any (ls a b 10) ML HV _) ?_
      rintro e w5 ⟨h, rfl, ch, hb5⟩
      have CH : Hid (can h ∧ vN 10 h = (vN 10 a + (p : Int) - vN 10 b) % (p : Int)) := by rw [ls_val] at ch; exact ch
      have J5 : Hid (RowAt w5 (w.heap.size + 1 + 1) 10 (fun _ => 0) ∧ Below w.heap.size w w5) := ⟨N.out.2.2.1.later (by omega) hb5, chain N.out.2.2.2.2 hb5⟩
      clear hb5 ch c0 c1 c2 c3 c4 c5 c6 c7 c8 c9
      have c0 := J5.out.1.2 0 (by omega); have c1 := J5.out.1.2 1 (by omega); have c2 := J5.out.1.2 2 (by omega); have c3 := J5.out.1.2 3 (by omega); have c4 := J5.out.1.2 4 (by omega); have c5 := J5.out.1.2 5 (by omega); have c6 := J5.out.1.2 6 (by omega); have c7 := J5.out.1.2 7 (by omega); have c8 := J5.out.1.2 8 (by omega); have c9 := J5.out.1.2 9 (by omega)
      have cf := J5.out.1.1
      go_wp2
      refine bodyPost_ret (v := .agg #[.int .i64 (h 0), .int .i64 (h 1), .int .i64 (h 2), .int .i64 (h 3), .int .i64 (h 4), .int .i64 (h 5), .int .i64 (h 6), .int .i64 (h 7), .int .i64 (h 8), .int .i64 (h 9)]) (by simp [results, Try.results57, go_sem, *]) rfl ⟨h, rfl, CH.out, ?_⟩
      exact below_put10 J5.out.2 (by omega) h

end Go.Proofs.Ytdebfelgaiofeaa
