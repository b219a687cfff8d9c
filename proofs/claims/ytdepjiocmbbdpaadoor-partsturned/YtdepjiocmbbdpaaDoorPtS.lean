/- A joiner is made; it takes a text. -/
import Derived.Test.YtdepjiocmbbdpaaDoorPtR
namespace Go.Proofs.YtdepjiocmbbdpaaDoor
open Go.RowKit Go.Proofs.Fd Go.Proofs.Pt
set_option maxRecDepth 20000

theorem mayRoom_any (n : Int) (w : World) : Calls Tryd.prog 24 #[.int .i64 n] w fun e w' => e = .returned (.bool (decide (1 ≤ n ∧ n ≤ 1024))) ∧ w' = w := by
  by_cases h1 : 1 ≤ n
  · by_cases h2 : n ≤ 1024
    · have e : decide (1 ≤ n ∧ n ≤ 1024) = true := decide_eq_true ⟨h1, h2⟩
      rw [e]
      go_enter Tryd.func24, Tryd.ntmps24
      go_wp2
      go_ret
      exact ⟨rfl, rfl⟩
    · have e : decide (1 ≤ n ∧ n ≤ 1024) = false := decide_eq_false fun z => h2 z.2
      have h3 : ¬ n ≤ 1024 := h2
      rw [e]
      go_enter Tryd.func24, Tryd.ntmps24
      go_wp2
      go_ret
      exact ⟨rfl, rfl⟩
  · have e : decide (1 ≤ n ∧ n ≤ 1024) = false := decide_eq_false fun z => h1 z.1
    rw [e]
    go_enter Tryd.func24, Tryd.ntmps24
    go_wp2
    go_ret
    exact ⟨rfl, rfl⟩
set_option maxHeartbeats 2000000 in
theorem New_ok (mo no : Nat) (h1 : 1 ≤ mo ∧ mo ≤ 1024) (h2 : 1 ≤ no ∧ no ≤ 1024) (w : World) :
    Calls Tryd.prog 13 #[.int .i64 (mo : Int), .int .i64 (no : Int)] w fun e w' => e = .returned (.tuple #[.pointer (some ⟨w.heap.size, 0, none⟩), .int .i64 0]) ∧ JAt w' w.heap.size (new mo no) (.slice none 0 0) (.slice none 0 0) [] ∧ Below w.heap.size w w' := by
  have M1 : Hid (∀ w, Calls Tryd.prog 24 #[.int .i64 (mo : Int)] w fun e w' => e = .returned (.bool true) ∧ w' = w) := fun w => by
    have := mayRoom_any mo w
    rw [decide_eq_true (by omega)] at this; exact this
  have M2 : Hid (∀ w, Calls Tryd.prog 24 #[.int .i64 (no : Int)] w fun e w' => e = .returned (.bool true) ∧ w' = w) := fun w => by
    have := mayRoom_any no w
    rw [decide_eq_true (by omega)] at this; exact this
  obtain ⟨W, hW⟩ : ∃ W, w.alloc (.cells #[.int .i64 (mo : Int), .slice none 0 0, .int .i64 (no : Int), .slice none 0 0] 75) = W := ⟨_, rfl⟩
  have FI : Hid (JAt W w.heap.size (new mo no) (.slice none 0 0) (.slice none 0 0) [] ∧ Below w.heap.size w W) := by
    refine ⟨⟨hW ▸ Blk.new w [.int .i64 (mo : Int), .slice none 0 0, .int .i64 (no : Int), .slice none 0 0] _ (by simp), World.ownsRow_nil _ _ _ _, World.ownsRow_nil _ _ _ _, rfl, fun i hi => absurd hi (Nat.not_lt_zero _), fun n hn => (by cases hn), List.nodup_nil, ?_, ?_, ?_, ?_, ?_, ?_, Nat.zero_le _, Nat.zero_le _⟩, hW ▸ (Below.refl _ _).alloc (Nat.le_refl _) _⟩
    · intro e; cases e
    · intro e; cases e
    · intro g e; cases e
    · intro e; cases e
    · intro g e; cases e
    · intro g e; cases e
  by_cases q : mo = no
  · subst q
    clear M2
    go_enter Tryd.func13, Tryd.ntmps13
    go_wp2_with (go_at_call 24; refine Calls.mono (M1.out _) ?_; rintro e w1 ⟨rfl, rfl⟩)
    go_ret2
    exact ⟨rfl, FI.out⟩
  · go_enter Tryd.func13, Tryd.ntmps13
    go_wp2_with (first | (go_at_call 24; refine Calls.mono (M1.out _) ?_; rintro e w1 ⟨rfl, rfl⟩) | (go_at_call 24; refine Calls.mono (M2.out _) ?_; rintro e w1 ⟨rfl, rfl⟩))
    go_ret2
    exact ⟨rfl, FI.out⟩
theorem may_len {p : Pa} (h : May p) : p.p.length ≤ 200 := by
  have := h.2.2
  split at this
  · omega
  · have h1 := this.1
    unfold cnt at h1
    have := h.2.1
    omega
theorem rd_ok {s : Bs} {p : Pa} (h : rd s = some p) : May p ∧ Mk8 p.m := by
  unfold rd at h
  split at h
  · cases h
  · split at h
    · cases h
      refine ⟨by assumption, ⟨?_, ?_⟩⟩
      · show (s.take 8).length = 8; rw [List.length_take]; omega
      · show ((s.drop 10).take 6).length = 6; rw [List.length_take, List.length_drop]; omega
    · cases h
theorem Waits_any (j : Nat) (J : Jn) (vS vD : Value) (B : List (Nat × Nat)) (w : World) (h : JAt w j J vS vD B) :
    Calls Tryd.prog 17 #[.pointer (some ⟨j, 0, none⟩)] w fun e w' => e = .returned (.int .i64 (J.S.length : Int)) ∧ w' = w := by
  have c1 := h.blk.c 1 _ rfl
  have hl := h.len
  rcases row_shape h.s with ⟨rfl, hn⟩ | ⟨g, c, rfl, -⟩
  · rw [List.length_map] at hn
    rw [← hl, hn]
    clear h hl
    go_enter Tryd.func17, Tryd.ntmps17
    go_wp2
    go_ret
    exact ⟨rfl, rfl⟩
  · rw [List.length_map, hl] at c1
    clear h hl
    go_enter Tryd.func17, Tryd.ntmps17
    go_wp2
    go_ret
    exact ⟨rfl, rfl⟩
end Go.Proofs.YtdepjiocmbbdpaaDoor
