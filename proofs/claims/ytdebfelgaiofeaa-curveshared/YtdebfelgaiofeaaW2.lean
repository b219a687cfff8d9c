/- What the words' functions of package field do: less, below, bits.Mul64. -/
import Derived.Test.YtdebfelgaiofeaaW1
namespace Go.Proofs.Ytdebfelgaiofeaa
open Go.RowKit Go.Proofs.Fd

set_option maxHeartbeats 400000 in
theorem less_any (a0 a1 a2 a3 b0 b1 b2 b3 : Nat) (ha : Hid (u4 a0 a1 a2 a3)) (hb : Hid (u4 b0 b1 b2 b3)) (w : World) :
    Calls Try.prog 75 #[.agg #[.int .u64 a0, .int .u64 a1, .int .u64 a2, .int .u64 a3], .agg #[.int .u64 b0, .int .u64 b1, .int .u64 b2, .int .u64 b3]] w fun e w' =>
      ∃ c0 c1 c2 c3 : Nat, e = .returned (.tuple #[.agg #[.int .u64 c0, .int .u64 c1, .int .u64 c2, .int .u64 c3], .bool (decide (v4 a0 a1 a2 a3 < v4 b0 b1 b2 b3))]) ∧ u4 c0 c1 c2 c3 ∧ v4 c0 c1 c2 c3 = (v4 a0 a1 a2 a3 + W256 - v4 b0 b1 b2 b3) % W256 ∧ w' = ((w.alloc (.cells #[.int .u64 a0, .int .u64 a1, .int .u64 a2, .int .u64 a3] 51)).alloc (.cells #[.int .u64 b0, .int .u64 b1, .int .u64 b2, .int .u64 b3] 51)).alloc (.cells #[.int .u64 c0, .int .u64 c1, .int .u64 c2, .int .u64 c3] 51) := by
  have ha' := ha.out; have hb' := hb.out; unfold u4 at ha' hb'
  obtain ⟨s0, k1, h1, es0, ek1⟩ := sub64_at a0 b0 0 (by omega)
  rw [show ((0 : Nat) : Int) = 0 from rfl] at h1
  have l1 : k1 ≤ 1 := by rw [ek1]; split <;> omega
  obtain ⟨s1, k2, h2, es1, ek2⟩ := sub64_at a1 b1 k1 l1
  have l2 : k2 ≤ 1 := by rw [ek2]; split <;> omega
  obtain ⟨s2, k3, h3, es2, ek3⟩ := sub64_at a2 b2 k2 l2
  have l3 : k3 ≤ 1 := by rw [ek3]; split <;> omega
  obtain ⟨s3, k4, h4, es3, ek4⟩ := sub64_at a3 b3 k3 l3
  have fin : Hid (u4 s0 s1 s2 s3 ∧ v4 s0 s1 s2 s3 = (v4 a0 a1 a2 a3 + W256 - v4 b0 b1 b2 b3) % W256 ∧ ((k4 : Int) == 1) = decide (v4 a0 a1 a2 a3 < v4 b0 b1 b2 b3)) := by
    have := less_val a0 a1 a2 a3 b0 b1 b2 b3 k1 k2 k3 k4 ha.out hb.out ek1 ek2 ek3 ek4
    rw [← es0, ← es1, ← es2, ← es3] at this
    refine ⟨?_, this.1, ?_⟩
    · clear ek1 ek2 ek3 ek4; unfold u4; omega
    · have q := this.2
      rw [Bool.eq_iff_iff]; simp only [beq_iff_eq, decide_eq_true_eq]
      rw [← q]; omega
  clear es0 ek1 es1 ek2 es2 ek3 es3 ek4 l1 l2 l3 ha' hb'
  go_enter Try.func75, Try.ntmps75
  go_wp2
  exact bodyPost_ret (v := .tuple #[.agg #[.int .u64 s0, .int .u64 s1, .int .u64 s2, .int .u64 s3], .bool ((k4 : Int) == 1)]) (by simp [results, Try.results75, go_sem]) rfl ⟨s0, s1, s2, s3, by rw [fin.out.2.2], fin.out.1, fin.out.2.1, rfl⟩

theorem ret_bool {a b : Bool} (h : a = b) : Ending.returned (.bool a) = .returned (.bool b) := by rw [h]

set_option maxHeartbeats 400000 in
theorem below_any (a0 a1 a2 a3 : Nat) (ha : Hid (u4 a0 a1 a2 a3)) (w : World) :
    Calls Try.prog 35 #[.agg #[.int .u64 a0, .int .u64 a1, .int .u64 a2, .int .u64 a3]] w fun e w' => e = .returned (.bool (decide (v4 a0 a1 a2 a3 < p))) ∧ Below w.heap.size w w' := by
  have H : Hid (_) := below_val a0 a1 a2 a3 ha.out
  have HT : ∀ {b : Bool}, (b = true ↔ v4 a0 a1 a2 a3 < p) → b = decide (v4 a0 a1 a2 a3 < p) := by
    intro b hb; rw [Bool.eq_iff_iff, hb, decide_eq_true_eq]
  have HU : Hid (∀ {b : Bool}, (b = true ↔ v4 a0 a1 a2 a3 < p) → b = decide (v4 a0 a1 a2 a3 < p)) := HT
  clear HT
  by_cases c3 : (a3 : Int) < 9223372036854775807
  · go_enter Try.func35, Try.ntmps35
    go_wp2
    go_ret
    exact ⟨ret_bool (HU.out (by rw [← H.out]; simp; omega)), (Below.refl _ _).alloc (Nat.le_refl _) _⟩
  · have d3 : decide ((a3 : Int) < 9223372036854775807) = false := by simpa using c3
    by_cases e3 : ((a3 : Int) == 9223372036854775807) = true
    · by_cases c2 : (a2 : Int) < 18446744073709551615
      · go_enter Try.func35, Try.ntmps35
        go_wp2
        go_ret
        exact ⟨ret_bool (HU.out (by rw [← H.out]; simp at e3; simp; omega)), (Below.refl _ _).alloc (Nat.le_refl _) _⟩
      · by_cases c1 : (a1 : Int) < 18446744073709551615
        · go_enter Try.func35, Try.ntmps35
          go_wp2
          go_ret
          exact ⟨ret_bool (HU.out (by rw [← H.out]; simp at e3; simp; omega)), (Below.refl _ _).alloc (Nat.le_refl _) _⟩
        · by_cases c0 : (a0 : Int) < 18446744073709551597
          · go_enter Try.func35, Try.ntmps35
            go_wp2
            go_ret
            exact ⟨ret_bool (HU.out (by rw [← H.out]; simp at e3; simp; omega)), (Below.refl _ _).alloc (Nat.le_refl _) _⟩
          · go_enter Try.func35, Try.ntmps35
            go_wp2
            go_ret
            exact ⟨ret_bool (HU.out (by rw [← H.out]; simp at e3; simp; omega)), (Below.refl _ _).alloc (Nat.le_refl _) _⟩
    · have f3 : ((a3 : Int) == 9223372036854775807) = false := by simpa using e3
      clear e3
      go_enter Try.func35, Try.ntmps35
      go_wp2
      go_ret
      exact ⟨ret_bool (HU.out (by rw [← H.out]; simp at f3; simp; omega)), (Below.refl _ _).alloc (Nat.le_refl _) _⟩

theorem mulLies : Lays.n264 Try.prog (wordsAt 72) :=
  { mixed := by kernel_rfl, f264 := by kernel_rfl, t46 := by kernel_rfl, a46 := fun _ => by kernel_rfl, z46 := fun _ => by kernel_rfl, v46 := fun _ => by kernel_rfl, t53 := by kernel_rfl, a53 := fun _ => by kernel_rfl, z53 := fun _ => by kernel_rfl, v53 := fun _ => by kernel_rfl }

theorem mul64_any (x y : Nat) (hx : x < 18446744073709551616) (hy : y < 18446744073709551616) (w : World) :
    Calls Try.prog 72 #[.int .u64 x, .int .u64 y] w fun e w' => e = .returned (.tuple #[.int .u64 ((x * y / 18446744073709551616 : Nat) : Int), .int .u64 ((x * y % 18446744073709551616 : Nat) : Int)]) ∧ w' = w :=
  Any.bits_Mul64 mulLies x y hx hy w

end Go.Proofs.Ytdebfelgaiofeaa
