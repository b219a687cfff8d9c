/- What the words' functions of package field do: step, sum, less, below, prime. -/
import Derived.Test.YtmoeijgblhfpdaaProg
import Derived.Test.YtmoeijgblhfpdaaMath
import Derived.WalkKit
import Derived.WalkSpells
import Derived.WalkLawsBesides
import Derived.Lib.Mul64
import Derived.Laws.Externs
import Derived.Laws.Bits64b
namespace Go.Proofs.Ytmoeijgblhfpdaa
open Go.RowKit Go.Proofs.Fd

def sub64Entry : Array Value → Sem Value := fun args => do
  let (x, y, b) ← Extern.MathBitsCarry.three "Sub64" args
  pure (Extern.MathBitsCarry.pair ((x + Extern.MathBitsCarry.m64 - y - b) % Extern.MathBitsCarry.m64) (if x < y + b then 1 else 0))

theorem run_sub64 (x y b : Nat) (hb : b ≤ 1) (w : World) :
    (sub64Entry #[.int .u64 x, .int .u64 y, .int .u64 b]).run Try.prog w =
      .ok (.tuple #[.int .u64 (((x + 18446744073709551616 - y - b) % 18446744073709551616 : Nat) : Int), .int .u64 ((if x < y + b then 1 else 0 : Nat) : Int)]) w := by
  have : b = 0 ∨ b = 1 := by omega
  rcases this with rfl | rfl <;> rfl

theorem add64_at (x y c : Nat) (hc : c ≤ 1) : ∃ s k : Nat, (∀ w, (callFunc 58 #[.int .u64 x, .int .u64 y, .int .u64 c]).run Try.prog w = .ok (.value (.tuple #[.int .u64 s, .int .u64 k])) w) ∧ s = (x + y + c) % 18446744073709551616 ∧ k = (x + y + c) / 18446744073709551616 := by
  refine ⟨_, _, fun w => ?_, rfl, rfl⟩
  rw [run_callFunc_extern Try.func58 (by kernel_rfl) (by kernel_rfl) (by kernel_rfl) (e := add64Entry) (by kernel_rfl), run_add64 x y c (by omega) (by omega) (by omega) (by omega)]
  simp only [Result.andThen]
  congr 5 <;> omega

theorem sub64_at (x y c : Nat) (hc : c ≤ 1) : ∃ s k : Nat, (∀ w, (callFunc 60 #[.int .u64 x, .int .u64 y, .int .u64 c]).run Try.prog w = .ok (.value (.tuple #[.int .u64 s, .int .u64 k])) w) ∧ s = (x + 18446744073709551616 - y - c) % 18446744073709551616 ∧ k = if x < y + c then 1 else 0 := by
  refine ⟨_, _, fun w => ?_, rfl, rfl⟩
  rw [run_callFunc_extern Try.func60 (by kernel_rfl) (by kernel_rfl) (by kernel_rfl) (e := sub64Entry) (by kernel_rfl), run_sub64 x y c hc]
  rfl

theorem prime_any (w : World) :
    Calls Try.prog 56 #[] w fun e w' => e = .returned (.agg #[.int .u64 18446744073709551597, .int .u64 18446744073709551615, .int .u64 18446744073709551615, .int .u64 9223372036854775807]) ∧ w' = w.alloc (.cells #[.int .u64 18446744073709551597, .int .u64 18446744073709551615, .int .u64 18446744073709551615, .int .u64 9223372036854775807] 43) := by
  go_enter Try.func56, Try.ntmps56
  go_wp2
  exact bodyPost_ret (v := .agg #[.int .u64 18446744073709551597, .int .u64 18446744073709551615, .int .u64 18446744073709551615, .int .u64 9223372036854775807]) (by simp [results, Try.results56, go_sem]) rfl ⟨rfl, rfl⟩

set_option maxHeartbeats 400000 in
theorem sum_ex (a0 a1 a2 a3 b0 b1 b2 b3 : Nat) (ha : Hid (u4 a0 a1 a2 a3)) (hb : Hid (u4 b0 b1 b2 b3)) (w : World) :
    Calls Try.prog 54 #[.agg #[.int .u64 a0, .int .u64 a1, .int .u64 a2, .int .u64 a3], .agg #[.int .u64 b0, .int .u64 b1, .int .u64 b2, .int .u64 b3]] w fun e w' =>
      ∃ c0 c1 c2 c3 : Nat, e = .returned (.agg #[.int .u64 c0, .int .u64 c1, .int .u64 c2, .int .u64 c3]) ∧ u4 c0 c1 c2 c3 ∧ v4 c0 c1 c2 c3 = (v4 a0 a1 a2 a3 + v4 b0 b1 b2 b3) % W256 ∧ w' = ((w.alloc (.cells #[.int .u64 a0, .int .u64 a1, .int .u64 a2, .int .u64 a3] 43)).alloc (.cells #[.int .u64 b0, .int .u64 b1, .int .u64 b2, .int .u64 b3] 43)).alloc (.cells #[.int .u64 c0, .int .u64 c1, .int .u64 c2, .int .u64 c3] 43) := by
  have ha' := ha.out; have hb' := hb.out; unfold u4 at ha' hb'
  obtain ⟨s0, k1, h1, es0, ek1⟩ := add64_at a0 b0 0 (by omega)
  rw [show ((0 : Nat) : Int) = 0 from rfl] at h1
  have l1 : k1 ≤ 1 := by omega
  obtain ⟨s1, k2, h2, es1, ek2⟩ := add64_at a1 b1 k1 l1
  have l2 : k2 ≤ 1 := by omega
  obtain ⟨s2, k3, h3, es2, ek3⟩ := add64_at a2 b2 k2 l2
  have l3 : k3 ≤ 1 := by omega
  obtain ⟨s3, k4, h4, es3, ek4⟩ := add64_at a3 b3 k3 l3
  have fin : Hid (u4 s0 s1 s2 s3 ∧ v4 s0 s1 s2 s3 = (v4 a0 a1 a2 a3 + v4 b0 b1 b2 b3) % W256) := by
    have := sum_val a0 a1 a2 a3 b0 b1 b2 b3 ha.out hb.out
    rw [← es0, ← ek1, ← es1, ← ek2, ← es2, ← ek3, ← es3] at this
    refine ⟨?_, this⟩
    unfold u4; omega
  clear es0 ek1 es1 ek2 es2 ek3 es3 ek4 l1 l2 l3 ha' hb'
  go_enter Try.func54, Try.ntmps54
  go_wp2
  exact bodyPost_ret (v := .agg #[.int .u64 s0, .int .u64 s1, .int .u64 s2, .int .u64 s3]) (by simp [results, Try.results54, go_sem]) rfl ⟨s0, s1, s2, s3, rfl, fin.out.1, fin.out.2, rfl⟩
theorem sum_any (a0 a1 a2 a3 b0 b1 b2 b3 : Nat) (ha : Hid (u4 a0 a1 a2 a3)) (hb : Hid (u4 b0 b1 b2 b3)) (w : World) :
    Calls Try.prog 54 #[.agg #[.int .u64 a0, .int .u64 a1, .int .u64 a2, .int .u64 a3], .agg #[.int .u64 b0, .int .u64 b1, .int .u64 b2, .int .u64 b3]] w fun e w' =>
      ∃ c0 c1 c2 c3 : Nat, e = .returned (.agg #[.int .u64 c0, .int .u64 c1, .int .u64 c2, .int .u64 c3]) ∧ u4 c0 c1 c2 c3 ∧ v4 c0 c1 c2 c3 = (v4 a0 a1 a2 a3 + v4 b0 b1 b2 b3) % W256 ∧ Below w.heap.size w w' := by
  refine Calls.mono (sum_ex a0 a1 a2 a3 b0 b1 b2 b3 ha hb w) ?_
  rintro e w1 ⟨c0, c1, c2, c3, rfl, uc, vc, rfl⟩
  exact ⟨c0, c1, c2, c3, rfl, uc, vc, ((((Below.refl _ _).alloc (Nat.le_refl _) _).alloc (by simp) _).alloc (by simp; omega) _)⟩
end Go.Proofs.Ytmoeijgblhfpdaa
