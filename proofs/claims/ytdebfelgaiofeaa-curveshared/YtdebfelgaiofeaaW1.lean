/- What the words' functions of package field do: step, sum, less, below, prime. -/
import Derived.Test.YtdebfelgaiofeaaProg
import Derived.Test.YtdebfelgaiofeaaMA
import Derived.WalkKit
import Derived.WalkSpells
import Derived.WalkLawsBesides
import Derived.Shelf.Spec.BitsCarry
import Derived.Shelf.Bits.Mul64
namespace Go.Proofs.Ytdebfelgaiofeaa
open Go.RowKit Go.Proofs.Fd

/-- Where the library's word functions lie in this program. -/
def wordsAt (f : Nat) : Go.Shelf.Ren := ⟨fun _ => f, fun t => if t = 46 then 35 else 49, fun n => n⟩
theorem addLies : Lays7.n25 Try.prog (wordsAt 73) :=
  { mixed := by kernel_rfl, f25 := by kernel_rfl, t22 := by kernel_rfl, a22 := fun _ => by kernel_rfl, z22 := fun _ => by kernel_rfl, v22 := fun _ => by kernel_rfl, i22 := by kernel_rfl }
theorem subLies : Lays7.n26 Try.prog (wordsAt 77) :=
  { mixed := by kernel_rfl, f26 := by kernel_rfl, t22 := by kernel_rfl, a22 := fun _ => by kernel_rfl, z22 := fun _ => by kernel_rfl, v22 := fun _ => by kernel_rfl, i22 := by kernel_rfl }

theorem add64_at (x y c : Nat) (hc : c ≤ 1) : ∃ s k : Nat, (∀ w, (callFunc 73 #[.int .u64 x, .int .u64 y, .int .u64 c]).run Try.prog w = .ok (.value (.tuple #[.int .u64 s, .int .u64 k])) w) ∧ s = (x + y + c) % 18446744073709551616 ∧ k = (x + y + c) / 18446744073709551616 :=
  ⟨_, _, Any7.bits_Add64 addLies x y c hc, rfl, rfl⟩

theorem sub64_at (x y c : Nat) (hc : c ≤ 1) : ∃ s k : Nat, (∀ w, (callFunc 77 #[.int .u64 x, .int .u64 y, .int .u64 c]).run Try.prog w = .ok (.value (.tuple #[.int .u64 s, .int .u64 k])) w) ∧ s = (x + 18446744073709551616 - y - c) % 18446744073709551616 ∧ k = if x < y + c then 1 else 0 :=
  ⟨_, _, Any7.bits_Sub64 subLies x y c hc, rfl, rfl⟩

theorem prime_any (w : World) :
    Calls Try.prog 76 #[] w fun e w' => e = .returned (.agg #[.int .u64 18446744073709551597, .int .u64 18446744073709551615, .int .u64 18446744073709551615, .int .u64 9223372036854775807]) ∧ w' = w.alloc (.cells #[.int .u64 18446744073709551597, .int .u64 18446744073709551615, .int .u64 18446744073709551615, .int .u64 9223372036854775807] 51) := by
  go_enter Try.func76, Try.ntmps76
  go_wp2
  exact bodyPost_ret (v := .agg #[.int .u64 18446744073709551597, .int .u64 18446744073709551615, .int .u64 18446744073709551615, .int .u64 9223372036854775807]) (by simp [results, Try.results76, go_sem]) rfl ⟨rfl, rfl⟩

set_option maxHeartbeats 400000 in
theorem sum_ex (a0 a1 a2 a3 b0 b1 b2 b3 : Nat) (ha : Hid (u4 a0 a1 a2 a3)) (hb : Hid (u4 b0 b1 b2 b3)) (w : World) :
    Calls Try.prog 74 #[.agg #[.int .u64 a0, .int .u64 a1, .int .u64 a2, .int .u64 a3], .agg #[.int .u64 b0, .int .u64 b1, .int .u64 b2, .int .u64 b3]] w fun e w' =>
      ∃ c0 c1 c2 c3 : Nat, e = .returned (.agg #[.int .u64 c0, .int .u64 c1, .int .u64 c2, .int .u64 c3]) ∧ u4 c0 c1 c2 c3 ∧ v4 c0 c1 c2 c3 = (v4 a0 a1 a2 a3 + v4 b0 b1 b2 b3) % W256 ∧ w' = ((w.alloc (.cells #[.int .u64 a0, .int .u64 a1, .int .u64 a2, .int .u64 a3] 51)).alloc (.cells #[.int .u64 b0, .int .u64 b1, .int .u64 b2, .int .u64 b3] 51)).alloc (.cells #[.int .u64 c0, .int .u64 c1, .int .u64 c2, .int .u64 c3] 51) := by
  have ha' := ha.out; have hb' := hb.out; unfold u4 at ha' hb'
  obtain ⟨s0, k1, h1, es0, ek1⟩ := add64_at a0 b0 0 (by omega)
  rw [show ((0 : Nat) : Int) = 0 from rfl] at h1
  have l1 : k1 ≤ 1 := by omega
  obtain ⟨s1, k2, h2, es1, ek2⟩ := add64_at a1 b1 k1 l1
  have l2 : k2 ≤ 1 := by omega
  obtain ⟨s2, k3, h3, es2, ek3⟩ := add64_at a2 b2 k2 l2
  have l3 : k3 ≤ 1 := by omega
  obtain ⟨s3, k4, h4, es3, ek4⟩ := add64_at a3 b3 k3 l3
  have fin : Hid (u4 s0 s1 s2 s3 ∧ v4 s0 s1 s2 s3 = (v4 a0 a1 a2 a3 + v4 b0 b1 b2 b3) % W256) := by
    have := sum_val a0 a1 a2 a3 b0 b1 b2 b3 ha.out hb.out
    rw [← es0, ← ek1, ← es1, ← ek2, ← es2, ← ek3, ← es3] at this
    refine ⟨?_, this⟩
    unfold u4; omega
  clear es0 ek1 es1 ek2 es2 ek3 es3 ek4 l1 l2 l3 ha' hb'
  go_enter Try.func74, Try.ntmps74
  go_wp2
  exact bodyPost_ret (v := .agg #[.int .u64 s0, .int .u64 s1, .int .u64 s2, .int .u64 s3]) (by simp [results, Try.results74, go_sem]) rfl ⟨s0, s1, s2, s3, rfl, fin.out.1, fin.out.2, rfl⟩
theorem sum_any (a0 a1 a2 a3 b0 b1 b2 b3 : Nat) (ha : Hid (u4 a0 a1 a2 a3)) (hb : Hid (u4 b0 b1 b2 b3)) (w : World) :
    Calls Try.prog 74 #[.agg #[.int .u64 a0, .int .u64 a1, .int .u64 a2, .int .u64 a3], .agg #[.int .u64 b0, .int .u64 b1, .int .u64 b2, .int .u64 b3]] w fun e w' =>
      ∃ c0 c1 c2 c3 : Nat, e = .returned (.agg #[.int .u64 c0, .int .u64 c1, .int .u64 c2, .int .u64 c3]) ∧ u4 c0 c1 c2 c3 ∧ v4 c0 c1 c2 c3 = (v4 a0 a1 a2 a3 + v4 b0 b1 b2 b3) % W256 ∧ Below w.heap.size w w' := by
  refine Calls.mono (sum_ex a0 a1 a2 a3 b0 b1 b2 b3 ha hb w) ?_
  rintro e w1 ⟨c0, c1, c2, c3, rfl, uc, vc, rfl⟩
  exact ⟨c0, c1, c2, c3, rfl, uc, vc, ((((Below.refl _ _).alloc (Nat.le_refl _) _).alloc (by simp) _).alloc (by simp; omega) _)⟩
end Go.Proofs.Ytdebfelgaiofeaa
