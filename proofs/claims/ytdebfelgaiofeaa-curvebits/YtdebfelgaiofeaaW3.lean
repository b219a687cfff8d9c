/- What step of package field does. -/
import Derived.Test.YtdebfelgaiofeaaW2
namespace Go.Proofs.Ytdebfelgaiofeaa
open Go.RowKit Go.Proofs.Fd

set_option maxHeartbeats 400000 in
theorem step_any (a b c d : Nat) (ha : a < 18446744073709551616) (hb : b < 18446744073709551616) (hc : c < 18446744073709551616) (hd : d < 18446744073709551616) (w : World) :
    Calls Try.prog 62 #[.int .u64 a, .int .u64 b, .int .u64 c, .int .u64 d] w fun e w' =>
      ∃ lo hi : Nat, e = .returned (.tuple #[.int .u64 lo, .int .u64 hi]) ∧ lo < 18446744073709551616 ∧ hi < 18446744073709551616 ∧ Hid (lo + 18446744073709551616 * hi = a * b + c + d) ∧ w' = w := by
  have C := mul64_any a b ha hb w
  have hq := mul_words ha hb
  generalize a * b = q at *
  obtain ⟨v1, v2, v3, v4⟩ := step_val q c d hq hc hd
  obtain ⟨h, eh⟩ : ∃ h, q / 18446744073709551616 = h := ⟨_, rfl⟩
  obtain ⟨l, el⟩ : ∃ l, q % 18446744073709551616 = l := ⟨_, rfl⟩
  rw [eh, el] at C
  obtain ⟨s1, k1, h1, es1, ek1⟩ := add64_at l c 0 (by omega)
  rw [show ((0 : Nat) : Int) = 0 from rfl] at h1
  obtain ⟨s2, k2, h2, es2, ek2⟩ := add64_at s1 d 0 (by omega)
  rw [show ((0 : Nat) : Int) = 0 from rfl] at h2
  clear v1 v2 v3 v4
  obtain ⟨g, hg⟩ : ∃ g, h + k1 = g := ⟨_, rfl⟩
  obtain ⟨t, ht⟩ : ∃ t, g + k2 = t := ⟨_, rfl⟩
  have fin : Hid (s2 < 18446744073709551616 ∧ t < 18446744073709551616 ∧ s2 + 18446744073709551616 * t = q + c + d) := by refine ⟨?_, ?_, ?_⟩ <;> omega
  have CH : Hid (Calls Try.prog 72 #[.int .u64 a, .int .u64 b] w fun e w' => e = .returned (.tuple #[.int .u64 h, .int .u64 l]) ∧ w' = w) := C
  have e1 : IntKind.u64.wrap ((h : Int) + (k1 : Int)) = (g : Int) := by rw [IntKind.wrap_u64]; omega
  have e2 : IntKind.u64.wrap ((g : Int) + (k2 : Int)) = (t : Int) := by rw [IntKind.wrap_u64]; omega
  clear es1 ek1 es2 ek2 eh el C hq ha hb hc hd hg ht
  go_enter Try.func62, Try.ntmps62
  go_wp2_with fail
  refine Calls.mono CH.out ?_
  rintro e w1 ⟨rfl, hw⟩
  rw [hw]
  go_wp2
  go_ret2
  exact ⟨s2, t, rfl, fin.out.1, fin.out.2.1, fin.out.2.2, rfl⟩

end Go.Proofs.Ytdebfelgaiofeaa
