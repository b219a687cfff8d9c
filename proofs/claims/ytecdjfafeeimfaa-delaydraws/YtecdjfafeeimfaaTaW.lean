/- The chapter's example; numbers from 0 to n - 1; lists that are the same. -/
import Derived.Test.YtecdjfafeeimfaaTaO
namespace Go.Proofs.Ytecdjfafeeimfaa
open Go.RowKit Go.Proofs.Fd Go.Proofs.Ta
set_option maxRecDepth 20000

def exL : List UInt8 := [128, 0, 0, 0, 120]
theorem ex_draw : belV 10 exL = 5 ∧ belE 10 exL = 0 ∧ belR 10 exL = [120] := by decide
theorem ex_word : wordV [120] = 0 ∧ wordE [120] = 120 ∧ wordR [120] = [120] := by decide
set_option maxHeartbeats 1000000 in
theorem same_ints (a b : Option Addr) (L : List Int) (n c1 c2 : Nat) (hn : L.length = n) (hn2 : n ≤ 1000000) (w : World) (h1 : Hid (IntAt w a L)) (h2 : Hid (IntAt w b L)) :
    Calls Try.prog 12 #[.slice a n c1, .slice b n c2] w fun e w' => e = .returned (.bool true) ∧ Below w.heap.size w w' := by
  go_enter Try.func12, Try.ntmps12
  go_wp2
  go_loopw [5] (fun i wr => ∃ k : Nat, k ≤ n ∧ i = .int .i64 (k : Int) ∧ Hid (Below w.heap.size w wr)) (fun i _ => n - (intOf i).toNat)
  case atStart => exact ⟨0, by omega, rfl, Below.refl _ _⟩
  case round =>
    obtain ⟨k, hk, rfl, I⟩ := hrel
    by_cases hlt : k < n
    · have g1 : (k : Int) < (n : Int) := by omega
      obtain ⟨b1, o1, rfl, e1⟩ := (h1.out.later I.out) k (by omega)
      obtain ⟨b2, o2, rfl, e2⟩ := (h2.out.later I.out) k (by omega)
      obtain ⟨x, hx⟩ : ∃ x, L[k] = x := ⟨_, rfl⟩
      rw [hx] at e1 e2
      clear hx
      go_wp2
      go_quiet (fail)
      go_wp2
      go_roundw
      case rel => exact ⟨k + 1, by omega, by go_num, below_drewN I.out _⟩
      case measure => simp [intOf]; omega
    · obtain rfl : k = n := by omega
      go_wp2
      go_ret
      exact ⟨rfl, I.out⟩
end Go.Proofs.Ytecdjfafeeimfaa
