/- What load of package field does. -/
import Derived.Test.YtdebfelgaiofeaaW9
import Derived.Test.YtdebfelgaiofeaaH
import Derived.Deep.RegionHeld3
import Derived.Deep.DrawnRows
import Derived.Deep.DeepCutAuto
namespace Go.Proofs.Ytdebfelgaiofeaa
open Go.RowKit Go.Proofs.Fd
attribute [local go_sem ↓] Go.wp_at_zero Go.wp_at_succ

set_option maxHeartbeats 1000000 in
theorem load_any (s : ByteArray) (hs : s.size = 32) (w : World) :
    Calls Try.prog 36 #[.string s] w fun e w' => ∃ c0 c1 c2 c3 : Nat, e = .returned (.agg #[.int .u64 c0, .int .u64 c1, .int .u64 c2, .int .u64 c3]) ∧ u4 c0 c1 c2 c3 ∧ v4 c0 c1 c2 c3 = num s.data.toList ∧ Below w.heap.size w w' := by
  go_enter Try.func36, Try.ntmps36
  go_wp2
  go_region_held3 (fun _ => True) (trivial) (first | (go_at_call 47; refine Calls.mono (word_any _ ?_ _) ?_; (focus simp [hs]); rintro e w' ⟨rfl, n, rfl⟩))
  go_wp2
  have hl : s.data.toList.length = 32 := by simpa using hs
  have NL := num_load s.data.toList hl
  refine bodyPost_ret (v := .agg #[.int .u64 ((num (s.data.toList.take 8) : Nat) : Int), .int .u64 ((num ((s.data.toList.drop 8).take 8) : Nat) : Int), .int .u64 ((num ((s.data.toList.drop 16).take 8) : Nat) : Int), .int .u64 ((num ((s.data.toList.drop 24).take 8) : Nat) : Int)]) (by simp [results, Try.results36, go_sem]) rfl ⟨_, _, _, _, rfl, NL.1, NL.2, ?_⟩
  repeat (first | exact Below.refl _ _ | refine Below.setCell ?_ (by simp; try omega) _ | refine Below.drew ?_ | refine below_drewN ?_ _ | refine Below.alloc ?_ (by simp; try omega) _)

end Go.Proofs.Ytdebfelgaiofeaa
