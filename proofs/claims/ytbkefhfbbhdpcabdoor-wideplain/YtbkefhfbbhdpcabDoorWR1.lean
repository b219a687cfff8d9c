/- The document's wide blocks: keys, and what may be. -/
import Derived.Test.YtbkefhfbbhdpcabDoorGD
import Derived.Test.YtbkefhfbbhdpcabDoorGW
import Derived.Test.YtbkefhfbbhdpcabDoorK1
namespace Go.Proofs.YtbkefhfbbhdpcabDoor
open Go.RowKit Go.Proofs.Fd Go.Proofs.Hs Go.Proofs.Cc Go.Proofs.Wd
set_option maxRecDepth 20000

/-- What is wrong with a block's length. -/
def wmay (n : Int) : Int := if n < 64 then 3 else if 8192 < n then 2 else 0
theorem wmay_form (n : Int) (h : n < 64) : wmay n = 3 := if_pos h
theorem wmay_long (n : Int) (h : 8192 < n) : wmay n = 2 := by unfold wmay; rw [if_neg (by omega), if_pos h]
theorem wmay_ok (n : Int) (h1 : 64 ≤ n) (h2 : n ≤ 8192) : wmay n = 0 := by unfold wmay; rw [if_neg (by omega), if_neg (by omega)]
theorem wmay_zero (n : Int) (h : wmay n = 0) : 64 ≤ n ∧ n ≤ 8192 := by
  unfold wmay at h
  split at h
  · exact absurd h (by decide)
  · split at h
    · exact absurd h (by decide)
    · omega

end Go.Proofs.YtbkefhfbbhdpcabDoor
