/- A part of the walk. -/
import Derived.Test.YtjcppbhgjchjaaaGreatDoorCards
import Derived.Test.YtjcppbhgjchjaaaGreatDoorTie
import Derived.WalkKit
import Derived.ProofKit
set_option maxHeartbeats 8000000
set_option maxRecDepth 20000
namespace Go.Proofs.YtjcppbhgjchjaaaGreatDoor
open Go
theorem MixPoolRow.jf:joinedFacts Tryz.pinned.checked.prog 6 Tryz.f6 (OpenSpec.ofChange Rows.mixPoolSpec).bare Rows.mixPoolRow=true:=by kernel_rfl
end Go.Proofs.YtjcppbhgjchjaaaGreatDoor
