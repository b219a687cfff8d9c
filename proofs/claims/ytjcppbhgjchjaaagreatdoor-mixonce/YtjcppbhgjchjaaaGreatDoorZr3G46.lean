/- A part of the walk. -/
import Derived.Test.YtjcppbhgjchjaaaGreatDoorCards
import Derived.Test.YtjcppbhgjchjaaaGreatDoorTie
import Derived.WalkKit
import Derived.ProofKit
set_option maxHeartbeats 8000000
set_option maxRecDepth 20000
namespace Go.Proofs.YtjcppbhgjchjaaaGreatDoor
open Go
theorem MixOnceRow.jf:joinedFacts Tryz.pinned.checked.prog 5 Tryz.f5 (OpenSpec.ofChange Rows.mixOnceSpec).bare Rows.mixOnceRow=true:=by kernel_rfl
end Go.Proofs.YtjcppbhgjchjaaaGreatDoor
