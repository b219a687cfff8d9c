/- A part of the walk. -/
import Derived.Test.YtjcppbhgjchjaaaGreatDoorZr3G13
set_option maxHeartbeats 8000000
set_option maxRecDepth 20000
namespace Go.Proofs.YtjcppbhgjchjaaaGreatDoor
open Go.RowKit Go.Proofs.Fd Go.Proofs.Hs
attribute [local go_sem] zoN zc7 zj3 zcf zc8 zbB
end Go.Proofs.YtjcppbhgjchjaaaGreatDoor
