/- What the document derives. -/
import Derived.Test.YtmbadphjopppaabDoorKD2
namespace Go.Proofs.YtmbadphjopppaabDoor
open Go.RowKit Go.Proofs.Fd Go.Proofs.Hs

end Go.Proofs.YtmbadphjopppaabDoor
