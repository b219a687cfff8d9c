/- What the document derives. -/
import Derived.Test.YtdebfelgaiofeadDoorKD2
namespace Go.Proofs.YtdebfelgaiofeadDoor
open Go.RowKit Go.Proofs.Fd Go.Proofs.Hs

end Go.Proofs.YtdebfelgaiofeadDoor
