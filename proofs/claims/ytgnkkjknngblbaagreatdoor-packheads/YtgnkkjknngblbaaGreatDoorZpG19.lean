/- The document's tags. -/
import Derived.Test.YtgnkkjknngblbaaGreatDoorZpG18
import Derived.Test.YtgnkkjknngblbaaGreatDoorZpG11
namespace Go.Proofs.YtgnkkjknngblbaaGreatDoor
open Go.RowKit Go.Proofs.Fd Go.Proofs.Hs
set_option maxRecDepth 20000
def xs (c : UInt8) (k : List UInt8) (i : Nat) : List UInt8 := (List.range 64).map fun j => if j < i then k.getD j 0 ^^^ c else 0
end Go.Proofs.YtgnkkjknngblbaaGreatDoor
