/- Parts: KRo, KR5s, KR6s. -/
import Derived.Test.YtjpaodepnacimaaGreatDoorZbG05
import Derived.Lib.AppendStr
import Derived.Test.YtjpaodepnacimaaGreatDoorZbG06
import Derived.Laws.OwnMore
namespace Go.Proofs.YtjpaodepnacimaaGreatDoor
open Go.RowKit Go.Proofs.Fd Go.Proofs.Hs
end Go.Proofs.YtjpaodepnacimaaGreatDoor
namespace Go.Proofs.YtjpaodepnacimaaGreatDoor
open Go.RowKit Go.Proofs.Fd Go.Proofs.Hs
set_option maxRecDepth 20000
def bs (X : Nat) : Nat → List UInt8
  | 0 => List.replicate 8 0
  | i + 1 => (bs X i).set (7 - i) (UInt8.ofNat (X / 2 ^ (8 * i)))
end Go.Proofs.YtjpaodepnacimaaGreatDoor
namespace Go.Proofs.YtjpaodepnacimaaGreatDoor
open Go.RowKit Go.Proofs.Fd Go.Proofs.Hs
set_option maxRecDepth 20000
end Go.Proofs.YtjpaodepnacimaaGreatDoor
