/- What the document expands. -/
import Derived.Test.YtdebfelgaiofeadDoorKD1
namespace Go.Proofs.YtdebfelgaiofeadDoor
open Go.RowKit Go.Proofs.Fd Go.Proofs.Hs

theorem ba_size (l : List UInt8) : (⟨l.toArray⟩ : ByteArray).size = l.length := by
  show l.toArray.size = _; simp

end Go.Proofs.YtdebfelgaiofeadDoor
