/- Short digests. -/
import Derived.Test.YtdebfelgaiofeadDoorK8
namespace Go.Proofs.YtdebfelgaiofeadDoor
open Go.RowKit Go.Proofs.Fd Go.Proofs.Hs

/-- The digest of strings. -/
def shs (ks : List ByteArray) : ByteArray := ⟨(sha (ks.flatMap fun s => s.data.toList)).toArray⟩
theorem shs_size (ks : List ByteArray) : (shs ks).size = 32 := rfl
theorem strAt1 {w : World} {B : Nat} {x : ByteArray} (h0 : w.cell? ⟨B, 0, none⟩ = some (.string x)) : StrAt w (some ⟨B, 0, none⟩) [x] := fun i hi => by
  refine ⟨B, 0, rfl, ?_⟩
  obtain rfl : i = 0 := by simp at hi; omega
  exact h0

end Go.Proofs.YtdebfelgaiofeadDoor
