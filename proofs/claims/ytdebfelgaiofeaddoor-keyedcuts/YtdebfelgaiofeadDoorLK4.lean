/- HashBound answers true. -/
import Derived.Test.YtdebfelgaiofeadDoorLK3
import Derived.Lib.AppendStr
namespace Go.Proofs.YtdebfelgaiofeadDoor
open Go.RowKit Go.Proofs.Fd Go.Proofs.Hs

/-- Bound pieces as one text. -/
def bnd (ks : List ByteArray) : List UInt8 := ks.flatMap fun s => be8 s.size ++ s.data.toList
theorem bnd_step (ks : List ByteArray) (k : Nat) (hk : k < ks.length) : bnd (ks.take (k + 1)) = bnd (ks.take k) ++ (be8 ks[k].size ++ ks[k].data.toList) := flat_step _ ks k hk
theorem flat_le {f : ByteArray → List UInt8} (ks : List ByteArray) (k : Nat) : ((ks.take k).flatMap f).length ≤ (ks.flatMap f).length := by
  have h : (ks.take k).flatMap f ++ (ks.drop k).flatMap f = ks.flatMap f := by rw [← List.flatMap_append, List.take_append_drop]
  rw [← h, List.length_append]
  omega
theorem bnd_le (ks : List ByteArray) (k : Nat) : (bnd (ks.take k)).length ≤ (bnd ks).length := flat_le ks k
theorem strCells_eq (s : ByteArray) : Go.Lib.strCells s = bcells s.data.toList := by
  simp [Go.Lib.strCells, bcells]

/-- A row of the call's own, read back as a string, in whatever world comes later. -/
theorem own_string {V : World} {base n : Nat} {v : Value} {l : List UInt8} (h : V.ownsRow base 5 1 v n (bcells l)) : ∀ w', Below V.heap.size V w' → (convert 29 9 v).run Tryd.prog w' = .ok (.string ⟨l.toArray⟩) w' := by
  intro w' hb
  obtain ⟨hlen, hor⟩ := owns_bytes h
  rcases hor with ⟨rfl, h0⟩ | ⟨g, cap, rfl, hcell⟩
  · obtain rfl : l = [] := List.length_eq_zero_iff.1 (by omega)
    kernel_rfl
  · have := run_convert_bytes_back (P := Tryd.prog) w' 29 9 5 ⟨g, 0, none⟩ cap l Tryd.underlying29 Tryd.underlying5 Tryd.underlying9 (fun j hj => by
      have q : Addr.add ⟨g, 0, none⟩ j = ⟨g, j, none⟩ := by simp [Addr.add]; intro h; exact h.symm
      rw [q]; exact cell_later hb (hcell j hj))
    rw [hlen] at this; exact this

end Go.Proofs.YtdebfelgaiofeadDoor
