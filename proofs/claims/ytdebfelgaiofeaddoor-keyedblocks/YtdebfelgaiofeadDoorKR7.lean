/- Pieces as the document joins and binds them. -/
import Derived.Test.YtdebfelgaiofeadDoorKR6
import Derived.Test.YtdebfelgaiofeadDoorLK4
import Derived.Test.YtdebfelgaiofeadDoorK9
namespace Go.Proofs.YtdebfelgaiofeadDoor
open Go.RowKit Go.Proofs.Fd Go.Proofs.Hs

theorem own_later {w w' : World} {base : Nat} {e : TypeId} {size : Nat} {v : Value} {n : Nat} {xs : List Value} (h : w.ownsRow base e size v n xs) (hb : Below w.heap.size w w') : w'.ownsRow base e size v n xs := by
  refine ⟨h.1, ?_⟩
  rcases h.2 with hn | ⟨g, cap, cur, rfl, hbg, hgg, rest⟩
  · exact .inl hn
  · refine .inr ⟨g, cap, cur, rfl, hbg, ?_, rest⟩
    rw [hb.block g (Array.getElem?_eq_some_iff.1 hgg).1]
    exact hgg

/-- Pieces as one text. -/
def jnd (ks : List ByteArray) : List UInt8 := ks.flatMap fun s => s.data.toList
theorem jnd_step (ks : List ByteArray) (k : Nat) (hk : k < ks.length) : jnd (ks.take (k + 1)) = jnd (ks.take k) ++ ks[k].data.toList := flat_step _ ks k hk
theorem jnd_le (ks : List ByteArray) (k : Nat) : (jnd (ks.take k)).length ≤ (jnd ks).length := flat_le ks k

end Go.Proofs.YtdebfelgaiofeadDoor
