/- Parts: LK4, KR5, KR6, KR7. -/
import Derived.Test.YtgnkkjknngblbaaGreatDoorZpG16
import Derived.Lib.AppendStr
import Derived.Test.YtgnkkjknngblbaaGreatDoorZpG17
import Derived.Laws.OwnMore
import Derived.Test.YtgnkkjknngblbaaGreatDoorZpG14
namespace Go.Proofs.YtgnkkjknngblbaaGreatDoor
open Go.RowKit Go.Proofs.Fd Go.Proofs.Hs
set_option maxRecDepth 20000
theorem strCells_eq (s : ByteArray) : Go.Lib.strCells s = bcells s.data.toList := by
  simp [Go.Lib.strCells, bcells]
end Go.Proofs.YtgnkkjknngblbaaGreatDoor
namespace Go.Proofs.YtgnkkjknngblbaaGreatDoor
open Go.RowKit Go.Proofs.Fd Go.Proofs.Hs
set_option maxRecDepth 20000
def bs (X : Nat) : Nat → List UInt8
  | 0 => List.replicate 8 0
  | i + 1 => (bs X i).set (7 - i) (UInt8.ofNat (X / 2 ^ (8 * i)))
end Go.Proofs.YtgnkkjknngblbaaGreatDoor
namespace Go.Proofs.YtgnkkjknngblbaaGreatDoor
open Go.RowKit Go.Proofs.Fd Go.Proofs.Hs
set_option maxRecDepth 20000
end Go.Proofs.YtgnkkjknngblbaaGreatDoor
namespace Go.Proofs.YtgnkkjknngblbaaGreatDoor
open Go.RowKit Go.Proofs.Fd Go.Proofs.Hs
set_option maxRecDepth 20000
theorem own_later {w w' : World} {base : Nat} {e : TypeId} {size : Nat} {v : Value} {n : Nat} {xs : List Value} (h : w.ownsRow base e size v n xs) (hb : Below w.heap.size w w') : w'.ownsRow base e size v n xs := by
  refine ⟨h.1, ?_⟩
  rcases h.2 with hn | ⟨g, cap, cur, rfl, hbg, hgg, rest⟩
  · exact .inl hn
  · refine .inr ⟨g, cap, cur, rfl, hbg, ?_, rest⟩
    rw [hb.block g (Array.getElem?_eq_some_iff.1 hgg).1]
    exact hgg
def jnd (ks : List ByteArray) : List UInt8 := ks.flatMap fun s => s.data.toList
end Go.Proofs.YtgnkkjknngblbaaGreatDoor
