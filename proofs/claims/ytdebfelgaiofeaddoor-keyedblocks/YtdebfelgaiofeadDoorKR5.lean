/- What stands behind a text, as the document has it. -/
import Derived.Test.YtdebfelgaiofeadDoorKR4
import Derived.Test.YtdebfelgaiofeadDoorLK4
import Derived.Laws.OwnMore
namespace Go.Proofs.YtdebfelgaiofeadDoor
open Go.RowKit Go.Proofs.Fd Go.Proofs.Hs

theorem made_zero (n : Nat) : (madeCells (Value.cells (.int .u8 0)) (n * 1)).toList = bcells (List.replicate n 0) := by
  rw [Nat.mul_one]
  apply List.ext_getElem?
  intro j
  simp [madeCells, bcells, Value.cells]
  by_cases h : j < n
  · simp [h, Nat.mod_one]
  · simp [h]

/-- The last eight bytes so far. -/
def bs (X : Nat) : Nat → List UInt8
  | 0 => List.replicate 8 0
  | i + 1 => (bs X i).set (7 - i) (UInt8.ofNat (X / 2 ^ (8 * i)))
theorem bs_len (X i : Nat) : (bs X i).length = 8 := by
  induction i with
  | zero => rfl
  | succ i ih => simpa [bs] using ih
theorem bs_all (X : Nat) : bs X 8 = be8 X := by rfl
theorem bcells_set (l : List UInt8) (j : Nat) (x : UInt8) : (bcells l).set j (.int .u8 (x.toNat : Int)) = bcells (l.set j x) := by
  unfold bcells; rw [List.map_set]

end Go.Proofs.YtdebfelgaiofeadDoor
