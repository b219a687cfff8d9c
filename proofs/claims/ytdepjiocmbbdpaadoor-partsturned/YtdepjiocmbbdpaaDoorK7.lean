/- Digits of bytes. -/
import Derived.Test.YtdepjiocmbbdpaaDoorK6
import Derived.Laws.MakeOwn
namespace Go.Proofs.YtdepjiocmbbdpaaDoor
open Go.RowKit Go.Proofs.Fd Go.Proofs.Hs

/-- The sixteen digits. -/
def dgs : ByteArray := ⟨#[48, 49, 50, 51, 52, 53, 54, 55, 56, 57, 97, 98, 99, 100, 101, 102]⟩
def dg (n : Nat) : UInt8 := dgs.data.toList.getD n 0
def hx (c : UInt8) : List UInt8 := [dg (c.toNat / 16), dg (c.toNat % 16)]
def hxs (l : List UInt8) : List UInt8 := l.flatMap hx
theorem hxs_len (l : List UInt8) : (hxs l).length = 2 * l.length := by
  induction l with
  | nil => rfl
  | cons c r ih => unfold hxs at *; rw [List.flatMap_cons, List.length_append, ih]; simp [hx]; omega
theorem hxs_step (l : List UInt8) (k : Nat) (hk : k < l.length) : hxs (l.take (k + 1)) = hxs (l.take k) ++ hx l[k] := by
  unfold hxs
  rw [List.take_succ_eq_append_getElem hk, List.flatMap_append, List.flatMap_singleton]

theorem dg_hi (c : UInt8) (w : World) : (Instr.index 9 (.string ⟨#[48, 49, 50, 51, 52, 53, 54, 55, 56, 57, 97, 98, 99, 100, 101, 102]⟩) (.int .u8 ((c.toNat : Int) / 16))).run Tryd.prog w = .ok (.int .u8 ((dg (c.toNat / 16)).toNat : Int)) w := by
  have hc := c.toNat_lt
  rw [run_index_string (P := Tryd.prog) w 9 _ .u8 _ Tryd.underlying9]
  have e : (c.toNat : Int) / 16 = ((c.toNat / 16 : Nat) : Int) := by omega
  rw [e]
  generalize hq : c.toNat / 16 = q
  have : q < 16 := by omega
  rcases (by omega : q = 0 ∨ q = 1 ∨ q = 2 ∨ q = 3 ∨ q = 4 ∨ q = 5 ∨ q = 6 ∨ q = 7 ∨ q = 8 ∨ q = 9 ∨ q = 10 ∨ q = 11 ∨ q = 12 ∨ q = 13 ∨ q = 14 ∨ q = 15) with rfl | rfl | rfl | rfl | rfl | rfl | rfl | rfl | rfl | rfl | rfl | rfl | rfl | rfl | rfl | rfl <;> rfl
theorem dg_lo (c : UInt8) (w : World) : (Instr.index 9 (.string ⟨#[48, 49, 50, 51, 52, 53, 54, 55, 56, 57, 97, 98, 99, 100, 101, 102]⟩) (.int .u8 (bits .and .u8 (c.toNat : Int) 15))).run Tryd.prog w = .ok (.int .u8 ((dg (c.toNat % 16)).toNat : Int)) w := by
  have hc := c.toNat_lt
  rw [run_index_string (P := Tryd.prog) w 9 _ .u8 _ Tryd.underlying9]
  have e : bits .and .u8 (c.toNat : Int) 15 = ((c.toNat % 16 : Nat) : Int) := by
    have := bits_mask .u8 8 (by decide) wraps_u8 4 (by decide) (c.toNat : Int) (by omega) (by omega)
    rw [show (2 : Int) ^ 4 - 1 = 15 by decide] at this
    rw [this]
    omega
  rw [e]
  generalize hq : c.toNat % 16 = q
  have : q < 16 := by omega
  rcases (by omega : q = 0 ∨ q = 1 ∨ q = 2 ∨ q = 3 ∨ q = 4 ∨ q = 5 ∨ q = 6 ∨ q = 7 ∨ q = 8 ∨ q = 9 ∨ q = 10 ∨ q = 11 ∨ q = 12 ∨ q = 13 ∨ q = 14 ∨ q = 15) with rfl | rfl | rfl | rfl | rfl | rfl | rfl | rfl | rfl | rfl | rfl | rfl | rfl | rfl | rfl | rfl <;> rfl

end Go.Proofs.YtdepjiocmbbdpaaDoor
