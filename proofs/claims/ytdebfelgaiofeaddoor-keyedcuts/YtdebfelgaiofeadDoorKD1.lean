/- The document's tags. -/
import Derived.Test.YtdebfelgaiofeadDoorKR7
import Derived.Test.YtdebfelgaiofeadDoorHM
namespace Go.Proofs.YtdebfelgaiofeadDoor
open Go.RowKit Go.Proofs.Fd Go.Proofs.Hs

theorem zeros64 (w : World) : BytesAt (w.alloc (.cells (Array.replicate 64 (.int .u8 0)) 5)) w.heap.size (List.replicate 64 0) := fun j hj => by
  have hj' : j < 64 := by simpa using hj
  refine ⟨?_, by simp [go_sem]⟩
  rw [World.cell?_alloc_new, List.getElem_replicate, Array.getElem?_replicate, if_pos hj']
  rfl

/-- A key's bytes so far. -/
def xs (c : UInt8) (k : List UInt8) (i : Nat) : List UInt8 := (List.range 64).map fun j => if j < i then k.getD j 0 ^^^ c else 0
theorem xs_len (c : UInt8) (k : List UInt8) (i : Nat) : (xs c k i).length = 64 := by simp [xs]
theorem xs_zero (c : UInt8) (k : List UInt8) : xs c k 0 = List.replicate 64 0 := by
  unfold xs
  rw [List.eq_replicate_iff]
  refine ⟨by simp, fun b hb => ?_⟩
  obtain ⟨j, -, rfl⟩ := List.mem_map.1 hb
  simp
theorem xs_step (c : UInt8) (k : List UInt8) (i : Nat) : (xs c k i).set i (k.getD i 0 ^^^ c) = xs c k (i + 1) := by
  apply List.ext_getElem?
  intro j
  by_cases e : i = j
  · subst e
    by_cases h : i < 64
    · simp [xs, h]
    · simp [xs, h]
  · rw [List.getElem?_set_ne e]
    by_cases h : j < 64
    · have : (j < i) ↔ (j < i + 1) := by omega
      simp [xs, h, this]
    · simp [xs, h]
theorem xs_all (c : UInt8) (k : List UInt8) : xs c k 64 = (k64 k).map fun b => b ^^^ c := by
  unfold xs k64
  rw [List.map_map]
  apply List.map_congr_left
  intro j hj
  have : j < 64 := by simpa using hj
  simp [this]

theorem xor8 (x y : UInt8) : bits BinOp.xor IntKind.u8 (x.toNat : Int) (y.toNat : Int) = ((x ^^^ y).toNat : Int) := by
  have h1 : x.toNat < 2 ^ 8 := x.toNat_lt
  have h2 : y.toNat < 2 ^ 8 := y.toNat_lt
  have h3 : x.toNat ^^^ y.toNat < 2 ^ 8 := Nat.xor_lt_two_pow h1 h2
  rw [UInt8.toNat_xor]
  have e1 : x.toNat % 2 ^ IntKind.u8.bits = x.toNat := Nat.mod_eq_of_lt h1
  have e2 : y.toNat % 2 ^ IntKind.u8.bits = y.toNat := Nat.mod_eq_of_lt h2
  simp only [bits, BitVec.ofInt_natCast, BitVec.toNat_xor, BitVec.toNat_ofNat, e1, e2]
  rw [IntKind.wrap_u8]
  omega

theorem below_other {B : Nat} {w w1 : World} (h : Below B w w1) {b k : Nat} (hb : B ≤ b) (v : Value) : Below B w (w1.setCell ⟨b, k, none⟩ v) := h.setCell (p := ⟨b, k, none⟩) hb v

end Go.Proofs.YtdebfelgaiofeadDoor
