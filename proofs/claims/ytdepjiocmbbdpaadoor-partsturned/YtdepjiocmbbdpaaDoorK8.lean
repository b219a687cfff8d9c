/- The chapter's example holds: works answers true. -/
import Derived.Test.YtdepjiocmbbdpaaDoorK7
namespace Go.Proofs.YtdepjiocmbbdpaaDoor
open Go.RowKit Go.Proofs.Fd Go.Proofs.Hs

theorem ex_hex : (⟨(hxs (sha [97, 98, 99])).toArray⟩ : ByteArray) = ⟨#[98, 97, 55, 56, 49, 54, 98, 102, 56, 102, 48, 49, 99, 102, 101, 97, 52, 49, 52, 49, 52, 48, 100, 101, 53, 100, 97, 101, 50, 50, 50, 51, 98, 48, 48, 51, 54, 49, 97, 51, 57, 54, 49, 55, 55, 97, 57, 99, 98, 52, 49, 48, 102, 102, 54, 49, 102, 50, 48, 48, 49, 53, 97, 100]⟩ := by decide +kernel
theorem ex_bind : (⟨(sha (be8 2 ++ [97, 98] ++ (be8 1 ++ [99]))).toArray⟩ : ByteArray) ≠ ⟨(sha (be8 1 ++ [97] ++ (be8 2 ++ [98, 99]))).toArray⟩ := by decide +kernel

theorem bytes_ext {a b : ByteArray} (h : a.toList = b.toList) : a = b := by
  rw [ByteArray.toList_eq, ByteArray.toList_eq] at h
  cases a; cases b
  congr 1
  exact Array.ext' h

theorem strAt2 {w : World} {B : Nat} {x y : ByteArray} (h0 : w.cell? ⟨B, 0, none⟩ = some (.string x)) (h1 : w.cell? ⟨B, 1, none⟩ = some (.string y)) : StrAt w (some ⟨B, 0, none⟩) [x, y] := fun i hi => by
  refine ⟨B, 0, rfl, ?_⟩
  rcases (by simp at hi; omega : i = 0 ∨ i = 1) with rfl | rfl
  · exact h0
  · exact h1

theorem Sum_ex (w : World) (B : Nat) (hp : 0 < w.heap.size) (hk : KstAt w) (h0 : w.cell? ⟨B, 0, none⟩ = some (.string ⟨#[97, 98]⟩)) (h1 : w.cell? ⟨B, 1, none⟩ = some (.string ⟨#[99]⟩)) :
    Calls Tryd.prog 46 #[.slice (some ⟨B, 0, none⟩) 2 2] w fun e w' => e = .returned (.string ⟨(sha [97, 98, 99]).toArray⟩) ∧ Below w.heap.size w w' :=
  Sum_any (some ⟨B, 0, none⟩) [⟨#[97, 98]⟩, ⟨#[99]⟩] 2 2 rfl (by decide) w hp hk (strAt2 h0 h1) (fun s hs => by simp at hs; rcases hs with rfl | rfl <;> decide)
theorem sha_len (l : List UInt8) : (sha l).length = 32 := rfl

/-- What a call needs of the memory. -/
def Kh (w : World) : Prop := 0 < w.heap.size ∧ KstAt w
theorem Kh.later {w w' : World} (h : Kh w) (hb : Below w.heap.size w w') : Kh w' := ⟨Nat.lt_of_lt_of_le h.1 hb.size, h.2.later hb h.1⟩
theorem Kh.alloc {w : World} (h : Kh w) (o : Obj) : Kh (w.alloc o) := h.later ((Below.refl _ _).alloc (Nat.le_refl _) _)

end Go.Proofs.YtdepjiocmbbdpaaDoor
