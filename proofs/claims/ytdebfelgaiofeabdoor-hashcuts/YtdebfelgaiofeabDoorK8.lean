/- The chapter's example holds: works answers true. -/
import Derived.Test.YtdebfelgaiofeabDoorK7
namespace Go.Proofs.YtdebfelgaiofeabDoor
open Go.RowKit Go.Proofs.Fd Go.Proofs.Hs

theorem ex_hex : (⟨(hxs (sha [97, 98, 99])).toArray⟩ : ByteArray) = ⟨#[98, 97, 55, 56, 49, 54, 98, 102, 56, 102, 48, 49, 99, 102, 101, 97, 52, 49, 52, 49, 52, 48, 100, 101, 53, 100, 97, 101, 50, 50, 50, 51, 98, 48, 48, 51, 54, 49, 97, 51, 57, 54, 49, 55, 55, 97, 57, 99, 98, 52, 49, 48, 102, 102, 54, 49, 102, 50, 48, 48, 49, 53, 97, 100]⟩ := by decide +kernel
theorem ex_bind : (⟨(sha (be8 2 ++ [97, 98] ++ (be8 1 ++ [99]))).toArray⟩ : ByteArray) ≠ ⟨(sha (be8 1 ++ [97] ++ (be8 2 ++ [98, 99]))).toArray⟩ := by decide +kernel

theorem bytes_ext {a b : ByteArray} (h : a.toList = b.toList) : a = b := by
  rw [ByteArray.toList_eq, ByteArray.toList_eq] at h
  cases a; cases b
  congr 1
  exact Array.ext' h

theorem strAt2 {w : World} {B : Nat} {x y : ByteArray} (h0 : w.cell? ⟨B, 0, none⟩ = some (.string x)) (h1 : w.cell? ⟨B, 1, none⟩ = some (.string y)) : StrAt w (some ⟨B, 0, none⟩) [x, y] := fun i hi => by
  refine ⟨B, 0, rfl, ?_⟩
  rcases (by simp at hi; omega : i = 0 ∨ i = 1) with rfl | rfl
  · exact h0
  · exact h1

theorem Sum_ex (w : World) (B : Nat) (hp : 0 < w.heap.size) (hk : KstAt w) (h0 : w.cell? ⟨B, 0, none⟩ = some (.string ⟨#[97, 98]⟩)) (h1 : w.cell? ⟨B, 1, none⟩ = some (.string ⟨#[99]⟩)) :
    Calls Tryd.prog 9 #[.slice (some ⟨B, 0, none⟩) 2 2] w fun e w' => e = .returned (.string ⟨(sha [97, 98, 99]).toArray⟩) ∧ Below w.heap.size w w' :=
  Sum_any (some ⟨B, 0, none⟩) [⟨#[97, 98]⟩, ⟨#[99]⟩] 2 2 rfl (by decide) w hp hk (strAt2 h0 h1) (fun s hs => by simp at hs; rcases hs with rfl | rfl <;> decide)
theorem Bind_ex1 (w : World) (B : Nat) (hp : 0 < w.heap.size) (hk : KstAt w) (h0 : w.cell? ⟨B, 0, none⟩ = some (.string ⟨#[97, 98]⟩)) (h1 : w.cell? ⟨B, 1, none⟩ = some (.string ⟨#[99]⟩)) :
    Calls Tryd.prog 15 #[.slice (some ⟨B, 0, none⟩) 2 2] w fun e w' => e = .returned (.string ⟨(sha (be8 2 ++ [97, 98] ++ (be8 1 ++ [99]))).toArray⟩) ∧ Below w.heap.size w w' :=
  Bind_any (some ⟨B, 0, none⟩) [⟨#[97, 98]⟩, ⟨#[99]⟩] 2 2 rfl (by decide) w hp hk (strAt2 h0 h1) (fun s hs => by simp at hs; rcases hs with rfl | rfl <;> decide)
theorem Bind_ex2 (w : World) (B : Nat) (hp : 0 < w.heap.size) (hk : KstAt w) (h0 : w.cell? ⟨B, 0, none⟩ = some (.string ⟨#[97]⟩)) (h1 : w.cell? ⟨B, 1, none⟩ = some (.string ⟨#[98, 99]⟩)) :
    Calls Tryd.prog 15 #[.slice (some ⟨B, 0, none⟩) 2 2] w fun e w' => e = .returned (.string ⟨(sha (be8 1 ++ [97] ++ (be8 2 ++ [98, 99]))).toArray⟩) ∧ Below w.heap.size w w' :=
  Bind_any (some ⟨B, 0, none⟩) [⟨#[97]⟩, ⟨#[98, 99]⟩] 2 2 rfl (by decide) w hp hk (strAt2 h0 h1) (fun s hs => by simp at hs; rcases hs with rfl | rfl <;> decide)
theorem sha_len (l : List UInt8) : (sha l).length = 32 := rfl

/-- What a call needs of the memory. -/
def Kh (w : World) : Prop := 0 < w.heap.size ∧ KstAt w
theorem Kh.later {w w' : World} (h : Kh w) (hb : Below w.heap.size w w') : Kh w' := ⟨Nat.lt_of_lt_of_le h.1 hb.size, h.2.later hb h.1⟩
theorem Kh.alloc {w : World} (h : Kh w) (o : Obj) : Kh (w.alloc o) := h.later ((Below.refl _ _).alloc (Nat.le_refl _) _)

set_option maxHeartbeats 1000000 in
theorem works_any (w : World) (hk : Hid (Kh w)) :
    Calls Tryd.prog 11 #[] w fun e w' => e = .returned (.bool true) ∧ Below w.heap.size w w' := by
  have S1 : Hid (∀ (B : Nat) (w : World), Kh w → w.cell? ⟨B, 0, none⟩ = some (.string ⟨#[97, 98]⟩) → w.cell? ⟨B, 1, none⟩ = some (.string ⟨#[99]⟩) → Calls Tryd.prog 9 #[.slice (some ⟨B, 0, none⟩) 2 2] w fun e w' => e = .returned (.string ⟨(sha [97, 98, 99]).toArray⟩) ∧ Below w.heap.size w w') := fun B w h h0 h1 => Sum_ex w B h.1 h.2 h0 h1
  have S2 : Hid (∀ (B : Nat) (w : World), Kh w → w.cell? ⟨B, 0, none⟩ = some (.string ⟨#[97, 98]⟩) → w.cell? ⟨B, 1, none⟩ = some (.string ⟨#[99]⟩) → Calls Tryd.prog 15 #[.slice (some ⟨B, 0, none⟩) 2 2] w fun e w' => e = .returned (.string ⟨(sha (be8 2 ++ [97, 98] ++ (be8 1 ++ [99]))).toArray⟩) ∧ Below w.heap.size w w') := fun B w h h0 h1 => Bind_ex1 w B h.1 h.2 h0 h1
  have S3 : Hid (∀ (B : Nat) (w : World), Kh w → w.cell? ⟨B, 0, none⟩ = some (.string ⟨#[97]⟩) → w.cell? ⟨B, 1, none⟩ = some (.string ⟨#[98, 99]⟩) → Calls Tryd.prog 15 #[.slice (some ⟨B, 0, none⟩) 2 2] w fun e w' => e = .returned (.string ⟨(sha (be8 1 ++ [97] ++ (be8 2 ++ [98, 99]))).toArray⟩) ∧ Below w.heap.size w w') := fun B w h h0 h1 => Bind_ex2 w B h.1 h.2 h0 h1
  have H1 : Hid (∀ w, Calls Tryd.prog 17 #[.string ⟨(sha [97, 98, 99]).toArray⟩] w fun e w' => e = .returned (.string ⟨#[98, 97, 55, 56, 49, 54, 98, 102, 56, 102, 48, 49, 99, 102, 101, 97, 52, 49, 52, 49, 52, 48, 100, 101, 53, 100, 97, 101, 50, 50, 50, 51, 98, 48, 48, 51, 54, 49, 97, 51, 57, 54, 49, 55, 55, 97, 57, 99, 98, 52, 49, 48, 102, 102, 54, 49, 102, 50, 48, 48, 49, 53, 97, 100]⟩) ∧ Below w.heap.size w w') := fun w => by
    have h := Hex_any ⟨(sha [97, 98, 99]).toArray⟩ (by show 2 * (sha [97, 98, 99]).toArray.size ≤ _; simp [sha_len]) w
    rw [show (⟨(sha [97, 98, 99]).toArray⟩ : ByteArray).data.toList = sha [97, 98, 99] from rfl, ex_hex] at h
    exact h
  have hne := ex_bind
  generalize (⟨(sha (be8 2 ++ [97, 98] ++ (be8 1 ++ [99]))).toArray⟩ : ByteArray) = X2 at *
  generalize (⟨(sha (be8 1 ++ [97] ++ (be8 2 ++ [98, 99]))).toArray⟩ : ByteArray) = X3 at *
  generalize (⟨(sha [97, 98, 99]).toArray⟩ : ByteArray) = X1 at *
  have hd : (X2.toList == X3.toList) = false := by
    have h : X2.toList ≠ X3.toList := fun h => hne (bytes_ext h)
    simpa using h
  go_enter Tryd.func11, Tryd.ntmps11
  go_wp2_with fail
  refine Calls.mono (S1.out w.heap.size _ (hk.out.alloc _) (by simp [go_sem]) (by simp [go_sem])) ?_
  rintro e w1 ⟨rfl, hb⟩
  have B1 : Hid (Below w.heap.size w w1 ∧ Kh w1) := ⟨chain ((Below.refl _ _).alloc (Nat.le_refl _) _) hb, (hk.out.alloc _).later hb⟩
  clear hb
  go_wp2_with fail
  refine Calls.mono (H1.out _) ?_
  rintro e w2 ⟨rfl, hb⟩
  have B2 : Hid (Below w.heap.size w w2 ∧ Kh w2) := ⟨chain B1.out.1 hb, B1.out.2.later hb⟩
  clear hb
  go_wp2_with fail
  refine Calls.mono (S2.out w2.heap.size _ (B2.out.2.alloc _) (by simp [go_sem]) (by simp [go_sem])) ?_
  rintro e w3 ⟨rfl, hb⟩
  have B3 : Hid (Below w.heap.size w w3 ∧ Kh w3) := ⟨chain (B2.out.1.alloc B2.out.1.size _) hb, (B2.out.2.alloc _).later hb⟩
  clear hb
  go_wp2_with fail
  refine Calls.mono (S3.out w3.heap.size _ (B3.out.2.alloc _) (by simp [go_sem]) (by simp [go_sem])) ?_
  rintro e w4 ⟨rfl, hb⟩
  have B4 : Hid (Below w.heap.size w w4) := chain (B3.out.1.alloc B3.out.1.size _) hb
  clear hb
  go_wp2
  go_ret
  exact ⟨rfl, B4.out⟩
end Go.Proofs.YtdebfelgaiofeabDoor
