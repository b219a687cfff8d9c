/- What the program's commands answer, as contracts; the example. -/
import Derived.Test.YthcopaeelbaobaaRD4
namespace Go.Proofs.Ythcopaeelbaobaa
open Go.RowKit Go.Proofs.Fd Go.Proofs.Rt
set_option maxRecDepth 20000

/-- Contracts of the layer. -/
def CheckC : Prop := ∀ (h : Hp) (w : World), Hid (h.id.size ≤ 140737488355328) →
    Calls Try.prog 11 #[hv h] w fun e w' => e = .returned (.int .i64 (chk h)) ∧ Below w.heap.size w w'
def EncodeC : Prop := ∀ (h : Hp) (w : World), Hid (h.id.size ≤ 140737488355328) →
    Calls Try.prog 9 #[hv h] w fun e w' => e = .returned (.tuple (enV h)) ∧ Below w.heap.size w w'
def DecodeC : Prop := ∀ (b : ByteArray) (w : World), Hid (b.size ≤ 140737488355328) →
    Calls Try.prog 14 #[.string b] w fun e w' => e = .returned (.tuple (dcV b)) ∧ Below w.heap.size w w'
def PathC : Prop := ∀ (a : Option Addr) (hs : List Hp) (n cap : Nat) (w : World), Hid (hs.length = n) → Hid (n ≤ 140737488355328) → Hid (∀ h ∈ hs, h.id.size ≤ 140737488355328) → Hid (HopsAt w a hs) →
    Calls Try.prog 16 #[.slice a n cap] w fun e w' => e = .returned (.int .i64 (pth hs)) ∧ Below w.heap.size w w'
theorem hops_none (w : World) (a : Option Addr) : HopsAt w a [] := fun i hi => by simp at hi
theorem hops_two (w : World) (t : TypeId) (x y : Hp) : HopsAt (w.alloc (.cells #[.int .i64 x.k, .int .i64 x.n, .int .i64 x.u, .int .i64 x.d, .string x.id, .int .i64 y.k, .int .i64 y.n, .int .i64 y.u, .int .i64 y.d, .string y.id] t)) (some ⟨w.heap.size, 0, none⟩) [x, y] := fun i hi => by
  rcases (by simp at hi; omega : i = 0 ∨ i = 1) with rfl | rfl
  · exact ⟨w.heap.size, 0, rfl, by simp [go_sem], by simp [go_sem], by simp [go_sem], by simp [go_sem], by simp [go_sem]⟩
  · exact ⟨w.heap.size, 0, rfl, by simp [go_sem], by simp [go_sem], by simp [go_sem], by simp [go_sem], by simp [go_sem]⟩

theorem make20 (w : World) : ∃ W : World, (Instr.makeSlice 40 (.int .i64 20) (.int .i64 20)).run Try.prog w = .ok (.slice (some ⟨w.heap.size, 0, none⟩) 20 20) W
    ∧ (convert 40 9 (.slice (some ⟨w.heap.size, 0, none⟩) 20 20)).run Try.prog W = .ok (.string ⟨#[0, 0, 0, 0, 0, 0, 0, 0, 0, 0, 0, 0, 0, 0, 0, 0, 0, 0, 0, 0]⟩) W ∧ Below w.heap.size w W := by
  have hB : BytesAt (w.alloc (.cells (Array.replicate 20 (.int .u8 0)) 5)) w.heap.size (List.replicate 20 0) := fun j hj => by
    have hj' : j < 20 := by simpa using hj
    refine ⟨?_, by simp [go_sem]⟩
    rw [World.cell?_alloc_new, List.getElem_replicate, Array.getElem?_replicate, if_pos hj']
    rfl
  exact ⟨w.alloc (.cells (Array.replicate 20 (.int .u8 0)) 5), by kernel_rfl, hB.string (cap := 20) (n := 20) rfl, (Below.refl _ _).alloc (Nat.le_refl _) _⟩

set_option maxHeartbeats 1000000 in
theorem works7_any (CE : Hid EncodeC) (CP : Hid PathC) (w : World) :
    Calls Try.prog 13 #[] w fun e w' => e = .returned (.bool true) ∧ Below w.heap.size w w' := by
  have E1 : Hid (∀ w, Calls Try.prog 9 #[.agg #[.int .i64 1, .int .i64 3, .int .i64 0, .int .i64 258, .string ⟨#[]⟩]] w fun e w' => e = .returned (.tuple #[.string ⟨#[1, 3, 1, 2, 0, 0, 0, 0, 0, 0, 0, 0, 0, 0, 0, 0, 0, 0, 0, 0, 0, 0, 0, 0]⟩, .int .i64 0]) ∧ Below w.heap.size w w') := fun w => by
    have h := CE.out ⟨1, 3, 0, 258, ⟨#[]⟩⟩ w (by show (0 : Nat) ≤ _; decide)
    rw [enV_ok _ (by decide)] at h
    exact h
  have P1 : Hid (∀ (B : Nat) (w : World), HopsAt w (some ⟨B, 0, none⟩) [⟨1, 0, 0, 0, ⟨#[]⟩⟩, ⟨4, 0, 0, 0, ⟨#[]⟩⟩] → Calls Try.prog 16 #[.slice (some ⟨B, 0, none⟩) 2 2] w fun e w' => e = .returned (.int .i64 0) ∧ Below w.heap.size w w') := fun B w h => by
    have := CP.out (some ⟨B, 0, none⟩) [⟨1, 0, 0, 0, ⟨#[]⟩⟩, ⟨4, 0, 0, 0, ⟨#[]⟩⟩] 2 2 w rfl (by show (2 : Nat) ≤ _; decide) (fun x hx => by
      simp at hx
      rcases hx with rfl | rfl
      · show (0 : Nat) ≤ _; decide
      · show (0 : Nat) ≤ _; decide) h
    have e : pth [⟨1, 0, 0, 0, ⟨#[]⟩⟩, ⟨4, 0, 0, 0, ⟨#[]⟩⟩] = 0 := by decide
    rw [e] at this
    exact this
  have P2 : Hid (∀ (w : World), Calls Try.prog 16 #[.slice none 0 0] w fun e w' => e = .returned (.int .i64 4) ∧ Below w.heap.size w w') := fun w =>
    CP.out none [] 0 0 w rfl (by show (0 : Nat) ≤ _; decide) (fun x hx => by simp at hx) (hops_none _ _)
  clear CE CP
  obtain ⟨Y, hY⟩ : ∃ Y : ByteArray, ⟨#[1, 3, 1, 2, 0, 0, 0, 0, 0, 0, 0, 0, 0, 0, 0, 0, 0, 0, 0, 0, 0, 0, 0, 0]⟩ = Y := ⟨_, rfl⟩
  obtain ⟨Z, hZ⟩ : ∃ Y : ByteArray, ⟨#[0, 0, 0, 0, 0, 0, 0, 0, 0, 0, 0, 0, 0, 0, 0, 0, 0, 0, 0, 0]⟩ = Y := ⟨_, rfl⟩
  have YZ : ⟨#[1, 3, 1, 2]⟩ ++ Z = Y := by rw [← hY, ← hZ]; decide
  have zs : (⟨#[1, 3, 1, 2]⟩ : ByteArray).size + Z.size ≤ 9223372036854775807 := by rw [← hZ]; decide
  have AD : ∀ w, (Op.stringOp .add ⟨#[1, 3, 1, 2]⟩ Z).run Try.prog w = .ok (.string Y) w := fun w => by rw [← YZ]; exact run_string_add_sum _ _ _ zs
  have YY : (Y.toList == Y.toList) = true := by simp
  rw [hY] at E1
  clear YZ zs
  go_enter Try.func13, Try.ntmps13
  go_wp2_with fail
  refine Calls.mono (E1.out _) ?_
  rintro e w1 ⟨rfl, hb1⟩
  have B1 : Hid (Below w.heap.size w w1) := hb1
  clear hb1 E1
  obtain ⟨W, CM, CV, bW⟩ := make20 w1
  rw [hZ] at CV
  clear hY hZ
  have BW : Hid (Below w.heap.size w W) := chain B1.out bW
  clear bW
  go_wp2_with fail
  refine Calls.mono (P1.out _ _ (hops_two W _ ⟨1, 0, 0, 0, ⟨#[]⟩⟩ ⟨4, 0, 0, 0, ⟨#[]⟩⟩)) ?_
  rintro e w2 ⟨rfl, hb2⟩
  have B2 : Hid (Below w.heap.size w w2) := chain (chain BW.out ((Below.refl _ _).alloc (Nat.le_refl _) _)) hb2
  clear hb2 P1 CM CV
  go_wp2_with fail
  refine Calls.mono (P2.out _) ?_
  rintro e w3 ⟨rfl, hb3⟩
  have B3 : Hid (Below w.heap.size w w3) := chain B2.out hb3
  clear hb3 P2
  go_wp2
  go_ret
  exact ⟨rfl, B3.out⟩
end Go.Proofs.Ythcopaeelbaobaa
