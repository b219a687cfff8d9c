/- The program's wide layer: halves turned. -/
import Derived.Test.YtbkefhfbbhdpcaaDoorWQ1
import Derived.Test.YtbkefhfbbhdpcaaDoorWRp
import Derived.Test.YtbkefhfbbhdpcaaDoorRP
namespace Go.Proofs.YtbkefhfbbhdpcaaDoor
open Go.RowKit Go.Proofs.Fd Go.Proofs.Hs Go.Proofs.Cc Go.Proofs.Wd

/-- Block g holds the four keys, the left and the right, and may be written. -/
def HAt (w : World) (g : Nat) (k0 k1 k2 k3 l r : ByteArray) : Prop :=
  (∀ o, w.frozen? ⟨g, o, none⟩ = false) ∧ w.cell? ⟨g, 0, none⟩ = some (.string k0) ∧ w.cell? ⟨g, 1, none⟩ = some (.string k1) ∧ w.cell? ⟨g, 2, none⟩ = some (.string k2) ∧ w.cell? ⟨g, 3, none⟩ = some (.string k3) ∧ w.cell? ⟨g, 4, none⟩ = some (.string l) ∧ w.cell? ⟨g, 5, none⟩ = some (.string r)
theorem HAt.later {w w' : World} {g : Nat} {k0 k1 k2 k3 l r : ByteArray} (h : HAt w g k0 k1 k2 k3 l r) (hb : Below w.heap.size w w') : HAt w' g k0 k1 k2 k3 l r := by
  obtain ⟨f, h0, h1, h2, h3, h4, h5⟩ := h
  exact ⟨fun o => (frozen_kept hb (World.block_lt_of_cell? _ _ h0)).trans (f o), cell_later hb h0, cell_later hb h1, cell_later hb h2, cell_later hb h3, cell_later hb h4, cell_later hb h5⟩
theorem HAt.setR {w : World} {g : Nat} {k0 k1 k2 k3 l r : ByteArray} (h : HAt w g k0 k1 k2 k3 l r) (x : ByteArray) : HAt (w.setCell ⟨g, 5, none⟩ (.string x)) g k0 k1 k2 k3 l x := by
  obtain ⟨f, h0, h1, h2, h3, h4, h5⟩ := h
  refine ⟨fun o => by simp [go_sem, f], ?_, ?_, ?_, ?_, ?_, ?_⟩ <;> simp [go_sem, h0, h1, h2, h3, h4, h5]
theorem HAt.setL {w : World} {g : Nat} {k0 k1 k2 k3 l r : ByteArray} (h : HAt w g k0 k1 k2 k3 l r) (x : ByteArray) : HAt (w.setCell ⟨g, 4, none⟩ (.string x)) g k0 k1 k2 k3 x r := by
  obtain ⟨f, h0, h1, h2, h3, h4, h5⟩ := h
  refine ⟨fun o => by simp [go_sem, f], ?_, ?_, ?_, ?_, ?_, ?_⟩ <;> simp [go_sem, h0, h1, h2, h3, h4, h5]
theorem HAt.drew {w : World} {g : Nat} {k0 k1 k2 k3 l r : ByteArray} (h : HAt w g k0 k1 k2 k3 l r) : HAt w.drew g k0 k1 k2 k3 l r := h
theorem HAt.lt {w : World} {g : Nat} {k0 k1 k2 k3 l r : ByteArray} (h : HAt w g k0 k1 k2 k3 l r) : g < w.heap.size := World.block_lt_of_cell? _ _ h.2.1

set_option maxHeartbeats 1000000 in
theorem turnRight_any (g : Nat) (k0 k1 k2 k3 L R k : ByteArray) (hk : Hid (k.size = 32)) (hL : Hid (L.size = 32)) (hR : Hid (R.size ≤ 8192)) (w : World) (hH : Hid (HAt w g k0 k1 k2 k3 L R)) :
    Calls Tryd.prog 29 #[.pointer (some ⟨g, 0, none⟩), .string k] w fun e w' => e = .returned (.tuple #[]) ∧ HAt w' g k0 k1 k2 k3 L ⟨(stR k.data.toList L.data.toList R.data.toList).toArray⟩ ∧ Below g w w' := by
  obtain ⟨X, hX⟩ : ∃ X : ByteArray, ⟨(xorl L.data.toList k.data.toList).toArray⟩ = X := ⟨_, rfl⟩
  have sX : X.size = 32 := by rw [← hX, ba_sz, xorl_len _ _ (by rw [list_sz, list_sz, hL.out, hk.out]; exact Nat.le_refl _), list_sz, hL.out]
  obtain ⟨Z, hZ⟩ : ∃ Z : ByteArray, ⟨#[0, 0, 0, 0, 0, 0, 0, 0, 0, 0, 0, 0]⟩ = Z := ⟨_, rfl⟩
  obtain ⟨Y, hY⟩ : ∃ Y : ByteArray, ⟨(stR k.data.toList L.data.toList R.data.toList).toArray⟩ = Y := ⟨_, rfl⟩
  have XO : Hid (∀ w, Calls Tryd.prog 38 #[.string L, .string k] w fun e w' => e = .returned (.string X) ∧ Below w.heap.size w w') := fun w => by
    rw [← hX]; exact xored_any L k (by rw [hL.out]; decide) (by rw [hL.out, hk.out]; exact Nat.le_refl _) w
  have RE : Hid (∀ w, Calls Tryd.prog 39 #[.string ⟨#[0]⟩, .int .i64 12] w fun e w' => e = .returned (.string Z) ∧ Below w.heap.size w w') := fun w => by
    rw [← hZ]; exact rep12 w
  have SX : Hid (∀ w, Calls Tryd.prog 37 #[.string X, .string Z, .int .i64 0, .string R] w fun e w' => e = .returned (.tuple #[.string Y, .int .i64 0]) ∧ Below w.heap.size w w') := fun w => by
    have h := sXor_ok X Z 0 R (by show X.size = 32; exact sX) (by rw [← hZ]; exact rfl) (by have := hR.out; omega) w
    have e : (⟨(xorl R.data.toList (strm X.data.toList Z.data.toList 0 R.size)).toArray⟩ : ByteArray) = Y := by
      rw [← hY, ← hX, ← hZ]
      unfold stR
      rw [list_sz]
      rfl
    rw [e] at h
    exact h
  rw [hY]
  clear hX hZ hY sX
  obtain ⟨fz, -, -, -, -, c4, c5⟩ := hH.out
  have f5 := fz 5
  go_enter Tryd.func29, Tryd.ntmps29
  go_wp2
  go_region_with (first | (go_at_call 38; refine Calls.mono (XO.out _) ?_; rintro e w1 ⟨rfl, hb1⟩; have H1 : Hid (HAt w1 g k0 k1 k2 k3 L R) := HAt.later (HAt.drew hH.out) hb1; have c51 := H1.out.2.2.2.2.2.2) | (go_at_call 39; refine Calls.mono (RE.out _) ?_; rintro e w2 ⟨rfl, hb2⟩; have H2 : Hid (HAt w2 g k0 k1 k2 k3 L R) := HAt.later H1.out hb2; have c52 := H2.out.2.2.2.2.2.2) | (go_at_call 37; refine Calls.mono (SX.out _) ?_; rintro e w3 ⟨rfl, hb3⟩; have H3 : Hid (HAt w3 g k0 k1 k2 k3 L R) := HAt.later H2.out hb3; have c53 := H3.out.2.2.2.2.2.2; have f53 := H3.out.1 5))
  all_goals
    exact bodyPost_end (results_none Tryd.results29 _ _ _) rfl ⟨rfl, H3.out.setR Y, ((chain (chain (chain (Below.refl _ _).drew hb1) hb2) hb3).mono (Nat.le_of_lt hH.out.lt)).setCell (p := ⟨g, 5, none⟩) (Nat.le_refl _) _⟩
end Go.Proofs.YtbkefhfbbhdpcaaDoor
