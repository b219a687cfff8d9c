/- The document's digest. -/
import Derived.Test.YtdebfelgaiofeadDoorKR5
namespace Go.Proofs.YtdebfelgaiofeadDoor
open Go.RowKit Go.Proofs.Fd Go.Proofs.Hs

theorem at8_below {B : Nat} {W w1 : World} {b : Nat} {x0 x1 x2 x3 x4 x5 x6 x7 : Value} (h : At8 W b x0 x1 x2 x3 x4 x5 x6 x7) (hb : Below B W w1) (hl : b < B) : At8 w1 b x0 x1 x2 x3 x4 x5 x6 x7 := by
  obtain ⟨f, h0, h1, h2, h3, h4, h5, h6, h7⟩ := h
  exact ⟨fun o => (hb.frozen hl).trans (f o), (hb.cell hl).trans h0, (hb.cell hl).trans h1, (hb.cell hl).trans h2, (hb.cell hl).trans h3, (hb.cell hl).trans h4, (hb.cell hl).trans h5, (hb.cell hl).trans h6, (hb.cell hl).trans h7⟩
theorem at8_at {w : World} {b : Nat} {v : V8} (h : At8 w b (.int .u32 (tv v.a)) (.int .u32 (tv v.b)) (.int .u32 (tv v.c)) (.int .u32 (tv v.d)) (.int .u32 (tv v.e)) (.int .u32 (tv v.f)) (.int .u32 (tv v.g)) (.int .u32 (tv v.h))) (j : Nat) (hj : j < 8) : w.cell? ⟨b, j, none⟩ = some (.int .u32 (tv ((V8.l v).getD j 0))) := by
  obtain ⟨f, h0, h1, h2, h3, h4, h5, h6, h7⟩ := h
  rcases (by omega : j = 0 ∨ j = 1 ∨ j = 2 ∨ j = 3 ∨ j = 4 ∨ j = 5 ∨ j = 6 ∨ j = 7) with rfl | rfl | rfl | rfl | rfl | rfl | rfl | rfl
  · exact h0
  · exact h1
  · exact h2
  · exact h3
  · exact h4
  · exact h5
  · exact h6
  · exact h7
theorem w4_at (x : UInt32) (t : Nat) (ht : t < 4) : (w4 x).take (t + 1) = (w4 x).take t ++ [UInt8.ofNat (x.toNat / 2 ^ (8 * (3 - t)))] := by
  rcases (by omega : t = 0 ∨ t = 1 ∨ t = 2 ∨ t = 3) with rfl | rfl | rfl | rfl
  · rfl
  · rfl
  · rfl
  · simp [w4]
theorem outs_step (v : V8) (q : Nat) (hq : q < 8) : outs v (q + 1) = outs v q ++ w4 ((V8.l v).getD q 0) := by
  unfold outs
  have hl : (V8.l v).length = 8 := rfl
  rw [List.take_succ_eq_append_getElem (by omega), List.flatMap_append, List.flatMap_singleton, List.getD_eq_getElem?_getD, List.getElem?_eq_getElem (by omega)]
  rfl

end Go.Proofs.YtdebfelgaiofeadDoor
