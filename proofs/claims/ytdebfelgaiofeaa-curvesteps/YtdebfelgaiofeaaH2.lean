/- More small facts on cells that stay as they are. -/
import Derived.Test.YtdebfelgaiofeaaH
namespace Go.Proofs.Fd
open Go.RowKit

theorem frozen_setCell {W : World} {b : Addr} {x : Value} {a : Addr} (hne : b.block ≠ a.block) : (W.setCell b x).frozen? a = W.frozen? a :=
  World.frozen?_of_block (Below.heap_setCell W b x a.block (Ne.symm hne))

theorem At4.set {W : World} {b : Nat} {x0 x1 x2 x3 : Value} (h : At4 W b x0 x1 x2 x3) {a : Addr} (hne : a.block ≠ b) (v : Value) : At4 (W.setCell a v) b x0 x1 x2 x3 := by
  obtain ⟨f, h0, h1, h2, h3⟩ := h
  exact ⟨fun o => (frozen_setCell hne).trans (f o), cell_setCell h0 hne, cell_setCell h1 hne, cell_setCell h2 hne, cell_setCell h3 hne⟩

theorem At8.set {W : World} {b : Nat} {x0 x1 x2 x3 x4 x5 x6 x7 : Value} (h : At8 W b x0 x1 x2 x3 x4 x5 x6 x7) {a : Addr} (hne : a.block ≠ b) (v : Value) : At8 (W.setCell a v) b x0 x1 x2 x3 x4 x5 x6 x7 := by
  obtain ⟨f, h0, h1, h2, h3, h4, h5, h6, h7⟩ := h
  exact ⟨fun o => (frozen_setCell hne).trans (f o), cell_setCell h0 hne, cell_setCell h1 hne, cell_setCell h2 hne, cell_setCell h3 hne, cell_setCell h4 hne, cell_setCell h5 hne, cell_setCell h6 hne, cell_setCell h7 hne⟩

theorem At4.drew {W : World} {b : Nat} {x0 x1 x2 x3 : Value} (h : At4 W b x0 x1 x2 x3) : At4 W.drew b x0 x1 x2 x3 := h
theorem At8.drew {W : World} {b : Nat} {x0 x1 x2 x3 x4 x5 x6 x7 : Value} (h : At8 W b x0 x1 x2 x3 x4 x5 x6 x7) : At8 W.drew b x0 x1 x2 x3 x4 x5 x6 x7 := h

theorem At4.whole {w : World} {b : Nat} {x0 x1 x2 x3 : Value} (h : At4 w b x0 x1 x2 x3) (y0 y1 y2 y3 : Value) :
    At4 ((((w.setCell ⟨b, 0, none⟩ y0).setCell ⟨b, 1, none⟩ y1).setCell ⟨b, 2, none⟩ y2).setCell ⟨b, 3, none⟩ y3) b y0 y1 y2 y3 := by
  obtain ⟨f, h0, h1, h2, h3⟩ := h
  refine ⟨fun o => by simp [go_sem, f], ?_, ?_, ?_, ?_⟩ <;> simp [go_sem, h0, h1, h2, h3]

theorem At4.put {w : World} {b c : Nat} {x0 x1 x2 x3 : Value} (h : At4 w b x0 x1 x2 x3) (hne : c ≠ b) (y0 y1 y2 y3 : Value) :
    At4 ((((w.setCell ⟨c, 0, none⟩ y0).setCell ⟨c, 1, none⟩ y1).setCell ⟨c, 2, none⟩ y2).setCell ⟨c, 3, none⟩ y3) b x0 x1 x2 x3 :=
  ((((h.set (a := ⟨c, 0, none⟩) hne _).set (a := ⟨c, 1, none⟩) hne _).set (a := ⟨c, 2, none⟩) hne _).set (a := ⟨c, 3, none⟩) hne _)

theorem below_put {B : Nat} {a w : World} (h : Below B a w) {c : Nat} (hc : B ≤ c) (y0 y1 y2 y3 : Value) :
    Below B a ((((w.setCell ⟨c, 0, none⟩ y0).setCell ⟨c, 1, none⟩ y1).setCell ⟨c, 2, none⟩ y2).setCell ⟨c, 3, none⟩ y3) :=
  (((h.setCell (p := ⟨c, 0, none⟩) hc _).setCell (p := ⟨c, 1, none⟩) hc _).setCell (p := ⟨c, 2, none⟩) hc _).setCell (p := ⟨c, 3, none⟩) hc _

end Go.Proofs.Fd
