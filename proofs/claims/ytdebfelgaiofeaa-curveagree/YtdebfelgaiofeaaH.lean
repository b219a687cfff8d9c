/- Small facts on cells that stay as they are while others are made. -/
import Derived.Test.YtdebfelgaiofeaaMA
import Derived.WalkKit
import Derived.WalkSpells
namespace Go.Proofs.Fd
open Go.RowKit

theorem cell_kept {W w1 : World} {b o : Nat} (hb : Below W.heap.size W w1) (hl : b < W.heap.size) : w1.cell? ⟨b, o, none⟩ = W.cell? ⟨b, o, none⟩ := hb.cell hl
theorem frozen_kept {W w1 : World} {b o : Nat} (hb : Below W.heap.size W w1) (hl : b < W.heap.size) : w1.frozen? ⟨b, o, none⟩ = W.frozen? ⟨b, o, none⟩ := hb.frozen hl

theorem cell_alloc {W : World} {o : Obj} {a : Addr} {v : Value} (h : W.cell? a = some v) : (W.alloc o).cell? a = some v := cell_later ((Below.refl _ W).alloc (Nat.le_refl _) o) h
theorem cell_drew {W : World} {a : Addr} {v : Value} (h : W.cell? a = some v) : W.drew.cell? a = some v := h
theorem cell_setCell {W : World} {b : Addr} {x : Value} {a : Addr} {v : Value} (h : W.cell? a = some v) (hne : b.block ≠ a.block) : (W.setCell b x).cell? a = some v :=
  (World.cell?_of_block (Below.heap_setCell W b x a.block (Ne.symm hne))).trans h

/-- Block b holds these four values, and may be written. -/
def At4 (w : World) (b : Nat) (x0 x1 x2 x3 : Value) : Prop :=
  (∀ o, w.frozen? ⟨b, o, none⟩ = false) ∧ w.cell? ⟨b, 0, none⟩ = some x0 ∧ w.cell? ⟨b, 1, none⟩ = some x1 ∧ w.cell? ⟨b, 2, none⟩ = some x2 ∧ w.cell? ⟨b, 3, none⟩ = some x3

theorem At4.later {W w1 : World} {b : Nat} {x0 x1 x2 x3 : Value} (h : At4 W b x0 x1 x2 x3) (hb : Below W.heap.size W w1) : At4 w1 b x0 x1 x2 x3 := by
  obtain ⟨f, h0, h1, h2, h3⟩ := h
  have hl : b < W.heap.size := World.block_lt_of_cell? _ _ h0
  exact ⟨fun o => (frozen_kept hb hl).trans (f o), cell_later hb h0, cell_later hb h1, cell_later hb h2, cell_later hb h3⟩

/-- Block b holds these eight values, and may be written. -/
def At8 (w : World) (b : Nat) (x0 x1 x2 x3 x4 x5 x6 x7 : Value) : Prop :=
  (∀ o, w.frozen? ⟨b, o, none⟩ = false) ∧ w.cell? ⟨b, 0, none⟩ = some x0 ∧ w.cell? ⟨b, 1, none⟩ = some x1 ∧ w.cell? ⟨b, 2, none⟩ = some x2 ∧ w.cell? ⟨b, 3, none⟩ = some x3
    ∧ w.cell? ⟨b, 4, none⟩ = some x4 ∧ w.cell? ⟨b, 5, none⟩ = some x5 ∧ w.cell? ⟨b, 6, none⟩ = some x6 ∧ w.cell? ⟨b, 7, none⟩ = some x7

theorem At8.later {W w1 : World} {b : Nat} {x0 x1 x2 x3 x4 x5 x6 x7 : Value} (h : At8 W b x0 x1 x2 x3 x4 x5 x6 x7) (hb : Below W.heap.size W w1) : At8 w1 b x0 x1 x2 x3 x4 x5 x6 x7 := by
  obtain ⟨f, h0, h1, h2, h3, h4, h5, h6, h7⟩ := h
  have hl : b < W.heap.size := World.block_lt_of_cell? _ _ h0
  exact ⟨fun o => (frozen_kept hb hl).trans (f o), cell_later hb h0, cell_later hb h1, cell_later hb h2, cell_later hb h3, cell_later hb h4, cell_later hb h5, cell_later hb h6, cell_later hb h7⟩

theorem At4.lt {W : World} {b : Nat} {x0 x1 x2 x3 : Value} (h : At4 W b x0 x1 x2 x3) : b < W.heap.size := World.block_lt_of_cell? _ _ h.2.1
theorem At8.lt {W : World} {b : Nat} {x0 x1 x2 x3 x4 x5 x6 x7 : Value} (h : At8 W b x0 x1 x2 x3 x4 x5 x6 x7) : b < W.heap.size := World.block_lt_of_cell? _ _ h.2.1

theorem chain {w W wz : World} (h1 : Below w.heap.size w W) (hb : Below W.heap.size W wz) : Below w.heap.size w wz := h1.trans (hb.mono h1.size)

end Go.Proofs.Fd
