/- Small facts on cells that stay as they are while others are made; strings as bytes of the call's own, and back. -/
import Derived.Test.YtdepjiocmbbdpaaDoorProg
import Derived.WalkKit
import Derived.WalkSpells
import Derived.WalkLawsBesides
import Derived.Shelf.Spec.BitsCarry
import Derived.Maps.AppendAt
import Derived.Deep.RegionHeld3
import Derived.Deep.DrawnRows
import Derived.Deep.DeepCutAuto
import Derived.Deep.QuietTactic
import Derived.BigQuiet
import Derived.Laws.IdiomStrings
namespace Go.Proofs.Fd
open Go.RowKit

theorem cell_kept {W w1 : World} {b o : Nat} (hb : Below W.heap.size W w1) (hl : b < W.heap.size) : w1.cell? ⟨b, o, none⟩ = W.cell? ⟨b, o, none⟩ := hb.cell hl
theorem frozen_kept {W w1 : World} {b o : Nat} (hb : Below W.heap.size W w1) (hl : b < W.heap.size) : w1.frozen? ⟨b, o, none⟩ = W.frozen? ⟨b, o, none⟩ := hb.frozen hl

theorem cell_alloc {W : World} {o : Obj} {a : Addr} {v : Value} (h : W.cell? a = some v) : (W.alloc o).cell? a = some v := cell_later ((Below.refl _ W).alloc (Nat.le_refl _) o) h
theorem cell_drew {W : World} {a : Addr} {v : Value} (h : W.cell? a = some v) : W.drew.cell? a = some v := h
theorem cell_setCell {W : World} {b : Addr} {x : Value} {a : Addr} {v : Value} (h : W.cell? a = some v) (hne : b.block ≠ a.block) : (W.setCell b x).cell? a = some v :=
  (World.cell?_of_block (Below.heap_setCell W b x a.block (Ne.symm hne))).trans h

/-- Block b holds these four values, and may be written. -/
def At4 (w : World) (b : Nat) (x0 x1 x2 x3 : Value) : Prop :=
  (∀ o, w.frozen? ⟨b, o, none⟩ = false) ∧ w.cell? ⟨b, 0, none⟩ = some x0 ∧ w.cell? ⟨b, 1, none⟩ = some x1 ∧ w.cell? ⟨b, 2, none⟩ = some x2 ∧ w.cell? ⟨b, 3, none⟩ = some x3

theorem At4.later {W w1 : World} {b : Nat} {x0 x1 x2 x3 : Value} (h : At4 W b x0 x1 x2 x3) (hb : Below W.heap.size W w1) : At4 w1 b x0 x1 x2 x3 := by
  obtain ⟨f, h0, h1, h2, h3⟩ := h
  have hl : b < W.heap.size := World.block_lt_of_cell? _ _ h0
  exact ⟨fun o => (frozen_kept hb hl).trans (f o), cell_later hb h0, cell_later hb h1, cell_later hb h2, cell_later hb h3⟩

/-- Block b holds these eight values, and may be written. -/
def At8 (w : World) (b : Nat) (x0 x1 x2 x3 x4 x5 x6 x7 : Value) : Prop :=
  (∀ o, w.frozen? ⟨b, o, none⟩ = false) ∧ w.cell? ⟨b, 0, none⟩ = some x0 ∧ w.cell? ⟨b, 1, none⟩ = some x1 ∧ w.cell? ⟨b, 2, none⟩ = some x2 ∧ w.cell? ⟨b, 3, none⟩ = some x3
    ∧ w.cell? ⟨b, 4, none⟩ = some x4 ∧ w.cell? ⟨b, 5, none⟩ = some x5 ∧ w.cell? ⟨b, 6, none⟩ = some x6 ∧ w.cell? ⟨b, 7, none⟩ = some x7

theorem At8.later {W w1 : World} {b : Nat} {x0 x1 x2 x3 x4 x5 x6 x7 : Value} (h : At8 W b x0 x1 x2 x3 x4 x5 x6 x7) (hb : Below W.heap.size W w1) : At8 w1 b x0 x1 x2 x3 x4 x5 x6 x7 := by
  obtain ⟨f, h0, h1, h2, h3, h4, h5, h6, h7⟩ := h
  have hl : b < W.heap.size := World.block_lt_of_cell? _ _ h0
  exact ⟨fun o => (frozen_kept hb hl).trans (f o), cell_later hb h0, cell_later hb h1, cell_later hb h2, cell_later hb h3, cell_later hb h4, cell_later hb h5, cell_later hb h6, cell_later hb h7⟩

theorem At4.lt {W : World} {b : Nat} {x0 x1 x2 x3 : Value} (h : At4 W b x0 x1 x2 x3) : b < W.heap.size := World.block_lt_of_cell? _ _ h.2.1
theorem At8.lt {W : World} {b : Nat} {x0 x1 x2 x3 x4 x5 x6 x7 : Value} (h : At8 W b x0 x1 x2 x3 x4 x5 x6 x7) : b < W.heap.size := World.block_lt_of_cell? _ _ h.2.1

theorem chain {w W wz : World} (h1 : Below w.heap.size w W) (hb : Below W.heap.size W wz) : Below w.heap.size w wz := h1.trans (hb.mono h1.size)

end Go.Proofs.Fd
namespace Go.Proofs.Fd
open Go.RowKit

theorem frozen_setCell {W : World} {b : Addr} {x : Value} {a : Addr} (hne : b.block ≠ a.block) : (W.setCell b x).frozen? a = W.frozen? a :=
  World.frozen?_of_block (Below.heap_setCell W b x a.block (Ne.symm hne))

theorem At4.set {W : World} {b : Nat} {x0 x1 x2 x3 : Value} (h : At4 W b x0 x1 x2 x3) {a : Addr} (hne : a.block ≠ b) (v : Value) : At4 (W.setCell a v) b x0 x1 x2 x3 := by
  obtain ⟨f, h0, h1, h2, h3⟩ := h
  exact ⟨fun o => (frozen_setCell hne).trans (f o), cell_setCell h0 hne, cell_setCell h1 hne, cell_setCell h2 hne, cell_setCell h3 hne⟩

theorem At8.set {W : World} {b : Nat} {x0 x1 x2 x3 x4 x5 x6 x7 : Value} (h : At8 W b x0 x1 x2 x3 x4 x5 x6 x7) {a : Addr} (hne : a.block ≠ b) (v : Value) : At8 (W.setCell a v) b x0 x1 x2 x3 x4 x5 x6 x7 := by
  obtain ⟨f, h0, h1, h2, h3, h4, h5, h6, h7⟩ := h
  exact ⟨fun o => (frozen_setCell hne).trans (f o), cell_setCell h0 hne, cell_setCell h1 hne, cell_setCell h2 hne, cell_setCell h3 hne, cell_setCell h4 hne, cell_setCell h5 hne, cell_setCell h6 hne, cell_setCell h7 hne⟩

theorem At4.drew {W : World} {b : Nat} {x0 x1 x2 x3 : Value} (h : At4 W b x0 x1 x2 x3) : At4 W.drew b x0 x1 x2 x3 := h
theorem At8.drew {W : World} {b : Nat} {x0 x1 x2 x3 x4 x5 x6 x7 : Value} (h : At8 W b x0 x1 x2 x3 x4 x5 x6 x7) : At8 W.drew b x0 x1 x2 x3 x4 x5 x6 x7 := h

theorem At4.whole {w : World} {b : Nat} {x0 x1 x2 x3 : Value} (h : At4 w b x0 x1 x2 x3) (y0 y1 y2 y3 : Value) :
    At4 ((((w.setCell ⟨b, 0, none⟩ y0).setCell ⟨b, 1, none⟩ y1).setCell ⟨b, 2, none⟩ y2).setCell ⟨b, 3, none⟩ y3) b y0 y1 y2 y3 := by
  obtain ⟨f, h0, h1, h2, h3⟩ := h
  refine ⟨fun o => by simp [go_sem, f], ?_, ?_, ?_, ?_⟩ <;> simp [go_sem, h0, h1, h2, h3]

theorem At4.put {w : World} {b c : Nat} {x0 x1 x2 x3 : Value} (h : At4 w b x0 x1 x2 x3) (hne : c ≠ b) (y0 y1 y2 y3 : Value) :
    At4 ((((w.setCell ⟨c, 0, none⟩ y0).setCell ⟨c, 1, none⟩ y1).setCell ⟨c, 2, none⟩ y2).setCell ⟨c, 3, none⟩ y3) b x0 x1 x2 x3 :=
  ((((h.set (a := ⟨c, 0, none⟩) hne _).set (a := ⟨c, 1, none⟩) hne _).set (a := ⟨c, 2, none⟩) hne _).set (a := ⟨c, 3, none⟩) hne _)

theorem below_put {B : Nat} {a w : World} (h : Below B a w) {c : Nat} (hc : B ≤ c) (y0 y1 y2 y3 : Value) :
    Below B a ((((w.setCell ⟨c, 0, none⟩ y0).setCell ⟨c, 1, none⟩ y1).setCell ⟨c, 2, none⟩ y2).setCell ⟨c, 3, none⟩ y3) :=
  (((h.setCell (p := ⟨c, 0, none⟩) hc _).setCell (p := ⟨c, 1, none⟩) hc _).setCell (p := ⟨c, 2, none⟩) hc _).setCell (p := ⟨c, 3, none⟩) hc _

end Go.Proofs.Fd
namespace Go.Proofs.YtdepjiocmbbdpaaDoor
open Go.RowKit Go.Proofs.Fd

/-- Block b holds these bytes, and they may be written. -/
def BytesAt (w : World) (b : Nat) (l : List UInt8) : Prop := ∀ j (hj : j < l.length), w.cell? ⟨b, j, none⟩ = some (.int .u8 (l[j].toNat : Int)) ∧ w.frozen? ⟨b, j, none⟩ = false

theorem BytesAt.later {W w1 : World} {b : Nat} {l : List UInt8} (h : BytesAt W b l) (hb : Below W.heap.size W w1) : BytesAt w1 b l := fun j hj => by
  obtain ⟨h0, h1⟩ := h j hj
  exact ⟨cell_later hb h0, (frozen_kept hb (World.block_lt_of_cell? _ _ h0)).trans h1⟩

theorem BytesAt.set {w : World} {b : Nat} {l : List UInt8} (h : BytesAt w b l) (k : Nat) (x : UInt8) (v : Int) (hv : v = (x.toNat : Int)) : BytesAt (w.setCell ⟨b, k, none⟩ (.int .u8 v)) b (l.set k x) := fun j hj => by
  subst hv
  obtain ⟨h0, h1⟩ := h j (by simpa using hj)
  refine ⟨?_, by simp [go_sem, h1]⟩
  by_cases e : k = j
  · subst e; simp [go_sem, h0]
  · have hne : (⟨b, k, none⟩ : Addr) ≠ ⟨b, j, none⟩ := fun q => e (by injection q)
    rw [World.cell?_setCell_other _ _ _ _ hne, h0]
    simp [e]

theorem BytesAt.other {w : World} {b : Nat} {l : List UInt8} (h : BytesAt w b l) {a : Addr} (hne : a.block ≠ b) (v : Value) : BytesAt (w.setCell a v) b l := fun j hj =>
  ⟨cell_setCell (h j hj).1 hne, (frozen_setCell hne).trans (h j hj).2⟩

theorem BytesAt.string {w : World} {b cap n : Nat} {l : List UInt8} (h : BytesAt w b l) (hn : l.length = n) :
    (convert 54 9 (.slice (some ⟨b, 0, none⟩) n cap)).run Tryd.prog w = .ok (.string ⟨l.toArray⟩) w := by
  subst hn
  exact run_convert_bytes_back (P := Tryd.prog) w 54 9 5 ⟨b, 0, none⟩ cap l Tryd.underlying54 Tryd.underlying5 Tryd.underlying9 (fun j hj => by
    have q : Addr.add ⟨b, 0, none⟩ j = ⟨b, j, none⟩ := by simp [Addr.add]; intro h; exact h.symm
    rw [q]; exact (h j hj).1)

/-- A string's bytes, laid anew. -/
theorem bytes_of (s : ByteArray) (w : World) : ∃ (cap : Nat) (W : World), (convert 9 54 (.string s)).run Tryd.prog w = .ok (.slice (some ⟨w.heap.size, 0, none⟩) s.size cap) W
    ∧ BytesAt W w.heap.size s.data.toList ∧ Below w.heap.size w W ∧ s.size ≤ cap := by
  refine ⟨_, _, run_bytes_of_string (P := Tryd.prog) w 9 54 5 s Tryd.underlying9 Tryd.underlying54 Tryd.underlying5, ?_, ?_, ?_⟩
  · intro j hj
    have hj' : j < s.data.size := by simpa using hj
    generalize grownCap w s.size 0 5 = cap
    have hc := bytesRow_at s cap j hj'
    have hlt : j < (bytesRow s cap).size := by
      obtain ⟨h, _⟩ := Array.getElem?_eq_some_iff.1 hc
      exact h
    refine ⟨?_, ?_⟩
    · show (w.drew.alloc _).cell? ⟨w.drew.heap.size, j, none⟩ = _
      rw [World.cell?_alloc_mark, hc]
      simp
    · show (w.drew.alloc _).frozen? ⟨w.drew.heap.size, j, none⟩ = false
      rw [World.frozen?_alloc_mark]
      have : ¬ (bytesRow s cap).size ≤ j := by omega
      simp [this]
  · exact (Below.refl _ w).drew.alloc (Nat.le_refl _) _
  · exact grownCap_ge _ _ _ _

end Go.Proofs.YtdepjiocmbbdpaaDoor
