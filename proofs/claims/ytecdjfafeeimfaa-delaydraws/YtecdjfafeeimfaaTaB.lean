/- Tapes in memory: the program's, the document's; what a call leaves as it was. -/
import Derived.Test.YtecdjfafeeimfaaKB
import Derived.Test.YtecdjfafeeimfaaTaM
namespace Go.Proofs.Ytecdjfafeeimfaa
open Go.RowKit Go.Proofs.Fd Go.Proofs.Ta
set_option maxRecDepth 20000

/-- All blocks but p and g stay. -/
structure But (p g : Nat) (w w' : World) : Prop where
  os : w'.os = w.os
  tape : w'.tape = w.tape
  output : w'.output = w.output
  size : w.heap.size ≤ w'.heap.size
  block : ∀ k, k < w.heap.size → k ≠ p → k ≠ g → w'.heap[k]? = w.heap[k]?
theorem But.refl (p g : Nat) (w : World) : But p g w w := ⟨rfl, rfl, rfl, Nat.le_refl _, fun _ _ _ _ => rfl⟩
theorem But.of {p g : Nat} {w w' : World} (h : Below w.heap.size w w') : But p g w w' := ⟨h.os, h.tape, h.output, h.size, fun k hk _ _ => h.block k hk⟩
theorem But.trans {p g : Nat} {a b c : World} (h : But p g a b) (k : But p g b c) : But p g a c :=
  ⟨k.os.trans h.os, k.tape.trans h.tape, k.output.trans h.output, Nat.le_trans h.size k.size, fun j hj hp hg => (k.block j (Nat.lt_of_lt_of_le hj h.size) hp hg).trans (h.block j hj hp hg)⟩
theorem But.two {p g : Nat} {a b c : World} (h : But p p a b) (k : But g g b c) : But p g a c :=
  ⟨k.os.trans h.os, k.tape.trans h.tape, k.output.trans h.output, Nat.le_trans h.size k.size, fun j hj hp hg => (k.block j (Nat.lt_of_lt_of_le hj h.size) hg hg).trans (h.block j hj hp hp)⟩
theorem But.drew {p g : Nat} {a w : World} (h : But p g a w) : But p g a w.drew := ⟨h.os, h.tape, h.output, h.size, h.block⟩
theorem But.setCell {p g : Nat} {a w : World} (h : But p g a w) (o : Nat) (u : Value) : But p g a (w.setCell ⟨p, o, none⟩ u) :=
  ⟨h.os, h.tape, h.output, by simpa using h.size, fun k hk hp hg => (Below.heap_setCell w _ u k hp).trans (h.block k hk hp hg)⟩
theorem But.fresh {p g b : Nat} {a w : World} (h : But p g a w) (hb : a.heap.size ≤ b) (o : Nat) (u : Value) : But p g a (w.setCell ⟨b, o, none⟩ u) :=
  ⟨h.os, h.tape, h.output, by simpa using h.size, fun k hk hp hg => (Below.heap_setCell w _ u k (show k ≠ b by omega)).trans (h.block k hk hp hg)⟩
theorem But.alloc {p g : Nat} {a w : World} (h : But p g a w) (o : Obj) : But p g a (w.alloc o) :=
  ⟨h.os, h.tape, h.output, Nat.le_trans h.size (by simp), fun j hj hp hg => (Below.heap_alloc w o j (Nat.lt_of_lt_of_le hj h.size)).trans (h.block j hj hp hg)⟩
theorem But.grown {p g : Nat} {row : Option Nat} {a w w' : World} (h : But p g a w) (k : w.grownBy w' row) (hr : ∀ x, row = some x → a.heap.size ≤ x) : But p g a w' :=
  ⟨k.os.trans h.os, k.tape.trans h.tape, k.output.trans h.output, Nat.le_trans h.size k.size, fun j hj hp hg => (k.block j (Nat.lt_of_lt_of_le hj h.size) (by intro e; have := hr j e.symm; omega)).trans (h.block j hj hp hg)⟩
theorem But.below {p g B : Nat} {w w' : World} (h : But p g w w') (hp : B ≤ p) (hg : B ≤ g) (hB : B ≤ w.heap.size) : Below B w w' :=
  ⟨h.os, h.tape, h.output, h.size, fun k hk => h.block k (by omega) (by omega) (by omega)⟩
theorem But.cell {p g : Nat} {w w' : World} (h : But p g w w') {a : Addr} {v : Value} (hc : w.cell? a = some v) (hp : a.block ≠ p) (hg : a.block ≠ g) : w'.cell? a = some v :=
  (World.cell?_of_block (h.block a.block (World.block_lt_of_cell? _ _ hc) hp hg)).trans hc
theorem But.later {p g : Nat} {a w w' : World} (h : But p g a w) (k : Below w.heap.size w w') : But p g a w' := h.trans (But.of k)

/-- A tape at p, of which these bytes are left. -/
def TAt (w : World) (p : Nat) (l : List UInt8) : Prop := ∃ (t : ByteArray) (r : Nat), w.cell? ⟨p, 0, none⟩ = some (.string t) ∧ w.cell? ⟨p, 1, none⟩ = some (.int .i64 (r : Int)) ∧ (∀ o, w.frozen? ⟨p, o, none⟩ = false) ∧ r ≤ t.size ∧ t.size ≤ 140737488351232 ∧ t.data.toList.drop r = l
theorem TAt.lt {w : World} {p : Nat} {l : List UInt8} (h : TAt w p l) : p < w.heap.size := by
  obtain ⟨t, r, h1, -⟩ := h
  exact World.block_lt_of_cell? _ _ h1
theorem TAt.same {w w' : World} {p : Nat} {l : List UInt8} (h : TAt w p l) (e : w'.heap[p]? = w.heap[p]?) : TAt w' p l := by
  obtain ⟨t, r, h1, h2, h3, h4⟩ := h
  exact ⟨t, r, (World.cell?_of_block (a := ⟨p, 0, none⟩) e).trans h1, (World.cell?_of_block (a := ⟨p, 1, none⟩) e).trans h2, fun o => (World.frozen?_of_block (a := ⟨p, o, none⟩) e).trans (h3 o), h4⟩
theorem TAt.later {w w' : World} {p : Nat} {l : List UInt8} (h : TAt w p l) (hb : Below w.heap.size w w') : TAt w' p l := h.same (hb.block p h.lt)
theorem TAt.apart {w w' : World} {p q g : Nat} {l : List UInt8} (h : TAt w p l) (hb : But q g w w') (h1 : p ≠ q) (h2 : p ≠ g) : TAt w' p l := h.same (hb.block p h.lt h1 h2)
theorem TAt.small {w : World} {p : Nat} {l : List UInt8} (h : TAt w p l) : l.length ≤ 140737488351232 := by
  obtain ⟨t, r, -, -, -, -, h5, rfl⟩ := h
  rw [List.length_drop]
  simp at h5 ⊢
  omega
/-- The document's tape at d. -/
def DAt (w : World) (d : Nat) (l : List UInt8) : Prop := w.cell? ⟨d, 0, none⟩ = some (.string ⟨l.toArray⟩) ∧ (∀ o, w.frozen? ⟨d, o, none⟩ = false) ∧ l.length ≤ 140737488351232
theorem DAt.lt {w : World} {d : Nat} {l : List UInt8} (h : DAt w d l) : d < w.heap.size := World.block_lt_of_cell? _ _ h.1
theorem DAt.same {w w' : World} {d : Nat} {l : List UInt8} (h : DAt w d l) (e : w'.heap[d]? = w.heap[d]?) : DAt w' d l :=
  ⟨(World.cell?_of_block (a := ⟨d, 0, none⟩) e).trans h.1, fun o => (World.frozen?_of_block (a := ⟨d, o, none⟩) e).trans (h.2.1 o), h.2.2⟩
theorem DAt.later {w w' : World} {d : Nat} {l : List UInt8} (h : DAt w d l) (hb : Below w.heap.size w w') : DAt w' d l := h.same (hb.block d h.lt)
theorem DAt.apart {w w' : World} {d q g : Nat} {l : List UInt8} (h : DAt w d l) (hb : But q g w w') (h1 : d ≠ q) (h2 : d ≠ g) : DAt w' d l := h.same (hb.block d h.lt h1 h2)
theorem DAt.put {w : World} {d : Nat} {l l' : List UInt8} (h : DAt w d l) (hl : l'.length ≤ l.length) : DAt (w.setCell ⟨d, 0, none⟩ (.string ⟨l'.toArray⟩)) d l' := by
  obtain ⟨h1, h2, h3⟩ := h
  exact ⟨by simp [go_sem, h1], fun o => by simp [go_sem, h2], by omega⟩
theorem DAt.new (w : World) (l : List UInt8) (t : TypeId) (hl : l.length ≤ 140737488351232) : DAt (w.alloc (.cells #[.string ⟨l.toArray⟩] t)) w.heap.size l :=
  ⟨by rw [World.cell?_alloc_new]; rfl, fun o => by simp [go_sem], hl⟩
/-- A string's bytes, cut. -/
theorem ba_list (t : ByteArray) : (⟨t.data.toList.toArray⟩ : ByteArray) = t := by simp
theorem ba_drop (t : ByteArray) (r : Nat) : t.extract r t.size = ⟨(t.data.toList.drop r).toArray⟩ := by
  apply ByteArray.ext
  apply Array.ext'
  simp [ByteArray.data_extract, List.take_of_length_le]
theorem ba_take (l : List UInt8) (n : Nat) : (⟨l.toArray⟩ : ByteArray).extract 0 n = ⟨(l.take n).toArray⟩ := by
  apply ByteArray.ext
  apply Array.ext'
  simp [ByteArray.data_extract]
theorem ba_from (l : List UInt8) (n : Nat) : (⟨l.toArray⟩ : ByteArray).extract n (⟨l.toArray⟩ : ByteArray).size = ⟨(l.drop n).toArray⟩ := ba_drop _ _
theorem ba_size (l : List UInt8) : (⟨l.toArray⟩ : ByteArray).size = l.length := by simp [ByteArray.size]
/-- Numbers that lie in a row. -/
def IntAt (w : World) (a : Option Addr) (cs : List Int) : Prop := ∀ i (hi : i < cs.length), ∃ b o, a = some ⟨b, o, none⟩ ∧ w.cell? ⟨b, o + i, none⟩ = some (.int .i64 cs[i])
theorem IntAt.later {W w1 : World} {a : Option Addr} {cs : List Int} (h : IntAt W a cs) (hb : Below W.heap.size W w1) : IntAt w1 a cs := fun i hi => by
  obtain ⟨b, o, e, hc⟩ := h i hi
  exact ⟨b, o, e, cell_later hb hc⟩
theorem IntAt.nil (w : World) (a : Option Addr) : IntAt w a [] := fun _ hi => absurd hi (Nat.not_lt_zero _)
/-- It lies in a block that is not below B. -/
def New (B : Nat) (a : Option Addr) : Prop := ∀ x, a = some x → B ≤ x.block
theorem New.none (B : Nat) : New B none := fun _ h => (by cases h)
theorem New.some {B b o : Nat} (h : B ≤ b) : New B (Option.some ⟨b, o, .none⟩) := fun _ e => (by cases e; exact h)
theorem IntAt.apart {w w' : World} {a : Option Addr} {cs : List Int} {p g B : Nat} (h : IntAt w a cs) (hb : But p g w w') (hn : New B a) (hp : p < B) (hg : g < B) : IntAt w' a cs := fun i hi => by
  obtain ⟨b, o, e, hc⟩ := h i hi
  have : B ≤ b := hn _ e
  exact ⟨b, o, e, hb.cell hc (show b ≠ p by omega) (show b ≠ g by omega)⟩
end Go.Proofs.Ytecdjfafeeimfaa
