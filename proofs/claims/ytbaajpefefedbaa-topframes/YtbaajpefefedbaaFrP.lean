/- A reader in memory: its block, and the block of the bytes that wait. -/
import Derived.Test.YtbaajpefefedbaaFrB
namespace Go.Proofs.Ytbaajpefefedbaa
open Go.RowKit Go.Proofs.Fd Go.Proofs.Fr
set_option maxRecDepth 20000

/-- All blocks but p and g stay. -/
structure But (p g : Nat) (w w' : World) : Prop where
  os : w'.os = w.os
  tape : w'.tape = w.tape
  output : w'.output = w.output
  size : w.heap.size ≤ w'.heap.size
  block : ∀ k, k < w.heap.size → k ≠ p → k ≠ g → w'.heap[k]? = w.heap[k]?
theorem But.refl (p g : Nat) (w : World) : But p g w w := ⟨rfl, rfl, rfl, Nat.le_refl _, fun _ _ _ _ => rfl⟩
theorem But.of {p g : Nat} {w w' : World} (h : Below w.heap.size w w') : But p g w w' := ⟨h.os, h.tape, h.output, h.size, fun k hk _ _ => h.block k hk⟩
theorem But.trans {p g g' : Nat} {a b c : World} (h : But p g a b) (k : But p g' b c) (e : g' = g ∨ g' = p ∨ a.heap.size ≤ g') : But p g a c :=
  ⟨k.os.trans h.os, k.tape.trans h.tape, k.output.trans h.output, Nat.le_trans h.size k.size, fun j hj hp hg => (k.block j (Nat.lt_of_lt_of_le hj h.size) hp (by rcases e with e | e | e <;> omega)).trans (h.block j hj hp hg)⟩
theorem But.drew {p g : Nat} {a w : World} (h : But p g a w) : But p g a w.drew := ⟨h.os, h.tape, h.output, h.size, h.block⟩
theorem But.setCell {p g : Nat} {a w : World} (h : But p g a w) (o : Nat) (u : Value) : But p g a (w.setCell ⟨p, o, none⟩ u) :=
  ⟨h.os, h.tape, h.output, by simpa using h.size, fun k hk hp hg => (Below.heap_setCell w _ u k hp).trans (h.block k hk hp hg)⟩
theorem But.grown {p g : Nat} {row : Option Nat} {a w w' : World} (h : But p g a w) (k : w.grownBy w' row) (hr : ∀ x, row = some x → x = g) : But p g a w' :=
  ⟨k.os.trans h.os, k.tape.trans h.tape, k.output.trans h.output, Nat.le_trans h.size k.size, fun j hj hp hg => (k.block j (Nat.lt_of_lt_of_le hj h.size) (by intro e; exact hg (hr j e.symm))).trans (h.block j hj hp hg)⟩
theorem But.alloc {p g : Nat} {a w : World} (h : But p g a w) (o : Obj) : But p g a (w.alloc o) :=
  ⟨h.os, h.tape, h.output, Nat.le_trans h.size (by simp), fun j hj hp hg => (Below.heap_alloc w o j (Nat.lt_of_lt_of_le hj h.size)).trans (h.block j hj hp hg)⟩
theorem But.below {p g B : Nat} {w w' : World} (h : But p g w w') (hp : B ≤ p) (hg : B ≤ g) (hB : B ≤ w.heap.size) : Below B w w' :=
  ⟨h.os, h.tape, h.output, h.size, fun k hk => h.block k (by omega) (by omega) (by omega)⟩
theorem But.cell {p g : Nat} {w w' : World} (h : But p g w w') {a : Addr} {v : Value} (hc : w.cell? a = some v) (hp : a.block ≠ p) (hg : a.block ≠ g) : w'.cell? a = some v :=
  (World.cell?_of_block (h.block a.block (World.block_lt_of_cell? _ _ hc) hp hg)).trans hc

/-- The bytes that a slice in block g tells. -/
def Buf (w : World) (g : Nat) (v : Value) (h : List UInt8) : Prop :=
  (v = .slice none 0 0 ∧ h = []) ∨
  ∃ (o cap : Nat) (cur : Array Value), v = .slice (some ⟨g, o, none⟩) h.length cap ∧ w.heap[g]? = some (.cells cur 5 (0, 0)) ∧ h.length ≤ cap ∧ cap ≤ maxLen ∧ o + cap ≤ cur.size ∧ (cur.toList.drop o).take h.length = bcells h
theorem bcells_len (l : List UInt8) : (bcells l).length = l.length := by simp [bcells]
theorem bcells_app (a b : List UInt8) : bcells (a ++ b) = bcells a ++ bcells b := by simp [bcells]
theorem bcells_one (l : List UInt8) : ∀ u ∈ bcells l, u.oneCell' = true := by
  intro u hu
  simp only [bcells, List.mem_map] at hu
  obtain ⟨b, _, rfl⟩ := hu
  rfl
theorem add_at (g o j : Nat) : Addr.add ⟨g, o, none⟩ j = ⟨g, o + j, none⟩ := by unfold Addr.add; split <;> simp_all
theorem Buf.same {w w' : World} {g : Nat} {v : Value} {h : List UInt8} (b : Buf w g v h) (e : w'.heap[g]? = w.heap[g]?) : Buf w' g v h := by
  rcases b with b | ⟨o, cap, cur, h1, h2, h3⟩
  · exact .inl b
  · exact .inr ⟨o, cap, cur, h1, e.trans h2, h3⟩
theorem Buf.lt {w : World} {g : Nat} {v : Value} {h : List UInt8} (b : Buf w g v h) (hv : v ≠ .slice none 0 0) : g < w.heap.size := by
  rcases b with b | ⟨o, cap, cur, h1, h2, h3⟩
  · exact absurd b.1 hv
  · exact (Array.getElem?_eq_some_iff.1 h2).1
theorem buf_cell {w : World} {g o n : Nat} {cur : Array Value} {h : List UInt8} (h2 : w.heap[g]? = some (.cells cur 5 (0, 0))) (h6 : (cur.toList.drop o).take n = bcells h) (j : Nat) (hj : j < h.length) (hn : j < n) : w.cell? ⟨g, o + j, none⟩ = some (.int .u8 (h[j].toNat : Int)) := by
  have e : cur[o + j]? = (bcells h)[j]? := by
    rw [← h6, List.getElem?_take_of_lt hn, List.getElem?_drop]; simp
  unfold World.cell?
  rw [h2]
  simp only [Option.isSome_none]
  show cur[o + j]? = _
  rw [e]; simp [bcells, hj]
theorem Buf.is {w : World} {g : Nat} {v : Value} {h : List UInt8} (b : Buf w g v h) : ∃ a n cap, v = .slice a n cap ∧ n = h.length ∧ (a = none → v = .slice none 0 0) ∧ ∀ x, v.ownBlock = some x → x = g := by
  rcases b with ⟨rfl, e⟩ | ⟨o, cap, cur, rfl, -⟩
  · exact ⟨none, 0, 0, rfl, by rw [e]; rfl, fun _ => rfl, fun x h => (by cases h)⟩
  · exact ⟨_, _, _, rfl, rfl, fun h => (by cases h), fun x h => (by cases h; rfl)⟩
/-- Block p is a reader's. -/
def Ty (w : World) (p : Nat) : Prop := ∃ cur fz, w.heap[p]? = some (.cells cur 64 fz)
theorem Ty.set {w : World} {p : Nat} (h : Ty w p) (o : Nat) (u : Value) : Ty (w.setCell ⟨p, o, none⟩ u) p := by
  obtain ⟨cur, fz, h⟩ := h
  refine ⟨cur.setIfInBounds o u, fz, ?_⟩
  show (w.heap.modify p _)[p]? = _
  rw [Array.getElem?_modify, if_pos rfl, h]
  rfl
/-- No bytes have a block: then g is p. -/
def Cg (v : Value) (g p : Nat) : Prop := v = .slice none 0 0 ∧ g = p ∨ v ≠ .slice none 0 0 ∧ g ≠ p
theorem Cg.or {v : Value} {g p : Nat} (h : Cg v g p) : v = .slice none 0 0 ∨ g ≠ p := h.imp And.left And.right
theorem Buf.nil {w w' : World} {g g' : Nat} {h : List UInt8} (b : Buf w g (.slice none 0 0) h) : Buf w' g' (.slice none 0 0) h := by
  rcases b with b | ⟨o, cap, cur, e, -⟩
  · exact .inl b
  · cases e
/-- The block of bytes that are new, if there are any. -/
theorem Buf.pick {w : World} {g v h} (b : Buf w g v h) (p B : Nat) (hp : p < B) (hg : B ≤ g) : ∃ g', Buf w g' v h ∧ Cg v g' p ∧ (g' = p ∨ B ≤ g') := by
  by_cases q : v = .slice none 0 0
  · subst q; exact ⟨p, b.nil, .inl ⟨rfl, rfl⟩, .inl rfl⟩
  · exact ⟨g, b, .inr ⟨q, by omega⟩, .inr hg⟩
/-- A reader at p, its bytes in block g. -/
def RdV (w : World) (p g : Nat) (v : Value) (s : Int) (r : Rd) : Prop :=
  w.cell? ⟨p, 0, none⟩ = some v ∧ w.cell? ⟨p, 1, none⟩ = some (.int .i64 s) ∧ w.cell? ⟨p, 2, none⟩ = some (.bool r.b) ∧ ((∀ o, w.frozen? ⟨p, o, none⟩ = false) ∧ Ty w p) ∧ Buf w g v r.h ∧ Cg v g p
def RdAt (w : World) (p g : Nat) (r : Rd) : Prop := ∃ v s, RdV w p g v s r
theorem RdAt.lt {w : World} {p g : Nat} {r : Rd} (h : RdAt w p g r) : p < w.heap.size := by
  obtain ⟨v, s, h1, -⟩ := h
  exact World.block_lt_of_cell? _ _ h1
theorem RdV.same {w w' : World} {p g : Nat} {v : Value} {s : Int} {r : Rd} (h : RdV w p g v s r) (ep : w'.heap[p]? = w.heap[p]?) (eg : v = .slice none 0 0 ∨ w'.heap[g]? = w.heap[g]?) : RdV w' p g v s r := by
  obtain ⟨h1, h2, h3, h4, h5, h6⟩ := h
  refine ⟨(World.cell?_of_block (a := ⟨p, 0, none⟩) ep).trans h1, (World.cell?_of_block (a := ⟨p, 1, none⟩) ep).trans h2, (World.cell?_of_block (a := ⟨p, 2, none⟩) ep).trans h3, ⟨fun o => (World.frozen?_of_block (a := ⟨p, o, none⟩) ep).trans (h4.1 o), by obtain ⟨cur, fz, q⟩ := h4.2; exact ⟨cur, fz, ep.trans q⟩⟩, ?_, h6⟩
  rcases eg with rfl | eg
  · rcases h5 with h5 | ⟨o, cap, cur, e, -⟩
    · exact .inl h5
    · cases e
  · exact h5.same eg
theorem RdV.later {w w' : World} {p g : Nat} {v : Value} {s : Int} {r : Rd} (h : RdV w p g v s r) (hb : Below w.heap.size w w') : RdV w' p g v s r := by
  refine h.same (hb.block p (World.block_lt_of_cell? _ _ h.1)) ?_
  rcases h.2.2.2.2.1 with ⟨e, -⟩ | ⟨o, cap, cur, e, h2, -⟩
  · exact .inl e
  · exact .inr (hb.block g (Array.getElem?_eq_some_iff.1 h2).1)
theorem RdAt.later {w w' : World} {p g : Nat} {r : Rd} (h : RdAt w p g r) (hb : Below w.heap.size w w') : RdAt w' p g r := by
  obtain ⟨v, s, h⟩ := h
  exact ⟨v, s, h.later hb⟩
/-- Another reader's calls leave this one alone. -/
theorem RdAt.apart {w w' : World} {p g p' g' : Nat} {r : Rd} (h : RdAt w p g r) (hb : But p' g' w w') (h1 : p ≠ p') (h2 : p ≠ g') (h3 : g ≠ p') (h4 : g ≠ g') : RdAt w' p g r := by
  obtain ⟨v, s, h⟩ := h
  refine ⟨v, s, h.same (hb.block p (World.block_lt_of_cell? _ _ h.1) h1 h2) ?_⟩
  rcases h.2.2.2.2.1 with ⟨e, -⟩ | ⟨o, cap, cur, e, h2, -⟩
  · exact .inl e
  · exact .inr (hb.block g (Array.getElem?_eq_some_iff.1 h2).1 h3 h4)
/-- A reader's first cell is laid anew. -/
theorem RdV.put {w : World} {p g g' : Nat} {v v' : Value} {s : Int} {r : Rd} {h' : List UInt8} (h : RdV w p g v s r) (hb : Buf w g' v' h') (hg : Cg v' g' p) : RdV (w.setCell ⟨p, 0, none⟩ v') p g' v' s ⟨h', r.b⟩ := by
  obtain ⟨h1, h2, h3, h4, h5, h6⟩ := h
  refine ⟨by simp [go_sem, h1], by simp [go_sem, h2], by simp [go_sem, h3], ⟨fun o => by simp [go_sem, h4.1], h4.2.set _ _⟩, ?_, hg⟩
  rcases hg.or with rfl | hg
  · rcases hb with ⟨-, rfl⟩ | ⟨o, cap, cur, e, -⟩
    · exact .inl ⟨rfl, rfl⟩
    · cases e
  · exact hb.same (Below.heap_setCell w _ v' g' hg)
theorem RdV.spent {w : World} {p g : Nat} {v : Value} {s : Int} {r : Rd} (h : RdV w p g v s r) (s' : Int) : RdV (w.setCell ⟨p, 1, none⟩ (.int .i64 s')) p g v s' r := by
  obtain ⟨h1, h2, h3, h4, h5, h6⟩ := h
  refine ⟨by simp [go_sem, h1], by simp [go_sem, h2], by simp [go_sem, h3], ⟨fun o => by simp [go_sem, h4.1], h4.2.set _ _⟩, ?_, h6⟩
  rcases h6.or with rfl | hg
  · rcases h5 with h5 | ⟨o, cap, cur, e, -⟩
    · exact .inl h5
    · cases e
  · exact h5.same (Below.heap_setCell w _ _ g hg)
/-- Rows of other elements lie apart from a reader. -/
theorem own_but {w w' : World} {p g base : Nat} {r : Rd} {e : TypeId} {size : Nat} {v : Value} {n : Nat} {xs : List Value} (h : w.ownsRow base e size v n xs) (R : RdAt w p g r) (hb : But p g w w') (h1 : e ≠ 5) (h2 : e ≠ 64) : w'.ownsRow base e size v n xs := by
  refine ⟨h.1, ?_⟩
  rcases h.2 with hn | ⟨k, cap, cur, rfl, hbg, hgg, rest⟩
  · exact .inl hn
  · refine .inr ⟨k, cap, cur, rfl, hbg, ?_, rest⟩
    obtain ⟨v, s, c0, -, -, ⟨-, cp, fz, tp⟩, B, hp⟩ := R
    have kp : k ≠ p := fun z => by rw [z, tp] at hgg; injection hgg with q; injection q with q1 q2; exact h2 q2.symm
    have kg : k ≠ g := fun z => by
      rcases hp with ⟨rfl, e⟩ | ⟨e, -⟩
      · exact kp (z.trans e)
      · rcases B with ⟨e2, -⟩ | ⟨o, c, cu, -, q, -⟩
        · exact e e2
        · rw [z, q] at hgg; injection hgg with q; injection q with q1 q2; exact h1 q2.symm
    rw [hb.block k (Array.getElem?_eq_some_iff.1 hgg).1 kp kg]
    exact hgg
end Go.Proofs.Ytbaajpefefedbaa
