/- All frames that are there, told one by one. -/
import Derived.Test.YtbaajpefefedbaaFrW
namespace Go.Proofs.Ytbaajpefefedbaa
open Go.RowKit Go.Proofs.Fd Go.Proofs.Fr
set_option maxRecDepth 20000

theorem But.new {p g : Nat} {row : Option Nat} {a w w' : World} (h : But p g a w) (k : w.grownBy w' row) (hr : ∀ x, row = some x → a.heap.size ≤ x) : But p g a w' :=
  ⟨k.os.trans h.os, k.tape.trans h.tape, k.output.trans h.output, Nat.le_trans h.size k.size, fun j hj hp hg => (k.block j (Nat.lt_of_lt_of_le hj h.size) (by intro e; have := hr j e.symm; omega)).trans (h.block j hj hp hg)⟩
theorem RdAt.grown {w w' : World} {p g base : Nat} {r : Rd} {e : TypeId} {size : Nat} {v : Value} {n : Nat} {xs : List Value} (R : RdAt w p g r) (h : w.ownsRow base e size v n xs) (hb : w.grownBy w' v.ownBlock) (h1 : e ≠ 5) (h2 : e ≠ 64) : RdAt w' p g r := by
  obtain ⟨u, s, V⟩ := R
  have V2 := V
  obtain ⟨c0, -, -, ⟨-, cp, fz, tp⟩, B, hp⟩ := V2
  have ap : some p ≠ v.ownBlock := fun z => by
    rcases h.2 with ⟨rfl, -⟩ | ⟨k, cap, cur, rfl, -, hgg, -⟩
    · cases z
    · injection z with z
      have z : p = k := z
      rw [← z, tp] at hgg; injection hgg with q; injection q with q1 q2; exact h2 q2.symm
  refine ⟨u, s, V.same (hb.block p (World.block_lt_of_cell? _ _ c0) ap) ?_⟩
  rcases B with ⟨e, -⟩ | ⟨o, c, cu, -, q, -⟩
  · exact .inl e
  · refine .inr (hb.block g (Array.getElem?_eq_some_iff.1 q).1 (fun z => ?_))
    rcases h.2 with ⟨rfl, -⟩ | ⟨k, cap, cur, rfl, -, hgg, -⟩
    · cases z
    · injection z with z
      have z : g = k := z
      rw [← z, q] at hgg; injection hgg with q; injection q with q1 q2; exact h1 q2.symm
def bas (l : List (List UInt8)) : List ByteArray := l.map fun s => ⟨s.toArray⟩
theorem bas_app (a b : List (List UInt8)) : bas (a ++ b) = bas a ++ bas b := by unfold bas; rw [List.map_append]
theorem bas_len (a : List (List UInt8)) : (bas a).length = a.length := by unfold bas; rw [List.length_map]
theorem scells_app (a b : List ByteArray) : scells (a ++ b) = scells a ++ scells b := by unfold scells; rw [List.map_append]
theorem scells_len (a : List ByteArray) : (scells a).length = a.length := by unfold scells; rw [List.length_map]
theorem scells_one (l : List ByteArray) : ∀ u ∈ scells l, u.oneCell' = true := by
  intro u hu
  simp only [scells, List.mem_map] at hu
  obtain ⟨b, _, rfl⟩ := hu
  rfl
theorem but_or {p g g1 g2 A B : Nat} (h1 : g1 = g ∨ g1 = p ∨ A ≤ g1) (hAB : A ≤ B) (h2 : g2 = g1 ∨ g2 = p ∨ B ≤ g2) : g2 = g ∨ g2 = p ∨ A ≤ g2 := by
  rcases h2 with rfl | h2 | h2
  · exact h1
  · exact .inr (.inl h2)
  · exact .inr (.inr (Nat.le_trans hAB h2))
end Go.Proofs.Ytbaajpefefedbaa
