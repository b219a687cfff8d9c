/- Lists of commands: their cells, copies of the call's own. -/
import Derived.Test.YthcopaeelbaobaaRE
import Derived.Laws.OwnMore
namespace Go.Proofs.Ythcopaeelbaobaa
open Go.RowKit Go.Proofs.Fd Go.Proofs.Rt

def hcells (l : List Hp) : List Value := l.flatMap fun h => [.int .i64 h.k, .int .i64 h.n, .int .i64 h.u, .int .i64 h.d, .string h.id]
theorem hcells_cons (h : Hp) (l : List Hp) : hcells (h :: l) = .int .i64 h.k :: .int .i64 h.n :: .int .i64 h.u :: .int .i64 h.d :: .string h.id :: hcells l := rfl
theorem hcells_len (l : List Hp) : (hcells l).length = l.length * 5 := by
  induction l with
  | nil => rfl
  | cons h l ih => rw [hcells_cons]; simp only [List.length_cons, ih]; omega
theorem hcells_at (l : List Hp) (i : Nat) (hi : i < l.length) : (hcells l)[i * 5]? = some (.int .i64 (l.getD i zh).k) ∧ (hcells l)[i * 5 + 1]? = some (.int .i64 (l.getD i zh).n) ∧ (hcells l)[i * 5 + 2]? = some (.int .i64 (l.getD i zh).u) ∧ (hcells l)[i * 5 + 3]? = some (.int .i64 (l.getD i zh).d) ∧ (hcells l)[i * 5 + 4]? = some (.string (l.getD i zh).id) := by
  induction l generalizing i with
  | nil => simp at hi
  | cons h l ih =>
    rw [hcells_cons]
    cases i with
    | zero => exact ⟨rfl, rfl, rfl, rfl, rfl⟩
    | succ i =>
      have := ih i (by simpa using hi)
      have e : (i + 1) * 5 = i * 5 + 5 := by omega
      rw [e]
      exact this
theorem hcells_one (l : List Hp) : ∀ u ∈ hcells l, u.oneCell' = true := by
  intro u hu
  unfold hcells at hu
  rw [List.mem_flatMap] at hu
  obtain ⟨h, -, hu⟩ := hu
  simp at hu
  rcases hu with rfl | rfl | rfl | rfl | rfl <;> rfl
/-- A list's cells, one by one. -/
theorem HopsAt.each {w : World} {b o : Nat} {l : List Hp} (h : HopsAt w (some ⟨b, o, none⟩) l) : ∀ j u, (hcells l)[j]? = some u → w.cell? (Addr.add ⟨b, o, none⟩ j) = some u := by
  intro j u hu
  have hj : j < l.length * 5 := by have := (List.getElem?_eq_some_iff.1 hu).1; rw [hcells_len] at this; exact this
  have q : Addr.add ⟨b, o, none⟩ j = ⟨b, o + j, none⟩ := by first | (simp [Addr.add]; done) | (simp [Addr.add]; intro h; simp [h])
  rw [q]
  obtain ⟨i, r, hr, rfl⟩ : ∃ i r, r < 5 ∧ j = i * 5 + r := ⟨j / 5, j % 5, by omega, by omega⟩
  obtain ⟨b', o', he, c0, c1, c2, c3, c4⟩ := h i (by omega)
  cases he
  obtain ⟨g0, g1, g2, g3, g4⟩ := hcells_at l i (by omega)
  rcases (by omega : r = 0 ∨ r = 1 ∨ r = 2 ∨ r = 3 ∨ r = 4) with rfl | rfl | rfl | rfl | rfl
  · rw [Nat.add_zero] at hu; rw [g0] at hu; cases hu; exact c0
  · rw [g1] at hu; cases hu; rw [← Nat.add_assoc]; exact c1
  · rw [g2] at hu; cases hu; rw [← Nat.add_assoc]; exact c2
  · rw [g3] at hu; cases hu; rw [← Nat.add_assoc]; exact c3
  · rw [g4] at hu; cases hu; rw [← Nat.add_assoc]; exact c4
theorem owns_hops {w : World} {base n : Nat} {v : Value} {l : List Hp} (h : w.ownsRow base 23 5 v n (hcells l)) : l.length = n ∧ ((v = .slice none 0 0 ∧ n = 0) ∨ ∃ g cap, v = .slice (some ⟨g, 0, none⟩) n cap ∧ HopsAt w (some ⟨g, 0, none⟩) l ∧ base ≤ g ∧ g < w.heap.size ∧ n ≤ cap ∧ cap ≤ maxLen) := by
  obtain ⟨h1, h2⟩ := h
  have hl : l.length = n := by rw [hcells_len] at h1; omega
  refine ⟨hl, ?_⟩
  rcases h2 with h2 | ⟨g, cap, cur, rfl, hb, hh, hcap, hml, -, ht⟩
  · exact .inl h2
  · have hg : g < w.heap.size := by obtain ⟨q, -⟩ := Array.getElem?_eq_some_iff.1 hh; exact q
    refine .inr ⟨g, cap, rfl, fun i hi => ⟨g, 0, rfl, ?_⟩, hb, hg, hcap, hml⟩
    have key : ∀ j, j < n * 5 → w.cell? ⟨g, 0 + j, none⟩ = (hcells l)[j]? := fun j hj => by
      have e : cur[j]? = (hcells l)[j]? := by
        rw [← ht, List.getElem?_take_of_lt hj]; simp
      rw [Nat.zero_add]
      unfold World.cell?
      rw [hh]
      simp only [Option.isSome_none]
      show cur[j]? = _
      rw [e]
    obtain ⟨g0, g1, g2, g3, g4⟩ := hcells_at l i hi
    refine ⟨?_, ?_, ?_, ?_, ?_⟩
    · rw [key (i * 5) (by omega)]; exact g0
    · rw [Nat.add_assoc, key (i * 5 + 1) (by omega)]; exact g1
    · rw [Nat.add_assoc, key (i * 5 + 2) (by omega)]; exact g2
    · rw [Nat.add_assoc, key (i * 5 + 3) (by omega)]; exact g3
    · rw [Nat.add_assoc, key (i * 5 + 4) (by omega)]; exact g4
theorem infoHop : (Try.prog.info? 23).map (fun i => (i.zero, i.size, i.bytes)) = some (some (.agg #[.int .i64 0, .int .i64 0, .int .i64 0, .int .i64 0, .string ⟨#[]⟩]), 5, 48) := by kernel_rfl
theorem heap_newr (w : World) (o : Obj) : (w.alloc o).heap[w.heap.size]? = some o := by
  show (w.heap.push o)[w.heap.size]? = some o
  simp
end Go.Proofs.Ythcopaeelbaobaa
