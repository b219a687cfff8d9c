/- The document's Check. -/
import Derived.Test.YtbaajpefefedbaaMlS
namespace Go.Proofs.Ml
theorem ok_facts {m : Ml} (h : okB m = true) :
    (m.k = 1 ∧ m.u = 0 ∧ m.q = 0 ∧ m.t.size = 504 ∧ m.g.size = 0 ∧ m.sl.length = 0 ∧ m.ids.length = 0) ∨
    ((0 ≤ m.u ∧ m.u < 64 ∧ 1 ≤ m.q ∧ m.q ≤ 2147483647) ∧ m.t.size = 0 ∧
      ((m.k = 2 ∧ m.g.size = 32 ∧ m.sl.length = 0 ∧ m.ids.length = 0) ∨ (m.k = 3 ∧ m.g.size = 0 ∧ m.sl.length = 4 ∧ m.ids.length = 0) ∨ (m.k = 4 ∧ m.g.size = 32 ∧ m.sl.length = 0 ∧ m.ids.length ≤ 4))) := by
  rcases ok_cases h with ⟨k, u, q, t, g, s, i⟩ | ⟨-, hw, t, hc⟩
  · exact .inl ⟨k, u, q, t, by rw [g]; rfl, by rw [s]; rfl, by rw [i]; rfl⟩
  · refine .inr ⟨hw, by rw [t]; rfl, ?_⟩
    rcases hc with ⟨k, g, s, i⟩ | ⟨k, g, s, i, -⟩ | ⟨k, g, s, i, -⟩
    · exact .inl ⟨k, g, by rw [s]; rfl, by rw [i]; rfl⟩
    · exact .inr (.inl ⟨k, by rw [g]; rfl, s, by rw [i]; rfl⟩)
    · exact .inr (.inr ⟨k, g, by rw [s]; rfl, i⟩)
end Go.Proofs.Ml
namespace Go.Proofs.Ytbaajpefefedbaa
open Go.RowKit Go.Proofs.Fd Go.Proofs.Ml
set_option maxRecDepth 20000

end Go.Proofs.Ytbaajpefefedbaa
