/- The document's words of a block. -/
import Derived.Test.YtbkefhfbbhdpcabDoorKR1
namespace Go.Proofs.YtbkefhfbbhdpcabDoor
open Go.RowKit Go.Proofs.Fd Go.Proofs.Hs

/-- Words as cells. -/
def wcells (l : List UInt32) : List Value := l.map fun x => .int .u32 (tv x)
theorem infoWord : (Tryd.prog.info? 48).map (fun i => (i.zero, i.size, i.bytes)) = some (some (.int .u32 0), 1, 4) := by kernel_rfl
theorem owns_words {w : World} {base n : Nat} {v : Value} {l : List UInt32} (h : w.ownsRow base 48 1 v n (wcells l)) : l.length = n ∧ ((v = .slice none 0 0 ∧ n = 0) ∨ ∃ g cap, v = .slice (some ⟨g, 0, none⟩) n cap ∧ WordsAt w g l) := by
  obtain ⟨h1, h2⟩ := h
  have hl : l.length = n := by simpa [wcells] using h1
  refine ⟨hl, ?_⟩
  rcases h2 with h2 | ⟨g, cap, cur, rfl, -, hh, -, -, -, ht⟩
  · exact .inl h2
  · refine .inr ⟨g, cap, rfl, fun j hj => ?_⟩
    have e : cur[j]? = (wcells l)[j]? := by
      rw [← ht, List.getElem?_take_of_lt (by omega)]; simp
    unfold World.cell?
    rw [hh]
    simp only [Option.isSome_none]
    show cur[j]? = _
    rw [e]; simp [wcells, hj]

end Go.Proofs.YtbkefhfbbhdpcabDoor
