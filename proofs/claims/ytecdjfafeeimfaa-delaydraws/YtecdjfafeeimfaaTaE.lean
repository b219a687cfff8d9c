/- The document's Order. -/
import Derived.Test.YtecdjfafeeimfaaTaO
namespace Go.Proofs.Ytecdjfafeeimfaa
open Go.RowKit Go.Proofs.Fd Go.Proofs.Ta
set_option maxRecDepth 20000

def icells (l : List Int) : List Value := l.map fun s => .int .i64 s
theorem icells_app (a b : List Int) : icells (a ++ b) = icells a ++ icells b := by unfold icells; rw [List.map_append]
theorem cells_new (w : World) (cs : Array Value) (t : TypeId) : ∀ j u, cs.toList[j]? = some u → (w.alloc (.cells cs t)).cell? (Addr.add ⟨w.heap.size, 0, none⟩ j) = some u := fun j u h => by
  have q : Addr.add ⟨w.heap.size, 0, none⟩ j = ⟨w.heap.size, j, none⟩ := by simp [Addr.add]; intro h; exact h.symm
  rw [q, World.cell?_alloc_new]
  simpa using h
/-- Numbers in a row of the call's own. -/
theorem owns_ints {w : World} {base n : Nat} {v : Value} {l : List Int} (h : w.ownsRow base 3 1 v n (icells l)) : l.length = n ∧ ((v = .slice none 0 0 ∧ n = 0) ∨ ∃ g cap, v = .slice (some ⟨g, 0, none⟩) n cap ∧ Row w g l ∧ base ≤ g) := by
  obtain ⟨h1, h2⟩ := h
  have hl : l.length = n := by simpa [icells] using h1
  refine ⟨hl, ?_⟩
  rcases h2 with h2 | ⟨g, cap, cur, rfl, hb, hh, -, -, -, ht⟩
  · exact .inl h2
  · refine .inr ⟨g, cap, rfl, fun j hj => ⟨?_, ?_⟩, hb⟩
    · have e : cur[j]? = (icells l)[j]? := by
        rw [← ht, List.getElem?_take_of_lt (by omega)]; simp
      unfold World.cell?
      rw [hh]
      simp only [Option.isSome_none]
      show cur[j]? = _
      rw [e]; simp [icells, hj]
    · unfold World.frozen?
      rw [hh]
      simp
def ROrdP (w : World) (d : Nat) (L : List Int) (x : Int) (m : List UInt8) (e : Ending) (w' : World) : Prop := ∃ a c, e = .returned (.tuple #[.slice a L.length c, .int .i64 x]) ∧ IntAt w' a L ∧ New w.heap.size a ∧ DAt w' d m ∧ But d d w w'
theorem ROrdP.no {w w' : World} {d : Nat} {x : Int} {m : List UInt8} (h1 : DAt w' d m) (h2 : But d d w w') : ROrdP w d [] x m (.returned (.tuple #[.slice none 0 0, .int .i64 x])) w' := ⟨none, 0, rfl, IntAt.nil _ _, New.none _, h1, h2⟩
end Go.Proofs.Ytecdjfafeeimfaa
