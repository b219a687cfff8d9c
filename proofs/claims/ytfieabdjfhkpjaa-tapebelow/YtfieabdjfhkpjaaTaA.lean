/- Calls in a row. -/
import Derived.Test.YtfieabdjfhkpjaaTaW
namespace Go.Proofs.Ytfieabdjfhkpjaa
open Go.RowKit Go.Proofs.Fd Go.Proofs.Ta
set_option maxRecDepth 20000

/-- Calls that lie in a row: kind and number. -/
def ActAt (w : World) (a : Option Addr) (cs : List (Int × Int)) : Prop := ∀ i (hi : i < cs.length), ∃ b o, a = some ⟨b, o, none⟩ ∧ w.cell? ⟨b, o + i * 2, none⟩ = some (.int .i64 cs[i].1) ∧ w.cell? ⟨b, o + i * 2 + 1, none⟩ = some (.int .i64 cs[i].2)
theorem ActAt.later {W w1 : World} {a : Option Addr} {cs : List (Int × Int)} (h : ActAt W a cs) (hb : Below W.heap.size W w1) : ActAt w1 a cs := fun i hi => by
  obtain ⟨b, o, e, h0, h1⟩ := h i hi
  exact ⟨b, o, e, cell_later hb h0, cell_later hb h1⟩
end Go.Proofs.Ytfieabdjfhkpjaa
