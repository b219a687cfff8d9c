/- Strings as bytes of the call's own, and back. -/
import Derived.Test.YtdebfelgaiofeaaW17
namespace Go.Proofs.Ytdebfelgaiofeaa
open Go.RowKit Go.Proofs.Fd

/-- Block b holds these bytes, and they may be written. -/
def BytesAt (w : World) (b : Nat) (l : List UInt8) : Prop := ∀ j (hj : j < l.length), w.cell? ⟨b, j, none⟩ = some (.int .u8 (l[j].toNat : Int)) ∧ w.frozen? ⟨b, j, none⟩ = false

theorem BytesAt.later {W w1 : World} {b : Nat} {l : List UInt8} (h : BytesAt W b l) (hb : Below W.heap.size W w1) : BytesAt w1 b l := fun j hj => by
  obtain ⟨h0, h1⟩ := h j hj
  exact ⟨cell_later hb h0, (frozen_kept hb (World.block_lt_of_cell? _ _ h0)).trans h1⟩

theorem BytesAt.set {w : World} {b : Nat} {l : List UInt8} (h : BytesAt w b l) (k : Nat) (x : UInt8) (v : Int) (hv : v = (x.toNat : Int)) : BytesAt (w.setCell ⟨b, k, none⟩ (.int .u8 v)) b (l.set k x) := fun j hj => by
  subst hv
  obtain ⟨h0, h1⟩ := h j (by simpa using hj)
  refine ⟨?_, by simp [go_sem, h1]⟩
  by_cases e : k = j
  · subst e; simp [go_sem, h0]
  · have hne : (⟨b, k, none⟩ : Addr) ≠ ⟨b, j, none⟩ := fun q => e (by injection q)
    rw [World.cell?_setCell_other _ _ _ _ hne, h0]
    simp [e]

theorem BytesAt.other {w : World} {b : Nat} {l : List UInt8} (h : BytesAt w b l) {a : Addr} (hne : a.block ≠ b) (v : Value) : BytesAt (w.setCell a v) b l := fun j hj =>
  ⟨cell_setCell (h j hj).1 hne, (frozen_setCell hne).trans (h j hj).2⟩

theorem BytesAt.string {w : World} {b cap n : Nat} {l : List UInt8} (h : BytesAt w b l) (hn : l.length = n) :
    (convert 34 9 (.slice (some ⟨b, 0, none⟩) n cap)).run Try.prog w = .ok (.string ⟨l.toArray⟩) w := by
  subst hn
  exact run_convert_bytes_back (P := Try.prog) w 34 9 5 ⟨b, 0, none⟩ cap l Try.underlying34 Try.underlying5 Try.underlying9 (fun j hj => by
    have q : Addr.add ⟨b, 0, none⟩ j = ⟨b, j, none⟩ := by simp [Addr.add]; intro h; exact h.symm
    rw [q]; exact (h j hj).1)

/-- A string's bytes, laid anew. -/
theorem bytes_of (s : ByteArray) (w : World) : ∃ (cap : Nat) (W : World), (convert 9 34 (.string s)).run Try.prog w = .ok (.slice (some ⟨w.heap.size, 0, none⟩) s.size cap) W
    ∧ BytesAt W w.heap.size s.data.toList ∧ Below w.heap.size w W ∧ s.size ≤ cap := by
  refine ⟨_, _, run_bytes_of_string (P := Try.prog) w 9 34 5 s Try.underlying9 Try.underlying34 Try.underlying5, ?_, ?_, ?_⟩
  · intro j hj
    have hj' : j < s.data.size := by simpa using hj
    generalize grownCap w s.size 0 5 = cap
    have hc := bytesRow_at s cap j hj'
    have hlt : j < (bytesRow s cap).size := by
      obtain ⟨h, _⟩ := Array.getElem?_eq_some_iff.1 hc
      exact h
    refine ⟨?_, ?_⟩
    · show (w.drew.alloc _).cell? ⟨w.drew.heap.size, j, none⟩ = _
      rw [World.cell?_alloc_mark, hc]
      simp
    · show (w.drew.alloc _).frozen? ⟨w.drew.heap.size, j, none⟩ = false
      rw [World.frozen?_alloc_mark]
      have : ¬ (bytesRow s cap).size ≤ j := by omega
      simp [this]
  · exact (Below.refl _ w).drew.alloc (Nat.le_refl _) _
  · exact grownCap_ge _ _ _ _

end Go.Proofs.Ytdebfelgaiofeaa
