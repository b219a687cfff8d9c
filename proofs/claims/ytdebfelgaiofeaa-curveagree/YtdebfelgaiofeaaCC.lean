/- A string copied into bytes of the call's own: as many as fit. -/
import Derived.Test.YtdebfelgaiofeaaCB
import Derived.Lib.LazyBuf
namespace Go.Proofs.Ytdebfelgaiofeaa
open Go.RowKit Go.Proofs.Fd

/-- copy(b, s): the first bytes, as many as fit. -/
theorem copy_at (w : World) (b n cap : Nat) (s : ByteArray) (m : Nat) (hm : Nat.min s.size n = m)
    (hc : ∀ j, j < n → (w.cell? ⟨b, j, none⟩).isSome = true) (hf : ∀ j, j < n → w.frozen? ⟨b, j, none⟩ = false) :
    (Builtin.copy_ #[34, 9] 3 #[.slice (some ⟨b, 0, none⟩) n cap, .string s]).run Try.prog w = .ok (.int .i64 (m : Int)) (w.setCells b 0 ((s.data.toList.take m).map fun x => Value.int .u8 (x.toNat : Int))) := by
  have hmn : m ≤ n := by rw [← hm]; exact Nat.min_le_right _ _
  have hms : m ≤ s.size := by rw [← hm]; exact Nat.min_le_left _ _
  have hl : ((s.data.toList.take m).map fun x => Value.int .u8 (x.toNat : Int)).length = m := by
    rw [List.length_map, List.length_take]
    have : s.data.toList.length = s.size := by simp
    omega
  have hst := run_storeCells_cells (P := Try.prog) b 0 ((s.data.toList.take m).map fun x => Value.int .u8 (x.toNat : Int)) 0 w
    (by rw [hl]; intro j hj; simpa using hc j (by omega)) (by rw [hl]; intro j hj; simpa using hf j (by omega))
    (by intro v hv; obtain ⟨x, _, rfl⟩ := List.mem_map.1 hv; rfl)
  simp [Builtin.copy_, run_underlying Try.underlying34, Builtin.lenOf, Builtin.firstCells, hm]
  rw [← List.map_take, hst]
  rfl

theorem BytesAt.copied {w : World} {b : Nat} {l : List UInt8} (h : BytesAt w b l) (xs : List UInt8) (hx : xs.length ≤ l.length) :
    BytesAt (w.setCells b 0 (xs.map fun x => Value.int .u8 (x.toNat : Int))) b (xs ++ l.drop xs.length) := fun j hj => by
  have hj' : j < l.length := by rw [List.length_append, List.length_drop] at hj; omega
  obtain ⟨h0, h1⟩ := h j hj'
  refine ⟨?_, by rw [World.frozen?_setCells]; exact h1⟩
  by_cases hlt : j < xs.length
  · have := World.cell?_setCells_in b (xs.map fun x => Value.int .u8 (x.toNat : Int)) 0 w (fun i hi => by
      rw [List.length_map] at hi
      rw [Nat.zero_add, (h i (by omega)).1]; rfl) j (by simpa using hlt)
    rw [Nat.zero_add] at this
    rw [this, List.getElem_map, List.getElem_append_left hlt]
  · rw [World.cell?_setCells_out b _ 0 w _ (fun _ _ => .inr (by simp; omega)), h0, List.getElem_append_right (by omega), List.getElem_drop]
    congr 3
    have : xs.length + (j - xs.length) = j := by omega
    simp only [this]

end Go.Proofs.Ytdebfelgaiofeaa
