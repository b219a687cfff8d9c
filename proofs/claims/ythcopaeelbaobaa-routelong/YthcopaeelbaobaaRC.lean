/- A text laid into bytes: copy, as far as they go. -/
import Derived.Test.YthcopaeelbaobaaRE
import Derived.Lib.LazyBuf
namespace Go.Proofs.Ythcopaeelbaobaa
open Go.RowKit Go.Proofs.Fd Go.Proofs.Rt
set_option maxRecDepth 20000

/-- copy(b[o:], s): the first bytes, as many as fit. -/
theorem rcopy_at (w : World) (b o n cap : Nat) (s : ByteArray) (m : Nat) (hm : Nat.min s.size n = m)
    (hc : ∀ j, j < n → (w.cell? ⟨b, o + j, none⟩).isSome = true) (hf : ∀ j, j < n → w.frozen? ⟨b, o + j, none⟩ = false) :
    (Builtin.copy_ #[40, 9] 3 #[.slice (some ⟨b, o, none⟩) n cap, .string s]).run Try.prog w = .ok (.int .i64 (m : Int)) (w.setCells b o ((s.data.toList.take m).map fun x => Value.int .u8 (x.toNat : Int))) := by
  have hmn : m ≤ n := by rw [← hm]; exact Nat.min_le_right _ _
  have hms : m ≤ s.size := by rw [← hm]; exact Nat.min_le_left _ _
  have hl : ((s.data.toList.take m).map fun x => Value.int .u8 (x.toNat : Int)).length = m := by
    rw [List.length_map, List.length_take]
    have : s.data.toList.length = s.size := by simp
    omega
  have hst := run_storeCells_cells (P := Try.prog) b o ((s.data.toList.take m).map fun x => Value.int .u8 (x.toNat : Int)) 0 w
    (by rw [hl]; intro j hj; simpa using hc j (by omega)) (by rw [hl]; intro j hj; simpa using hf j (by omega))
    (by intro v hv; obtain ⟨x, _, rfl⟩ := List.mem_map.1 hv; rfl)
  simp [Builtin.copy_, run_underlying Try.underlying40, Builtin.lenOf, Builtin.firstCells, hm]
  rw [← List.map_take, hst]
  rfl
theorem BytesAt.rcopied {w : World} {b : Nat} {l : List UInt8} (h : BytesAt w b l) (o : Nat) (xs : List UInt8) (hx : o + xs.length ≤ l.length) :
    BytesAt (w.setCells b o (xs.map fun x => Value.int .u8 (x.toNat : Int))) b (l.take o ++ xs ++ l.drop (o + xs.length)) := fun j hj => by
  have hj' : j < l.length := by rw [List.length_append, List.length_append, List.length_take, List.length_drop] at hj; omega
  obtain ⟨h0, h1⟩ := h j hj'
  refine ⟨?_, by rw [World.frozen?_setCells]; exact h1⟩
  have key := List.getElem?_eq_getElem hj
  generalize (l.take o ++ xs ++ l.drop (o + xs.length))[j] = v at key ⊢
  by_cases hlo : j < o
  · rw [World.cell?_setCells_out b _ o w _ (fun _ _ => .inl hlo), h0]
    rw [List.append_assoc, List.getElem?_append_left (by rw [List.length_take]; omega), List.getElem?_take_of_lt hlo, List.getElem?_eq_getElem hj'] at key
    rw [Option.some.inj key]
  · by_cases hhi : j < o + xs.length
    · have hx2 : j - o < xs.length := by omega
      have := World.cell?_setCells_in b (xs.map fun x => Value.int .u8 (x.toNat : Int)) o w (fun i hi => by
        rw [List.length_map] at hi
        rw [(h (o + i) (by omega)).1]; rfl) (j - o) (by rw [List.length_map]; exact hx2)
      rw [show o + (j - o) = j by omega] at this
      rw [List.append_assoc, List.getElem?_append_right (by rw [List.length_take]; omega), List.length_take, Nat.min_eq_left (by omega), List.getElem?_append_left hx2, List.getElem?_eq_getElem hx2] at key
      rw [this, List.getElem_map, Option.some.inj key]
    · rw [World.cell?_setCells_out b _ o w _ (fun _ _ => .inr (by rw [List.length_map]; show o + xs.length ≤ j; omega)), h0]
      rw [List.getElem?_append_right (by rw [List.length_append, List.length_take]; omega), List.length_append, List.length_take, Nat.min_eq_left (by omega), List.getElem?_drop, show o + xs.length + (j - (o + xs.length)) = j by omega, List.getElem?_eq_getElem hj'] at key
      rw [Option.some.inj key]

end Go.Proofs.Ythcopaeelbaobaa
