/- The program's Order. -/
import Derived.Test.YtecdjfafeeimfaaTaD
namespace Go.Proofs.Ytecdjfafeeimfaa
open Go.RowKit Go.Proofs.Fd Go.Proofs.Ta
set_option maxRecDepth 20000

/-- Block g holds these numbers, and they may be written. -/
def Row (w : World) (g : Nat) (l : List Int) : Prop := ∀ j (hj : j < l.length), w.cell? ⟨g, j, none⟩ = some (.int .i64 l[j]) ∧ w.frozen? ⟨g, j, none⟩ = false
theorem Row.later {W w1 : World} {b : Nat} {l : List Int} (h : Row W b l) (hb : Below W.heap.size W w1) : Row w1 b l := fun j hj => by
  obtain ⟨h0, h1⟩ := h j hj
  exact ⟨cell_later hb h0, (frozen_kept hb (World.block_lt_of_cell? _ _ h0)).trans h1⟩
theorem Row.apart {w w' : World} {b p g : Nat} {l : List Int} (h : Row w b l) (hb : But p g w w') (h1 : b ≠ p) (h2 : b ≠ g) : Row w' b l := fun j hj => by
  obtain ⟨e0, e1⟩ := h j hj
  have e := hb.block b (World.block_lt_of_cell? _ _ e0) h1 h2
  exact ⟨(World.cell?_of_block (a := ⟨b, j, none⟩) e).trans e0, (World.frozen?_of_block (a := ⟨b, j, none⟩) e).trans e1⟩
theorem Row.set {w : World} {b : Nat} {l : List Int} (h : Row w b l) (k : Nat) (x : Int) : Row (w.setCell ⟨b, k, none⟩ (.int .i64 x)) b (l.set k x) := fun j hj => by
  obtain ⟨h0, h1⟩ := h j (by simpa using hj)
  refine ⟨?_, by simp [go_sem, h1]⟩
  by_cases e : k = j
  · subst e; simp [go_sem, h0]
  · have hne : (⟨b, k, none⟩ : Addr) ≠ ⟨b, j, none⟩ := fun q => e (by injection q)
    rw [World.cell?_setCell_other _ _ _ _ hne, h0]
    simp [e]
theorem Row.at {w : World} {b : Nat} {l : List Int} (h : Row w b l) : IntAt w (some ⟨b, 0, none⟩) l := fun i hi => ⟨b, 0, rfl, by rw [Nat.zero_add]; exact (h i hi).1⟩
theorem infoInt : (Try.prog.info? 3).map (fun i => (i.zero, i.size, i.bytes)) = some (some (.int .i64 0), 1, 8) := by kernel_rfl
theorem made_ints (n : Nat) : madeCells (Value.int .i64 0).cells (n * 1) = Array.replicate n (.int .i64 0) := by
  apply Array.ext
  · rw [size_madeCells, Array.size_replicate, Nat.mul_one]
  · intro i h1 h2
    rw [Array.getElem_replicate]
    simp [madeCells, Value.cells, Nat.mod_one]
theorem make_ints (n : Nat) (hn : n ≤ 1000000) (w : World) : ∃ W : World, (Instr.makeSlice 22 (.int .i64 (n : Int)) (.int .i64 (n : Int))).run Try.prog w = .ok (.slice (some ⟨w.heap.size, 0, none⟩) n n) W
    ∧ Row W w.heap.size (List.replicate n 0) ∧ Below w.heap.size w W := by
  obtain ⟨i0, hi, hz0, hz1, hz2⟩ := info_parts infoInt
  have h := run_make (P := Try.prog) w 22 3 i0 (.int .i64 0) Try.underlying22 hi hz0 .i64 .i64 (n : Int) (n : Int) (by omega) (Int.le_refl _) (by rw [hz2]; omega) (by omega)
  rw [Int.toNat_natCast, hz1, made_ints] at h
  refine ⟨_, h, fun j hj => ?_, (Below.refl _ _).alloc (Nat.le_refl _) _⟩
  have hj' : j < n := by simpa using hj
  refine ⟨?_, by simp [go_sem]⟩
  rw [World.cell?_alloc_new, List.getElem_replicate, Array.getElem?_replicate, if_pos hj']
theorem ord_no {n : Int} {l : List UInt8} (h : n < 0 ∨ 64 < n) : ordV n l = [] ∧ ordE n l = 1 ∧ ordR n l = l := ⟨if_pos h, if_pos h, if_pos h⟩
theorem ord_few {n : Int} {l : List UInt8} (h : ¬ (n < 0 ∨ 64 < n)) (hl : l.length < 4 * (n.toNat - 1)) : ordV n l = [] ∧ ordE n l = 120 ∧ ordR n l = l := by
  unfold ordV ordE ordR
  rw [if_neg h, if_neg h, if_neg h, if_pos hl, if_pos hl, if_pos hl]
  exact ⟨rfl, rfl, rfl⟩
theorem ord_ok {n : Int} {l : List UInt8} (h : ¬ (n < 0 ∨ 64 < n)) (hl : ¬ l.length < 4 * (n.toNat - 1)) : ordV n l = ord n.toNat l ∧ ordE n l = 0 ∧ ordR n l = l.drop (4 * (n.toNat - 1)) := by
  unfold ordV ordE ordR
  rw [if_neg h, if_neg h, if_neg h, if_neg hl, if_neg hl, if_neg hl]
  exact ⟨rfl, rfl, rfl⟩
/-- What holds while an order is drawn: k numbers are still to be placed. -/
def Dr (n : Nat) (l : List UInt8) (k : Nat) (L : List Int) (m : List UInt8) : Prop := k ≤ n ∧ L.length = n ∧ shuf (k - 1) L m = ord n l ∧ 4 * (k - 1) ≤ m.length ∧ m.drop (4 * (k - 1)) = l.drop (4 * (n - 1))
theorem Dr.step {n : Nat} {l : List UInt8} {k : Nat} {L : List Int} {m : List UInt8} (h : Dr n l (k + 2) L m) : Dr n l (k + 1) (sw L (k + 1) (drw (k + 2) m)) (m.drop 4) := by
  obtain ⟨h1, h2, h3, h4, h5⟩ := h
  refine ⟨by omega, by rw [sw_len]; exact h2, h3, by rw [List.length_drop]; omega, ?_⟩
  rw [← h5, List.drop_drop]
  congr 1
  omega
theorem fill_step (n k : Nat) (h : k < n) : (up k ++ List.replicate (n - k) 0).set k (k : Int) = up (k + 1) ++ List.replicate (n - (k + 1)) 0 := by
  obtain ⟨m, rfl⟩ : ∃ m, n = k + (m + 1) := ⟨n - k - 1, by omega⟩
  rw [show k + (m + 1) - k = m + 1 by omega, show k + (m + 1) - (k + 1) = m by omega, up_succ, List.replicate_succ, List.set_append_right _ _ (by rw [up_len]; omega), up_len, Nat.sub_self, List.append_assoc]
  rfl
theorem row_swap {w : World} {g : Nat} {L : List Int} (h : Row w g L) (i j : Nat) : Row ((w.setCell ⟨g, i, none⟩ (.int .i64 (L.getD j 0))).setCell ⟨g, j, none⟩ (.int .i64 (L.getD i 0))) g (sw L i j) := (h.set i _).set j _
theorem Row.get {w : World} {g : Nat} {L : List Int} (h : Row w g L) (i : Nat) (hi : i < L.length) : w.cell? ⟨g, i, none⟩ = some (.int .i64 (L.getD i 0)) := by
  rw [(h i hi).1, List.getD_eq_getElem?_getD, List.getElem?_eq_getElem hi]
  rfl
/-- What Order answers: numbers, in a row that is new. -/
def OrdP (w : World) (p : Nat) (L : List Int) (x : Int) (m : List UInt8) (e : Ending) (w' : World) : Prop := ∃ a c, e = .returned (.tuple #[.slice a L.length c, .int .i64 x]) ∧ IntAt w' a L ∧ New w.heap.size a ∧ TAt w' p m ∧ But p p w w'
theorem OrdP.no {w w' : World} {p : Nat} {x : Int} {m : List UInt8} (h1 : TAt w' p m) (h2 : But p p w w') : OrdP w p [] x m (.returned (.tuple #[.slice none 0 0, .int .i64 x])) w' := ⟨none, 0, rfl, IntAt.nil _ _, New.none _, h1, h2⟩
end Go.Proofs.Ytecdjfafeeimfaa
