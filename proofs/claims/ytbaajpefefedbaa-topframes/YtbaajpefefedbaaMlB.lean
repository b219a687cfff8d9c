/- Messages in memory; bytes laid piece by piece. -/
import Derived.Test.YtbaajpefefedbaaFrB
import Derived.Test.YtbaajpefefedbaaMlM
import Derived.Lib.LazyBuf
import Derived.Laws.MakeOwn
namespace Go.Proofs.Ytbaajpefefedbaa
open Go.RowKit Go.Proofs.Fd Go.Proofs.Ml
set_option maxRecDepth 20000

/-- A message as a value. -/
abbrev mv (k u q : Int) (t g : ByteArray) (a : Option Addr) (n c : Nat) (a2 : Option Addr) (n2 c2 : Nat) : Value :=
  .agg #[.int .i64 k, .int .i64 u, .int .i64 q, .string t, .string g, .slice a n c, .slice a2 n2 c2]
/-- Slots that lie in a row. -/
def SlAt (w : World) (a : Option Addr) (ss : List Sl) : Prop := ∀ i (hi : i < ss.length), ∃ b o, a = some ⟨b, o, none⟩ ∧ w.cell? ⟨b, o + i * 2, none⟩ = some (.string ss[i].id) ∧ w.cell? ⟨b, o + i * 2 + 1, none⟩ = some (.string ss[i].tx)
theorem SlAt.later {w w' : World} {a : Option Addr} {ss : List Sl} (h : SlAt w a ss) (hb : Below w.heap.size w w') : SlAt w' a ss := fun i hi => by
  obtain ⟨b, o, e, h0, h1⟩ := h i hi
  exact ⟨b, o, e, cell_later hb h0, cell_later hb h1⟩
theorem SlAt.nil (w : World) (a : Option Addr) : SlAt w a [] := fun _ hi => absurd hi (Nat.not_lt_zero _)
theorem StrAt.nil (w : World) (a : Option Addr) : StrAt w a [] := fun _ hi => absurd hi (Nat.not_lt_zero _)
/-- Block b holds a message, and may be written. -/
def MlAt (w : World) (b : Nat) (k u q : Int) (t g : ByteArray) (a : Option Addr) (n c : Nat) (a2 : Option Addr) (n2 c2 : Nat) : Prop :=
  (∀ o, w.frozen? ⟨b, o, none⟩ = false) ∧ w.cell? ⟨b, 0, none⟩ = some (.int .i64 k) ∧ w.cell? ⟨b, 1, none⟩ = some (.int .i64 u) ∧ w.cell? ⟨b, 2, none⟩ = some (.int .i64 q) ∧ w.cell? ⟨b, 3, none⟩ = some (.string t) ∧ w.cell? ⟨b, 4, none⟩ = some (.string g) ∧ w.cell? ⟨b, 5, none⟩ = some (.slice a n c) ∧ w.cell? ⟨b, 6, none⟩ = some (.slice a2 n2 c2)
theorem MlAt.new (w : World) (ty : TypeId) (k u q : Int) (t g : ByteArray) (a : Option Addr) (n c : Nat) (a2 : Option Addr) (n2 c2 : Nat) : MlAt (w.alloc (.cells #[.int .i64 k, .int .i64 u, .int .i64 q, .string t, .string g, .slice a n c, .slice a2 n2 c2] ty)) w.heap.size k u q t g a n c a2 n2 c2 :=
  ⟨fun o => by simp [go_sem], by simp [go_sem], by simp [go_sem], by simp [go_sem], by simp [go_sem], by simp [go_sem], by simp [go_sem], by simp [go_sem]⟩
theorem MlAt.lt {w : World} {b : Nat} {k u q : Int} {t g : ByteArray} {a : Option Addr} {n c : Nat} {a2 : Option Addr} {n2 c2 : Nat} (h : MlAt w b k u q t g a n c a2 n2 c2) : b < w.heap.size := World.block_lt_of_cell? _ _ h.2.1
theorem MlAt.later {w w' : World} {b : Nat} {k u q : Int} {t g : ByteArray} {a : Option Addr} {n c : Nat} {a2 : Option Addr} {n2 c2 : Nat} (h : MlAt w b k u q t g a n c a2 n2 c2) (hb : Below w.heap.size w w') : MlAt w' b k u q t g a n c a2 n2 c2 := by
  obtain ⟨f, h0, h1, h2, h3, h4, h5, h6⟩ := h
  exact ⟨fun o => (frozen_kept hb (World.block_lt_of_cell? _ _ h0)).trans (f o), cell_later hb h0, cell_later hb h1, cell_later hb h2, cell_later hb h3, cell_later hb h4, cell_later hb h5, cell_later hb h6⟩
theorem MlAt.range {w : World} {b : Nat} {k u q : Int} {t g : ByteArray} {a : Option Addr} {n c : Nat} {a2 : Option Addr} {n2 c2 : Nat} (h : MlAt w b k u q t g a n c a2 n2 c2) : w.rangeAt b 0 [.int .i64 k, .int .i64 u, .int .i64 q, .string t, .string g, .slice a n c, .slice a2 n2 c2] := by
  obtain ⟨f, h0, h1, h2, h3, h4, h5, h6⟩ := h
  intro j v hv
  match j, hv with
  | 0, hv => cases hv; exact h0
  | 1, hv => cases hv; exact h1
  | 2, hv => cases hv; exact h2
  | 3, hv => cases hv; exact h3
  | 4, hv => cases hv; exact h4
  | 5, hv => cases hv; exact h5
  | 6, hv => cases hv; exact h6
/-- A message's lists. -/
structure Lists (w : World) (a : Option Addr) (n c : Nat) (a2 : Option Addr) (n2 c2 : Nat) (ss : List Sl) (is : List ByteArray) : Prop where
  s : SlAt w a ss
  i : StrAt w a2 is
  ls : ss.length = n
  li : is.length = n2
  zs : a = none → n = 0 ∧ c = 0
  zi : a2 = none → n2 = 0 ∧ c2 = 0
  ms : n ≤ 9223372036854775807
  mi : n2 ≤ 9223372036854775807
theorem Lists.later {w w' : World} {a : Option Addr} {n c : Nat} {a2 : Option Addr} {n2 c2 : Nat} {ss : List Sl} {is : List ByteArray} (h : Lists w a n c a2 n2 c2 ss is) (hb : Below w.heap.size w w') : Lists w' a n c a2 n2 c2 ss is :=
  ⟨h.s.later hb, h.i.later hb rfl, h.ls, h.li, h.zs, h.zi, h.ms, h.mi⟩
theorem Lists.zero (w : World) : Lists w none 0 0 none 0 0 [] [] :=
  ⟨SlAt.nil _ _, StrAt.nil _ _, rfl, rfl, fun _ => ⟨rfl, rfl⟩, fun _ => ⟨rfl, rfl⟩, by decide, by decide⟩

theorem BytesAt.cell {w : World} {b : Nat} {l : List UInt8} (h : BytesAt w b l) (j : Nat) (hj : j < l.length) : ∃ v, w.cell? ⟨b, j, none⟩ = some v ∧ w.frozen? ⟨b, j, none⟩ = false := ⟨_, h j hj⟩
theorem made_zeros (n : Nat) : madeCells (Value.int .u8 0).cells (n * 1) = Array.replicate n (.int .u8 0) := by
  apply Array.ext
  · rw [size_madeCells, Array.size_replicate, Nat.mul_one]
  · intro i h1 h2
    rw [Array.getElem_replicate]
    simp [madeCells, Value.cells, Nat.mod_one]
theorem make_n (n : Nat) (hn : n ≤ 140737488355328) (w : World) : ∃ W : World, (Instr.makeSlice 59 (.int .i64 (n : Int)) (.int .i64 (n : Int))).run Try.prog w = .ok (.slice (some ⟨w.heap.size, 0, none⟩) n n) W
    ∧ BytesAt W w.heap.size (List.replicate n 0) ∧ Below w.heap.size w W ∧ w.heap.size < W.heap.size := by
  obtain ⟨i0, hi, hz0, hz1, hz2⟩ := info_parts infoByte
  have h := run_make (P := Try.prog) w 59 5 i0 (.int .u8 0) Try.underlying59 hi hz0 .i64 .i64 (n : Int) (n : Int) (by omega) (Int.le_refl _) (by rw [hz2]; omega) (by omega)
  rw [Int.toNat_natCast, hz1, made_zeros] at h
  refine ⟨_, h, fun j hj => ?_, (Below.refl _ _).alloc (Nat.le_refl _) _, by simp⟩
  have hj' : j < n := by simpa using hj
  refine ⟨?_, by simp [go_sem]⟩
  rw [World.cell?_alloc_new, List.getElem_replicate, Array.getElem?_replicate, if_pos hj']
  rfl
/-- copy(b[o:], s): the first bytes, as many as fit. -/
theorem copy_at (w : World) (b o n cap : Nat) (s : ByteArray) (m : Nat) (hm : Nat.min s.size n = m)
    (hc : ∀ j, j < n → (w.cell? ⟨b, o + j, none⟩).isSome = true) (hf : ∀ j, j < n → w.frozen? ⟨b, o + j, none⟩ = false) :
    (Builtin.copy_ #[59, 9] 3 #[.slice (some ⟨b, o, none⟩) n cap, .string s]).run Try.prog w = .ok (.int .i64 (m : Int)) (w.setCells b o ((s.data.toList.take m).map fun x => Value.int .u8 (x.toNat : Int))) := by
  have hmn : m ≤ n := by rw [← hm]; exact Nat.min_le_right _ _
  have hms : m ≤ s.size := by rw [← hm]; exact Nat.min_le_left _ _
  have hl : ((s.data.toList.take m).map fun x => Value.int .u8 (x.toNat : Int)).length = m := by
    rw [List.length_map, List.length_take]
    have : s.data.toList.length = s.size := by simp
    omega
  have hst := run_storeCells_cells (P := Try.prog) b o ((s.data.toList.take m).map fun x => Value.int .u8 (x.toNat : Int)) 0 w
    (by rw [hl]; intro j hj; simpa using hc j (by omega)) (by rw [hl]; intro j hj; simpa using hf j (by omega))
    (by intro v hv; obtain ⟨x, _, rfl⟩ := List.mem_map.1 hv; rfl)
  simp [Builtin.copy_, run_underlying Try.underlying59, Builtin.lenOf, Builtin.firstCells, hm]
  rw [← List.map_take, hst]
  rfl
theorem BytesAt.copied {w : World} {b : Nat} {l : List UInt8} (h : BytesAt w b l) (o : Nat) (xs : List UInt8) (hx : o + xs.length ≤ l.length) :
    BytesAt (w.setCells b o (xs.map fun x => Value.int .u8 (x.toNat : Int))) b (l.take o ++ xs ++ l.drop (o + xs.length)) := fun j hj => by
  have hj' : j < l.length := by rw [List.length_append, List.length_append, List.length_take, List.length_drop] at hj; omega
  obtain ⟨h0, h1⟩ := h j hj'
  refine ⟨?_, by rw [World.frozen?_setCells]; exact h1⟩
  have key := List.getElem?_eq_getElem hj
  generalize (l.take o ++ xs ++ l.drop (o + xs.length))[j] = v at key ⊢
  by_cases hlo : j < o
  · rw [World.cell?_setCells_out b _ o w _ (fun _ _ => .inl hlo), h0]
    rw [List.append_assoc, List.getElem?_append_left (by rw [List.length_take]; omega), List.getElem?_take_of_lt hlo, List.getElem?_eq_getElem hj'] at key
    rw [Option.some.inj key]
  · by_cases hhi : j < o + xs.length
    · have hx2 : j - o < xs.length := by omega
      have := World.cell?_setCells_in b (xs.map fun x => Value.int .u8 (x.toNat : Int)) o w (fun i hi => by
        rw [List.length_map] at hi
        rw [(h (o + i) (by omega)).1]; rfl) (j - o) (by rw [List.length_map]; exact hx2)
      rw [show o + (j - o) = j by omega] at this
      rw [List.append_assoc, List.getElem?_append_right (by rw [List.length_take]; omega), List.length_take, Nat.min_eq_left (by omega), List.getElem?_append_left hx2, List.getElem?_eq_getElem hx2] at key
      rw [this, List.getElem_map, Option.some.inj key]
    · rw [World.cell?_setCells_out b _ o w _ (fun _ _ => .inr (by rw [List.length_map]; show o + xs.length ≤ j; omega)), h0]
      rw [List.getElem?_append_right (by rw [List.length_append, List.length_take]; omega), List.length_append, List.length_take, Nat.min_eq_left (by omega), List.getElem?_drop, show o + xs.length + (j - (o + xs.length)) = j by omega, List.getElem?_eq_getElem hj'] at key
      rw [Option.some.inj key]

set_option maxHeartbeats 1000000 in
theorem mlong_any (k : Int) (w : World) :
    Calls Try.prog 13 #[.int .i64 k] w fun e w' => e = .returned (.int .i64 (long k)) ∧ w' = w := by
  by_cases h1 : k = 1
  · subst h1
    go_enter Try.func13, Try.ntmps13
    go_wp2
    go_ret
    exact ⟨rfl, rfl⟩
  by_cases h2 : k = 2
  · subst h2
    go_enter Try.func13, Try.ntmps13
    go_wp2
    go_ret
    exact ⟨rfl, rfl⟩
  by_cases h3 : k = 3
  · subst h3
    go_enter Try.func13, Try.ntmps13
    go_wp2
    go_ret
    exact ⟨rfl, rfl⟩
  by_cases h4 : k = 4
  · subst h4
    go_enter Try.func13, Try.ntmps13
    go_wp2
    go_ret
    exact ⟨rfl, rfl⟩
  have e : long k = 0 := by unfold long; rw [if_neg h1, if_neg h2, if_neg h3, if_neg h4]
  rw [e]
  go_enter Try.func13, Try.ntmps13
  go_wp2
  go_ret
  exact ⟨rfl, rfl⟩
/-- The name for no id. -/
theorem zr_eq : (⟨#[0, 0, 0, 0, 0, 0, 0, 0, 0, 0, 0, 0, 0, 0, 0, 0]⟩ : ByteArray) = mk (zr 16) := rfl
theorem idB_false {s : ByteArray} (h : ¬ s.size = 16) : idB s = false := by unfold idB; rw [decide_eq_false h]; rfl
theorem idB_16 {s : ByteArray} (h : s.size = 16) : idB s = !decide (by' s = zr 16) := by unfold idB; rw [decide_eq_true h]; rfl
theorem toList_by (s : ByteArray) : s.toList = by' s := ByteArray.toList_eq s
set_option maxHeartbeats 1000000 in
theorem isId_any (s : ByteArray) (w : World) :
    Calls Try.prog 49 #[.string s] w fun e w' => e = .returned (.bool (idB s)) ∧ w' = w := by
  by_cases h : s.size = 16
  · rw [idB_16 h]
    have g1 : (s.size : Int) = 16 := by omega
    have g2 : (s.toList == [0, 0, 0, 0, 0, 0, 0, 0, 0, 0, 0, 0, 0, 0, 0, 0]) = decide (by' s = zr 16) := by
      rw [toList_by]
      by_cases h2 : by' s = zr 16
      · rw [decide_eq_true h2, h2]; rfl
      · rw [decide_eq_false h2, beq_eq_false_iff_ne]; exact h2
    obtain ⟨d, hd⟩ : ∃ d, decide (by' s = zr 16) = d := ⟨_, rfl⟩
    rw [hd] at g2 ⊢
    go_enter Try.func49, Try.ntmps49
    go_wp2
    go_ret
    exact ⟨rfl, rfl⟩
  · rw [idB_false h]
    have g1 : ¬ (s.size : Int) = 16 := by omega
    go_enter Try.func49, Try.ntmps49
    go_wp2
    go_ret
    exact ⟨rfl, rfl⟩
end Go.Proofs.Ytbaajpefefedbaa
