/- Parts: FrM, FrB, MlB, MlC, MlD. -/
import Derived.WalkKit
import Derived.Test.YtbogoheigbiegaaDoorZgG01
import Derived.Lib.AppendStr
import Derived.Lib.AppendZerosOnto
import Derived.Test.YtbogoheigbiegaaDoorZgG13
import Derived.Lib.LazyBuf
import Derived.Laws.MakeOwn
namespace Go.Proofs.Fr
def be4 (n : Nat) : List UInt8 := [UInt8.ofNat (n / 16777216), UInt8.ofNat (n / 65536), UInt8.ofNat (n / 256), UInt8.ofNat n]
def num4 (h : List UInt8) : Nat := (h.getD 0 0).toNat * 16777216 + (h.getD 1 0).toNat * 65536 + (h.getD 2 0).toNat * 256 + (h.getD 3 0).toNat
def one (s : List UInt8) : List UInt8 := be4 s.length ++ s
structure Rd where
  h : List UInt8
  b : Bool
def bad (h : List UInt8) : Prop := 4 ≤ h.length ∧ 4096 < num4 h
def look (r : Rd) : Rd := if 4 ≤ r.h.length ∧ 4096 < num4 r.h then ⟨[], true⟩ else r
def has (h : List UInt8) : Prop := 4 ≤ h.length ∧ num4 h ≤ h.length - 4
def nextR (r : Rd) : Rd := look ⟨r.h.drop (4 + num4 r.h), r.b⟩
def left : Nat → Rd → Rd
  | 0, r => r
  | f + 1, r => if 4 ≤ r.h.length ∧ num4 r.h ≤ r.h.length - 4 then left f (nextR r) else r
end Go.Proofs.Fr
namespace Go.Proofs.YtbogoheigbiegaaDoor.Mai
open Go.RowKit Go.Proofs.Fd
set_option maxRecDepth 20000
def bcells (l : List UInt8) : List Value := l.map fun b => .int .u8 b.toNat
theorem infoByte : (Tryd.prog.info? 5).map (fun i => (i.zero, i.size, i.bytes)) = some (some (.int .u8 0), 1, 1) := by kernel_rfl
theorem cells_new (w : World) (cs : Array Value) (t : TypeId) : ∀ j u, cs.toList[j]? = some u → (w.alloc (.cells cs t)).cell? (Addr.add ⟨w.heap.size, 0, none⟩ j) = some u := fun j u h => by
  have q : Addr.add ⟨w.heap.size, 0, none⟩ j = ⟨w.heap.size, j, none⟩ := by simp [Addr.add]; intro h; exact h.symm
  rw [q, World.cell?_alloc_new]
  simpa using h
def StrAt (w : World) (a : Option Addr) (ks : List ByteArray) : Prop := ∀ i (hi : i < ks.length), ∃ b o, a = some ⟨b, o, none⟩ ∧ w.cell? ⟨b, o + i, none⟩ = some (.string ks[i])
theorem StrAt.later {B : Nat} {W w1 : World} {a : Option Addr} {ks : List ByteArray} (h : StrAt W a ks) (hb : Below B W w1) (hB : W.heap.size = B) : StrAt w1 a ks := fun i hi => by
  subst hB
  obtain ⟨b, o, e, hc⟩ := h i hi
  exact ⟨b, o, e, cell_later hb hc⟩
theorem flat_step {β : Type} (f : ByteArray → List β) (ks : List ByteArray) (k : Nat) (hk : k < ks.length) : (ks.take (k + 1)).flatMap f = (ks.take k).flatMap f ++ f ks[k] := by
  rw [List.take_succ_eq_append_getElem hk, List.flatMap_append, List.flatMap_singleton]
theorem strAt1 {w : World} {B : Nat} {x : ByteArray} (h0 : w.cell? ⟨B, 0, none⟩ = some (.string x)) : StrAt w (some ⟨B, 0, none⟩) [x] := fun i hi => by
  refine ⟨B, 0, rfl, ?_⟩
  obtain rfl : i = 0 := by simp at hi; omega
  exact h0
theorem strAt2 {w : World} {B : Nat} {x y : ByteArray} (h0 : w.cell? ⟨B, 0, none⟩ = some (.string x)) (h1 : w.cell? ⟨B, 1, none⟩ = some (.string y)) : StrAt w (some ⟨B, 0, none⟩) [x, y] := fun i hi => by
  refine ⟨B, 0, rfl, ?_⟩
  rcases (by simp at hi; omega : i = 0 ∨ i = 1) with rfl | rfl
  · exact h0
  · exact h1
def scells (l : List ByteArray) : List Value := l.map fun s => .string s
theorem infoStr : (Tryd.prog.info? 9).map (fun i => (i.zero, i.size, i.bytes)) = some (some (.string ⟨#[]⟩), 1, 16) := by kernel_rfl
theorem owns_strs {w : World} {base n : Nat} {v : Value} {l : List ByteArray} (h : w.ownsRow base 9 1 v n (scells l)) : l.length = n ∧ ((v = .slice none 0 0 ∧ n = 0) ∨ ∃ g cap, v = .slice (some ⟨g, 0, none⟩) n cap ∧ StrAt w (some ⟨g, 0, none⟩) l) := by
  obtain ⟨h1, h2⟩ := h
  have hl : l.length = n := by simpa [scells] using h1
  refine ⟨hl, ?_⟩
  rcases h2 with h2 | ⟨g, cap, cur, rfl, -, hh, -, -, -, ht⟩
  · exact .inl h2
  · refine .inr ⟨g, cap, rfl, fun j hj => ⟨g, 0, rfl, ?_⟩⟩
    have e : cur[j]? = (scells l)[j]? := by
      rw [← ht, List.getElem?_take_of_lt (by omega)]; simp
    rw [Nat.zero_add]
    unfold World.cell?
    rw [hh]
    simp only [Option.isSome_none]
    show cur[j]? = _
    rw [e]; simp [scells, hj]
theorem flat_le {f : ByteArray → List UInt8} (ks : List ByteArray) (k : Nat) : ((ks.take k).flatMap f).length ≤ (ks.flatMap f).length := by
  have h : (ks.take k).flatMap f ++ (ks.drop k).flatMap f = ks.flatMap f := by rw [← List.flatMap_append, List.take_append_drop]
  rw [← h, List.length_append]
  omega
theorem own_later {w w' : World} {base : Nat} {e : TypeId} {size : Nat} {v : Value} {n : Nat} {xs : List Value} (h : w.ownsRow base e size v n xs) (hb : Below w.heap.size w w') : w'.ownsRow base e size v n xs := by
  refine ⟨h.1, ?_⟩
  rcases h.2 with hn | ⟨g, cap, cur, rfl, hbg, hgg, rest⟩
  · exact .inl hn
  · refine .inr ⟨g, cap, cur, rfl, hbg, ?_, rest⟩
    rw [hb.block g (Array.getElem?_eq_some_iff.1 hgg).1]
    exact hgg
theorem owns_bytes {w : World} {base n : Nat} {v : Value} {l : List UInt8} (h : w.ownsRow base 5 1 v n (bcells l)) : l.length = n ∧ ((v = .slice none 0 0 ∧ n = 0) ∨ ∃ g cap, v = .slice (some ⟨g, 0, none⟩) n cap ∧ ∀ j (hj : j < l.length), w.cell? ⟨g, j, none⟩ = some (.int .u8 (l[j].toNat : Int))) := by
  obtain ⟨h1, h2⟩ := h
  have hl : l.length = n := by simpa [bcells] using h1
  refine ⟨hl, ?_⟩
  rcases h2 with h2 | ⟨g, cap, cur, rfl, -, hh, -, -, -, ht⟩
  · exact .inl h2
  · refine .inr ⟨g, cap, rfl, fun j hj => ?_⟩
    have e : cur[j]? = (bcells l)[j]? := by
      rw [← ht, List.getElem?_take_of_lt (by omega)]; simp
    unfold World.cell?
    rw [hh]
    simp only [Option.isSome_none]
    show cur[j]? = _
    rw [e]; simp [bcells, hj]
theorem own_string {V : World} {base n : Nat} {v : Value} {l : List UInt8} (h : V.ownsRow base 5 1 v n (bcells l)) : ∀ w', Below V.heap.size V w' → (convert 60 9 v).run Tryd.prog w' = .ok (.string ⟨l.toArray⟩) w' := by
  intro w' hb
  obtain ⟨hlen, hor⟩ := owns_bytes h
  rcases hor with ⟨rfl, h0⟩ | ⟨g, cap, rfl, hcell⟩
  · obtain rfl : l = [] := List.length_eq_zero_iff.1 (by omega)
    kernel_rfl
  · have := run_convert_bytes_back (P := Tryd.prog) w' 60 9 5 ⟨g, 0, none⟩ cap l Tryd.underlying60 Tryd.underlying5 Tryd.underlying9 (fun j hj => by
      have q : Addr.add ⟨g, 0, none⟩ j = ⟨g, j, none⟩ := by simp [Addr.add]; intro h; exact h.symm
      rw [q]; exact cell_later hb (hcell j hj))
    rw [hlen] at this; exact this
end Go.Proofs.YtbogoheigbiegaaDoor.Mai
namespace Go.Proofs.YtbogoheigbiegaaDoor.Mai
open Go.RowKit Go.Proofs.Fd Go.Proofs.Ml
set_option maxRecDepth 20000
abbrev mv (k u q : Int) (t g : ByteArray) (a : Option Addr) (n c : Nat) (a2 : Option Addr) (n2 c2 : Nat) : Value :=
  .agg #[.int .i64 k, .int .i64 u, .int .i64 q, .string t, .string g, .slice a n c, .slice a2 n2 c2]
def SlAt (w : World) (a : Option Addr) (ss : List Sl) : Prop := ∀ i (hi : i < ss.length), ∃ b o, a = some ⟨b, o, none⟩ ∧ w.cell? ⟨b, o + i * 2, none⟩ = some (.string ss[i].id) ∧ w.cell? ⟨b, o + i * 2 + 1, none⟩ = some (.string ss[i].tx)
theorem SlAt.later {w w' : World} {a : Option Addr} {ss : List Sl} (h : SlAt w a ss) (hb : Below w.heap.size w w') : SlAt w' a ss := fun i hi => by
  obtain ⟨b, o, e, h0, h1⟩ := h i hi
  exact ⟨b, o, e, cell_later hb h0, cell_later hb h1⟩
theorem SlAt.nil (w : World) (a : Option Addr) : SlAt w a [] := fun _ hi => absurd hi (Nat.not_lt_zero _)
theorem StrAt.nil (w : World) (a : Option Addr) : StrAt w a [] := fun _ hi => absurd hi (Nat.not_lt_zero _)
def MlAt (w : World) (b : Nat) (k u q : Int) (t g : ByteArray) (a : Option Addr) (n c : Nat) (a2 : Option Addr) (n2 c2 : Nat) : Prop :=
  (∀ o, w.frozen? ⟨b, o, none⟩ = false) ∧ w.cell? ⟨b, 0, none⟩ = some (.int .i64 k) ∧ w.cell? ⟨b, 1, none⟩ = some (.int .i64 u) ∧ w.cell? ⟨b, 2, none⟩ = some (.int .i64 q) ∧ w.cell? ⟨b, 3, none⟩ = some (.string t) ∧ w.cell? ⟨b, 4, none⟩ = some (.string g) ∧ w.cell? ⟨b, 5, none⟩ = some (.slice a n c) ∧ w.cell? ⟨b, 6, none⟩ = some (.slice a2 n2 c2)
theorem MlAt.new (w : World) (ty : TypeId) (k u q : Int) (t g : ByteArray) (a : Option Addr) (n c : Nat) (a2 : Option Addr) (n2 c2 : Nat) : MlAt (w.alloc (.cells #[.int .i64 k, .int .i64 u, .int .i64 q, .string t, .string g, .slice a n c, .slice a2 n2 c2] ty)) w.heap.size k u q t g a n c a2 n2 c2 :=
  ⟨fun o => by simp [go_sem], by simp [go_sem], by simp [go_sem], by simp [go_sem], by simp [go_sem], by simp [go_sem], by simp [go_sem], by simp [go_sem]⟩
theorem MlAt.lt {w : World} {b : Nat} {k u q : Int} {t g : ByteArray} {a : Option Addr} {n c : Nat} {a2 : Option Addr} {n2 c2 : Nat} (h : MlAt w b k u q t g a n c a2 n2 c2) : b < w.heap.size := World.block_lt_of_cell? _ _ h.2.1
theorem MlAt.later {w w' : World} {b : Nat} {k u q : Int} {t g : ByteArray} {a : Option Addr} {n c : Nat} {a2 : Option Addr} {n2 c2 : Nat} (h : MlAt w b k u q t g a n c a2 n2 c2) (hb : Below w.heap.size w w') : MlAt w' b k u q t g a n c a2 n2 c2 := by
  obtain ⟨f, h0, h1, h2, h3, h4, h5, h6⟩ := h
  exact ⟨fun o => (frozen_kept hb (World.block_lt_of_cell? _ _ h0)).trans (f o), cell_later hb h0, cell_later hb h1, cell_later hb h2, cell_later hb h3, cell_later hb h4, cell_later hb h5, cell_later hb h6⟩
theorem MlAt.range {w : World} {b : Nat} {k u q : Int} {t g : ByteArray} {a : Option Addr} {n c : Nat} {a2 : Option Addr} {n2 c2 : Nat} (h : MlAt w b k u q t g a n c a2 n2 c2) : w.rangeAt b 0 [.int .i64 k, .int .i64 u, .int .i64 q, .string t, .string g, .slice a n c, .slice a2 n2 c2] := by
  obtain ⟨f, h0, h1, h2, h3, h4, h5, h6⟩ := h
  intro j v hv
  match j, hv with
  | 0, hv => cases hv; exact h0
  | 1, hv => cases hv; exact h1
  | 2, hv => cases hv; exact h2
  | 3, hv => cases hv; exact h3
  | 4, hv => cases hv; exact h4
  | 5, hv => cases hv; exact h5
  | 6, hv => cases hv; exact h6
structure Lists (w : World) (a : Option Addr) (n c : Nat) (a2 : Option Addr) (n2 c2 : Nat) (ss : List Sl) (is : List ByteArray) : Prop where
  s : SlAt w a ss
  i : StrAt w a2 is
  ls : ss.length = n
  li : is.length = n2
  zs : a = none → n = 0 ∧ c = 0
  zi : a2 = none → n2 = 0 ∧ c2 = 0
  ms : n ≤ 9223372036854775807
  mi : n2 ≤ 9223372036854775807
theorem Lists.later {w w' : World} {a : Option Addr} {n c : Nat} {a2 : Option Addr} {n2 c2 : Nat} {ss : List Sl} {is : List ByteArray} (h : Lists w a n c a2 n2 c2 ss is) (hb : Below w.heap.size w w') : Lists w' a n c a2 n2 c2 ss is :=
  ⟨h.s.later hb, h.i.later hb rfl, h.ls, h.li, h.zs, h.zi, h.ms, h.mi⟩
theorem Lists.zero (w : World) : Lists w none 0 0 none 0 0 [] [] :=
  ⟨SlAt.nil _ _, StrAt.nil _ _, rfl, rfl, fun _ => ⟨rfl, rfl⟩, fun _ => ⟨rfl, rfl⟩, by decide, by decide⟩
theorem _root_.Go.Proofs.YtbogoheigbiegaaDoor.BytesAt.cell {w : World} {b : Nat} {l : List UInt8} (h : BytesAt w b l) (j : Nat) (hj : j < l.length) : ∃ v, w.cell? ⟨b, j, none⟩ = some v ∧ w.frozen? ⟨b, j, none⟩ = false := ⟨_, h j hj⟩
theorem made_zeros (n : Nat) : madeCells (Value.int .u8 0).cells (n * 1) = Array.replicate n (.int .u8 0) := by
  apply Array.ext
  · rw [size_madeCells, Array.size_replicate, Nat.mul_one]
  · intro i h1 h2
    rw [Array.getElem_replicate]
    simp [madeCells, Value.cells, Nat.mod_one]
theorem make_n (n : Nat) (hn : n ≤ 140737488355328) (w : World) : ∃ W : World, (Instr.makeSlice 60 (.int .i64 (n : Int)) (.int .i64 (n : Int))).run Tryd.prog w = .ok (.slice (some ⟨w.heap.size, 0, none⟩) n n) W
    ∧ BytesAt W w.heap.size (List.replicate n 0) ∧ Below w.heap.size w W ∧ w.heap.size < W.heap.size := by
  obtain ⟨i0, hi, hz0, hz1, hz2⟩ := info_parts infoByte
  have h := run_make (P := Tryd.prog) w 60 5 i0 (.int .u8 0) Tryd.underlying60 hi hz0 .i64 .i64 (n : Int) (n : Int) (by omega) (Int.le_refl _) (by rw [hz2]; omega) (by omega)
  rw [Int.toNat_natCast, hz1, made_zeros] at h
  refine ⟨_, h, fun j hj => ?_, (Below.refl _ _).alloc (Nat.le_refl _) _, by simp⟩
  have hj' : j < n := by simpa using hj
  refine ⟨?_, by simp [go_sem]⟩
  rw [World.cell?_alloc_new, List.getElem_replicate, Array.getElem?_replicate, if_pos hj']
  rfl
theorem copy_at (w : World) (b o n cap : Nat) (s : ByteArray) (m : Nat) (hm : Nat.min s.size n = m)
    (hc : ∀ j, j < n → (w.cell? ⟨b, o + j, none⟩).isSome = true) (hf : ∀ j, j < n → w.frozen? ⟨b, o + j, none⟩ = false) :
    (Builtin.copy_ #[60, 9] 3 #[.slice (some ⟨b, o, none⟩) n cap, .string s]).run Tryd.prog w = .ok (.int .i64 (m : Int)) (w.setCells b o ((s.data.toList.take m).map fun x => Value.int .u8 (x.toNat : Int))) := by
  have hmn : m ≤ n := by rw [← hm]; exact Nat.min_le_right _ _
  have hms : m ≤ s.size := by rw [← hm]; exact Nat.min_le_left _ _
  have hl : ((s.data.toList.take m).map fun x => Value.int .u8 (x.toNat : Int)).length = m := by
    rw [List.length_map, List.length_take]
    have : s.data.toList.length = s.size := by simp
    omega
  have hst := run_storeCells_cells (P := Tryd.prog) b o ((s.data.toList.take m).map fun x => Value.int .u8 (x.toNat : Int)) 0 w
    (by rw [hl]; intro j hj; simpa using hc j (by omega)) (by rw [hl]; intro j hj; simpa using hf j (by omega))
    (by intro v hv; obtain ⟨x, _, rfl⟩ := List.mem_map.1 hv; rfl)
  simp [Builtin.copy_, run_underlying Tryd.underlying60, Builtin.lenOf, Builtin.firstCells, hm]
  rw [← List.map_take, hst]
  rfl
theorem _root_.Go.Proofs.YtbogoheigbiegaaDoor.BytesAt.copied {w : World} {b : Nat} {l : List UInt8} (h : BytesAt w b l) (o : Nat) (xs : List UInt8) (hx : o + xs.length ≤ l.length) :
    BytesAt (w.setCells b o (xs.map fun x => Value.int .u8 (x.toNat : Int))) b (l.take o ++ xs ++ l.drop (o + xs.length)) := fun j hj => by
  have hj' : j < l.length := by rw [List.length_append, List.length_append, List.length_take, List.length_drop] at hj; omega
  obtain ⟨h0, h1⟩ := h j hj'
  refine ⟨?_, by rw [World.frozen?_setCells]; exact h1⟩
  have key := List.getElem?_eq_getElem hj
  generalize (l.take o ++ xs ++ l.drop (o + xs.length))[j] = v at key ⊢
  by_cases hlo : j < o
  · rw [World.cell?_setCells_out b _ o w _ (fun _ _ => .inl hlo), h0]
    rw [List.append_assoc, List.getElem?_append_left (by rw [List.length_take]; omega), List.getElem?_take_of_lt hlo, List.getElem?_eq_getElem hj'] at key
    rw [Option.some.inj key]
  · by_cases hhi : j < o + xs.length
    · have hx2 : j - o < xs.length := by omega
      have := World.cell?_setCells_in b (xs.map fun x => Value.int .u8 (x.toNat : Int)) o w (fun i hi => by
        rw [List.length_map] at hi
        rw [(h (o + i) (by omega)).1]; rfl) (j - o) (by rw [List.length_map]; exact hx2)
      rw [show o + (j - o) = j by omega] at this
      rw [List.append_assoc, List.getElem?_append_right (by rw [List.length_take]; omega), List.length_take, Nat.min_eq_left (by omega), List.getElem?_append_left hx2, List.getElem?_eq_getElem hx2] at key
      rw [this, List.getElem_map, Option.some.inj key]
    · rw [World.cell?_setCells_out b _ o w _ (fun _ _ => .inr (by rw [List.length_map]; show o + xs.length ≤ j; omega)), h0]
      rw [List.getElem?_append_right (by rw [List.length_append, List.length_take]; omega), List.length_append, List.length_take, Nat.min_eq_left (by omega), List.getElem?_drop, show o + xs.length + (j - (o + xs.length)) = j by omega, List.getElem?_eq_getElem hj'] at key
      rw [Option.some.inj key]
set_option maxHeartbeats 1000000 in
theorem mlong_any (k : Int) (w : World) :
    Calls Tryd.prog 42 #[.int .i64 k] w fun e w' => e = .returned (.int .i64 (long k)) ∧ w' = w := by
  by_cases h1 : k = 1
  · subst h1
    go_enter Tryd.func42, Tryd.ntmps42
    go_wp2
    go_ret
    exact ⟨rfl, rfl⟩
  by_cases h2 : k = 2
  · subst h2
    go_enter Tryd.func42, Tryd.ntmps42
    go_wp2
    go_ret
    exact ⟨rfl, rfl⟩
  by_cases h3 : k = 3
  · subst h3
    go_enter Tryd.func42, Tryd.ntmps42
    go_wp2
    go_ret
    exact ⟨rfl, rfl⟩
  by_cases h4 : k = 4
  · subst h4
    go_enter Tryd.func42, Tryd.ntmps42
    go_wp2
    go_ret
    exact ⟨rfl, rfl⟩
  have e : long k = 0 := by unfold long; rw [if_neg h1, if_neg h2, if_neg h3, if_neg h4]
  rw [e]
  go_enter Tryd.func42, Tryd.ntmps42
  go_wp2
  go_ret
  exact ⟨rfl, rfl⟩
theorem idB_false {s : ByteArray} (h : ¬ s.size = 16) : idB s = false := by unfold idB; rw [decide_eq_false h]; rfl
theorem idB_16 {s : ByteArray} (h : s.size = 16) : idB s = !decide (by' s = zr 16) := by unfold idB; rw [decide_eq_true h]; rfl
theorem toList_by (s : ByteArray) : s.toList = by' s := ByteArray.toList_eq s
set_option maxHeartbeats 1000000 in
theorem isId_any (s : ByteArray) (w : World) :
    Calls Tryd.prog 74 #[.string s] w fun e w' => e = .returned (.bool (idB s)) ∧ w' = w := by
  by_cases h : s.size = 16
  · rw [idB_16 h]
    have g1 : (s.size : Int) = 16 := by omega
    have g2 : (s.toList == [0, 0, 0, 0, 0, 0, 0, 0, 0, 0, 0, 0, 0, 0, 0, 0]) = decide (by' s = zr 16) := by
      rw [toList_by]
      by_cases h2 : by' s = zr 16
      · rw [decide_eq_true h2, h2]; rfl
      · rw [decide_eq_false h2, beq_eq_false_iff_ne]; exact h2
    obtain ⟨d, hd⟩ : ∃ d, decide (by' s = zr 16) = d := ⟨_, rfl⟩
    rw [hd] at g2 ⊢
    go_enter Tryd.func74, Tryd.ntmps74
    go_wp2
    go_ret
    exact ⟨rfl, rfl⟩
  · rw [idB_false h]
    have g1 : ¬ (s.size : Int) = 16 := by omega
    go_enter Tryd.func74, Tryd.ntmps74
    go_wp2
    go_ret
    exact ⟨rfl, rfl⟩
end Go.Proofs.YtbogoheigbiegaaDoor.Mai
namespace Go.Proofs.YtbogoheigbiegaaDoor.Mai
open Go.RowKit Go.Proofs.Fd Go.Proofs.Ml
set_option maxRecDepth 20000
def nmB (u q : Int) : Bool := decide (0 ≤ u) && decide (u < 64) && decide (1 ≤ q) && decide (q ≤ 2147483647)
def smB (t g : ByteArray) (n n2 : Nat) (T G S I : Nat) : Bool := decide (t.size = T) && decide (g.size = G) && decide (n = S) && decide (n2 ≤ I)
set_option maxHeartbeats 1000000 in
theorem numbered_any (k u q : Int) (t g : ByteArray) (a : Option Addr) (n c : Nat) (a2 : Option Addr) (n2 c2 : Nat) (w : World) :
    Calls Tryd.prog 63 #[mv k u q t g a n c a2 n2 c2] w fun e w' => e = .returned (.bool (nmB u q)) ∧ Below w.heap.size w w' := by
  unfold nmB
  by_cases h1 : 0 ≤ u
  rotate_left
  · rw [decide_eq_false h1]
    go_enter Tryd.func63, Tryd.ntmps63
    go_wp2
    go_ret
    exact ⟨by simp, (Below.refl _ _).alloc (Nat.le_refl _) _⟩
  rw [decide_eq_true h1]
  by_cases h2 : u < 64
  rotate_left
  · rw [decide_eq_false h2]
    go_enter Tryd.func63, Tryd.ntmps63
    go_wp2
    go_ret
    exact ⟨by simp, (Below.refl _ _).alloc (Nat.le_refl _) _⟩
  rw [decide_eq_true h2]
  by_cases h3 : 1 ≤ q
  rotate_left
  · rw [decide_eq_false h3]
    go_enter Tryd.func63, Tryd.ntmps63
    go_wp2
    go_ret
    exact ⟨by simp, (Below.refl _ _).alloc (Nat.le_refl _) _⟩
  rw [decide_eq_true h3]
  by_cases h4 : q ≤ 2147483647
  rotate_left
  · rw [decide_eq_false h4]
    go_enter Tryd.func63, Tryd.ntmps63
    go_wp2
    go_ret
    exact ⟨by simp, (Below.refl _ _).alloc (Nat.le_refl _) _⟩
  rw [decide_eq_true h4]
  go_enter Tryd.func63, Tryd.ntmps63
  go_wp2
  go_ret
  exact ⟨by simp, (Below.refl _ _).alloc (Nat.le_refl _) _⟩
set_option maxHeartbeats 1000000 in
theorem sized_any (T G S I : Nat) (k u q : Int) (t g : ByteArray) (a : Option Addr) (n c : Nat) (a2 : Option Addr) (n2 c2 : Nat) (w : World) :
    Calls Tryd.prog 62 #[mv k u q t g a n c a2 n2 c2, .int .i64 (T : Int), .int .i64 (G : Int), .int .i64 (S : Int), .int .i64 (I : Int)] w fun e w' => e = .returned (.bool (smB t g n n2 T G S I)) ∧ Below w.heap.size w w' := by
  unfold smB
  by_cases h1 : t.size = T
  rotate_left
  · rw [decide_eq_false h1]
    have z1 : ¬ (t.size : Int) = (T : Int) := by omega
    go_enter Tryd.func62, Tryd.ntmps62
    go_wp2
    go_ret
    exact ⟨by simp, (Below.refl _ _).alloc (Nat.le_refl _) _⟩
  rw [decide_eq_true h1]
  by_cases h2 : g.size = G
  rotate_left
  · rw [decide_eq_false h2]
    have z2 : ¬ (g.size : Int) = (G : Int) := by omega
    go_enter Tryd.func62, Tryd.ntmps62
    go_wp2
    go_ret
    exact ⟨by simp, (Below.refl _ _).alloc (Nat.le_refl _) _⟩
  rw [decide_eq_true h2]
  by_cases h3 : n = S
  rotate_left
  · rw [decide_eq_false h3]
    have z3 : ¬ (n : Int) = (S : Int) := by omega
    go_enter Tryd.func62, Tryd.ntmps62
    go_wp2
    go_ret
    exact ⟨by simp, (Below.refl _ _).alloc (Nat.le_refl _) _⟩
  rw [decide_eq_true h3]
  by_cases h4 : n2 ≤ I
  rotate_left
  · rw [decide_eq_false h4]
    have z4 : ¬ (n2 : Int) ≤ (I : Int) := by omega
    go_enter Tryd.func62, Tryd.ntmps62
    go_wp2
    go_ret
    exact ⟨by simp, (Below.refl _ _).alloc (Nat.le_refl _) _⟩
  rw [decide_eq_true h4]
  have z4 : (n2 : Int) ≤ (I : Int) := by omega
  go_enter Tryd.func62, Tryd.ntmps62
  go_wp2
  go_ret
  exact ⟨by simp, (Below.refl _ _).alloc (Nat.le_refl _) _⟩
end Go.Proofs.YtbogoheigbiegaaDoor.Mai
namespace Go.Proofs.YtbogoheigbiegaaDoor.Mai
open Go.RowKit Go.Proofs.Fd Go.Proofs.Ml
set_option maxRecDepth 20000
def NumAt (w : World) (a : Option Addr) (cs : List Int) : Prop := ∀ i (hi : i < cs.length), ∃ b o, a = some ⟨b, o, none⟩ ∧ w.cell? ⟨b, o + i, none⟩ = some (.int .i64 cs[i])
theorem NumAt.later {W w1 : World} {a : Option Addr} {cs : List Int} (h : NumAt W a cs) (hb : Below W.heap.size W w1) : NumAt w1 a cs := fun i hi => by
  obtain ⟨b, o, e, hc⟩ := h i hi
  exact ⟨b, o, e, cell_later hb hc⟩
theorem pad_step (n k : Nat) (l : List UInt8) (x : UInt8) (hl : l.length = k) (hk : k < n) : (pad n l).set k x = pad n (l ++ [x]) := by
  unfold pad
  obtain ⟨d, hd⟩ : ∃ d, n - l.length = d + 1 := ⟨n - l.length - 1, by omega⟩
  have hd2 : n - (l ++ [x]).length = d := by simp; omega
  rw [hd, hd2, List.set_append_right _ _ (by omega), hl, Nat.sub_self, List.append_assoc]
  rfl
theorem pad_nil (n : Nat) : pad n [] = List.replicate n 0 := by unfold pad; simp
set_option maxHeartbeats 1000000 in
theorem inBytes_any (a : Option Addr) (cs : List Int) (n cap : Nat) (hn : Hid (cs.length = n)) (hz : n ≤ 1000) (w : World) (hc : Hid (NumAt w a cs)) :
    Calls Tryd.prog 41 #[.slice a n cap] w fun e w' => e = .returned (.string (mk (cs.map b8))) ∧ Below w.heap.size w w' := by
  obtain ⟨S, hS⟩ : ∃ S, mk (cs.map b8) = S := ⟨_, rfl⟩
  have HS : Hid (mk (cs.map b8) = S) := hS
  rw [hS]
  clear hS
  obtain ⟨W, CM, BW, bW, -⟩ := make_n n (by omega) w
  obtain ⟨B, hB⟩ : ∃ B, w.heap.size = B := ⟨_, rfl⟩
  have I0 : Hid (BytesAt W B (pad n ((cs.take 0).map b8)) ∧ Below B w W) := by
    refine ⟨?_, hB ▸ bW⟩
    rw [List.take_zero, List.map_nil, pad_nil, ← hB]
    exact BW
  have HB : Hid (w.heap.size = B) := hB
  rw [hB] at CM
  clear BW bW hB
  go_enter Tryd.func41, Tryd.ntmps41
  go_wp2
  go_loopw [11] (fun i wr => ∃ k : Nat, k ≤ n ∧ i = .int .i64 (k : Int) ∧ Hid (BytesAt wr B (pad n ((cs.take k).map b8)) ∧ Below B w wr)) (fun i _ => n - (intOf i).toNat)
  case atStart => exact ⟨0, Nat.zero_le _, rfl, I0.out⟩
  case round =>
    obtain ⟨k, hk, rfl, I⟩ := hrel
    clear I0 CM
    by_cases hlt : k < n
    · have hk' : k < cs.length := by rw [hn.out]; exact hlt
      have g1 : (k : Int) < (n : Int) := by omega
      have hl : ((cs.take k).map b8).length = k := by rw [List.length_map, List.length_take]; omega
      obtain ⟨b, o, rfl, cx⟩ := hc.out.later (HB.out ▸ I.out.2) k hk'
      obtain ⟨x, hx⟩ : ∃ x, cs[k] = x := ⟨_, rfl⟩
      obtain ⟨vx, c1, f1⟩ := I.out.1.cell k (by rw [pad_len _ _ (by omega)]; exact hlt)
      rw [hx] at cx
      have I2 : Hid (BytesAt (wr.setCell ⟨B, k, none⟩ (.int .u8 (x % 256))) B (pad n ((cs.take (k + 1)).map b8)) ∧ Below B w (wr.setCell ⟨B, k, none⟩ (.int .u8 (x % 256)))) := by
        refine ⟨?_, I.out.2.setCell (p := ⟨B, k, none⟩) (Nat.le_refl _) _⟩
        rw [List.take_succ_eq_append_getElem hk', List.map_append, hx, List.map_singleton, ← pad_step n k _ (b8 x) hl hlt]
        exact I.out.1.set k (b8 x) _ (by rw [b8_nat]; omega)
      have HX : Hid (cs[k] = x) := hx
      clear I hl hx
      go_wp2
      go_roundw
      case rel => exact ⟨k + 1, by omega, by go_num, I2.out⟩
      case measure => simp [intOf]; omega
    · obtain rfl : k = n := by omega
      have CV : (convert 60 9 (.slice (some ⟨B, 0, none⟩) k k)).run Tryd.prog wr = .ok (.string S) wr := by
        rw [← HS.out]
        have h := I.out.1
        have e : pad k ((cs.take k).map b8) = cs.map b8 := by
          rw [List.take_of_length_le (by rw [hn.out]; exact Nat.le_refl _)]
          unfold pad
          rw [List.length_map, hn.out, Nat.sub_self]; simp
        rw [e] at h
        exact h.string (by rw [List.length_map, hn.out])
      have BF : Hid (Below B w wr) := I.out.2
      clear I
      go_wp2
      go_ret
      exact ⟨rfl, HB.out ▸ BF.out⟩
theorem numAt1 {w : World} {B : Nat} {x : Int} (h0 : w.cell? ⟨B, 0, none⟩ = some (.int .i64 x)) : NumAt w (some ⟨B, 0, none⟩) [x] := fun i hi => by
  refine ⟨B, 0, rfl, ?_⟩
  obtain rfl : i = 0 := by simp at hi; omega
  exact h0
theorem numAt6 {w : World} {B : Nat} {x0 x1 x2 x3 x4 x5 : Int} (h0 : w.cell? ⟨B, 0, none⟩ = some (.int .i64 x0)) (h1 : w.cell? ⟨B, 1, none⟩ = some (.int .i64 x1)) (h2 : w.cell? ⟨B, 2, none⟩ = some (.int .i64 x2)) (h3 : w.cell? ⟨B, 3, none⟩ = some (.int .i64 x3)) (h4 : w.cell? ⟨B, 4, none⟩ = some (.int .i64 x4)) (h5 : w.cell? ⟨B, 5, none⟩ = some (.int .i64 x5)) : NumAt w (some ⟨B, 0, none⟩) [x0, x1, x2, x3, x4, x5] := fun i hi => by
  refine ⟨B, 0, rfl, ?_⟩
  rcases (by simp at hi; omega : i = 0 ∨ i = 1 ∨ i = 2 ∨ i = 3 ∨ i = 4 ∨ i = 5) with rfl | rfl | rfl | rfl | rfl | rfl
  · exact h0
  · exact h1
  · exact h2
  · exact h3
  · exact h4
  · exact h5
def ldl (k u q : Int) : List UInt8 := if k = 1 then [1] else [b8 k, b8 u, b8 (q / 16777216), b8 (q / 65536), b8 (q / 256), b8 q]
set_option maxHeartbeats 1000000 in
theorem lead_any (k u q : Int) (t g : ByteArray) (a : Option Addr) (n c : Nat) (a2 : Option Addr) (n2 c2 : Nat) (w : World) :
    Calls Tryd.prog 39 #[mv k u q t g a n c a2 n2 c2] w fun e w' => e = .returned (.string (mk (ldl k u q))) ∧ Below w.heap.size w w' := by
  unfold ldl
  by_cases h1 : k = 1
  · subst h1
    rw [if_pos rfl]
    go_enter Tryd.func39, Tryd.ntmps39
    go_wp2_with fail
    refine Calls.mono (inBytes_any _ [1] 1 1 rfl (by decide) _ (numAt1 (by simp [go_sem]))) ?_
    rintro e w1 ⟨rfl, hb1⟩
    have B1 : Hid (Below w.heap.size w w1) := chain (((Below.refl _ w).alloc (Nat.le_refl _) _).alloc (by simp) _) hb1
    clear hb1
    go_wp2
    go_ret
    exact ⟨rfl, B1.out⟩
  · rw [if_neg h1]
    go_enter Tryd.func39, Tryd.ntmps39
    go_wp2_with fail
    refine Calls.mono (inBytes_any _ [k, u, q / 16777216, q / 65536, q / 256, q] 6 6 rfl (by decide) _ (numAt6 (by simp [go_sem]) (by simp [go_sem]) (by simp [go_sem]) (by simp [go_sem]) (by simp [go_sem]) (by simp [go_sem]))) ?_
    rintro e w1 ⟨rfl, hb1⟩
    have B1 : Hid (Below w.heap.size w w1) := chain (((Below.refl _ w).alloc (Nat.le_refl _) _).alloc (by simp) _) hb1
    clear hb1
    go_wp2
    go_ret
    exact ⟨rfl, B1.out⟩
end Go.Proofs.YtbogoheigbiegaaDoor.Mai
