/- Parts: FrP, FrQ, FrC, FrT, FrU, FrN, FrO, FrW, FrA, FrS. -/
import Derived.Test.YtbogoheigbiegaaDoorZgG17
import Derived.BigRegion
import Derived.Lib.AppendStr
import Derived.Shelf.Slices.Clone
import Derived.Laws.MakeOwn
import Derived.Laws.OwnMore
namespace Go.Proofs.YtbogoheigbiegaaDoor.Mai
open Go.RowKit Go.Proofs.Fd Go.Proofs.Fr
set_option maxRecDepth 20000
structure But (p g : Nat) (w w' : World) : Prop where
  os : w'.os = w.os
  tape : w'.tape = w.tape
  output : w'.output = w.output
  size : w.heap.size ≤ w'.heap.size
  block : ∀ k, k < w.heap.size → k ≠ p → k ≠ g → w'.heap[k]? = w.heap[k]?
theorem But.refl (p g : Nat) (w : World) : But p g w w := ⟨rfl, rfl, rfl, Nat.le_refl _, fun _ _ _ _ => rfl⟩
theorem But.of {p g : Nat} {w w' : World} (h : Below w.heap.size w w') : But p g w w' := ⟨h.os, h.tape, h.output, h.size, fun k hk _ _ => h.block k hk⟩
theorem But.trans {p g g' : Nat} {a b c : World} (h : But p g a b) (k : But p g' b c) (e : g' = g ∨ g' = p ∨ a.heap.size ≤ g') : But p g a c :=
  ⟨k.os.trans h.os, k.tape.trans h.tape, k.output.trans h.output, Nat.le_trans h.size k.size, fun j hj hp hg => (k.block j (Nat.lt_of_lt_of_le hj h.size) hp (by rcases e with e | e | e <;> omega)).trans (h.block j hj hp hg)⟩
theorem But.drew {p g : Nat} {a w : World} (h : But p g a w) : But p g a w.drew := ⟨h.os, h.tape, h.output, h.size, h.block⟩
theorem But.setCell {p g : Nat} {a w : World} (h : But p g a w) (o : Nat) (u : Value) : But p g a (w.setCell ⟨p, o, none⟩ u) :=
  ⟨h.os, h.tape, h.output, by simpa using h.size, fun k hk hp hg => (Below.heap_setCell w _ u k hp).trans (h.block k hk hp hg)⟩
theorem But.grown {p g : Nat} {row : Option Nat} {a w w' : World} (h : But p g a w) (k : w.grownBy w' row) (hr : ∀ x, row = some x → x = g) : But p g a w' :=
  ⟨k.os.trans h.os, k.tape.trans h.tape, k.output.trans h.output, Nat.le_trans h.size k.size, fun j hj hp hg => (k.block j (Nat.lt_of_lt_of_le hj h.size) (by intro e; exact hg (hr j e.symm))).trans (h.block j hj hp hg)⟩
theorem But.alloc {p g : Nat} {a w : World} (h : But p g a w) (o : Obj) : But p g a (w.alloc o) :=
  ⟨h.os, h.tape, h.output, Nat.le_trans h.size (by simp), fun j hj hp hg => (Below.heap_alloc w o j (Nat.lt_of_lt_of_le hj h.size)).trans (h.block j hj hp hg)⟩
theorem But.below {p g B : Nat} {w w' : World} (h : But p g w w') (hp : B ≤ p) (hg : B ≤ g) (hB : B ≤ w.heap.size) : Below B w w' :=
  ⟨h.os, h.tape, h.output, h.size, fun k hk => h.block k (by omega) (by omega) (by omega)⟩
theorem But.cell {p g : Nat} {w w' : World} (h : But p g w w') {a : Addr} {v : Value} (hc : w.cell? a = some v) (hp : a.block ≠ p) (hg : a.block ≠ g) : w'.cell? a = some v :=
  (World.cell?_of_block (h.block a.block (World.block_lt_of_cell? _ _ hc) hp hg)).trans hc
def Buf (w : World) (g : Nat) (v : Value) (h : List UInt8) : Prop :=
  (v = .slice none 0 0 ∧ h = []) ∨
  ∃ (o cap : Nat) (cur : Array Value), v = .slice (some ⟨g, o, none⟩) h.length cap ∧ w.heap[g]? = some (.cells cur 5 (0, 0)) ∧ h.length ≤ cap ∧ cap ≤ maxLen ∧ o + cap ≤ cur.size ∧ (cur.toList.drop o).take h.length = bcells h
theorem add_at (g o j : Nat) : Addr.add ⟨g, o, none⟩ j = ⟨g, o + j, none⟩ := by unfold Addr.add; split <;> simp_all
theorem Buf.same {w w' : World} {g : Nat} {v : Value} {h : List UInt8} (b : Buf w g v h) (e : w'.heap[g]? = w.heap[g]?) : Buf w' g v h := by
  rcases b with b | ⟨o, cap, cur, h1, h2, h3⟩
  · exact .inl b
  · exact .inr ⟨o, cap, cur, h1, e.trans h2, h3⟩
theorem Buf.lt {w : World} {g : Nat} {v : Value} {h : List UInt8} (b : Buf w g v h) (hv : v ≠ .slice none 0 0) : g < w.heap.size := by
  rcases b with b | ⟨o, cap, cur, h1, h2, h3⟩
  · exact absurd b.1 hv
  · exact (Array.getElem?_eq_some_iff.1 h2).1
theorem Buf.is {w : World} {g : Nat} {v : Value} {h : List UInt8} (b : Buf w g v h) : ∃ a n cap, v = .slice a n cap ∧ n = h.length ∧ (a = none → v = .slice none 0 0) ∧ ∀ x, v.ownBlock = some x → x = g := by
  rcases b with ⟨rfl, e⟩ | ⟨o, cap, cur, rfl, -⟩
  · exact ⟨none, 0, 0, rfl, by rw [e]; rfl, fun _ => rfl, fun x h => (by cases h)⟩
  · exact ⟨_, _, _, rfl, rfl, fun h => (by cases h), fun x h => (by cases h; rfl)⟩
def Cg (v : Value) (g p : Nat) : Prop := v = .slice none 0 0 ∧ g = p ∨ v ≠ .slice none 0 0 ∧ g ≠ p
theorem Cg.or {v : Value} {g p : Nat} (h : Cg v g p) : v = .slice none 0 0 ∨ g ≠ p := h.imp And.left And.right
theorem Buf.nil {w w' : World} {g g' : Nat} {h : List UInt8} (b : Buf w g (.slice none 0 0) h) : Buf w' g' (.slice none 0 0) h := by
  rcases b with b | ⟨o, cap, cur, e, -⟩
  · exact .inl b
  · cases e
theorem Buf.pick {w : World} {g v h} (b : Buf w g v h) (p B : Nat) (hp : p < B) (hg : B ≤ g) : ∃ g', Buf w g' v h ∧ Cg v g' p ∧ (g' = p ∨ B ≤ g') := by
  by_cases q : v = .slice none 0 0
  · subst q; exact ⟨p, b.nil, .inl ⟨rfl, rfl⟩, .inl rfl⟩
  · exact ⟨g, b, .inr ⟨q, by omega⟩, .inr hg⟩
end Go.Proofs.YtbogoheigbiegaaDoor.Mai
namespace Go.Proofs.YtbogoheigbiegaaDoor.Mai
open Go.RowKit Go.Proofs.Fd Go.Proofs.Fr
set_option maxRecDepth 20000
theorem wr32 (n : Int) (h₀ : 0 ≤ n) (h₁ : n < 2 ^ 32) : IntKind.u32.wrap n = n := by rw [IntKind.wrap_u32]; omega
theorem or_high (a b c d : Nat) (hb : b < 256) (hc : c < 256) (hd : d < 256) : a * 16777216 ||| b * 65536 ||| c * 256 ||| d = a * 16777216 + b * 65536 + c * 256 + d := by
  have e1 : a * 16777216 ||| b * 65536 = (a * 256 + b) * 65536 := by
    have := Nat.shiftLeft_add_eq_or_of_lt (show b * 65536 < 2 ^ 24 by omega) a
    rw [Nat.shiftLeft_eq] at this
    rw [show a * 16777216 = a * 2 ^ 24 from rfl, ← this]; omega
  have e2 : (a * 256 + b) * 65536 ||| c * 256 = (a * 65536 + b * 256 + c) * 256 := by
    have := Nat.shiftLeft_add_eq_or_of_lt (show c * 256 < 2 ^ 16 by omega) (a * 256 + b)
    rw [Nat.shiftLeft_eq] at this
    rw [show (a * 256 + b) * 65536 = (a * 256 + b) * 2 ^ 16 from rfl, ← this]; omega
  have e3 : (a * 65536 + b * 256 + c) * 256 ||| d = (a * 65536 + b * 256 + c) * 256 + d := by
    have := Nat.shiftLeft_add_eq_or_of_lt (show d < 2 ^ 8 by omega) (a * 65536 + b * 256 + c)
    rw [Nat.shiftLeft_eq] at this
    rw [show (a * 65536 + b * 256 + c) * 256 = (a * 65536 + b * 256 + c) * 2 ^ 8 from rfl, ← this]
  rw [e1, e2, e3]; omega
end Go.Proofs.YtbogoheigbiegaaDoor.Mai
namespace Go.Proofs.YtbogoheigbiegaaDoor.Mai
open Go.RowKit Go.Proofs.Fd Go.Proofs.Fr Go.Lib
set_option maxRecDepth 20000
end Go.Proofs.YtbogoheigbiegaaDoor.Mai
namespace Go.Proofs.YtbogoheigbiegaaDoor.Mai
open Go.RowKit Go.Proofs.Fd Go.Proofs.Fr
set_option maxRecDepth 20000
theorem Buf.drop {w : World} {g o cap : Nat} {cur : Array Value} {h : List UInt8} (n : Nat) (hn : n ≤ h.length) (hg : w.heap[g]? = some (.cells cur 5 (0, 0))) (hc : h.length ≤ cap) (hm : cap ≤ maxLen) (hs : o + cap ≤ cur.size) (ht : (cur.toList.drop o).take h.length = bcells h) (a : Nat) (ha : a = o + n ∨ a = o ∧ cap = n) :
    Buf w g (.slice (some ⟨g, a, none⟩) (h.length - n) (cap - n)) (h.drop n) := by
  refine .inr ⟨a, cap - n, cur, by rw [List.length_drop], hg, by rw [List.length_drop]; omega, by omega, by omega, ?_⟩
  rw [List.length_drop]
  rcases ha with rfl | ⟨rfl, rfl⟩
  · have : bcells (h.drop n) = (bcells h).drop n := by simp [bcells]
    rw [this, ← ht, List.drop_take, List.drop_drop]
  · rw [show h.length - cap = 0 by omega, List.take_zero, List.drop_of_length_le hc]; rfl
end Go.Proofs.YtbogoheigbiegaaDoor.Mai
namespace Go.Proofs.YtbogoheigbiegaaDoor.Mai
open Go.RowKit Go.Proofs.Fd Go.Proofs.Fr
set_option maxRecDepth 20000
end Go.Proofs.YtbogoheigbiegaaDoor.Mai
namespace Go.Proofs.YtbogoheigbiegaaDoor.Mai
open Go.RowKit Go.Proofs.Fd Go.Proofs.Fr
set_option maxRecDepth 20000
end Go.Proofs.YtbogoheigbiegaaDoor.Mai
namespace Go.Proofs.YtbogoheigbiegaaDoor.Mai
open Go.RowKit Go.Proofs.Fd Go.Proofs.Fr
set_option maxRecDepth 20000
end Go.Proofs.YtbogoheigbiegaaDoor.Mai
namespace Go.Proofs.YtbogoheigbiegaaDoor.Mai
open Go.RowKit Go.Proofs.Fd Go.Proofs.Fr
set_option maxRecDepth 20000
end Go.Proofs.YtbogoheigbiegaaDoor.Mai
namespace Go.Proofs.YtbogoheigbiegaaDoor.Mai
open Go.RowKit Go.Proofs.Fd Go.Proofs.Fr
set_option maxRecDepth 20000
theorem But.new {p g : Nat} {row : Option Nat} {a w w' : World} (h : But p g a w) (k : w.grownBy w' row) (hr : ∀ x, row = some x → a.heap.size ≤ x) : But p g a w' :=
  ⟨k.os.trans h.os, k.tape.trans h.tape, k.output.trans h.output, Nat.le_trans h.size k.size, fun j hj hp hg => (k.block j (Nat.lt_of_lt_of_le hj h.size) (by intro e; have := hr j e.symm; omega)).trans (h.block j hj hp hg)⟩
theorem scells_app (a b : List ByteArray) : scells (a ++ b) = scells a ++ scells b := by unfold scells; rw [List.map_append]
theorem scells_len (a : List ByteArray) : (scells a).length = a.length := by unfold scells; rw [List.length_map]
theorem scells_one (l : List ByteArray) : ∀ u ∈ scells l, u.oneCell' = true := by
  intro u hu
  simp only [scells, List.mem_map] at hu
  obtain ⟨b, _, rfl⟩ := hu
  rfl
end Go.Proofs.YtbogoheigbiegaaDoor.Mai
namespace Go.Proofs.YtbogoheigbiegaaDoor.Mai
open Go.RowKit Go.Proofs.Fd Go.Proofs.Fr
set_option maxRecDepth 20000
theorem StrAt.each {w : World} {a : Addr} {ks : List ByteArray} (h : StrAt w (some a) ks) : ∀ j u, (scells ks)[j]? = some u → w.cell? (a.add j) = some u := by
  intro j u hu
  have hj : j < ks.length := by have := (List.getElem?_eq_some_iff.1 hu).1; rw [scells_len] at this; exact this
  obtain ⟨b, o, e, hc⟩ := h j hj
  injection e with e
  subst e
  rw [add_at, hc, ← hu]
  simp [scells, hj]
theorem app_strs (w : World) (ty base : Nat) (v : Value) (m : Nat) (xs : List Value) (hown : w.ownsRow base 9 1 v m xs) (a : Option Addr) (ks : List ByteArray) (n cap : Nat) (hn : ks.length = n) (ha : a = none → n = 0 ∧ cap = 0) (hc : StrAt w a ks) (hz : (m + n) * 16 ≤ 140737488355328) (hb : base ≤ w.heap.size) :
    ∃ v' w', (Builtin.append_ #[36, 36] ty #[v, .slice a n cap]).run Tryd.prog w = .ok v' w' ∧ w'.ownsRow base 9 1 v' (m + n) (xs ++ scells ks) ∧ w.grownBy w' v.ownBlock := by
  obtain ⟨i0, hi, hz0, hz1, hz2⟩ := info_parts infoStr
  cases a with
  | none =>
    obtain ⟨rfl, rfl⟩ := ha rfl
    obtain rfl := List.length_eq_zero_iff.1 hn
    exact ⟨v, w, run_append_owned_none (P := Tryd.prog) w base 36 ty 9 i0 1 Tryd.underlying36 hi v m xs hown, by simpa [scells] using hown, ⟨rfl, rfl, rfl, Nat.le_refl _, fun _ _ _ => rfl⟩⟩
  | some a =>
    obtain ⟨v', w', h1, h2, h3, -⟩ := run_append_own (P := Tryd.prog) w base 36 ty 9 i0 (.string ⟨#[]⟩) 1 16 Tryd.underlying36 hi hz0 hz1 hz2 rfl (by decide) v m xs hown a n cap (scells ks) (by rw [scells_len, hn]; omega) hc.each (scells_one ks) (by unfold maxLen; omega) hz hb
    exact ⟨v', w', h1, h2, h3⟩
theorem own_strAt {w : World} {base n : Nat} {v : Value} {l : List ByteArray} (h : w.ownsRow base 9 1 v n (scells l)) : l.length = n ∧ ∃ a cap, v = .slice a n cap ∧ StrAt w a l ∧ (a = none → n = 0 ∧ cap = 0) := by
  obtain ⟨h1, h2⟩ := owns_strs h
  refine ⟨h1, ?_⟩
  rcases h2 with ⟨rfl, rfl⟩ | ⟨g, cap, rfl, hc⟩
  · exact ⟨none, 0, rfl, fun i hi => by omega, fun _ => ⟨rfl, rfl⟩⟩
  · exact ⟨_, cap, rfl, hc, fun h => (by cases h)⟩
theorem copy_strs (w : World) (ty : Nat) (a : Option Addr) (ks : List ByteArray) (n cap : Nat) (hn : ks.length = n) (ha : a = none → n = 0 ∧ cap = 0) (hc : StrAt w a ks) (hz : n * 16 ≤ 140737488355328) :
    ∃ v' w', (Builtin.append_ #[36, 36] ty #[.slice (some ⟨w.heap.size, 0, none⟩) 0 0, .slice a n cap]).run Tryd.prog (w.alloc (.cells #[] 9)) = .ok v' w' ∧ w'.ownsRow w.heap.size 9 1 v' n (scells ks) ∧ Below w.heap.size w w' := by
  have hb : Below w.heap.size w (w.alloc (.cells #[] 9)) := (Below.refl _ _).alloc (Nat.le_refl _) _
  have o0 := World.ownsRow_made (base := w.heap.size) (e := 9) (size := 1) w #[] 0 (Nat.le_refl _) (Nat.zero_le _) rfl
  obtain ⟨v', w', h1, h2, h3⟩ := app_strs _ ty w.heap.size _ 0 [] o0 a ks n cap hn ha (hc.later hb rfl) (by omega) (by simp)
  refine ⟨v', w', h1, by simpa using h2, hb.grown h3 (by simp) (fun k hk => (o0.lt k hk).1)⟩
end Go.Proofs.YtbogoheigbiegaaDoor.Mai
