/- The document's digests. -/
import Derived.Test.YtbkefhfbbhdpcabDoorKR4
import Derived.Test.YtbkefhfbbhdpcabDoorGL
import Derived.Laws.OwnMore

/- What stands behind a text, as the document has it. -/
namespace Go.Proofs.YtbkefhfbbhdpcabDoor
open Go.RowKit Go.Proofs.Fd Go.Proofs.Hs
set_option maxRecDepth 20000

theorem made_zero (n : Nat) : (madeCells (Value.cells (.int .u8 0)) (n * 1)).toList = bcells (List.replicate n 0) := by
  rw [Nat.mul_one]
  apply List.ext_getElem?
  intro j
  simp [madeCells, bcells, Value.cells]
  by_cases h : j < n
  · simp [h, Nat.mod_one]
  · simp [h]

/-- The last eight bytes so far. -/
def bs (X : Nat) : Nat → List UInt8
  | 0 => List.replicate 8 0
  | i + 1 => (bs X i).set (7 - i) (UInt8.ofNat (X / 2 ^ (8 * i)))
theorem bs_len (X i : Nat) : (bs X i).length = 8 := by
  induction i with
  | zero => rfl
  | succ i ih => simpa [bs] using ih
theorem bs_all (X : Nat) : bs X 8 = be8 X := by rfl
theorem bcells_set (l : List UInt8) (j : Nat) (x : UInt8) : (bcells l).set j (.int .u8 (x.toNat : Int)) = bcells (l.set j x) := by
  unfold bcells; rw [List.map_set]

end Go.Proofs.YtbkefhfbbhdpcabDoor

/- The document's digest. -/
namespace Go.Proofs.YtbkefhfbbhdpcabDoor
open Go.RowKit Go.Proofs.Fd Go.Proofs.Hs
set_option maxRecDepth 20000

theorem at8_below {B : Nat} {W w1 : World} {b : Nat} {x0 x1 x2 x3 x4 x5 x6 x7 : Value} (h : At8 W b x0 x1 x2 x3 x4 x5 x6 x7) (hb : Below B W w1) (hl : b < B) : At8 w1 b x0 x1 x2 x3 x4 x5 x6 x7 := by
  obtain ⟨f, h0, h1, h2, h3, h4, h5, h6, h7⟩ := h
  exact ⟨fun o => (hb.frozen hl).trans (f o), (hb.cell hl).trans h0, (hb.cell hl).trans h1, (hb.cell hl).trans h2, (hb.cell hl).trans h3, (hb.cell hl).trans h4, (hb.cell hl).trans h5, (hb.cell hl).trans h6, (hb.cell hl).trans h7⟩
theorem at8_at {w : World} {b : Nat} {v : V8} (h : At8 w b (.int .u32 (tv v.a)) (.int .u32 (tv v.b)) (.int .u32 (tv v.c)) (.int .u32 (tv v.d)) (.int .u32 (tv v.e)) (.int .u32 (tv v.f)) (.int .u32 (tv v.g)) (.int .u32 (tv v.h))) (j : Nat) (hj : j < 8) : w.cell? ⟨b, j, none⟩ = some (.int .u32 (tv ((V8.l v).getD j 0))) := by
  obtain ⟨f, h0, h1, h2, h3, h4, h5, h6, h7⟩ := h
  rcases (by omega : j = 0 ∨ j = 1 ∨ j = 2 ∨ j = 3 ∨ j = 4 ∨ j = 5 ∨ j = 6 ∨ j = 7) with rfl | rfl | rfl | rfl | rfl | rfl | rfl | rfl
  · exact h0
  · exact h1
  · exact h2
  · exact h3
  · exact h4
  · exact h5
  · exact h6
  · exact h7
theorem w4_at (x : UInt32) (t : Nat) (ht : t < 4) : (w4 x).take (t + 1) = (w4 x).take t ++ [UInt8.ofNat (x.toNat / 2 ^ (8 * (3 - t)))] := by
  rcases (by omega : t = 0 ∨ t = 1 ∨ t = 2 ∨ t = 3) with rfl | rfl | rfl | rfl
  · rfl
  · rfl
  · rfl
  · simp [w4]
theorem outs_step (v : V8) (q : Nat) (hq : q < 8) : outs v (q + 1) = outs v q ++ w4 ((V8.l v).getD q 0) := by
  unfold outs
  have hl : (V8.l v).length = 8 := rfl
  rw [List.take_succ_eq_append_getElem (by omega), List.flatMap_append, List.flatMap_singleton, List.getD_eq_getElem?_getD, List.getElem?_eq_getElem (by omega)]
  rfl

end Go.Proofs.YtbkefhfbbhdpcabDoor

/- Pieces as the document joins and binds them. -/
namespace Go.Proofs.YtbkefhfbbhdpcabDoor
open Go.RowKit Go.Proofs.Fd Go.Proofs.Hs
set_option maxRecDepth 20000

theorem own_later {w w' : World} {base : Nat} {e : TypeId} {size : Nat} {v : Value} {n : Nat} {xs : List Value} (h : w.ownsRow base e size v n xs) (hb : Below w.heap.size w w') : w'.ownsRow base e size v n xs := by
  refine ⟨h.1, ?_⟩
  rcases h.2 with hn | ⟨g, cap, cur, rfl, hbg, hgg, rest⟩
  · exact .inl hn
  · refine .inr ⟨g, cap, cur, rfl, hbg, ?_, rest⟩
    rw [hb.block g (Array.getElem?_eq_some_iff.1 hgg).1]
    exact hgg

/-- Pieces as one text. -/
def jnd (ks : List ByteArray) : List UInt8 := ks.flatMap fun s => s.data.toList
theorem jnd_step (ks : List ByteArray) (k : Nat) (hk : k < ks.length) : jnd (ks.take (k + 1)) = jnd (ks.take k) ++ ks[k].data.toList := flat_step _ ks k hk
theorem jnd_le (ks : List ByteArray) (k : Nat) : (jnd (ks.take k)).length ≤ (jnd ks).length := flat_le ks k

end Go.Proofs.YtbkefhfbbhdpcabDoor
