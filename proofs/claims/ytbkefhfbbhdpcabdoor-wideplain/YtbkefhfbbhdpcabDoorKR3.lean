/- What grown of the document does. -/
import Derived.Test.YtbkefhfbbhdpcabDoorKR2
namespace Go.Proofs.YtbkefhfbbhdpcabDoor
open Go.RowKit Go.Proofs.Fd Go.Proofs.Hs
attribute [local go_sem] and32 or32 xor32 add32 add32'

theorem words_step : ∀ (k : Nat) (l : List UInt8), 4 * k + 4 ≤ l.length → words (l.take (4 * (k + 1))) = words (l.take (4 * k)) ++ [word4 (l.getD (4 * k) 0) (l.getD (4 * k + 1) 0) (l.getD (4 * k + 2) 0) (l.getD (4 * k + 3) 0)] := by
  intro k
  induction k with
  | zero =>
    intro l hl
    match l, hl with
    | a :: b :: c :: d :: r, _ => rfl
  | succ k ih =>
    intro l hl
    match l, hl with
    | a :: b :: c :: d :: r, hl =>
      have h := ih r (by simp at hl; omega)
      show word4 a b c d :: words (r.take (4 * (k + 1))) = word4 a b c d :: (words (r.take (4 * k)) ++ _)
      rw [h]
      congr 2

/-- How long a slice is. -/
def lenV : Value → Nat
  | .slice _ n _ => n
  | _ => 0

theorem owns_len {w : World} {base n : Nat} {v : Value} {e : TypeId} {xs : List Value} (h : w.ownsRow base e 1 v n xs) : lenV v = n := by
  rcases h.2 with ⟨rfl, rfl⟩ | ⟨g, cap, cur, rfl, -⟩ <;> rfl

/-- The bytes of a word so far. -/
def pj (l : List UInt8) (q : Nat) : Nat → UInt32
  | 0 => 0
  | j + 1 => UInt32.ofNat ((pj l q j).toNat * 256 + (l.getD (q + j) 0).toNat)
theorem pj4 (l : List UInt8) (q : Nat) : pj l q 4 = word4 (l.getD q 0) (l.getD (q + 1) 0) (l.getD (q + 2) 0) (l.getD (q + 3) 0) := push4 0 _ _ _ _

theorem mulstep (x : UInt32) (c : UInt8) : (tv x * 256 % 4294967296 + (c.toNat : Int) % 4294967296) % 4294967296 = tv (UInt32.ofNat (x.toNat * 256 + c.toNat)) := by
  rw [tv_ofNat]
  unfold tv
  have := c.toNat_lt
  omega

theorem sch_step (r : List UInt32) (k : Nat) (hr : r.length = 16) (x16 x15 x7 x2 : UInt32) (h16 : (sch r k).getD k 0 = x16) (h15 : (sch r k).getD (k + 1) 0 = x15) (h7 : (sch r k).getD (k + 9) 0 = x7) (h2 : (sch r k).getD (k + 14) 0 = x2) :
    sch r (k + 1) = sch r k ++ [x16 + (trn x15 7 ^^^ trn x15 18 ^^^ UInt32.ofNat (x15.toNat / 2 ^ 3)) + x7 + (trn x2 17 ^^^ trn x2 19 ^^^ UInt32.ofNat (x2.toNat / 2 ^ 10))] := by
  rw [sch, grow, sch_len, hr]
  rw [show 16 + k - 16 = k by omega, show 16 + k - 15 = k + 1 by omega, show 16 + k - 7 = k + 9 by omega, show 16 + k - 2 = k + 14 by omega, h16, h15, h7, h2]
  rfl

/-- What grown answers. -/
def GrownPost (bk : ByteArray) (w : World) (e : Ending) (w' : World) : Prop := ∃ g cap, e = .returned (.slice (some ⟨g, 0, none⟩) 64 cap) ∧ WordsAt w' g (sch (words bk.data.toList) 48) ∧ Below w.heap.size w w' ∧ w.heap.size ≤ g

end Go.Proofs.YtbkefhfbbhdpcabDoor
