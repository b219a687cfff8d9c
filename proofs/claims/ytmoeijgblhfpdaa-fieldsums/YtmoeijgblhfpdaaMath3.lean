/- Words of so many bytes. -/
import Derived.Test.YtmoeijgblhfpdaaMath2
namespace Go.Proofs.Fd

/-- The j-th word of the first k bytes. -/
def wd (l : List UInt8) (k j : Nat) : Nat := num (((l.take k).drop (8 * j)).take 8)

theorem wd_zero (l : List UInt8) (j : Nat) : wd l 0 j = 0 := by simp [wd, num]

theorem wd_lt (l : List UInt8) (k j : Nat) : wd l k j < 18446744073709551616 := num_take8 _

theorem take_next (l : List UInt8) (k : Nat) (h : k < l.length) : l.take (k + 1) = l.take k ++ [l[k]] :=
  List.take_succ_eq_append_getElem h

theorem wd_other (l : List UInt8) (k j : Nat) (h : k < l.length) (hj : k / 8 ≠ j) : wd l (k + 1) j = wd l k j := by
  unfold wd
  rw [take_next l k h]
  have hl : (l.take k).length = k := by rw [List.length_take]; omega
  by_cases hlt : 8 * j ≤ k
  · rw [List.drop_append_of_le_length (by omega), List.take_append_of_le_length (by rw [List.length_drop]; omega)]
  · rw [List.drop_of_length_le (by rw [List.length_append, hl]; simp; omega), List.drop_of_length_le (by omega)]

theorem wd_this (l : List UInt8) (k j r : Nat) (h : k < l.length) (hj : k / 8 = j) (hr : k % 8 = r) : wd l (k + 1) j = wd l k j + 2 ^ (r * 8) * l[k].toNat := by
  unfold wd
  rw [take_next l k h]
  have hl : (l.take k).length = k := by rw [List.length_take]; omega
  have hd : ((l.take k).drop (8 * j)).length = r := by rw [List.length_drop, hl]; omega
  have t1 : ((l.take k).drop (8 * j)).take 8 = (l.take k).drop (8 * j) := List.take_of_length_le (by omega)
  have t2 : ((l.take k).drop (8 * j) ++ [l[k]]).take 8 = (l.take k).drop (8 * j) ++ [l[k]] := List.take_of_length_le (by rw [List.length_append, hd, List.length_singleton]; omega)
  rw [List.drop_append_of_le_length (by omega), t1, t2, num_append, hd]
  have e : 256 ^ r = 2 ^ (r * 8) := by rw [show (256 : Nat) = 2 ^ 8 by decide, ← Nat.pow_mul, Nat.mul_comm]
  rw [e]
  simp only [num, Nat.mul_zero, Nat.add_zero]

theorem wd_small (l : List UInt8) (k j r : Nat) (h : k < l.length) (hj : k / 8 = j) (hr : k % 8 = r) : wd l k j < 2 ^ (r * 8) := by
  unfold wd
  have hl : (l.take k).length = k := by rw [List.length_take]; omega
  have hd : ((l.take k).drop (8 * j)).length = r := by rw [List.length_drop, hl]; omega
  have t1 : ((l.take k).drop (8 * j)).take 8 = (l.take k).drop (8 * j) := List.take_of_length_le (by omega)
  have := num_lt ((l.take k).drop (8 * j))
  rw [hd] at this
  rw [t1]
  have e : 256 ^ r = 2 ^ (r * 8) := by rw [show (256 : Nat) = 2 ^ 8 by decide, ← Nat.pow_mul, Nat.mul_comm]
  omega

theorem num_cut' (l : List UInt8) : num l = num (l.take 8) + 18446744073709551616 * num (l.drop 8) := by
  by_cases h : 8 ≤ l.length
  · exact num_cut l h
  · rw [List.take_of_length_le (by omega), List.drop_of_length_le (by omega)]; simp [num]

theorem wd_all (l : List UInt8) (h : l.length ≤ 64) :
    v4 (wd l l.length 0) (wd l l.length 1) (wd l l.length 2) (wd l l.length 3) + W256 * v4 (wd l l.length 4) (wd l l.length 5) (wd l l.length 6) (wd l l.length 7) = num l := by
  unfold wd
  simp only [List.take_length]
  have e0 := num_cut' l
  have e1 := num_cut' (l.drop 8)
  have e2 := num_cut' (l.drop 16)
  have e3 := num_cut' (l.drop 24)
  have e4 := num_cut' (l.drop 32)
  have e5 := num_cut' (l.drop 40)
  have e6 := num_cut' (l.drop 48)
  have e7 := num_cut' (l.drop 56)
  have e8 : num (l.drop 64) = 0 := by rw [List.drop_of_length_le (by omega)]; rfl
  simp only [List.drop_drop, Nat.reduceAdd] at e1 e2 e3 e4 e5 e6 e7
  simp only [Nat.reduceMul, Nat.mul_zero, List.drop_zero]
  unfold v4 W256
  omega

end Go.Proofs.Fd
