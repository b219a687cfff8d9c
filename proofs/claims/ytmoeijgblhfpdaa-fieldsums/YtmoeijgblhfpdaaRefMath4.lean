/- Digits and bytes of a number, bit by bit. -/
import Derived.Test.YtmoeijgblhfpdaaRefMath3
import Derived.Test.YtmoeijgblhfpdaaMath5
namespace Go.Proofs.Fd

/-- The digits of the lowest k bits. -/
def od (n k j : Nat) : Int := ((n % 2 ^ k / 67108864 ^ j % 67108864 : Nat) : Int)
/-- The bytes of the lowest k bits. -/
def bd (n k j : Nat) : Int := ((n % 2 ^ k / 256 ^ j % 256 : Nat) : Int)

/-- One bit more, in digits of q bits: only the one that it stands in changes. -/
theorem bit_next (n k q j : Nat) (hq : 0 < q) : n % 2 ^ (k + 1) / 2 ^ (q * j) % 2 ^ q = (if j = k / q then n % 2 ^ k / 2 ^ (q * j) % 2 ^ q + n / 2 ^ k % 2 * 2 ^ (k % q) else n % 2 ^ k / 2 ^ (q * j) % 2 ^ q) := by
  have hx : n % 2 ^ (k + 1) = n % 2 ^ k + 2 ^ k * (n / 2 ^ k % 2) := by rw [Nat.pow_succ, Nat.mod_mul]
  have hlt : n % 2 ^ k < 2 ^ k := Nat.mod_lt _ (Nat.two_pow_pos k)
  have hb : n / 2 ^ k % 2 < 2 := Nat.mod_lt _ (by decide)
  have hk := Nat.div_add_mod k q
  have hr := Nat.mod_lt k hq
  rw [hx]
  generalize n / 2 ^ k % 2 = b at *
  generalize n % 2 ^ k = x at *
  rcases Nat.lt_trichotomy j (k / q) with h | h | h
  · rw [if_neg (by omega)]
    have e : q * j + q ≤ k := by
      have : q * (j + 1) ≤ q * (k / q) := Nat.mul_le_mul_left q (by omega)
      rw [Nat.mul_add, Nat.mul_one] at this
      omega
    have e2 : 2 ^ k * b = 2 ^ (q * j) * (2 ^ q * (2 ^ (k - (q * j + q)) * b)) := by
      rw [← Nat.mul_assoc, ← Nat.mul_assoc, ← Nat.pow_add, ← Nat.pow_add]; congr 2; omega
    rw [e2, Nat.add_mul_div_left _ _ (Nat.two_pow_pos _), Nat.add_mul_mod_self_left]
  · subst h
    rw [if_pos rfl]
    have e2 : 2 ^ k * b = 2 ^ (q * (k / q)) * (2 ^ (k % q) * b) := by
      rw [← Nat.mul_assoc, ← Nat.pow_add, hk]
    have hx2 : x / 2 ^ (q * (k / q)) < 2 ^ (k % q) := by
      apply Nat.div_lt_of_lt_mul
      rw [← Nat.pow_add, hk]; exact hlt
    have hp : 2 ^ (k % q) * 2 ≤ 2 ^ q := by rw [← Nat.pow_succ]; exact Nat.pow_le_pow_right (by decide) (by omega)
    rw [e2, Nat.add_mul_div_left _ _ (Nat.two_pow_pos _)]
    have hb1 : 2 ^ (k % q) * b ≤ 2 ^ (k % q) := by
      have : 2 ^ (k % q) * b ≤ 2 ^ (k % q) * 1 := Nat.mul_le_mul_left _ (by omega)
      omega
    rw [Nat.mod_eq_of_lt (by omega), Nat.mod_eq_of_lt (a := x / 2 ^ (q * (k / q))) (by omega), Nat.mul_comm b]
  · rw [if_neg (by omega)]
    have e : k + 1 ≤ q * j := by
      have : q * (k / q + 1) ≤ q * j := Nat.mul_le_mul_left q (by omega)
      rw [Nat.mul_add, Nat.mul_one] at this
      omega
    have hp : 2 ^ (k + 1) ≤ 2 ^ (q * j) := Nat.pow_le_pow_right (by decide) e
    have hs : x + 2 ^ k * b < 2 ^ (k + 1) := by
      rw [Nat.pow_succ]
      have : 2 ^ k * b ≤ 2 ^ k * 1 := Nat.mul_le_mul_left _ (by omega)
      omega
    rw [Nat.div_eq_of_lt (by omega), Nat.div_eq_of_lt (by omega)]

theorem bit_of (n q j r : Nat) (hr : r < q) : n / 2 ^ (q * j) % 2 ^ q / 2 ^ r % 2 = n / 2 ^ (q * j + r) % 2 := by
  have e : 2 ^ q = 2 ^ r * 2 ^ (q - r) := by rw [← Nat.pow_add]; congr 1; omega
  rw [e, Nat.mod_mul_right_div_self, Nat.mod_mod_of_dvd _ ⟨2 ^ (q - r - 1), by rw [← Nat.pow_succ']; congr 1; omega⟩, Nat.div_div_eq_div_mul, ← Nat.pow_add]

theorem pow26 (j : Nat) : 67108864 ^ j = 2 ^ (26 * j) := by rw [Nat.pow_mul]
theorem pow8 (j : Nat) : 256 ^ j = 2 ^ (8 * j) := by rw [Nat.pow_mul]

theorem num_at (l : List UInt8) (i : Nat) (h : i < l.length) : num l / 256 ^ i % 256 = l[i].toNat := by
  induction l generalizing i with
  | nil => simp at h
  | cons b l ih =>
    have hb : b.toNat < 256 := b.toNat_lt
    cases i with
    | zero => simp only [num, Nat.pow_zero, Nat.div_one, List.getElem_cons_zero]; omega
    | succ i =>
      simp only [num, List.getElem_cons_succ]
      rw [Nat.pow_succ, Nat.mul_comm (256 ^ i), ← Nat.div_div_eq_div_mul, show (b.toNat + 256 * num l) / 256 = num l by omega]
      exact ih i (by simpa using h)

theorem od_next (n k j : Nat) : (if j = k / 26 then od n k (k / 26) + ((n / 2 ^ k % 2 * 2 ^ (k % 26) : Nat) : Int) else od n k j) = od n (k + 1) j := by
  have h := bit_next n k 26 j (by decide)
  unfold od
  rw [pow26, pow26, show (67108864 : Nat) = 2 ^ 26 by decide, h]
  split
  · rename_i e; rw [e]; omega
  · rfl

theorem bd_next (n k j : Nat) : (if j = k / 8 then bd n k (k / 8) + ((n / 2 ^ k % 2 * 2 ^ (k % 8) : Nat) : Int) else bd n k j) = bd n (k + 1) j := by
  have h := bit_next n k 8 j (by decide)
  unfold bd
  rw [pow8, pow8, show (256 : Nat) = 2 ^ 8 by decide, h]
  split
  · rename_i e; rw [e]; omega
  · rfl

theorem od_bd (n k j : Nat) : 0 ≤ od n k j ∧ od n k j < 67108864 := by unfold od; omega
theorem bd_bd (n k j : Nat) : 0 ≤ bd n k j ∧ bd n k j < 256 := by unfold bd; omega
theorem od_zero (n j : Nat) : od n 0 j = 0 := by unfold od; rw [Nat.pow_zero, Nat.mod_one, Nat.zero_div]; rfl
theorem bd_zero (n j : Nat) : bd n 0 j = 0 := by unfold bd; rw [Nat.pow_zero, Nat.mod_one, Nat.zero_div]; rfl

theorem vN_digits (n m : Nat) : vN m (fun j => ((n / 67108864 ^ j % 67108864 : Nat) : Int)) = ((n % 67108864 ^ m : Nat) : Int) := by
  induction m with
  | zero => simp [vN, Nat.mod_one]
  | succ m ih =>
    simp only [vN]
    rw [ih, Nat.pow_succ, Nat.mod_mul, Nat.mul_comm (67108864 ^ m)]
    simp

theorem w256_lt_b10 : W256 < 67108864 ^ 10 := by decide

theorem od_all (n : Nat) (h : n < W256) : can (od n 256) ∧ vN 10 (od n 256) = (n : Int) := by
  refine ⟨fun j _ => od_bd n 256 j, ?_⟩
  have e : n % 2 ^ 256 = n := Nat.mod_eq_of_lt h
  have e2 : vN 10 (od n 256) = vN 10 (fun j => ((n / 67108864 ^ j % 67108864 : Nat) : Int)) := vN_congr _ _ 10 (fun j hj => by unfold od; rw [e])
  rw [e2, vN_digits, Nat.mod_eq_of_lt (Nat.lt_trans h w256_lt_b10)]

/-- Digits in their bounds are told by the number. -/
theorem can_digit (c : Nat → Int) (n : Nat) (hc : can c) (h : vN 10 c = (n : Int)) (j : Nat) (hj : j < 10) : c j = ((n / 67108864 ^ j % 67108864 : Nat) : Int) := by
  have h1 := vN_split j (10 - j) c
  rw [show j + (10 - j) = 10 by omega, h] at h1
  have h2 := vN_bd j c (fun i hi => hc i (by omega))
  have e : vN (10 - j) (fun i => c (j + i)) = c j + 67108864 * vN (9 - j) (fun i => c (j + (1 + i))) := by
    have := vN_split 1 (9 - j) (fun i => c (j + i))
    rw [show 1 + (9 - j) = 10 - j by omega] at this
    rw [this]; simp [vN]
  rw [e] at h1
  have hcj := hc j hj
  have hp : (0 : Int) < 67108864 ^ j := Int.pow_pos (by decide)
  have q1 : (n : Int) / 67108864 ^ j = c j + 67108864 * vN (9 - j) (fun i => c (j + (1 + i))) := by
    rw [h1, Int.add_mul_ediv_left _ _ (by omega), Int.ediv_eq_zero_of_lt h2.1 h2.2]; omega
  have q2 : ((n / 67108864 ^ j : Nat) : Int) = (n : Int) / 67108864 ^ j := by simp
  rw [Int.natCast_emod, q2, q1]
  omega

theorem bd_all (n j : Nat) (h : n < W256) : bd n 256 j = ((n / 256 ^ j % 256 : Nat) : Int) := by
  have e : n % 2 ^ 256 = n := Nat.mod_eq_of_lt h
  unfold bd; rw [e]

end Go.Proofs.Fd
