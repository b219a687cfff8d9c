/- The laws of a field, as far as sums and products go. -/
import Derived.Test.YtmoeijgblhfpdaaMath7
namespace Go.Proofs.Fd

theorem neg_val {a b : Nat} (hb : b < p) : (a + (p - 1) * b % p) % p = (a + p - b) % p := by
  have e : (p - 1) * b % p = (p - b) % p := by
    by_cases h : b = 0
    · subst h; simp
    · have : (p - 1) * b = p * (b - 1) + (p - b) := by
        rw [Nat.sub_mul, Nat.mul_sub, Nat.one_mul, Nat.mul_one]
        have : p ≤ p * b := Nat.le_mul_of_pos_right p (by omega)
        omega
      rw [this, Nat.mul_add_mod]
  rw [e, Nat.add_mod_mod]
  congr 1
  omega

theorem sq_sq (a n m : Nat) : (a ^ 2 ^ n % p) ^ 2 ^ m % p = a ^ 2 ^ (n + m) % p := by
  rw [← Nat.pow_mod, ← Nat.pow_mul, ← Nat.pow_add]

theorem sq_one (a : Nat) : a ^ 2 ^ 1 % p = a * a % p := by
  rw [Nat.pow_one, Nat.pow_succ, Nat.pow_one]

theorem wide_step (y k : Nat) : y * 256 ^ k % p * 256 % p = y * 256 ^ (k + 1) % p := by
  rw [Nat.mod_mul_mod, Nat.mul_assoc, ← Nat.pow_succ]

theorem wide_val (x y : List UInt8) : (num x % p + num y * 256 ^ x.length % p) % p = num (x ++ y) % p := by
  rw [num_append, ← Nat.add_mod, Nat.mul_comm (num y)]

end Go.Proofs.Fd
