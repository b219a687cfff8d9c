/- The laws of a field, as far as sums and products go. -/
import Derived.Test.YtmoeijgblhfpdabMath7
namespace Go.Proofs.Fd

theorem neg_val {a b : Nat} (hb : b < p) : (a + (p - 1) * b % p) % p = (a + p - b) % p := by
  have e : (p - 1) * b % p = (p - b) % p := by
    by_cases h : b = 0
    · subst h; simp
    · have : (p - 1) * b = p * (b - 1) + (p - b) := by
        rw [Nat.sub_mul, Nat.mul_sub, Nat.one_mul, Nat.mul_one]
        have : p ≤ p * b := Nat.le_mul_of_pos_right p (by omega)
        omega
      rw [this, Nat.mul_add_mod]
  rw [e, Nat.add_mod_mod]
  congr 1
  omega

end Go.Proofs.Fd
