/- Inverses. -/
import Derived.Test.YtmoeijgblhfpdabMath8
import Derived.Test.YtmoeijgblhfpdabPrimeP
namespace Go.Proofs.Fd

theorem back_val {a b : Nat} (ha : a < p) (hb : b < p) : ((a + p - b) % p + b) % p = a := by
  rw [Nat.mod_add_mod, show a + p - b + b = a + p by omega, Nat.add_mod_right, Nat.mod_eq_of_lt ha]

theorem inv_mul {a : Nat} (h0 : 0 < a) (ha : a < p) : a * (a ^ (p - 2) % p) % p = 1 := by
  rw [Nat.mul_mod_mod, ← Nat.pow_succ', show (p - 2).succ = p - 1 by decide, p_fermat a h0 ha]

theorem inv_zero : 0 ^ (p - 2) % p = 0 := by
  rw [Nat.zero_pow (by decide)]; rfl

theorem inv_pos {a : Nat} (h0 : 0 < a) (ha : a < p) : 0 < a ^ (p - 2) % p := by
  rcases Nat.eq_zero_or_pos (a ^ (p - 2) % p) with hz | hz
  · have := inv_mul h0 ha
    rw [hz, Nat.mul_zero] at this
    exact absurd this (by decide)
  · exact hz

theorem inv_inv {a : Nat} (h0 : 0 < a) (ha : a < p) : (a ^ (p - 2) % p) ^ (p - 2) % p = a := by
  have h1 := inv_mul h0 ha
  have h2 := inv_pos h0 ha
  have h3 : a ^ (p - 2) % p < p := Nat.mod_lt _ (by decide)
  generalize a ^ (p - 2) % p = I at *
  have h4 := p_fermat I h2 h3
  have e1 : I ^ (p - 2) * (a * I) = I ^ (p - 1) * a := by
    rw [show p - 1 = p - 2 + 1 by decide, Nat.pow_succ, Nat.mul_comm a I, ← Nat.mul_assoc]
  have e2 : I ^ (p - 2) * (a * I) % p = I ^ (p - 2) % p := by
    rw [Nat.mul_mod, h1, Nat.mul_one, Nat.mod_mod]
  have e3 : I ^ (p - 1) * a % p = a := by
    rw [Nat.mul_mod, h4, Nat.one_mul, Nat.mod_mod, Nat.mod_eq_of_lt ha]
  rw [← e2, e1, e3]

end Go.Proofs.Fd
