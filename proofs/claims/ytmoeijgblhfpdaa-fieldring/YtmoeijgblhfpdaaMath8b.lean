/- Sums and products in any order. -/
import Derived.Test.YtmoeijgblhfpdaaMath8
namespace Go.Proofs.Fd

theorem ring_add1 (a b c : Nat) : ((a + b) % p + c) % p = (a + b + c) % p := Nat.mod_add_mod _ _ _
theorem ring_add2 (a b c : Nat) : (a + (b + c) % p) % p = (a + b + c) % p := by rw [Nat.add_mod_mod, Nat.add_assoc]
theorem ring_mul2 (a b c : Nat) : a * (b * c % p) % p = a * b % p * c % p := by rw [Nat.mul_mod_mod, Nat.mod_mul_mod, Nat.mul_assoc]
theorem ring_dist (a b c : Nat) : (a * b % p + a * c % p) % p = a * ((b + c) % p) % p := by rw [← Nat.add_mod, ← Nat.mul_add, Nat.mul_mod_mod]
end Go.Proofs.Fd
