/- Numbers that the chapter's examples come to. -/
import Derived.Test.YtmoeijgblhfpdaaMath6
namespace Go.Proofs.Fd

/-- 2 to the exponent of the first n rounds, modulo p. -/
def pm : Nat → Nat
  | 0 => 1
  | n + 1 => if n = 252 ∨ n = 250 then pm n * pm n % p else pm n * pm n % p * 2 % p

theorem pm_ex (n : Nat) : pm n = 2 ^ ex n % p := by
  induction n with
  | zero => rfl
  | succ n ih =>
    show (if n = 252 ∨ n = 250 then pm n * pm n % p else pm n * pm n % p * 2 % p) = 2 ^ (2 * ex n + (if n = 252 ∨ n = 250 then 0 else 1)) % p
    split
    · rw [ih, pow_sq_mod]; rfl
    · rw [ih, pow_sq_mod, pow_mul_mod]

theorem half_two : 2 ^ (p - 2) % p * 2 % p = 1 := by
  rw [← ex_all, ← pm_ex]; decide +kernel

theorem sum2 (a b : Nat) : ((0 + a) % p + b) % p = (a + b) % p := by
  rw [Nat.zero_add, Nat.add_mod (a % p), Nat.mod_mod, ← Nat.add_mod]
theorem sum3 (a b c : Nat) : (((0 + a) % p + b) % p + c) % p = (a + b + c) % p := by
  rw [sum2, Nat.add_mod ((a + b) % p), Nat.mod_mod, ← Nat.add_mod]

theorem minus_one : (0 + p - 1) % p = p - 1 := by decide
theorem one_again : (p - 1 + 2) % p = 1 := by decide

theorem num_ff : num (List.replicate 32 255) % p = 37 := by decide +kernel

end Go.Proofs.Fd
