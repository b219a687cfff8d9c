/- Plain arithmetic of numbers in digits to the base 2^26. -/
namespace Go.Proofs.Fd

/-- The number of n digits. -/
def vN : Nat → (Nat → Int) → Int
  | 0, _ => 0
  | n + 1, d => vN n d + d n * 67108864 ^ n

/-- What is carried into the i-th digit. -/
def cy (d : Nat → Int) : Nat → Int
  | 0 => 0
  | i + 1 => (d i + cy d i) / 67108864

/-- The i-th digit, evened. -/
def md (d : Nat → Int) (i : Nat) : Int := (d i + cy d i) % 67108864

/-- The digits while k of them are evened. -/
def st (d : Nat → Int) (k j : Nat) : Int := if j < k then md d j else if j = k then d j + cy d j else d j

/-- Ten digits, evened but for the last. -/
def ev (d : Nat → Int) (j : Nat) : Int := st d 9 j

theorem cy_val (d : Nat → Int) (i : Nat) : vN i (md d) + cy d i * 67108864 ^ i = vN i d := by
  induction i with
  | zero => simp [vN, cy]
  | succ i ih =>
    simp only [vN, cy, md]
    have e : d i + cy d i = (d i + cy d i) % 67108864 + 67108864 * ((d i + cy d i) / 67108864) := by omega
    have e2 : (67108864 : Int) ^ (i + 1) = 67108864 ^ i * 67108864 := Int.pow_succ ..
    rw [e2]
    generalize (d i + cy d i) % 67108864 = r at *
    generalize (d i + cy d i) / 67108864 = q at *
    have e3 : d i * 67108864 ^ i = (r + 67108864 * q - cy d i) * 67108864 ^ i := by rw [← e]; congr 1; omega
    rw [e3, ← ih]
    generalize (67108864 : Int) ^ i = P
    grind

theorem cy_bd (d : Nat → Int) (i : Nat) (h : ∀ j, j < i → -1152921504606846976 ≤ d j ∧ d j ≤ 1152921504606846976) : -34359738368 ≤ cy d i ∧ cy d i ≤ 34359738368 := by
  induction i with
  | zero => simp [cy]
  | succ i ih =>
    have h1 := ih (fun j hj => h j (by omega))
    have h2 := h i (by omega)
    simp only [cy]; omega

theorem md_bd (d : Nat → Int) (i : Nat) : 0 ≤ md d i ∧ md d i < 67108864 := by unfold md; omega

end Go.Proofs.Fd
