/- Plain arithmetic of numbers in four words of 64 bits, modulo 2^255 - 19: no program is named here. -/
namespace Go.Proofs.Fd

abbrev W64 : Nat := 18446744073709551616
/-- 2^256. -/
abbrev W256 : Nat := 115792089237316195423570985008687907853269984665640564039457584007913129639936
/-- 2^255 - 19. -/
def p : Nat := 57896044618658097711785492504343953926634992332820282019728792003956564819949

/-- The number of four words, the lowest first. -/
def v4 (a0 a1 a2 a3 : Nat) : Nat := a0 + 18446744073709551616 * a1 + 340282366920938463463374607431768211456 * a2 + 6277101735386680763835789423207666416102355444464034512896 * a3

/-- Each of four numbers is a word. -/
def u4 (a0 a1 a2 a3 : Nat) : Prop := a0 < 18446744073709551616 ∧ a1 < 18446744073709551616 ∧ a2 < 18446744073709551616 ∧ a3 < 18446744073709551616

theorem v4_lt {a0 a1 a2 a3 : Nat} (h : u4 a0 a1 a2 a3) : v4 a0 a1 a2 a3 < W256 := by
  obtain ⟨h0, h1, h2, h3⟩ := h
  unfold v4 W256; omega

theorem sum_val (a0 a1 a2 a3 b0 b1 b2 b3 : Nat) (ha : u4 a0 a1 a2 a3) (hb : u4 b0 b1 b2 b3) :
    v4 ((a0 + b0 + 0) % 18446744073709551616) ((a1 + b1 + (a0 + b0 + 0) / 18446744073709551616) % 18446744073709551616)
      ((a2 + b2 + (a1 + b1 + (a0 + b0 + 0) / 18446744073709551616) / 18446744073709551616) % 18446744073709551616)
      ((a3 + b3 + (a2 + b2 + (a1 + b1 + (a0 + b0 + 0) / 18446744073709551616) / 18446744073709551616) / 18446744073709551616) % 18446744073709551616)
    = (v4 a0 a1 a2 a3 + v4 b0 b1 b2 b3) % 115792089237316195423570985008687907853269984665640564039457584007913129639936 := by
  obtain ⟨h0, h1, h2, h3⟩ := ha
  obtain ⟨g0, g1, g2, g3⟩ := hb
  unfold v4
  omega

theorem less_val (a0 a1 a2 a3 b0 b1 b2 b3 k1 k2 k3 k4 : Nat) (ha : u4 a0 a1 a2 a3) (hb : u4 b0 b1 b2 b3)
    (e1 : k1 = if a0 < b0 + 0 then 1 else 0) (e2 : k2 = if a1 < b1 + k1 then 1 else 0) (e3 : k3 = if a2 < b2 + k2 then 1 else 0) (e4 : k4 = if a3 < b3 + k3 then 1 else 0) :
    v4 ((a0 + 18446744073709551616 - b0 - 0) % 18446744073709551616) ((a1 + 18446744073709551616 - b1 - k1) % 18446744073709551616)
      ((a2 + 18446744073709551616 - b2 - k2) % 18446744073709551616) ((a3 + 18446744073709551616 - b3 - k3) % 18446744073709551616)
    = (v4 a0 a1 a2 a3 + 115792089237316195423570985008687907853269984665640564039457584007913129639936 - v4 b0 b1 b2 b3) % 115792089237316195423570985008687907853269984665640564039457584007913129639936
    ∧ (k4 = 1 ↔ v4 a0 a1 a2 a3 < v4 b0 b1 b2 b3) := by
  obtain ⟨h0, h1, h2, h3⟩ := ha
  obtain ⟨g0, g1, g2, g3⟩ := hb
  have e1' : (a0 < b0 ∧ k1 = 1) ∨ (b0 ≤ a0 ∧ k1 = 0) := by split at e1 <;> omega
  have e2' : (a1 < b1 + k1 ∧ k2 = 1) ∨ (b1 + k1 ≤ a1 ∧ k2 = 0) := by split at e2 <;> omega
  have e3' : (a2 < b2 + k2 ∧ k3 = 1) ∨ (b2 + k2 ≤ a2 ∧ k3 = 0) := by split at e3 <;> omega
  have e4' : (a3 < b3 + k3 ∧ k4 = 1) ∨ (b3 + k3 ≤ a3 ∧ k4 = 0) := by split at e4 <;> omega
  clear e1 e2 e3 e4
  unfold v4
  have d0 : (a0 + 18446744073709551616 - b0 - 0) % 18446744073709551616 + b0 = a0 + 18446744073709551616 * k1 := by omega
  have d1 : (a1 + 18446744073709551616 - b1 - k1) % 18446744073709551616 + b1 + k1 = a1 + 18446744073709551616 * k2 := by omega
  have d2 : (a2 + 18446744073709551616 - b2 - k2) % 18446744073709551616 + b2 + k2 = a2 + 18446744073709551616 * k3 := by omega
  have d3 : (a3 + 18446744073709551616 - b3 - k3) % 18446744073709551616 + b3 + k3 = a3 + 18446744073709551616 * k4 := by omega
  have r0 : (a0 + 18446744073709551616 - b0 - 0) % 18446744073709551616 < 18446744073709551616 := Nat.mod_lt _ (by decide)
  have r1 : (a1 + 18446744073709551616 - b1 - k1) % 18446744073709551616 < 18446744073709551616 := Nat.mod_lt _ (by decide)
  have r2 : (a2 + 18446744073709551616 - b2 - k2) % 18446744073709551616 < 18446744073709551616 := Nat.mod_lt _ (by decide)
  have r3 : (a3 + 18446744073709551616 - b3 - k3) % 18446744073709551616 < 18446744073709551616 := Nat.mod_lt _ (by decide)
  have hk : k4 = 0 ∨ k4 = 1 := by omega
  clear e1' e2' e3' e4'
  generalize (a0 + 18446744073709551616 - b0 - 0) % 18446744073709551616 = x0 at *
  generalize (a1 + 18446744073709551616 - b1 - k1) % 18446744073709551616 = x1 at *
  generalize (a2 + 18446744073709551616 - b2 - k2) % 18446744073709551616 = x2 at *
  generalize (a3 + 18446744073709551616 - b3 - k3) % 18446744073709551616 = x3 at *
  have key : x0 + 18446744073709551616 * x1 + 340282366920938463463374607431768211456 * x2 + 6277101735386680763835789423207666416102355444464034512896 * x3 + (b0 + 18446744073709551616 * b1 + 340282366920938463463374607431768211456 * b2 + 6277101735386680763835789423207666416102355444464034512896 * b3)
    = (a0 + 18446744073709551616 * a1 + 340282366920938463463374607431768211456 * a2 + 6277101735386680763835789423207666416102355444464034512896 * a3) + 115792089237316195423570985008687907853269984665640564039457584007913129639936 * k4 := by omega
  have hX : x0 + 18446744073709551616 * x1 + 340282366920938463463374607431768211456 * x2 + 6277101735386680763835789423207666416102355444464034512896 * x3 < 115792089237316195423570985008687907853269984665640564039457584007913129639936 := by omega
  generalize x0 + 18446744073709551616 * x1 + 340282366920938463463374607431768211456 * x2 + 6277101735386680763835789423207666416102355444464034512896 * x3 = X at *
  have hB : b0 + 18446744073709551616 * b1 + 340282366920938463463374607431768211456 * b2 + 6277101735386680763835789423207666416102355444464034512896 * b3 < 115792089237316195423570985008687907853269984665640564039457584007913129639936 := by omega
  have hA : a0 + 18446744073709551616 * a1 + 340282366920938463463374607431768211456 * a2 + 6277101735386680763835789423207666416102355444464034512896 * a3 < 115792089237316195423570985008687907853269984665640564039457584007913129639936 := by omega
  generalize b0 + 18446744073709551616 * b1 + 340282366920938463463374607431768211456 * b2 + 6277101735386680763835789423207666416102355444464034512896 * b3 = B at *
  generalize a0 + 18446744073709551616 * a1 + 340282366920938463463374607431768211456 * a2 + 6277101735386680763835789423207666416102355444464034512896 * a3 = A at *
  clear d0 d1 d2 d3 r0 r1 r2 r3 h0 h1 h2 h3 g0 g1 g2 g3
  rcases hk with rfl | rfl <;> constructor <;> omega

theorem below_val (a0 a1 a2 a3 : Nat) (ha : u4 a0 a1 a2 a3) :
    (a3 < 9223372036854775807 ∨ (a3 = 9223372036854775807 ∧ (a2 < 18446744073709551615 ∨ a1 < 18446744073709551615 ∨ a0 < 18446744073709551597))) ↔ v4 a0 a1 a2 a3 < p := by
  obtain ⟨h0, h1, h2, h3⟩ := ha
  unfold v4 p
  constructor
  · intro h; rcases h with h | ⟨h, h | h | h⟩ <;> omega
  · intro h
    by_cases c3 : a3 < 9223372036854775807
    · exact .inl c3
    · have c3' : a3 = 9223372036854775807 := by omega
      right; refine ⟨c3', ?_⟩
      by_cases c2 : a2 < 18446744073709551615
      · exact .inl c2
      · right
        by_cases c1 : a1 < 18446744073709551615
        · exact .inl c1
        · right; omega

/-- Two words from a product and two words more. -/
theorem step_val (q c d : Nat) (hq : q ≤ 18446744073709551615 * 18446744073709551615) (hc : c < 18446744073709551616) (hd : d < 18446744073709551616) :
    ((q % 18446744073709551616 + c + 0) % 18446744073709551616 + d + 0) % 18446744073709551616 = (q + c + d) % 18446744073709551616
    ∧ (q / 18446744073709551616 + (q % 18446744073709551616 + c + 0) / 18446744073709551616) < 18446744073709551616
    ∧ (q / 18446744073709551616 + (q % 18446744073709551616 + c + 0) / 18446744073709551616) + ((q % 18446744073709551616 + c + 0) % 18446744073709551616 + d + 0) / 18446744073709551616 = (q + c + d) / 18446744073709551616
    ∧ (q + c + d) / 18446744073709551616 < 18446744073709551616 := by
  omega

theorem mul_words {a b : Nat} (ha : a < 18446744073709551616) (hb : b < 18446744073709551616) : a * b ≤ 18446744073709551615 * 18446744073709551615 :=
  Nat.mul_le_mul (by omega) (by omega)


theorem settle_or (h b : Nat) (hb : b ≤ 1) : (h * 2) ||| b = h * 2 + b := by
  have : b = 0 ∨ b = 1 := by omega
  rcases this with rfl | rfl
  · simp
  · have := Nat.two_pow_add_eq_or_of_lt (i := 1) (b := 1) (by omega) h
    rw [show h * 2 = 2 ^ 1 * h by omega]; omega

/-- What is above 2^255, folded down once. -/
theorem settle_val (a0 a1 a2 a3 h : Nat) (ha : u4 a0 a1 a2 a3) (hh : h ≤ 38) :
    (v4 a0 a1 a2 (a3 % 9223372036854775808) + v4 (19 * (h * 2 + a3 / 9223372036854775808)) 0 0 0) % W256 = v4 a0 a1 a2 (a3 % 9223372036854775808) + 19 * (h * 2 + a3 / 9223372036854775808)
    ∧ v4 a0 a1 a2 (a3 % 9223372036854775808) + 19 * (h * 2 + a3 / 9223372036854775808) < 2 * p
    ∧ (v4 a0 a1 a2 (a3 % 9223372036854775808) + 19 * (h * 2 + a3 / 9223372036854775808)) % p = (v4 a0 a1 a2 a3 + h * W256) % p := by
  obtain ⟨h0, h1, h2, h3⟩ := ha
  refine ⟨?_, ?_, ?_⟩
  · unfold v4 W256; omega
  · unfold v4 p; omega
  · have : v4 a0 a1 a2 a3 + h * W256 = v4 a0 a1 a2 (a3 % 9223372036854775808) + 19 * (h * 2 + a3 / 9223372036854775808) + p * (h * 2 + a3 / 9223372036854775808) := by
      unfold v4 p W256; omega
    rw [this, Nat.add_mul_mod_self_left]

theorem mod_once {x q : Nat} (h1 : q ≤ x) (h2 : x < 2 * q) : x % q = x - q := by
  rw [Nat.mod_eq_sub_mod h1, Nat.mod_eq_of_lt (by omega)]

theorem v4_prime : v4 18446744073709551597 18446744073709551615 18446744073709551615 9223372036854775807 = p := by decide

theorem settle_last {c : Nat} (h1 : ¬ c < p) (h2 : c < 2 * p) : (c + W256 - p) % W256 = c % p := by
  rw [mod_once (by omega) h2]
  unfold p W256 at *; omega

/-- Eight words, folded into four and a little: 2^256 is 38. -/
theorem fold_val (w0 w1 w2 w3 w4 w5 w6 w7 l0 l1 l2 l3 k1 k2 k3 k4 : Nat) (hw : u4 w0 w1 w2 w3) (hv : u4 w4 w5 w6 w7) (hl : u4 l0 l1 l2 l3)
    (e0 : l0 + 18446744073709551616 * k1 = 38 * w4 + w0 + 0) (e1 : l1 + 18446744073709551616 * k2 = 38 * w5 + w1 + k1) (e2 : l2 + 18446744073709551616 * k3 = 38 * w6 + w2 + k2) (e3 : l3 + 18446744073709551616 * k4 = 38 * w7 + w3 + k3) :
    k4 ≤ 38 ∧ (v4 l0 l1 l2 l3 + k4 * W256) % p = (v4 w0 w1 w2 w3 + W256 * v4 w4 w5 w6 w7) % p := by
  have hA := v4_lt hw
  have hB := v4_lt hv
  have hL := v4_lt hl
  have key : v4 l0 l1 l2 l3 + k4 * W256 = v4 w0 w1 w2 w3 + 38 * v4 w4 w5 w6 w7 := by unfold v4 W256; omega
  refine ⟨?_, ?_⟩
  · unfold W256 at *; omega
  · rw [key]
    have : v4 w0 w1 w2 w3 + W256 * v4 w4 w5 w6 w7 = v4 w0 w1 w2 w3 + 38 * v4 w4 w5 w6 w7 + p * (2 * v4 w4 w5 w6 w7) := by unfold p W256; omega
    rw [this, Nat.add_mul_mod_self_left]

theorem row_val (x b0 b1 b2 b3 o0 o1 o2 o3 l0 l1 l2 l3 k0 k1 k2 k3 : Nat)
    (e0 : l0 + 18446744073709551616 * k0 = x * b0 + o0 + 0) (e1 : l1 + 18446744073709551616 * k1 = x * b1 + o1 + k0)
    (e2 : l2 + 18446744073709551616 * k2 = x * b2 + o2 + k1) (e3 : l3 + 18446744073709551616 * k3 = x * b3 + o3 + k2) :
    v4 l0 l1 l2 l3 + W256 * k3 = x * v4 b0 b1 b2 b3 + v4 o0 o1 o2 o3 := by
  have : x * v4 b0 b1 b2 b3 = x * b0 + 18446744073709551616 * (x * b1) + 340282366920938463463374607431768211456 * (x * b2) + 6277101735386680763835789423207666416102355444464034512896 * (x * b3) := by unfold v4; grind
  rw [this]
  generalize x * b0 = q0 at *
  generalize x * b1 = q1 at *
  generalize x * b2 = q2 at *
  generalize x * b3 = q3 at *
  unfold v4 W256; omega

theorem mul_val (a0 a1 a2 a3 B l00 l01 l02 l03 k0 l10 l11 l12 l13 k1 l20 l21 l22 l23 k2 l30 l31 l32 l33 k3 : Nat)
    (r0 : v4 l00 l01 l02 l03 + W256 * k0 = a0 * B + v4 0 0 0 0) (r1 : v4 l10 l11 l12 l13 + W256 * k1 = a1 * B + v4 l01 l02 l03 k0)
    (r2 : v4 l20 l21 l22 l23 + W256 * k2 = a2 * B + v4 l11 l12 l13 k1) (r3 : v4 l30 l31 l32 l33 + W256 * k3 = a3 * B + v4 l21 l22 l23 k2) :
    v4 l00 l10 l20 l30 + W256 * v4 l31 l32 l33 k3 = v4 a0 a1 a2 a3 * B := by
  have : v4 a0 a1 a2 a3 * B = a0 * B + 18446744073709551616 * (a1 * B) + 340282366920938463463374607431768211456 * (a2 * B) + 6277101735386680763835789423207666416102355444464034512896 * (a3 * B) := by unfold v4; grind
  rw [this]
  generalize a0 * B = q0 at *
  generalize a1 * B = q1 at *
  generalize a2 * B = q2 at *
  generalize a3 * B = q3 at *
  unfold v4 W256 at *; omega

theorem add_once {a b : Nat} (ha : a < p) (hb : b < p) : ((a + b) % W256 + 0 * W256) % p = (a + b) % p := by
  have : (a + b) % W256 = a + b := Nat.mod_eq_of_lt (by unfold p W256 at *; omega)
  rw [this]; simp

theorem sub_lent {a b : Nat} (hb : b < p) (h : a < b) : ((a + W256 - b) % W256 + p) % W256 = (a + p - b) % p := by
  have : (a + W256 - b) % W256 = a + W256 - b := Nat.mod_eq_of_lt (by unfold p W256 at *; omega)
  rw [this, Nat.mod_eq_of_lt (a := a + p - b) (by omega)]
  unfold p W256 at *; omega

theorem sub_plain {a b : Nat} (ha : a < p) (h : ¬ a < b) : (a + W256 - b) % W256 = (a + p - b) % p := by
  have : (a + p - b) % p = a - b := by
    rw [show a + p - b = (a - b) + p by omega, Nat.add_mod_right, Nat.mod_eq_of_lt (by omega)]
  rw [this]; unfold p W256 at *; omega

/-- The exponent whose bits, from the highest on, the first n rounds of the inverse have read. -/
def ex : Nat → Nat
  | 0 => 0
  | n + 1 => 2 * ex n + (if n = 252 ∨ n = 250 then 0 else 1)

theorem ex_all : ex 255 = p - 2 := by decide +kernel

theorem pow_sq_mod (A e q : Nat) : (A ^ e % q) * (A ^ e % q) % q = A ^ (2 * e) % q := by
  rw [← Nat.mul_mod, ← Nat.pow_add]; congr 2; omega
theorem pow_mul_mod (A e q : Nat) : (A ^ e % q) * A % q = A ^ (e + 1) % q := by
  rw [Nat.pow_succ, Nat.mul_mod (A ^ e % q), Nat.mod_mod, ← Nat.mul_mod]

end Go.Proofs.Fd
