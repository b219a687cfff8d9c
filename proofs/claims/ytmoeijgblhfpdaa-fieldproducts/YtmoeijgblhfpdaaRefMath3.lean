/- Digits to the base 2^26: products. -/
import Derived.Test.YtmoeijgblhfpdaaRefMath2
namespace Go.Proofs.Fd

theorem vN_add (n : Nat) (f g : Nat → Int) : vN n (fun j => f j + g j) = vN n f + vN n g := by
  induction n with
  | zero => rfl
  | succ n ih => simp only [vN]; rw [ih, Int.add_mul]; omega

theorem vN_zero (n : Nat) (f : Nat → Int) (h : ∀ j, j < n → f j = 0) : vN n f = 0 := by
  induction n with
  | zero => rfl
  | succ n ih => simp only [vN]; rw [ih (fun j hj => h j (by omega)), h n (by omega)]; simp

/-- c times the digits of b, i digits higher. -/
def shf (c : Int) (b : Nat → Int) (i j : Nat) : Int := if i ≤ j ∧ j < i + 10 then c * b (j - i) else 0

theorem shf_part (c : Int) (b : Nat → Int) (i k : Nat) (hk : k ≤ 10) : vN (i + k) (shf c b i) = c * 67108864 ^ i * vN k b := by
  induction k with
  | zero => rw [Nat.add_zero, vN_zero i _ (fun j hj => by unfold shf; rw [if_neg (by omega)])]; simp [vN]
  | succ k ih =>
    have h1 := ih (by omega)
    show vN (i + k) (shf c b i) + shf c b i (i + k) * 67108864 ^ (i + k) = c * 67108864 ^ i * (vN k b + b k * 67108864 ^ k)
    rw [h1]
    have e : shf c b i (i + k) = c * b k := by unfold shf; rw [if_pos (by omega), Nat.add_sub_cancel_left]
    rw [e, Int.pow_add]
    generalize (67108864 : Int) ^ i = P
    generalize (67108864 : Int) ^ k = Q
    grind

theorem shf_rest (c : Int) (b : Nat → Int) (i m : Nat) : vN (i + 10 + m) (shf c b i) = vN (i + 10) (shf c b i) := by
  induction m with
  | zero => rfl
  | succ m ih =>
    show vN (i + 10 + m) (shf c b i) + shf c b i (i + 10 + m) * 67108864 ^ (i + 10 + m) = _
    have e : shf c b i (i + 10 + m) = 0 := by unfold shf; rw [if_neg (by omega)]
    rw [ih, e]; simp

theorem shf_val (c : Int) (b : Nat → Int) (i : Nat) (hi : i ≤ 10) : vN 20 (shf c b i) = c * 67108864 ^ i * vN 10 b := by
  have h := shf_rest c b i (10 - i)
  rw [show i + 10 + (10 - i) = 20 by omega] at h
  rw [h, shf_part c b i 10 (by omega)]

/-- What the first i digits of a, times b, come to. -/
def pr (a b : Nat → Int) : Nat → Nat → Int
  | 0, _ => 0
  | i + 1, j => pr a b i j + shf (a i) b i j

theorem pr_val (a b : Nat → Int) (i : Nat) (hi : i ≤ 10) : vN 20 (pr a b i) = vN i a * vN 10 b := by
  induction i with
  | zero => rw [vN_zero 20 (pr a b 0) (fun _ _ => rfl)]; simp [vN]
  | succ i ih =>
    have e : vN 20 (pr a b (i + 1)) = vN 20 (pr a b i) + vN 20 (shf (a i) b i) := vN_add 20 (pr a b i) (shf (a i) b i)
    rw [e, ih (by omega), shf_val _ _ _ (by omega)]
    simp only [vN]
    rw [Int.add_mul]

theorem prod_bd {x y : Int} (hx : 0 ≤ x ∧ x < 67108864) (hy : 0 ≤ y ∧ y < 67108864) : 0 ≤ x * y ∧ x * y ≤ 4503599627370496 := by
  refine ⟨Int.mul_nonneg hx.1 hy.1, ?_⟩
  have h1 : x * y ≤ 67108864 * y := Int.mul_le_mul_of_nonneg_right (by omega) hy.1
  omega

theorem shf_bd (c : Int) (b : Nat → Int) (hc : 0 ≤ c ∧ c < 67108864) (hb : can b) (i j : Nat) : 0 ≤ shf c b i j ∧ shf c b i j ≤ 4503599627370496 := by
  unfold shf
  split
  · exact prod_bd hc (hb _ (by omega))
  · omega

theorem pr_bd (a b : Nat → Int) (ha : can a) (hb : can b) (i j : Nat) (hi : i ≤ 10) : 0 ≤ pr a b i j ∧ pr a b i j ≤ 4503599627370496 * i := by
  induction i with
  | zero => simp [pr]
  | succ i ih =>
    have h1 := ih (by omega)
    have h2 := shf_bd (a i) b (ha i (by omega)) hb i j
    simp only [pr]; omega

theorem pr_last (a b : Nat → Int) (i : Nat) (hi : i ≤ 10) : pr a b i 19 = 0 := by
  induction i with
  | zero => rfl
  | succ i ih => simp only [pr]; rw [ih (by omega)]; unfold shf; rw [if_neg (by omega)]; rfl

/-- The wide digits within the i-th row, k of whose products are there. -/
def wf (a b : Nat → Int) (i k j : Nat) : Int := pr a b i j + (if i ≤ j ∧ j < i + k then a i * b (j - i) else 0)

theorem wf_zero (a b : Nat → Int) (i j : Nat) : wf a b i 0 j = pr a b i j := by unfold wf; rw [if_neg (by omega)]; omega
theorem wf_full (a b : Nat → Int) (i j : Nat) : wf a b i 10 j = pr a b (i + 1) j := rfl
theorem wf_here (a b : Nat → Int) (i k : Nat) : wf a b i k (i + k) = pr a b i (i + k) := by unfold wf; rw [if_neg (by omega)]; omega
theorem wf_next (a b : Nat → Int) (i k j : Nat) : (if j = i + k then pr a b i (i + k) + a i * b k else wf a b i k j) = wf a b i (k + 1) j := by
  unfold wf
  by_cases e : j = i + k
  · rw [if_pos e, if_pos (by omega), e, Nat.add_sub_cancel_left]
  · rw [if_neg e]
    by_cases h : i ≤ j ∧ j < i + k
    · rw [if_pos h, if_pos (by omega)]
    · rw [if_neg h, if_neg (by omega)]

theorem st_val (d : Nat → Int) (n : Nat) : vN (n + 1) (st d n) = vN (n + 1) d := by
  have h := cy_val d n
  have e : vN n (st d n) = vN n (md d) := vN_congr _ _ n (fun j hj => by unfold st; rw [if_pos hj])
  have e9 : st d n n = d n + cy d n := by unfold st; rw [if_neg (by omega), if_pos rfl]
  show vN n (st d n) + st d n n * 67108864 ^ n = vN n d + d n * 67108864 ^ n
  rw [e, e9, ← h, Int.add_mul]
  omega

theorem st_low (d : Nat → Int) (n j : Nat) (hj : j < n) : 0 ≤ st d n j ∧ st d n j < 67108864 := by
  unfold st; rw [if_pos hj]; exact md_bd d j

theorem vN_split (n m : Nat) (d : Nat → Int) : vN (n + m) d = vN n d + 67108864 ^ n * vN m (fun j => d (n + j)) := by
  induction m with
  | zero => simp [vN]
  | succ m ih =>
    show vN (n + m) d + d (n + m) * 67108864 ^ (n + m) = vN n d + 67108864 ^ n * (vN m (fun j => d (n + j)) + d (n + m) * 67108864 ^ m)
    rw [ih, Int.pow_add]
    generalize (67108864 : Int) ^ n = P
    generalize (67108864 : Int) ^ m = Q
    grind

/-- The product's digits, evened. -/
def wd20 (a b : Nat → Int) (j : Nat) : Int := st (pr a b 10) 19 j

theorem wd20_bd (a b : Nat → Int) (ha : can a) (hb : can b) (j : Nat) (hj : j < 20) : 0 ≤ wd20 a b j ∧ wd20 a b j < 67108864 := by
  by_cases h : j < 19
  · exact st_low _ 19 j h
  · have e : j = 19 := by omega
    subst e
    have h1 : vN 20 (wd20 a b) = vN 10 a * vN 10 b := (st_val (pr a b 10) 19).trans (pr_val a b 10 (by omega))
    have h2 := vN_bd 19 (wd20 a b) (fun j hj => st_low _ 19 j hj)
    have h3 := vN_bd 10 a ha
    have h4 := vN_bd 10 b hb
    have e1 : vN 20 (wd20 a b) = vN 19 (wd20 a b) + wd20 a b 19 * 67108864 ^ 19 := rfl
    have c19 : (67108864 : Int) ^ 19 = 51146728248377216718956089012931236753385031969422887335676427626502090568823039920051095192592252455482604439493126109519019633529459266458258243584 := by decide
    have c10 : (67108864 : Int) ^ 10 = 1852673427797059126777135760139006525652319754650249024631321344126610074238976 := by decide
    rw [c19] at e1 h2
    rw [c10] at h3 h4
    have h5 : vN 10 a * vN 10 b ≤ 1852673427797059126777135760139006525652319754650249024631321344126610074238975 * vN 10 b := Int.mul_le_mul_of_nonneg_right (by omega) h4.1
    have h6 : 0 ≤ vN 10 a * vN 10 b := Int.mul_nonneg h3.1 h4.1
    rw [h1] at e1
    generalize vN 10 a * vN 10 b = v at *
    omega

/-- The first k digits of what Times hands to Small. -/
def tm (a b : Nat → Int) (k j : Nat) : Int := if j < k then wd20 a b j + 608 * wd20 a b (10 + j) else 0

theorem tm_next (a b : Nat → Int) (k j : Nat) : (if j = k then wd20 a b k + 608 * wd20 a b (10 + k) else tm a b k j) = tm a b (k + 1) j := by
  unfold tm
  by_cases e : j = k
  · rw [if_pos e, if_pos (by omega), e]
  · rw [if_neg e]
    by_cases e2 : j < k
    · rw [if_pos e2, if_pos (by omega)]
    · rw [if_neg e2, if_neg (by omega)]

theorem tm_val (a b : Nat → Int) (ha : can a) (hb : can b) : 0 ≤ vN 10 (tm a b 10) ∧ vN 10 (tm a b 10) < 1128278117528409008207275677924654974122262730582001656000474698573105535211536384 ∧ vN 10 (tm a b 10) % (p : Int) = (vN 10 a * vN 10 b) % (p : Int) := by
  have h1 : vN 20 (wd20 a b) = vN 10 a * vN 10 b := (st_val (pr a b 10) 19).trans (pr_val a b 10 (by omega))
  have h2 := vN_split 10 10 (wd20 a b)
  have l1 := vN_bd 10 (wd20 a b) (fun j hj => wd20_bd a b ha hb j (by omega))
  have l2 := vN_bd 10 (fun j => wd20 a b (10 + j)) (fun j hj => wd20_bd a b ha hb (10 + j) (by omega))
  have c10 : (67108864 : Int) ^ 10 = 1852673427797059126777135760139006525652319754650249024631321344126610074238976 := by decide
  have e : vN 10 (tm a b 10) = vN 10 (wd20 a b) + 608 * vN 10 (fun j => wd20 a b (10 + j)) := by
    rw [vN10, vN10, vN10]
    have f0 : tm a b 10 0 = wd20 a b 0 + 608 * wd20 a b (10 + 0) := rfl
    have f1 : tm a b 10 1 = wd20 a b 1 + 608 * wd20 a b (10 + 1) := rfl
    have f2 : tm a b 10 2 = wd20 a b 2 + 608 * wd20 a b (10 + 2) := rfl
    have f3 : tm a b 10 3 = wd20 a b 3 + 608 * wd20 a b (10 + 3) := rfl
    have f4 : tm a b 10 4 = wd20 a b 4 + 608 * wd20 a b (10 + 4) := rfl
    have f5 : tm a b 10 5 = wd20 a b 5 + 608 * wd20 a b (10 + 5) := rfl
    have f6 : tm a b 10 6 = wd20 a b 6 + 608 * wd20 a b (10 + 6) := rfl
    have f7 : tm a b 10 7 = wd20 a b 7 + 608 * wd20 a b (10 + 7) := rfl
    have f8 : tm a b 10 8 = wd20 a b 8 + 608 * wd20 a b (10 + 8) := rfl
    have f9 : tm a b 10 9 = wd20 a b 9 + 608 * wd20 a b (10 + 9) := rfl
    rw [f0, f1, f2, f3, f4, f5, f6, f7, f8, f9]
    omega
  rw [c10] at h2 l1 l2
  have h3 : vN 20 (wd20 a b) = vN 10 (wd20 a b) + 1852673427797059126777135760139006525652319754650249024631321344126610074238976 * vN 10 (fun j => wd20 a b (10 + j)) := h2
  rw [h1] at h3
  generalize vN 10 (fun j => wd20 a b (10 + j)) = hi at *
  generalize vN 10 (wd20 a b) = lo at *
  refine ⟨by omega, by omega, ?_⟩
  have e2 : vN 10 a * vN 10 b = vN 10 (tm a b 10) + (p : Int) * (32 * hi) := by
    rw [h3, e]; unfold p; omega
  rw [e2, Int.add_mul_emod_self_left]

end Go.Proofs.Fd
