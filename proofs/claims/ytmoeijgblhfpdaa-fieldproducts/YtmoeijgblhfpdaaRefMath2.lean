/- Digits to the base 2^26: which number is less; a number modulo 2^255 - 19. -/
import Derived.Test.YtmoeijgblhfpdaaRefMath
import Derived.Test.YtmoeijgblhfpdaaMath
namespace Go.Proofs.Fd

theorem vN_bd (n : Nat) (d : Nat → Int) (h : ∀ j, j < n → 0 ≤ d j ∧ d j < 67108864) : 0 ≤ vN n d ∧ vN n d < 67108864 ^ n := by
  induction n with
  | zero => simp [vN]
  | succ n ih =>
    have h1 := ih (fun j hj => h j (by omega))
    have h2 := h n (by omega)
    simp only [vN]
    have hp : (0 : Int) < 67108864 ^ n := Int.pow_pos (by decide)
    have e2 : (67108864 : Int) ^ (n + 1) = 67108864 ^ n * 67108864 := Int.pow_succ ..
    rw [e2]
    generalize (67108864 : Int) ^ n = P at *
    have a1 : 0 ≤ d n * P := Int.mul_nonneg h2.1 (by omega)
    have a2 : d n * P ≤ 67108863 * P := Int.mul_le_mul_of_nonneg_right (by omega) (by omega)
    constructor <;> omega

theorem vN_same (a b : Nat → Int) (k n : Nat) (hk : k < n) (h : ∀ j, k < j → j < n → a j = b j) : vN n a - vN n b = vN (k + 1) a - vN (k + 1) b := by
  induction n with
  | zero => omega
  | succ n ih =>
    by_cases e : k = n
    · subst e; rfl
    · have := ih (by omega) (fun j h1 h2 => h j h1 (by omega))
      have e1 := h n (by omega) (by omega)
      rw [← this]
      show vN n a + a n * 67108864 ^ n - (vN n b + b n * 67108864 ^ n) = vN n a - vN n b
      rw [e1]; omega

theorem vN_congr (a b : Nat → Int) (n : Nat) (h : ∀ j, j < n → a j = b j) : vN n a = vN n b := by
  induction n with
  | zero => rfl
  | succ n ih => simp only [vN]; rw [ih (fun j hj => h j (by omega)), h n (by omega)]

theorem vN_less (a b : Nat → Int) (k n : Nat) (hk : k < n) (ha : ∀ j, j < n → 0 ≤ a j ∧ a j < 67108864) (hb : ∀ j, j < n → 0 ≤ b j ∧ b j < 67108864)
    (h : ∀ j, k < j → j < n → a j = b j) (hlt : a k < b k) : vN n a < vN n b := by
  have h1 := vN_same a b k n hk h
  have h2 := vN_bd k a (fun j hj => ha j (by omega))
  have h3 := vN_bd k b (fun j hj => hb j (by omega))
  simp only [vN] at h1
  have hp : (0 : Int) < 67108864 ^ k := Int.pow_pos (by decide)
  generalize (67108864 : Int) ^ k = P at *
  have a2 : (a k + 1) * P ≤ b k * P := Int.mul_le_mul_of_nonneg_right (by omega) (by omega)
  rw [Int.add_mul] at a2
  omega

/-- The digits of p. -/
def pd (j : Nat) : Int := if j = 0 then 67108845 else if j = 9 then 2097151 else 67108863

theorem pd_val : vN 10 pd = (p : Int) := by decide

/-- Ten digits of a number below 2^255, each in its bounds. -/
def can (d : Nat → Int) : Prop := ∀ j, j < 10 → 0 ≤ d j ∧ d j < 67108864

theorem pd_can : can pd := by
  intro j hj; unfold pd; split
  · omega
  · split <;> omega

theorem ev_val (d : Nat → Int) : vN 10 (ev d) = vN 10 d := by
  have h := cy_val d 9
  have e : vN 9 (ev d) = vN 9 (md d) := vN_congr _ _ 9 (fun j hj => by unfold ev st; rw [if_pos hj])
  have e9 : ev d 9 = d 9 + cy d 9 := by unfold ev st; rw [if_neg (by omega), if_pos rfl]
  show vN 9 (ev d) + ev d 9 * 67108864 ^ 9 = vN 9 d + d 9 * 67108864 ^ 9
  rw [e, e9, ← h, Int.add_mul]
  omega

theorem ev_low (d : Nat → Int) (j : Nat) (hj : j < 9) : 0 ≤ ev d j ∧ ev d j < 67108864 := by
  unfold ev st; rw [if_pos hj]; exact md_bd d j

theorem ev_top (d : Nat → Int) : ev d 9 = vN 10 d / 27606985387162255149739023449108101809804435888681546220650096895197184 := by
  have h1 := ev_val d
  have h2 := vN_bd 9 (ev d) (fun j hj => ev_low d j hj)
  have e : vN 10 (ev d) = vN 9 (ev d) + ev d 9 * 67108864 ^ 9 := rfl
  have e9 : (67108864 : Int) ^ 9 = 27606985387162255149739023449108101809804435888681546220650096895197184 := by decide
  rw [e9] at e h2
  omega

/-- One step of Small: what stands at 2^255 and above counts 19 times. -/
def fo (d : Nat → Int) (j : Nat) : Int :=
  if j = 0 then ev d 0 + 19 * (ev d 9 / 2097152) else if j = 9 then ev d 9 - ev d 9 / 2097152 * 2097152 else ev d j

theorem vN10 (d : Nat → Int) : vN 10 d = d 0 + d 1 * 67108864 + d 2 * 67108864 ^ 2 + d 3 * 67108864 ^ 3 + d 4 * 67108864 ^ 4 + d 5 * 67108864 ^ 5 + d 6 * 67108864 ^ 6 + d 7 * 67108864 ^ 7 + d 8 * 67108864 ^ 8 + d 9 * 67108864 ^ 9 := by
  simp [vN]

theorem fo_val (d : Nat → Int) : vN 10 (fo d) = vN 10 d - vN 10 d / 57896044618658097711785492504343953926634992332820282019728792003956564819968 * 57896044618658097711785492504343953926634992332820282019728792003956564819949 := by
  have h1 := ev_val d
  have h2 := ev_top d
  have e9 : (67108864 : Int) ^ 9 = 27606985387162255149739023449108101809804435888681546220650096895197184 := by decide
  have q : ev d 9 / 2097152 = vN 10 d / 57896044618658097711785492504343953926634992332820282019728792003956564819968 := by rw [h2]; omega
  have e : vN 10 (fo d) = vN 10 (ev d) + 19 * (ev d 9 / 2097152) - ev d 9 / 2097152 * 2097152 * 67108864 ^ 9 := by
    rw [vN10, vN10]
    have f0 : fo d 0 = ev d 0 + 19 * (ev d 9 / 2097152) := rfl
    have f9 : fo d 9 = ev d 9 - ev d 9 / 2097152 * 2097152 := rfl
    have f1 : fo d 1 = ev d 1 := rfl
    have f2 : fo d 2 = ev d 2 := rfl
    have f3 : fo d 3 = ev d 3 := rfl
    have f4 : fo d 4 = ev d 4 := rfl
    have f5 : fo d 5 = ev d 5 := rfl
    have f6 : fo d 6 = ev d 6 := rfl
    have f7 : fo d 7 = ev d 7 := rfl
    have f8 : fo d 8 = ev d 8 := rfl
    rw [f0, f1, f2, f3, f4, f5, f6, f7, f8, f9, Int.sub_mul]; omega
  rw [e, h1, e9, q]
  omega

/-- What Small does to a number that is not below 0 and not too great: three steps. -/
theorem fold_step (v : Int) (h0 : 0 ≤ v) : 0 ≤ v - v / 57896044618658097711785492504343953926634992332820282019728792003956564819968 * 57896044618658097711785492504343953926634992332820282019728792003956564819949
    ∧ (v - v / 57896044618658097711785492504343953926634992332820282019728792003956564819968 * 57896044618658097711785492504343953926634992332820282019728792003956564819949) % (p : Int) = v % (p : Int) := by
  constructor
  · omega
  · have e : v - v / 57896044618658097711785492504343953926634992332820282019728792003956564819968 * 57896044618658097711785492504343953926634992332820282019728792003956564819949 = v + (p : Int) * (-(v / 57896044618658097711785492504343953926634992332820282019728792003956564819968)) := by
      unfold p; omega
    rw [e, Int.add_mul_emod_self_left]

theorem fold_less1 (v : Int) (h0 : 0 ≤ v) (h : v < 2 ^ 270) : v - v / 57896044618658097711785492504343953926634992332820282019728792003956564819968 * 57896044618658097711785492504343953926634992332820282019728792003956564819949 < 57896044618658097711785492504343953926634992332820282019728792003956565868544 := by
  omega
theorem fold_less2 (v : Int) (h0 : 0 ≤ v) (h : v < 57896044618658097711785492504343953926634992332820282019728792003956565868544) : v - v / 57896044618658097711785492504343953926634992332820282019728792003956564819968 * 57896044618658097711785492504343953926634992332820282019728792003956564819949 < 57896044618658097711785492504343953926634992332820282019728792003956564819968 := by
  omega
theorem fold_less3 (v : Int) (h0 : 0 ≤ v) (h : v < 57896044618658097711785492504343953926634992332820282019728792003956564819968) : v - v / 57896044618658097711785492504343953926634992332820282019728792003956564819968 * 57896044618658097711785492504343953926634992332820282019728792003956564819949 < 57896044618658097711785492504343953926634992332820282019728792003956564819968 := by
  omega

end Go.Proofs.Fd
