/- A number is a prime if some number has the order of all that are not 0 (Lucas); then each number that is not 0, to the power of the prime less 1, is 1. -/
namespace Go.Proofs.Fd

/-- A prime, in Euclid's form. -/
def Pr (n : Nat) : Prop := 1 < n ∧ ∀ a b, n ∣ a * b → n ∣ a ∨ n ∣ b

theorem pr_two : Pr 2 := by
  refine ⟨by decide, fun a b h => ?_⟩
  have hm : (a % 2) * (b % 2) % 2 = 0 := by rw [← Nat.mul_mod]; exact Nat.mod_eq_zero_of_dvd h
  rcases Nat.mod_two_eq_zero_or_one a with ha | ha
  · exact .inl (Nat.dvd_of_mod_eq_zero ha)
  · rcases Nat.mod_two_eq_zero_or_one b with hb | hb
    · exact .inr (Nat.dvd_of_mod_eq_zero hb)
    · rw [ha, hb] at hm; exact absurd hm (by decide)

theorem pr_gcd {l c : Nat} (hl : Pr l) (h : ¬ l ∣ c) : Nat.gcd c l = 1 := by
  obtain ⟨h1, h2⟩ := hl
  obtain ⟨k, hk⟩ := Nat.gcd_dvd_right c l
  rcases h2 (Nat.gcd c l) k (by rw [← hk]; exact Nat.dvd_refl l) with hd | hd
  · exact absurd (Nat.dvd_trans hd (Nat.gcd_dvd_left c l)) h
  · obtain ⟨t, ht⟩ := hd
    have hl0 : 0 < l := by omega
    have e : l * (Nat.gcd c l * t) = l * 1 := by
      rw [Nat.mul_one, ← Nat.mul_assoc, Nat.mul_comm l, Nat.mul_assoc, ← ht, ← hk]
    have e' := Nat.eq_of_mul_eq_mul_left hl0 e
    exact Nat.eq_one_of_mul_eq_one_right e'

/-- The product of a list. -/
def prod : List Nat → Nat
  | [] => 1
  | l :: r => l * prod r

theorem prod_factor (L : List Nat) (hL : ∀ l ∈ L, Pr l) (c : Nat) (hc : c ∣ prod L) (h1 : c ≠ 1) : ∃ l ∈ L, l ∣ c := by
  induction L with
  | nil => exact absurd (Nat.dvd_one.1 hc) h1
  | cons l r ih =>
    by_cases h : l ∣ c
    · exact ⟨l, by simp, h⟩
    · have g := pr_gcd (hL l (by simp)) h
      have hc' : c ∣ prod r := Nat.Coprime.dvd_of_dvd_mul_left g hc
      obtain ⟨m, hm, hd⟩ := ih (fun x hx => hL x (by simp [hx])) hc'
      exact ⟨m, by simp [hm], hd⟩

theorem pow_one_mod {g a N : Nat} (h1 : 1 < N) (h : g ^ a % N = 1) (k : Nat) : g ^ (a * k) % N = 1 := by
  rw [Nat.pow_mul, Nat.pow_mod, h, Nat.one_pow, Nat.mod_eq_of_lt h1]

theorem pow_rem {g a N : Nat} (h1 : 1 < N) (h : g ^ a % N = 1) (b : Nat) : g ^ b % N = g ^ (b % a) % N := by
  have e : g ^ b = g ^ (a * (b / a)) * g ^ (b % a) := by rw [← Nat.pow_add, Nat.div_add_mod]
  rw [e, Nat.mul_mod, pow_one_mod h1 h, Nat.one_mul, Nat.mod_mod]

theorem pow_gcd {g N : Nat} (h1 : 1 < N) (a b : Nat) (ha : g ^ a % N = 1) (hb : g ^ b % N = 1) : g ^ (Nat.gcd a b) % N = 1 := by
  induction a, b using Nat.gcd.induction with
  | H0 b => simpa using hb
  | H1 a b h0 ih =>
    rw [Nat.gcd_rec]
    exact ih (by rw [← pow_rem h1 ha]; exact hb) ha

theorem order {g N : Nat} (h1 : 1 < N) (L : List Nat) (hL : ∀ l ∈ L, Pr l) (hn : prod L = N - 1) (hg : g ^ (N - 1) % N = 1) (hl : ∀ l ∈ L, g ^ ((N - 1) / l) % N ≠ 1)
    (m : Nat) (h0 : 0 < m) (hm : m < N - 1) : g ^ m % N ≠ 1 := by
  intro h
  have hd := pow_gcd h1 m (N - 1) h hg
  obtain ⟨c, hc⟩ := Nat.gcd_dvd_right m (N - 1)
  have hle : Nat.gcd m (N - 1) ≤ m := Nat.gcd_le_left _ h0
  have hc1 : c ≠ 1 := by
    intro e; rw [e, Nat.mul_one] at hc; omega
  obtain ⟨l, hlm, k, hk⟩ := prod_factor L hL c (by rw [hn]; exact ⟨Nat.gcd m (N - 1), by rw [Nat.mul_comm]; exact hc⟩) hc1
  have hl0 : 0 < l := by have := (hL l hlm).1; omega
  have e : (N - 1) / l = Nat.gcd m (N - 1) * k := by
    rw [hk] at hc
    have : N - 1 = l * (Nat.gcd m (N - 1) * k) := by
      rw [← Nat.mul_assoc, Nat.mul_comm l, Nat.mul_assoc, ← hc]
    exact Nat.div_eq_of_eq_mul_right hl0 this
  exact hl l hlm (by rw [e]; exact pow_one_mod h1 hd k)

/-- More than n places for n things: two have the same. -/
theorem pigeon (n : Nat) (f : Nat → Nat) (h : ∀ i, i ≤ n → f i < n) : ∃ i j, i < j ∧ j ≤ n ∧ f i = f j := by
  induction n generalizing f with
  | zero => exact absurd (h 0 (Nat.le_refl 0)) (by omega)
  | succ n ih =>
    by_cases hv : ∃ i, i ≤ n ∧ f i = f (n + 1)
    · obtain ⟨i, hi, e⟩ := hv
      exact ⟨i, n + 1, by omega, Nat.le_refl _, e⟩
    · have hne : ∀ i, i ≤ n → f i ≠ f (n + 1) := fun i hi e => hv ⟨i, hi, e⟩
      have hlast := h (n + 1) (Nat.le_refl _)
      obtain ⟨i, j, hij, hj, e⟩ := ih (fun i => if f i = n then f (n + 1) else f i) (fun i hi => by
        show (if f i = n then f (n + 1) else f i) < n
        have h1 := h i (by omega)
        have h2 := hne i hi
        split <;> omega)
      refine ⟨i, j, hij, by omega, ?_⟩
      have h1 := hne i (by omega)
      have h2 := hne j hj
      split at e <;> split at e <;> omega

/-- So many unlike numbers from 1 to n as there are: each is among them. -/
theorem all_hit (n : Nat) (f : Nat → Nat) (h : ∀ i, i < n → 0 < f i ∧ f i ≤ n) (inj : ∀ i j, i < j → j < n → f i ≠ f j) (a : Nat) (h0 : 0 < a) (ha : a ≤ n) : ∃ i, i < n ∧ f i = a := by
  obtain ⟨i, j, hij, hj, e⟩ := pigeon n (fun i => (if i < n then f i else a) - 1) (fun i hi => by
    show (if i < n then f i else a) - 1 < n
    split
    · rename_i hlt; have := h i hlt; omega
    · omega)
  have hi : i < n := by omega
  rw [if_pos hi] at e
  have := h i hi
  by_cases hjn : j < n
  · rw [if_pos hjn] at e
    have := h j hjn
    exact absurd (by omega) (inj i j hij hjn)
  · rw [if_neg hjn] at e
    exact ⟨i, hi, by omega⟩

theorem powers {g N : Nat} (h1 : 1 < N) (L : List Nat) (hL : ∀ l ∈ L, Pr l) (hn : prod L = N - 1) (hg : g ^ (N - 1) % N = 1) (hl : ∀ l ∈ L, g ^ ((N - 1) / l) % N ≠ 1)
    (a : Nat) (h0 : 0 < a) (ha : a < N) : ∃ i, g ^ i % N = a := by
  obtain ⟨i, _, e⟩ := all_hit (N - 1) (fun i => g ^ i % N) (fun i hi => by
      have hlt : g ^ i % N < N := Nat.mod_lt _ (by omega)
      refine ⟨?_, by show g ^ i % N ≤ N - 1; omega⟩
      rcases Nat.eq_zero_or_pos (g ^ i % N) with hz | hz
      · exfalso
        have e : g ^ (N - 1) = g ^ i * g ^ (N - 1 - i) := by rw [← Nat.pow_add]; congr 1; omega
        rw [e, Nat.mul_mod, hz, Nat.zero_mul, Nat.zero_mod] at hg
        exact absurd hg (by decide)
      · exact hz) (fun i j hij hj e => by
      have e' : g ^ i % N = g ^ j % N := e
      have e1 : g ^ (N - 1) = g ^ i * g ^ (N - 1 - i) := by rw [← Nat.pow_add]; congr 1; omega
      have e2 : g ^ (N - 1 + (j - i)) = g ^ j * g ^ (N - 1 - i) := by rw [← Nat.pow_add]; congr 1; omega
      have e3 : g ^ (N - 1 + (j - i)) % N = 1 := by
        rw [e2, Nat.mul_mod, ← e', ← Nat.mul_mod, ← e1, hg]
      rw [Nat.pow_add, Nat.mul_mod, hg, Nat.one_mul, Nat.mod_mod] at e3
      exact order h1 L hL hn hg hl (j - i) (by omega) (by omega) e3) a h0 (by omega)
  exact ⟨i, e⟩

theorem fermat {g N : Nat} (h1 : 1 < N) (L : List Nat) (hL : ∀ l ∈ L, Pr l) (hn : prod L = N - 1) (hg : g ^ (N - 1) % N = 1) (hl : ∀ l ∈ L, g ^ ((N - 1) / l) % N ≠ 1)
    (a : Nat) (h0 : 0 < a) (ha : a < N) : a ^ (N - 1) % N = 1 := by
  obtain ⟨i, hi⟩ := powers h1 L hL hn hg hl a h0 ha
  rw [← hi, ← Nat.pow_mod, ← Nat.pow_mul, Nat.mul_comm]
  exact pow_one_mod h1 hg i

theorem lucas {N : Nat} (g : Nat) (h1 : 1 < N) (L : List Nat) (hL : ∀ l ∈ L, Pr l) (hn : prod L = N - 1) (hg : g ^ (N - 1) % N = 1) (hl : ∀ l ∈ L, g ^ ((N - 1) / l) % N ≠ 1) : Pr N := by
  refine ⟨h1, fun a b hab => ?_⟩
  rcases Nat.eq_zero_or_pos (a % N) with hz | hz
  · exact .inl (Nat.dvd_of_mod_eq_zero hz)
  · right
    have hf := fermat h1 L hL hn hg hl (a % N) hz (Nat.mod_lt _ (by omega))
    rw [← Nat.pow_mod] at hf
    have hm : a * b % N = 0 := Nat.mod_eq_zero_of_dvd hab
    apply Nat.dvd_of_mod_eq_zero
    have e : a ^ (N - 1) * b = a ^ (N - 1 - 1) * (a * b) := by
      rw [← Nat.mul_assoc, ← Nat.pow_succ]
      by_cases hN : N = 2
      · subst hN; rfl
      · congr 2; omega
    have : a ^ (N - 1) * b % N = b % N := by rw [Nat.mul_mod, hf, Nat.one_mul, Nat.mod_mod]
    rw [← this, e, Nat.mul_mod, hm, Nat.mul_zero, Nat.zero_mod]

/-- A power modulo N, by squaring; f is how many bits there may be. -/
def pw : Nat → Nat → Nat → Nat → Nat
  | 0, _, _, N => 1 % N
  | f + 1, a, e, N => if e % 2 = 1 then a * pw f (a * a % N) (e / 2) N % N else pw f (a * a % N) (e / 2) N

theorem pw_eq (f a e N : Nat) (h : e < 2 ^ f) : pw f a e N = a ^ e % N := by
  induction f generalizing a e with
  | zero =>
    have : e = 0 := by simpa using h
    subst this; rfl
  | succ f ih =>
    have he : e / 2 < 2 ^ f := by rw [Nat.pow_succ] at h; omega
    have hs : (a * a % N) ^ (e / 2) % N = a ^ (2 * (e / 2)) % N := by
      rw [← Nat.pow_mod, ← Nat.pow_two, ← Nat.pow_mul]
    show (if e % 2 = 1 then a * pw f (a * a % N) (e / 2) N % N else pw f (a * a % N) (e / 2) N) = _
    rw [ih _ _ he, hs]
    split
    · rename_i ho
      rw [Nat.mul_mod, Nat.mod_mod, ← Nat.mul_mod, ← Nat.pow_succ']
      congr 2; omega
    · congr 2; omega

/-- All that a certificate asks, as one test. -/
def cert (g N : Nat) (L : List Nat) : Bool :=
  decide (1 < N) && decide (N < 2 ^ 256) && decide (prod L = N - 1) && decide (pw 256 g (N - 1) N = 1) && L.all fun l => decide (pw 256 g ((N - 1) / l) N ≠ 1)

theorem cert_out {g N : Nat} {L : List Nat} (h : cert g N L = true) :
    1 < N ∧ prod L = N - 1 ∧ g ^ (N - 1) % N = 1 ∧ ∀ l ∈ L, g ^ ((N - 1) / l) % N ≠ 1 := by
  unfold cert at h
  simp only [Bool.and_eq_true, decide_eq_true_eq, List.all_eq_true] at h
  obtain ⟨⟨⟨⟨h1, h2⟩, h3⟩, h4⟩, h5⟩ := h
  refine ⟨h1, h3, ?_, fun l hl => ?_⟩
  · rw [← pw_eq 256 g (N - 1) N (by omega)]; exact h4
  · rw [← pw_eq 256 g ((N - 1) / l) N (Nat.lt_of_le_of_lt (Nat.div_le_self _ _) (by omega))]; exact h5 l hl

theorem cert_pr {N : Nat} (g : Nat) (L : List Nat) (h : cert g N L = true) (hL : ∀ l ∈ L, Pr l) : Pr N := by
  obtain ⟨h1, h2, h3, h4⟩ := cert_out h
  exact lucas g h1 L hL h2 h3 h4

end Go.Proofs.Fd
