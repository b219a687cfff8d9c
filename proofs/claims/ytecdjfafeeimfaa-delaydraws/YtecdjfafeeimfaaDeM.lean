/- Delays, pure: the table of a mean and a cap; how many of its numbers are above a word. -/
import Derived.WalkKit
namespace Go.Proofs.De

/-- r(k) of a mean. -/
def tb (m : Nat) : Nat → Nat
  | 0 => 4294967296
  | k + 1 => tb m k * m / (m + 1)
theorem tb_step (m k : Nat) : tb m (k + 1) = tb m k * m / (m + 1) := rfl
theorem tb_fall (m k : Nat) : tb m (k + 1) ≤ tb m k := by
  rw [tb_step]
  refine Nat.div_le_of_le_mul ?_
  rw [Nat.mul_comm]
  exact Nat.mul_le_mul_right _ (Nat.le_succ m)
theorem tb_anti (m a b : Nat) (h : a ≤ b) : tb m b ≤ tb m a := by
  induction b with
  | zero => rw [show a = 0 by omega]; exact Nat.le_refl _
  | succ b ih =>
    by_cases e : a = b + 1
    · rw [e]; exact Nat.le_refl _
    · exact Nat.le_trans (tb_fall m b) (ih (by omega))
theorem tb_most (m k : Nat) : tb m k ≤ 4294967296 := tb_anti m 0 k (Nat.zero_le _)
theorem tb_mean (m k : Nat) : tb m k ≤ tb (m + 1) k := by
  induction k with
  | zero => exact Nat.le_refl _
  | succ k ih =>
    rw [tb_step, tb_step]
    rw [Nat.le_div_iff_mul_le (by omega)]
    have h1 := Nat.div_mul_le_self (tb m k * m) (m + 1)
    obtain ⟨q, hq⟩ : ∃ q, tb m k * m / (m + 1) = q := ⟨_, rfl⟩
    rw [hq] at h1 ⊢
    obtain ⟨x, hx⟩ : ∃ x, tb m k = x := ⟨_, rfl⟩
    rw [hx] at h1 ih
    have hqx : q ≤ x := by
      rw [← hq, ← hx]
      exact tb_fall m k
    have h2 : q * (m + 1 + 1) ≤ x * (m + 1) := by
      have e1 : q * (m + 1 + 1) = q * (m + 1) + q := by rw [Nat.mul_succ]
      have e2 : x * (m + 1) = x * m + x := Nat.mul_succ x m
      omega
    exact Nat.le_trans h2 (Nat.mul_le_mul_right _ ih)
theorem tb_small (m k : Nat) (hm : m ≤ 4096) : tb m k * m ≤ 17592186044416 := by
  have := Nat.mul_le_mul (tb_most m k) hm
  exact this
/-- The table, as numbers of the program. -/
def tbl (m n : Nat) : List Int := (List.range n).map fun k => (tb m k : Int)
theorem tbl_len (m n : Nat) : (tbl m n).length = n := by unfold tbl; simp
theorem tbl_at (m n k : Nat) (h : k < n) : (tbl m n)[k]'(by rw [tbl_len]; exact h) = (tb m k : Int) := by unfold tbl; simp
theorem tbl_succ (m n : Nat) : tbl m (n + 1) = tbl m n ++ [(tb m n : Int)] := by unfold tbl; rw [List.range_succ, List.map_append]; rfl
/-- The delay of a word. -/
def dl (m n u : Nat) : Nat := (List.range n).countP fun k => decide (u < tb m (k + 1))
theorem dl_succ (m n u : Nat) : dl m (n + 1) u = dl m n u + (if u < tb m (n + 1) then 1 else 0) := by
  unfold dl
  rw [List.range_succ, List.countP_append]
  congr 1
  by_cases h : u < tb m (n + 1) <;> simp [h]
theorem dl_most (m n u : Nat) : dl m n u ≤ n := by
  have := List.countP_le_length (p := fun k => decide (u < tb m (k + 1))) (l := List.range n)
  simpa [dl] using this
/-- Where the table stops being above a word, there its delay is. -/
theorem dl_place (m n u k : Nat) (hk : k ≤ n) (h1 : ∀ j, j < k → u < tb m (j + 1)) (h2 : k < n → tb m (k + 1) ≤ u) : dl m n u = k := by
  induction n with
  | zero => rw [show k = 0 by omega]; rfl
  | succ n ih =>
    rw [dl_succ]
    by_cases e : k = n + 1
    · subst e
      rw [if_pos (h1 n (by omega))]
      have : ∀ j, j ≤ n → dl m j u = j := by
        intro j
        induction j with
        | zero => intro _; rfl
        | succ j ihj =>
          intro hj
          rw [dl_succ, ihj (by omega), if_pos (h1 j (by omega))]
      rw [this n (Nat.le_refl _)]
    · have hlt : tb m (n + 1) ≤ u := Nat.le_trans (tb_anti m (k + 1) (n + 1) (by omega)) (h2 (by omega))
      rw [ih (by omega) (fun h => h2 (by omega)), if_neg (by omega), Nat.add_zero]
theorem countP_mono {p q : Nat → Bool} (l : List Nat) (h : ∀ x, p x = true → q x = true) : l.countP p ≤ l.countP q :=
  List.countP_mono_left fun x _ => h x
theorem dl_word (m n u v : Nat) (h : u ≤ v) : dl m n v ≤ dl m n u := by
  unfold dl
  refine countP_mono _ fun x hx => ?_
  simp at hx ⊢
  omega
theorem dl_cap (m n u : Nat) : dl m n u ≤ dl m (n + 1) u := by rw [dl_succ]; exact Nat.le_add_right _ _
theorem dl_mean (m n u : Nat) : dl m n u ≤ dl (m + 1) n u := by
  unfold dl
  refine countP_mono _ fun x hx => ?_
  simp at hx ⊢
  exact Nat.lt_of_lt_of_le hx (tb_mean m (x + 1))
/-- Just the words from r(k + 1) up to r(k) - 1 have the delay k; those below r(cap) the cap. -/
theorem dl_between (m n u k : Nat) (hk : k ≤ n) (h0 : u < tb m k) (h1 : k < n → tb m (k + 1) ≤ u) : dl m n u = k :=
  dl_place m n u k hk (fun j hj => Nat.lt_of_lt_of_le h0 (tb_anti m (j + 1) k (by omega))) h1
/-- May a mean and a cap be? May all? -/
def okM (m : Int) : Bool := decide (0 ≤ m) && decide (m ≤ 4096)
def okA (n : Int) (L : List Int) : Bool := okM n && L.all okM
theorem okM_iff (m : Int) : okM m = true ↔ 0 ≤ m ∧ m ≤ 4096 := by unfold okM; simp
theorem okA_iff (n : Int) (L : List Int) : okA n L = true ↔ (0 ≤ n ∧ n ≤ 4096) ∧ ∀ x ∈ L, 0 ≤ x ∧ x ≤ 4096 := by
  unfold okA
  rw [Bool.and_eq_true, okM_iff, List.all_eq_true]
  constructor
  · rintro ⟨h1, h2⟩
    exact ⟨h1, fun x hx => (okM_iff x).1 (h2 x hx)⟩
  · rintro ⟨h1, h2⟩
    exact ⟨h1, fun x hx => (okM_iff x).2 (h2 x hx)⟩
end Go.Proofs.De
