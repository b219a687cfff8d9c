/- Delays, pure: what the calls answer, and what they leave of a tape. -/
import Derived.Test.YtecdjfafeeimfaaTaM
import Derived.Test.YtecdjfafeeimfaaDeM
namespace Go.Proofs.De
open Go.Proofs.Ta

/-- A word's delay. -/
def ofOk (m n u : Int) : Prop := (0 ≤ m ∧ m ≤ 4096) ∧ (0 ≤ n ∧ n ≤ 4096) ∧ 0 ≤ u ∧ u < 4294967296
def ofV (m n u : Int) : Int := if (0 ≤ m ∧ m ≤ 4096) ∧ (0 ≤ n ∧ n ≤ 4096) ∧ 0 ≤ u ∧ u < 4294967296 then (dl m.toNat n.toNat u.toNat : Int) else 0
def ofE (m n u : Int) : Int := if (0 ≤ m ∧ m ≤ 4096) ∧ (0 ≤ n ∧ n ≤ 4096) ∧ 0 ≤ u ∧ u < 4294967296 then 0 else 1
theorem of_no {m n u : Int} (h : ¬ ofOk m n u) : ofV m n u = 0 ∧ ofE m n u = 1 := ⟨if_neg h, if_neg h⟩
theorem of_ok (m n u : Nat) (hm : m ≤ 4096) (hn : n ≤ 4096) (hu : u < 4294967296) : ofV m n u = (dl m n u : Int) ∧ ofE m n u = 0 := by
  have h : ofOk m n u := ⟨by omega, by omega, by omega, by omega⟩
  exact ⟨if_pos h, if_pos h⟩
/-- Delays for means, one word of the tape each. -/
def dls (n : Nat) : List Int → List UInt8 → List Int
  | [], _ => []
  | x :: L, l => (dl x.toNat n (num4 l) : Int) :: dls n L (l.drop 4)
theorem dls_len (n : Nat) (L : List Int) : ∀ l, (dls n L l).length = L.length := by
  induction L with
  | nil => intro l; rfl
  | cons x L ih => intro l; show (dls n L (l.drop 4)).length + 1 = _; rw [ih]; rfl
theorem dls_at (n : Nat) (L : List Int) : ∀ (l : List UInt8) (k : Nat) (hk : k < L.length), (dls n L l)[k]'(by rw [dls_len]; exact hk) = (dl (L[k]).toNat n (num4 (l.drop (4 * k))) : Int) := by
  induction L with
  | nil => intro l k hk; exact absurd hk (Nat.not_lt_zero _)
  | cons x L ih =>
    intro l k hk
    cases k with
    | zero => rfl
    | succ k =>
      show (dls n L (l.drop 4))[k]'_ = _
      rw [ih (l.drop 4) k (by simpa using hk), List.drop_drop]
      rw [show 4 + 4 * k = 4 * (k + 1) by omega]
      rfl
def sevE (n : Int) (L : List Int) (l : List UInt8) : Int := if L.length ≤ 64 ∧ okA n L = true then (if l.length < 4 * L.length then 120 else 0) else 1
def sevV (n : Int) (L : List Int) (l : List UInt8) : List Int := if L.length ≤ 64 ∧ okA n L = true then (if l.length < 4 * L.length then [] else dls n.toNat L l) else []
def sevR (n : Int) (L : List Int) (l : List UInt8) : List UInt8 := if L.length ≤ 64 ∧ okA n L = true then (if l.length < 4 * L.length then l else l.drop (4 * L.length)) else l
theorem sev_no {n : Int} {L : List Int} {l : List UInt8} (h : ¬ (L.length ≤ 64 ∧ okA n L = true)) : sevV n L l = [] ∧ sevE n L l = 1 ∧ sevR n L l = l := ⟨if_neg h, if_neg h, if_neg h⟩
theorem sev_few {n : Int} {L : List Int} {l : List UInt8} (h : L.length ≤ 64 ∧ okA n L = true) (hl : l.length < 4 * L.length) : sevV n L l = [] ∧ sevE n L l = 120 ∧ sevR n L l = l := by
  unfold sevV sevE sevR
  rw [if_pos h, if_pos h, if_pos h, if_pos hl, if_pos hl, if_pos hl]
  exact ⟨rfl, rfl, rfl⟩
theorem sev_ok {n : Int} {L : List Int} {l : List UInt8} (h : L.length ≤ 64 ∧ okA n L = true) (hl : ¬ l.length < 4 * L.length) : sevV n L l = dls n.toNat L l ∧ sevE n L l = 0 ∧ sevR n L l = l.drop (4 * L.length) := by
  unfold sevV sevE sevR
  rw [if_pos h, if_pos h, if_pos h, if_neg hl, if_neg hl, if_neg hl]
  exact ⟨rfl, rfl, rfl⟩
/-- One delay. -/
def drE (m n : Int) (l : List UInt8) : Int := if (0 ≤ m ∧ m ≤ 4096) ∧ 0 ≤ n ∧ n ≤ 4096 then (if l.length < 4 then 120 else 0) else 1
def drV (m n : Int) (l : List UInt8) : Int := if (0 ≤ m ∧ m ≤ 4096) ∧ 0 ≤ n ∧ n ≤ 4096 then (if l.length < 4 then 0 else (dl m.toNat n.toNat (num4 l) : Int)) else 0
def drR (m n : Int) (l : List UInt8) : List UInt8 := if (0 ≤ m ∧ m ≤ 4096) ∧ 0 ≤ n ∧ n ≤ 4096 then (if l.length < 4 then l else l.drop 4) else l
theorem dr_no {m n : Int} {l : List UInt8} (h : ¬ ((0 ≤ m ∧ m ≤ 4096) ∧ 0 ≤ n ∧ n ≤ 4096)) : drV m n l = 0 ∧ drE m n l = 1 ∧ drR m n l = l := ⟨if_neg h, if_neg h, if_neg h⟩
theorem dr_few {m n : Int} {l : List UInt8} (h : (0 ≤ m ∧ m ≤ 4096) ∧ 0 ≤ n ∧ n ≤ 4096) (hl : l.length < 4) : drV m n l = 0 ∧ drE m n l = 120 ∧ drR m n l = l := by
  unfold drV drE drR
  rw [if_pos h, if_pos h, if_pos h, if_pos hl, if_pos hl, if_pos hl]
  exact ⟨rfl, rfl, rfl⟩
theorem dr_ok {m n : Int} {l : List UInt8} (h : (0 ≤ m ∧ m ≤ 4096) ∧ 0 ≤ n ∧ n ≤ 4096) (hl : ¬ l.length < 4) : drV m n l = (dl m.toNat n.toNat (num4 l) : Int) ∧ drE m n l = 0 ∧ drR m n l = l.drop 4 := by
  unfold drV drE drR
  rw [if_pos h, if_pos h, if_pos h, if_neg hl, if_neg hl, if_neg hl]
  exact ⟨rfl, rfl, rfl⟩
theorem okA_one (m n : Int) : okA n [m] = true ↔ (0 ≤ m ∧ m ≤ 4096) ∧ 0 ≤ n ∧ n ≤ 4096 := by
  rw [okA_iff]
  constructor
  · rintro ⟨h1, h2⟩
    exact ⟨h2 m (by simp), h1⟩
  · rintro ⟨h1, h2⟩
    refine ⟨h2, fun x hx => ?_⟩
    rw [show x = m by simpa using hx]
    exact h1
theorem okA_no (m n : Int) (h : ¬ ((0 ≤ m ∧ m ≤ 4096) ∧ 0 ≤ n ∧ n ≤ 4096)) : okA n [m] = false := by
  cases e : okA n [m] with
  | false => rfl
  | true => exact absurd ((okA_one m n).1 e) h
/-- What Several answers where it answers, mean by mean. -/
theorem one_by_one (n : Int) (L : List Int) (l : List UInt8) (h : sevE n L l = 0) : L.length ≤ 64 ∧ (sevV n L l).length = L.length ∧ 4 * L.length ≤ l.length ∧ sevR n L l = l.drop (4 * L.length) ∧ ∀ k (hk : k < L.length) (hk2 : k < (sevV n L l).length), drE L[k] n (l.drop (4 * k)) = 0 ∧ drV L[k] n (l.drop (4 * k)) = (sevV n L l)[k] ∧ drR L[k] n (l.drop (4 * k)) = l.drop (4 * (k + 1)) := by
  by_cases hq : L.length ≤ 64 ∧ okA n L = true
  · by_cases hl : l.length < 4 * L.length
    · rw [(sev_few hq hl).2.1] at h
      exact absurd h (by decide)
    · have e := (sev_ok hq hl).1
      refine ⟨hq.1, by rw [e, dls_len], by omega, (sev_ok hq hl).2.2, fun k hk hk2 => ?_⟩
      have h2 := (okA_iff n L).1 hq.2
      have h3 := h2.2 _ (List.getElem_mem hk)
      have h4 : ¬ (l.drop (4 * k)).length < 4 := by rw [List.length_drop]; omega
      obtain ⟨x1, x2, x3⟩ := dr_ok ⟨h3, h2.1⟩ h4
      refine ⟨x2, ?_, ?_⟩
      · rw [x1]
        have := dls_at n.toNat L l k hk
        rw [← this]
        congr 1
        exact e.symm
      · rw [x3, List.drop_drop]
        congr 1
  · rw [(sev_no hq).2.1] at h
    exact absurd h (by decide)
theorem sev_other (n : Int) (L : List Int) (l : List UInt8) (h : ¬ sevE n L l = 0) : sevV n L l = [] ∧ sevR n L l = l := by
  by_cases hq : L.length ≤ 64 ∧ okA n L = true
  · by_cases hl : l.length < 4 * L.length
    · exact ⟨(sev_few hq hl).1, (sev_few hq hl).2.2⟩
    · exact absurd (sev_ok hq hl).2.1 h
  · exact ⟨(sev_no hq).1, (sev_no hq).2.2⟩
end Go.Proofs.De
