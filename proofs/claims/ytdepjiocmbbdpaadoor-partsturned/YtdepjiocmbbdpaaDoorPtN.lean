/- One message's parts, one after the other. -/
import Derived.Test.YtdepjiocmbbdpaaDoorPtM
namespace Go.Proofs.Pt
open Go.Proofs.Hs

/-- How many of the first n did not come. -/
def miss (c : Nat → Bool) : Nat → Nat
  | 0 => 0
  | n + 1 => miss c n + if c n then 0 else 1
def upd (c : Nat → Bool) (k : Nat) : Nat → Bool := fun j => if j = k then true else c j
theorem miss_upd (c : Nat → Bool) (k : Nat) : ∀ n, (n ≤ k → miss (upd c k) n = miss c n) ∧ (k < n → c k = false → miss (upd c k) n + 1 = miss c n)
  | 0 => ⟨fun _ => rfl, fun h => absurd h (Nat.not_lt_zero _)⟩
  | n + 1 => by
    obtain ⟨h1, h2⟩ := miss_upd c k n
    refine ⟨fun h => ?_, fun h hc => ?_⟩
    · unfold miss
      rw [h1 (by omega), show upd c k n = c n by unfold upd; rw [if_neg (by omega)]]
    · unfold miss
      by_cases e : n = k
      · subst e
        rw [h1 (Nat.le_refl _), show upd c n n = true by unfold upd; rw [if_pos rfl], hc]
        simp
      · rw [← h2 (by omega) hc, show upd c k n = c n by unfold upd; rw [if_neg e]]
        omega
theorem miss_zero (c : Nat → Bool) : ∀ n, miss c n = 0 → ∀ k, k < n → c k = true
  | 0, _, k, hk => absurd hk (Nat.not_lt_zero _)
  | n + 1, h, k, hk => by
    unfold miss at h
    have h0 : miss c n = 0 := by omega
    by_cases e : k = n
    · subst e
      by_cases hc : c k = true
      · exact hc
      · rw [if_neg hc] at h; omega
    · exact miss_zero c n h0 k (by omega)
theorem miss_none : ∀ n, miss (fun _ => false) n = n
  | 0 => rfl
  | n + 1 => by unfold miss; rw [miss_none n]; simp
theorem miss_le (c : Nat → Bool) : ∀ n, miss c n ≤ n
  | 0 => Nat.le_refl _
  | n + 1 => by have := miss_le c n; unfold miss; split <;> omega
theorem miss_pos (c : Nat → Bool) (k : Nat) (hc : c k = false) : ∀ n, k < n → 0 < miss c n
  | 0, h => absurd h (Nat.not_lt_zero _)
  | n + 1, h => by
    unfold miss
    by_cases e : k = n
    · subst e; rw [hc]; simp
    · have := miss_pos c k hc n (by omega); omega
/-- A message of which some parts came. -/
def prt (m : Mk) (q : Nat → Bs) (c : Nat → Bool) : Ms := ⟨m, (List.range m.2.1).map fun k => if c k then q k else [], miss c m.2.1⟩
theorem prt_beg (m : Mk) (q : Nat → Bs) : beg m = prt m q fun _ => false := by
  unfold beg prt
  rw [miss_none]
  congr 1
  apply List.ext_getElem
  · simp
  · intro j h1 h2; simp
/-- All parts of a message: its mark, its pieces. -/
structure All (m : Mk) (q : Nat → Bs) : Prop where
  l8 : m.1.length = 8
  l6 : m.2.2.length = 6
  pos : 0 < m.2.1
  may : ∀ k, k < m.2.1 → May ⟨m, k, q k⟩
theorem All.ne {m : Mk} {q : Nat → Bs} (h : All m q) (h1 : 1 < m.2.1) (k : Nat) (hk : k < m.2.1) : q k ≠ [] := by
  intro e
  have hm := (h.may k hk).2.2
  simp only [e, List.length_nil] at hm
  split at hm
  · omega
  · have := hm.1
    unfold cnt at this
    omega
theorem All.rd {m : Mk} {q : Nat → Bs} (h : All m q) (k : Nat) (hk : k < m.2.1) : rd (tx ⟨m, k, q k⟩) = some ⟨m, k, q k⟩ := rd_tx _ h.l8 h.l6 (h.may k hk)
theorem prt_get (m : Mk) (q : Nat → Bs) (c : Nat → Bool) (k : Nat) (hk : k < m.2.1) : (prt m q c).ps.getD k [] = if c k then q k else [] := by
  unfold prt
  rw [List.getD_eq_getElem?_getD, List.getElem?_map, List.getElem?_range hk]; rfl
theorem prt_new {m : Mk} {q : Nat → Bs} {c : Nat → Bool} {k : Nat} (hk : k < m.2.1) (hc : c k = false) : (prt m q c).code ⟨m, k, q k⟩ = 0 := by
  unfold Ms.code
  rw [if_neg (by intro h; exact h rfl), if_neg]
  rw [prt_get m q c k hk, hc]; simp
theorem prt_old {m : Mk} {q : Nat → Bs} {c : Nat → Bool} {k : Nat} (hk : k < m.2.1) (hc : c k = true) (hq : q k ≠ []) : (prt m q c).code ⟨m, k, q k⟩ = 6 := by
  unfold Ms.code
  rw [if_neg (by intro h; exact h rfl), if_pos]
  rw [prt_get m q c k hk, hc]; simpa using hq
theorem prt_put {m : Mk} {q : Nat → Bs} {c : Nat → Bool} {k : Nat} (hk : k < m.2.1) (hc : c k = false) : (prt m q c).take ⟨m, k, q k⟩ = prt m q (upd c k) := by
  unfold Ms.take
  rw [if_pos (prt_new hk hc)]
  unfold Ms.put prt
  have hm := (miss_upd c k m.2.1).2 hk hc
  have e : (((List.range m.2.1).map fun j => if c j then q j else []).set k (q k)) = (List.range m.2.1).map fun j => if upd c k j then q j else [] := by
    apply List.ext_getElem
    · simp
    · intro j h1 h2
      rw [List.getElem_set]
      by_cases hj : k = j
      · subst hj; simp [upd]
      · rw [if_neg hj]; simp [upd, Ne.symm hj]
  simp only [e]
  congr 1
  omega
theorem prt_all {m : Mk} {q : Nat → Bs} {c : Nat → Bool} (h : miss c m.2.1 = 0) : (prt m q c).ps.flatten = ((List.range m.2.1).map q).flatten := by
  unfold prt
  congr 1
  apply List.map_congr_left
  intro k hk
  rw [miss_zero c _ h k (List.mem_range.1 hk)]; simp
theorem at_none {S : List Ms} {i : Bs} : at_ S i = none ↔ ∀ x ∈ S, x.m.1 ≠ i := by
  unfold at_; rw [List.findIdx?_eq_none_iff]; simp
theorem at_some {S : List Ms} {i : Bs} {k : Nat} : at_ S i = some k ↔ ∃ h : k < S.length, S[k].m.1 = i ∧ ∀ j (hj : j < k), S[j].m.1 ≠ i := by
  unfold at_; rw [List.findIdx?_eq_some_iff_getElem]; simp
/-- What stands behind a part of a message that waits at j, or begins with it. -/
def Jn.aft (J : Jn) (S : List Ms) (j : Nat) (m : Mk) (q : Nat → Bs) (c : Nat → Bool) : Option (Bs × Bs) × Nat × Jn :=
  if 0 < miss c m.2.1 then (none, 0, ⟨J.mo, J.no, S.set j (prt m q c), J.D⟩) else J.fin (S.set j (prt m q c)) j (prt m q c)
theorem take_wait {J : Jn} {m : Mk} {q : Nat → Bs} {c : Nat → Bool} {k j : Nat} (h : All m q) (hk : k < m.2.1) (hD : m.1 ∉ J.D) (hj : at_ J.S m.1 = some j) (hS : J.S[j]? = some (prt m q c)) (hc : c k = false) :
    J.take (tx ⟨m, k, q k⟩) = J.aft J.S j m q (upd c k) := by
  unfold Jn.take
  rw [h.rd k hk]
  simp only
  rw [if_neg hD]
  have e : J.keep ⟨m, k, q k⟩ = (J.S, j) := by unfold Jn.keep; simp only [hj]
  rw [e]
  simp only
  rw [List.getD_eq_getElem?_getD, hS, Option.getD_some]
  unfold Jn.at Jn.aft
  rw [prt_new hk hc, prt_put hk hc]
  by_cases z : 0 < miss (upd c k) m.2.1
  · rw [if_pos (.inr z), if_pos z]
  · rw [if_neg (by rintro (x | x); exact x rfl; exact z x), if_neg z]
theorem take_again {J : Jn} {m : Mk} {q : Nat → Bs} {c : Nat → Bool} {k j : Nat} (h : All m q) (hk : k < m.2.1) (hD : m.1 ∉ J.D) (hj : at_ J.S m.1 = some j) (hS : J.S[j]? = some (prt m q c)) (hc : c k = true) (h1 : 1 < m.2.1) :
    J.take (tx ⟨m, k, q k⟩) = (none, 6, J) := by
  unfold Jn.take
  rw [h.rd k hk]
  simp only
  rw [if_neg hD]
  have e : J.keep ⟨m, k, q k⟩ = (J.S, j) := by unfold Jn.keep; simp only [hj]
  rw [e]
  simp only
  rw [List.getD_eq_getElem?_getD, hS, Option.getD_some]
  unfold Jn.at Ms.take
  have h6 := prt_old (q := q) hk hc (h.ne h1 k hk)
  rw [h6, if_pos (.inl (by decide)), if_neg (by decide)]
  obtain ⟨mo, no, S, D⟩ := J
  simp only [Prod.mk.injEq, true_and, Jn.mk.injEq, and_true]
  obtain ⟨hl, he⟩ := List.getElem?_eq_some_iff.1 hS
  rw [← he]; exact List.set_getElem_self hl
theorem take_told {J : Jn} {m : Mk} {q : Nat → Bs} {k : Nat} (h : All m q) (hk : k < m.2.1) (hD : m.1 ∈ J.D) : J.take (tx ⟨m, k, q k⟩) = (none, 6, J) := by
  unfold Jn.take
  rw [h.rd k hk]
  simp only
  rw [if_pos hD]
theorem take_first {J : Jn} {m : Mk} {q : Nat → Bs} {k : Nat} (h : All m q) (hk : k < m.2.1) (hD : m.1 ∉ J.D) (hj : at_ J.S m.1 = none) :
    J.take (tx ⟨m, k, q k⟩) = J.aft (push J.mo J.S (beg m)) ((push J.mo J.S (beg m)).length - 1) m q (upd (fun _ => false) k) := by
  unfold Jn.take
  rw [h.rd k hk]
  simp only
  rw [if_neg hD]
  have e : J.keep ⟨m, k, q k⟩ = (push J.mo J.S (beg m), (push J.mo J.S (beg m)).length - 1) := by unfold Jn.keep; simp only [hj]
  rw [e]
  simp only
  have hl : (push J.mo J.S (beg m)).getD ((push J.mo J.S (beg m)).length - 1) dflt = prt m q fun _ => false := by
    rw [← prt_beg]; unfold push; simp [List.getD_eq_getElem?_getD]
  rw [hl]
  unfold Jn.at Jn.aft
  rw [prt_new hk rfl, prt_put hk rfl]
  by_cases z : 0 < miss (upd (fun _ => false) k) m.2.1
  · rw [if_pos (.inr z), if_pos z]
  · rw [if_neg (by rintro (x | x); exact x rfl; exact z x), if_neg z]
/-- The parts of a body are all of a message. -/
theorem all_part (i b : Bs) (hi : i.length = 8) (hb : b.length ≤ 2048) : All (mkOf i b) (pc b) :=
  ⟨hi, dg6_len i b, cnt_pos _, fun k hk => part_may i b hb k hk⟩
/-- A message that is whole is told. -/
theorem fin_told (J : Jn) (S : List Ms) (j : Nat) (i b : Bs) (c : Nat → Bool) (h : miss c (cnt b.length) = 0) :
    J.fin S j (prt (mkOf i b) (pc b) c) = (some (i, b), 0, ⟨J.mo, J.no, S.eraseIdx j, push J.no J.D i⟩) := by
  have e : (prt (mkOf i b) (pc b) c).ps.flatten = b := by rw [prt_all h]; exact pc_all b
  unfold Jn.fin
  rw [e, if_pos (show (prt (mkOf i b) (pc b) c).m = mkOf (prt (mkOf i b) (pc b) c).m.1 b from rfl)]; rfl
end Go.Proofs.Pt
