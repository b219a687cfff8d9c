/- A message one piece of which was turned. -/
import Derived.Test.YtdepjiocmbbdpaaDoorPtU
namespace Go.Proofs.Pt
open Go.Proofs.Hs

/-- A joiner that waits for parts of one message alone. -/
def tst (mo no : Nat) (m : Mk) (q : Nat → Bs) (k : Nat) : Jn := if k = 0 then ⟨mo, no, [], []⟩ else ⟨mo, no, [prt m q fun j => decide (j < k)], []⟩
theorem miss_lt (k : Nat) : ∀ n, miss (fun j => decide (j < k)) n = n - k
  | 0 => by simp [miss]
  | n + 1 => by
    unfold miss
    rw [miss_lt k n]
    by_cases h : n < k
    · simp [h]; omega
    · simp [h]; omega
theorem upd_lt (k : Nat) : ∀ j, upd (fun j => decide (j < k)) k j = decide (j < k + 1) := fun j => by
  unfold upd
  show (if j = k then true else decide (j < k)) = decide (j < k + 1)
  by_cases h : j = k
  · rw [if_pos h, decide_eq_true (by omega)]
  · rw [if_neg h]
    by_cases h2 : j < k
    · rw [decide_eq_true h2, decide_eq_true (by omega)]
    · rw [decide_eq_false h2, decide_eq_false (by omega)]
/-- The next part of it. -/
theorem tst_take (mo no : Nat) (hmo : 1 ≤ mo) (m : Mk) (q : Nat → Bs) (h : All m q) (k : Nat) (hk : k < m.2.1) :
    (tst mo no m q k).take (tx ⟨m, k, q k⟩) = if k + 1 < m.2.1 then (none, 0, tst mo no m q (k + 1))
      else if m = mkOf m.1 ((List.range m.2.1).map q).flatten then (some (m.1, ((List.range m.2.1).map q).flatten), 0, ⟨mo, no, [], push no [] m.1⟩) else (none, 220, ⟨mo, no, [], []⟩) := by
  have ec : prt m q (upd (fun j => decide (j < k)) k) = prt m q fun j => decide (j < k + 1) := prt_congr fun j _ => upd_lt k j
  have em : miss (upd (fun j => decide (j < k)) k) m.2.1 = m.2.1 - (k + 1) := by rw [miss_congr _ fun j _ => upd_lt k j, miss_lt]
  have A : ∀ S x, S = [x] → (⟨mo, no, [], []⟩ : Jn).aft S 0 m q (upd (fun j => decide (j < k)) k) = if k + 1 < m.2.1 then (none, 0, tst mo no m q (k + 1))
      else if m = mkOf m.1 ((List.range m.2.1).map q).flatten then (some (m.1, ((List.range m.2.1).map q).flatten), 0, ⟨mo, no, [], push no [] m.1⟩) else (none, 220, ⟨mo, no, [], []⟩) := fun S x e => by
    subst e
    unfold Jn.aft
    rw [em, ec]
    by_cases z : k + 1 < m.2.1
    · rw [if_pos (by omega), if_pos z]
      unfold tst
      rw [if_neg (by omega)]; rfl
    · rw [if_neg (by omega), if_neg z]
      have e0 : miss (fun j => decide (j < k + 1)) m.2.1 = 0 := by rw [miss_lt]; omega
      unfold Jn.fin
      rw [prt_all e0]
      rfl
  by_cases k0 : k = 0
  · subst k0
    have e0 : tst mo no m q 0 = ⟨mo, no, [], []⟩ := by unfold tst; rw [if_pos rfl]
    rw [e0]
    have T := take_first (J := ⟨mo, no, [], []⟩) (k := 0) h hk (by simp) rfl
    have ep : push mo ([] : List Ms) (beg m) = [beg m] := by unfold push; rw [if_neg (by simp; omega)]; rfl
    simp only [ep, List.length_cons, List.length_nil] at T
    have e1 : (fun _ : Nat => false) = fun j => decide (j < 0) := by funext j; simp
    rw [e1] at T
    exact T.trans (A _ _ rfl)
  · have e0 : tst mo no m q k = ⟨mo, no, [prt m q fun j => decide (j < k)], []⟩ := by unfold tst; rw [if_neg k0]
    rw [e0]
    have T := take_wait (J := ⟨mo, no, [prt m q fun j => decide (j < k)], []⟩) (k := k) (j := 0) (c := fun j => decide (j < k)) h hk (by simp) (at_some.2 ⟨by simp, rfl, fun j hj => absurd hj (Nat.not_lt_zero _)⟩) rfl (by simp)
    exact T.trans (A _ _ rfl)
theorem tst_ok (mo no : Nat) (hmo : 2 ≤ mo) (hno : 2 ≤ no) (m : Mk) (q : Nat → Bs) (k : Nat) (hk : k < m.2.1) : (tst mo no m q k).mo = mo ∧ (tst mo no m q k).no = no ∧ (∀ x ∈ (tst mo no m q k).S, 1 ≤ x.mi) ∧ (tst mo no m q k).S.length < mo ∧ (tst mo no m q k).D.length < no := by
  unfold tst
  split
  · exact ⟨rfl, rfl, (fun x hx => by cases hx), (by show 0 < mo; omega), (by show 0 < no; omega)⟩
  · refine ⟨rfl, rfl, fun x hx => ?_, (by show 1 < mo; omega), (by show 0 < no; omega)⟩
    rw [List.mem_singleton.1 hx]
    unfold prt; show 1 ≤ miss _ m.2.1; rw [miss_lt]; omega
/-- A body one byte of which is another one. -/
theorem pc_turn (b : Bs) (K : Nat) (v : UInt8) (k : Nat) : pc (b.set K v) k = if k = K / 200 then (pc b k).set (K % 200) v else pc b k := by
  unfold pc
  apply List.ext_getElem?
  intro j
  rw [List.getElem?_take, List.getElem?_drop, List.getElem?_set]
  by_cases hk : k = K / 200
  · rw [if_pos hk, List.getElem?_set, List.getElem?_take, List.getElem?_drop, List.length_take, List.length_drop]
    by_cases hj : j < 200
    · rw [if_pos hj, if_pos hj]
      by_cases e : K = 200 * k + j
      · have e' : K % 200 = j := by omega
        rw [if_pos e, if_pos e']
        by_cases hl : 200 * k + j < b.length
        · rw [if_pos (by omega), if_pos (by omega)]
        · rw [if_neg (by omega), if_neg (by omega)]
      · rw [if_neg e, if_neg (by omega)]
    · rw [if_neg hj, if_neg hj]
      by_cases e : K % 200 = j
      · omega
      · rw [if_neg e]
  · rw [if_neg hk, List.getElem?_take, List.getElem?_drop]
    by_cases hj : j < 200
    · rw [if_pos hj, if_pos hj, if_neg (by omega)]
    · rw [if_neg hj, if_neg hj]
theorem turn_ne (b : Bs) (K : Nat) (hK : K < b.length) : b.set K (b[K] ^^^ 1) ≠ b := fun e => by
  have h1 : (b.set K (b[K] ^^^ 1))[K]? = b[K]? := by rw [e]
  rw [List.getElem?_set_self hK, List.getElem?_eq_getElem hK] at h1
  have h2 := Option.some.inj h1
  have h3 : b[K] ^^^ (b[K] ^^^ 1) = b[K] ^^^ b[K] := by rw [h2]
  rw [← UInt8.xor_assoc, UInt8.xor_self, UInt8.zero_xor] at h3
  exact absurd h3 (by decide)
/-- The parts of the message with its pieces from the other body are all of it. -/
theorem all_turn (i b b' : Bs) (hi : i.length = 8) (hb : b.length ≤ 2048) (hl : b'.length = b.length) : All (mkOf i b) (pc b') :=
  ⟨hi, dg6_len i b, cnt_pos _, fun k hk => by
    have := part_may i b' (by omega) k (by rw [hl]; exact hk)
    obtain ⟨h1, h2, h3⟩ := this
    refine ⟨cnt_le _ hb, hk, ?_⟩
    show (if k + 1 < cnt b.length then (pc b' k).length = 200 else cnt (200 * k + (pc b' k).length) = cnt b.length ∧ _)
    have h3' : (if k + 1 < cnt b'.length then (pc b' k).length = 200 else cnt (200 * k + (pc b' k).length) = cnt b'.length ∧ 200 * k + (pc b' k).length ≤ 2048) := h3
    rw [hl] at h3'
    exact h3'⟩
end Go.Proofs.Pt
