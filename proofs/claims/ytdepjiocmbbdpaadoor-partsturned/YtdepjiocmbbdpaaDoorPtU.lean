/- One message alone: its parts in any order. -/
import Derived.Test.YtdepjiocmbbdpaaDoorPtN
namespace Go.Proofs.Pt
open Go.Proofs.Hs

theorem miss_congr {c d : Nat → Bool} : ∀ n, (∀ k, k < n → c k = d k) → miss c n = miss d n
  | 0, _ => rfl
  | n + 1, h => by unfold miss; rw [miss_congr n fun k hk => h k (by omega), h n (by omega)]
theorem prt_congr {m : Mk} {q : Nat → Bs} {c d : Nat → Bool} (h : ∀ k, k < m.2.1 → c k = d k) : prt m q c = prt m q d := by
  unfold prt
  rw [miss_congr _ h]
  congr 1
  apply List.map_congr_left
  intro k hk
  rw [h k (List.mem_range.1 hk)]
theorem miss_full {c : Nat → Bool} : ∀ n, miss c n = n → ∀ k, k < n → c k = false
  | 0, _, k, hk => absurd hk (Nat.not_lt_zero _)
  | n + 1, h, k, hk => by
    unfold miss at h
    have h1 := miss_le c n
    by_cases hc : c n = true
    · rw [if_pos hc] at h; omega
    · rw [if_neg hc] at h
      by_cases e : k = n
      · subst e; simpa using hc
      · exact miss_full n (by omega) k (by omega)
/-- A joiner that has seen some parts of one message alone. -/
def stt (mo no : Nat) (i b : Bs) (c : Nat → Bool) : Jn :=
  if miss c (cnt b.length) = cnt b.length then ⟨mo, no, [], []⟩
  else if miss c (cnt b.length) = 0 then ⟨mo, no, [], [i]⟩
  else ⟨mo, no, [prt (mkOf i b) (pc b) c], []⟩
theorem stt_none (mo no : Nat) (i b : Bs) : stt mo no i b (fun _ => false) = new mo no := by unfold stt; rw [miss_none, if_pos rfl]; rfl
theorem aft_stt (mo no : Nat) (hno : 1 ≤ no) (i b : Bs) (S : List Ms) (x : Ms) (hS : S = [x]) (c : Nat → Bool) (hc : miss c (cnt b.length) < cnt b.length) :
    (⟨mo, no, [], []⟩ : Jn).aft S 0 (mkOf i b) (pc b) c = ((if miss c (cnt b.length) = 0 then some (i, b) else none), 0, stt mo no i b c) := by
  subst hS
  unfold Jn.aft
  have e : (mkOf i b).2.1 = cnt b.length := rfl
  rw [e]
  by_cases z : 0 < miss c (cnt b.length)
  · rw [if_pos z, if_neg (by omega)]
    unfold stt
    rw [if_neg (by omega), if_neg (by omega)]; rfl
  · have z0 : miss c (cnt b.length) = 0 := by omega
    rw [if_neg z, if_pos z0, fin_told _ _ _ _ _ _ z0]
    unfold stt
    rw [if_neg (by omega), if_pos z0]
    have : push no ([] : List Bs) i = [i] := by unfold push; rw [if_neg (by simp; omega)]; rfl
    rw [this]; rfl
theorem stt_new (mo no : Nat) (hmo : 1 ≤ mo) (hno : 1 ≤ no) (i b : Bs) (hi : i.length = 8) (hb : b.length ≤ 2048) (c : Nat → Bool) (k : Nat) (hk : k < cnt b.length) (hc : c k = false) :
    (stt mo no i b c).take (tx (tpart i b k)) = ((if miss (upd c k) (cnt b.length) = 0 then some (i, b) else none), 0, stt mo no i b (upd c k)) := by
  have A := all_part i b hi hb
  have hu := (miss_upd c k (cnt b.length)).2 hk hc
  have hle := miss_le c (cnt b.length)
  by_cases h0 : miss c (cnt b.length) = cnt b.length
  · have e0 : stt mo no i b c = ⟨mo, no, [], []⟩ := by unfold stt; rw [if_pos h0]
    rw [e0]
    have T := take_first (J := ⟨mo, no, [], []⟩) (k := k) A hk (by simp) rfl
    have ep : push mo ([] : List Ms) (beg (mkOf i b)) = [beg (mkOf i b)] := by unfold push; rw [if_neg (by simp; omega)]; rfl
    simp only [ep, List.length_cons, List.length_nil] at T
    have cf := miss_full _ h0
    have eu : ∀ q, q < cnt b.length → upd (fun _ => false) k q = upd c k q := fun q hq => by unfold upd; rw [cf q hq]
    have T2 := aft_stt mo no hno i b [beg (mkOf i b)] _ rfl (upd c k) (by omega)
    have e3 : (⟨mo, no, [], []⟩ : Jn).aft [beg (mkOf i b)] 0 (mkOf i b) (pc b) (upd (fun _ => false) k) = (⟨mo, no, [], []⟩ : Jn).aft [beg (mkOf i b)] 0 (mkOf i b) (pc b) (upd c k) := by
      unfold Jn.aft
      rw [prt_congr (m := mkOf i b) (q := pc b) eu, show miss (upd (fun _ => false) k) (mkOf i b).2.1 = miss (upd c k) (mkOf i b).2.1 from miss_congr _ eu]
    exact (T.trans e3).trans T2
  · have h1 : ¬ miss c (cnt b.length) = 0 := fun z => by have := miss_zero c _ z k hk; rw [hc] at this; cases this
    have e0 : stt mo no i b c = ⟨mo, no, [prt (mkOf i b) (pc b) c], []⟩ := by unfold stt; rw [if_neg h0, if_neg h1]
    rw [e0]
    have T := take_wait (J := ⟨mo, no, [prt (mkOf i b) (pc b) c], []⟩) (k := k) (j := 0) (c := c) A hk (by simp) (at_some.2 ⟨by simp, rfl, fun j hj => absurd hj (Nat.not_lt_zero _)⟩) rfl hc
    have T2 := aft_stt mo no hno i b [prt (mkOf i b) (pc b) c] _ rfl (upd c k) (by omega)
    exact T.trans T2
theorem stt_old (mo no : Nat) (i b : Bs) (hi : i.length = 8) (hb : b.length ≤ 2048) (c : Nat → Bool) (k : Nat) (hk : k < cnt b.length) (hc : c k = true) :
    (stt mo no i b c).take (tx (tpart i b k)) = (none, 6, stt mo no i b c) := by
  have A := all_part i b hi hb
  have h0 : ¬ miss c (cnt b.length) = cnt b.length := fun z => by have := miss_full _ z k hk; rw [hc] at this; cases this
  by_cases h1 : miss c (cnt b.length) = 0
  · have e0 : stt mo no i b c = ⟨mo, no, [], [i]⟩ := by unfold stt; rw [if_neg h0, if_pos h1]
    rw [e0]
    exact take_told (J := ⟨mo, no, [], [i]⟩) (k := k) A hk (by show i ∈ [i]; simp)
  · have e0 : stt mo no i b c = ⟨mo, no, [prt (mkOf i b) (pc b) c], []⟩ := by unfold stt; rw [if_neg h0, if_neg h1]
    rw [e0]
    have n1 : 1 < cnt b.length := by
      have := miss_le c (cnt b.length)
      omega
    exact take_again (J := ⟨mo, no, [prt (mkOf i b) (pc b) c], []⟩) (k := k) (j := 0) (c := c) A hk (by simp) (at_some.2 ⟨by simp, rfl, fun j hj => absurd hj (Nat.not_lt_zero _)⟩) rfl hc n1
/-- What such a joiner is like. -/
theorem stt_ok (mo no : Nat) (hmo : 2 ≤ mo) (hno : 2 ≤ no) (i b : Bs) (c : Nat → Bool) : (stt mo no i b c).mo = mo ∧ (stt mo no i b c).no = no ∧ (∀ x ∈ (stt mo no i b c).S, 1 ≤ x.mi) ∧ (stt mo no i b c).S.length < mo ∧ (stt mo no i b c).D.length < no := by
  unfold stt
  split
  · exact ⟨rfl, rfl, (fun x hx => by cases hx), (by show 0 < mo; omega), (by show 0 < no; omega)⟩
  · split
    · exact ⟨rfl, rfl, (fun x hx => by cases hx), (by show 0 < mo; omega), (by show 1 < no; omega)⟩
    · refine ⟨rfl, rfl, fun x hx => ?_, (by show 1 < mo; omega), (by show 0 < no; omega)⟩
      rw [List.mem_singleton.1 hx]
      unfold prt; show 1 ≤ miss c (cnt b.length); omega
theorem stt_waits (mo no : Nat) (i b : Bs) (c : Nat → Bool) (h : miss c (cnt b.length) = 0) : (stt mo no i b c).S.length = 0 := by
  unfold stt
  rw [if_neg (by have := cnt_pos b.length; omega), if_pos h]; rfl
end Go.Proofs.Pt
