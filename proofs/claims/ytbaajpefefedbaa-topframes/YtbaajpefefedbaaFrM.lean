/- Frames in a stream, pure: what a reader has, takes and tells. -/
import Derived.WalkKit
namespace Go.Proofs.Fr

/-- A length as four bytes, and back. -/
def be4 (n : Nat) : List UInt8 := [UInt8.ofNat (n / 16777216), UInt8.ofNat (n / 65536), UInt8.ofNat (n / 256), UInt8.ofNat n]
def num4 (h : List UInt8) : Nat := (h.getD 0 0).toNat * 16777216 + (h.getD 1 0).toNat * 65536 + (h.getD 2 0).toNat * 256 + (h.getD 3 0).toNat
theorem be4_len (n : Nat) : (be4 n).length = 4 := rfl
theorem num4_be4 (n : Nat) (t : List UInt8) (h : n < 4294967296) : num4 (be4 n ++ t) = n := by
  show (UInt8.ofNat (n / 16777216)).toNat * 16777216 + (UInt8.ofNat (n / 65536)).toNat * 65536 + (UInt8.ofNat (n / 256)).toNat * 256 + (UInt8.ofNat n).toNat = n
  rw [UInt8.toNat_ofNat', UInt8.toNat_ofNat', UInt8.toNat_ofNat', UInt8.toNat_ofNat']
  omega
/-- A frame; frames one behind the other. -/
def one (s : List UInt8) : List UInt8 := be4 s.length ++ s
def ofl (l : List (List UInt8)) : List UInt8 := l.flatMap one
theorem one_len (s : List UInt8) : (one s).length = 4 + s.length := by unfold one; rw [List.length_append, be4_len]
theorem ofl_nil : ofl [] = [] := rfl
theorem ofl_cons (s : List UInt8) (l : List (List UInt8)) : ofl (s :: l) = one s ++ ofl l := by unfold ofl; rw [List.flatMap_cons]
theorem ofl_app (a b : List (List UInt8)) : ofl (a ++ b) = ofl a ++ ofl b := by unfold ofl; rw [List.flatMap_append]
theorem ofl_len (l : List (List UInt8)) : (ofl l).length = (l.map fun s => 4 + s.length).sum := by
  induction l with
  | nil => rfl
  | cons s r ih => rw [ofl_cons, List.length_append, one_len, ih, List.map_cons, List.sum_cons]
/-- What a reader has: bytes that were not told; broken. -/
structure Rd where
  h : List UInt8
  b : Bool
def bad (h : List UInt8) : Prop := 4 ≤ h.length ∧ 4096 < num4 h
def look (r : Rd) : Rd := if 4 ≤ r.h.length ∧ 4096 < num4 r.h then ⟨[], true⟩ else r
def takeE (r : Rd) (c : List UInt8) : Int := if r.b = true then 100 else if 1048576 - r.h.length < c.length then 2 else 0
def takeR (r : Rd) (c : List UInt8) : Rd := if takeE r c = 0 then look ⟨r.h ++ c, r.b⟩ else r
def has (h : List UInt8) : Prop := 4 ≤ h.length ∧ num4 h ≤ h.length - 4
def nextS (r : Rd) : List UInt8 := (r.h.drop 4).take (num4 r.h)
def nextR (r : Rd) : Rd := look ⟨r.h.drop (4 + num4 r.h), r.b⟩
theorem look_of {r : Rd} (h : ¬ bad r.h) : look r = r := if_neg h
theorem look_bad {r : Rd} (h : bad r.h) : look r = ⟨[], true⟩ := if_pos h
theorem not_bad_nil : ¬ bad [] := fun h => absurd h.1 (by decide)
theorem not_has_nil : ¬ has [] := fun h => absurd h.1 (by decide)
/-- What holds behind any call: nothing bad is there; a broken one has nothing. -/
def Good (r : Rd) : Prop := ¬ bad r.h ∧ (r.b = true → r.h = []) ∧ r.h.length ≤ 1048576
theorem look_good (r : Rd) (h : r.b = true → r.h = []) (hl : r.h.length ≤ 1048576) : Good (look r) := by
  by_cases q : bad r.h
  · rw [look_bad q]; exact ⟨not_bad_nil, fun _ => rfl, Nat.zero_le _⟩
  · rw [look_of q]; exact ⟨q, h, hl⟩
theorem good_new : Good ⟨[], false⟩ := ⟨not_bad_nil, fun h => (by cases h), Nat.zero_le _⟩
theorem take_good (r : Rd) (c : List UInt8) (h : Good r) : Good (takeR r c) := by
  unfold takeR
  by_cases q : takeE r c = 0
  · rw [if_pos q]
    unfold takeE at q
    by_cases qb : r.b = true
    · rw [if_pos qb] at q; cases q
    · rw [if_neg qb] at q
      by_cases ql : 1048576 - r.h.length < c.length
      · rw [if_pos ql] at q; cases q
      · refine look_good _ (fun e => absurd e qb) ?_
        show (r.h ++ c).length ≤ 1048576
        rw [List.length_append]
        have := h.2.2
        omega
  · rw [if_neg q]; exact h
theorem next_good (r : Rd) (h : Good r) : Good (nextR r) := by
  refine look_good _ (fun e => ?_) ?_
  · show r.h.drop (4 + num4 r.h) = []
    rw [h.2.1 e, List.drop_nil]
  · show (r.h.drop (4 + num4 r.h)).length ≤ 1048576
    rw [List.length_drop]
    have := h.2.2
    omega
/-- A broken reader. -/
theorem broken_next (r : Rd) (h : Good r) (hb : r.b = true) : ¬ has r.h := by rw [h.2.1 hb]; exact not_has_nil
theorem broken_take (r : Rd) (c : List UInt8) (hb : r.b = true) : takeE r c = 100 ∧ takeR r c = r := by
  have e : takeE r c = 100 := if_pos hb
  exact ⟨e, if_neg (by rw [e]; decide)⟩
theorem take_ways (r : Rd) (c : List UInt8) : takeE r c = 0 ∨ takeE r c = 2 ∨ takeE r c = 100 ∧ r.b = true := by
  unfold takeE
  by_cases q : r.b = true
  · exact .inr (.inr ⟨if_pos q, q⟩)
  · rw [if_neg q]
    by_cases ql : 1048576 - r.h.length < c.length
    · exact .inr (.inl (if_pos ql))
    · exact .inl (if_neg ql)
/-- Frames that are whole, or not yet. -/
theorem getD_app (a b : List UInt8) (i : Nat) (h : i < a.length) : (a ++ b).getD i 0 = a.getD i 0 := by
  rw [List.getD_eq_getElem?_getD, List.getD_eq_getElem?_getD, List.getElem?_append_left h]
theorem num4_app (a b : List UInt8) (h : 4 ≤ a.length) : num4 (a ++ b) = num4 a := by
  unfold num4
  rw [getD_app a b 0 (by omega), getD_app a b 1 (by omega), getD_app a b 2 (by omega), getD_app a b 3 (by omega)]
theorem num4_one (s t : List UInt8) (h : s.length ≤ 4096) : num4 (one s ++ t) = s.length := by
  unfold one
  rw [List.append_assoc, num4_be4 _ _ (by omega)]
theorem one_not_bad (s t : List UInt8) (h : s.length ≤ 4096) : ¬ bad (one s ++ t) := fun q => by
  have := q.2
  rw [num4_one s t h] at this
  omega
theorem one_has (s t : List UInt8) (h : s.length ≤ 4096) : has (one s ++ t) := by
  refine ⟨by rw [List.length_append, one_len]; omega, ?_⟩
  rw [num4_one s t h, List.length_append, one_len]
  omega
theorem one_next (s t : List UInt8) (b : Bool) (h : s.length ≤ 4096) : nextS ⟨one s ++ t, b⟩ = s ∧ nextR ⟨one s ++ t, b⟩ = look ⟨t, b⟩ := by
  have e4 : (one s ++ t).drop 4 = s ++ t := by unfold one; rw [List.append_assoc]; rfl
  refine ⟨?_, ?_⟩
  · unfold nextS
    show (((one s ++ t).drop 4).take (num4 (one s ++ t))) = s
    rw [num4_one s t h, e4, List.take_left]
  · unfold nextR
    show look ⟨(one s ++ t).drop (4 + num4 (one s ++ t)), b⟩ = _
    rw [num4_one s t h, ← List.drop_drop, e4, List.drop_left]
/-- A beginning of frames is not bad; short of its first frame it tells none. -/
theorem begin_not_bad (p q : List UInt8) (l : List (List UInt8)) (hl : ∀ s ∈ l, s.length ≤ 4096) (h : p ++ q = ofl l) : ¬ bad p := fun hb => by
  cases l with
  | nil =>
    rw [ofl_nil] at h
    have : p = [] := (List.append_eq_nil_iff.1 h).1
    rw [this] at hb
    exact not_bad_nil hb
  | cons s r =>
    rw [ofl_cons] at h
    have e := num4_app p q hb.1
    rw [h, num4_one s _ (hl s (by simp))] at e
    have := hb.2
    have := hl s (by simp)
    omega
theorem begin_short (p q s t : List UInt8) (hs : s.length ≤ 4096) (h : p ++ q = one s ++ t) (hp : p.length < 4 + s.length) : ¬ has p := fun hh => by
  have e := num4_app p q hh.1
  rw [h, num4_one s _ hs] at e
  have := hh.2
  have := hh.1
  omega
/-- A beginning of frames: those that are whole, and what is left. -/
theorem begin_cut (l : List (List UInt8)) (hl : ∀ s ∈ l, s.length ≤ 4096) : ∀ (p q : List UInt8), p ++ q = ofl l → ∃ (k : Nat) (c : List UInt8), k ≤ l.length ∧ p = ofl (l.take k) ++ c ∧ c ++ q = ofl (l.drop k) ∧ ¬ has c := by
  induction l with
  | nil =>
    intro p q h
    rw [ofl_nil] at h
    obtain ⟨rfl, rfl⟩ := List.append_eq_nil_iff.1 h
    exact ⟨0, [], Nat.le_refl _, rfl, rfl, not_has_nil⟩
  | cons s r ih =>
    intro p q h
    rw [ofl_cons] at h
    rcases Nat.lt_or_ge p.length (4 + s.length) with hp | hp
    · exact ⟨0, p, Nat.zero_le _, by simp [ofl_nil], by rw [List.drop_zero, ofl_cons]; exact h, begin_short p q s _ (hl s (by simp)) h hp⟩
    · obtain ⟨p', rfl⟩ : ∃ p', p = one s ++ p' := by
        refine ⟨p.drop (4 + s.length), ?_⟩
        have e := congrArg (List.take (4 + s.length)) h
        rw [List.take_append_of_le_length hp, List.take_append_of_le_length (by rw [one_len]; omega), List.take_of_length_le (l := one s) (by rw [one_len]; omega)] at e
        rw [← e, List.take_append_drop]
      rw [List.append_assoc] at h
      have h' := List.append_cancel_left h
      obtain ⟨k, c, k1, k2, k3, k4⟩ := ih (fun x hx => hl x (by simp [hx])) p' q h'
      refine ⟨k + 1, c, by simp; omega, ?_, by rw [List.drop_succ_cons]; exact k3, k4⟩
      rw [List.take_succ_cons, ofl_cons, List.append_assoc, ← k2]
/-- All frames that are there, told one by one: at most so many. -/
def drain : Nat → Rd → List (List UInt8)
  | 0, _ => []
  | f + 1, r => if 4 ≤ r.h.length ∧ num4 r.h ≤ r.h.length - 4 then nextS r :: drain f (nextR r) else []
def left : Nat → Rd → Rd
  | 0, r => r
  | f + 1, r => if 4 ≤ r.h.length ∧ num4 r.h ≤ r.h.length - 4 then left f (nextR r) else r
theorem drain_stop (f : Nat) (r : Rd) (h : ¬ has r.h) : drain f r = [] ∧ left f r = r := by
  cases f with
  | zero => exact ⟨rfl, rfl⟩
  | succ f => exact ⟨by rw [drain]; exact if_neg h, by rw [left]; exact if_neg h⟩
theorem drain_go (f : Nat) (r : Rd) (h : has r.h) : drain (f + 1) r = nextS r :: drain f (nextR r) ∧ left (f + 1) r = left f (nextR r) :=
  ⟨by rw [drain]; exact if_pos h, by rw [left]; exact if_pos h⟩
theorem drain_all (a : List (List UInt8)) (ha : ∀ s ∈ a, s.length ≤ 4096) (c : List UInt8) (hc : ¬ has c) (hb : ∀ b : List (List UInt8), b <:+ a → ¬ bad (ofl b ++ c)) : ∀ f, a.length ≤ f → drain f ⟨ofl a ++ c, false⟩ = a ∧ left f ⟨ofl a ++ c, false⟩ = ⟨c, false⟩ := by
  induction a with
  | nil => intro f _; exact drain_stop f ⟨c, false⟩ hc
  | cons s r ih =>
    intro f hf
    obtain ⟨f, rfl⟩ : ∃ f', f = f' + 1 := ⟨f - 1, by simp at hf; omega⟩
    have hs := ha s (by simp)
    have e : ofl (s :: r) ++ c = one s ++ (ofl r ++ c) := by rw [ofl_cons, List.append_assoc]
    have hh : has (ofl (s :: r) ++ c) := by rw [e]; exact one_has s _ hs
    obtain ⟨n1, n2⟩ := one_next s (ofl r ++ c) false hs
    obtain ⟨d1, d2⟩ := drain_go f ⟨ofl (s :: r) ++ c, false⟩ hh
    rw [d1, d2, e, n1, n2, look_of (hb r (List.suffix_cons s r))]
    obtain ⟨i1, i2⟩ := ih (fun x hx => ha x (by simp [hx])) (fun b hb' => hb b (hb'.trans (List.suffix_cons s r))) f (by simp at hf; omega)
    exact ⟨by rw [i1], i2⟩
/-- IN WHATEVER CHUNKS: a chunk more of frames that come: what is told, what is left. -/
theorem chunk_step (l : List (List UInt8)) (hl : ∀ s ∈ l, s.length ≤ 4096) (h c q : List UInt8) (e : h ++ c ++ q = ofl l) : ∃ (k : Nat) (h' : List UInt8), k ≤ l.length ∧ h' ++ q = ofl (l.drop k) ∧ ¬ has h'
    ∧ ¬ bad (h ++ c) ∧ ∀ f, l.length ≤ f → drain f ⟨h ++ c, false⟩ = l.take k ∧ left f ⟨h ++ c, false⟩ = ⟨h', false⟩ := by
  obtain ⟨k, c', k1, k2, k3, k4⟩ := begin_cut l hl (h ++ c) q e
  refine ⟨k, c', k1, k3, k4, begin_not_bad _ q l hl e, fun f hf => ?_⟩
  rw [k2]
  refine drain_all (l.take k) (fun s hs => hl s (List.mem_of_mem_take hs)) c' k4 (fun b hb => ?_) f (by rw [List.length_take]; omega)
  obtain ⟨pre, hpre⟩ := hb
  refine begin_not_bad (ofl b ++ c') q (b ++ l.drop k) (fun s hs => ?_) ?_
  · rcases List.mem_append.1 hs with hs | hs
    · exact hl s (List.mem_of_mem_take (hpre ▸ List.mem_append_right pre hs))
    · exact hl s (List.mem_of_mem_drop hs)
  · rw [List.append_assoc, k3, ofl_app]
theorem end_all (l : List (List UInt8)) (hl : ∀ s ∈ l, s.length ≤ 4096) (h : List UInt8) (e : h = ofl l) (hh : ¬ has h) : l = [] := by
  cases l with
  | nil => rfl
  | cons s r =>
    rw [e, ofl_cons] at hh
    exact absurd (one_has s _ (hl s (by simp))) hh
theorem ofl_bound (l : List (List UInt8)) (hl : ∀ s ∈ l, s.length ≤ 4096) : (ofl l).length ≤ l.length * 4100 := by
  induction l with
  | nil => exact Nat.le_refl _
  | cons s r ih =>
    rw [ofl_cons, List.length_append, one_len, List.length_cons]
    have h1 := hl s (by simp)
    have h2 := ih (fun x hx => hl x (by simp [hx]))
    omega
theorem take_ok (h c : List UInt8) (hb : ¬ bad (h ++ c)) (hz : h.length + c.length ≤ 1048576) : takeE ⟨h, false⟩ c = 0 ∧ takeR ⟨h, false⟩ c = ⟨h ++ c, false⟩ := by
  have e : takeE ⟨h, false⟩ c = 0 := by
    unfold takeE
    rw [if_neg (fun q => by cases q), if_neg (by show ¬ 1048576 - h.length < c.length; omega)]
  refine ⟨e, ?_⟩
  unfold takeR
  rw [if_pos e]
  exact look_of hb
/-- Left behind all that is told: no frame is there any more, or none is looked for. -/
theorem left_good (f : Nat) : ∀ r : Rd, Good r → Good (left f r) := by
  induction f with
  | zero => intro r h; exact h
  | succ f ih =>
    intro r h
    by_cases q : has r.h
    · rw [(drain_go f r q).2]; exact ih _ (next_good r h)
    · rw [(drain_stop (f + 1) r q).2]; exact h
theorem left_broken (f : Nat) (r : Rd) (h : Good r) (hb : r.b = true) : left f r = r ∧ drain f r = [] :=
  ⟨(drain_stop f r (broken_next r h hb)).2, (drain_stop f r (broken_next r h hb)).1⟩
end Go.Proofs.Fr
