/- Timers, pure: which stand where in a wheel of slots; a list of them as they stand. -/
namespace Go.Proofs.Wh

/-- The level of a deadline: of the highest digit (of six bits) in which it is not as the time. -/
def lv (n a : Nat) : Nat := (n ^^^ a).log2 / 6
def pl (n a : Nat) : Nat := 64 * lv n a + a / 2 ^ (6 * lv n a) % 64

theorem xor_zero {a b : Nat} (h : a ^^^ b = 0) : a = b := by
  apply Nat.eq_of_testBit_eq
  intro i
  have := congrArg (fun x => x.testBit i) h
  simp only [Nat.testBit_xor, Nat.zero_testBit] at this
  cases ha : a.testBit i <;> cases hb : b.testBit i <;> simp_all

theorem xor_div (a b k : Nat) : (a ^^^ b) / 2 ^ k = a / 2 ^ k ^^^ b / 2 ^ k := by
  simp only [← Nat.shiftRight_eq_div_pow]
  exact Nat.shiftRight_xor_distrib

/-- Above its level a deadline is as the time. -/
theorem lv_hi (n a : Nat) : a / 2 ^ (6 * (lv n a + 1)) = n / 2 ^ (6 * (lv n a + 1)) := by
  symm
  apply xor_zero
  rw [← xor_div]
  apply Nat.div_eq_of_lt
  refine Nat.lt_of_lt_of_le Nat.lt_log2_self (Nat.pow_le_pow_right (by decide) ?_)
  have := Nat.lt_div_mul_add (a := (n ^^^ a).log2) (b := 6) (by decide)
  unfold lv
  omega
/-- On its level it is not, unless that is the lowest. -/
theorem lv_lo (n a : Nat) : lv n a = 0 ∨ a / 2 ^ (6 * lv n a) ≠ n / 2 ^ (6 * lv n a) := by
  by_cases h : lv n a = 0
  · exact .inl h
  · right
    intro e
    have hx : n ^^^ a ≠ 0 := by
      intro e0
      apply h
      unfold lv
      rw [e0]
      rfl
    have h1 : (n ^^^ a) / 2 ^ (6 * lv n a) = 0 := by
      rw [xor_div, e]
      simp
    have h2 : 2 ^ (n ^^^ a).log2 ≤ n ^^^ a := Nat.log2_self_le hx
    have h3 : 2 ^ (6 * lv n a) ≤ 2 ^ (n ^^^ a).log2 := Nat.pow_le_pow_right (by decide) (by unfold lv; omega)
    have h4 := Nat.div_pos (Nat.le_trans h3 h2) (Nat.two_pow_pos _)
    omega
theorem div_up {a n l m : Nat} (h : a / 2 ^ (6 * l) = n / 2 ^ (6 * l)) (hm : l ≤ m) : a / 2 ^ (6 * m) = n / 2 ^ (6 * m) := by
  obtain ⟨d, rfl⟩ := Nat.le.dest hm
  rw [show 6 * (l + d) = 6 * l + 6 * d by omega, Nat.pow_add, ← Nat.div_div_eq_div_mul, ← Nat.div_div_eq_div_mul, h]
theorem lv_eq {n a l : Nat} (h1 : a / 2 ^ (6 * (l + 1)) = n / 2 ^ (6 * (l + 1))) (h2 : l = 0 ∨ a / 2 ^ (6 * l) ≠ n / 2 ^ (6 * l)) : lv n a = l := by
  rcases Nat.lt_trichotomy (lv n a) l with h | h | h
  · rcases h2 with h2 | h2
    · omega
    · exact absurd (div_up (lv_hi n a) (show lv n a + 1 ≤ l by omega)) h2
  · exact h
  · rcases lv_lo n a with h3 | h3
    · omega
    · exact absurd (div_up h1 (show l + 1 ≤ lv n a by omega)) h3
theorem dig (a l : Nat) : a / 2 ^ (6 * l) = 64 * (a / 2 ^ (6 * (l + 1))) + a / 2 ^ (6 * l) % 64 := by
  rw [show 6 * (l + 1) = 6 * l + 6 by omega, Nat.pow_add, ← Nat.div_div_eq_div_mul]
  have := Nat.div_add_mod (a / 2 ^ (6 * l)) 64
  omega
theorem lt_of_div {a b k : Nat} (h : a / k < b / k) : a < b := by
  rcases Nat.lt_or_ge a b with h1 | h1
  · exact h1
  · have := Nat.div_le_div_right (c := k) h1
    omega
/-- Of two deadlines that are not over the one with the lower place is the earlier one. -/
theorem pl_lt {n a b : Nat} (hb : n ≤ b) (h : pl n a < pl n b) : a < b := by
  have da : a / 2 ^ (6 * lv n a) % 64 < 64 := Nat.mod_lt _ (by decide)
  have db : b / 2 ^ (6 * lv n b) % 64 < 64 := Nat.mod_lt _ (by decide)
  unfold pl at h
  rcases Nat.lt_trichotomy (lv n a) (lv n b) with hl | hl | hl
  · have e := div_up (lv_hi n a) (show lv n a + 1 ≤ lv n b by omega)
    rcases lv_lo n b with h0 | h0
    · omega
    · have := Nat.div_le_div_right (c := 2 ^ (6 * lv n b)) hb
      exact lt_of_div (k := 2 ^ (6 * lv n b)) (by omega)
  · have ea := dig a (lv n a)
    have eb := dig b (lv n b)
    have ha := lv_hi n a
    have hb' := lv_hi n b
    rw [hl] at ea ha h
    exact lt_of_div (k := 2 ^ (6 * lv n b)) (by omega)
  · omega
theorem pl_mono {n a b : Nat} (ha : n ≤ a) (h : a ≤ b) : pl n a ≤ pl n b := by
  rcases Nat.lt_or_ge (pl n b) (pl n a) with h1 | h1
  · have := pl_lt ha h1
    omega
  · exact h1
/-- A deadline whose place the time does not reach keeps it. -/
theorem pl_keep {n t a : Nat} (h : pl n t < pl n a) : pl t a = pl n a := by
  have da : a / 2 ^ (6 * lv n a) % 64 < 64 := Nat.mod_lt _ (by decide)
  have dt : t / 2 ^ (6 * lv n t) % 64 < 64 := Nat.mod_lt _ (by decide)
  have key : lv t a = lv n a := by
    have h' := h
    unfold pl at h'
    rcases Nat.lt_trichotomy (lv n t) (lv n a) with hl | hl | hl
    · have e := div_up (lv_hi n t) (show lv n t + 1 ≤ lv n a by omega)
      have e1 := div_up (lv_hi n t) (show lv n t + 1 ≤ lv n a + 1 by omega)
      refine lv_eq ((lv_hi n a).trans e1.symm) ?_
      rcases lv_lo n a with h0 | h0
      · exact .inl h0
      · exact .inr (by rw [e]; exact h0)
    · have e1 := lv_hi n t
      rw [hl] at e1 h'
      refine lv_eq ((lv_hi n a).trans e1.symm) (.inr ?_)
      intro e
      rw [e] at h'
      omega
    · omega
  unfold pl
  rw [key]
theorem lv_small {n a : Nat} (hn : n ≤ 1099511627776) (ha : a ≤ 1099511627776) : lv n a ≤ 6 := by
  unfold lv
  have h : (n ^^^ a).log2 < 41 := by
    by_cases h0 : n ^^^ a = 0
    · rw [h0]
      decide
    · exact (Nat.log2_lt h0).2 (Nat.xor_lt_two_pow (by omega) (by omega))
  omega
theorem pl_small {n a : Nat} (hn : n ≤ 1099511627776) (ha : a ≤ 1099511627776) : pl n a < 448 := by
  have := lv_small hn ha
  have : a / 2 ^ (6 * lv n a) % 64 < 64 := Nat.mod_lt _ (by decide)
  unfold pl
  omega
theorem pl_div (n a : Nat) : pl n a / 64 = lv n a := by
  have : a / 2 ^ (6 * lv n a) % 64 < 64 := Nat.mod_lt _ (by decide)
  unfold pl
  omega
theorem pl_mod (n a : Nat) : pl n a % 64 = a / 2 ^ (6 * lv n a) % 64 := by
  have : a / 2 ^ (6 * lv n a) % 64 < 64 := Nat.mod_lt _ (by decide)
  unfold pl
  omega

/-- A timer: its deadline, its number, its id. -/
structure Tm where
  a : Nat
  n : Nat
  i : Int
/-- How timers stand. -/
def lt (x y : Tm) : Prop := x.a < y.a ∨ x.a = y.a ∧ x.n < y.n
/-- A wheel: its time, how many were put, its timers as they stand. -/
structure St where
  now : Nat
  many : Nat
  l : List Tm
def maxT : Nat := 1099511627776
def maxI : Nat := 4096
structure Ok (s : St) : Prop where
  now : s.now ≤ maxT
  sorted : s.l.Pairwise lt
  above : ∀ t ∈ s.l, s.now < t.a ∧ t.a ≤ maxT
  num : ∀ t ∈ s.l, 1 ≤ t.n ∧ t.n ≤ s.many
  apart : s.l.Pairwise fun x y => x.n ≠ y.n
  long : s.l.length ≤ maxI
  wf : ∀ t ∈ s.l, -9223372036854775808 ≤ t.i ∧ t.i < 9223372036854775808
/-- Put in behind all whose deadlines are not above. -/
def ins (t : Tm) : List Tm → List Tm
  | [] => [t]
  | x :: l => if t.a < x.a then t :: x :: l else x :: ins t l
def St.init : St := ⟨0, 0, []⟩
def putE (s : St) (at_ : Int) : Int := if at_ ≤ s.now then 140 else if (maxT : Int) < at_ then 1 else if maxI ≤ s.l.length then 2 else 0
def putV (s : St) (at_ : Int) : Int := if putE s at_ = 0 then s.many + 1 else 0
def putS (s : St) (at_ id : Int) : St := if putE s at_ = 0 then ⟨s.now, s.many + 1, ins ⟨at_.toNat, s.many + 1, id⟩ s.l⟩ else s
def has (s : St) (n : Int) : Bool := s.l.any fun t => decide ((t.n : Int) = n)
def canE (s : St) (n : Int) : Int := if has s n then 0 else 5
def canS (s : St) (n : Int) : St := ⟨s.now, s.many, s.l.filter fun t => !decide ((t.n : Int) = n)⟩
def advE (s : St) (to : Int) : Int := if to < s.now then 140 else if (maxT : Int) < to then 1 else 0
def due (to : Int) (l : List Tm) : List Tm := l.filter fun t => decide ((t.a : Int) ≤ to)
def rest (to : Int) (l : List Tm) : List Tm := l.filter fun t => !decide ((t.a : Int) ≤ to)
def advV (s : St) (to : Int) : List Int := if advE s to = 0 then (due to s.l).map Tm.i else []
def advS (s : St) (to : Int) : St := if advE s to = 0 then ⟨to.toNat, s.many, rest to s.l⟩ else s
def nextV (s : St) : Int := match s.l with | [] => 0 | t :: _ => t.a
def nextB (s : St) : Bool := match s.l with | [] => false | _ :: _ => true

theorem lt_irrefl (x : Tm) : ¬ lt x x := by
  unfold lt
  omega
theorem lt_trans {x y z : Tm} (h : lt x y) (k : lt y z) : lt x z := by
  unfold lt at *
  omega
theorem ins_perm (t : Tm) : ∀ l, (ins t l).Perm (t :: l)
  | [] => List.Perm.refl _
  | x :: l => by
    unfold ins
    split
    · exact List.Perm.refl _
    · exact ((ins_perm t l).cons x).trans (List.Perm.swap t x l)
theorem ins_length (t : Tm) (l : List Tm) : (ins t l).length = l.length + 1 := (ins_perm t l).length_eq
theorem ins_mem {t x : Tm} {l : List Tm} : x ∈ ins t l ↔ x = t ∨ x ∈ l := by
  rw [(ins_perm t l).mem_iff, List.mem_cons]
theorem ins_sorted {t : Tm} : ∀ {l : List Tm}, l.Pairwise lt → (∀ x ∈ l, x.n < t.n) → (ins t l).Pairwise lt
  | [], _, _ => List.pairwise_singleton _ _
  | x :: l, h, hn => by
    rw [List.pairwise_cons] at h
    unfold ins
    split
    · rename_i hlt
      rw [List.pairwise_cons, List.pairwise_cons]
      refine ⟨fun y hy => ?_, h.1, h.2⟩
      rcases List.mem_cons.1 hy with rfl | hy
      · exact .inl hlt
      · have := h.1 y hy
        unfold lt at this ⊢
        omega
    · rename_i hge
      rw [List.pairwise_cons]
      refine ⟨fun y hy => ?_, ins_sorted h.2 (fun z hz => hn z (List.mem_cons_of_mem _ hz))⟩
      rcases ins_mem.1 hy with rfl | hy
      · have := hn x (List.mem_cons_self ..)
        unfold lt
        omega
      · exact h.1 y hy
theorem Ok.init : Ok St.init := ⟨by decide, List.Pairwise.nil, nofun, nofun, List.Pairwise.nil, by decide, nofun⟩
theorem Ok.put {s : St} (h : Ok s) (at_ id : Int) (hw : -9223372036854775808 ≤ id ∧ id < 9223372036854775808) : Ok (putS s at_ id) := by
  unfold putS
  split
  · rename_i h0
    have h1 : ¬ at_ ≤ s.now := fun c => by simp [putE, c] at h0
    have h2 : ¬ (maxT : Int) < at_ := fun c => by simp [putE, h1, c] at h0
    have h3 : ¬ maxI ≤ s.l.length := fun c => by simp [putE, h1, h2, c] at h0
    have hn : ∀ x ∈ s.l, x.n < s.many + 1 := fun x hx => by have := (h.num x hx).2; omega
    refine ⟨h.now, ins_sorted h.sorted hn, fun t ht => ?_, fun t ht => ?_, ?_, ?_, fun t ht => ?_⟩
    · rcases ins_mem.1 ht with rfl | ht
      · simp only
        omega
      · exact h.above t ht
    · rcases ins_mem.1 ht with rfl | ht
      · simp only
        omega
      · have := h.num t ht
        simp only
        omega
    · refine (ins_perm _ _).symm.pairwise ?_ (fun hxy => Ne.symm hxy)
      rw [List.pairwise_cons]
      exact ⟨fun x hx => by have := hn x hx; simp only; omega, h.apart⟩
    · show (ins _ _).length ≤ _
      rw [ins_length]
      omega
    · rcases ins_mem.1 ht with rfl | ht
      · exact hw
      · exact h.wf t ht
  · exact h
theorem Ok.sub {s : St} (h : Ok s) (p : Tm → Bool) : Ok ⟨s.now, s.many, s.l.filter p⟩ :=
  ⟨h.now, h.sorted.filter _, fun t ht => h.above t (List.mem_filter.1 ht).1, fun t ht => h.num t (List.mem_filter.1 ht).1, h.apart.filter _, Nat.le_trans (List.length_filter_le ..) h.long, fun t ht => h.wf t (List.mem_filter.1 ht).1⟩
theorem Ok.can {s : St} (h : Ok s) (n : Int) : Ok (canS s n) := h.sub _
theorem advE_zero {s : St} {to : Int} (h : advE s to = 0) : (s.now : Int) ≤ to ∧ to ≤ maxT := by
  unfold advE at h
  split at h
  · omega
  · split at h <;> omega
theorem Ok.adv {s : St} (h : Ok s) (to : Int) : Ok (advS s to) := by
  unfold advS
  split
  · rename_i h0
    obtain ⟨h1, h2⟩ := advE_zero h0
    have k := h.sub fun t => !decide ((t.a : Int) ≤ to)
    refine ⟨by simp only; omega, k.sorted, fun t ht => ?_, k.num, k.apart, k.long, k.wf⟩
    have := (k.above t ht).2
    have h3 := (List.mem_filter.1 ht).2
    simp at h3
    simp only
    omega
  · exact h
end Go.Proofs.Wh
