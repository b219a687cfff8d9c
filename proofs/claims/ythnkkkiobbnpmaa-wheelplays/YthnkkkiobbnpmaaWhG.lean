/- What the statements of wheels lean on, pure. -/
import Derived.Test.YthnkkkiobbnpmaaWhN
namespace Go.Proofs.Wh

/-- A deadline that is made of a number: from 1 to m. -/
def ud (m : Nat) (x : Int) : Nat := (x % 18446744073709551616).toNat % m + 1
theorem ud_le (m : Nat) (hm : 0 < m) (x : Int) : 1 ≤ ud m x ∧ ud m x ≤ m := by
  unfold ud
  have := Nat.mod_lt (x % 18446744073709551616).toNat hm
  omega
/-- So many timers are put, one after the other, each with its place as id. -/
def pk (f : Nat → Nat) : Nat → St
  | 0 => St.init
  | k + 1 => putS (pk f k) (f k) k
structure Pk (f : Nat → Nat) (k : Nat) (s : St) : Prop where
  ok : Ok s
  now : s.now = 0
  many : s.many = k
  len : s.l.length = k
  mem : ∀ t ∈ s.l, ∃ i, i < k ∧ t = ⟨f i, i + 1, i⟩
  all : ∀ i, i < k → ⟨f i, i + 1, i⟩ ∈ s.l
theorem putE_ok {s : St} {a : Nat} (h1 : s.now < a) (h2 : a ≤ maxT) (h3 : s.l.length < maxI) : putE s a = 0 := by
  unfold putE
  rw [if_neg (by omega), if_neg (by omega), if_neg (by omega)]
theorem putE_long {s : St} {a : Nat} (h1 : s.now < a) (h2 : a ≤ maxT) (h3 : maxI ≤ s.l.length) : putE s a = 2 := by
  unfold putE
  rw [if_neg (by omega), if_neg (by omega), if_pos h3]
theorem putS_ok {s : St} {a : Nat} (h : putE s a = 0) (id : Int) : putS s a id = ⟨s.now, s.many + 1, ins ⟨a, s.many + 1, id⟩ s.l⟩ := by
  unfold putS
  rw [if_pos h, Int.toNat_natCast]
theorem pk_is {f : Nat → Nat} (hf : ∀ i, 1 ≤ f i ∧ f i ≤ maxT) : ∀ k, k ≤ maxI → Pk f k (pk f k)
  | 0, _ => ⟨Ok.init, rfl, rfl, rfl, nofun, fun i hi => absurd hi (Nat.not_lt_zero _)⟩
  | k + 1, hk => by
    have ih := pk_is hf k (by omega)
    have e0 : putE (pk f k) (f k) = 0 := putE_ok (by rw [ih.now]; exact (hf k).1) (hf k).2 (by rw [ih.len]; omega)
    have e1 := putS_ok e0 (k : Int)
    have hk' : k < 4096 := hk
    have okp := ih.ok.put (f k) (k : Int) ⟨by omega, by omega⟩
    show Pk f (k + 1) (putS (pk f k) (f k) k)
    rw [e1] at okp ⊢
    refine ⟨okp, ih.now, by show (pk f k).many + 1 = _; rw [ih.many], by show (ins _ _).length = _; rw [ins_length, ih.len], fun t ht => ?_, fun i hi => ?_⟩
    · rcases ins_mem.1 ht with rfl | ht
      · exact ⟨k, by omega, by rw [ih.many]⟩
      · obtain ⟨i, hi, e⟩ := ih.mem t ht
        exact ⟨i, by omega, e⟩
    · refine ins_mem.2 ?_
      by_cases e : i = k
      · subst e
        exact .inl (by rw [ih.many])
      · exact .inr (ih.all i (by omega))
theorem pk_putE {f : Nat → Nat} (hf : ∀ i, 1 ≤ f i ∧ f i ≤ maxT) {k : Nat} (hk : k < maxI) : putE (pk f k) (f k) = 0 := by
  have ih := pk_is hf k (by omega)
  exact putE_ok (by rw [ih.now]; exact (hf k).1) (hf k).2 (by rw [ih.len]; exact hk)
theorem advE_ok {s : St} {n : Nat} (h1 : s.now ≤ n) (h2 : n ≤ maxT) : advE s n = 0 := by
  unfold advE
  rw [if_neg (by omega), if_neg (by omega)]
theorem advS_ok {s : St} {n : Nat} (h1 : s.now ≤ n) (h2 : n ≤ maxT) : advS s n = ⟨n, s.many, rest n s.l⟩ := by
  unfold advS
  rw [if_pos (advE_ok h1 h2), Int.toNat_natCast]
theorem advV_ok {s : St} {n : Nat} (h1 : s.now ≤ n) (h2 : n ≤ maxT) : advV s n = (due n s.l).map Tm.i := by
  unfold advV
  rw [if_pos (advE_ok h1 h2)]
theorem due_len (n : Int) (l : List Tm) : (due n l).length + (rest n l).length = l.length := by
  have := (List.filter_append_perm (fun t : Tm => decide ((t.a : Int) ≤ n)) l).length_eq
  rw [List.length_append] at this
  exact this
theorem due_none {n : Nat} {l : List Tm} (h : ∀ t ∈ l, n < t.a) : due n l = [] ∧ rest n l = l := by
  unfold due rest
  refine ⟨List.filter_eq_nil_iff.2 (fun t ht => ?_), List.filter_eq_self.2 (fun t ht => ?_)⟩
  · have := h t ht
    simp
    omega
  · have := h t ht
    simp
    omega
theorem due_full {n : Nat} {l : List Tm} (h : ∀ t ∈ l, t.a ≤ n) : due n l = l ∧ rest n l = [] := by
  unfold due rest
  refine ⟨List.filter_eq_self.2 (fun t ht => ?_), List.filter_eq_nil_iff.2 (fun t ht => ?_)⟩
  · have := h t ht
    simp
    omega
  · have := h t ht
    simp
    omega
theorem head_le {s : St} (h : Ok s) {t : Tm} {l : List Tm} (e : s.l = t :: l) : ∀ x ∈ s.l, t.a ≤ x.a := by
  intro x hx
  have hs := h.sorted
  rw [e] at hx hs
  rw [List.pairwise_cons] at hs
  rcases List.mem_cons.1 hx with rfl | hx
  · exact Nat.le_refl _
  · have := hs.1 x hx
    unfold lt at this
    omega
/-- The time goes on to just ahead of the first deadline, and then to it. -/
theorem next_two {s : St} (h : Ok s) {t : Tm} {l : List Tm} (e : s.l = t :: l) :
    advE s ((t.a : Int) - 1) = 0 ∧ advV s ((t.a : Int) - 1) = [] ∧ (advS s ((t.a : Int) - 1)).many = s.many ∧ (advS s ((t.a : Int) - 1)).l = s.l ∧ advE (advS s ((t.a : Int) - 1)) (t.a : Int) = 0
      ∧ (advV (advS s ((t.a : Int) - 1)) (t.a : Int)).length + (advS (advS s ((t.a : Int) - 1)) (t.a : Int)).l.length = s.l.length ∧ 1 ≤ (advV (advS s ((t.a : Int) - 1)) (t.a : Int)).length ∧ (advS (advS s ((t.a : Int) - 1)) (t.a : Int)).many = s.many := by
  have hab := h.above t (by rw [e]; exact List.mem_cons_self ..)
  obtain ⟨b, hb⟩ : ∃ b, t.a = b + 1 := ⟨t.a - 1, by omega⟩
  have e1 : (t.a : Int) - 1 = (b : Int) := by omega
  rw [e1]
  have n1 : s.now ≤ b := by omega
  have n2 : b ≤ maxT := by have := hab.2; omega
  have hd := due_none (n := b) (l := s.l) (fun x hx => by have := head_le h e x hx; omega)
  have s1 := advS_ok n1 n2
  rw [hd.2] at s1
  have v1 := advV_ok n1 n2
  rw [hd.1] at v1
  rw [s1]
  have m1 : (⟨b, s.many, s.l⟩ : St).now ≤ t.a := by show b ≤ t.a; omega
  refine ⟨advE_ok n1 n2, v1, rfl, rfl, advE_ok m1 hab.2, ?_, ?_, ?_⟩
  · rw [advV_ok m1 hab.2, advS_ok m1 hab.2, List.length_map]
    exact due_len _ _
  · rw [advV_ok m1 hab.2, List.length_map]
    show 1 ≤ (due _ s.l).length
    rw [e]
    unfold due
    rw [List.filter_cons_of_pos (by simp), List.length_cons]
    omega
  · rw [advS_ok m1 hab.2]
theorem next_of {s : St} {t : Tm} {l : List Tm} (e : s.l = t :: l) : nextV s = (t.a : Int) ∧ nextB s = true := by
  unfold nextV nextB
  rw [e]
  exact ⟨rfl, rfl⟩
theorem next_nil {s : St} (e : s.l = []) : nextV s = 0 ∧ nextB s = false := by
  unfold nextV nextB
  rw [e]
  exact ⟨rfl, rfl⟩
/-- Told in two steps is told at once. -/
theorem due_step {c n : Nat} (hc : c ≤ n) : ∀ {l : List Tm}, l.Pairwise lt → due n l = due c l ++ due n (rest c l)
  | [], _ => rfl
  | x :: l, h => by
    rw [List.pairwise_cons] at h
    have ih := due_step hc h.2
    by_cases h1 : x.a ≤ c
    · have h2 : x.a ≤ n := by omega
      unfold due rest at ih ⊢
      rw [List.filter_cons_of_pos (by simpa using by omega), List.filter_cons_of_pos (by simpa using by omega), List.filter_cons_of_neg (by simpa using by omega), ih, List.cons_append]
    · have hd := due_none (n := c) (l := x :: l) (fun y hy => by
        rcases List.mem_cons.1 hy with rfl | hy
        · omega
        · have := h.1 y hy
          unfold lt at this
          omega)
      rw [hd.1, hd.2, List.nil_append]
theorem rest_step {c n : Nat} (hc : c ≤ n) (l : List Tm) : rest n (rest c l) = rest n l := by
  unfold rest
  rw [List.filter_filter]
  refine List.filter_congr fun x _ => ?_
  by_cases h : (x.a : Int) ≤ n
  · simp [h]
  · have : ¬ (x.a : Int) ≤ c := by omega
    simp [h, this]
end Go.Proofs.Wh
