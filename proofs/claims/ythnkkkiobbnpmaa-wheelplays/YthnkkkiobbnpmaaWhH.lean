/- A timer that is canceled, pure. -/
import Derived.Test.YthnkkkiobbnpmaaWhG
namespace Go.Proofs.Wh

def key (t : Tm) : Nat × Int := (t.a, t.i)
theorem ins_first {t : Tm} : ∀ {m : List Tm}, (∀ y ∈ m, t.a < y.a) → ins t m = t :: m
  | [], _ => rfl
  | y :: m, h => by
    unfold ins
    rw [if_pos (h y (List.mem_cons_self ..))]
theorem ins_cons (t x : Tm) (l : List Tm) : ins t (x :: l) = if t.a < x.a then t :: x :: l else x :: ins t l := rfl
theorem ins_key : ∀ {l m : List Tm} {t u : Tm}, l.map key = m.map key → key t = key u → (ins t l).map key = (ins u m).map key
  | [], [], t, u, _, h => by simp [ins, h]
  | [], _ :: _, _, _, h, _ => by simp at h
  | _ :: _, [], _, _, h, _ => by simp at h
  | x :: l, y :: m, t, u, h, e => by
    simp only [List.map_cons, List.cons.injEq] at h
    have e1 : t.a = u.a := congrArg Prod.fst e
    have e2 : x.a = y.a := congrArg Prod.fst h.1
    unfold ins
    by_cases c : t.a < x.a
    · rw [if_pos c, if_pos (by omega)]
      simp only [List.map_cons, e, h.1, h.2]
    · rw [if_neg c, if_neg (by omega)]
      simp only [List.map_cons, h.1, ins_key h.2 e]
theorem ins_filter (p : Tm → Bool) {t : Tm} : ∀ {l : List Tm}, l.Pairwise lt → (ins t l).filter p = if p t then ins t (l.filter p) else l.filter p
  | [], _ => by
    cases hp : p t <;> simp [ins, hp]
  | x :: l, h => by
    rw [List.pairwise_cons] at h
    have ih := ins_filter p (t := t) h.2
    rw [ins_cons]
    by_cases c : t.a < x.a
    · rw [if_pos c, List.filter_cons]
      cases hp : p t
      · simp
      · simp only [if_true]
        rw [ins_first]
        intro y hy
        rcases List.mem_cons.1 (List.mem_filter.1 hy).1 with rfl | hy'
        · exact c
        · have := h.1 y hy'
          unfold lt at this
          omega
    · rw [if_neg c, List.filter_cons, List.filter_cons]
      cases hx : p x
      · simp only [Bool.false_eq_true, if_false]
        exact ih
      · simp only [if_true]
        rw [ih]
        cases hp : p t
        · simp
        · simp only [if_true]
          rw [ins_cons, if_neg c]
/-- All are put but one. -/
def qk (f : Nat → Nat) (z : Nat) : Nat → St
  | 0 => St.init
  | k + 1 => if k = z then qk f z k else putS (qk f z k) (f k) k
structure Qk (f : Nat → Nat) (z k : Nat) (s : St) : Prop where
  ok : Ok s
  now : s.now = 0
  many : s.many ≤ k
  len : s.l.length ≤ k
  same : s.l.map key = ((pk f k).l.filter fun t => !decide ((t.n : Int) = ((z + 1 : Nat) : Int))).map key
theorem qk_is {f : Nat → Nat} (hf : ∀ i, 1 ≤ f i ∧ f i ≤ maxT) (z : Nat) : ∀ k, k ≤ maxI → Qk f z k (qk f z k)
  | 0, _ => ⟨Ok.init, rfl, Nat.le_refl _, Nat.le_refl _, rfl⟩
  | k + 1, hk => by
    have ih := qk_is hf z k (by omega)
    have PK := pk_is hf k (by omega)
    have hk' : k < 4096 := hk
    have ep : pk f (k + 1) = ⟨(pk f k).now, (pk f k).many + 1, ins ⟨f k, (pk f k).many + 1, k⟩ (pk f k).l⟩ := putS_ok (pk_putE hf (by omega)) _
    have el : (pk f (k + 1)).l = ins ⟨f k, k + 1, k⟩ (pk f k).l := by rw [ep, PK.many]
    unfold qk
    by_cases e : k = z
    · rw [if_pos e]
      refine ⟨ih.ok, ih.now, Nat.le_succ_of_le ih.many, Nat.le_succ_of_le ih.len, ?_⟩
      rw [el, ins_filter _ PK.ok.sorted, if_neg (by simp; omega)]
      exact ih.same
    · rw [if_neg e]
      have e0 : putE (qk f z k) (f k) = 0 := putE_ok (by rw [ih.now]; exact (hf k).1) (hf k).2 (by have := ih.len; unfold maxI; omega)
      have okp := ih.ok.put (f k) (k : Int) ⟨by omega, by omega⟩
      rw [putS_ok e0] at okp ⊢
      refine ⟨okp, ih.now, Nat.succ_le_succ ih.many, by show (ins _ _).length ≤ _; rw [ins_length]; have := ih.len; omega, ?_⟩
      rw [el, ins_filter _ PK.ok.sorted, if_pos (by simp; omega)]
      exact ins_key ih.same rfl
theorem qk_putE {f : Nat → Nat} (hf : ∀ i, 1 ≤ f i ∧ f i ≤ maxT) (z : Nat) {k : Nat} (hk : k < maxI) : putE (qk f z k) (f k) = 0 := by
  have ih := qk_is hf z k (by omega)
  exact putE_ok (by rw [ih.now]; exact (hf k).1) (hf k).2 (by have := ih.len; omega)
theorem pk_putV {f : Nat → Nat} (hf : ∀ i, 1 ≤ f i ∧ f i ≤ maxT) {k : Nat} (hk : k < maxI) : putV (pk f k) (f k) = ((k + 1 : Nat) : Int) := by
  unfold putV
  rw [if_pos (pk_putE hf hk), (pk_is hf k (by omega)).many]
  rfl
theorem can_twice (s : St) (n : Int) : canE (canS s n) n = 5 ∧ canS (canS s n) n = canS s n := by
  have h : has (canS s n) n = false := by
    unfold has
    rw [List.any_eq_false]
    intro t ht
    simpa using (List.mem_filter.1 ht).2
  refine ⟨?_, ?_⟩
  · unfold canE
    rw [h]
    rfl
  · unfold canS
    simp only [List.filter_filter, Bool.and_self]
theorem pk_can {f : Nat → Nat} (hf : ∀ i, 1 ≤ f i ∧ f i ≤ maxT) {k z : Nat} (hk : k ≤ maxI) (hz : z < k) : canE (pk f k) ((z + 1 : Nat) : Int) = 0 := by
  have PK := pk_is hf k hk
  unfold canE
  rw [if_pos]
  unfold has
  rw [List.any_eq_true]
  exact ⟨_, PK.all z hz, by simp⟩
end Go.Proofs.Wh
