/- Timers in slots, pure: what each call does to the slots, and that it is what it does to the list. -/
import Derived.Test.YthnkkkiobbnpmaaWhM
namespace Go.Proofs.Wh

/-- The timers of a wheel in its slots, in whatever order. -/
def Sl (s : St) (sl : Nat → List Tm) : Prop := ∀ k, k < 448 → (sl k).Perm (s.l.filter fun t => decide (pl s.now t.a = k))
def upd (sl : Nat → List Tm) (k : Nat) (v : List Tm) : Nat → List Tm := fun j => if j = k then v else sl j
theorem upd_same (sl : Nat → List Tm) (k : Nat) (v : List Tm) : upd sl k v k = v := by simp [upd]
theorem upd_other (sl : Nat → List Tm) {k j : Nat} (v : List Tm) (h : j ≠ k) : upd sl k v j = sl j := by simp [upd, h]

theorem Sl.init : Sl St.init (fun _ => []) := fun _ _ => List.Perm.refl _
theorem Sl.mem {s : St} {sl : Nat → List Tm} (h : Sl s sl) {k : Nat} (hk : k < 448) {t : Tm} : t ∈ sl k ↔ t ∈ s.l ∧ pl s.now t.a = k := by
  rw [(h k hk).mem_iff, List.mem_filter]
  simp
theorem Sl.length {s : St} {sl : Nat → List Tm} (h : Sl s sl) {k : Nat} (hk : k < 448) : (sl k).length ≤ s.l.length := by
  rw [(h k hk).length_eq]
  exact List.length_filter_le ..
theorem apart_eq {l : List Tm} (h : l.Pairwise fun x y => x.n ≠ y.n) : ∀ {x y : Tm}, x ∈ l → y ∈ l → x.n = y.n → x = y := by
  induction l with
  | nil => intro x y hx; cases hx
  | cons z l ih =>
    intro x y hx hy e
    rw [List.pairwise_cons] at h
    rcases List.mem_cons.1 hx with hx1 | hx1 <;> rcases List.mem_cons.1 hy with hy1 | hy1
    · rw [hx1, hy1]
    · subst hx1
      exact absurd e (h.1 y hy1)
    · subst hy1
      exact absurd e.symm (h.1 x hx1)
    · exact ih h.2 hx1 hy1 e
theorem Sl.put {s : St} {sl : Nat → List Tm} (h : Sl s sl) (t : Tm) : Sl ⟨s.now, s.many + 1, ins t s.l⟩ (upd sl (pl s.now t.a) (sl (pl s.now t.a) ++ [t])) := fun k hk => by
  show List.Perm _ ((ins t s.l).filter _)
  refine List.Perm.trans ?_ ((ins_perm t s.l).filter _).symm
  by_cases e : k = pl s.now t.a
  · subst e
    rw [upd_same, List.filter_cons_of_pos (by simp)]
    exact (List.perm_append_singleton t _).trans ((h _ hk).cons t)
  · rw [upd_other _ _ e, List.filter_cons_of_neg (by simpa using fun c => e c.symm)]
    exact h k hk
theorem Sl.can {s : St} {sl : Nat → List Tm} (h : Sl s sl) (ho : Ok s) {t : Tm} (ht : t ∈ s.l) : Sl (canS s t.n) (upd sl (pl s.now t.a) ((sl (pl s.now t.a)).filter fun x => !decide ((x.n : Int) = t.n))) := fun k hk => by
  show List.Perm _ ((s.l.filter _).filter fun x => decide (pl s.now x.a = k))
  rw [List.filter_filter]
  by_cases e : k = pl s.now t.a
  · subst e
    rw [upd_same]
    refine ((h _ hk).filter _).trans ?_
    rw [List.filter_filter]
    exact List.Perm.of_eq (List.filter_congr fun x _ => Bool.and_comm _ _)
  · rw [upd_other _ _ e]
    refine (h k hk).trans (List.Perm.of_eq (List.filter_congr fun x hx => ?_))
    by_cases q : pl s.now x.a = k
    · have hn : x.n ≠ t.n := fun c => e (by rw [← apart_eq ho.apart hx ht c, q])
      simp [q]
      omega
    · simp [q]
/-- The first slot that has any has the first timer. -/
theorem Sl.first {s : St} {sl : Nat → List Tm} (h : Sl s sl) (ho : Ok s) {k : Nat} (hk : k < 448) (h0 : ∀ j, j < k → sl j = []) {m : Tm} (hm : m ∈ sl k) (hmin : ∀ t ∈ sl k, ¬ lt t m) : ∃ l, s.l = m :: l := by
  obtain ⟨m1, m2⟩ := (h.mem hk).1 hm
  cases e : s.l with
  | nil => rw [e] at m1; cases m1
  | cons x l =>
    have hx : x ∈ s.l := by rw [e]; exact List.mem_cons_self ..
    rw [e] at m1
    rcases List.mem_cons.1 m1 with rfl | m1
    · exact ⟨l, rfl⟩
    · have hs := ho.sorted
      rw [e, List.pairwise_cons] at hs
      have hxm := hs.1 m m1
      have ha := ho.above x hx
      have hle : x.a ≤ m.a := by unfold lt at hxm; omega
      have hp := pl_mono (Nat.le_of_lt ha.1) hle
      rw [m2] at hp
      have hkx : pl s.now x.a < 448 := by omega
      have hmem : x ∈ sl (pl s.now x.a) := (h.mem hkx).2 ⟨hx, rfl⟩
      rcases Nat.lt_or_ge (pl s.now x.a) k with hlt | hge
      · rw [h0 _ hlt] at hmem
        cases hmem
      · have : pl s.now x.a = k := by omega
        rw [this] at hmem
        exact absurd hxm (hmin x hmem)
theorem Sl.none {s : St} {sl : Nat → List Tm} (h : Sl s sl) (ho : Ok s) (h0 : ∀ j, j < 448 → sl j = []) : s.l = [] := by
  cases e : s.l with
  | nil => rfl
  | cons x l =>
    have hx : x ∈ s.l := by rw [e]; exact List.mem_cons_self ..
    have hk : pl s.now x.a < 448 := pl_small ho.now (ho.above x hx).2
    have := (h.mem hk).2 ⟨hx, rfl⟩
    rw [h0 _ hk] at this
    cases this

theorem filter_or {α : Type} (p q r : α → Bool) : ∀ l : List α, (∀ x ∈ l, r x = (p x || q x) ∧ (p x && q x) = false) → (l.filter p ++ l.filter q).Perm (l.filter r)
  | [], _ => List.Perm.refl _
  | x :: l, h => by
    have ih := filter_or p q r l fun y hy => h y (List.mem_cons_of_mem _ hy)
    obtain ⟨h1, h2⟩ := h x (List.mem_cons_self ..)
    cases hp : p x <;> cases hq : q x <;> simp only [hp, hq, Bool.or_true, Bool.or_false, Bool.and_true, Bool.and_false, Bool.or_self, Bool.and_self] at h1 h2
    · simpa [hp, hq, h1] using ih
    · simp only [hp, hq, h1, List.filter_cons, if_true, Bool.false_eq_true, if_false]
      exact List.perm_middle.trans (ih.cons x)
    · simp only [hp, hq, h1, List.filter_cons, if_true, Bool.false_eq_true, if_false]
      exact ih.cons x
    · cases h2
/-- The slots up to one, one behind the other. -/
def flat (sl : Nat → List Tm) : Nat → List Tm
  | 0 => []
  | m + 1 => flat sl m ++ sl m
theorem flat_perm {s : St} {sl : Nat → List Tm} (h : Sl s sl) : ∀ m, m ≤ 448 → (flat sl m).Perm (s.l.filter fun t => decide (pl s.now t.a < m))
  | 0, _ => by simp [flat]
  | m + 1, hm => by
    refine (List.Perm.append (flat_perm h m (by omega)) (h m (by omega))).trans (filter_or _ _ _ _ fun x _ => ?_)
    by_cases e : pl s.now x.a = m
    · simp [e]
    · by_cases e1 : pl s.now x.a < m
      · simp [e, e1]
        omega
      · simp [e, e1]
        omega
/-- What is reached: as it stands. -/
def rch (s : St) (to : Nat) : List Tm := s.l.filter fun t => decide (pl s.now t.a < pl s.now to + 1)
theorem rch_of {s : St} (ho : Ok s) {to : Nat} {r : List Tm} (h1 : r.Perm (rch s to)) (h2 : r.Pairwise fun x y => ¬ lt y x) : r = rch s to := by
  refine List.Perm.eq_of_pairwise (le := fun x y => ¬ lt y x) ?_ h2 ?_ h1
  · intro a b ha hb k1 k2
    have ha' := (List.mem_filter.1 (h1.mem_iff.1 ha)).1
    have hb' := (List.mem_filter.1 hb).1
    refine apart_eq ho.apart ha' hb' ?_
    unfold lt at k1 k2
    omega
  · refine (ho.sorted.filter _).imp ?_
    intro x y hxy
    unfold lt at *
    omega
/-- Slots up to one are empty. -/
def cut (sl : Nat → List Tm) (m : Nat) : Nat → List Tm := fun k => if k < m then [] else sl k
/-- Those that are not due are put into slots. -/
def plc (to : Nat) (sl : Nat → List Tm) (r : List Tm) : Nat → List Tm := fun k => sl k ++ r.filter fun t => !decide (t.a ≤ to) && decide (pl to t.a = k)
theorem plc_nil (to : Nat) (sl : Nat → List Tm) : plc to sl [] = sl := by
  funext k
  simp [plc]
theorem plc_due {to : Nat} (sl : Nat → List Tm) (r : List Tm) {t : Tm} (h : t.a ≤ to) : plc to sl (r ++ [t]) = plc to sl r := by
  funext k
  simp [plc, List.filter_append, h]
theorem plc_late {to : Nat} (sl : Nat → List Tm) (r : List Tm) {t : Tm} (h : ¬ t.a ≤ to) : plc to sl (r ++ [t]) = upd (plc to sl r) (pl to t.a) (plc to sl r (pl to t.a) ++ [t]) := by
  funext k
  by_cases e : k = pl to t.a
  · subst e
    rw [upd_same]
    simp [plc, List.filter_append, h]
  · rw [upd_other _ _ e]
    simp [plc, List.filter_append, h, Ne.symm e]
theorem Sl.adv {s : St} {sl : Nat → List Tm} (h : Sl s sl) (ho : Ok s) {to : Nat} : Sl ⟨to, s.many, rest to s.l⟩ (plc to (cut sl (pl s.now to + 1)) (rch s to)) := fun k hk => by
  show List.Perm (cut sl _ k ++ (rch s to).filter _) ((rest to s.l).filter _)
  unfold rch rest
  rw [List.filter_filter, List.filter_filter]
  have hcut : (cut sl (pl s.now to + 1) k).Perm (s.l.filter fun t => decide (pl s.now t.a = k) && !decide (pl s.now t.a < pl s.now to + 1)) := by
    unfold cut
    split
    · rename_i hlt
      rw [List.filter_eq_nil_iff.2]
      intro x _
      simp
      omega
    · rename_i hge
      refine (h k hk).trans (List.Perm.of_eq (List.filter_congr fun x _ => ?_))
      by_cases e : pl s.now x.a = k
      · subst e
        simp
        omega
      · simp [e]
  refine (hcut.append_right _).trans (filter_or _ _ _ _ fun x hx => ?_)
  have hab := (ho.above x hx).1
  by_cases c : pl s.now x.a < pl s.now to + 1
  · simp [c]
    rw [Bool.and_comm]
  · have hlt : pl s.now to < pl s.now x.a := by omega
    have h2 := pl_keep hlt
    have h3 := pl_lt (Nat.le_of_lt hab) hlt
    have h4 : ¬ ((x.a : Int) ≤ to) := by omega
    simp [c, h2, h4]
/-- All that are due are reached. -/
theorem due_rch {s : St} (ho : Ok s) {to : Nat} : due to (rch s to) = due to s.l := by
  unfold due rch
  rw [List.filter_filter]
  refine List.filter_congr fun x hx => ?_
  by_cases c : (x.a : Int) ≤ to
  · have := pl_mono (Nat.le_of_lt (ho.above x hx).1) (show x.a ≤ to by omega)
    simp [c]
    omega
  · simp [c]
/-- What is left where those of a list that are due are struck by their numbers. -/
def dl (to : Nat) (r l : List Tm) : List Tm := l.filter fun t => !(r.any fun u => decide (u.n = t.n) && decide (u.a ≤ to))
theorem dl_nil (to : Nat) (l : List Tm) : dl to [] l = l := by simp [dl]
theorem dl_due {to : Nat} (r l : List Tm) {t : Tm} (h : t.a ≤ to) : dl to (r ++ [t]) l = (dl to r l).filter fun x => !decide ((x.n : Int) = t.n) := by
  unfold dl
  rw [List.filter_filter]
  refine List.filter_congr fun x _ => ?_
  rw [List.any_append]
  have : decide ((x.n : Int) = t.n) = decide (t.n = x.n) := decide_eq_decide.2 ⟨fun h => by omega, fun h => by omega⟩
  simp [h, this, Bool.and_comm]
theorem dl_late {to : Nat} (r l : List Tm) {t : Tm} (h : ¬ t.a ≤ to) : dl to (r ++ [t]) l = dl to r l := by
  unfold dl
  refine List.filter_congr fun x _ => ?_
  rw [List.any_append]
  simp [h]
theorem dl_all {s : St} (ho : Ok s) {to : Nat} : dl to (rch s to) s.l = rest to s.l := by
  unfold dl rest
  refine List.filter_congr fun x hx => ?_
  congr 1
  rw [Bool.eq_iff_iff]
  simp only [List.any_eq_true, Bool.and_eq_true, decide_eq_true_eq]
  constructor
  · rintro ⟨u, hu, e, hle⟩
    have := apart_eq ho.apart (List.mem_filter.1 hu).1 hx e
    subst this
    omega
  · intro hle
    refine ⟨x, List.mem_filter.2 ⟨hx, ?_⟩, rfl, by omega⟩
    have := pl_mono (Nat.le_of_lt (ho.above x hx).1) (show x.a ≤ to by omega)
    simp
    omega
theorem flat_length {s : St} {sl : Nat → List Tm} (h : Sl s sl) {m : Nat} (hm : m ≤ 448) : (flat sl m).length ≤ s.l.length := by
  rw [(flat_perm h m hm).length_eq]
  exact List.length_filter_le ..
theorem plc_length {s : St} {sl : Nat → List Tm} (h : Sl s sl) (ho : Ok s) {to : Nat} {j k : Nat} (hk : k < 448) : (plc to (cut sl (pl s.now to + 1)) ((rch s to).take j) k).length ≤ s.l.length := by
  have e := (h.adv (to := to) ho).length hk
  refine Nat.le_trans ?_ (Nat.le_trans e (List.length_filter_le ..))
  unfold plc
  rw [List.length_append, List.length_append]
  exact Nat.add_le_add_left (((List.take_sublist j _).filter _).length_le) _
end Go.Proofs.Wh
