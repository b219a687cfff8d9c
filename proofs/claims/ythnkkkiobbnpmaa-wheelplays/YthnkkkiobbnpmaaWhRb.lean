/- The document's Next and Advance. -/
import Derived.Test.YthnkkkiobbnpmaaWhRa
import Derived.Test.YthnkkkiobbnpmaaWhG
namespace Go.Proofs.Ythnkkkiobbnpmaa
open Go.RowKit Go.Proofs.Fd Go.Proofs.Wh
set_option maxRecDepth 20000

theorem rnext_any (d : Nat) (v : Value) (s : St) (w : World) (h : Hid (DAt w d v s)) :
    Calls Try.prog 21 #[.pointer (some ⟨d, 0, none⟩)] w fun e w' => e = .returned (.tuple #[.int .i64 (nextV s), .bool (nextB s)]) ∧ w' = w := by
  obtain ⟨va, vc, rfl, hv⟩ := h.out.val
  have c0 := h.out.c0
  cases e : s.l with
  | nil =>
    obtain ⟨e1, e2⟩ := next_nil e
    rw [e1, e2]
    rw [e, List.length_nil] at c0
    clear e e1 e2 hv
    go_enter Try.func21, Try.ntmps21
    go_wp2
    go_ret2
    exact ⟨rfl, rfl⟩
  | cons t l =>
    obtain ⟨e1, e2⟩ := next_of e
    rw [e1, e2]
    obtain ⟨g, rfl, a0, -, -⟩ := hv 0 (by rw [e]; simp)
    have et : s.l[0]'(by rw [e]; simp) = t := by simp [e]
    rw [et, Nat.zero_mul] at a0
    have n1 : ((s.l.length : Int) == 0) = false := by rw [beq_eq_false_iff_ne, e, List.length_cons]; omega
    have n2 : (0 : Int) < (s.l.length : Int) := by rw [e, List.length_cons]; omega
    obtain ⟨n, hn⟩ : ∃ n, s.l.length = n := ⟨_, rfl⟩
    rw [hn] at c0 n1 n2
    clear e e1 e2 hv et hn
    go_enter Try.func21, Try.ntmps21
    go_wp2
    go_ret2
    exact ⟨rfl, rfl⟩
def lenOf : Value → Nat
  | .slice _ n _ => n
  | _ => 0
theorem due_split {n m : Nat} : ∀ {l : List Tm}, l.Pairwise lt → (∀ t ∈ l.take m, t.a ≤ n) → (∀ t r, l.drop m = t :: r → n < t.a) → Wh.due n l = l.take m ∧ rest n l = l.drop m := by
  intro l hs h1 h2
  have h3 : ∀ t ∈ l.drop m, n < t.a := by
    cases e : l.drop m with
    | nil => intro t ht; cases ht
    | cons x r =>
      intro t ht
      have hx := h2 x r e
      have hp : (l.drop m).Pairwise lt := hs.sublist (List.drop_sublist m l)
      rw [e, List.pairwise_cons] at hp
      rcases List.mem_cons.1 ht with rfl | ht
      · exact hx
      · have := hp.1 t ht
        unfold lt at this
        omega
  have d1 := due_full h1
  have d2 := due_none h3
  have e : l = l.take m ++ l.drop m := (List.take_append_drop m l).symm
  refine ⟨?_, ?_⟩
  · conv => lhs; rw [e]
    show (List.filter _ (l.take m ++ l.drop m)) = _
    rw [List.filter_append]
    show Wh.due n (l.take m) ++ Wh.due n (l.drop m) = _
    rw [d1.1, d2.1, List.append_nil]
  · conv => lhs; rw [e]
    show (List.filter _ (l.take m ++ l.drop m)) = _
    rw [List.filter_append]
    show rest n (l.take m) ++ rest n (l.drop m) = _
    rw [d1.2, d2.2, List.nil_append]
/-- So many are told. -/
structure Rv (w : World) (d : Nat) (v0 : Value) (s : St) (n m : Nat) (v o : Value) (wr : World) : Prop where
  at_ : DAt wr d v ⟨n, s.many, s.l.drop m⟩
  told : OwnsI wr o ((s.l.take m).map Tm.i)
  due : ∀ t ∈ s.l.take m, t.a ≤ n
  loc : ∀ g, v.ownBlock = some g → v0.ownBlock = some g ∨ w.heap.size ≤ g
  new : ∀ g, o.ownBlock = some g → w.heap.size ≤ g
  bf : Bf (fun g => g = d) w wr
theorem Rv.step {w wr : World} {d : Nat} {v0 : Value} {s : St} {n m : Nat} {v o : Value} (h : Rv w d v0 s n m v o wr) (hd : d < w.heap.size) (hl : s.l.length ≤ 4096) (hm : m < s.l.length) (ht : s.l[m].a ≤ n) :
    ∃ oa om oc w1 x ua un uc w2, (Builtin.append_ #[38, 38] 38 #[o, .slice (some ⟨wr.heap.size, 0, none⟩) 1 1]).run Try.prog (wr.alloc (.cells #[.int .i64 s.l[m].i] 3)) = .ok (.slice oa om oc) w1
      ∧ w1.cell? ⟨d, 0, none⟩ = some v ∧ (∀ W, (Instr.slice 26 v (some (.int .i64 1)) none none).run Try.prog W = .ok x W)
      ∧ (Builtin.append_ #[26, 26] 26 #[.slice (some ⟨w1.heap.size, 0, none⟩) 0 0, x]).run Try.prog (w1.alloc (.cells #[] 61)) = .ok (.slice ua un uc) w2
      ∧ w2.cell? ⟨d, 0, none⟩ = some v ∧ w2.frozen? ⟨d, 0, none⟩ = false ∧ Rv w d v0 s n (m + 1) (.slice ua un uc) (.slice oa om oc) (w2.setCell ⟨d, 0, none⟩ (.slice ua un uc)) := by
  have hsz := h.bf.size
  have b0 : Below wr.heap.size wr (wr.alloc (.cells #[.int .i64 s.l[m].i] 3)) := (Below.refl _ _).alloc (Nat.le_refl _) _
  obtain ⟨oa, om, oc, w1, r1, r2, r3, r4⟩ := app_int (wr.alloc (.cells #[.int .i64 s.l[m].i] 3)) 38 o _ (h.told.later b0) (by rw [List.length_map]; exact Nat.le_trans (List.length_take_le' _ _) (by omega)) s.l[m].i wr.heap.size (by simp [go_sem])
  have hdo : some d ≠ o.ownBlock := fun c => by have := h.new d c.symm; omega
  have D1 : DAt w1 d v ⟨n, s.many, s.l.drop m⟩ := (h.at_.later b0).same (r3.block d (by have := h.at_.lt; simp; omega) hdo) (fun g e => r3.block g (by have := (h.at_.row.lt g e).2; simp; omega) (fun c => own_unlike h.told h.at_.row c.symm e))
  obtain ⟨x, x1, x2⟩ := sub_tail w1 v _ D1.row 1 (by simp; omega)
  have b1 : Below w1.heap.size w1 (w1.alloc (.cells #[] 61)) := (Below.refl _ _).alloc (Nat.le_refl _) _
  have o0 : OwnsR (w1.alloc (.cells #[] 61)) (.slice (some ⟨w1.heap.size, 0, none⟩) 0 0) [] := World.ownsRow_made (base := 0) (e := 61) (size := 3) w1 #[] 0 (Nat.zero_le _) (Nat.zero_le _) rfl
  obtain ⟨ua, un, uc, w2, q1, q2, q3, q4⟩ := app_src _ 26 _ x [] _ o0 (x2.later b1) (by simp; omega)
  have s1 : wr.heap.size ≤ w1.heap.size := by have := r3.size; simp at this; omega
  have hd1 : d < w1.heap.size := D1.lt
  have D2 : DAt w2 d v ⟨n, s.many, s.l.drop m⟩ := (D1.later b1).same (q3.block d (by simp; omega) (fun c => by injection c with c; simp only at c; omega)) (fun g e => q3.block g (by have := (D1.row.lt g e).2; simp; omega) (fun c => by injection c with c; have := (D1.row.lt g e).2; simp only at c; omega))
  have hu : ∀ g, (Value.slice ua un uc).ownBlock = some g → w1.heap.size ≤ g := fun g e => by
    rcases q4 with c | c
    · rw [c] at e
      injection e with e
      simp only at e
      omega
    · rw [c] at e
      injection e with e
      simp at e
      omega
  have D3 := D2.put rfl q2 (fun c => by have := hu d c; omega)
  have ed : [] ++ List.drop 1 (List.drop m s.l) = List.drop (m + 1) s.l := by rw [List.nil_append, List.drop_drop]
  have oo : ∀ g, (Value.slice oa om oc).ownBlock = some g → w.heap.size ≤ g ∧ g < w1.heap.size := fun g e => by
    refine ⟨?_, (r2.lt g e).2⟩
    rcases r4 with c | c
    · exact h.new g (by rw [← c]; exact e)
    · rw [c] at e
      injection e with e
      simp at e
      omega
  refine ⟨oa, om, oc, w1, x, ua, un, uc, w2, r1, D1.c0, x1, q1, D2.c0, D2.fr _, ?_, ?_, ?_, fun g e => .inr (by have := hu g e; omega), fun g e => (oo g e).1, ?_⟩
  · rw [ed] at D3
    exact D3
  · rw [List.take_succ_eq_append_getElem hm, List.map_append]
    refine ownsRow_same r2 (fun g e => ?_)
    have hg := oo g e
    rw [Below.heap_setCell w2 ⟨d, 0, none⟩ _ g (fun c => by simp only at c; omega), q3.block g (by simp; omega) (fun c => by injection c with c; simp only at c; omega)]
    exact b1.block g hg.2
  · intro t ht'
    rw [List.take_succ_eq_append_getElem hm, List.mem_append, List.mem_singleton] at ht'
    rcases ht' with c | rfl
    · exact h.due t c
    · exact ht
  · have c1 : Bf (fun g => g = d) w w1 := (h.bf.later b0).trans (F' := fun g => o.ownBlock = some g) (fun g e => .inr (h.new g e)) (Bf.grown r3 (fun g e => .inl e))
    have c2 : Bf (fun g => g = d) w w2 := (c1.later b1).trans (F' := fun g => g = w1.heap.size) (fun g e => .inr (by have := c1.size; omega)) (Bf.grown q3 (fun g e => .inl (by injection e with e; exact e.symm)))
    exact c2.trans (Nx.refl _ _) ⟨rfl, rfl, rfl, by simp, fun g _ hg => Below.heap_setCell w2 ⟨d, 0, none⟩ _ g hg⟩
/-- What the document's Advance leaves and tells. -/
def RvP (w : World) (d : Nat) (v : Value) (s : St) (ids : List Int) (x : Int) (e : Ending) (w' : World) : Prop :=
  ∃ oa om oc, e = .returned (.tuple #[.slice oa om oc, .int .i64 x]) ∧ DSt w d v s w' ∧ OwnsI w' (.slice oa om oc) ids ∧ ∀ g, (Value.slice oa om oc).ownBlock = some g → w.heap.size ≤ g
theorem RvP.no {w : World} {d : Nat} {v : Value} {s : St} {x : Int} (h : DAt w d v s) : RvP w d v s [] x (.returned (.tuple #[.slice none 0 0, .int .i64 x])) w :=
  ⟨none, 0, 0, rfl, ⟨v, h, fun g e => .inl e, Bf.refl _ _⟩, World.ownsRow_nil _ _ _ _, fun g e => by cases e⟩
set_option maxHeartbeats 4000000 in
theorem radv_ok (d : Nat) (v : Value) (s : St) (ho : Ok s) (tt : Nat) (g1 : s.now ≤ tt) (g2 : tt ≤ 1099511627776) (w : World) (H : Hid (DAt w d v s)) :
    Calls Try.prog 17 #[.pointer (some ⟨d, 0, none⟩), .int .i64 (tt : Int)] w fun e w' => RvP w d v ⟨tt, s.many, rest tt s.l⟩ ((Wh.due tt s.l).map Tm.i) 0 e w' := by
  have k1 : ¬ (tt : Int) < (s.now : Int) := by omega
  have k2 : ¬ (1099511627776 : Int) < (tt : Int) := by omega
  have c1 := H.out.c1
  have f1 := H.out.fr
  have I0 : Hid (Rv w d v s tt 0 v (.slice none 0 0) (w.setCell ⟨d, 1, none⟩ (.int .i64 (tt : Int)))) := by
    refine ⟨?_, World.ownsRow_nil _ _ _ _, fun t ht => (by rw [List.take_zero] at ht; cases ht), fun g e => .inl e, fun g e => (by cases e), ⟨rfl, rfl, rfl, by simp, fun g _ hg => Below.heap_setCell w ⟨d, 1, none⟩ _ g hg⟩⟩
    rw [List.drop_zero]
    exact H.out.now tt
  have HD : Hid (d < w.heap.size) := H.out.lt
  have HL : Hid (s.l.length ≤ 4096) := ho.long
  have HS : Hid (s.l.Pairwise lt) := ho.sorted
  clear H ho
  go_enter Try.func17, Try.ntmps17
  go_wp2
  obtain ⟨W0, hW0⟩ : ∃ W0, w.setCell ⟨d, 1, none⟩ (.int .i64 (tt : Int)) = W0 := ⟨_, rfl⟩
  rw [hW0] at I0 ⊢
  clear hW0 c1 f1 k1 k2
  go_loopw [6] (fun o wr => ∃ (m : Nat) (u : Value) (oa : Option Addr) (oc : Nat), m ≤ s.l.length ∧ o = .slice oa m oc ∧ Hid (Rv w d v s tt m u (.slice oa m oc) wr)) (fun o wr => s.l.length - lenOf o)
  case atStart => exact ⟨0, v, none, 0, Nat.zero_le _, rfl, I0.out⟩
  case round =>
    obtain ⟨m, u, oa, oc, hm, rfl, I⟩ := hrel
    clear I0
    obtain ⟨va, vc, rfl, hv⟩ := I.out.at_.val
    simp only at hv
    have c0 := I.out.at_.c0
    have hlen : (s.l.drop m).length = s.l.length - m := List.length_drop
    simp only at c0
    rw [hlen] at c0
    by_cases hlt : m < s.l.length
    · obtain ⟨g, rfl, a0, a1, a2⟩ := hv 0 (by omega)
      have et : (s.l.drop m)[0]'(by omega) = s.l[m] := by simp
      rw [et, Nat.zero_mul] at a0
      rw [et, Nat.zero_mul, Nat.zero_add] at a1
      have n2 : (0 : Int) < ((s.l.length - m : Nat) : Int) := by omega
      by_cases hd : s.l[m].a ≤ tt
      · obtain ⟨oa2, om2, oc2, w1, x, ua, un, uc, w2, r1, r2, r3, r4, r5, r6, R⟩ := I.out.step HD.out HL.out hlt hd
        have RR : Hid _ := R
        obtain ⟨-, om⟩ := owns_int R.told
        rw [List.length_map, List.length_take, Nat.min_eq_left (by omega)] at om
        subst om
        obtain ⟨t, ht⟩ : ∃ t, s.l[m] = t := ⟨_, rfl⟩
        rw [ht] at a0 a1 r1 hd
        have z : (t.a : Int) ≤ (tt : Int) := by omega
        rw [hlen] at r2 r3 r5
        obtain ⟨n, hn⟩ : ∃ n, s.l.length - m = n := ⟨_, rfl⟩
        rw [hn] at c0 n2 r2 r3 r5
        have dl : d < w1.heap.size := World.block_lt_of_cell? _ _ r2
        have dl2 : ¬ d = w1.heap.size := by omega
        clear R ht hv a2 hlen et hn I
        go_wp2_with (at_builtin; refine Go.Lib.wpList_append_run _ rfl _ _ _ _ rfl _ _ rfl rfl _ _ (by first | exact r1 | exact r4) ?_)
        go_roundw
        case rel => exact ⟨m + 1, _, oa2, oc2, by omega, rfl, RR.out⟩
        case measure => simp [lenOf]; omega
      · have z : ¬ (s.l[m].a : Int) ≤ (tt : Int) := by omega
        obtain ⟨d1, d2⟩ := due_split HS.out I.out.due (fun t r e => by
          have : s.l[m] = t := by
            have := congrArg List.head? e
            rw [List.head?_drop, List.getElem?_eq_getElem hlt] at this
            simpa using this
          rw [← this]
          omega)
        have FIN : Hid (RvP w d v ⟨tt, s.many, rest tt s.l⟩ ((Wh.due tt s.l).map Tm.i) 0 (.returned (.tuple #[.slice oa m oc, .int .i64 0])) wr) := by
          rw [d1, d2]
          exact ⟨oa, m, oc, rfl, ⟨_, I.out.at_, I.out.loc, I.out.bf⟩, I.out.told, I.out.new⟩
        obtain ⟨t, ht⟩ : ∃ t, s.l[m] = t := ⟨_, rfl⟩
        rw [ht] at a0 a1 z
        clear hv a2 hlen et I d1 d2 ht hd
        go_wp2
        go_ret2
        exact FIN.out
    · have z : ((s.l.length - m : Nat) : Int) = 0 := by omega
      have e0 : s.l.drop m = [] := List.drop_of_length_le (by omega)
      obtain ⟨d1, d2⟩ := due_split HS.out I.out.due (fun t r e => by rw [e0] at e; cases e)
      have FIN : Hid (RvP w d v ⟨tt, s.many, rest tt s.l⟩ ((Wh.due tt s.l).map Tm.i) 0 (.returned (.tuple #[.slice oa m oc, .int .i64 0])) wr) := by
        rw [d1, d2]
        exact ⟨oa, m, oc, rfl, ⟨_, I.out.at_, I.out.loc, I.out.bf⟩, I.out.told, I.out.new⟩
      rw [show s.l.length - m = 0 by omega] at c0
      clear hv hlen I d1 d2 z e0
      go_wp2
      go_ret2
      exact FIN.out
theorem radv_any (d : Nat) (v : Value) (s : St) (ho : Ok s) (tt : Int) (w : World) (H : DAt w d v s) :
    Calls Try.prog 17 #[.pointer (some ⟨d, 0, none⟩), .int .i64 tt] w fun e w' => RvP w d v (advS s tt) (advV s tt) (advE s tt) e w' := by
  have c1 := H.c1
  by_cases g1 : tt < (s.now : Int)
  · have e0 : advE s tt = 140 := by unfold advE; rw [if_pos g1]
    have e1 : advV s tt = [] := by unfold advV; rw [e0]; rfl
    have e2 : advS s tt = s := by unfold advS; rw [e0]; rfl
    rw [e0, e1, e2]
    have HH : Hid _ := RvP.no (x := 140) H
    clear e0 e1 e2 H
    go_enter Try.func17, Try.ntmps17
    go_wp2
    go_ret2
    exact HH.out
  · by_cases g2 : (1099511627776 : Int) < tt
    · have e0 : advE s tt = 1 := by unfold advE; rw [if_neg g1, if_pos (show (maxT : Int) < tt from g2)]
      have e1 : advV s tt = [] := by unfold advV; rw [e0]; rfl
      have e2 : advS s tt = s := by unfold advS; rw [e0]; rfl
      rw [e0, e1, e2]
      have HH : Hid _ := RvP.no (x := 1) H
      clear e0 e1 e2 H
      go_enter Try.func17, Try.ntmps17
      go_wp2
      go_ret2
      exact HH.out
    · have e0 : advE s tt = 0 := by unfold advE; rw [if_neg g1, if_neg (show ¬ (maxT : Int) < tt from g2)]
      obtain ⟨n, rfl⟩ : ∃ n : Nat, tt = (n : Int) := ⟨tt.toNat, by omega⟩
      have e1 : advV s (n : Int) = (Wh.due n s.l).map Tm.i := by unfold advV; rw [if_pos e0]
      have e2 : advS s (n : Int) = ⟨n, s.many, rest n s.l⟩ := by unfold advS; rw [if_pos e0, Int.toNat_natCast]
      rw [e0, e1, e2]
      exact radv_ok d v s ho n (by omega) (by omega) w H
end Go.Proofs.Ythnkkkiobbnpmaa
