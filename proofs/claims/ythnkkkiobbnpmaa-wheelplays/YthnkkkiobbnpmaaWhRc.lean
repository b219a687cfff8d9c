/- The document's Put. -/
import Derived.Test.YthnkkkiobbnpmaaWhRb
import Derived.Deep.CutBlock
namespace Go.Proofs.Ythnkkkiobbnpmaa
open Go.RowKit Go.Proofs.Fd Go.Proofs.Wh
set_option maxRecDepth 20000

theorem ins_split {t : Tm} : ∀ {m k : List Tm}, (∀ x ∈ m, x.a ≤ t.a) → (∀ x ∈ k, t.a < x.a) → ins t (m ++ k) = m ++ t :: k
  | [], [], _, _ => rfl
  | [], y :: k, _, h => by
    show (if t.a < y.a then t :: y :: k else y :: ins t k) = _
    rw [if_pos (h y (List.mem_cons_self ..))]
    rfl
  | x :: m, k, h1, h2 => by
    show (if t.a < x.a then t :: x :: (m ++ k) else x :: ins t (m ++ k)) = _
    rw [if_neg (by have := h1 x (List.mem_cons_self ..); omega), ins_split (fun y hy => h1 y (List.mem_cons_of_mem _ hy)) h2]
    rfl
theorem ins_at {t : Tm} {l : List Tm} (hs : l.Pairwise lt) {i : Nat} (hi : i ≤ l.length) (h1 : ∀ x ∈ l.drop i, t.a < x.a) (h2 : i = 0 ∨ ∃ h : i - 1 < l.length, l[i - 1].a ≤ t.a) : ins t l = l.take i ++ t :: l.drop i := by
  have h3 : ∀ x ∈ l.take i, x.a ≤ t.a := by
    rcases h2 with rfl | ⟨h, ha⟩
    · intro x hx
      rw [List.take_zero] at hx
      cases hx
    · intro x hx
      obtain ⟨j, hj, rfl⟩ := List.getElem_of_mem hx
      rw [List.length_take] at hj
      rw [List.getElem_take]
      by_cases e : j = i - 1
      · subst e
        exact ha
      · have := (List.pairwise_iff_getElem.1 hs) j (i - 1) (by omega) h (by omega)
        unfold lt at this
        omega
  conv => lhs; rw [← List.take_append_drop i l]
  exact ins_split h3 h1
theorem rput_runs {W : World} {d : Nat} {v : Value} {s : St} (h : DAt W d v s) (hl : s.l.length ≤ 4096) {i : Nat} (hi : i ≤ s.l.length) (t : Tm) :
    ∃ x1 a1 n1 c1 w2 a2 n2 c2 w3 x2 a3 n3 c3 w4, (∀ W', (Instr.slice 26 v none (some (.int .i64 (i : Int))) none).run Try.prog W' = .ok x1 W')
      ∧ (Builtin.append_ #[26, 26] 26 #[.slice none 0 0, x1]).run Try.prog W = .ok (.slice a1 n1 c1) w2
      ∧ w2.cell? ⟨d, 2, none⟩ = some (.int .i64 (s.many : Int))
      ∧ (Builtin.append_ #[26, 26] 26 #[.slice a1 n1 c1, .slice (some ⟨w2.heap.size, 0, none⟩) 1 1]).run Try.prog (w2.alloc (.cells #[.int .i64 (t.a : Int), .int .i64 t.i, .int .i64 (t.n : Int)] 61)) = .ok (.slice a2 n2 c2) w3
      ∧ w3.cell? ⟨d, 0, none⟩ = some v
      ∧ (∀ W', (Instr.slice 26 v (some (.int .i64 (i : Int))) none none).run Try.prog W' = .ok x2 W')
      ∧ (Builtin.append_ #[26, 26] 26 #[.slice a2 n2 c2, x2]).run Try.prog w3 = .ok (.slice a3 n3 c3) w4
      ∧ w4.cell? ⟨d, 0, none⟩ = some v ∧ w4.frozen? ⟨d, 0, none⟩ = false
      ∧ DAt (w4.setCell ⟨d, 0, none⟩ (.slice a3 n3 c3)) d (.slice a3 n3 c3) ⟨s.now, s.many, s.l.take i ++ t :: s.l.drop i⟩ ∧ (∀ g, (Value.slice a3 n3 c3).ownBlock = some g → W.heap.size ≤ g) ∧ Bf (fun g => g = d) W (w4.setCell ⟨d, 0, none⟩ (.slice a3 n3 c3)) := by
  have hdW := h.lt
  obtain ⟨x1, s1, s2⟩ := sub_head W v s.l h.row i hi
  obtain ⟨a1, n1, c1, w2, p1, p2, p3, p4⟩ := app_src W 26 (.slice none 0 0) x1 [] _ (World.ownsRow_nil _ _ _ _) s2 (by rw [List.length_take]; simp; omega)
  have B1 : Below W.heap.size W w2 := ⟨p3.os, p3.tape, p3.output, p3.size, fun k hk => p3.block k hk (fun c => by cases c)⟩
  have N1 : ∀ g, (Value.slice a1 n1 c1).ownBlock = some g → W.heap.size ≤ g := fun g e => by
    rcases p4 with c | c
    · rw [c] at e
      cases e
    · rw [c] at e
      injection e with e
      omega
  have b2 : Below w2.heap.size w2 (w2.alloc (.cells #[.int .i64 (t.a : Int), .int .i64 t.i, .int .i64 (t.n : Int)] 61)) := (Below.refl _ _).alloc (Nat.le_refl _) _
  have p2' : OwnsR (w2.alloc (.cells #[.int .i64 (t.a : Int), .int .i64 t.i, .int .i64 (t.n : Int)] 61)) (.slice a1 n1 c1) (s.l.take i) := p2.alloc _
  have sN : Src (w2.alloc (.cells #[.int .i64 (t.a : Int), .int .i64 t.i, .int .i64 (t.n : Int)] 61)) (.slice (some ⟨w2.heap.size, 0, none⟩) 1 1) [t] := .inr ⟨w2.heap.size, 0, 1, rfl, fun j u hu => by
    rw [Nat.zero_add, World.cell?_alloc_new]
    simpa [rcs, rc] using hu⟩
  obtain ⟨a2, n2, c2, w3, q1, q2, q3, q4⟩ := app_src _ 26 _ _ _ _ p2' sN (by rw [List.length_take]; simp; omega)
  have B3 : Below W.heap.size W w3 := (B1.trans (b2.mono B1.size)).grown q3 (by have := B1.size; simp; omega) (fun k hk => N1 k hk)
  have N2 : ∀ g, (Value.slice a2 n2 c2).ownBlock = some g → W.heap.size ≤ g := fun g e => by
    rcases q4 with c | c
    · exact N1 g (by rw [← c]; exact e)
    · rw [c] at e
      injection e with e
      have := B1.size
      simp at e
      omega
  have D3 := h.later B3
  obtain ⟨x2, t1, t2⟩ := sub_tail w3 v s.l D3.row i hi
  obtain ⟨a3, n3, c3, w4, r1, r2, r3, r4⟩ := app_src w3 26 _ x2 _ _ q2 t2 (by rw [List.length_append, List.length_take, List.length_drop]; simp; omega)
  have B4 : Below W.heap.size W w4 := B3.grown r3 B3.size (fun k hk => N2 k hk)
  have N3 : ∀ g, (Value.slice a3 n3 c3).ownBlock = some g → W.heap.size ≤ g := fun g e => by
    rcases r4 with c | c
    · exact N2 g (by rw [← c]; exact e)
    · rw [c] at e
      injection e with e
      have := B3.size
      omega
  have D4 := h.later B4
  have D5 := D4.put rfl r2 (fun c => by have := N3 d c; omega)
  refine ⟨x1, a1, n1, c1, w2, a2, n2, c2, w3, x2, a3, n3, c3, w4, s1, p1, (h.later B1).c2, q1, D3.c0, t1, r1, D4.c0, D4.fr _, ?_, N3, ?_⟩
  · rw [List.append_assoc] at D5
    exact D5
  · exact (Bf.of B4).trans (Nx.refl _ _) ⟨rfl, rfl, rfl, by simp, fun g _ hg => Below.heap_setCell w4 ⟨d, 0, none⟩ _ g hg⟩
set_option maxHeartbeats 4000000 in
theorem rput_ok (d : Nat) (v : Value) (s : St) (ho : Ok s) (a : Nat) (id : Int) (g1 : s.now < a) (g2 : a ≤ 1099511627776) (g3 : s.l.length < 4096) (hm : s.many < 1099511627776) (w : World) (H : Hid (DAt w d v s)) :
    Calls Try.prog 13 #[.pointer (some ⟨d, 0, none⟩), .int .i64 (a : Int), .int .i64 id] w fun e w' => e = .returned (.tuple #[.int .i64 ((s.many + 1 : Nat) : Int), .int .i64 0]) ∧ DSt w d v ⟨s.now, s.many + 1, ins ⟨a, s.many + 1, id⟩ s.l⟩ w' := by
  have k1 : ¬ (a : Int) ≤ (s.now : Int) := by omega
  have k2 : ¬ (1099511627776 : Int) < (a : Int) := by omega
  have k3 : ¬ (4096 : Int) ≤ (s.l.length : Int) := by omega
  have z1 : IntKind.i64.wrap ((s.many : Int) + 1) = ((s.many + 1 : Nat) : Int) := by rw [IntKind.wrap_i64]; omega
  have D1 := H.out.many (s.many + 1)
  have c0 := H.out.c0
  have c1 := H.out.c1
  have c2 := H.out.c2
  have f2 := H.out.fr
  have B1 : Hid (Bf (fun g => g = d) w (w.setCell ⟨d, 2, none⟩ (.int .i64 ((s.many + 1 : Nat) : Int)))) := ⟨rfl, rfl, rfl, by simp, fun g _ hg => Below.heap_setCell w ⟨d, 2, none⟩ _ g hg⟩
  have HS : Hid (s.l.Pairwise lt) := ho.sorted
  have HH : Hid (DAt (w.setCell ⟨d, 2, none⟩ (.int .i64 ((s.many + 1 : Nat) : Int))) d v ⟨s.now, s.many + 1, s.l⟩) := D1
  obtain ⟨va, vc, rfl, -⟩ := H.out.val
  clear D1 ho H
  obtain ⟨M, hM⟩ : ∃ M, s.many + 1 = M := ⟨_, rfl⟩
  rw [hM] at z1 B1 HH ⊢
  clear hM
  obtain ⟨n, hn⟩ : ∃ n, s.l.length = n := ⟨_, rfl⟩
  rw [hn] at k3 c0 HH ⊢
  have HN : Hid (s.l.length = n) := hn
  have hn4 : n < 4096 := by omega
  clear hn
  go_enter Try.func13, Try.ntmps13
  go_upto_block 0 with fail
  obtain ⟨W, hW⟩ : ∃ W, w.setCell ⟨d, 2, none⟩ (.int .i64 (M : Int)) = W := ⟨_, rfl⟩
  rw [hW] at B1 HH ⊢
  clear hW c0 c1 c2 f2 z1
  go_cut [8] (fun s8 wx => ∃ i : Nat, s8 = .int .i64 (i : Int) ∧ W = wx ∧ Hid (i ≤ n ∧ ins ⟨a, M, id⟩ s.l = s.l.take i ++ ⟨a, M, id⟩ :: s.l.drop i))
  case first =>
    go_wp2_with fail
    go_loopw [8] (fun i wr => ∃ k : Nat, k ≤ n ∧ i = .int .i64 (k : Int) ∧ W = wr ∧ Hid (∀ x ∈ s.l.drop k, a < x.a)) (fun i wr => (intOf i).toNat)
    case atStart => exact ⟨n, Nat.le_refl _, rfl, rfl, fun x hx => by rw [List.drop_of_length_le (by have := HN.out; omega)] at hx; cases hx⟩
    case round =>
      obtain ⟨k, hk, rfl, hwr, I⟩ := hrel
      subst hwr
      have c0 := HH.out.c0
      by_cases hk0 : k = 0
      · subst hk0
        have FIN : Hid (0 ≤ n ∧ ins ⟨a, M, id⟩ s.l = s.l.take 0 ++ ⟨a, M, id⟩ :: s.l.drop 0) := ⟨Nat.zero_le _, ins_at HS.out (Nat.zero_le _) I.out (.inl rfl)⟩
        rw [show ((0 : Nat) : Int) = 0 from rfl]
        go_wp2
        go_meet
        case rel => exact ⟨0, rfl, rfl, FIN.out⟩
      · obtain ⟨j, rfl⟩ : ∃ j, k = j + 1 := ⟨k - 1, by omega⟩
        have hjl : j < s.l.length := by have := HN.out; omega
        have gk : (0 : Int) < ((j + 1 : Nat) : Int) := by omega
        have zj : wrap64 (((j + 1 : Nat) : Int) - 1) = (j : Int) := by unfold wrap64; omega
        have zj2 : ((j + 1 : Nat) : Int) - 1 = (j : Int) := by omega
        have gj : (j : Int) < (n : Int) := by omega
        obtain ⟨va', vc', ev, hv⟩ := HH.out.val
        simp only at hv
        obtain ⟨g, e1, a0, -, -⟩ := hv j hjl
        injection ev with ev1 ev2 ev3
        obtain rfl : va = some ⟨g, 0, none⟩ := by rw [ev1, e1]
        obtain ⟨t, ht⟩ : ∃ t, s.l[j] = t := ⟨_, rfl⟩
        rw [ht] at a0
        by_cases hta : a < t.a
        · have x1 : (a : Int) < (t.a : Int) := by omega
          have J : Hid (∀ x ∈ s.l.drop j, a < x.a) := fun x hx => by
            rw [List.drop_eq_getElem_cons hjl, ht] at hx
            rcases List.mem_cons.1 hx with rfl | hx
            · exact hta
            · exact I.out x hx
          clear I hv ev1 ev2 ev3 e1 ht
          go_wp2
          go_roundw
          case rel => exact ⟨j, by omega, by go_num, by first | rfl | trivial, J.out⟩
          case measure => first | (simp [intOf]; done) | (simp [intOf]; omega)
        · have x1 : ¬ (a : Int) < (t.a : Int) := by omega
          have FIN : Hid (j + 1 ≤ n ∧ ins ⟨a, M, id⟩ s.l = s.l.take (j + 1) ++ ⟨a, M, id⟩ :: s.l.drop (j + 1)) := ⟨hk, ins_at HS.out (by omega) I.out (.inr ⟨hjl, by show s.l[j].a ≤ a; rw [ht]; omega⟩)⟩
          clear I hv ev1 ev2 ev3 e1 ht
          go_wp2
          go_meet
          case rel => exact ⟨j + 1, by go_num, rfl, FIN.out⟩
  case rest =>
    obtain ⟨i, rfl, hwx, FIN⟩ := hcut
    subst hwx
    obtain ⟨x1, a1, n1, c1, w2, a2, n2, c2, w3, x2, a3, n3, c3, w4, r1, r2, r3, r4, r5, r6, r7, r8, r9, r10, r11, r12⟩ := rput_runs HH.out (by show s.l.length ≤ 4096; have := HN.out; omega) (i := i) (by show i ≤ s.l.length; have := HN.out; have := FIN.out.1; omega) ⟨a, M, id⟩
    have c0 := HH.out.c0
    have c2' := HH.out.c2
    simp only at r3 c2'
    have FF : Hid (DSt w d (.slice va n vc) ⟨s.now, M, ins ⟨a, M, id⟩ s.l⟩ (w4.setCell ⟨d, 0, none⟩ (.slice a3 n3 c3))) := by
      refine ⟨.slice a3 n3 c3, ?_, fun g e => .inr ?_, B1.out.trans (Nx.refl _ _) r12⟩
      · rw [FIN.out.2]
        exact r10
      · have := r11 g e
        have := B1.out.size
        omega
    have c4 : (w4.setCell ⟨d, 0, none⟩ (.slice a3 n3 c3)).cell? ⟨d, 2, none⟩ = some (.int .i64 (M : Int)) := r10.c2
    have dl : d < w2.heap.size := World.block_lt_of_cell? _ _ r3
    have dl2 : ¬ d = w2.heap.size := by omega
    clear r10 r11 r12 FIN HH B1
    go_wp2_with (at_builtin; refine Go.Lib.wpList_append_run _ rfl _ _ _ _ rfl _ _ rfl rfl _ _ (by first | exact r2 | exact r4 | exact r7) ?_)
    go_ret2
    exact ⟨rfl, FF.out⟩
theorem rput_any (d : Nat) (v : Value) (s : St) (ho : Ok s) (at_ id : Int) (hm : s.many < 1099511627776) (w : World) (H : DAt w d v s) :
    Calls Try.prog 13 #[.pointer (some ⟨d, 0, none⟩), .int .i64 at_, .int .i64 id] w fun e w' => e = .returned (.tuple #[.int .i64 (putV s at_), .int .i64 (putE s at_)]) ∧ DSt w d v (putS s at_ id) w' := by
  have c1 := H.c1
  have SS : Hid (DSt w d v s w) := ⟨v, H, fun g e => .inl e, Bf.refl _ _⟩
  by_cases g1 : at_ ≤ (s.now : Int)
  · have e0 : putE s at_ = 140 := by unfold putE; rw [if_pos g1]
    have e1 : putV s at_ = 0 := by unfold putV; rw [e0]; rfl
    have e2 : putS s at_ id = s := by unfold putS; rw [e0]; rfl
    rw [e0, e1, e2]
    clear e0 e1 e2 H
    go_enter Try.func13, Try.ntmps13
    go_wp2
    go_ret2
    exact ⟨rfl, SS.out⟩
  · by_cases g2 : (1099511627776 : Int) < at_
    · have e0 : putE s at_ = 1 := by unfold putE; rw [if_neg g1, if_pos (show (maxT : Int) < at_ from g2)]
      have e1 : putV s at_ = 0 := by unfold putV; rw [e0]; rfl
      have e2 : putS s at_ id = s := by unfold putS; rw [e0]; rfl
      rw [e0, e1, e2]
      clear e0 e1 e2 H
      go_enter Try.func13, Try.ntmps13
      go_wp2
      go_ret2
      exact ⟨rfl, SS.out⟩
    · by_cases g3 : (4096 : Int) ≤ (s.l.length : Int)
      · have e0 : putE s at_ = 2 := by unfold putE; rw [if_neg g1, if_neg (show ¬ (maxT : Int) < at_ from g2), if_pos (show maxI ≤ s.l.length by unfold maxI; omega)]
        have e1 : putV s at_ = 0 := by unfold putV; rw [e0]; rfl
        have e2 : putS s at_ id = s := by unfold putS; rw [e0]; rfl
        rw [e0, e1, e2]
        obtain ⟨va, vc, rfl, -⟩ := H.val
        have c0 := H.c0
        clear e0 e1 e2 H
        go_enter Try.func13, Try.ntmps13
        go_wp2
        go_ret2
        exact ⟨rfl, SS.out⟩
      · have e0 : putE s at_ = 0 := by unfold putE; rw [if_neg g1, if_neg (show ¬ (maxT : Int) < at_ from g2), if_neg (show ¬ maxI ≤ s.l.length by unfold maxI; omega)]
        have e1 : putV s at_ = ((s.many + 1 : Nat) : Int) := by unfold putV; rw [if_pos e0]; rfl
        have e2 : putS s at_ id = ⟨s.now, s.many + 1, ins ⟨at_.toNat, s.many + 1, id⟩ s.l⟩ := by unfold putS; rw [if_pos e0]
        rw [e0, e1, e2]
        obtain ⟨a, rfl⟩ : ∃ a : Nat, at_ = (a : Int) := ⟨at_.toNat, by omega⟩
        rw [Int.toNat_natCast]
        exact rput_ok d v s ho a id (by omega) (by omega) (by omega) hm w H
end Go.Proofs.Ythnkkkiobbnpmaa
