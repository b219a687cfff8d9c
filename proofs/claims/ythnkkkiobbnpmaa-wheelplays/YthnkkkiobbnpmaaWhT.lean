/- A timer is struck out of a slot's row. -/
import Derived.Test.YthnkkkiobbnpmaaWhR
namespace Go.Proofs.Ythnkkkiobbnpmaa
open Go.RowKit Go.Proofs.Fd Go.Proofs.Wh
set_option maxRecDepth 20000

theorem del_any (bx : Nat) (N : Int) (t : Tm) (W : World) (hb : W.cell? ⟨bx, 0, none⟩ = some (.int .i64 N)) (r : Bool) (hr : decide ((t.n : Int) = N) = r) :
    Calls Try.prog 27 #[.agg #[.int .i64 (t.a : Int), .int .i64 (t.n : Int), .int .i64 t.i], .pointer (some ⟨bx, 0, none⟩)] W fun e w' => e = .returned (.bool r) ∧ Below W.heap.size W w' := by
  have hl : bx < W.heap.size := World.block_lt_of_cell? _ _ hb
  have hne : ¬ bx = W.heap.size := by omega
  have hr' : Hid (decide ((t.n : Int) = N) = r) := hr
  clear hr
  go_enter Try.func27, Try.ntmps27
  go_wp2
  go_ret
  refine ⟨?_, (Below.refl _ _).alloc (Nat.le_refl _) _⟩
  rw [← hr'.out]
  rfl
set_option maxHeartbeats 1000000 in
/-- Where the timer is. -/
theorem index_any (g cap bx : Nat) (N : Int) (l : List Tm) (n j : Nat) (hn : l.length = n) (h1 : n ≤ 4096) (hj : j < l.length) (hN : (l[j].n : Int) = N) (ho : Hid (∀ i (hi : i < l.length), i ≠ j → ¬ (l[i].n : Int) = N)) (w : World) (h : Hid (TmAt w g l)) (hb : Hid (w.cell? ⟨bx, 0, none⟩ = some (.int .i64 N))) :
    Calls Try.prog 33 #[.slice (some ⟨g, 0, none⟩) n cap, .func (.func 27) #[] #[.pointer (some ⟨bx, 0, none⟩)]] w fun e w' => e = .returned (.int .i64 (j : Int)) ∧ Below w.heap.size w w' := by
  have HN : Hid ((l[j].n : Int) = N) := hN
  have HL : Hid (l.length = n) := hn
  have hjn : j < n := by omega
  clear hN hn
  go_enter Try.func33, Try.ntmps33
  go_wp2
  go_loopw [8] (fun i wr => ∃ k : Nat, k ≤ j ∧ i = .int .i64 (k : Int) ∧ Hid (Below w.heap.size w wr)) (fun i _ => n - (intOf i).toNat)
  case atStart => exact ⟨0, by omega, rfl, Below.refl _ _⟩
  case round =>
    obtain ⟨k, hk, rfl, I⟩ := hrel
    have hkl : k < l.length := by have := HL.out; omega
    have g1 : (k : Int) < (n : Int) := by omega
    obtain ⟨a0, a1, a2⟩ := (h.out.later I.out) k hkl
    have hcb := cell_later I.out hb.out
    obtain ⟨t, ht⟩ : ∃ t, l[k] = t := ⟨_, rfl⟩
    rw [ht] at a0 a1 a2
    by_cases hkj : k = j
    · have C : Hid _ := del_any bx N t wr hcb true (by subst hkj; rw [← ht]; exact decide_eq_true HN.out)
      clear ht hcb
      subst hkj
      go_wp2_with (go_at_call 27; refine Calls.mono C.out ?_; rintro e w9 ⟨rfl, hb9⟩)
      go_ret
      exact ⟨rfl, chain I.out hb9⟩
    · have C : Hid _ := del_any bx N t wr hcb false (by rw [← ht]; exact decide_eq_false (ho.out k hkl hkj))
      clear ht hcb
      go_wp2_with (go_at_call 27; refine Calls.mono C.out ?_; rintro e w9 ⟨rfl, hb9⟩)
      go_roundw
      case rel => exact ⟨k + 1, by omega, by go_num, chain I.out hb9⟩
      case measure => simp [intOf]; omega
theorem tcs_set : ∀ (l : List Tm) (i : Nat) (t : Tm), tcs (l.set i t) = (((tcs l).set (i * 3) (.int .i64 (t.a : Int))).set (i * 3 + 1) (.int .i64 (t.n : Int))).set (i * 3 + 2) (.int .i64 t.i)
  | [], _, _ => rfl
  | _ :: _, 0, _ => rfl
  | x :: l, i + 1, t => by
    rw [List.set_cons_succ, tcs, tcs_set l i t, show (i + 1) * 3 = i * 3 + 3 by omega, tcs, tc]
    rfl
theorem OwnsT.set {w : World} {g n cap : Nat} {l : List Tm} (hn : l.length = n) (h : OwnsT w (.slice (some ⟨g, 0, none⟩) n cap) l) (i : Nat) (t : Tm) :
    OwnsT (((w.setCell ⟨g, i * 3, none⟩ (.int .i64 (t.a : Int))).setCell ⟨g, i * 3 + 1, none⟩ (.int .i64 (t.n : Int))).setCell ⟨g, i * 3 + 2, none⟩ (.int .i64 t.i)) (.slice (some ⟨g, 0, none⟩) n cap) (l.set i t) := by
  subst hn
  have := ((h.stored (i * 3) (.int .i64 (t.a : Int))).1.stored (i * 3 + 1) (.int .i64 (t.n : Int))).1.stored (i * 3 + 2) (.int .i64 t.i) |>.1
  rw [← tcs_set] at this
  unfold OwnsT
  rw [List.length_set]
  exact this
/-- The row while those behind are moved down. -/
def mv (l : List Tm) (j q : Nat) : List Tm := (l.eraseIdx j).take (q - 1) ++ l.drop (q - 1)
theorem mv_len {l : List Tm} {j q : Nat} (hj : j < l.length) (hq : q ≤ l.length) : (mv l j q).length = l.length := by
  unfold mv
  rw [List.length_append, List.length_take, List.length_eraseIdx_of_lt hj, List.length_drop]
  omega
theorem mv_first {l : List Tm} {j : Nat} (hj : j < l.length) : mv l j (j + 1) = l := by
  unfold mv
  rw [Nat.add_sub_cancel, List.eraseIdx_eq_take_drop_succ, List.take_append_of_le_length (by rw [List.length_take]; omega), List.take_take, Nat.min_self, List.take_append_drop]
theorem mv_step {l : List Tm} {j q : Nat} (hj : j < q) (hq : q < l.length) : mv l j (q + 1) = (mv l j q).set (q - 1) l[q] := by
  obtain ⟨r, rfl⟩ : ∃ r, q = r + 1 := ⟨q - 1, by omega⟩
  unfold mv
  have e1 : (l.eraseIdx j).length = l.length - 1 := List.length_eraseIdx_of_lt (by omega)
  rw [Nat.add_sub_cancel, Nat.add_sub_cancel, List.set_append_right _ _ (by rw [List.length_take]; omega), List.length_take, show r - min r (l.eraseIdx j).length = 0 by omega, List.drop_eq_getElem_cons (show r < l.length by omega), List.set_cons_zero,
    List.take_succ_eq_append_getElem (show r < (l.eraseIdx j).length by omega), List.append_assoc]
  congr 1
  rw [List.getElem_eraseIdx_of_ge (h' := by omega)]
  rfl
theorem mv_last {l : List Tm} {j : Nat} (hj : j < l.length) (t : Tm) : (mv l j l.length).set (l.length - 1) t = l.eraseIdx j ++ [t] := by
  unfold mv
  have e1 : (l.eraseIdx j).length = l.length - 1 := List.length_eraseIdx_of_lt hj
  rw [List.take_of_length_le (by omega), List.set_append_right _ _ (by omega), e1, Nat.sub_self, List.drop_eq_getElem_cons (show l.length - 1 < l.length by omega), show l.length - 1 + 1 = l.length by omega, List.drop_length, List.set_cons_zero]
theorem slice_tail (g n cap : Nat) (hc : n ≤ cap) (i : Nat) (hi : i + 1 = n) (w : World) :
    (Instr.slice 52 (.slice (some ⟨g, 0, none⟩) n cap) (some (.int .i64 (i : Int))) none none).run Try.prog w = .ok (.slice (some ⟨g, i * 3, none⟩) 1 (cap - i)) w := by
  have h1 : (i : Int) ≤ (n : Int) := by omega
  have q : ¬ cap = i := by omega
  have e : n - i = 1 := by omega
  simp [go_sem, h1, q, e]
theorem slice_head (g n cap : Nat) (hc : n ≤ cap) (i : Nat) (hi : i + 1 = n) (w : World) :
    (Instr.slice 52 (.slice (some ⟨g, 0, none⟩) n cap) none (some (.int .i64 (i : Int))) none).run Try.prog w = .ok (.slice (some ⟨g, 0, none⟩) i cap) w := by
  have h1 : (i : Int) ≤ (cap : Int) := by omega
  simp [go_sem, h1]
theorem clear_one (g o c : Nat) (w : World) (ty : TypeId) (t : Tm) (c0 : w.cell? ⟨g, o, none⟩ = some (.int .i64 (t.a : Int))) (c1 : w.cell? ⟨g, o + 1, none⟩ = some (.int .i64 (t.n : Int))) (c2 : w.cell? ⟨g, o + 2, none⟩ = some (.int .i64 t.i)) (hf : ∀ o, w.frozen? ⟨g, o, none⟩ = false) :
    (Builtin.clear_ #[52] ty #[.slice (some ⟨g, o, none⟩) 1 c]).run Try.prog w = .ok (.tuple #[]) (((w.setCell ⟨g, o, none⟩ (.int .i64 0)).setCell ⟨g, o + 1, none⟩ (.int .i64 0)).setCell ⟨g, o + 2, none⟩ (.int .i64 0)) := by
  have hz : (zeroValue 59).run Try.prog w = .ok (.agg #[.int .i64 0, .int .i64 0, .int .i64 0]) w := by kernel_rfl
  have hs := Go.run_storeCells_cells (P := Try.prog) g o [.int .i64 0, .int .i64 0, .int .i64 0] 0 w (fun j hj => by match j, hj with | 0, _ => simp [c0] | 1, _ => simp [c1] | 2, _ => simp [c2]) (fun j hj => hf _) (by intro v hv; simp at hv; subst hv; rfl)
  unfold Builtin.clear_
  simp [run_underlying Try.underlying52, hz, Builtin.zeroCells, Value.cells, Result.andThen]
  rw [show (List.map (fun i => [Value.int IntKind.i64 0, Value.int IntKind.i64 0, Value.int IntKind.i64 0][i % 3]?.getD default) (List.range 3)) = [.int .i64 0, .int .i64 0, .int .i64 0] from rfl, hs]
  rfl
theorem OwnsT.front {w : World} {g n cap : Nat} {l : List Tm} {z : Tm} (hn : l.length + 1 = n) (h : OwnsT w (.slice (some ⟨g, 0, none⟩) n cap) (l ++ [z])) : OwnsT w (.slice (some ⟨g, 0, none⟩) l.length cap) l := by
  subst hn
  rcases h.2 with ⟨h1, -⟩ | ⟨g', cap', cur, h1, h2, h3, h4, h5, h6, h7⟩
  · cases h1
  · injection h1 with e1 e2 e3
    injection e1 with e1
    injection e1 with e4 e5
    subst e3
    subst e4
    rw [List.length_append] at h4 h7
    refine ⟨tcs_len l, .inr ⟨g, cap, cur, rfl, Nat.zero_le _, h3, by simp at h4; omega, h5, h6, ?_⟩⟩
    have := congrArg (fun x => x.take (l.length * 3)) h7
    simp only [List.take_take] at this
    rw [Nat.min_eq_left (by simp; omega), tcs_app, List.take_append_of_le_length (by rw [tcs_len]; exact Nat.le_refl _), List.take_of_length_le (l := tcs l) (by rw [tcs_len]; exact Nat.le_refl _)] at this
    exact this
theorem OwnsT.tm {w : World} {g n cap : Nat} {l : List Tm} (h : OwnsT w (.slice (some ⟨g, 0, none⟩) n cap) l) : TmAt w g l ∧ l.length = n ∧ n ≤ cap ∧ (∀ o, w.frozen? ⟨g, o, none⟩ = false) ∧ g < w.heap.size := by
  rcases owns_tm h with ⟨h1, -⟩ | ⟨g', cap', h1, h2, h3⟩
  · cases h1
  · injection h1 with e1 e2 e3
    injection e1 with e1
    injection e1 with e4 e5
    subst e2
    subst e3
    subst e4
    exact ⟨h2, rfl, h3, fun o => h.frozenAt o, (h.lt g rfl).2⟩
set_option maxHeartbeats 2000000 in
theorem delete_any (g cap bx : Nat) (N : Int) (l : List Tm) (n j : Nat) (h1 : n ≤ 4096) (hj : j < l.length) (hN : (l[j].n : Int) = N) (ho : Hid (∀ i (hi : i < l.length), i ≠ j → ¬ (l[i].n : Int) = N)) (w : World) (h : Hid (OwnsT w (.slice (some ⟨g, 0, none⟩) n cap) l)) (hb : Hid (w.cell? ⟨bx, 0, none⟩ = some (.int .i64 N))) (hbg : bx ≠ g) :
    Calls Try.prog 26 #[.slice (some ⟨g, 0, none⟩) n cap, .func (.func 27) #[] #[.pointer (some ⟨bx, 0, none⟩)]] w fun e w' => e = .returned (.slice (some ⟨g, 0, none⟩) (n - 1) cap) ∧ OwnsT w' (.slice (some ⟨g, 0, none⟩) (n - 1) cap) (l.eraseIdx j) ∧ w.grownBy w' (some g) := by
  obtain ⟨t1, t2, t3, t4, t5⟩ := h.out.tm
  have CI : Hid _ := index_any g cap bx N l n j t2 h1 hj hN ho w t1 hb
  have HL : Hid (l.length = n) := t2
  have hjn : j < n := by omega
  have HBG : Hid (bx ≠ g) := hbg
  have hm1 : ((j : Int) == -1) = false := by rw [beq_eq_false_iff_ne]; omega
  clear t1 t2 t4 t5 hN hbg
  go_enter Try.func26, Try.ntmps26
  go_wp2_with (go_at_call 33; refine Calls.mono CI.out ?_; rintro e w1 ⟨rfl, hb1⟩)
  have I0 : Hid (OwnsT w1 (.slice (some ⟨g, 0, none⟩) n cap) (mv l j (j + 1)) ∧ w.grownBy w1 (some g)) := by
    rw [mv_first (by have := HL.out; omega)]
    have hg : w.grownBy w1 (some g) := ⟨hb1.os, hb1.tape, hb1.output, hb1.size, fun k hk _ => hb1.block k hk⟩
    exact ⟨ownsRow_same h.out (fun k hk => hb1.block k (h.out.lt k hk).2), hg⟩
  clear hb1 CI hm1
  go_loopw [5, 6] (fun i q wr => ∃ k : Nat, j ≤ k ∧ k + 1 ≤ n ∧ i = .int .i64 (k : Int) ∧ q = .int .i64 ((k : Int) + 1) ∧ Hid (OwnsT wr (.slice (some ⟨g, 0, none⟩) n cap) (mv l j (k + 1)) ∧ w.grownBy wr (some g))) (fun i q _ => n - (intOf i).toNat)
  case atStart => exact ⟨j, by omega, by omega, rfl, by go_num, I0.out⟩
  case round =>
    obtain ⟨k, hk, hkn, rfl, rfl, I⟩ := hrel
    clear I0
    obtain ⟨t1, t2, -, t4, t5⟩ := I.out.1.tm
    by_cases hlt : k + 1 < n
    · have g1 : (k : Int) + 1 < (n : Int) := by omega
      have g2 : (k : Int) < (n : Int) := by omega
      have hl1 := HL.out
      have hl2 : (mv l j (k + 1)).length = l.length := mv_len (by omega) (by omega)
      obtain ⟨a0, a1, a2⟩ := t1 (k + 1) (by omega)
      obtain ⟨b0, b1, b2⟩ := t1 k (by omega)
      have et : (mv l j (k + 1))[k + 1]'(by omega) = l[k + 1]'(by omega) := by
        unfold mv
        rw [List.getElem_append_right (by rw [List.length_take]; omega)]
        simp only [List.length_take, List.getElem_drop]
        congr 1
        have e1 : (l.eraseIdx j).length = l.length - 1 := List.length_eraseIdx_of_lt (by omega)
        omega
      have es := mv_step (l := l) (j := j) (q := k + 1) (by omega) (by omega)
      have hne : ¬ ((l[k + 1]'(by omega)).n : Int) = N := ho.out (k + 1) (by omega) (by omega)
      obtain ⟨t, ht⟩ : ∃ t, l[k + 1]'(by omega) = t := ⟨_, rfl⟩
      rw [et, ht] at a0 a1 a2
      rw [ht] at es hne
      obtain ⟨u, hu⟩ : ∃ u, (mv l j (k + 1))[k]'(by omega) = u := ⟨_, rfl⟩
      rw [hu] at b0 b1 b2
      have hcb : wr.cell? ⟨bx, 0, none⟩ = some (.int .i64 N) := I.out.2.cell hb.out (fun e => HBG.out (by injection e))
      have C : Hid _ := del_any bx N t (wr.alloc (.cells #[.int .i64 (t.a : Int), .int .i64 (t.n : Int), .int .i64 t.i] 59)) (cell_alloc hcb) false (decide_eq_false hne)
      have G : Hid (g < wr.heap.size) := t5
      have T4 : Hid (∀ o, wr.frozen? ⟨g, o, none⟩ = false) := t4
      have B : Hid (wr.cell? ⟨g, k * 3, none⟩ = some (.int .i64 (u.a : Int)) ∧ wr.cell? ⟨g, k * 3 + 1, none⟩ = some (.int .i64 (u.n : Int)) ∧ wr.cell? ⟨g, k * 3 + 2, none⟩ = some (.int .i64 u.i)) := ⟨b0, b1, b2⟩
      have ES : Hid (mv l j (k + 1 + 1) = (mv l j (k + 1)).set (k + 1 - 1) t) := es
      have HM : Hid ((mv l j (k + 1)).length = n) := t2
      clear ht hu et es hne hcb t1 t2 t4 t5 hl1 hl2 b0 b1 b2
      go_wp2_with fail
      refine Calls.mono C.out ?_
      rintro e w9 ⟨rfl, hb9⟩
      have c9 : Hid (Below wr.heap.size wr w9) := ((Below.refl _ wr).alloc (Nat.le_refl _) _).trans (hb9.mono (by simp))
      have d0 := cell_later hb9 (show (wr.alloc (.cells #[.int .i64 (t.a : Int), .int .i64 (t.n : Int), .int .i64 t.i] 59)).cell? ⟨wr.heap.size, 0, none⟩ = some (.int .i64 (t.a : Int)) by simp [go_sem])
      have d1 := cell_later hb9 (show (wr.alloc (.cells #[.int .i64 (t.a : Int), .int .i64 (t.n : Int), .int .i64 t.i] 59)).cell? ⟨wr.heap.size, 1, none⟩ = some (.int .i64 (t.n : Int)) by simp [go_sem])
      have d2 := cell_later hb9 (show (wr.alloc (.cells #[.int .i64 (t.a : Int), .int .i64 (t.n : Int), .int .i64 t.i] 59)).cell? ⟨wr.heap.size, 2, none⟩ = some (.int .i64 t.i) by simp [go_sem])
      have b0 := cell_later c9.out B.out.1
      have b1 := cell_later c9.out B.out.2.1
      have b2 := cell_later c9.out B.out.2.2
      have bf : ∀ o, w9.frozen? ⟨g, o, none⟩ = false := fun o => (frozen_kept c9.out G.out).trans (T4.out o)
      have O9 : Hid (OwnsT w9 (.slice (some ⟨g, 0, none⟩) n cap) (mv l j (k + 1)) ∧ w.grownBy w9 (some g)) := ⟨ownsRow_same I.out.1 (fun x hx => c9.out.block x (I.out.1.lt x hx).2), I.out.2.trans ⟨c9.out.os, c9.out.tape, c9.out.output, c9.out.size, fun x hx _ => c9.out.block x hx⟩⟩
      clear hb9 c9 B C G T4 I a0 a1 a2
      go_wp2
      go_roundw
      case rel =>
        have o1 := OwnsT.set HM.out O9.out.1 k t
        refine ⟨k + 1, by omega, by omega, by go_num, by go_num, ?_⟩
        rw [ES.out, Nat.add_sub_cancel]
        refine ⟨o1, ?_⟩
        have st : ∀ (W : World) (a : Addr) (v : Value), a.block = g → W.grownBy (W.setCell a v) (some g) := fun W a v ha => ⟨rfl, rfl, rfl, by simp, fun x _ hne => Below.heap_setCell W a v x (fun e => hne (by rw [e, ha]))⟩
        exact ((O9.out.2.trans (st _ _ _ rfl)).trans (st _ _ _ rfl)).trans (st _ _ _ rfl)
      case measure => simp [intOf]; omega
    · obtain rfl : n = k + 1 := by omega
      have hl1 := HL.out
      have hl2 : (mv l j (k + 1)).length = l.length := mv_len (by omega) (by omega)
      obtain ⟨b0, b1, b2⟩ := t1 k (by omega)
      obtain ⟨u, hu⟩ : ∃ u, (mv l j (k + 1))[k]'(by omega) = u := ⟨_, rfl⟩
      rw [hu] at b0 b1 b2
      have S1 := fun W => slice_tail g (k + 1) cap t3 k rfl W
      have S2 := fun W => slice_head g (k + 1) cap t3 k rfl W
      have S3 := fun ty => clear_one g (k * 3) (cap - k) wr ty u b0 b1 b2 t4
      have g1 : ¬ (k : Int) + 1 < (((k + 1 : Nat)) : Int) := by omega
      have g2 : ¬ (k : Int) + 1 < (k : Int) + 1 := by omega
      have HM : Hid ((mv l j (k + 1)).length = k + 1) := t2
      have o1 : Hid _ := OwnsT.set HM.out I.out.1 k ⟨0, 0, 0⟩
      have e1 : Hid ((mv l j (k + 1)).set k ⟨0, 0, 0⟩ = l.eraseIdx j ++ [⟨0, 0, 0⟩]) := by
        have := mv_last hj ⟨0, 0, 0⟩
        rw [hl1, Nat.add_sub_cancel] at this
        exact this
      clear t1 t2 hl2 hu b0 b1 b2 t4 t5
      go_wp2
      go_ret
      have o2 := o1.out
      rw [e1.out] at o2
      have e2 : (l.eraseIdx j).length = k := by rw [List.length_eraseIdx_of_lt hj]; omega
      have o3 := OwnsT.front (by rw [e2]) o2
      rw [e2] at o3
      have st : ∀ (W : World) (a : Addr) (v : Value), a.block = g → W.grownBy (W.setCell a v) (some g) := fun W a v ha => ⟨rfl, rfl, rfl, by simp, fun x _ hne => Below.heap_setCell W a v x (fun e => hne (by rw [e, ha]))⟩
      exact ⟨rfl, o3, ((I.out.2.trans (st _ _ _ rfl)).trans (st _ _ _ rfl)).trans (st _ _ _ rfl)⟩
end Go.Proofs.Ythnkkkiobbnpmaa
