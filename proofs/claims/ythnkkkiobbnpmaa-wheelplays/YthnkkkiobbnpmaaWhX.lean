/- A timer is canceled. -/
import Derived.Test.YthnkkkiobbnpmaaWhC
import Derived.Test.YthnkkkiobbnpmaaWhT
namespace Go.Proofs.Ythnkkkiobbnpmaa
open Go.RowKit Go.Proofs.Fd Go.Proofs.Wh
set_option maxRecDepth 20000

/-- delete, by a run that is at hand. -/
theorem wp_delete_run {P : Program} (w : World) {o : Oper} {a : Act} {K : Act → World → Prop} {Q : Exit → Act → World → Prop} (s x : Operand) (t tn : TypeId)
    (ho : o.op = .call { callee := .builtin .delete, args := #[s, x], argTypes := #[t, tn] }) (vs vx : Value) (hs : a.eval s = vs) (hx : a.eval x = vx)
    (v' : Value) (w' : World) (hr : (Builtin.delete_ #[t, tn] o.type #[vs, vx]).run P w = .ok v' w') (h : K (a.put o.dst v') w') : o.wp P a w K Q := by
  unfold Oper.wp execOp
  simp only [ho, resolve, invoke, builtin, Sem.run_bind, Sem.run_pure, Result.andThen_ok, List.map_toArray, List.map_cons, List.map_nil, hs, hx, hr]
  exact h
/-- What the map says of a number. -/
theorem map_look (w : World) (bm : Nat) (D : DataW Unit) (h : OwnsM w bm D) (n : Int) (h1 : -9223372036854775808 ≤ n) (h2 : n < 9223372036854775808) :
    ∃ c : Int, (∀ q, (Instr.lookup 51 (.map (some bm)) (.int .i64 n) true).run Try.prog (w.drewN q) = .ok (.tuple #[.int .i64 c, .bool (Maps.has D (.int .i64 n))]) (w.drewN q)) ∧ D.atKey (.int .i64 n) (.lit (.int .i64 0)) = .lit (.int .i64 c) := by
  have key : ∀ q, ∃ c : Int, (Instr.lookup 51 (.map (some bm)) (.int .i64 n) true).run Try.prog (w.drewN q) = .ok (.tuple #[.int .i64 c, .bool (Maps.has D (.int .i64 n))]) (w.drewN q) ∧ D.atKey (.int .i64 n) (.lit (.int .i64 0)) = .lit (.int .i64 c) := fun q => by
    have hq : OwnsM (w.drewN q) bm D := h
    obtain ⟨v, ps, r1, r2⟩ := hq.look_ok int_key Try.underlying51 (z := .int .i64 0) (by kernel_rfl) (zd := .lit (.int .i64 0)) (zp := []) (plainElem_int Try.underlying3 (by decide)) (Maps.keyOf_int_mk Try.underlying3 (wf_i64 h1 h2))
    obtain ⟨c, rfl, e, -⟩ := plainElem_int_inv Try.underlying3 r2
    exact ⟨c, r1, congrArg Prod.fst e⟩
  obtain ⟨c, -, hc⟩ := key 0
  refine ⟨c, fun q => ?_, hc⟩
  obtain ⟨c', r, hc'⟩ := key q
  rw [hc] at hc'
  injection hc' with hc'
  injection hc' with e1 e2
  rw [e2]
  exact r
theorem map_del (w : World) (bm : Nat) (D : DataW Unit) (h : OwnsM w bm D) (n : Int) (h1 : -9223372036854775808 ≤ n) (h2 : n < 9223372036854775808) (ty : TypeId) :
    ∃ w', (Builtin.delete_ #[51, 3] ty #[.map (some bm), .int .i64 n]).run Try.prog w = .ok (.tuple #[]) w' ∧ w'.ownsMap Try.prog 3 (plainElem Try.prog 3) bm (Maps.size D) (D.del (.int .i64 n)) ∧ w.grownBy w' (some bm) := by
  obtain ⟨w', r1, r2, r3⟩ := h.drop int_key Try.underlying51 (Maps.keyOf_int_mk Try.underlying3 (wf_i64 h1 h2)) ty
  exact ⟨w', r1, r2, r3.grown⟩
theorem erase_filter : ∀ {l : List Tm} {j : Nat} {N : Int} (hj : j < l.length), (l[j].n : Int) = N → (∀ i (hi : i < l.length), i ≠ j → ¬ (l[i].n : Int) = N) → l.eraseIdx j = l.filter fun x => !decide ((x.n : Int) = N)
  | x :: l, 0, N, _, h1, h2 => by
    have e : (x.n : Int) = N := h1
    rw [List.eraseIdx_cons_zero, List.filter_cons_of_neg (by simpa using e)]
    symm
    rw [List.filter_eq_self]
    intro y hy
    obtain ⟨i, hi, rfl⟩ := List.getElem_of_mem hy
    have := h2 (i + 1) (by simpa using hi) (by omega)
    simpa using this
  | x :: l, j + 1, N, hj, h1, h2 => by
    have e : ¬ (x.n : Int) = N := h2 0 (by simp) (by omega)
    rw [List.eraseIdx_cons_succ, List.filter_cons_of_pos (by simpa using e)]
    congr 1
    refine erase_filter (by simpa using hj) h1 (fun i hi hne => ?_)
    exact h2 (i + 1) (by simpa using hi) (by omega)
/-- Where a timer is in its slot. -/
theorem find_slot {s : St} {sl : Nat → List Tm} (ho : Ok s) (h : Sl s sl) {t : Tm} (ht : t ∈ s.l) : ∃ j, ∃ hj : j < (sl (pl s.now t.a)).length, (sl (pl s.now t.a))[j] = t ∧ ∀ i (hi : i < (sl (pl s.now t.a)).length), i ≠ j → ¬ ((sl (pl s.now t.a))[i].n : Int) = t.n := by
  have hk : pl s.now t.a < 448 := pl_small ho.now (ho.above t ht).2
  have hm : t ∈ sl (pl s.now t.a) := (h.mem hk).2 ⟨ht, rfl⟩
  obtain ⟨j, hj, e⟩ := List.getElem_of_mem hm
  refine ⟨j, hj, e, fun i hi hne c => ?_⟩
  have hp : (sl (pl s.now t.a)).Pairwise fun x y => x.n ≠ y.n := (h _ hk).symm.pairwise (ho.apart.filter _) (fun hxy => Ne.symm hxy)
  rw [List.pairwise_iff_getElem] at hp
  rcases Nat.lt_or_gt_of_ne hne with h1 | h1
  · have := hp i j hi hj h1
    rw [e] at this
    omega
  · have := hp j i hj hi h1
    rw [e] at this
    omega
set_option maxHeartbeats 2000000 in
theorem cancel_no (p : Nat) (F : Nat → Prop) (s : St) (n : Int) (hn : -9223372036854775808 ≤ n ∧ n < 9223372036854775808) (w : World) (H : Hid (WAt w p F s)) (hh : has s n = false) :
    Calls Try.prog 14 #[.pointer (some ⟨p, 0, none⟩), .int .i64 n] w fun e w' => e = .returned (.int .i64 5) ∧ Below w.heap.size w w' := by
  obtain ⟨ho, sv, sl, bm, D, rfl, h1, h2, hr⟩ := H.out
  have hr1 := hr.later ((Below.refl _ _).alloc (Nat.le_refl _) (.cells #[.int .i64 n] 3))
  obtain ⟨c, L, -⟩ := map_look _ bm D hr1.map n hn.1 hn.2
  rw [h2.has] at L
  unfold has at hh
  rw [hh] at L
  have c3 := hr1.c3
  have b0 : (w.alloc (.cells #[.int .i64 n] 3)).cell? ⟨w.heap.size, 0, none⟩ = some (.int .i64 n) := by simp [go_sem]
  clear hr hr1 h1 h2 ho H hh
  go_enter Try.func14, Try.ntmps14
  go_wp2
  obtain ⟨W, hW⟩ : ∃ W, w.alloc (.cells #[.int .i64 n] 3) = W := ⟨_, rfl⟩
  have BW : Hid (Below w.heap.size w W) := by rw [← hW]; exact (Below.refl _ _).alloc (Nat.le_refl _) _
  rw [hW] at L c3 b0 ⊢
  clear hW
  go_quiet (fail)
  go_wp2
  go_ret
  exact ⟨rfl, below_drewN BW.out _⟩
theorem keepD {wc w1 : World} {a b : Addr} {x y : Value} {r : Option Nat} (hg : wc.grownBy w1 r) (ha : some a.block ≠ r) (hb : some b.block ≠ r) (h : wc.cell? a = some x ∧ wc.cell? b = some y) : w1.cell? a = some x ∧ w1.cell? b = some y := ⟨hg.cell h.1 ha, hg.cell h.2 hb⟩
set_option maxHeartbeats 2000000 in
theorem cancel_yes (p : Nat) (F : Nat → Prop) (s : St) (t : Tm) (ht : t ∈ s.l) (hm : s.many < 1099511627776) (w : World) (H : Hid (WAt w p F s)) :
    Calls Try.prog 14 #[.pointer (some ⟨p, 0, none⟩), .int .i64 (t.n : Int)] w fun e w' => e = .returned (.int .i64 0) ∧ Stp w p F (canS s t.n) w' := by
  obtain ⟨ho, sv, sl, bm, D, rfl, h1, h2, hr⟩ := H.out
  have hnum := ho.num t ht
  have hab := ho.above t ht
  have hnow : s.now ≤ 1099511627776 := ho.now
  have ha : t.a ≤ 1099511627776 := hab.2
  have hr1 := hr.later ((Below.refl _ _).alloc (Nat.le_refl _) (.cells #[.int .i64 (t.n : Int)] 3))
  obtain ⟨c, L, hc⟩ := map_look _ bm D hr1.map (t.n : Int) (by omega) (by omega)
  rw [h2.at_ t ht] at hc
  injection hc with hc
  injection hc with hc0 hc
  subst hc
  have hh : Maps.has D (.int .i64 (t.n : Int)) = true := by rw [h2.has, List.any_eq_true]; exact ⟨t, ht, by simp⟩
  rw [hh] at L
  have c3 := hr1.c3
  have b0 : (w.alloc (.cells #[.int .i64 (t.n : Int)] 3)).cell? ⟨w.heap.size, 0, none⟩ = some (.int .i64 (t.n : Int)) := by simp [go_sem]
  have R1 : Hid (Raw (w.alloc (.cells #[.int .i64 (t.n : Int)] 3)) p s.now s.many sv sl bm D) := hr1
  have HF : Hid (∀ g, Foot p sv bm g → g < w.heap.size) := fun g hg => hr.lt hg
  have HM : Hid (Mp (D.del (.int .i64 (t.n : Int))) (canS s t.n).l) := h2.del (hr.map.tidy int_key) ho.apart ht
  have hc00 := hc0
  clear hr hr1 hh hc0 hc00
  go_enter Try.func14, Try.ntmps14
  go_wp2
  obtain ⟨W, hW⟩ : ∃ W, w.alloc (.cells #[.int .i64 (t.n : Int)] 3) = W := ⟨_, rfl⟩
  have BW : Hid (Below w.heap.size w W) := by rw [← hW]; exact (Below.refl _ _).alloc (Nat.le_refl _) _
  rw [hW] at L c3 b0 R1 ⊢
  clear hW
  go_quiet (fail)
  go_wp2
  have R2 : Hid (Raw (W.drewN nq) p s.now s.many sv sl bm D) := R1.out.later (below_drewN (Below.refl _ _) _)
  have B2 : Hid (Below w.heap.size w (W.drewN nq)) := below_drewN BW.out _
  have c3' : (W.drewN nq).cell? ⟨p, 450, none⟩ = some (.map (some bm)) := c3
  have b0' : (W.drewN nq).cell? ⟨w.heap.size, 0, none⟩ = some (.int .i64 (t.n : Int)) := b0
  obtain ⟨W1, hW1⟩ : ∃ W1, W.drewN nq = W1 := ⟨_, rfl⟩
  rw [hW1] at R2 B2 c3' b0' ⊢
  clear hW1 R1 BW L c3 b0
  obtain ⟨w3, m1, m2, m3⟩ := map_del W1.drew bm D R2.out.map (t.n : Int) (by omega) (by omega) 0
  have hpb : p ≠ bm := Ne.symm R2.out.pm
  have hBb : w.heap.size ≠ bm := fun c => by have := HF.out bm (.inr (.inl rfl)); omega
  go_region_held3 (fun w' => w'.cell? ⟨p, 450, none⟩ = some (.map (some bm)) ∧ w'.cell? ⟨w.heap.size, 0, none⟩ = some (.int .i64 (t.n : Int))) (first | exact ⟨c3', b0'⟩ | exact keepD m3 (fun e => hpb (by injection e)) (fun e => hBb (by injection e)) (by assumption)) (first | (rw [if_pos (by kernel_rfl)]; refine wp_delete_run _ _ _ _ _ rfl _ _ rfl rfl _ _ m1 ?_))
  rename_i hH
  have b3 := hH.2
  have R3' := (Raw.later R2.out (Below.refl _ _).drew).setMap m3 m2
  have R3 : Hid (Raw w3 p s.now s.many sv sl bm (D.del (.int .i64 (t.n : Int)))) := R3'.1
  have B3 : Hid (Bf (Foot p sv bm) w w3) := ((Bf.of B2.out).later (Below.refl _ _).drew).trans (Nx.refl _ _) R3'.2
  clear hH R3' R2 B2 m1 m2 m3 b0' c3' hpb hBb H
  have hpl := pl_small hnow ha
  have hlv := lv_small hnow ha
  have hmod := Nat.mod_lt (pl s.now t.a) (show 0 < 64 by decide)
  have hsum : 64 * lv s.now t.a + pl s.now t.a % 64 = pl s.now t.a := by have := pl_div s.now t.a; omega
  have CP : Hid _ := placeOf_any p s.now t.a hnow ha w3 R3.out.c0
  have SC := h1.can ho ht
  have OC : Hid _ := ho.can (t.n : Int)
  have LN := Nat.le_trans (h1.length hpl) ho.long
  obtain ⟨k, hk, j, hj, e1, e2⟩ : ∃ k, pl s.now t.a = k ∧ ∃ j, ∃ hj : j < (sl k).length, (sl k)[j] = t ∧ ∀ i (hi : i < (sl k).length), i ≠ j → ¬ ((sl k)[i].n : Int) = t.n := ⟨_, rfl, find_slot ho h1 ht⟩
  have EF : Hid _ := erase_filter hj (N := (t.n : Int)) (by rw [e1]) e2
  have EJ : Hid ((((sl k)[j]).n : Int) = (t.n : Int)) := by show _ = _; rw [e1]
  have E2 : Hid _ := e2
  obtain ⟨x, hx⟩ : ∃ x, lv s.now t.a = x := ⟨_, rfl⟩
  obtain ⟨y, hy⟩ : ∃ y, pl s.now t.a % 64 = y := ⟨_, rfl⟩
  rw [hy] at CP hmod hsum
  rw [hx] at CP hlv hsum
  rw [hk] at hpl hsum SC LN
  have SC' : Hid _ := SC
  have LN' : Hid _ := LN
  clear e1 e2 h1 h2 hnum hab hy hx hk SC LN
  rcases owns_tm (R3.out.row k hpl) with ⟨-, q⟩ | ⟨g, cap, hv, -, hcap⟩
  · rw [q] at hj
    exact absurd hj (Nat.not_lt_zero _)
  · have e3 : 2 + k = 2 + x * 64 + y := by omega
    have q1 : (x : Int) < 7 := by omega
    have q2 : (y : Int) < 64 := by omega
    have ck := R3.out.cs k hpl
    have fk := R3.out.fr
    rw [hv, e3] at ck
    have hgp : g ≠ p := fun c => R3.out.pr k hpl (by rw [hv, c]; rfl)
    have hBg : w.heap.size ≠ g := fun c => by have := HF.out g (.inr (.inr ⟨k, hpl, by rw [hv]; rfl⟩)); omega
    have OR : Hid (OwnsT w3 (.slice (some ⟨g, 0, none⟩) (sl k).length cap) (sl k)) := by
      have := R3.out.row k hpl
      rw [hv] at this
      exact this
    obtain ⟨n, hn⟩ : ∃ n, (sl k).length = n := ⟨_, rfl⟩
    have DF : Hid (∀ W5 : World, W5.heap = w3.heap → Calls Try.prog 26 #[.slice (some ⟨g, 0, none⟩) n cap, .func (.func 27) #[] #[.pointer (some ⟨w.heap.size, 0, none⟩)]] W5 fun e w' => e = .returned (.slice (some ⟨g, 0, none⟩) (n - 1) cap) ∧ OwnsT w' (.slice (some ⟨g, 0, none⟩) (n - 1) cap) ((sl k).eraseIdx j) ∧ W5.grownBy w' (some g)) := fun W5 hW5 => by
      refine delete_any g cap w.heap.size (t.n : Int) (sl k) n j (by have : (sl k).length ≤ 4096 := LN'.out; omega) hj EJ.out E2.out W5 ?_ ?_ hBg
      · have := OR.out
        rw [hn] at this
        exact ownsRow_same this (fun x _ => by rw [hW5])
      · exact (World.cell?_of_block (a := ⟨w.heap.size, 0, none⟩) (by rw [hW5])).trans b3
    rw [hn] at ck
    have FIN : Hid (∀ W5 w6 : World, W5.heap = w3.heap → W5.os = w3.os → W5.tape = w3.tape → W5.output = w3.output → OwnsT w6 (.slice (some ⟨g, 0, none⟩) (n - 1) cap) ((sl k).eraseIdx j) → W5.grownBy w6 (some g) → Stp w p (Foot p sv bm) (canS s t.n) (w6.setCell ⟨p, 2 + x * 64 + y, none⟩ (.slice (some ⟨g, 0, none⟩) (n - 1) cap))) := by
      intro W5 w6 i1 i2 i3 i4 i5 i6
      have i7 : w3.grownBy w6 (sv k).ownBlock := by
        rw [hv]
        exact ⟨i6.os.trans i2, i6.tape.trans i3, i6.output.trans i4, by rw [← i1]; exact i6.size, fun z hz hne => (i6.block z (by rw [i1]; exact hz) hne).trans (by rw [i1])⟩
      have r := R3.out.setRow hpl i7 i5 (fun z hz => .inl (by rw [hv]; exact hz))
      rw [e3, EF.out] at r
      exact ⟨_, ⟨OC.out, _, _, bm, _, rfl, SC'.out, HM.out, r.1⟩, (Nx.refl w _).trans r.2.1 B3.out.size, B3.out.trans (Nx.refl _ _) r.2.2⟩
    clear R3 B3 SC' HM OC EF OR EJ E2 LN' hj ho ht
    go_wp2_with (go_at_call 25; refine Calls.mono CP.out ?_; rintro e w4 ⟨rfl, ⟨q, rfl⟩⟩)
    have hpw : p < w3.heap.size := World.block_lt_of_cell? _ _ ck
    have ck5 : (w3.drewN q).cell? ⟨p, 2 + x * 64 + y, none⟩ = some (.slice (some ⟨g, 0, none⟩) n cap) := ck
    have D5 : Hid _ := DF.out (w3.drewN q).drew rfl
    have F5 : Hid _ := fun w6 => FIN.out (w3.drewN q).drew w6 rfl rfl rfl rfl
    have S5 : Hid (∀ w6, (w3.drewN q).drew.grownBy w6 (some g) → w6.cell? ⟨p, 2 + x * 64 + y, none⟩ = some (.slice (some ⟨g, 0, none⟩) n cap) ∧ w6.frozen? ⟨p, 2 + x * 64 + y, none⟩ = false) := fun w6 h => by
      have e : w6.heap[p]? = w3.heap[p]? := h.block p hpw (fun c => hgp (by injection c with c; exact c.symm))
      exact ⟨(World.cell?_of_block (a := ⟨p, 2 + x * 64 + y, none⟩) e).trans ck, (World.frozen?_of_block (a := ⟨p, 2 + x * 64 + y, none⟩) e).trans (fk _)⟩
    obtain ⟨W5, hW5⟩ : ∃ W5, w3.drewN q = W5 := ⟨_, rfl⟩
    rw [hW5] at ck5 D5 F5 S5 ⊢
    clear hW5 ck fk DF FIN b3 CP hv hn hcap e3
    go_region_with (first | (go_at_call 26; refine Calls.mono D5.out ?_; rintro e w6 ⟨rfl, o6, g6⟩; have sc := (S5.out w6 g6).1; have sf := (S5.out w6 g6).2; have F6 : Hid _ := F5.out w6 o6 g6; clear o6 g6))
    all_goals
      go_wp2
      go_ret
      exact ⟨rfl, F6.out⟩
/-- A timer of a number is taken away. -/
theorem cancel_any (p : Nat) (F : Nat → Prop) (s : St) (n : Int) (hn : -9223372036854775808 ≤ n ∧ n < 9223372036854775808) (hm : s.many < 1099511627776) (w : World) (H : WAt w p F s) :
    Calls Try.prog 14 #[.pointer (some ⟨p, 0, none⟩), .int .i64 n] w fun e w' => e = .returned (.int .i64 (canE s n)) ∧ Stp w p F (canS s n) w' := by
  unfold canE
  cases hh : has s n
  · refine (cancel_no p F s n hn w H hh).mono ?_
    rintro e w' ⟨rfl, hb⟩
    refine ⟨rfl, ?_⟩
    have : canS s n = s := by
      unfold canS
      have : (s.l.filter fun t => !decide ((t.n : Int) = n)) = s.l := by
        rw [List.filter_eq_self]
        intro t ht
        have := (List.any_eq_false.1 hh) t ht
        simpa using this
      rw [this]
    rw [this]
    exact H.stays hb
  · obtain ⟨t, ht, e⟩ := List.any_eq_true.1 hh
    have e : (t.n : Int) = n := by simpa using e
    subst e
    exact cancel_yes p F s t ht hm w H
end Go.Proofs.Ythnkkkiobbnpmaa
