/- A timer is put. -/
import Derived.Test.YthnkkkiobbnpmaaWhL
import Derived.Test.YthnkkkiobbnpmaaWhQ
namespace Go.Proofs.Ythnkkkiobbnpmaa
open Go.RowKit Go.Proofs.Fd Go.Proofs.Wh
set_option maxRecDepth 20000

theorem lenW_any (p : Nat) (F : Nat → Prop) (s : St) (w : World) (h : WAt w p F s) :
    Calls Try.prog 23 #[.pointer (some ⟨p, 0, none⟩)] w fun e w' => e = .returned (.int .i64 (s.l.length : Int)) ∧ w' = w := by
  obtain ⟨ho, sv, sl, bm, D, rfl, h1, h2, hr⟩ := h
  have := len0_any p bm D w hr.c3 hr.map
  rw [h2.size] at this
  exact this
theorem nowW_any (p : Nat) (F : Nat → Prop) (s : St) (w : World) (h : WAt w p F s) :
    Calls Try.prog 22 #[.pointer (some ⟨p, 0, none⟩)] w fun e w' => e = .returned (.int .i64 (s.now : Int)) ∧ w' = w := by
  obtain ⟨ho, sv, sl, bm, D, rfl, h1, h2, hr⟩ := h
  exact now_any p s.now w hr.c0
theorem int_key : Maps.Keyed Try.prog 3 := Maps.int_keyed Try.underlying3
theorem wf_i64 {n : Int} (h1 : -9223372036854775808 ≤ n) (h2 : n < 9223372036854775808) : (Lit.int .i64 n).wf = true := WalkArith.wf_i64 ⟨h1, by omega⟩
/-- A deadline is laid into the map. -/
theorem map_put (w : World) (bm : Nat) (D : DataW Unit) (h : OwnsM w bm D) (hs : Maps.size D ≤ 4096) (n a : Nat) (hn : n < 4611686018427387904) (ha : a < 4611686018427387904) :
    ∃ w', (Instr.mapUpdate 51 (.map (some bm)) (.int .i64 (n : Int)) (.int .i64 (a : Int))).run Try.prog w = .ok () w' ∧ w'.ownsMap Try.prog 3 (plainElem Try.prog 3) bm (Maps.size D + 1) (D.put (.int .i64 (n : Int)) (.lit (.int .i64 (a : Int)))) ∧ w.grownBy w' (some bm) :=
  h.update int_key Try.underlying51 (by unfold maxLen; omega) (Maps.keyOf_int_mk Try.underlying3 (wf_i64 (by omega) (by omega))) (plainElem_int Try.underlying3 (wf_i64 (by omega) (by omega)))
set_option maxHeartbeats 2000000 in
theorem put_any (p : Nat) (F : Nat → Prop) (s : St) (at_ id : Int) (hw : -9223372036854775808 ≤ id ∧ id < 9223372036854775808) (hm : s.many < 1099511627776) (w : World) (H : Hid (WAt w p F s)) :
    Calls Try.prog 12 #[.pointer (some ⟨p, 0, none⟩), .int .i64 at_, .int .i64 id] w fun e w' => e = .returned (.tuple #[.int .i64 (putV s at_), .int .i64 (putE s at_)]) ∧ Stp w p F (putS s at_ id) w' := by
  have CL : Hid _ := lenW_any p F s w H.out
  have c0 : w.cell? ⟨p, 0, none⟩ = some (.int .i64 (s.now : Int)) := by
    obtain ⟨ho, sv, sl, bm, D, rfl, h1, h2, hr⟩ := H.out
    exact hr.c0
  by_cases g1 : at_ ≤ (s.now : Int)
  · have e0 : putE s at_ = 140 := by unfold putE; rw [if_pos g1]
    have e1 : putV s at_ = 0 := by unfold putV; rw [e0]; rfl
    have e2 : putS s at_ id = s := by unfold putS; rw [e0]; rfl
    rw [e0, e1, e2]
    clear e0 e1 e2
    go_enter Try.func12, Try.ntmps12
    go_wp2
    go_ret2
    exact ⟨rfl, H.out.stays (Below.refl _ _)⟩
  · by_cases g2 : (1099511627776 : Int) < at_
    · have e0 : putE s at_ = 1 := by unfold putE; rw [if_neg g1, if_pos (show (maxT : Int) < at_ from g2)]
      have e1 : putV s at_ = 0 := by unfold putV; rw [e0]; rfl
      have e2 : putS s at_ id = s := by unfold putS; rw [e0]; rfl
      rw [e0, e1, e2]
      clear e0 e1 e2
      go_enter Try.func12, Try.ntmps12
      go_wp2
      go_ret2
      exact ⟨rfl, H.out.stays (Below.refl _ _)⟩
    · by_cases g3 : (4096 : Int) ≤ (s.l.length : Int)
      · have e0 : putE s at_ = 2 := by unfold putE; rw [if_neg g1, if_neg (show ¬ (maxT : Int) < at_ from g2), if_pos (show maxI ≤ s.l.length by unfold maxI; omega)]
        have e1 : putV s at_ = 0 := by unfold putV; rw [e0]; rfl
        have e2 : putS s at_ id = s := by unfold putS; rw [e0]; rfl
        rw [e0, e1, e2]
        clear e0 e1 e2
        go_enter Try.func12, Try.ntmps12
        go_wp2_with (go_at_call 23; refine Calls.mono CL.out ?_; rintro e w' ⟨rfl, rfl⟩)
        go_ret2
        exact ⟨rfl, H.out.stays (Below.refl _ _)⟩
      · have e0 : putE s at_ = 0 := by unfold putE; rw [if_neg g1, if_neg (show ¬ (maxT : Int) < at_ from g2), if_neg (show ¬ maxI ≤ s.l.length by unfold maxI; omega)]
        have e1 : putV s at_ = ((s.many + 1 : Nat) : Int) := by unfold putV; rw [if_pos e0]; rfl
        have e2 : putS s at_ id = ⟨s.now, s.many + 1, ins ⟨at_.toNat, s.many + 1, id⟩ s.l⟩ := by unfold putS; rw [if_pos e0]
        have okp := H.out.ok.put at_ id hw
        rw [e2] at okp
        rw [e0, e1, e2]
        clear e0 e1 e2
        obtain ⟨a, rfl⟩ : ∃ a : Nat, at_ = (a : Int) := ⟨at_.toNat, by omega⟩
        rw [Int.toNat_natCast] at okp ⊢
        have OKP : Hid _ := okp
        clear okp
        obtain ⟨ho, sv, sl, bm, D, rfl, h1, h2, hr⟩ := H.out
        have hnow : s.now ≤ 1099511627776 := ho.now
        have r1 := hr.setPut (s.many + 1)
        have hsz : Maps.size D ≤ 4096 := by rw [h2.size]; omega
        obtain ⟨w3, m1, m2, m3⟩ := map_put ((w.setCell ⟨p, 1, none⟩ (.int .i64 ((s.many + 1 : Nat) : Int))).drew) bm D r1.1.map hsz (s.many + 1) a (by omega) (by omega)
        have r2 := (Raw.later r1.1 (Below.refl _ _).drew).setMap m3 m2
        have c3 := r1.1.c3
        have d1 := r1.1.c1
        have c1 := hr.c1
        have f1 := hr.fr
        have PL : Hid _ := place_any p s.now (s.many + 1) sv sl bm (D.put (.int .i64 ((s.many + 1 : Nat) : Int)) (.lit (.int .i64 (a : Int)))) ⟨a, s.many + 1, id⟩ hnow (by show a ≤ _; omega) w3 r2.1 (by have := h1.length (k := pl s.now a) (pl_small hnow (by omega)); show (sl (pl s.now a)).length ≤ _; omega)
        have d1' := r2.1.c1
        have FIN : Hid (∀ sv' w4, Raw w4 p s.now (s.many + 1) sv' (upd sl (pl s.now a) (sl (pl s.now a) ++ [⟨a, s.many + 1, id⟩])) bm (D.put (.int .i64 ((s.many + 1 : Nat) : Int)) (.lit (.int .i64 (a : Int)))) ∧ Nx w3 (Foot p sv bm) (Foot p sv' bm) ∧ Bf (Foot p sv bm) w3 w4 → Stp w p (Foot p sv bm) ⟨s.now, s.many + 1, ins ⟨a, s.many + 1, id⟩ s.l⟩ w4) := by
          rintro sv' w4 ⟨k1, k2, k3⟩
          have b3 : Bf (Foot p sv bm) w w3 := (r1.2.later (Below.refl _ _).drew).trans (Nx.refl _ _) r2.2
          refine ⟨Foot p sv' bm, ⟨OKP.out, sv', _, bm, _, rfl, h1.put ⟨a, s.many + 1, id⟩, ?_, k1⟩, (Nx.refl w _).trans k2 b3.size, b3.trans (Nx.refl _ _) k3⟩
          refine (h2.put (t := ⟨a, s.many + 1, id⟩) (hr.map.tidy int_key) (fun x hx => ?_)).perm (ins_perm _ _).symm
          have := (ho.num x hx).2
          show x.n ≠ s.many + 1
          omega
        have z1 : IntKind.i64.wrap ((s.many : Int) + 1) = ((s.many + 1 : Nat) : Int) := by rw [IntKind.wrap_i64]; omega
        have hpl : p < w.heap.size := hr.lt (.inl rfl)
        clear H hr h1 h2 ho r1 r2 m2 m3 OKP
        obtain ⟨M, hM⟩ : ∃ M, s.many + 1 = M := ⟨_, rfl⟩
        rw [hM] at m1 d1 c3 PL d1' FIN z1 ⊢
        go_enter Try.func12, Try.ntmps12
        go_wp2_with (go_at_call 23; refine Calls.mono CL.out ?_; rintro e w' ⟨rfl, rfl⟩)
        clear hM c1 f1
        obtain ⟨W, hW⟩ : ∃ W, w'.setCell ⟨p, 1, none⟩ (.int .i64 (M : Int)) = W := ⟨_, rfl⟩
        rw [hW] at m1 d1 c3 ⊢
        clear hW CL c0
        go_region_with (fail)
        all_goals
          go_wp2_with fail
          refine Calls.mono PL.out ?_
          rintro e w4 ⟨rfl, sv', hR⟩
          have c4 := hR.1.c1
          have FF : Hid _ := FIN.out sv' w4 hR
          clear hR FIN d1'
          go_wp2
          go_ret2
          exact ⟨rfl, FF.out⟩
end Go.Proofs.Ythnkkkiobbnpmaa
