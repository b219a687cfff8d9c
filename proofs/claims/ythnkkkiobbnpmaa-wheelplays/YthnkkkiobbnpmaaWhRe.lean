/- The document's Cancel, whole. -/
import Derived.Test.YthnkkkiobbnpmaaWhRd
namespace Go.Proofs.Ythnkkkiobbnpmaa
open Go.RowKit Go.Proofs.Fd Go.Proofs.Wh
set_option maxRecDepth 20000

set_option maxHeartbeats 4000000 in
theorem rcan_any (d : Nat) (v : Value) (s : St) (ho : Ok s) (n : Int) (w : World) (H : DAt w d v s) :
    Calls Try.prog 15 #[.pointer (some ⟨d, 0, none⟩), .int .i64 n] w fun e w' => e = .returned (.int .i64 (canE s n)) ∧ DSt w d v (canS s n) w' := by
  have HH : Hid (DAt w d v s) := H
  have HO : Hid (Ok s) := ho
  obtain ⟨va, vc, rfl, hv⟩ := H.val
  have HV : Hid _ := hv
  have c0 := H.c0
  clear H ho hv
  obtain ⟨m, hm⟩ : ∃ m, s.l.length = m := ⟨_, rfl⟩
  rw [hm] at c0
  have HM : Hid (s.l.length = m) := hm
  have hm4 : m ≤ 4096 := by have := HO.out.long; unfold maxI at this; omega
  go_enter Try.func15, Try.ntmps15
  go_wp2_with fail
  go_loopw [5] (fun i wr => ∃ k : Nat, k ≤ m ∧ i = .int .i64 (k : Int) ∧ w = wr ∧ Hid (∀ t ∈ s.l.take k, ¬ (t.n : Int) = n)) (fun i wr => m - (intOf i).toNat)
  case atStart => exact ⟨0, Nat.zero_le _, rfl, rfl, fun t ht => by rw [List.take_zero] at ht; cases ht⟩
  case round =>
    obtain ⟨k, hk, rfl, hwr, I⟩ := hrel
    subst hwr
    by_cases hkm : k < m
    · have hkl : k < s.l.length := by omega
      obtain ⟨g, rfl, -, -, a2⟩ := HV.out k hkl
      have gk : (k : Int) < (m : Int) := by omega
      by_cases ht : (s.l[k].n : Int) = n
      · obtain ⟨e1, e2⟩ := can_found HO.out hkl ht
        have E1 : Hid (canE s n = 0) := e1
        have HK : Hid (k ≤ 4096) := by show _ ≤ _; have := HO.out.long; unfold maxI at this; omega
        rw [ht] at a2
        have AA : Hid (∀ Z, w.drew = Z → ∃ x1 x2 a1 n1 c1 w2 a3 n3 c3 w4, Hid ((∀ W', (Instr.slice 26 (.slice (some ⟨g, 0, none⟩) m vc) none (some (.int .i64 (k : Int))) none).run Try.prog W' = .ok x1 W')
            ∧ (∀ W', (Instr.slice 26 (.slice (some ⟨g, 0, none⟩) m vc) (some (.int .i64 ((k + 1 : Nat) : Int))) none none).run Try.prog W' = .ok x2 W')
            ∧ (Builtin.append_ #[26, 26] 26 #[.slice (some ⟨Z.heap.size, 0, none⟩) 0 0, x1]).run Try.prog (Z.alloc (.cells #[] 61)) = .ok (.slice a1 n1 c1) w2
            ∧ w2.cell? ⟨d, 0, none⟩ = some (.slice (some ⟨g, 0, none⟩) m vc)
            ∧ (Builtin.append_ #[26, 26] 26 #[.slice a1 n1 c1, x2]).run Try.prog w2 = .ok (.slice a3 n3 c3) w4
            ∧ w4.cell? ⟨d, 0, none⟩ = some (.slice (some ⟨g, 0, none⟩) m vc) ∧ w4.frozen? ⟨d, 0, none⟩ = false
            ∧ DSt w d (.slice (some ⟨g, 0, none⟩) s.l.length vc) (canS s n) (w4.setCell ⟨d, 0, none⟩ (.slice a3 n3 c3)))) := by
          rintro Z rfl
          have DZ := HH.out.later ((Below.refl _ _).drew)
          obtain ⟨x1, x2, a1, n1, c1, w2, a3, n3, c3, w4, r1, r2, r3, r4, r5, r6, r7, r8⟩ := rcan_runs DZ (by have := HO.out.long; unfold maxI at this; omega) hkl
          rw [hm] at r1 r2 r4 r6
          rw [← e2] at r8
          exact ⟨x1, x2, a1, n1, c1, w2, a3, n3, c3, w4, r1, r2, r3, r4, r5, r6, r7, r8.front ((Below.refl _ _).drew)⟩
        clear e1 e2 I HV HO ht hkl HH
        go_wp2_with fail
        obtain ⟨x1, x2, a1, n1, c1, w2, a3, n3, c3, w4, r1, r2, r3, r4, r5, r6, r7, r8⟩ := AA.out _ rfl
        have FF : Hid _ := r8
        refine rcan_region _ d k HK.out _ _ _ _ _ _ _ _ _ _ _ _ _ _ _ _ _ _ _ _ _ _ _ _ _ _ _ _ _ _ _ _ _ _ _ _ _ _ _ _ _ _ _ _ _ x1 x2 a1 n1 c1 w2 a3 n3 c3 w4 c0 ⟨r1, r2, r3, r4, r5, r6, r7⟩ ?_
        intro e25 e26 e27 e28 e29 e30 e31 e32 e33 e34 e35 e36 e37 e38 e39 e40 e41 e42 e43
        clear r1 r2 r3 r4 r5 r6 r7 r8 AA c0 a2
        go_wp2
        go_ret
        exact ⟨by rw [E1.out]; rfl, FF.out⟩
      · obtain ⟨x, hx⟩ : ∃ x, (s.l[k].n : Int) = x := ⟨_, rfl⟩
        rw [hx] at a2 ht
        have J : Hid (∀ t ∈ s.l.take (k + 1), ¬ (t.n : Int) = n) := fun t hh => by
          rw [List.take_succ_eq_append_getElem hkl, List.mem_append, List.mem_singleton] at hh
          rcases hh with hh | rfl
          · exact I.out t hh
          · rw [hx]
            exact ht
        have ht' : (x == n) = false := by rw [beq_eq_false_iff_ne]; exact ht
        have K1 : Hid (k + 1 ≤ m) := hkm
        clear ht hx I
        go_wp2
        go_roundw
        case rel => exact ⟨k + 1, K1.out, by go_num, by first | rfl | trivial, J.out⟩
        case measure => simp [intOf]; omega
    · obtain rfl : k = m := by omega
      obtain ⟨e1, e2⟩ := can_none (s := s) (n := n) (fun t ht => I.out t (by rw [List.take_of_length_le (Nat.le_of_eq HM.out)]; exact ht))
      have E1 : Hid (canE s n = 5) := e1
      have SS : Hid (DSt w d (.slice va s.l.length vc) (canS s n) w) := by rw [e2]; exact ⟨_, HH.out, fun g e => .inl e, Bf.refl _ _⟩
      clear e1 e2 I
      go_wp2
      go_ret
      exact ⟨by rw [E1.out]; rfl, SS.out⟩
end Go.Proofs.Ythnkkkiobbnpmaa
