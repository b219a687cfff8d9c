/- What mul of package field does. -/
import Derived.Test.YtdebfelgaiofeaaW5
namespace Go.Proofs.Ytdebfelgaiofeaa
open Go.RowKit Go.Proofs.Fd

set_option maxHeartbeats 4000000 in
theorem mul_any (a0 a1 a2 a3 b0 b1 b2 b3 : Nat) (ha : Hid (u4 a0 a1 a2 a3)) (hb : Hid (u4 b0 b1 b2 b3)) (w : World) :
    Calls Try.prog 68 #[.agg #[.int .u64 a0, .int .u64 a1, .int .u64 a2, .int .u64 a3], .agg #[.int .u64 b0, .int .u64 b1, .int .u64 b2, .int .u64 b3]] w fun e w' =>
      ∃ c0 c1 c2 c3 : Nat, e = .returned (.agg #[.int .u64 c0, .int .u64 c1, .int .u64 c2, .int .u64 c3]) ∧ u4 c0 c1 c2 c3 ∧ v4 c0 c1 c2 c3 = (v4 a0 a1 a2 a3 * v4 b0 b1 b2 b3) % p ∧ Below w.heap.size w w' := by
  obtain ⟨ha0, ha1, ha2, ha3⟩ := ha.out
  obtain ⟨hb0, hb1, hb2, hb3⟩ := hb.out
  have ia0 : ∀ w, (Instr.index 51 (.agg #[.int .u64 a0, .int .u64 a1, .int .u64 a2, .int .u64 a3]) (.int .i64 0)).run Try.prog w = .ok (.int .u64 a0) w := fun _ => by kernel_rfl
  have ia1 : ∀ w, (Instr.index 51 (.agg #[.int .u64 a0, .int .u64 a1, .int .u64 a2, .int .u64 a3]) (.int .i64 1)).run Try.prog w = .ok (.int .u64 a1) w := fun _ => by kernel_rfl
  have ia2 : ∀ w, (Instr.index 51 (.agg #[.int .u64 a0, .int .u64 a1, .int .u64 a2, .int .u64 a3]) (.int .i64 2)).run Try.prog w = .ok (.int .u64 a2) w := fun _ => by kernel_rfl
  have ia3 : ∀ w, (Instr.index 51 (.agg #[.int .u64 a0, .int .u64 a1, .int .u64 a2, .int .u64 a3]) (.int .i64 3)).run Try.prog w = .ok (.int .u64 a3) w := fun _ => by kernel_rfl
  have ib0 : ∀ w, (Instr.index 51 (.agg #[.int .u64 b0, .int .u64 b1, .int .u64 b2, .int .u64 b3]) (.int .i64 0)).run Try.prog w = .ok (.int .u64 b0) w := fun _ => by kernel_rfl
  have ib1 : ∀ w, (Instr.index 51 (.agg #[.int .u64 b0, .int .u64 b1, .int .u64 b2, .int .u64 b3]) (.int .i64 1)).run Try.prog w = .ok (.int .u64 b1) w := fun _ => by kernel_rfl
  have ib2 : ∀ w, (Instr.index 51 (.agg #[.int .u64 b0, .int .u64 b1, .int .u64 b2, .int .u64 b3]) (.int .i64 2)).run Try.prog w = .ok (.int .u64 b2) w := fun _ => by kernel_rfl
  have ib3 : ∀ w, (Instr.index 51 (.agg #[.int .u64 b0, .int .u64 b1, .int .u64 b2, .int .u64 b3]) (.int .i64 3)).run Try.prog w = .ok (.int .u64 b3) w := fun _ => by kernel_rfl
  go_enter Try.func68, Try.ntmps68
  go_wp2
  refine wp_loop_rounds 5 ?_
  rw [rounds_succ]
  go_wp2
  refine wp_loop_rounds 5 ?_
  rw [rounds_succ]
  go_wp2_with fail
  refine Calls.mono (step_any a0 b0 0 0 (by omega) (by omega) (by omega) (by omega) _) ?_
  rintro e w' ⟨l00, k00, rfl, ul00, uk00, e00, hw⟩
  subst hw
  go_wp2
  rw [rounds_succ]
  go_wp2_with fail
  refine Calls.mono (step_any a0 b1 0 k00 (by omega) (by omega) (by omega) (by omega) _) ?_
  rintro e w' ⟨l01, k01, rfl, ul01, uk01, e01, hw⟩
  subst hw
  go_wp2
  rw [rounds_succ]
  go_wp2_with fail
  refine Calls.mono (step_any a0 b2 0 k01 (by omega) (by omega) (by omega) (by omega) _) ?_
  rintro e w' ⟨l02, k02, rfl, ul02, uk02, e02, hw⟩
  subst hw
  go_wp2
  rw [rounds_succ]
  go_wp2_with fail
  refine Calls.mono (step_any a0 b3 0 k02 (by omega) (by omega) (by omega) (by omega) _) ?_
  rintro e w' ⟨l03, k03, rfl, ul03, uk03, e03, hw⟩
  subst hw
  go_wp2
  rw [rounds_succ]
  go_wp2
  rw [rounds_succ]
  go_wp2
  refine wp_loop_rounds 5 ?_
  rw [rounds_succ]
  go_wp2_with fail
  refine Calls.mono (step_any a1 b0 l01 0 (by omega) (by omega) (by omega) (by omega) _) ?_
  rintro e w' ⟨l10, k10, rfl, ul10, uk10, e10, hw⟩
  subst hw
  go_wp2
  rw [rounds_succ]
  go_wp2_with fail
  refine Calls.mono (step_any a1 b1 l02 k10 (by omega) (by omega) (by omega) (by omega) _) ?_
  rintro e w' ⟨l11, k11, rfl, ul11, uk11, e11, hw⟩
  subst hw
  go_wp2
  rw [rounds_succ]
  go_wp2_with fail
  refine Calls.mono (step_any a1 b2 l03 k11 (by omega) (by omega) (by omega) (by omega) _) ?_
  rintro e w' ⟨l12, k12, rfl, ul12, uk12, e12, hw⟩
  subst hw
  go_wp2
  rw [rounds_succ]
  go_wp2_with fail
  refine Calls.mono (step_any a1 b3 k03 k12 (by omega) (by omega) (by omega) (by omega) _) ?_
  rintro e w' ⟨l13, k13, rfl, ul13, uk13, e13, hw⟩
  subst hw
  go_wp2
  rw [rounds_succ]
  go_wp2
  rw [rounds_succ]
  go_wp2
  refine wp_loop_rounds 5 ?_
  rw [rounds_succ]
  go_wp2_with fail
  refine Calls.mono (step_any a2 b0 l11 0 (by omega) (by omega) (by omega) (by omega) _) ?_
  rintro e w' ⟨l20, k20, rfl, ul20, uk20, e20, hw⟩
  subst hw
  go_wp2
  rw [rounds_succ]
  go_wp2_with fail
  refine Calls.mono (step_any a2 b1 l12 k20 (by omega) (by omega) (by omega) (by omega) _) ?_
  rintro e w' ⟨l21, k21, rfl, ul21, uk21, e21, hw⟩
  subst hw
  go_wp2
  rw [rounds_succ]
  go_wp2_with fail
  refine Calls.mono (step_any a2 b2 l13 k21 (by omega) (by omega) (by omega) (by omega) _) ?_
  rintro e w' ⟨l22, k22, rfl, ul22, uk22, e22, hw⟩
  subst hw
  go_wp2
  rw [rounds_succ]
  go_wp2_with fail
  refine Calls.mono (step_any a2 b3 k13 k22 (by omega) (by omega) (by omega) (by omega) _) ?_
  rintro e w' ⟨l23, k23, rfl, ul23, uk23, e23, hw⟩
  subst hw
  go_wp2
  rw [rounds_succ]
  go_wp2
  rw [rounds_succ]
  go_wp2
  refine wp_loop_rounds 5 ?_
  rw [rounds_succ]
  go_wp2_with fail
  refine Calls.mono (step_any a3 b0 l21 0 (by omega) (by omega) (by omega) (by omega) _) ?_
  rintro e w' ⟨l30, k30, rfl, ul30, uk30, e30, hw⟩
  subst hw
  go_wp2
  rw [rounds_succ]
  go_wp2_with fail
  refine Calls.mono (step_any a3 b1 l22 k30 (by omega) (by omega) (by omega) (by omega) _) ?_
  rintro e w' ⟨l31, k31, rfl, ul31, uk31, e31, hw⟩
  subst hw
  go_wp2
  rw [rounds_succ]
  go_wp2_with fail
  refine Calls.mono (step_any a3 b2 l23 k31 (by omega) (by omega) (by omega) (by omega) _) ?_
  rintro e w' ⟨l32, k32, rfl, ul32, uk32, e32, hw⟩
  subst hw
  go_wp2
  rw [rounds_succ]
  go_wp2_with fail
  refine Calls.mono (step_any a3 b3 k23 k32 (by omega) (by omega) (by omega) (by omega) _) ?_
  rintro e w' ⟨l33, k33, rfl, ul33, uk33, e33, hw⟩
  subst hw
  go_wp2
  rw [rounds_succ]
  go_wp2
  rw [rounds_succ]
  go_wp2_with fail
  have UL : Hid (u4 l00 l10 l20 l30) := ⟨ul00, ul10, ul20, ul30⟩
  have UH : Hid (u4 l31 l32 l33 k33) := ⟨ul31, ul32, ul33, uk33⟩
  have q0 := row_val a0 b0 b1 b2 b3 0 0 0 0 l00 l01 l02 l03 k00 k01 k02 k03 e00.out e01.out e02.out e03.out
  have q1 := row_val a1 b0 b1 b2 b3 l01 l02 l03 k03 l10 l11 l12 l13 k10 k11 k12 k13 e10.out e11.out e12.out e13.out
  have q2 := row_val a2 b0 b1 b2 b3 l11 l12 l13 k13 l20 l21 l22 l23 k20 k21 k22 k23 e20.out e21.out e22.out e23.out
  have q3 := row_val a3 b0 b1 b2 b3 l21 l22 l23 k23 l30 l31 l32 l33 k30 k31 k32 k33 e30.out e31.out e32.out e33.out
  have fv := mul_val a0 a1 a2 a3 _ _ _ _ _ _ _ _ _ _ _ _ _ _ _ _ _ _ _ _ _ q0 q1 q2 q3
  refine Calls.mono (fold_any l00 l10 l20 l30 l31 l32 l33 k33 UL UH _) ?_
  rintro e wz ⟨c0, c1, c2, c3, rfl, uc, vc, hz⟩
  obtain ⟨rf, r0, r1, r2, r3⟩ := At4.later (b := w.heap.size + 1 + 1) (x0 := .int .u64 0) (x1 := .int .u64 0) (x2 := .int .u64 0) (x3 := .int .u64 0) (by simp [At4, go_sem]) hz
  have HF : Hid (u4 c0 c1 c2 c3 ∧ v4 c0 c1 c2 c3 = (v4 a0 a1 a2 a3 * v4 b0 b1 b2 b3) % p ∧ Below w.heap.size w wz) := by
    refine ⟨uc, by rw [vc, fv], ?_⟩
    refine chain ?_ hz
    repeat (first | exact Below.refl _ _ | refine Below.setCell ?_ (by simp; try omega) _ | refine Below.drew ?_ | refine Below.alloc ?_ (by simp; try omega) _)
  clear uc vc hz fv q0 q1 q2 q3
  go_wp2
  refine bodyPost_ret (v := .agg #[.int .u64 c0, .int .u64 c1, .int .u64 c2, .int .u64 c3]) (by simp [results, Try.results68, go_sem, *]) rfl ⟨c0, c1, c2, c3, rfl, HF.out.1, HF.out.2.1, ?_⟩
  repeat (first | exact HF.out.2.2 | refine Below.setCell ?_ (by simp; try omega) _)

end Go.Proofs.Ytdebfelgaiofeaa
