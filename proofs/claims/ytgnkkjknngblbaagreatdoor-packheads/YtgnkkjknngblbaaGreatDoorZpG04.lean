/- Parts: W6, W7, H2, W8, W9, W10, W11. -/
import Derived.Test.YtgnkkjknngblbaaGreatDoorZpG03
import Derived.Test.YtgnkkjknngblbaaGreatDoorZpG02
import Derived.Deep.QuietTactic
import Derived.BigQuiet
import Derived.Deep.RegionHeld3
import Derived.Deep.DrawnRows
import Derived.Deep.DeepCutAuto
namespace Go.Proofs.YtgnkkjknngblbaaGreatDoor.Crv
open Go.RowKit Go.Proofs.Fd
set_option maxRecDepth 20000
set_option maxHeartbeats 4000000 in
theorem mul_any (a0 a1 a2 a3 b0 b1 b2 b3 : Nat) (ha : Hid (u4 a0 a1 a2 a3)) (hb : Hid (u4 b0 b1 b2 b3)) (w : World) :
    Calls Tryz.prog 180 #[.agg #[.int .u64 a0, .int .u64 a1, .int .u64 a2, .int .u64 a3], .agg #[.int .u64 b0, .int .u64 b1, .int .u64 b2, .int .u64 b3]] w fun e w' =>
      ∃ c0 c1 c2 c3 : Nat, e = .returned (.agg #[.int .u64 c0, .int .u64 c1, .int .u64 c2, .int .u64 c3]) ∧ u4 c0 c1 c2 c3 ∧ v4 c0 c1 c2 c3 = (v4 a0 a1 a2 a3 * v4 b0 b1 b2 b3) % p ∧ Below w.heap.size w w' := by
  obtain ⟨ha0, ha1, ha2, ha3⟩ := ha.out
  obtain ⟨hb0, hb1, hb2, hb3⟩ := hb.out
  have ia0 : ∀ w, (Instr.index 160 (.agg #[.int .u64 a0, .int .u64 a1, .int .u64 a2, .int .u64 a3]) (.int .i64 0)).run Tryz.prog w = .ok (.int .u64 a0) w := fun _ => by kernel_rfl
  have ia1 : ∀ w, (Instr.index 160 (.agg #[.int .u64 a0, .int .u64 a1, .int .u64 a2, .int .u64 a3]) (.int .i64 1)).run Tryz.prog w = .ok (.int .u64 a1) w := fun _ => by kernel_rfl
  have ia2 : ∀ w, (Instr.index 160 (.agg #[.int .u64 a0, .int .u64 a1, .int .u64 a2, .int .u64 a3]) (.int .i64 2)).run Tryz.prog w = .ok (.int .u64 a2) w := fun _ => by kernel_rfl
  have ia3 : ∀ w, (Instr.index 160 (.agg #[.int .u64 a0, .int .u64 a1, .int .u64 a2, .int .u64 a3]) (.int .i64 3)).run Tryz.prog w = .ok (.int .u64 a3) w := fun _ => by kernel_rfl
  have ib0 : ∀ w, (Instr.index 160 (.agg #[.int .u64 b0, .int .u64 b1, .int .u64 b2, .int .u64 b3]) (.int .i64 0)).run Tryz.prog w = .ok (.int .u64 b0) w := fun _ => by kernel_rfl
  have ib1 : ∀ w, (Instr.index 160 (.agg #[.int .u64 b0, .int .u64 b1, .int .u64 b2, .int .u64 b3]) (.int .i64 1)).run Tryz.prog w = .ok (.int .u64 b1) w := fun _ => by kernel_rfl
  have ib2 : ∀ w, (Instr.index 160 (.agg #[.int .u64 b0, .int .u64 b1, .int .u64 b2, .int .u64 b3]) (.int .i64 2)).run Tryz.prog w = .ok (.int .u64 b2) w := fun _ => by kernel_rfl
  have ib3 : ∀ w, (Instr.index 160 (.agg #[.int .u64 b0, .int .u64 b1, .int .u64 b2, .int .u64 b3]) (.int .i64 3)).run Tryz.prog w = .ok (.int .u64 b3) w := fun _ => by kernel_rfl
  go_enter Tryz.func180, Tryz.ntmps180
  go_wp2
  refine wp_loop_rounds 5 ?_
  rw [rounds_succ]
  go_wp2
  refine wp_loop_rounds 5 ?_
  rw [rounds_succ]
  go_wp2_with fail
  refine Calls.mono (step_any a0 b0 0 0 (by omega) (by omega) (by omega) (by omega) _) ?_
  rintro e w' ⟨l00, k00, rfl, ul00, uk00, e00, hw⟩
  subst hw
  go_wp2
  rw [rounds_succ]
  go_wp2_with fail
  refine Calls.mono (step_any a0 b1 0 k00 (by omega) (by omega) (by omega) (by omega) _) ?_
  rintro e w' ⟨l01, k01, rfl, ul01, uk01, e01, hw⟩
  subst hw
  go_wp2
  rw [rounds_succ]
  go_wp2_with fail
  refine Calls.mono (step_any a0 b2 0 k01 (by omega) (by omega) (by omega) (by omega) _) ?_
  rintro e w' ⟨l02, k02, rfl, ul02, uk02, e02, hw⟩
  subst hw
  go_wp2
  rw [rounds_succ]
  go_wp2_with fail
  refine Calls.mono (step_any a0 b3 0 k02 (by omega) (by omega) (by omega) (by omega) _) ?_
  rintro e w' ⟨l03, k03, rfl, ul03, uk03, e03, hw⟩
  subst hw
  go_wp2
  rw [rounds_succ]
  go_wp2
  rw [rounds_succ]
  go_wp2
  refine wp_loop_rounds 5 ?_
  rw [rounds_succ]
  go_wp2_with fail
  refine Calls.mono (step_any a1 b0 l01 0 (by omega) (by omega) (by omega) (by omega) _) ?_
  rintro e w' ⟨l10, k10, rfl, ul10, uk10, e10, hw⟩
  subst hw
  go_wp2
  rw [rounds_succ]
  go_wp2_with fail
  refine Calls.mono (step_any a1 b1 l02 k10 (by omega) (by omega) (by omega) (by omega) _) ?_
  rintro e w' ⟨l11, k11, rfl, ul11, uk11, e11, hw⟩
  subst hw
  go_wp2
  rw [rounds_succ]
  go_wp2_with fail
  refine Calls.mono (step_any a1 b2 l03 k11 (by omega) (by omega) (by omega) (by omega) _) ?_
  rintro e w' ⟨l12, k12, rfl, ul12, uk12, e12, hw⟩
  subst hw
  go_wp2
  rw [rounds_succ]
  go_wp2_with fail
  refine Calls.mono (step_any a1 b3 k03 k12 (by omega) (by omega) (by omega) (by omega) _) ?_
  rintro e w' ⟨l13, k13, rfl, ul13, uk13, e13, hw⟩
  subst hw
  go_wp2
  rw [rounds_succ]
  go_wp2
  rw [rounds_succ]
  go_wp2
  refine wp_loop_rounds 5 ?_
  rw [rounds_succ]
  go_wp2_with fail
  refine Calls.mono (step_any a2 b0 l11 0 (by omega) (by omega) (by omega) (by omega) _) ?_
  rintro e w' ⟨l20, k20, rfl, ul20, uk20, e20, hw⟩
  subst hw
  go_wp2
  rw [rounds_succ]
  go_wp2_with fail
  refine Calls.mono (step_any a2 b1 l12 k20 (by omega) (by omega) (by omega) (by omega) _) ?_
  rintro e w' ⟨l21, k21, rfl, ul21, uk21, e21, hw⟩
  subst hw
  go_wp2
  rw [rounds_succ]
  go_wp2_with fail
  refine Calls.mono (step_any a2 b2 l13 k21 (by omega) (by omega) (by omega) (by omega) _) ?_
  rintro e w' ⟨l22, k22, rfl, ul22, uk22, e22, hw⟩
  subst hw
  go_wp2
  rw [rounds_succ]
  go_wp2_with fail
  refine Calls.mono (step_any a2 b3 k13 k22 (by omega) (by omega) (by omega) (by omega) _) ?_
  rintro e w' ⟨l23, k23, rfl, ul23, uk23, e23, hw⟩
  subst hw
  go_wp2
  rw [rounds_succ]
  go_wp2
  rw [rounds_succ]
  go_wp2
  refine wp_loop_rounds 5 ?_
  rw [rounds_succ]
  go_wp2_with fail
  refine Calls.mono (step_any a3 b0 l21 0 (by omega) (by omega) (by omega) (by omega) _) ?_
  rintro e w' ⟨l30, k30, rfl, ul30, uk30, e30, hw⟩
  subst hw
  go_wp2
  rw [rounds_succ]
  go_wp2_with fail
  refine Calls.mono (step_any a3 b1 l22 k30 (by omega) (by omega) (by omega) (by omega) _) ?_
  rintro e w' ⟨l31, k31, rfl, ul31, uk31, e31, hw⟩
  subst hw
  go_wp2
  rw [rounds_succ]
  go_wp2_with fail
  refine Calls.mono (step_any a3 b2 l23 k31 (by omega) (by omega) (by omega) (by omega) _) ?_
  rintro e w' ⟨l32, k32, rfl, ul32, uk32, e32, hw⟩
  subst hw
  go_wp2
  rw [rounds_succ]
  go_wp2_with fail
  refine Calls.mono (step_any a3 b3 k23 k32 (by omega) (by omega) (by omega) (by omega) _) ?_
  rintro e w' ⟨l33, k33, rfl, ul33, uk33, e33, hw⟩
  subst hw
  go_wp2
  rw [rounds_succ]
  go_wp2
  rw [rounds_succ]
  go_wp2_with fail
  have UL : Hid (u4 l00 l10 l20 l30) := ⟨ul00, ul10, ul20, ul30⟩
  have UH : Hid (u4 l31 l32 l33 k33) := ⟨ul31, ul32, ul33, uk33⟩
  have q0 := row_val a0 b0 b1 b2 b3 0 0 0 0 l00 l01 l02 l03 k00 k01 k02 k03 e00.out e01.out e02.out e03.out
  have q1 := row_val a1 b0 b1 b2 b3 l01 l02 l03 k03 l10 l11 l12 l13 k10 k11 k12 k13 e10.out e11.out e12.out e13.out
  have q2 := row_val a2 b0 b1 b2 b3 l11 l12 l13 k13 l20 l21 l22 l23 k20 k21 k22 k23 e20.out e21.out e22.out e23.out
  have q3 := row_val a3 b0 b1 b2 b3 l21 l22 l23 k23 l30 l31 l32 l33 k30 k31 k32 k33 e30.out e31.out e32.out e33.out
  have fv := mul_val a0 a1 a2 a3 _ _ _ _ _ _ _ _ _ _ _ _ _ _ _ _ _ _ _ _ _ q0 q1 q2 q3
  refine Calls.mono (fold_any l00 l10 l20 l30 l31 l32 l33 k33 UL UH _) ?_
  rintro e wz ⟨c0, c1, c2, c3, rfl, uc, vc, hz⟩
  obtain ⟨rf, r0, r1, r2, r3⟩ := At4.later (b := w.heap.size + 1 + 1) (x0 := .int .u64 0) (x1 := .int .u64 0) (x2 := .int .u64 0) (x3 := .int .u64 0) (by simp [At4, go_sem]) hz
  have HF : Hid (u4 c0 c1 c2 c3 ∧ v4 c0 c1 c2 c3 = (v4 a0 a1 a2 a3 * v4 b0 b1 b2 b3) % p ∧ Below w.heap.size w wz) := by
    refine ⟨uc, by rw [vc, fv], ?_⟩
    refine chain ?_ hz
    repeat (first | exact Below.refl _ _ | refine Below.setCell ?_ (by simp; try omega) _ | refine Below.drew ?_ | refine Below.alloc ?_ (by simp; try omega) _)
  clear uc vc hz fv q0 q1 q2 q3
  go_wp2
  refine bodyPost_ret (v := .agg #[.int .u64 c0, .int .u64 c1, .int .u64 c2, .int .u64 c3]) (by simp [results, Tryz.results180, go_sem, *]) rfl ⟨c0, c1, c2, c3, rfl, HF.out.1, HF.out.2.1, ?_⟩
  repeat (first | exact HF.out.2.2 | refine Below.setCell ?_ (by simp; try omega) _)
end Go.Proofs.YtgnkkjknngblbaaGreatDoor.Crv
namespace Go.Proofs.YtgnkkjknngblbaaGreatDoor.Crv
open Go.RowKit Go.Proofs.Fd
set_option maxRecDepth 20000
attribute [local go_sem ↓] Go.wp_at_zero Go.wp_at_succ
set_option maxHeartbeats 1000000 in
theorem add_any (a0 a1 a2 a3 b0 b1 b2 b3 : Nat) (ha : Hid (u4 a0 a1 a2 a3)) (hb : Hid (u4 b0 b1 b2 b3)) (pa : Hid (v4 a0 a1 a2 a3 < p)) (pb : Hid (v4 b0 b1 b2 b3 < p)) (w : World) :
    Calls Tryz.prog 182 #[.agg #[.int .u64 a0, .int .u64 a1, .int .u64 a2, .int .u64 a3], .agg #[.int .u64 b0, .int .u64 b1, .int .u64 b2, .int .u64 b3]] w fun e w' =>
      ∃ c0 c1 c2 c3 : Nat, e = .returned (.agg #[.int .u64 c0, .int .u64 c1, .int .u64 c2, .int .u64 c3]) ∧ u4 c0 c1 c2 c3 ∧ v4 c0 c1 c2 c3 = (v4 a0 a1 a2 a3 + v4 b0 b1 b2 b3) % p ∧ Below w.heap.size w w' := by
  have S0 : Hid (∀ c0 c1 c2 c3, Hid (u4 c0 c1 c2 c3) → ∀ w, Calls Tryz.prog 171 #[.agg #[.int .u64 (c0 : Nat), .int .u64 (c1 : Nat), .int .u64 (c2 : Nat), .int .u64 (c3 : Nat)], .int .u64 0] w fun e w' =>
      ∃ d0 d1 d2 d3 : Nat, e = .returned (.agg #[.int .u64 d0, .int .u64 d1, .int .u64 d2, .int .u64 d3]) ∧ u4 d0 d1 d2 d3 ∧ v4 d0 d1 d2 d3 = (v4 c0 c1 c2 c3 + 0 * W256) % p ∧ Below w.heap.size w w') :=
    fun c0 c1 c2 c3 hc w => settle_any c0 c1 c2 c3 0 hc (by omega) w
  go_enter Tryz.func182, Tryz.ntmps182
  go_wp2_with fail
  refine Calls.mono (sum_any a0 a1 a2 a3 b0 b1 b2 b3 ha hb _) ?_
  rintro e w1 ⟨c0, c1, c2, c3, rfl, uc, vc, hb1⟩
  have UC : Hid (u4 c0 c1 c2 c3) := uc
  have VC : Hid (v4 c0 c1 c2 c3 = (v4 a0 a1 a2 a3 + v4 b0 b1 b2 b3) % W256) := vc
  have A1 : Hid (At4 w1 (w.heap.size + 1 + 1) (.int .u64 0) (.int .u64 0) (.int .u64 0) (.int .u64 0) ∧ Below w.heap.size w w1) :=
    ⟨At4.later (by simp [At4, go_sem]) hb1, chain ((((Below.refl _ _).alloc (Nat.le_refl _) _).alloc (by simp) _).alloc (by simp; omega) _) hb1⟩
  clear uc vc hb1
  go_wp2_with fail
  refine Calls.mono (S0.out c0 c1 c2 c3 UC _) ?_
  rintro e w2 ⟨d0, d1, d2, d3, rfl, ud, vd, hb2⟩
  obtain ⟨rf, r0, r1, r2, r3⟩ := At4.later A1.out.1 hb2
  have HF : Hid (u4 d0 d1 d2 d3 ∧ v4 d0 d1 d2 d3 = (v4 a0 a1 a2 a3 + v4 b0 b1 b2 b3) % p ∧ Below w.heap.size w w2) :=
    ⟨ud, by rw [vd, VC.out]; exact add_once pa.out pb.out, chain A1.out.2 hb2⟩
  clear ud vd hb2 A1 S0
  go_wp2
  refine bodyPost_ret (v := .agg #[.int .u64 d0, .int .u64 d1, .int .u64 d2, .int .u64 d3]) (by simp [results, Tryz.results182, go_sem, *]) rfl ⟨d0, d1, d2, d3, rfl, HF.out.1, HF.out.2.1, ?_⟩
  repeat (first | exact HF.out.2.2 | refine Below.setCell ?_ (by simp; try omega) _)
set_option maxHeartbeats 1000000 in
theorem sub_any (a0 a1 a2 a3 b0 b1 b2 b3 : Nat) (ha : Hid (u4 a0 a1 a2 a3)) (hb : Hid (u4 b0 b1 b2 b3)) (pa : Hid (v4 a0 a1 a2 a3 < p)) (pb : Hid (v4 b0 b1 b2 b3 < p)) (w : World) :
    Calls Tryz.prog 181 #[.agg #[.int .u64 a0, .int .u64 a1, .int .u64 a2, .int .u64 a3], .agg #[.int .u64 b0, .int .u64 b1, .int .u64 b2, .int .u64 b3]] w fun e w' =>
      ∃ c0 c1 c2 c3 : Nat, e = .returned (.agg #[.int .u64 c0, .int .u64 c1, .int .u64 c2, .int .u64 c3]) ∧ u4 c0 c1 c2 c3 ∧ v4 c0 c1 c2 c3 = (v4 a0 a1 a2 a3 + p - v4 b0 b1 b2 b3) % p ∧ Below w.heap.size w w' := by
  have SP : Hid (∀ c0 c1 c2 c3, Hid (u4 c0 c1 c2 c3) → ∀ w, Calls Tryz.prog 186 #[.agg #[.int .u64 (c0 : Nat), .int .u64 (c1 : Nat), .int .u64 (c2 : Nat), .int .u64 (c3 : Nat)], .agg #[.int .u64 18446744073709551597, .int .u64 18446744073709551615, .int .u64 18446744073709551615, .int .u64 9223372036854775807]] w fun e w' =>
      ∃ d0 d1 d2 d3 : Nat, e = .returned (.agg #[.int .u64 d0, .int .u64 d1, .int .u64 d2, .int .u64 d3]) ∧ u4 d0 d1 d2 d3 ∧ v4 d0 d1 d2 d3 = (v4 c0 c1 c2 c3 + v4 18446744073709551597 18446744073709551615 18446744073709551615 9223372036854775807) % W256 ∧ w' = ((w.alloc (.cells #[.int .u64 c0, .int .u64 c1, .int .u64 c2, .int .u64 c3] 160)).alloc (.cells #[.int .u64 18446744073709551597, .int .u64 18446744073709551615, .int .u64 18446744073709551615, .int .u64 9223372036854775807] 160)).alloc (.cells #[.int .u64 d0, .int .u64 d1, .int .u64 d2, .int .u64 d3] 160)) :=
    fun c0 c1 c2 c3 hc w => sum_ex c0 c1 c2 c3 18446744073709551597 18446744073709551615 18446744073709551615 9223372036854775807 hc (by unfold Hid u4; omega) w
  go_enter Tryz.func181, Tryz.ntmps181
  go_wp2_with fail
  refine Calls.mono (less_any a0 a1 a2 a3 b0 b1 b2 b3 ha hb _) ?_
  rintro e w1 ⟨c0, c1, c2, c3, rfl, uc, vc, hw1⟩
  subst hw1
  have UC : Hid (u4 c0 c1 c2 c3) := uc
  have VC : Hid (v4 c0 c1 c2 c3 = (v4 a0 a1 a2 a3 + W256 - v4 b0 b1 b2 b3) % W256) := vc
  clear uc vc
  by_cases hlt : v4 a0 a1 a2 a3 < v4 b0 b1 b2 b3
  · have hd : decide (v4 a0 a1 a2 a3 < v4 b0 b1 b2 b3) = true := by simpa using hlt
    have HLT : Hid (v4 a0 a1 a2 a3 < v4 b0 b1 b2 b3) := hlt
    clear hlt
    go_wp2
    go_region_held3 (fun w' => w'.cell? ⟨w.heap.size + 1 + 1 + 1 + 1 + 1 + 1, 0, none⟩ = some (.int .u64 c0) ∧ w'.cell? ⟨w.heap.size + 1 + 1 + 1 + 1 + 1 + 1, 1, none⟩ = some (.int .u64 c1) ∧ w'.cell? ⟨w.heap.size + 1 + 1 + 1 + 1 + 1 + 1, 2, none⟩ = some (.int .u64 c2) ∧ w'.cell? ⟨w.heap.size + 1 + 1 + 1 + 1 + 1 + 1, 3, none⟩ = some (.int .u64 c3)) (first | (go_keep; done) | (simp [go_sem]; done)) (first | (go_at_call 189; refine Calls.mono (prime_any _) ?_; rintro e w3 ⟨rfl, rfl⟩) | (go_at_call 186; refine Calls.mono (SP.out c0 c1 c2 c3 UC _) ?_; rintro e w4 ⟨d0, d1, d2, d3, rfl, ud, vd, rfl⟩))
    have HF : Hid (u4 d0 d1 d2 d3 ∧ v4 d0 d1 d2 d3 = (v4 a0 a1 a2 a3 + p - v4 b0 b1 b2 b3) % p) :=
      ⟨ud, by rw [vd, VC.out, v4_prime]; exact sub_lent pb.out HLT.out⟩
    clear ud vd
    go_wp2
    refine bodyPost_ret (v := .agg #[.int .u64 d0, .int .u64 d1, .int .u64 d2, .int .u64 d3]) (by simp [results, Tryz.results181, go_sem, *]) rfl ⟨d0, d1, d2, d3, rfl, HF.out.1, HF.out.2, ?_⟩
    repeat (first | exact Below.refl _ _ | refine Below.setCell ?_ (by simp; try omega) _ | refine Below.drew ?_ | refine Below.alloc ?_ (by simp; try omega) _)
  · have hd : decide (v4 a0 a1 a2 a3 < v4 b0 b1 b2 b3) = false := by simpa using hlt
    have HF : Hid (v4 c0 c1 c2 c3 = (v4 a0 a1 a2 a3 + p - v4 b0 b1 b2 b3) % p) := VC.out.trans (sub_plain pa.out hlt)
    clear hlt SP
    go_wp2
    refine bodyPost_ret (v := .agg #[.int .u64 c0, .int .u64 c1, .int .u64 c2, .int .u64 c3]) (by simp [results, Tryz.results181, go_sem, *]) rfl ⟨c0, c1, c2, c3, rfl, UC.out, HF.out, ?_⟩
    repeat (first | exact Below.refl _ _ | refine Below.setCell ?_ (by simp; try omega) _ | refine Below.drew ?_ | refine Below.alloc ?_ (by simp; try omega) _)
end Go.Proofs.YtgnkkjknngblbaaGreatDoor.Crv
namespace Go.Proofs.Fd
open Go.RowKit
end Go.Proofs.Fd
namespace Go.Proofs.YtgnkkjknngblbaaGreatDoor.Crv
open Go.RowKit Go.Proofs.Fd
set_option maxRecDepth 20000
theorem ex_skip (n : Nat) (h : n = 252 ∨ n = 250) : ex (n + 1) = 2 * ex n := by show 2 * ex n + (if n = 252 ∨ n = 250 then 0 else 1) = _; rw [if_pos h]; rfl
theorem ex_take (n : Nat) (h : ¬ (n = 252 ∨ n = 250)) : ex (n + 1) = 2 * ex n + 1 := by show 2 * ex n + (if n = 252 ∨ n = 250 then 0 else 1) = _; rw [if_neg h]
def InvAt (w wr : World) (a0 a1 a2 a3 s0 s1 s2 s3 n : Nat) : Prop :=
  At4 wr w.heap.size (.int .u64 a0) (.int .u64 a1) (.int .u64 a2) (.int .u64 a3) ∧ At4 wr (w.heap.size + 1) (.int .u64 0) (.int .u64 0) (.int .u64 0) (.int .u64 0)
    ∧ At4 wr (w.heap.size + 1 + 1) (.int .u64 s0) (.int .u64 s1) (.int .u64 s2) (.int .u64 s3) ∧ u4 s0 s1 s2 s3 ∧ v4 s0 s1 s2 s3 = v4 a0 a1 a2 a3 ^ (ex n) % p ∧ Below w.heap.size w wr
set_option maxHeartbeats 2000000 in
theorem invert_any (a0 a1 a2 a3 : Nat) (ha : Hid (u4 a0 a1 a2 a3)) (w : World) :
    Calls Tryz.prog 184 #[.agg #[.int .u64 a0, .int .u64 a1, .int .u64 a2, .int .u64 a3]] w fun e w' =>
      ∃ c0 c1 c2 c3 : Nat, e = .returned (.agg #[.int .u64 c0, .int .u64 c1, .int .u64 c2, .int .u64 c3]) ∧ u4 c0 c1 c2 c3 ∧ v4 c0 c1 c2 c3 = v4 a0 a1 a2 a3 ^ (p - 2) % p ∧ Below w.heap.size w w' := by
  go_enter Tryz.func184, Tryz.ntmps184
  go_wp2
  go_loopw [4] (fun i wr => ∃ (n : Nat) (x : Int) (s0 s1 s2 s3 : Nat), i = .int .i64 x ∧ Hid (x = 254 - (n : Int)) ∧ -1 ≤ x ∧ x ≤ 254 ∧ Hid (InvAt w wr a0 a1 a2 a3 s0 s1 s2 s3 n)) (fun i _ => (intOf i + 1).toNat)
  case atStart =>
    refine ⟨0, 254, 1, 0, 0, 0, rfl, rfl, by omega, by omega, ?_, ?_, ?_, ?_, ?_, ?_⟩
    · simp [At4, go_sem]
    · simp [At4, go_sem]
    · simp [At4, go_sem]
    · unfold u4; omega
    · simp only [ex, Nat.pow_zero]; decide
    · repeat (first | refine Below.setCell ?_ (by simp; try omega) _ | refine Below.drew ?_ | refine Below.alloc ?_ (by simp; try omega) _ | exact Below.refl _ _)
  case round =>
    obtain ⟨n, x, s0, s1, s2, s3, rfl, hx, lo, hi, I⟩ := hrel
    by_cases hlt : x < 0
    · have : Hid (n = 255) := by have := hx.out; show n = 255; omega
      obtain ⟨rf, r0, r1, r2, r3⟩ := I.out.2.1
      obtain ⟨qf, q0, q1, q2, q3⟩ := I.out.2.2.1
      have hg : ¬ (0 : Int) ≤ x := by omega
      go_wp2
      refine bodyPost_ret (v := .agg #[.int .u64 s0, .int .u64 s1, .int .u64 s2, .int .u64 s3]) (by simp [results, Tryz.results184, go_sem, *]) rfl ⟨s0, s1, s2, s3, rfl, I.out.2.2.2.1, ?_, ?_⟩
      · rw [I.out.2.2.2.2.1, this.out, ex_all]
      · exact below_put I.out.2.2.2.2.2 (by omega) _ _ _ _
    · have hg : (0 : Int) ≤ x := by omega
      clear lo hlt
      obtain ⟨qf, q0, q1, q2, q3⟩ := I.out.2.2.1
      go_wp2_with fail
      refine Calls.mono (mul_any s0 s1 s2 s3 s0 s1 s2 s3 I.out.2.2.2.1 I.out.2.2.2.1 _) ?_
      rintro e w1 ⟨t0, t1, t2, t3, rfl, ut, vt, hb1⟩
      have J : Hid (At4 w1 w.heap.size (.int .u64 a0) (.int .u64 a1) (.int .u64 a2) (.int .u64 a3) ∧ At4 w1 (w.heap.size + 1) (.int .u64 0) (.int .u64 0) (.int .u64 0) (.int .u64 0)
          ∧ At4 w1 (w.heap.size + 1 + 1) (.int .u64 s0) (.int .u64 s1) (.int .u64 s2) (.int .u64 s3) ∧ u4 t0 t1 t2 t3 ∧ v4 t0 t1 t2 t3 = v4 a0 a1 a2 a3 ^ (2 * ex n) % p ∧ Below w.heap.size w w1) :=
        ⟨I.out.1.later hb1, I.out.2.1.later hb1, I.out.2.2.1.later hb1, ut, by rw [vt, I.out.2.2.2.2.1, pow_sq_mod], chain I.out.2.2.2.2.2 hb1⟩
      clear vt ut hb1 qf q0 q1 q2 q3
      obtain ⟨qf, q0, q1, q2, q3⟩ := J.out.2.2.1
      by_cases h2 : x = 2
      · have b2 : (x != 2) = false := by simp [h2]
        have hn : Hid (n = 252 ∨ n = 250) := by have := hx.out; show n = 252 ∨ n = 250; omega
        clear h2
        go_wp2
        go_roundw
        case rel =>
          refine ⟨n + 1, x - 1, t0, t1, t2, t3, by go_num, ?_, by omega, by omega, ?_⟩
          · have := hx.out; show x - 1 = _; omega
          · refine ⟨At4.put J.out.1 (by omega) _ _ _ _, At4.put J.out.2.1 (by omega) _ _ _ _, At4.whole J.out.2.2.1 _ _ _ _, J.out.2.2.2.1, ?_, below_put J.out.2.2.2.2.2 (by omega) _ _ _ _⟩
            rw [J.out.2.2.2.2.1, ex_skip n hn.out]
        case measure => simp [intOf]; omega
      · by_cases h4 : x = 4
        · have b2 : (x != 2) = true := by simp [h2]
          have b4 : (x != 4) = false := by simp [h4]
          have hn : Hid (n = 252 ∨ n = 250) := by have := hx.out; show n = 252 ∨ n = 250; omega
          clear h2 h4
          go_wp2
          go_roundw
          case rel =>
            refine ⟨n + 1, x - 1, t0, t1, t2, t3, by go_num, ?_, by omega, by omega, ?_⟩
            · have := hx.out; show x - 1 = _; omega
            · refine ⟨At4.put J.out.1 (by omega) _ _ _ _, At4.put J.out.2.1 (by omega) _ _ _ _, At4.whole J.out.2.2.1 _ _ _ _, J.out.2.2.2.1, ?_, below_put J.out.2.2.2.2.2 (by omega) _ _ _ _⟩
              rw [J.out.2.2.2.2.1, ex_skip n hn.out]
          case measure => simp [intOf]; omega
        · have b2 : (x != 2) = true := by simp [h2]
          have b4 : (x != 4) = true := by simp [h4]
          have hn : Hid (¬ (n = 252 ∨ n = 250)) := by have := hx.out; show ¬ (n = 252 ∨ n = 250); omega
          clear h2 h4
          obtain ⟨pf, p0, p1, p2, p3⟩ := J.out.1
          go_wp2_with fail
          refine Calls.mono (mul_any t0 t1 t2 t3 a0 a1 a2 a3 J.out.2.2.2.1 ha _) ?_
          rintro e w2 ⟨z0, z1, z2, z3, rfl, uz, vz, hb2⟩
          have K : Hid (At4 w2 w.heap.size (.int .u64 a0) (.int .u64 a1) (.int .u64 a2) (.int .u64 a3) ∧ At4 w2 (w.heap.size + 1) (.int .u64 0) (.int .u64 0) (.int .u64 0) (.int .u64 0)
              ∧ At4 w2 (w.heap.size + 1 + 1) (.int .u64 t0) (.int .u64 t1) (.int .u64 t2) (.int .u64 t3) ∧ u4 z0 z1 z2 z3 ∧ v4 z0 z1 z2 z3 = v4 a0 a1 a2 a3 ^ (2 * ex n + 1) % p ∧ Below w.heap.size w w2) :=
            ⟨At4.later (At4.put J.out.1 (by omega) _ _ _ _) hb2, At4.later (At4.put J.out.2.1 (by omega) _ _ _ _) hb2, At4.later (At4.whole J.out.2.2.1 _ _ _ _) hb2, uz, by rw [vz, J.out.2.2.2.2.1, pow_mul_mod], chain (below_put J.out.2.2.2.2.2 (by omega) _ _ _ _) hb2⟩
          clear vz uz hb2 qf q0 q1 q2 q3 pf p0 p1 p2 p3
          obtain ⟨qf, q0, q1, q2, q3⟩ := K.out.2.2.1
          go_wp2
          go_roundw
          case rel =>
            refine ⟨n + 1, x - 1, z0, z1, z2, z3, by go_num, ?_, by omega, by omega, ?_⟩
            · have := hx.out; show x - 1 = _; omega
            · refine ⟨At4.put K.out.1 (by omega) _ _ _ _, At4.put K.out.2.1 (by omega) _ _ _ _, At4.whole K.out.2.2.1 _ _ _ _, K.out.2.2.2.1, ?_, below_put K.out.2.2.2.2.2 (by omega) _ _ _ _⟩
              rw [K.out.2.2.2.2.1, ex_take n hn.out]
          case measure => simp [intOf]; omega
end Go.Proofs.YtgnkkjknngblbaaGreatDoor.Crv
namespace Go.Proofs.YtgnkkjknngblbaaGreatDoor.Crv
open Go.RowKit Go.Proofs.Fd
set_option maxRecDepth 20000
theorem or_step (x b k c : Nat) (C : Int) (hC : C = (c : Int)) (hc : c = 2 ^ k) (hx : x < c) (hb : b < 256) (hlt : c * 256 ≤ 18446744073709551616) :
    bits .or .u64 (x : Int) (IntKind.u64.wrap (IntKind.u64.wrap (b : Int) * C)) = ((x + c * b : Nat) : Int) := by
  have h1 : c * b < 18446744073709551616 := by
    have : c * b ≤ c * 255 := Nat.mul_le_mul_left c (by omega)
    omega
  have w1 : IntKind.u64.wrap (b : Int) = (b : Int) := by rw [IntKind.wrap_u64]; omega
  have w2 : IntKind.u64.wrap ((b : Int) * C) = ((c * b : Nat) : Int) := by
    rw [hC, IntKind.wrap_u64, ← Int.natCast_mul, Nat.mul_comm b c]; omega
  rw [w1, w2, bits_or_u64_nat _ _ (by omega) h1]
  have := Nat.two_pow_add_eq_or_of_lt (i := k) (b := x) (by omega) b
  rw [← hc] at this
  rw [Nat.or_comm, ← this, Nat.add_comm]
theorem wrap_byte (b : UInt8) : IntKind.u64.wrap (b.toNat : Int) = (b.toNat : Int) := by
  have := b.toNat_lt
  rw [IntKind.wrap_u64]; omega
theorem word_bits (s : ByteArray) (hs : s.size = 8) :
    bits .or .u64 (bits .or .u64 (bits .or .u64 (bits .or .u64 (bits .or .u64 (bits .or .u64 (bits .or .u64 (IntKind.u64.wrap (s[0].toNat : Int))
      (IntKind.u64.wrap (IntKind.u64.wrap (s[1].toNat : Int) * 256))) (IntKind.u64.wrap (IntKind.u64.wrap (s[2].toNat : Int) * 65536))) (IntKind.u64.wrap (IntKind.u64.wrap (s[3].toNat : Int) * 16777216)))
      (IntKind.u64.wrap (IntKind.u64.wrap (s[4].toNat : Int) * 4294967296))) (IntKind.u64.wrap (IntKind.u64.wrap (s[5].toNat : Int) * 1099511627776)))
      (IntKind.u64.wrap (IntKind.u64.wrap (s[6].toNat : Int) * 281474976710656))) (IntKind.u64.wrap (IntKind.u64.wrap (s[7].toNat : Int) * 72057594037927936)) = ((num s.data.toList : Nat) : Int) := by
  obtain ⟨⟨l⟩⟩ := s
  match l, hs with
  | [x0, x1, x2, x3, x4, x5, x6, x7], hs =>
    have b0 := x0.toNat_lt; have b1 := x1.toNat_lt; have b2 := x2.toNat_lt; have b3 := x3.toNat_lt
    have b4 := x4.toNat_lt; have b5 := x5.toNat_lt; have b6 := x6.toNat_lt; have b7 := x7.toNat_lt
    show bits .or .u64 (bits .or .u64 (bits .or .u64 (bits .or .u64 (bits .or .u64 (bits .or .u64 (bits .or .u64 (IntKind.u64.wrap (x0.toNat : Int))
      (IntKind.u64.wrap (IntKind.u64.wrap (x1.toNat : Int) * 256))) (IntKind.u64.wrap (IntKind.u64.wrap (x2.toNat : Int) * 65536))) (IntKind.u64.wrap (IntKind.u64.wrap (x3.toNat : Int) * 16777216)))
      (IntKind.u64.wrap (IntKind.u64.wrap (x4.toNat : Int) * 4294967296))) (IntKind.u64.wrap (IntKind.u64.wrap (x5.toNat : Int) * 1099511627776)))
      (IntKind.u64.wrap (IntKind.u64.wrap (x6.toNat : Int) * 281474976710656))) (IntKind.u64.wrap (IntKind.u64.wrap (x7.toNat : Int) * 72057594037927936)) = ((num [x0, x1, x2, x3, x4, x5, x6, x7] : Nat) : Int)
    rw [wrap_byte, or_step _ _ 8 256 256 rfl rfl (by omega) (by omega) (by omega), or_step _ _ 16 65536 65536 rfl rfl (by omega) (by omega) (by omega),
      or_step _ _ 24 16777216 16777216 rfl rfl (by omega) (by omega) (by omega), or_step _ _ 32 4294967296 4294967296 rfl rfl (by omega) (by omega) (by omega),
      or_step _ _ 40 1099511627776 1099511627776 rfl rfl (by omega) (by omega) (by omega), or_step _ _ 48 281474976710656 281474976710656 rfl rfl (by omega) (by omega) (by omega),
      or_step _ _ 56 72057594037927936 72057594037927936 rfl rfl (by omega) (by omega) (by omega), num_eight]
theorem ret_u64 {a b : Int} (h : a = b) : Ending.returned (.int .u64 a) = .returned (.int .u64 b) := by rw [h]
set_option maxHeartbeats 1000000 in
theorem word_any (s : ByteArray) (hs : s.size = 8) (w : World) :
    Calls Tryz.prog 192 #[.string s] w fun e w' => e = .returned (.int .u64 ((num s.data.toList : Nat) : Int)) ∧ (∃ n, w' = w.drewN n) := by
  have H : Hid (_ = _) := word_bits s hs
  go_enter Tryz.func192, Tryz.ntmps192
  go_wp2
  go_quiet (fail)
  go_wp2
  go_ret
  exact ⟨ret_u64 H.out, _, rfl⟩
end Go.Proofs.YtgnkkjknngblbaaGreatDoor.Crv
namespace Go.Proofs.YtgnkkjknngblbaaGreatDoor.Crv
open Go.RowKit Go.Proofs.Fd
set_option maxRecDepth 20000
attribute [local go_sem ↓] Go.wp_at_zero Go.wp_at_succ
set_option maxHeartbeats 1000000 in
theorem load_any (s : ByteArray) (hs : s.size = 32) (w : World) :
    Calls Tryz.prog 179 #[.string s] w fun e w' => ∃ c0 c1 c2 c3 : Nat, e = .returned (.agg #[.int .u64 c0, .int .u64 c1, .int .u64 c2, .int .u64 c3]) ∧ u4 c0 c1 c2 c3 ∧ v4 c0 c1 c2 c3 = num s.data.toList ∧ Below w.heap.size w w' := by
  go_enter Tryz.func179, Tryz.ntmps179
  go_wp2
  go_region_held3 (fun _ => True) (trivial) (first | (go_at_call 192; refine Calls.mono (word_any _ ?_ _) ?_; (focus simp [hs]); rintro e w' ⟨rfl, n, rfl⟩))
  go_wp2
  have hl : s.data.toList.length = 32 := by simpa using hs
  have NL := num_load s.data.toList hl
  refine bodyPost_ret (v := .agg #[.int .u64 ((num (s.data.toList.take 8) : Nat) : Int), .int .u64 ((num ((s.data.toList.drop 8).take 8) : Nat) : Int), .int .u64 ((num ((s.data.toList.drop 16).take 8) : Nat) : Int), .int .u64 ((num ((s.data.toList.drop 24).take 8) : Nat) : Int)]) (by simp [results, Tryz.results179, go_sem]) rfl ⟨_, _, _, _, rfl, NL.1, NL.2, ?_⟩
  repeat (first | exact Below.refl _ _ | refine Below.setCell ?_ (by simp; try omega) _ | refine Below.drew ?_ | refine below_drewN ?_ _ | refine Below.alloc ?_ (by simp; try omega) _)
end Go.Proofs.YtgnkkjknngblbaaGreatDoor.Crv
namespace Go.Proofs.YtgnkkjknngblbaaGreatDoor.Crv
open Go.RowKit Go.Proofs.Fd
set_option maxRecDepth 20000
attribute [local go_sem ↓] Go.wp_at_zero Go.wp_at_succ
theorem or_word (x b r : Nat) (hx : x < 2 ^ (r * 8)) (hb : b < 256) (hr : r < 8) :
    bits .or .u64 (x : Int) (IntKind.u64.wrap (IntKind.u64.wrap (b : Int) * 2 ^ (r * 8))) = ((x + 2 ^ (r * 8) * b : Nat) : Int) := by
  have hlt : 2 ^ (r * 8) * 256 ≤ 18446744073709551616 := by
    have e : 2 ^ (r * 8) * 256 = 2 ^ (r * 8 + 8) := by rw [Nat.pow_add]
    rw [e]
    have : (2 : Nat) ^ (r * 8 + 8) ≤ 2 ^ 64 := Nat.pow_le_pow_right (by decide) (by omega)
    simpa using this
  exact or_step x b (r * 8) (2 ^ (r * 8)) _ (by simp) rfl hx hb hlt
set_option maxHeartbeats 1000000 in
theorem loadWide_any (s : ByteArray) (hs : s.size ≤ 64) (w : World) :
    Calls Tryz.prog 150 #[.string s] w fun e w' => ∃ c0 c1 c2 c3 c4 c5 c6 c7 : Nat, e = .returned (.agg #[.int .u64 c0, .int .u64 c1, .int .u64 c2, .int .u64 c3, .int .u64 c4, .int .u64 c5, .int .u64 c6, .int .u64 c7]) ∧ u4 c0 c1 c2 c3 ∧ u4 c4 c5 c6 c7 ∧ v4 c0 c1 c2 c3 + W256 * v4 c4 c5 c6 c7 = num s.data.toList ∧ Below w.heap.size w w' := by
  go_enter Tryz.func150, Tryz.ntmps150
  go_wp2
  go_loopw [7] (fun i wr => ∃ k : Nat, k ≤ s.size ∧ i = .int .i64 k ∧ (∀ j, j < 8 → wr.cell? ⟨w.heap.size + 1, j, none⟩ = some (.int .u64 (wd s.data.toList k j))) ∧ (∀ o, wr.frozen? ⟨w.heap.size + 1, o, none⟩ = false) ∧ At8 wr w.heap.size (.int .u64 0) (.int .u64 0) (.int .u64 0) (.int .u64 0) (.int .u64 0) (.int .u64 0) (.int .u64 0) (.int .u64 0) ∧ Below w.heap.size w wr) (fun i _ => s.size - (intOf i).toNat)
  case atStart =>
    refine ⟨0, Nat.zero_le _, rfl, ?_, ?_, ?_, ?_⟩
    · intro j hj
      have : j = 0 ∨ j = 1 ∨ j = 2 ∨ j = 3 ∨ j = 4 ∨ j = 5 ∨ j = 6 ∨ j = 7 := by omega
      rcases this with rfl | rfl | rfl | rfl | rfl | rfl | rfl | rfl <;> simp [go_sem, wd_zero]
    · intro o; simp [go_sem]
    · simp [At8, go_sem]
    · exact ((Below.refl _ _).alloc (Nat.le_refl _) _).alloc (by simp) _
  case round =>
    obtain ⟨k, hk, rfl, hc, hf, ha, hb⟩ := hrel
    have HA : Hid (At8 _ _ _ _ _ _ _ _ _ _) := ha
    have HB : Hid (Below _ _ _) := hb
    clear ha hb
    by_cases hlt : k < s.size
    · obtain ⟨j, hj⟩ : ∃ j, k / 8 = j := ⟨_, rfl⟩
      obtain ⟨r, hr⟩ : ∃ r, k % 8 = r := ⟨_, rfl⟩
      have hj8 : j < 8 := by omega
      have hr8 : r < 8 := by omega
      have cj := hc j hj8
      have HC : Hid (∀ j, j < 8 → wr.cell? ⟨w.heap.size + 1, j, none⟩ = some (.int .u64 (wd s.data.toList k j))) := hc
      have t1 : Int.tdiv (k : Int) 8 = (j : Int) := by rw [← hj]; exact (Int.ofNat_tdiv k 8).symm
      have t2 : Int.tmod (k : Int) 8 = (r : Int) := by rw [← hr]; exact (Int.ofNat_tmod k 8).symm
      have hl : s.data.toList.length = s.size := by simp
      have V1 : Hid (wd s.data.toList (k + 1) j = wd s.data.toList k j + 2 ^ (r * 8) * s[k].toNat) := wd_this s.data.toList k j r (by omega) hj hr
      have V2 : Hid (∀ i, i ≠ j → wd s.data.toList (k + 1) i = wd s.data.toList k i) := fun i hi => wd_other s.data.toList k i (by omega) (by omega)
      have t3 : bits .or .u64 ((wd s.data.toList k j : Nat) : Int) (IntKind.u64.wrap (IntKind.u64.wrap (s[k].toNat : Int) * 2 ^ (r * 8))) = ((wd s.data.toList (k + 1) j : Nat) : Int) := by
        rw [or_word _ _ _ (wd_small s.data.toList k j r (by omega) hj hr) s[k].toNat_lt hr8, V1.out]
      have b1 : (0 : Int) ≤ (j : Int) := by omega
      have b2 : (j : Int) < 8 := by omega
      have b3 : (0 : Int) ≤ (k : Int) := by omega
      have b4 : (k : Int) < (s.size : Int) := by omega
      clear hc hj hr hl
      go_wp2
      go_region
      go_wp2
      go_roundw
      case rel =>
        refine ⟨k + 1, by omega, by go_num, ?_, ?_, ?_, ?_⟩
        · intro i hi
          by_cases hij : i = j
          · subst hij; simp [go_sem, cj]
          · rw [V2.out i hij]
            have := HC.out i hi
            simp only [World.cell?_drew]
            rw [World.cell?_setCell_other _ _ _ _ (by simp; try omega)]
            exact this
        · intro o; simp [go_sem, hf]
        · exact (At8.set HA.out (by simp) _).drew
        · exact ((HB.out.setCell (by simp) _).drew)
      case measure => simp [intOf]; omega
    · have hks : k = s.size := by omega
      subst hks
      have c0 := hc 0 (by omega); have c1 := hc 1 (by omega); have c2 := hc 2 (by omega); have c3 := hc 3 (by omega)
      have c4 := hc 4 (by omega); have c5 := hc 5 (by omega); have c6 := hc 6 (by omega); have c7 := hc 7 (by omega)
      obtain ⟨rf, r0, r1, r2, r3, r4, r5, r6, r7⟩ := HA.out
      clear hc hf
      go_wp2
      have hl : s.data.toList.length = s.size := by simp
      have WA := wd_all s.data.toList (by omega)
      rw [hl] at WA
      refine bodyPost_ret (v := .agg #[.int .u64 (wd s.data.toList s.size 0), .int .u64 (wd s.data.toList s.size 1), .int .u64 (wd s.data.toList s.size 2), .int .u64 (wd s.data.toList s.size 3), .int .u64 (wd s.data.toList s.size 4), .int .u64 (wd s.data.toList s.size 5), .int .u64 (wd s.data.toList s.size 6), .int .u64 (wd s.data.toList s.size 7)]) (by simp [results, Tryz.results150, go_sem, *]) rfl ⟨_, _, _, _, _, _, _, _, rfl, ⟨wd_lt _ _ _, wd_lt _ _ _, wd_lt _ _ _, wd_lt _ _ _⟩, ⟨wd_lt _ _ _, wd_lt _ _ _, wd_lt _ _ _, wd_lt _ _ _⟩, WA, ?_⟩
      repeat (first | refine Below.setCell ?_ (by simp) _ | exact HB.out)
end Go.Proofs.YtgnkkjknngblbaaGreatDoor.Crv
