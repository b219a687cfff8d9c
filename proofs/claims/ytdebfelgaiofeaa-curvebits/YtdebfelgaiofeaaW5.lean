/- What fold of package field does. -/
import Derived.Test.YtdebfelgaiofeaaW4
namespace Go.Proofs.Ytdebfelgaiofeaa
open Go.RowKit Go.Proofs.Fd
attribute [local go_sem ↓] Go.wp_at_zero Go.wp_at_succ

set_option maxHeartbeats 2000000 in
theorem fold_any (w0 w1 w2 w3 w4 w5 w6 w7 : Nat) (hw : Hid (u4 w0 w1 w2 w3)) (hv : Hid (u4 w4 w5 w6 w7)) (w : World) :
    Calls Try.prog 54 #[.agg #[.int .u64 w0, .int .u64 w1, .int .u64 w2, .int .u64 w3, .int .u64 w4, .int .u64 w5, .int .u64 w6, .int .u64 w7]] w fun e w' =>
      ∃ c0 c1 c2 c3 : Nat, e = .returned (.agg #[.int .u64 c0, .int .u64 c1, .int .u64 c2, .int .u64 c3]) ∧ u4 c0 c1 c2 c3 ∧ v4 c0 c1 c2 c3 = (v4 w0 w1 w2 w3 + W256 * v4 w4 w5 w6 w7) % p ∧ Below w.heap.size w w' := by
  obtain ⟨h0, h1, h2, h3⟩ := hw.out
  obtain ⟨h4, h5, h6, h7⟩ := hv.out
  have t0 : IntKind.i64.wrap (0 + 4) = 4 := by decide
  have s0 : IntKind.i64.wrap 4 = 4 := by decide
  have t1 : IntKind.i64.wrap (1 + 4) = 5 := by decide
  have s1 : IntKind.i64.wrap 5 = 5 := by decide
  have t2 : IntKind.i64.wrap (2 + 4) = 6 := by decide
  have s2 : IntKind.i64.wrap 6 = 6 := by decide
  have t3 : IntKind.i64.wrap (3 + 4) = 7 := by decide
  have s3 : IntKind.i64.wrap 7 = 7 := by decide
  go_enter Try.func54, Try.ntmps54
  go_wp2
  refine wp_loop_rounds 5 ?_
  rw [rounds_succ]
  go_wp2
  go_region_held3 (fun w' => w'.cell? ⟨w.heap.size, 0, none⟩ = some (.int .u64 w0) ∧ w'.cell? ⟨w.heap.size, 4, none⟩ = some (.int .u64 w4)) (go_keep) (first | (go_at_call 62; refine Calls.mono (step_any 38 w4 w0 0 (by omega) (by omega) (by omega) (by omega) _) ?_; rintro e w' ⟨l0, k1, rfl, u0, x0, e0, rfl⟩))
  go_wp2
  rw [rounds_succ]
  go_wp2
  go_region_held3 (fun w' => w'.cell? ⟨w.heap.size, 1, none⟩ = some (.int .u64 w1) ∧ w'.cell? ⟨w.heap.size, 5, none⟩ = some (.int .u64 w5)) (go_keep) (first | (go_at_call 62; refine Calls.mono (step_any 38 w5 w1 k1 (by omega) (by omega) (by omega) (by omega) _) ?_; rintro e w' ⟨l1, k2, rfl, u1, x1, e1, rfl⟩))
  go_wp2
  rw [rounds_succ]
  go_wp2
  go_region_held3 (fun w' => w'.cell? ⟨w.heap.size, 2, none⟩ = some (.int .u64 w2) ∧ w'.cell? ⟨w.heap.size, 6, none⟩ = some (.int .u64 w6)) (go_keep) (first | (go_at_call 62; refine Calls.mono (step_any 38 w6 w2 k2 (by omega) (by omega) (by omega) (by omega) _) ?_; rintro e w' ⟨l2, k3, rfl, u2, x2, e2, rfl⟩))
  go_wp2
  rw [rounds_succ]
  go_wp2
  go_region_held3 (fun w' => w'.cell? ⟨w.heap.size, 3, none⟩ = some (.int .u64 w3) ∧ w'.cell? ⟨w.heap.size, 7, none⟩ = some (.int .u64 w7)) (go_keep) (first | (go_at_call 62; refine Calls.mono (step_any 38 w7 w3 k3 (by omega) (by omega) (by omega) (by omega) _) ?_; rintro e w' ⟨l3, k4, rfl, u3, x3, e3, rfl⟩))
  go_wp2
  rw [rounds_succ]
  go_wp2_with fail
  have UL : Hid (u4 l0 l1 l2 l3) := ⟨u0, u1, u2, u3⟩
  obtain ⟨hk, fv⟩ := fold_val w0 w1 w2 w3 w4 w5 w6 w7 l0 l1 l2 l3 k1 k2 k3 k4 hw.out hv.out UL.out e0.out e1.out e2.out e3.out
  refine Calls.mono (settle_any l0 l1 l2 l3 k4 UL hk _) ?_
  rintro e wz ⟨c0, c1, c2, c3, rfl, uc, vc, hb⟩
  obtain ⟨rf, r0, r1, r2, r3⟩ := At4.later (b := w.heap.size + 1) (x0 := .int .u64 0) (x1 := .int .u64 0) (x2 := .int .u64 0) (x3 := .int .u64 0) (by simp [At4, go_sem]) hb
  have HF : Hid (u4 c0 c1 c2 c3 ∧ v4 c0 c1 c2 c3 = (v4 w0 w1 w2 w3 + W256 * v4 w4 w5 w6 w7) % p ∧ Below w.heap.size w wz) := by
    refine ⟨uc, vc.trans fv, ?_⟩
    refine chain ?_ hb
    repeat (first | exact Below.refl _ _ | refine Below.setCell ?_ (by simp; try omega) _ | refine Below.drew ?_ | refine Below.alloc ?_ (by simp; try omega) _)
  clear uc vc hb fv e0 e1 e2 e3
  go_wp2
  refine bodyPost_ret (v := .agg #[.int .u64 c0, .int .u64 c1, .int .u64 c2, .int .u64 c3]) (by simp [results, Try.results54, go_sem, *]) rfl ⟨c0, c1, c2, c3, rfl, HF.out.1, HF.out.2.1, ?_⟩
  repeat (first | exact HF.out.2.2 | refine Below.setCell ?_ (by simp) _)

end Go.Proofs.Ytdebfelgaiofeaa
