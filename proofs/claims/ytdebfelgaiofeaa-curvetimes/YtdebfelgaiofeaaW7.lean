/- What add, sub and invert of package field do. -/
import Derived.Test.YtdebfelgaiofeaaW6
namespace Go.Proofs.Ytdebfelgaiofeaa
open Go.RowKit Go.Proofs.Fd
attribute [local go_sem ↓] Go.wp_at_zero Go.wp_at_succ

set_option maxHeartbeats 1000000 in
theorem add_any (a0 a1 a2 a3 b0 b1 b2 b3 : Nat) (ha : Hid (u4 a0 a1 a2 a3)) (hb : Hid (u4 b0 b1 b2 b3)) (pa : Hid (v4 a0 a1 a2 a3 < p)) (pb : Hid (v4 b0 b1 b2 b3 < p)) (w : World) :
    Calls Try.prog 70 #[.agg #[.int .u64 a0, .int .u64 a1, .int .u64 a2, .int .u64 a3], .agg #[.int .u64 b0, .int .u64 b1, .int .u64 b2, .int .u64 b3]] w fun e w' =>
      ∃ c0 c1 c2 c3 : Nat, e = .returned (.agg #[.int .u64 c0, .int .u64 c1, .int .u64 c2, .int .u64 c3]) ∧ u4 c0 c1 c2 c3 ∧ v4 c0 c1 c2 c3 = (v4 a0 a1 a2 a3 + v4 b0 b1 b2 b3) % p ∧ Below w.heap.size w w' := by
  have S0 : Hid (∀ c0 c1 c2 c3, Hid (u4 c0 c1 c2 c3) → ∀ w, Calls Try.prog 63 #[.agg #[.int .u64 (c0 : Nat), .int .u64 (c1 : Nat), .int .u64 (c2 : Nat), .int .u64 (c3 : Nat)], .int .u64 0] w fun e w' =>
      ∃ d0 d1 d2 d3 : Nat, e = .returned (.agg #[.int .u64 d0, .int .u64 d1, .int .u64 d2, .int .u64 d3]) ∧ u4 d0 d1 d2 d3 ∧ v4 d0 d1 d2 d3 = (v4 c0 c1 c2 c3 + 0 * W256) % p ∧ Below w.heap.size w w') :=
    fun c0 c1 c2 c3 hc w => settle_any c0 c1 c2 c3 0 hc (by omega) w
  go_enter Try.func70, Try.ntmps70
  go_wp2_with fail
  refine Calls.mono (sum_any a0 a1 a2 a3 b0 b1 b2 b3 ha hb _) ?_
  rintro e w1 ⟨c0, c1, c2, c3, rfl, uc, vc, hb1⟩
  have UC : Hid (u4 c0 c1 c2 c3) := uc
  have VC : Hid (v4 c0 c1 c2 c3 = (v4 a0 a1 a2 a3 + v4 b0 b1 b2 b3) % W256) := vc
  have A1 : Hid (At4 w1 (w.heap.size + 1 + 1) (.int .u64 0) (.int .u64 0) (.int .u64 0) (.int .u64 0) ∧ Below w.heap.size w w1) :=
    ⟨At4.later (by simp [At4, go_sem]) hb1, chain ((((Below.refl _ _).alloc (Nat.le_refl _) _).alloc (by simp) _).alloc (by simp; omega) _) hb1⟩
  clear uc vc hb1
  go_wp2_with fail
  refine Calls.mono (S0.out c0 c1 c2 c3 UC _) ?_
  rintro e w2 ⟨d0, d1, d2, d3, rfl, ud, vd, hb2⟩
  obtain ⟨rf, r0, r1, r2, r3⟩ := At4.later A1.out.1 hb2
  have HF : Hid (u4 d0 d1 d2 d3 ∧ v4 d0 d1 d2 d3 = (v4 a0 a1 a2 a3 + v4 b0 b1 b2 b3) % p ∧ Below w.heap.size w w2) :=
    ⟨ud, by rw [vd, VC.out]; exact add_once pa.out pb.out, chain A1.out.2 hb2⟩
  clear ud vd hb2 A1 S0
  go_wp2
  refine bodyPost_ret (v := .agg #[.int .u64 d0, .int .u64 d1, .int .u64 d2, .int .u64 d3]) (by simp [results, Try.results70, go_sem, *]) rfl ⟨d0, d1, d2, d3, rfl, HF.out.1, HF.out.2.1, ?_⟩
  repeat (first | exact HF.out.2.2 | refine Below.setCell ?_ (by simp; try omega) _)

set_option maxHeartbeats 1000000 in
theorem sub_any (a0 a1 a2 a3 b0 b1 b2 b3 : Nat) (ha : Hid (u4 a0 a1 a2 a3)) (hb : Hid (u4 b0 b1 b2 b3)) (pa : Hid (v4 a0 a1 a2 a3 < p)) (pb : Hid (v4 b0 b1 b2 b3 < p)) (w : World) :
    Calls Try.prog 69 #[.agg #[.int .u64 a0, .int .u64 a1, .int .u64 a2, .int .u64 a3], .agg #[.int .u64 b0, .int .u64 b1, .int .u64 b2, .int .u64 b3]] w fun e w' =>
      ∃ c0 c1 c2 c3 : Nat, e = .returned (.agg #[.int .u64 c0, .int .u64 c1, .int .u64 c2, .int .u64 c3]) ∧ u4 c0 c1 c2 c3 ∧ v4 c0 c1 c2 c3 = (v4 a0 a1 a2 a3 + p - v4 b0 b1 b2 b3) % p ∧ Below w.heap.size w w' := by
  have SP : Hid (∀ c0 c1 c2 c3, Hid (u4 c0 c1 c2 c3) → ∀ w, Calls Try.prog 74 #[.agg #[.int .u64 (c0 : Nat), .int .u64 (c1 : Nat), .int .u64 (c2 : Nat), .int .u64 (c3 : Nat)], .agg #[.int .u64 18446744073709551597, .int .u64 18446744073709551615, .int .u64 18446744073709551615, .int .u64 9223372036854775807]] w fun e w' =>
      ∃ d0 d1 d2 d3 : Nat, e = .returned (.agg #[.int .u64 d0, .int .u64 d1, .int .u64 d2, .int .u64 d3]) ∧ u4 d0 d1 d2 d3 ∧ v4 d0 d1 d2 d3 = (v4 c0 c1 c2 c3 + v4 18446744073709551597 18446744073709551615 18446744073709551615 9223372036854775807) % W256 ∧ w' = ((w.alloc (.cells #[.int .u64 c0, .int .u64 c1, .int .u64 c2, .int .u64 c3] 51)).alloc (.cells #[.int .u64 18446744073709551597, .int .u64 18446744073709551615, .int .u64 18446744073709551615, .int .u64 9223372036854775807] 51)).alloc (.cells #[.int .u64 d0, .int .u64 d1, .int .u64 d2, .int .u64 d3] 51)) :=
    fun c0 c1 c2 c3 hc w => sum_ex c0 c1 c2 c3 18446744073709551597 18446744073709551615 18446744073709551615 9223372036854775807 hc (by unfold Hid u4; omega) w
  go_enter Try.func69, Try.ntmps69
  go_wp2_with fail
  refine Calls.mono (less_any a0 a1 a2 a3 b0 b1 b2 b3 ha hb _) ?_
  rintro e w1 ⟨c0, c1, c2, c3, rfl, uc, vc, hw1⟩
  subst hw1
  have UC : Hid (u4 c0 c1 c2 c3) := uc
  have VC : Hid (v4 c0 c1 c2 c3 = (v4 a0 a1 a2 a3 + W256 - v4 b0 b1 b2 b3) % W256) := vc
  clear uc vc
  by_cases hlt : v4 a0 a1 a2 a3 < v4 b0 b1 b2 b3
  · have hd : decide (v4 a0 a1 a2 a3 < v4 b0 b1 b2 b3) = true := by simpa using hlt
    have HLT : Hid (v4 a0 a1 a2 a3 < v4 b0 b1 b2 b3) := hlt
    clear hlt
    go_wp2
    go_region_held3 (fun w' => w'.cell? ⟨w.heap.size + 1 + 1 + 1 + 1 + 1 + 1, 0, none⟩ = some (.int .u64 c0) ∧ w'.cell? ⟨w.heap.size + 1 + 1 + 1 + 1 + 1 + 1, 1, none⟩ = some (.int .u64 c1) ∧ w'.cell? ⟨w.heap.size + 1 + 1 + 1 + 1 + 1 + 1, 2, none⟩ = some (.int .u64 c2) ∧ w'.cell? ⟨w.heap.size + 1 + 1 + 1 + 1 + 1 + 1, 3, none⟩ = some (.int .u64 c3)) (first | (go_keep; done) | (simp [go_sem]; done)) (first | (go_at_call 76; refine Calls.mono (prime_any _) ?_; rintro e w3 ⟨rfl, rfl⟩) | (go_at_call 74; refine Calls.mono (SP.out c0 c1 c2 c3 UC _) ?_; rintro e w4 ⟨d0, d1, d2, d3, rfl, ud, vd, rfl⟩))
    have HF : Hid (u4 d0 d1 d2 d3 ∧ v4 d0 d1 d2 d3 = (v4 a0 a1 a2 a3 + p - v4 b0 b1 b2 b3) % p) :=
      ⟨ud, by rw [vd, VC.out, v4_prime]; exact sub_lent pb.out HLT.out⟩
    clear ud vd
    go_wp2
    refine bodyPost_ret (v := .agg #[.int .u64 d0, .int .u64 d1, .int .u64 d2, .int .u64 d3]) (by simp [results, Try.results69, go_sem, *]) rfl ⟨d0, d1, d2, d3, rfl, HF.out.1, HF.out.2, ?_⟩
    repeat (first | exact Below.refl _ _ | refine Below.setCell ?_ (by simp; try omega) _ | refine Below.drew ?_ | refine Below.alloc ?_ (by simp; try omega) _)
  · have hd : decide (v4 a0 a1 a2 a3 < v4 b0 b1 b2 b3) = false := by simpa using hlt
    have HF : Hid (v4 c0 c1 c2 c3 = (v4 a0 a1 a2 a3 + p - v4 b0 b1 b2 b3) % p) := VC.out.trans (sub_plain pa.out hlt)
    clear hlt SP
    go_wp2
    refine bodyPost_ret (v := .agg #[.int .u64 c0, .int .u64 c1, .int .u64 c2, .int .u64 c3]) (by simp [results, Try.results69, go_sem, *]) rfl ⟨c0, c1, c2, c3, rfl, UC.out, HF.out, ?_⟩
    repeat (first | exact Below.refl _ _ | refine Below.setCell ?_ (by simp; try omega) _ | refine Below.drew ?_ | refine Below.alloc ?_ (by simp; try omega) _)

end Go.Proofs.Ytdebfelgaiofeaa
