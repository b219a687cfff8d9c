/- What invert of package field does. -/
import Derived.Test.YtdebfelgaiofeaaW7
import Derived.Test.YtdebfelgaiofeaaH2
namespace Go.Proofs.Ytdebfelgaiofeaa
open Go.RowKit Go.Proofs.Fd

theorem ex_skip (n : Nat) (h : n = 252 ∨ n = 250) : ex (n + 1) = 2 * ex n := by show 2 * ex n + (if n = 252 ∨ n = 250 then 0 else 1) = _; rw [if_pos h]; rfl
theorem ex_take (n : Nat) (h : ¬ (n = 252 ∨ n = 250)) : ex (n + 1) = 2 * ex n + 1 := by show 2 * ex n + (if n = 252 ∨ n = 250 then 0 else 1) = _; rw [if_neg h]

/-- The memory of invert in a round. -/
def InvAt (w wr : World) (a0 a1 a2 a3 s0 s1 s2 s3 n : Nat) : Prop :=
  At4 wr w.heap.size (.int .u64 a0) (.int .u64 a1) (.int .u64 a2) (.int .u64 a3) ∧ At4 wr (w.heap.size + 1) (.int .u64 0) (.int .u64 0) (.int .u64 0) (.int .u64 0)
    ∧ At4 wr (w.heap.size + 1 + 1) (.int .u64 s0) (.int .u64 s1) (.int .u64 s2) (.int .u64 s3) ∧ u4 s0 s1 s2 s3 ∧ v4 s0 s1 s2 s3 = v4 a0 a1 a2 a3 ^ (ex n) % p ∧ Below w.heap.size w wr

set_option maxHeartbeats 2000000 in
theorem invert_any (a0 a1 a2 a3 : Nat) (ha : Hid (u4 a0 a1 a2 a3)) (w : World) :
    Calls Try.prog 71 #[.agg #[.int .u64 a0, .int .u64 a1, .int .u64 a2, .int .u64 a3]] w fun e w' =>
      ∃ c0 c1 c2 c3 : Nat, e = .returned (.agg #[.int .u64 c0, .int .u64 c1, .int .u64 c2, .int .u64 c3]) ∧ u4 c0 c1 c2 c3 ∧ v4 c0 c1 c2 c3 = v4 a0 a1 a2 a3 ^ (p - 2) % p ∧ Below w.heap.size w w' := by
  go_enter Try.func71, Try.ntmps71
  go_wp2
  go_loopw [4] (fun i wr => ∃ (n : Nat) (x : Int) (s0 s1 s2 s3 : Nat), i = .int .i64 x ∧ Hid (x = 254 - (n : Int)) ∧ -1 ≤ x ∧ x ≤ 254 ∧ Hid (InvAt w wr a0 a1 a2 a3 s0 s1 s2 s3 n)) (fun i _ => (intOf i + 1).toNat)
  case atStart =>
    refine ⟨0, 254, 1, 0, 0, 0, rfl, rfl, by omega, by omega, ?_, ?_, ?_, ?_, ?_, ?_⟩
    · simp [At4, go_sem]
    · simp [At4, go_sem]
    · simp [At4, go_sem]
    · unfold u4; omega
    · simp only [ex, Nat.pow_zero]; decide
    · repeat (first | refine Below.setCell ?_ (by simp; try omega) _ | refine Below.drew ?_ | refine Below.alloc ?_ (by simp; try omega) _ | exact Below.refl _ _)
  case round =>
    obtain ⟨n, x, s0, s1, s2, s3, rfl, hx, lo, hi, I⟩ := hrel
    by_cases hlt : x < 0
    · have : Hid (n = 255) := by have := hx.out; show n = 255; omega
      obtain ⟨rf, r0, r1, r2, r3⟩ := I.out.2.1
      obtain ⟨qf, q0, q1, q2, q3⟩ := I.out.2.2.1
      have hg : ¬ (0 : Int) ≤ x := by omega
      go_wp2
      refine bodyPost_ret (v := .agg #[.int .u64 s0, .int .u64 s1, .int .u64 s2, .int .u64 s3]) (by simp [results, Try.results71, go_sem, *]) rfl ⟨s0, s1, s2, s3, rfl, I.out.2.2.2.1, ?_, ?_⟩
      · rw [I.out.2.2.2.2.1, this.out, ex_all]
      · exact below_put I.out.2.2.2.2.2 (by omega) _ _ _ _
    · have hg : (0 : Int) ≤ x := by omega
      clear lo hlt
      obtain ⟨qf, q0, q1, q2, q3⟩ := I.out.2.2.1
      go_wp2_with fail
      refine Calls.mono (mul_any s0 s1 s2 s3 s0 s1 s2 s3 I.out.2.2.2.1 I.out.2.2.2.1 _) ?_
      rintro e w1 ⟨t0, t1, t2, t3, rfl, ut, vt, hb1⟩
      have J : Hid (At4 w1 w.heap.size (.int .u64 a0) (.int .u64 a1) (.int .u64 a2) (.int .u64 a3) ∧ At4 w1 (w.heap.size + 1) (.int .u64 0) (.int .u64 0) (.int .u64 0) (.int .u64 0)
          ∧ At4 w1 (w.heap.size + 1 + 1) (.int .u64 s0) (.int .u64 s1) (.int .u64 s2) (.int .u64 s3) ∧ u4 t0 t1 t2 t3 ∧ v4 t0 t1 t2 t3 = v4 a0 a1 a2 a3 ^ (2 * ex n) % p ∧ Below w.heap.size w w1) :=
        ⟨I.out.1.later hb1, I.out.2.1.later hb1, I.out.2.2.1.later hb1, ut, by rw [vt, I.out.2.2.2.2.1, pow_sq_mod], chain I.out.2.2.2.2.2 hb1⟩
      clear vt ut hb1 qf q0 q1 q2 q3
      obtain ⟨qf, q0, q1, q2, q3⟩ := J.out.2.2.1
      by_cases h2 : x = 2
      · have b2 : (x != 2) = false := by simp [h2]
        have hn : Hid (n = 252 ∨ n = 250) := by have := hx.out; show n = 252 ∨ n = 250; omega
        clear h2
        go_wp2
        go_roundw
        case rel =>
          refine ⟨n + 1, x - 1, t0, t1, t2, t3, by go_num, ?_, by omega, by omega, ?_⟩
          · have := hx.out; show x - 1 = _; omega
          · refine ⟨At4.put J.out.1 (by omega) _ _ _ _, At4.put J.out.2.1 (by omega) _ _ _ _, At4.whole J.out.2.2.1 _ _ _ _, J.out.2.2.2.1, ?_, below_put J.out.2.2.2.2.2 (by omega) _ _ _ _⟩
            rw [J.out.2.2.2.2.1, ex_skip n hn.out]
        case measure => simp [intOf]; omega
      · by_cases h4 : x = 4
        · have b2 : (x != 2) = true := by simp [h2]
          have b4 : (x != 4) = false := by simp [h4]
          have hn : Hid (n = 252 ∨ n = 250) := by have := hx.out; show n = 252 ∨ n = 250; omega
          clear h2 h4
          go_wp2
          go_roundw
          case rel =>
            refine ⟨n + 1, x - 1, t0, t1, t2, t3, by go_num, ?_, by omega, by omega, ?_⟩
            · have := hx.out; show x - 1 = _; omega
            · refine ⟨At4.put J.out.1 (by omega) _ _ _ _, At4.put J.out.2.1 (by omega) _ _ _ _, At4.whole J.out.2.2.1 _ _ _ _, J.out.2.2.2.1, ?_, below_put J.out.2.2.2.2.2 (by omega) _ _ _ _⟩
              rw [J.out.2.2.2.2.1, ex_skip n hn.out]
          case measure => simp [intOf]; omega
        · have b2 : (x != 2) = true := by simp [h2]
          have b4 : (x != 4) = true := by simp [h4]
          have hn : Hid (¬ (n = 252 ∨ n = 250)) := by have := hx.out; show ¬ (n = 252 ∨ n = 250); omega
          clear h2 h4
          obtain ⟨pf, p0, p1, p2, p3⟩ := J.out.1
          go_wp2_with fail
          refine Calls.mono (mul_any t0 t1 t2 t3 a0 a1 a2 a3 J.out.2.2.2.1 ha _) ?_
          rintro e w2 ⟨z0, z1, z2, z3, rfl, uz, vz, hb2⟩
          have K : Hid (At4 w2 w.heap.size (.int .u64 a0) (.int .u64 a1) (.int .u64 a2) (.int .u64 a3) ∧ At4 w2 (w.heap.size + 1) (.int .u64 0) (.int .u64 0) (.int .u64 0) (.int .u64 0)
              ∧ At4 w2 (w.heap.size + 1 + 1) (.int .u64 t0) (.int .u64 t1) (.int .u64 t2) (.int .u64 t3) ∧ u4 z0 z1 z2 z3 ∧ v4 z0 z1 z2 z3 = v4 a0 a1 a2 a3 ^ (2 * ex n + 1) % p ∧ Below w.heap.size w w2) :=
            ⟨At4.later (At4.put J.out.1 (by omega) _ _ _ _) hb2, At4.later (At4.put J.out.2.1 (by omega) _ _ _ _) hb2, At4.later (At4.whole J.out.2.2.1 _ _ _ _) hb2, uz, by rw [vz, J.out.2.2.2.2.1, pow_mul_mod], chain (below_put J.out.2.2.2.2.2 (by omega) _ _ _ _) hb2⟩
          clear vz uz hb2 qf q0 q1 q2 q3 pf p0 p1 p2 p3
          obtain ⟨qf, q0, q1, q2, q3⟩ := K.out.2.2.1
          go_wp2
          go_roundw
          case rel =>
            refine ⟨n + 1, x - 1, z0, z1, z2, z3, by go_num, ?_, by omega, by omega, ?_⟩
            · have := hx.out; show x - 1 = _; omega
            · refine ⟨At4.put K.out.1 (by omega) _ _ _ _, At4.put K.out.2.1 (by omega) _ _ _ _, At4.whole K.out.2.2.1 _ _ _ _, K.out.2.2.2.1, ?_, below_put K.out.2.2.2.2.2 (by omega) _ _ _ _⟩
              rw [K.out.2.2.2.2.1, ex_take n hn.out]
          case measure => simp [intOf]; omega

end Go.Proofs.Ytdebfelgaiofeaa
