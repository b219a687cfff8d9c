/- What Square of package field does. -/
import Derived.Test.YtmoeijgblhfpdaaW18
namespace Go.Proofs.Ytmoeijgblhfpdaa
open Go.RowKit Go.Proofs.Fd

set_option maxHeartbeats 2000000 in
theorem Square_ok (s : ByteArray) (t : Nat) (ht : t ≤ 300) (hs : Hid (chk s = 0)) (w : World) :
    Calls Try.prog 25 #[.string s, .int .i64 t] w fun e w' => e = two (enc (num s.data.toList ^ 2 ^ t % p)) 0 ∧ Below w.heap.size w w' := by
  have C : Hid (∀ w, Calls Try.prog 14 #[.string s] w fun e w' => e = .returned (.int .i64 0) ∧ Below w.heap.size w w') := fun w => by
    have := Check_any s w; rw [hs.out] at this; exact this
  have h0 : ¬ (t : Int) < 0 := by omega
  have d0 : decide ((t : Int) < 0) = false := by simp
  have h1 : ¬ (300 : Int) < (t : Int) := by omega
  go_enter Try.func25, Try.ntmps25
  go_wp2_with fail
  refine Calls.mono (C.out _) ?_
  rintro e w0 ⟨rfl, hb0⟩
  have B0 : Hid (Below w.heap.size w w0) := hb0
  clear hb0
  go_wp2_with fail
  refine Calls.mono (load_any s (chk_zero hs.out).1 _) ?_
  rintro e w1 ⟨c0, c1, c2, c3, rfl, u1, v1, hb1⟩
  have V1 : Hid (u4 c0 c1 c2 c3 ∧ v4 c0 c1 c2 c3 = num s.data.toList ∧ Below w.heap.size w w1) := ⟨u1, v1, chain B0.out hb1⟩
  clear u1 v1 hb1
  go_wp2
  go_loopw [22] (fun i wr => ∃ k s0 s1 s2 s3 : Nat, k ≤ t ∧ i = .int .i64 k ∧ Hid (At4 wr w1.heap.size (.int .u64 s0) (.int .u64 s1) (.int .u64 s2) (.int .u64 s3) ∧ u4 s0 s1 s2 s3 ∧ v4 s0 s1 s2 s3 = num s.data.toList ^ 2 ^ k % p ∧ Below w.heap.size w wr)) (fun i _ => t - (intOf i).toNat)
  case atStart =>
    refine ⟨0, c0, c1, c2, c3, Nat.zero_le _, rfl, ?_, V1.out.1, ?_, V1.out.2.2.alloc V1.out.2.2.size _⟩
    · simp [At4, go_sem]
    · rw [V1.out.2.1, Nat.pow_zero, Nat.pow_one, Nat.mod_eq_of_lt (chk_zero hs.out).2]
  case round =>
    obtain ⟨k, s0, s1, s2, s3, hk, rfl, I⟩ := hrel
    obtain ⟨qf, q0, q1, q2, q3⟩ := I.out.1
    by_cases hlt : k < t
    · go_wp2_with fail
      refine Calls.mono (mul_any s0 s1 s2 s3 s0 s1 s2 s3 I.out.2.1 I.out.2.1 _) ?_
      rintro e w2 ⟨d0, d1, d2, d3, rfl, ud, vd, hb2⟩
      have J : Hid (At4 w2 w1.heap.size (.int .u64 s0) (.int .u64 s1) (.int .u64 s2) (.int .u64 s3) ∧ u4 d0 d1 d2 d3 ∧ v4 d0 d1 d2 d3 = num s.data.toList ^ 2 ^ (k + 1) % p ∧ Below w.heap.size w w2) :=
        ⟨I.out.1.later hb2, ud, by rw [vd, I.out.2.2.1, pow_sq_mod, Nat.pow_succ 2 k, Nat.mul_comm 2], chain I.out.2.2.2 hb2⟩
      clear ud vd hb2 qf q0 q1 q2 q3
      obtain ⟨qf, q0, q1, q2, q3⟩ := J.out.1
      go_wp2
      go_roundw
      case rel => exact ⟨k + 1, d0, d1, d2, d3, by omega, by go_num, At4.whole J.out.1 _ _ _ _, J.out.2.1, J.out.2.2.1, below_put J.out.2.2.2 V1.out.2.2.size _ _ _ _⟩
      case measure => simp [intOf]; omega
    · have hkt : k = t := by omega
      subst hkt
      go_wp2_with fail
      refine Calls.mono (store_any s0 s1 s2 s3 I.out.2.1 _) ?_
      rintro e w3 ⟨rfl, hb3⟩
      have HB : Hid (Below w.heap.size w w3) := chain I.out.2.2.2 hb3
      have E : Hid ((⟨(byts 32 (v4 s0 s1 s2 s3)).toArray⟩ : ByteArray) = enc (num s.data.toList ^ 2 ^ k % p)) := by
        show _ = _; rw [I.out.2.2.1]; rfl
      clear hb3
      go_wp2
      go_ret2
      refine ⟨?_, HB.out⟩
      show Ending.returned (.tuple #[.string ⟨(byts 32 (v4 s0 s1 s2 s3)).toArray⟩, .int .i64 0]) = two (enc (num s.data.toList ^ 2 ^ k % p)) 0
      rw [E.out]; rfl

theorem Square_el (a : Nat) (x : Int) (t : Nat) (hx : x = (t : Int)) (ha : a < p) (ht : t ≤ 300) (w : World) :
    Calls Try.prog 25 #[.string (enc a), .int .i64 x] w fun e w' => e = .returned (.tuple #[.string (enc (a ^ 2 ^ t % p)), .int .i64 0]) ∧ Below w.heap.size w w' := by
  subst hx
  have := Square_ok (enc a) t ht (chk_enc ha) w
  rw [num_enc_p ha] at this
  exact this

end Go.Proofs.Ytmoeijgblhfpdaa
