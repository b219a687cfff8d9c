/- What Add of package field does. -/
import Derived.Test.YtdebfelgaiofeaaW14
import Derived.Test.YtdebfelgaiofeaaMA
namespace Go.Proofs.Ytdebfelgaiofeaa
open Go.RowKit Go.Proofs.Fd
attribute [local go_sem ↓] Go.wp_at_zero Go.wp_at_succ

/-- A round's memory: the running number in block b, the list where it was. -/
def RunAt (w wr : World) (a : Option Addr) (ss : List ByteArray) (b s0 s1 s2 s3 v : Nat) : Prop :=
  At4 wr b (.int .u64 s0) (.int .u64 s1) (.int .u64 s2) (.int .u64 s3) ∧ u4 s0 s1 s2 s3 ∧ v4 s0 s1 s2 s3 = v ∧ StrAt w a ss ∧ w.heap.size ≤ b ∧ Below w.heap.size w wr

set_option maxHeartbeats 2000000 in
theorem Add_ok (a : Option Addr) (ss : List ByteArray) (n cap : Nat) (hn : Hid (ss.length = n)) (hm : n ≤ 9223372036854775807) (hs : Hid (chkList ss = 0)) (w : World) (hc : Hid (StrAt w a ss)) :
    Calls Try.prog 60 #[.slice a n cap] w fun e w' => e = two (enc (sumOf ss)) 0 ∧ Below w.heap.size w w' := by
  have C : Hid (Calls Try.prog 67 #[.slice a n cap] w fun e w' => e = .returned (.int .i64 0) ∧ Below w.heap.size w w') := by
    have := checkList_any a ss n cap hn hm w hc; rw [hs.out] at this; exact this
  have ALL : Hid (∀ s ∈ ss, chk s = 0) := chkAll_mem (chkList_zero hs.out).1
  go_enter Try.func60, Try.ntmps60
  go_wp2_with fail
  refine Calls.mono C.out ?_
  rintro e w0 ⟨rfl, hb0⟩
  have B0 : Hid (Below w.heap.size w w0) := hb0
  clear hb0
  go_wp2
  go_loopw [15] (fun i wr => ∃ k s0 s1 s2 s3 : Nat, k ≤ n ∧ i = .int .i64 k ∧ Hid (RunAt w wr a ss w0.heap.size s0 s1 s2 s3 (sumOf (ss.take k)))) (fun i _ => n - (intOf i).toNat)
  case atStart =>
    refine ⟨0, 0, 0, 0, 0, Nat.zero_le _, rfl, ?_, ?_, ?_, hc.out, B0.out.size, B0.out.alloc B0.out.size _⟩
    · simp [At4, go_sem]
    · unfold u4; omega
    · rfl
  case round =>
    obtain ⟨k, s0, s1, s2, s3, hk, rfl, I⟩ := hrel
    obtain ⟨qf, q0, q1, q2, q3⟩ := I.out.1
    by_cases hlt : k < n
    · have hk' : k < ss.length := by have := hn.out; omega
      obtain ⟨b, o, rfl, hcell⟩ := StrAt.later I.out.2.2.2.1 I.out.2.2.2.2.2 k hk'
      have HS : Hid (chk ss[k] = 0 ∧ sumOf (ss.take (k + 1)) = (sumOf (ss.take k) + num ss[k].data.toList) % p) := ⟨ALL.out _ (List.getElem_mem hk'), sumOf_take_succ ss k hk'⟩
      obtain ⟨s, es⟩ : ∃ s, ss[k] = s := ⟨_, rfl⟩
      rw [es] at hcell HS
      clear es
      go_wp2
      go_region_with (first | (go_at_call 36; refine Calls.mono (load_any s (chk_zero HS.out.1).1 _) ?_; rintro e w1 ⟨c0, c1, c2, c3, rfl, uc, vc, hb1⟩; obtain ⟨kf, k0, k1, k2, k3⟩ := At4.later (At4.drew I.out.1) hb1) | (go_at_call 70; refine Calls.mono (add_any s0 s1 s2 s3 c0 c1 c2 c3 I.out.2.1 uc (by show _ < p; rw [I.out.2.2.1]; exact sumOf_lt _) (by show _ < p; rw [vc]; exact (chk_zero HS.out.1).2) _) ?_; rintro e w2 ⟨d0, d1, d2, d3, rfl, ud, vd, hb2⟩; obtain ⟨mf, m0, m1, m2, m3⟩ := At4.later (At4.later (At4.drew I.out.1) hb1) hb2))
      all_goals
        have KV : Hid (u4 d0 d1 d2 d3 ∧ v4 d0 d1 d2 d3 = sumOf (ss.take (k + 1)) ∧ Below w.heap.size w w2 ∧ At4 w2 w0.heap.size (.int .u64 s0) (.int .u64 s1) (.int .u64 s2) (.int .u64 s3)) :=
          ⟨ud, by rw [vd, I.out.2.2.1, vc, HS.out.2], chain (chain I.out.2.2.2.2.2.drew hb1) hb2, At4.later (At4.later (At4.drew I.out.1) hb1) hb2⟩
        clear ud vd vc uc hb1 hb2
        go_wp2
        go_roundw
        case rel => exact ⟨k + 1, d0, d1, d2, d3, by omega, by go_num, At4.whole KV.out.2.2.2 _ _ _ _, KV.out.1, KV.out.2.1, I.out.2.2.2.1, I.out.2.2.2.2.1, below_put KV.out.2.2.1 I.out.2.2.2.2.1 _ _ _ _⟩
        case measure => simp [intOf]; omega
    · have hkn : k = n := by omega
      subst hkn
      go_wp2_with fail
      refine Calls.mono (store_any s0 s1 s2 s3 I.out.2.1 _) ?_
      rintro e w3 ⟨rfl, hb3⟩
      have HB : Hid (Below w.heap.size w w3) := chain I.out.2.2.2.2.2 hb3
      have E : Hid ((⟨(byts 32 (v4 s0 s1 s2 s3)).toArray⟩ : ByteArray) = enc (sumOf ss)) := by
        show _ = _; rw [I.out.2.2.1, List.take_of_length_le (by have := hn.out; omega)]; rfl
      clear hb3
      go_wp2
      go_ret2
      refine ⟨?_, HB.out⟩
      show Ending.returned (.tuple #[.string ⟨(byts 32 (v4 s0 s1 s2 s3)).toArray⟩, .int .i64 0]) = two (enc (sumOf ss)) 0
      rw [E.out]; rfl

end Go.Proofs.Ytdebfelgaiofeaa
