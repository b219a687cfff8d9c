/- The document's sums and products of lists, and what is refused. -/
import Derived.Test.YtmoeijgblhfpdaaR9
namespace Go.Proofs.Ytmoeijgblhfpdaa
open Go.RowKit Go.Proofs.Fd
attribute [local go_sem ↓] Go.wp_at_zero Go.wp_at_succ

theorem mulFrom_lt (a : Nat) (l : List ByteArray) (ha : a < p) : mulFrom a l < p := by
  rcases List.eq_nil_or_concat l with rfl | ⟨m, b, rfl⟩
  · exact ha
  · unfold mulFrom; rw [List.concat_eq_append, List.foldl_append]; exact Nat.mod_lt _ p_pos

theorem mulFrom_cons (x : ByteArray) (r : List ByteArray) (hx : num x.data.toList < p) : mulFrom 1 (x :: r) = mulFrom (num x.data.toList) r := by
  show mulFrom (1 * num x.data.toList % p) r = _
  rw [Nat.one_mul, Nat.mod_eq_of_lt hx]

set_option maxRecDepth 100000 in
set_option maxHeartbeats 4000000 in
theorem rAdd_ok (a : Option Addr) (ss : List ByteArray) (n cap : Nat) (hn : Hid (ss.length = n)) (hm : n ≤ 9223372036854775807) (hs : Hid (chkList ss = 0)) (w : World) (hc : Hid (StrAt w a ss)) :
    Calls Try.prog 18 #[.slice a n cap] w fun e w' => e = .returned (.tuple #[.string (enc (sumOf ss)), .int .i64 0]) ∧ Below w.heap.size w w' := by
  have C : Hid (Calls Try.prog 42 #[.slice a n cap] w fun e w' => e = .returned (.int .i64 0) ∧ Below w.heap.size w w') := by
    have := rwrong_any a ss n cap hn hm w hc; rw [hs.out] at this; exact this
  have ALL : Hid (∀ s ∈ ss, chk s = 0) := chkAll_mem (chkList_zero hs.out).1
  go_enter Try.func18, Try.ntmps18
  go_wp2_with fail
  refine Calls.mono C.out ?_
  rintro e w0 ⟨rfl, hb0⟩
  have B0 : Hid (Below w.heap.size w w0) := hb0
  clear hb0
  go_wp2
  go_loopw [6] (fun i wr => ∃ (k : Nat) (f : Nat → Int), k ≤ n ∧ i = .int .i64 k ∧ Hid (RowAt wr w0.heap.size 10 f ∧ dig f (sumOf (ss.take k)) ∧ Below w.heap.size w wr)) (fun i _ => n - (intOf i).toNat)
  case atStart => exact ⟨0, fun _ => 0, Nat.zero_le _, rfl, row_zero w0 49, zero_dig, B0.out.alloc B0.out.size _⟩
  case round =>
    obtain ⟨k, f, hk, rfl, I⟩ := hrel
    have c0 := I.out.1.2 0 (by omega); have c1 := I.out.1.2 1 (by omega); have c2 := I.out.1.2 2 (by omega); have c3 := I.out.1.2 3 (by omega); have c4 := I.out.1.2 4 (by omega); have c5 := I.out.1.2 5 (by omega); have c6 := I.out.1.2 6 (by omega); have c7 := I.out.1.2 7 (by omega); have c8 := I.out.1.2 8 (by omega); have c9 := I.out.1.2 9 (by omega)
    have cf := I.out.1.1
    by_cases hlt : k < n
    · have hk' : k < ss.length := by have := hn.out; omega
      obtain ⟨b, o, rfl, hcell⟩ := StrAt.later hc.out I.out.2.2 k hk'
      have HS : Hid (chk ss[k] = 0 ∧ sumOf (ss.take (k + 1)) = (sumOf (ss.take k) + num ss[k].data.toList) % p) := ⟨ALL.out _ (List.getElem_mem hk'), sumOf_take_succ ss k hk'⟩
      obtain ⟨s, es⟩ : ∃ s, ss[k] = s := ⟨_, rfl⟩
      rw [es] at hcell HS
      clear es
      have bk0 : (0 : Int) ≤ (k : Int) := by omega
      have bk1 : (k : Int) < (n : Int) := by omega
      go_wp2
      go_region_with (first | (go_at_call 38; refine Calls.mono (Of_any s (chk_zero HS.out.1).1 _) ?_; rintro e w1 ⟨g, rfl, dg, hb1⟩; have G := RowAt.later (RowAt.drew I.out.1) (by omega) hb1; have k0 := G.2 0 (by omega); have k1 := G.2 1 (by omega); have k2 := G.2 2 (by omega); have k3 := G.2 3 (by omega); have k4 := G.2 4 (by omega); have k5 := G.2 5 (by omega); have k6 := G.2 6 (by omega); have k7 := G.2 7 (by omega); have k8 := G.2 8 (by omega); have k9 := G.2 9 (by omega); have gf := G.1) | (go_at_call 32; refine Calls.mono (rPlus f g _ _ I.out.2.1 dg _) ?_; rintro e w2 ⟨h, rfl, dh, hb2⟩; have G2 := RowAt.later G (by omega) hb2; have m0 := G2.2 0 (by omega); have m1 := G2.2 1 (by omega); have m2 := G2.2 2 (by omega); have m3 := G2.2 3 (by omega); have m4 := G2.2 4 (by omega); have m5 := G2.2 5 (by omega); have m6 := G2.2 6 (by omega); have m7 := G2.2 7 (by omega); have m8 := G2.2 8 (by omega); have m9 := G2.2 9 (by omega); have mf := G2.1))
      all_goals
        have K : Hid (RowAt w2 w0.heap.size 10 f ∧ dig h (sumOf (ss.take (k + 1))) ∧ Below w.heap.size w w2) := ⟨G2, by rw [HS.out.2]; exact dh, chain (chain I.out.2.2.drew hb1) hb2⟩
        clear hb1 hb2 dg dh G G2
        go_wp2
        go_roundw
        case rel => exact ⟨k + 1, h, by omega, by go_num, RowAt.whole K.out.1 h, K.out.2.1, below_put10 K.out.2.2 B0.out.size h⟩
        case measure => simp [intOf]; omega
    · have hkn : k = n := by omega
      subst hkn
      have DF : Hid (dig f (sumOf ss)) := by
        have := I.out.2.1
        rw [List.take_of_length_le (by have := hn.out; omega)] at this
        exact this
      have HL : Hid (sumOf ss < p) := sumOf_lt ss
      go_wp2_with fail
      refine Calls.mono (Bytes_any f _ DF (Nat.lt_trans HL.out p_lt) _) ?_
      rintro e w3 ⟨rfl, hb3⟩
      have B3 : Hid (Below w.heap.size w w3) := chain I.out.2.2 hb3
      clear hb3
      go_wp2
      go_ret2
      exact ⟨rfl, B3.out⟩

set_option maxRecDepth 100000 in
set_option maxHeartbeats 4000000 in
theorem rMul_ok (a : Option Addr) (ss : List ByteArray) (n cap : Nat) (hn : Hid (ss.length = n)) (hm : n ≤ 9223372036854775807) (hs : Hid (chkList ss = 0)) (w : World) (hc : Hid (StrAt w a ss)) :
    Calls Try.prog 20 #[.slice a n cap] w fun e w' => e = .returned (.tuple #[.string (enc (mulFrom 1 ss)), .int .i64 0]) ∧ Below w.heap.size w w' := by
  have C : Hid (Calls Try.prog 42 #[.slice a n cap] w fun e w' => e = .returned (.int .i64 0) ∧ Below w.heap.size w w') := by
    have := rwrong_any a ss n cap hn hm w hc; rw [hs.out] at this; exact this
  have ALL : Hid (∀ s ∈ ss, chk s = 0) := chkAll_mem (chkList_zero hs.out).1
  go_enter Try.func20, Try.ntmps20
  go_wp2_with fail
  refine Calls.mono C.out ?_
  rintro e w0 ⟨rfl, hb0⟩
  have B0 : Hid (Below w.heap.size w w0) := hb0
  clear hb0
  go_wp2_with fail
  refine Calls.mono (One_any _) ?_
  rintro e w4 ⟨rfl, hb4⟩
  have B4 : Hid (Below w.heap.size w w4) := chain B0.out hb4
  clear hb4
  go_wp2
  go_loopw [6] (fun i wr => ∃ (k : Nat) (f : Nat → Int), k ≤ n ∧ i = .int .i64 k ∧ Hid (RowAt wr w4.heap.size 10 f ∧ dig f (mulFrom 1 (ss.take k)) ∧ Below w.heap.size w wr)) (fun i _ => n - (intOf i).toNat)
  case atStart => exact ⟨0, od1, Nat.zero_le _, rfl, row_new w4 od1 49, od1_dig, B4.out.alloc B4.out.size _⟩
  case round =>
    obtain ⟨k, f, hk, rfl, I⟩ := hrel
    have c0 := I.out.1.2 0 (by omega); have c1 := I.out.1.2 1 (by omega); have c2 := I.out.1.2 2 (by omega); have c3 := I.out.1.2 3 (by omega); have c4 := I.out.1.2 4 (by omega); have c5 := I.out.1.2 5 (by omega); have c6 := I.out.1.2 6 (by omega); have c7 := I.out.1.2 7 (by omega); have c8 := I.out.1.2 8 (by omega); have c9 := I.out.1.2 9 (by omega)
    have cf := I.out.1.1
    by_cases hlt : k < n
    · have hk' : k < ss.length := by have := hn.out; omega
      obtain ⟨b, o, rfl, hcell⟩ := StrAt.later hc.out I.out.2.2 k hk'
      have HS : Hid (chk ss[k] = 0 ∧ mulFrom 1 (ss.take (k + 1)) = (mulFrom 1 (ss.take k) * num ss[k].data.toList) % p) := ⟨ALL.out _ (List.getElem_mem hk'), mulFrom_take_succ 1 ss k hk'⟩
      obtain ⟨s, es⟩ : ∃ s, ss[k] = s := ⟨_, rfl⟩
      rw [es] at hcell HS
      clear es
      have bk0 : (0 : Int) ≤ (k : Int) := by omega
      have bk1 : (k : Int) < (n : Int) := by omega
      go_wp2
      go_region_with (first | (go_at_call 38; refine Calls.mono (Of_any s (chk_zero HS.out.1).1 _) ?_; rintro e w1 ⟨g, rfl, dg, hb1⟩; have G := RowAt.later (RowAt.drew I.out.1) (by omega) hb1; have k0 := G.2 0 (by omega); have k1 := G.2 1 (by omega); have k2 := G.2 2 (by omega); have k3 := G.2 3 (by omega); have k4 := G.2 4 (by omega); have k5 := G.2 5 (by omega); have k6 := G.2 6 (by omega); have k7 := G.2 7 (by omega); have k8 := G.2 8 (by omega); have k9 := G.2 9 (by omega); have gf := G.1) | (go_at_call 33; refine Calls.mono (rTimes f g _ _ I.out.2.1 dg _) ?_; rintro e w2 ⟨h, rfl, dh, hb2⟩; have G2 := RowAt.later G (by omega) hb2; have m0 := G2.2 0 (by omega); have m1 := G2.2 1 (by omega); have m2 := G2.2 2 (by omega); have m3 := G2.2 3 (by omega); have m4 := G2.2 4 (by omega); have m5 := G2.2 5 (by omega); have m6 := G2.2 6 (by omega); have m7 := G2.2 7 (by omega); have m8 := G2.2 8 (by omega); have m9 := G2.2 9 (by omega); have mf := G2.1))
      all_goals
        have K : Hid (RowAt w2 w4.heap.size 10 f ∧ dig h (mulFrom 1 (ss.take (k + 1))) ∧ Below w.heap.size w w2) := ⟨G2, by rw [HS.out.2]; exact dh, chain (chain I.out.2.2.drew hb1) hb2⟩
        clear hb1 hb2 dg dh G G2
        go_wp2
        go_roundw
        case rel => exact ⟨k + 1, h, by omega, by go_num, RowAt.whole K.out.1 h, K.out.2.1, below_put10 K.out.2.2 B4.out.size h⟩
        case measure => simp [intOf]; omega
    · have hkn : k = n := by omega
      subst hkn
      have DF : Hid (dig f (mulFrom 1 ss)) := by
        have := I.out.2.1
        rw [List.take_of_length_le (by have := hn.out; omega)] at this
        exact this
      have HL : Hid (mulFrom 1 ss < p) := mulFrom_lt 1 ss (by decide)
      go_wp2_with fail
      refine Calls.mono (Bytes_any f _ DF (Nat.lt_trans HL.out p_lt) _) ?_
      rintro e w3 ⟨rfl, hb3⟩
      have B3 : Hid (Below w.heap.size w w3) := chain I.out.2.2 hb3
      clear hb3
      go_wp2
      go_ret2
      exact ⟨rfl, B3.out⟩

set_option maxHeartbeats 1000000 in
theorem rAdd_no (a : Option Addr) (ss : List ByteArray) (n cap : Nat) (hn : Hid (ss.length = n)) (hm : n ≤ 9223372036854775807) (hs : ¬ chkList ss = 0) (w : World) (hc : Hid (StrAt w a ss)) :
    Calls Try.prog 18 #[.slice a n cap] w fun e w' => e = .returned (.tuple #[.string ByteArray.empty, .int .i64 (chkList ss)]) ∧ Below w.heap.size w w' := by
  have hz : (chkList ss != 0) = true := by simp [hs]
  have C : Hid (Calls Try.prog 42 #[.slice a n cap] w fun e w' => e = .returned (.int .i64 (chkList ss)) ∧ Below w.heap.size w w') := rwrong_any a ss n cap hn hm w hc
  clear hs
  go_enter Try.func18, Try.ntmps18
  go_wp2_with fail
  refine Calls.mono C.out ?_
  rintro e w0 ⟨rfl, hb0⟩
  have B0 : Hid (Below w.heap.size w w0) := hb0
  clear hb0
  go_wp2
  go_ret2
  exact ⟨rfl, B0.out⟩

set_option maxHeartbeats 1000000 in
theorem rMul_no (a : Option Addr) (ss : List ByteArray) (n cap : Nat) (hn : Hid (ss.length = n)) (hm : n ≤ 9223372036854775807) (hs : ¬ chkList ss = 0) (w : World) (hc : Hid (StrAt w a ss)) :
    Calls Try.prog 20 #[.slice a n cap] w fun e w' => e = .returned (.tuple #[.string ByteArray.empty, .int .i64 (chkList ss)]) ∧ Below w.heap.size w w' := by
  have hz : (chkList ss != 0) = true := by simp [hs]
  have C : Hid (Calls Try.prog 42 #[.slice a n cap] w fun e w' => e = .returned (.int .i64 (chkList ss)) ∧ Below w.heap.size w w') := rwrong_any a ss n cap hn hm w hc
  clear hs
  go_enter Try.func20, Try.ntmps20
  go_wp2_with fail
  refine Calls.mono C.out ?_
  rintro e w0 ⟨rfl, hb0⟩
  have B0 : Hid (Below w.heap.size w w0) := hb0
  clear hb0
  go_wp2
  go_ret2
  exact ⟨rfl, B0.out⟩

set_option maxHeartbeats 1000000 in
theorem Add_no (a : Option Addr) (ss : List ByteArray) (n cap : Nat) (hn : Hid (ss.length = n)) (hm : n ≤ 9223372036854775807) (hs : ¬ chkList ss = 0) (w : World) (hc : Hid (StrAt w a ss)) :
    Calls Try.prog 17 #[.slice a n cap] w fun e w' => e = .returned (.tuple #[.string ByteArray.empty, .int .i64 (chkList ss)]) ∧ Below w.heap.size w w' := by
  have hz : (chkList ss != 0) = true := by simp [hs]
  have C : Hid (Calls Try.prog 40 #[.slice a n cap] w fun e w' => e = .returned (.int .i64 (chkList ss)) ∧ Below w.heap.size w w') := checkList_any a ss n cap hn hm w hc
  clear hs
  go_enter Try.func17, Try.ntmps17
  go_wp2_with fail
  refine Calls.mono C.out ?_
  rintro e w0 ⟨rfl, hb0⟩
  have B0 : Hid (Below w.heap.size w w0) := hb0
  clear hb0
  go_wp2
  go_ret2
  exact ⟨rfl, B0.out⟩

set_option maxHeartbeats 1000000 in
theorem Mul_no (a : Option Addr) (ss : List ByteArray) (n cap : Nat) (hn : Hid (ss.length = n)) (hm : n ≤ 9223372036854775807) (hs : ¬ chkList ss = 0) (w : World) (hc : Hid (StrAt w a ss)) :
    Calls Try.prog 19 #[.slice a n cap] w fun e w' => e = .returned (.tuple #[.string ByteArray.empty, .int .i64 (chkList ss)]) ∧ Below w.heap.size w w' := by
  have hz : (chkList ss != 0) = true := by simp [hs]
  have C : Hid (Calls Try.prog 40 #[.slice a n cap] w fun e w' => e = .returned (.int .i64 (chkList ss)) ∧ Below w.heap.size w w') := checkList_any a ss n cap hn hm w hc
  clear hs
  go_enter Try.func19, Try.ntmps19
  go_wp2_with fail
  refine Calls.mono C.out ?_
  rintro e w0 ⟨rfl, hb0⟩
  have B0 : Hid (Below w.heap.size w w0) := hb0
  clear hb0
  go_wp2
  go_ret2
  exact ⟨rfl, B0.out⟩

set_option maxHeartbeats 1000000 in
theorem Mul_nil (a : Option Addr) (cap : Nat) (w : World) :
    Calls Try.prog 19 #[.slice a 0 cap] w fun e w' => e = .returned (.tuple #[.string (enc 1), .int .i64 0]) ∧ Below w.heap.size w w' := by
  have C : Hid (Calls Try.prog 40 #[.slice a 0 cap] w fun e w' => e = .returned (.int .i64 0) ∧ Below w.heap.size w w') := checkList_any a [] 0 cap rfl (by omega) w (fun i hi => by simp at hi)
  have S1 : Hid (∀ w, Calls Try.prog 29 #[.agg #[.int .u64 1, .int .u64 0, .int .u64 0, .int .u64 0]] w fun e w' => e = .returned (.string (enc 1)) ∧ Below w.heap.size w w') := fun w => store_any 1 0 0 0 (by unfold Hid u4; omega) w
  go_enter Try.func19, Try.ntmps19
  go_wp2_with fail
  refine Calls.mono C.out ?_
  rintro e w0 ⟨rfl, hb0⟩
  have B0 : Hid (Below w.heap.size w w0) := hb0
  clear hb0
  go_wp2_with fail
  refine Calls.mono (S1.out _) ?_
  rintro e w1 ⟨rfl, hb1⟩
  have B1 : Hid (Below w.heap.size w w1) := chain B0.out hb1
  clear hb1
  go_wp2
  go_ret2
  exact ⟨rfl, B1.out⟩

end Go.Proofs.Ytmoeijgblhfpdaa
