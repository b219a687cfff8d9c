/- The document's answers: Check, wrong, Sub, Inv, Square. -/
import Derived.Test.YtmoeijgblhfpdaaR7
import Derived.Test.YtmoeijgblhfpdaaW19
namespace Go.Proofs.Ytmoeijgblhfpdaa
open Go.RowKit Go.Proofs.Fd

theorem num32 {s : ByteArray} (hs : s.size = 32) : num s.data.toList < W256 := by
  have q := num_lt s.data.toList
  rw [show s.data.toList.length = 32 by simpa using hs, pow_w256] at q
  exact q

set_option maxHeartbeats 2000000 in
theorem rCheck_any (s : ByteArray) (w : World) :
    Calls Try.prog 15 #[.string s] w fun e w' => e = .returned (.int .i64 (chk s)) ∧ Below w.heap.size w w' := by
  by_cases hs : s.size = 32
  · have hn : ((s.size : Int) != 32) = false := by simp [hs]
    have HS : Hid (s.size = 32) := hs
    clear hs
    by_cases hlt : num s.data.toList < p
    · have fin : Hid (chk s = 0) := by show chk s = 0; unfold chk; rw [if_pos HS.out, if_pos hlt]
      have RL : Hid (∀ c, dig c (num s.data.toList) → ∀ w, Calls Try.prog 37 #[.agg #[.int .i64 (c 0), .int .i64 (c 1), .int .i64 (c 2), .int .i64 (c 3), .int .i64 (c 4), .int .i64 (c 5), .int .i64 (c 6), .int .i64 (c 7), .int .i64 (c 8), .int .i64 (c 9)], .agg #[.int .i64 (pd 0), .int .i64 (pd 1), .int .i64 (pd 2), .int .i64 (pd 3), .int .i64 (pd 4), .int .i64 (pd 5), .int .i64 (pd 6), .int .i64 (pd 7), .int .i64 (pd 8), .int .i64 (pd 9)]] w fun e w' => e = .returned (.bool true) ∧ Below w.heap.size w w') := fun c hc w => by
        have := rless_any c pd hc.1 pd_can w
        rw [pd_val, hc.2, decide_eq_true (by omega)] at this
        exact this
      clear hlt
      go_enter Try.func15, Try.ntmps15
      go_wp2_with fail
      refine Calls.mono (Of_any s HS.out _) ?_
      rintro e w1 ⟨c, rfl, hc, hb1⟩
      have DC : Hid (dig c (num s.data.toList) ∧ Below w.heap.size w w1) := ⟨hc, hb1⟩
      clear hc hb1
      go_wp2_with fail
      refine Calls.mono (P_any _) ?_
      rintro e w2 ⟨rfl, hb2⟩
      have B2 : Hid (Below w.heap.size w w2) := chain DC.out.2 hb2
      clear hb2
      go_wp2_with fail
      refine Calls.mono (RL.out c DC.out.1 _) ?_
      rintro e w3 ⟨rfl, hb3⟩
      have B3 : Hid (Below w.heap.size w w3) := chain B2.out hb3
      clear hb3
      go_wp2
      go_ret
      exact ⟨ret_i64 fin.out.symm, B3.out⟩
    · have fin : Hid (chk s = 1) := by show chk s = 1; unfold chk; rw [if_pos HS.out, if_neg hlt]
      have RL : Hid (∀ c, dig c (num s.data.toList) → ∀ w, Calls Try.prog 37 #[.agg #[.int .i64 (c 0), .int .i64 (c 1), .int .i64 (c 2), .int .i64 (c 3), .int .i64 (c 4), .int .i64 (c 5), .int .i64 (c 6), .int .i64 (c 7), .int .i64 (c 8), .int .i64 (c 9)], .agg #[.int .i64 (pd 0), .int .i64 (pd 1), .int .i64 (pd 2), .int .i64 (pd 3), .int .i64 (pd 4), .int .i64 (pd 5), .int .i64 (pd 6), .int .i64 (pd 7), .int .i64 (pd 8), .int .i64 (pd 9)]] w fun e w' => e = .returned (.bool false) ∧ Below w.heap.size w w') := fun c hc w => by
        have := rless_any c pd hc.1 pd_can w
        rw [pd_val, hc.2, decide_eq_false (by omega)] at this
        exact this
      clear hlt
      go_enter Try.func15, Try.ntmps15
      go_wp2_with fail
      refine Calls.mono (Of_any s HS.out _) ?_
      rintro e w1 ⟨c, rfl, hc, hb1⟩
      have DC : Hid (dig c (num s.data.toList) ∧ Below w.heap.size w w1) := ⟨hc, hb1⟩
      clear hc hb1
      go_wp2_with fail
      refine Calls.mono (P_any _) ?_
      rintro e w2 ⟨rfl, hb2⟩
      have B2 : Hid (Below w.heap.size w w2) := chain DC.out.2 hb2
      clear hb2
      go_wp2_with fail
      refine Calls.mono (RL.out c DC.out.1 _) ?_
      rintro e w3 ⟨rfl, hb3⟩
      have B3 : Hid (Below w.heap.size w w3) := chain B2.out hb3
      clear hb3
      go_wp2
      go_ret
      exact ⟨ret_i64 fin.out.symm, B3.out⟩
  · have hn : ((s.size : Int) != 32) = true := by simp; omega
    have fin : Hid (chk s = 3) := by show chk s = 3; unfold chk; rw [if_neg hs]
    clear hs
    go_enter Try.func15, Try.ntmps15
    go_wp2
    go_ret
    exact ⟨ret_i64 fin.out.symm, Below.refl _ _⟩

set_option maxHeartbeats 1000000 in
theorem rwrong_any (a : Option Addr) (ss : List ByteArray) (n cap : Nat) (hn : Hid (ss.length = n)) (hm : n ≤ 9223372036854775807) (w : World) (hc : Hid (StrAt w a ss)) :
    Calls Try.prog 42 #[.slice a n cap] w fun e w' => e = .returned (.int .i64 (chkList ss)) ∧ Below w.heap.size w w' := by
  go_enter Try.func42, Try.ntmps42
  go_wp2
  go_loopw [3] (fun i wr => ∃ k : Nat, k ≤ n ∧ i = .int .i64 k ∧ Hid (chkAll (ss.take k) = 0 ∧ Below w.heap.size w wr)) (fun i _ => n - (intOf i).toNat)
  case atStart => exact ⟨0, Nat.zero_le _, rfl, rfl, Below.refl _ _⟩
  case round =>
    obtain ⟨k, hk, rfl, I⟩ := hrel
    by_cases hlt : k < n
    · have hk' : k < ss.length := by have := hn.out; omega
      obtain ⟨b, o, rfl, hcell⟩ := StrAt.later hc.out I.out.2 k hk'
      have HI : Hid (∀ h : k < ss.length, chkAll (ss.take k) = 0 → ¬ chk ss[k] = 0 → chkAll ss = chk ss[k]) := fun h a b => chkAll_found ss k h a b
      have HT : Hid (chkAll (ss.take (k + 1)) = chk ss[k]) := chkAll_take_succ ss k hk' I.out.1
      obtain ⟨s, hs⟩ : ∃ s, ss[k] = s := ⟨_, rfl⟩
      rw [hs] at hcell
      have HS : Hid (ss[k] = s) := hs
      clear hs
      go_wp2_with fail
      refine Calls.mono (rCheck_any s _) ?_
      rintro e w1 ⟨rfl, hb1⟩
      have HB : Hid (Below w.heap.size w w1) := chain I.out.2 hb1
      clear hb1
      by_cases h0 : chk s = 0
      · have hz : (chk s != 0) = false := by simp [h0]
        have H0 : Hid (chk s = 0) := h0
        clear h0
        go_wp2
        go_roundw
        case rel => exact ⟨k + 1, by omega, by go_num, by rw [HT.out, HS.out]; exact H0.out, HB.out⟩
        case measure => simp [intOf]; omega
      · have hz : (chk s != 0) = true := by simp [h0]
        have fin : Hid (chkList ss = chk s) := by
          show chkList ss = chk s
          have q := HI.out hk' I.out.1 (by rw [HS.out]; exact h0)
          rw [HS.out] at q
          unfold chkList; rw [q, if_neg h0]
        clear h0
        go_wp2
        go_ret
        exact ⟨ret_i64 fin.out.symm, HB.out⟩
    · have hkn : k = n := by omega
      subst hkn
      have CA : Hid (chkAll ss = 0) := by
        have := I.out.1; rw [List.take_of_length_le (by have := hn.out; omega)] at this; exact this
      by_cases h1 : k ≤ 100
      · have hg : ¬ (100 : Int) < (k : Int) := by omega
        have fin : Hid (chkList ss = 0) := by show chkList ss = 0; unfold chkList; rw [if_pos CA.out, if_pos (by have := hn.out; omega)]
        go_wp2
        go_ret
        exact ⟨ret_i64 fin.out.symm, I.out.2⟩
      · have hg : (100 : Int) < (k : Int) := by omega
        have fin : Hid (chkList ss = 2) := by show chkList ss = 2; unfold chkList; rw [if_pos CA.out, if_neg (by have := hn.out; omega)]
        go_wp2
        go_ret
        exact ⟨ret_i64 fin.out.symm, I.out.2⟩


theorem rBytes (c : Nat → Int) (n : Nat) (hc : Hid (dig c (n % p))) (w : World) :
    Calls Try.prog 34 #[.agg #[.int .i64 (c 0), .int .i64 (c 1), .int .i64 (c 2), .int .i64 (c 3), .int .i64 (c 4), .int .i64 (c 5), .int .i64 (c 6), .int .i64 (c 7), .int .i64 (c 8), .int .i64 (c 9)]] w fun e w' => e = .returned (.string (enc (n % p))) ∧ Below w.heap.size w w' :=
  Bytes_any c (n % p) hc (Nat.lt_trans (Nat.mod_lt _ p_pos) p_lt) w

theorem rLess (a b : Nat → Int) (x y : Nat) (ha : Hid (dig a x)) (hb : Hid (dig b y)) (hy : y < p) (w : World) :
    Calls Try.prog 46 #[.agg #[.int .i64 (a 0), .int .i64 (a 1), .int .i64 (a 2), .int .i64 (a 3), .int .i64 (a 4), .int .i64 (a 5), .int .i64 (a 6), .int .i64 (a 7), .int .i64 (a 8), .int .i64 (a 9)], .agg #[.int .i64 (b 0), .int .i64 (b 1), .int .i64 (b 2), .int .i64 (b 3), .int .i64 (b 4), .int .i64 (b 5), .int .i64 (b 6), .int .i64 (b 7), .int .i64 (b 8), .int .i64 (b 9)]] w fun e w' => ∃ c : Nat → Int, e = .returned (.agg #[.int .i64 (c 0), .int .i64 (c 1), .int .i64 (c 2), .int .i64 (c 3), .int .i64 (c 4), .int .i64 (c 5), .int .i64 (c 6), .int .i64 (c 7), .int .i64 (c 8), .int .i64 (c 9)]) ∧ dig c ((x + p - y) % p) ∧ Below w.heap.size w w' := by
  refine Calls.mono (Less_any a b ha.out.1 hb.out.1 (by show _ ≤ _; rw [hb.out.2]; omega) w) ?_
  rintro e w1 ⟨c, rfl, hc, hb1⟩
  exact ⟨c, rfl, dig_less ha.out hb.out (by omega) hc, hb1⟩

set_option maxHeartbeats 2000000 in
theorem rInv_ok (s : ByteArray) (hs : Hid (chk s = 0)) (w : World) :
    Calls Try.prog 24 #[.string s] w fun e w' => e = .returned (.tuple #[.string (enc (num s.data.toList ^ (p - 2) % p)), .int .i64 0]) ∧ Below w.heap.size w w' := by
  have C : Hid (∀ w, Calls Try.prog 15 #[.string s] w fun e w' => e = .returned (.int .i64 0) ∧ Below w.heap.size w w') := fun w => by
    have := rCheck_any s w; rw [hs.out] at this; exact this
  go_enter Try.func24, Try.ntmps24
  go_wp2_with fail
  refine Calls.mono (C.out _) ?_
  rintro e w0 ⟨rfl, hb0⟩
  have B0 : Hid (Below w.heap.size w w0) := hb0
  clear hb0
  go_wp2_with fail
  refine Calls.mono (Of_any s (chk_zero hs.out).1 _) ?_
  rintro e w1 ⟨c, rfl, hc, hb1⟩
  have DC : Hid (dig c (num s.data.toList)) := hc
  have B1 : Hid (Below w.heap.size w w1) := chain B0.out hb1
  clear hc hb1
  go_wp2_with fail
  refine Calls.mono (Inverse_any c _ DC _) ?_
  rintro e w2 ⟨g, rfl, hg, hb2⟩
  have DG : Hid (dig g (num s.data.toList ^ (p - 2) % p)) := hg
  have B2 : Hid (Below w.heap.size w w2) := chain B1.out hb2
  clear hg hb2
  go_wp2_with fail
  refine Calls.mono (rBytes g _ DG _) ?_
  rintro e w3 ⟨rfl, hb3⟩
  have B3 : Hid (Below w.heap.size w w3) := chain B2.out hb3
  clear hb3
  go_wp2
  go_ret2
  exact ⟨rfl, B3.out⟩

set_option maxHeartbeats 2000000 in
theorem rInv_no (s : ByteArray) (hs : ¬ chk s = 0) (w : World) :
    Calls Try.prog 24 #[.string s] w fun e w' => e = .returned (.tuple #[.string ByteArray.empty, .int .i64 (chk s)]) ∧ Below w.heap.size w w' := by
  have hz : (chk s != 0) = true := by simp [hs]
  clear hs
  go_enter Try.func24, Try.ntmps24
  go_wp2_with fail
  refine Calls.mono (rCheck_any s _) ?_
  rintro e w0 ⟨rfl, hb0⟩
  have B0 : Hid (Below w.heap.size w w0) := hb0
  clear hb0
  go_wp2
  go_ret2
  exact ⟨rfl, B0.out⟩

set_option maxHeartbeats 2000000 in
theorem rSquare_ok (s : ByteArray) (t : Nat) (ht : t ≤ 300) (hs : Hid (chk s = 0)) (w : World) :
    Calls Try.prog 26 #[.string s, .int .i64 t] w fun e w' => e = .returned (.tuple #[.string (enc (num s.data.toList ^ 2 ^ t % p)), .int .i64 0]) ∧ Below w.heap.size w w' := by
  have C : Hid (∀ w, Calls Try.prog 15 #[.string s] w fun e w' => e = .returned (.int .i64 0) ∧ Below w.heap.size w w') := fun w => by
    have := rCheck_any s w; rw [hs.out] at this; exact this
  have h0 : ¬ (t : Int) < 0 := by omega
  have d0 : decide ((t : Int) < 0) = false := by simp
  have h1 : ¬ (300 : Int) < (t : Int) := by omega
  go_enter Try.func26, Try.ntmps26
  go_wp2_with fail
  refine Calls.mono (C.out _) ?_
  rintro e w0 ⟨rfl, hb0⟩
  have B0 : Hid (Below w.heap.size w w0) := hb0
  clear hb0
  go_wp2_with fail
  refine Calls.mono (Of_any s (chk_zero hs.out).1 _) ?_
  rintro e w1 ⟨c, rfl, hc, hb1⟩
  have DC : Hid (dig c (num s.data.toList)) := hc
  have B1 : Hid (Below w.heap.size w w1) := chain B0.out hb1
  clear hc hb1
  go_wp2_with fail
  refine Calls.mono (Squared_any c _ t DC (chk_zero hs.out).2 (by omega) _) ?_
  rintro e w2 ⟨g, rfl, hg, hb2⟩
  have DG : Hid (dig g (num s.data.toList ^ 2 ^ t % p)) := hg
  have B2 : Hid (Below w.heap.size w w2) := chain B1.out hb2
  clear hg hb2
  go_wp2_with fail
  refine Calls.mono (rBytes g _ DG _) ?_
  rintro e w3 ⟨rfl, hb3⟩
  have B3 : Hid (Below w.heap.size w w3) := chain B2.out hb3
  clear hb3
  go_wp2
  go_ret2
  exact ⟨rfl, B3.out⟩

set_option maxHeartbeats 2000000 in
theorem rSquare_no (s : ByteArray) (t : Int) (hs : ¬ chk s = 0) (w : World) :
    Calls Try.prog 26 #[.string s, .int .i64 t] w fun e w' => e = .returned (.tuple #[.string ByteArray.empty, .int .i64 (chk s)]) ∧ Below w.heap.size w w' := by
  have hz : (chk s != 0) = true := by simp [hs]
  clear hs
  go_enter Try.func26, Try.ntmps26
  go_wp2_with fail
  refine Calls.mono (rCheck_any s _) ?_
  rintro e w0 ⟨rfl, hb0⟩
  have B0 : Hid (Below w.heap.size w w0) := hb0
  clear hb0
  go_wp2
  go_ret2
  exact ⟨rfl, B0.out⟩

set_option maxHeartbeats 2000000 in
theorem Square_no (s : ByteArray) (t : Int) (hs : ¬ chk s = 0) (w : World) :
    Calls Try.prog 25 #[.string s, .int .i64 t] w fun e w' => e = .returned (.tuple #[.string ByteArray.empty, .int .i64 (chk s)]) ∧ Below w.heap.size w w' := by
  have hz : (chk s != 0) = true := by simp [hs]
  clear hs
  go_enter Try.func25, Try.ntmps25
  go_wp2_with fail
  refine Calls.mono (Check_any s _) ?_
  rintro e w0 ⟨rfl, hb0⟩
  have B0 : Hid (Below w.heap.size w w0) := hb0
  clear hb0
  go_wp2
  go_ret2
  exact ⟨rfl, B0.out⟩

set_option maxHeartbeats 2000000 in
theorem rSquare_out (s : ByteArray) (t : Int) (ht : t < 0 ∨ 300 < t) (hs : Hid (chk s = 0)) (w : World) :
    Calls Try.prog 26 #[.string s, .int .i64 t] w fun e w' => e = .returned (.tuple #[.string ByteArray.empty, .int .i64 1]) ∧ Below w.heap.size w w' := by
  have C : Hid (∀ w, Calls Try.prog 15 #[.string s] w fun e w' => e = .returned (.int .i64 0) ∧ Below w.heap.size w w') := fun w => by
    have := rCheck_any s w; rw [hs.out] at this; exact this
  rcases ht with h | h
  · go_enter Try.func26, Try.ntmps26
    go_wp2_with fail
    refine Calls.mono (C.out _) ?_
    rintro e w0 ⟨rfl, hb0⟩
    have B0 : Hid (Below w.heap.size w w0) := hb0
    clear hb0
    go_wp2
    go_ret2
    exact ⟨rfl, B0.out⟩
  · have h0 : ¬ t < 0 := by omega
    have d0 : decide (t < 0) = false := by simpa using h0
    go_enter Try.func26, Try.ntmps26
    go_wp2_with fail
    refine Calls.mono (C.out _) ?_
    rintro e w0 ⟨rfl, hb0⟩
    have B0 : Hid (Below w.heap.size w w0) := hb0
    clear hb0
    go_wp2
    go_ret2
    exact ⟨rfl, B0.out⟩

set_option maxHeartbeats 2000000 in
theorem Square_out (s : ByteArray) (t : Int) (ht : t < 0 ∨ 300 < t) (hs : Hid (chk s = 0)) (w : World) :
    Calls Try.prog 25 #[.string s, .int .i64 t] w fun e w' => e = .returned (.tuple #[.string ByteArray.empty, .int .i64 1]) ∧ Below w.heap.size w w' := by
  have C : Hid (∀ w, Calls Try.prog 14 #[.string s] w fun e w' => e = .returned (.int .i64 0) ∧ Below w.heap.size w w') := fun w => by
    have := Check_any s w; rw [hs.out] at this; exact this
  rcases ht with h | h
  · go_enter Try.func25, Try.ntmps25
    go_wp2_with fail
    refine Calls.mono (C.out _) ?_
    rintro e w0 ⟨rfl, hb0⟩
    have B0 : Hid (Below w.heap.size w w0) := hb0
    clear hb0
    go_wp2
    go_ret2
    exact ⟨rfl, B0.out⟩
  · have h0 : ¬ t < 0 := by omega
    have d0 : decide (t < 0) = false := by simpa using h0
    go_enter Try.func25, Try.ntmps25
    go_wp2_with fail
    refine Calls.mono (C.out _) ?_
    rintro e w0 ⟨rfl, hb0⟩
    have B0 : Hid (Below w.heap.size w w0) := hb0
    clear hb0
    go_wp2
    go_ret2
    exact ⟨rfl, B0.out⟩

set_option maxHeartbeats 2000000 in
theorem rSub_ok (s t : ByteArray) (hs : Hid (chk s = 0)) (ht : Hid (chk t = 0)) (w : World) :
    Calls Try.prog 22 #[.string s, .string t] w fun e w' => e = .returned (.tuple #[.string (enc ((num s.data.toList + p - num t.data.toList) % p)), .int .i64 0]) ∧ Below w.heap.size w w' := by
  have CL : Hid (chkList [s, t] = 0) := by
    show chkList [s, t] = 0
    have q1 := hs.out; have q2 := ht.out
    unfold chkList chkAll chkAll chkAll; simp [q1, q2]
  have C : Hid (∀ (b : Nat) (w : World), StrAt w (some ⟨b, 0, none⟩) [s, t] → Calls Try.prog 42 #[.slice (some ⟨b, 0, none⟩) 2 2] w fun e w' => e = .returned (.int .i64 0) ∧ Below w.heap.size w w') := fun b w hw => by
    have := rwrong_any (some ⟨b, 0, none⟩) [s, t] 2 2 rfl (by omega) w hw; rw [CL.out] at this; exact this
  go_enter Try.func22, Try.ntmps22
  go_wp2_with fail
  refine Calls.mono (C.out w.heap.size _ (strAt2 (by simp [go_sem]) (by simp [go_sem]))) ?_
  rintro e w0 ⟨rfl, hb0⟩
  have B0 : Hid (Below w.heap.size w w0) := chain ((Below.refl _ _).alloc (Nat.le_refl _) _) hb0
  clear hb0
  go_wp2_with fail
  refine Calls.mono (Of_any s (chk_zero hs.out).1 _) ?_
  rintro e w1 ⟨c, rfl, hc, hb1⟩
  have DC : Hid (dig c (num s.data.toList)) := hc
  have B1 : Hid (Below w.heap.size w w1) := chain B0.out hb1
  clear hc hb1
  go_wp2_with fail
  refine Calls.mono (Of_any t (chk_zero ht.out).1 _) ?_
  rintro e w2 ⟨d, rfl, hd, hb2⟩
  have DD : Hid (dig d (num t.data.toList)) := hd
  have B2 : Hid (Below w.heap.size w w2) := chain B1.out hb2
  clear hd hb2
  go_wp2_with fail
  refine Calls.mono (rLess c d _ _ DC DD (chk_zero ht.out).2 _) ?_
  rintro e w3 ⟨g, rfl, hg, hb3⟩
  have DG : Hid (dig g ((num s.data.toList + p - num t.data.toList) % p)) := hg
  have B3 : Hid (Below w.heap.size w w3) := chain B2.out hb3
  clear hg hb3
  go_wp2_with fail
  refine Calls.mono (rBytes g _ DG _) ?_
  rintro e w4 ⟨rfl, hb4⟩
  have B4 : Hid (Below w.heap.size w w4) := chain B3.out hb4
  clear hb4
  go_wp2
  go_ret2
  exact ⟨rfl, B4.out⟩

set_option maxHeartbeats 2000000 in
theorem rSub_no (s t : ByteArray) (hs : ¬ chkList [s, t] = 0) (w : World) :
    Calls Try.prog 22 #[.string s, .string t] w fun e w' => e = .returned (.tuple #[.string ByteArray.empty, .int .i64 (chkList [s, t])]) ∧ Below w.heap.size w w' := by
  have hz : (chkList [s, t] != 0) = true := by simp [hs]
  clear hs
  obtain ⟨x, hx⟩ : ∃ x, chkList [s, t] = x := ⟨_, rfl⟩
  have C : Hid (∀ (b : Nat) (w : World), StrAt w (some ⟨b, 0, none⟩) [s, t] → Calls Try.prog 42 #[.slice (some ⟨b, 0, none⟩) 2 2] w fun e w' => e = .returned (.int .i64 x) ∧ Below w.heap.size w w') := fun b w hw => by
    have := rwrong_any (some ⟨b, 0, none⟩) [s, t] 2 2 rfl (by omega) w hw; rw [hx] at this; exact this
  rw [hx] at hz ⊢
  clear hx
  go_enter Try.func22, Try.ntmps22
  go_wp2_with fail
  refine Calls.mono (C.out w.heap.size _ (strAt2 (by simp [go_sem]) (by simp [go_sem]))) ?_
  rintro e w0 ⟨rfl, hb0⟩
  have B0 : Hid (Below w.heap.size w w0) := chain ((Below.refl _ _).alloc (Nat.le_refl _) _) hb0
  clear hb0
  go_wp2
  go_ret2
  exact ⟨rfl, B0.out⟩

end Go.Proofs.Ytmoeijgblhfpdaa
