/- What Small, Reduce, Sub and Inv of package field do. -/
import Derived.Test.YtdebfelgaiofeaaW13
namespace Go.Proofs.Ytdebfelgaiofeaa
open Go.RowKit Go.Proofs.Fd

/-- A text and an error's number. -/
def two (s : ByteArray) (e : Int) : Ending := .returned (.tuple #[.string s, .int .i64 e])

set_option maxHeartbeats 1000000 in
theorem Small_ok (n : Nat) (hn : n ≤ 2147483647) (w : World) :
    Calls Try.prog 30 #[.int .i64 n] w fun e w' => e = two (enc n) 0 ∧ Below w.heap.size w w' := by
  have S0 : Hid (∀ w, Calls Try.prog 45 #[.agg #[.int .u64 n, .int .u64 0, .int .u64 0, .int .u64 0]] w fun e w' => e = .returned (.string (enc n)) ∧ Below w.heap.size w w') := fun w => by
    have q := store_any n 0 0 0 (by unfold Hid u4; omega) w
    rw [show v4 n 0 0 0 = n by unfold v4; omega] at q
    exact q
  have h0 : ¬ (n : Int) < 0 := by omega
  have h1 : ¬ (2147483647 : Int) < (n : Int) := by omega
  have d0 : decide ((n : Int) < 0) = false := by simp
  have hw : IntKind.u64.wrap (n : Int) = (n : Int) := by rw [IntKind.wrap_u64]; omega
  go_enter Try.func30, Try.ntmps30
  go_wp2_with fail
  refine Calls.mono (S0.out _) ?_
  rintro e w1 ⟨rfl, hb⟩
  have HB : Hid (Below w.heap.size w w1) := hb
  clear hb
  go_wp2
  go_ret2
  exact ⟨rfl, HB.out⟩

set_option maxHeartbeats 1000000 in
theorem Small_no (n : Int) (hn : n < 0 ∨ 2147483647 < n) (w : World) :
    Calls Try.prog 30 #[.int .i64 n] w fun e w' => e = two ByteArray.empty 1 ∧ Below w.heap.size w w' := by
  rcases hn with h | h
  · go_enter Try.func30, Try.ntmps30
    go_wp2
    go_ret2
    exact ⟨rfl, Below.refl _ _⟩
  · have h0 : ¬ n < 0 := by omega
    have d0 : decide (n < 0) = false := by simpa using h0
    go_enter Try.func30, Try.ntmps30
    go_wp2
    go_ret2
    exact ⟨rfl, Below.refl _ _⟩

set_option maxHeartbeats 1000000 in
theorem Reduce_ok (s : ByteArray) (hs : s.size ≤ 64) (w : World) :
    Calls Try.prog 39 #[.string s] w fun e w' => e = two (enc (num s.data.toList % p)) 0 ∧ Below w.heap.size w w' := by
  have hg : ¬ (64 : Int) < (s.size : Int) := by omega
  have HS : Hid (s.size ≤ 64) := hs
  clear hs
  go_enter Try.func39, Try.ntmps39
  go_wp2_with fail
  refine Calls.mono (loadWide_any s HS.out _) ?_
  rintro e w1 ⟨c0, c1, c2, c3, c4, c5, c6, c7, rfl, u1, u2, v1, hb1⟩
  have U1 : Hid (u4 c0 c1 c2 c3) := u1
  have U2 : Hid (u4 c4 c5 c6 c7) := u2
  have V : Hid (v4 c0 c1 c2 c3 + W256 * v4 c4 c5 c6 c7 = num s.data.toList ∧ Below w.heap.size w w1) := ⟨v1, hb1⟩
  clear u1 u2 v1 hb1
  go_wp2_with fail
  refine Calls.mono (fold_any c0 c1 c2 c3 c4 c5 c6 c7 U1 U2 _) ?_
  rintro e w2 ⟨d0, d1, d2, d3, rfl, ud, vd, hb2⟩
  have UD : Hid (u4 d0 d1 d2 d3) := ud
  have VD : Hid (v4 d0 d1 d2 d3 = num s.data.toList % p ∧ Below w.heap.size w w2) := ⟨by rw [vd, V.out.1], chain V.out.2 hb2⟩
  clear ud vd hb2 V
  go_wp2_with fail
  refine Calls.mono (store_any d0 d1 d2 d3 UD _) ?_
  rintro e w3 ⟨rfl, hb3⟩
  have HB : Hid (Below w.heap.size w w3) := chain VD.out.2 hb3
  have E : Hid ((⟨(byts 32 (v4 d0 d1 d2 d3)).toArray⟩ : ByteArray) = enc (num s.data.toList % p)) := by show _ = _; rw [VD.out.1]; rfl
  clear hb3
  go_wp2
  go_ret2
  refine ⟨?_, HB.out⟩
  show Ending.returned (.tuple #[.string ⟨(byts 32 (v4 d0 d1 d2 d3)).toArray⟩, .int .i64 0]) = two (enc (num s.data.toList % p)) 0
  rw [E.out]; rfl

set_option maxHeartbeats 1000000 in
theorem Reduce_no (s : ByteArray) (hs : 64 < s.size) (w : World) :
    Calls Try.prog 39 #[.string s] w fun e w' => e = two ByteArray.empty 2 ∧ Below w.heap.size w w' := by
  have hg : (64 : Int) < (s.size : Int) := by omega
  clear hs
  go_enter Try.func39, Try.ntmps39
  go_wp2
  go_ret2
  exact ⟨rfl, Below.refl _ _⟩

set_option maxHeartbeats 1000000 in
theorem Inv_ok (s : ByteArray) (hs : Hid (chk s = 0)) (w : World) :
    Calls Try.prog 61 #[.string s] w fun e w' => e = two (enc (num s.data.toList ^ (p - 2) % p)) 0 ∧ Below w.heap.size w w' := by
  have C : Hid (∀ w, Calls Try.prog 21 #[.string s] w fun e w' => e = .returned (.int .i64 0) ∧ Below w.heap.size w w') := fun w => by
    have := Check_any s w; rw [hs.out] at this; exact this
  go_enter Try.func61, Try.ntmps61
  go_wp2_with fail
  refine Calls.mono (C.out _) ?_
  rintro e w0 ⟨rfl, hb0⟩
  have B0 : Hid (Below w.heap.size w w0) := hb0
  clear hb0
  go_wp2_with fail
  refine Calls.mono (load_any s (chk_zero hs.out).1 _) ?_
  rintro e w1 ⟨c0, c1, c2, c3, rfl, u1, v1, hb1⟩
  have U1 : Hid (u4 c0 c1 c2 c3) := u1
  have V : Hid (v4 c0 c1 c2 c3 = num s.data.toList ∧ Below w.heap.size w w1) := ⟨v1, chain B0.out hb1⟩
  clear u1 v1 hb1
  go_wp2_with fail
  refine Calls.mono (invert_any c0 c1 c2 c3 U1 _) ?_
  rintro e w2 ⟨d0, d1, d2, d3, rfl, ud, vd, hb2⟩
  have UD : Hid (u4 d0 d1 d2 d3) := ud
  have VD : Hid (v4 d0 d1 d2 d3 = num s.data.toList ^ (p - 2) % p ∧ Below w.heap.size w w2) := ⟨by rw [vd, V.out.1], chain V.out.2 hb2⟩
  clear ud vd hb2 V
  go_wp2_with fail
  refine Calls.mono (store_any d0 d1 d2 d3 UD _) ?_
  rintro e w3 ⟨rfl, hb3⟩
  have HB : Hid (Below w.heap.size w w3) := chain VD.out.2 hb3
  have E : Hid ((⟨(byts 32 (v4 d0 d1 d2 d3)).toArray⟩ : ByteArray) = enc (num s.data.toList ^ (p - 2) % p)) := by show _ = _; rw [VD.out.1]; rfl
  clear hb3
  go_wp2
  go_ret2
  refine ⟨?_, HB.out⟩
  show Ending.returned (.tuple #[.string ⟨(byts 32 (v4 d0 d1 d2 d3)).toArray⟩, .int .i64 0]) = two (enc (num s.data.toList ^ (p - 2) % p)) 0
  rw [E.out]; rfl

set_option maxHeartbeats 1000000 in
theorem Inv_no (s : ByteArray) (hs : ¬ chk s = 0) (w : World) :
    Calls Try.prog 61 #[.string s] w fun e w' => e = two ByteArray.empty (chk s) ∧ Below w.heap.size w w' := by
  have hz : (chk s != 0) = true := by simp [hs]
  clear hs
  go_enter Try.func61, Try.ntmps61
  go_wp2_with fail
  refine Calls.mono (Check_any s _) ?_
  rintro e w0 ⟨rfl, hb0⟩
  have B0 : Hid (Below w.heap.size w w0) := hb0
  clear hb0
  go_wp2
  go_ret2
  exact ⟨rfl, B0.out⟩

set_option maxHeartbeats 1000000 in
theorem Sub_ok (s t : ByteArray) (hs : Hid (chk s = 0)) (ht : Hid (chk t = 0)) (w : World) :
    Calls Try.prog 59 #[.string s, .string t] w fun e w' => e = two (enc ((num s.data.toList + p - num t.data.toList) % p)) 0 ∧ Below w.heap.size w w' := by
  have CL : Hid (chkList [s, t] = 0) := by
    show chkList [s, t] = 0
    have q1 := hs.out; have q2 := ht.out
    unfold chkList chkAll chkAll chkAll; simp [q1, q2]
  have C : Hid (∀ (b : Nat) (w : World), StrAt w (some ⟨b, 0, none⟩) [s, t] → Calls Try.prog 67 #[.slice (some ⟨b, 0, none⟩) 2 2] w fun e w' => e = .returned (.int .i64 0) ∧ Below w.heap.size w w') := fun b w hw => by
    have := checkList_any (some ⟨b, 0, none⟩) [s, t] 2 2 rfl (by omega) w hw; rw [CL.out] at this; exact this
  go_enter Try.func59, Try.ntmps59
  go_wp2_with fail
  refine Calls.mono (C.out w.heap.size _ ?_) ?_
  · intro i hi
    have : i = 0 ∨ i = 1 := by simp at hi; omega
    rcases this with rfl | rfl
    · exact ⟨_, _, rfl, by simp [go_sem]⟩
    · exact ⟨_, _, rfl, by simp [go_sem]⟩
  rintro e w0 ⟨rfl, hb0⟩
  have B0 : Hid (Below w.heap.size w w0) := chain ((Below.refl _ _).alloc (Nat.le_refl _) _) hb0
  clear hb0
  go_wp2_with fail
  refine Calls.mono (load_any s (chk_zero hs.out).1 _) ?_
  rintro e w1 ⟨c0, c1, c2, c3, rfl, u1, v1, hb1⟩
  have U1 : Hid (u4 c0 c1 c2 c3) := u1
  have V1 : Hid (v4 c0 c1 c2 c3 = num s.data.toList ∧ Below w.heap.size w w1) := ⟨v1, chain B0.out hb1⟩
  clear u1 v1 hb1
  go_wp2_with fail
  refine Calls.mono (load_any t (chk_zero ht.out).1 _) ?_
  rintro e w2 ⟨d0, d1, d2, d3, rfl, u2, v2, hb2⟩
  have U2 : Hid (u4 d0 d1 d2 d3) := u2
  have V2 : Hid (v4 d0 d1 d2 d3 = num t.data.toList ∧ Below w.heap.size w w2) := ⟨v2, chain V1.out.2 hb2⟩
  clear u2 v2 hb2
  go_wp2_with fail
  refine Calls.mono (sub_any c0 c1 c2 c3 d0 d1 d2 d3 U1 U2 (by show _ < p; rw [V1.out.1]; exact (chk_zero hs.out).2) (by show _ < p; rw [V2.out.1]; exact (chk_zero ht.out).2) _) ?_
  rintro e w3 ⟨f0, f1, f2, f3, rfl, uf, vf, hb3⟩
  have UF : Hid (u4 f0 f1 f2 f3) := uf
  have VF : Hid (v4 f0 f1 f2 f3 = (num s.data.toList + p - num t.data.toList) % p ∧ Below w.heap.size w w3) := ⟨by rw [vf, V1.out.1, V2.out.1], chain V2.out.2 hb3⟩
  clear uf vf hb3
  go_wp2_with fail
  refine Calls.mono (store_any f0 f1 f2 f3 UF _) ?_
  rintro e w4 ⟨rfl, hb4⟩
  have HB : Hid (Below w.heap.size w w4) := chain VF.out.2 hb4
  have E : Hid ((⟨(byts 32 (v4 f0 f1 f2 f3)).toArray⟩ : ByteArray) = enc ((num s.data.toList + p - num t.data.toList) % p)) := by show _ = _; rw [VF.out.1]; rfl
  clear hb4
  go_wp2
  go_ret2
  refine ⟨?_, HB.out⟩
  show Ending.returned (.tuple #[.string ⟨(byts 32 (v4 f0 f1 f2 f3)).toArray⟩, .int .i64 0]) = two (enc ((num s.data.toList + p - num t.data.toList) % p)) 0
  rw [E.out]; rfl

set_option maxHeartbeats 1000000 in
theorem Sub_no (s t : ByteArray) (hs : ¬ chkList [s, t] = 0) (w : World) :
    Calls Try.prog 59 #[.string s, .string t] w fun e w' => e = two ByteArray.empty (chkList [s, t]) ∧ Below w.heap.size w w' := by
  have hz : (chkList [s, t] != 0) = true := by simp [hs]
  clear hs
  obtain ⟨x, hx⟩ : ∃ x, chkList [s, t] = x := ⟨_, rfl⟩
  have C : Hid (∀ (b : Nat) (w : World), StrAt w (some ⟨b, 0, none⟩) [s, t] → Calls Try.prog 67 #[.slice (some ⟨b, 0, none⟩) 2 2] w fun e w' => e = .returned (.int .i64 x) ∧ Below w.heap.size w w') := fun b w hw => by
    have := checkList_any (some ⟨b, 0, none⟩) [s, t] 2 2 rfl (by omega) w hw; rw [hx] at this; exact this
  rw [hx] at hz ⊢
  clear hx
  go_enter Try.func59, Try.ntmps59
  go_wp2_with fail
  refine Calls.mono (C.out w.heap.size _ ?_) ?_
  · intro i hi
    have : i = 0 ∨ i = 1 := by simp at hi; omega
    rcases this with rfl | rfl
    · exact ⟨_, _, rfl, by simp [go_sem]⟩
    · exact ⟨_, _, rfl, by simp [go_sem]⟩
  rintro e w0 ⟨rfl, hb0⟩
  have B0 : Hid (Below w.heap.size w w0) := chain ((Below.refl _ _).alloc (Nat.le_refl _) _) hb0
  clear hb0
  go_wp2
  go_ret2
  exact ⟨rfl, B0.out⟩

end Go.Proofs.Ytdebfelgaiofeaa
