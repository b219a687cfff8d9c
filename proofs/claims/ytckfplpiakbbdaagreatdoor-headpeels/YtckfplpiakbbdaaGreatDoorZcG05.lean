/- Parts: W16, W17. -/
import Derived.Test.YtckfplpiakbbdaaGreatDoorZcG04
import Derived.Test.YtckfplpiakbbdaaGreatDoorZcG02
namespace Go.Proofs.YtckfplpiakbbdaaGreatDoor.Crv
open Go.RowKit Go.Proofs.Fd
set_option maxRecDepth 20000
attribute [local go_sem ↓] Go.wp_at_zero Go.wp_at_succ
set_option maxHeartbeats 2000000 in
theorem Mul_ok (b o : Nat) (ss : List ByteArray) (n cap : Nat) (hn : Hid (ss.length = n)) (hm : n ≤ 9223372036854775807) (hcap : n ≤ cap) (hcm : cap ≤ 9223372036854775807) (h1 : 0 < n) (hs : Hid (chkList ss = 0)) (w : World) (hc : Hid (StrAt w (some ⟨b, o, none⟩) ss)) :
    Calls Tryz.prog 138 #[.slice (some ⟨b, o, none⟩) n cap] w fun e w' => e = two (enc (mulFrom (num (ss.headD ByteArray.empty).data.toList) ss.tail)) 0 ∧ Below w.heap.size w w' := by
  have C : Hid (Calls Tryz.prog 149 #[.slice (some ⟨b, o, none⟩) n cap] w fun e w' => e = .returned (.int .i64 0) ∧ Below w.heap.size w w') := by
    have := checkList_any (some ⟨b, o, none⟩) ss n cap hn hm w hc; rw [hs.out] at this; exact this
  have ALL : Hid (∀ s ∈ ss, chk s = 0) := chkAll_mem (chkList_zero hs.out).1
  have hne : ((n : Int) == 0) = false := by simp; omega
  have g1 : (0 : Int) < (n : Int) := by omega
  have g2 : (1 : Int) ≤ (n : Int) := by omega
  have g3 : (n : Int) ≤ (cap : Int) := by omega
  have g4 : (1 : Int) ≤ (cap : Int) := by omega
  obtain ⟨x, r, rfl⟩ : ∃ x r, ss = x :: r := by
    cases ss with
    | nil => exact absurd hn.out (by simp; omega)
    | cons x r => exact ⟨x, r, rfl⟩
  have HX : Hid (chk x = 0) := ALL.out x (by simp)
  by_cases hc1 : cap = 1
  · have hn1 : n = 1 := by omega
    have hr : Hid (r = []) := by have q := hn.out; simp at q; show r = []; exact List.eq_nil_of_length_eq_zero (by omega)
    subst hc1; subst hn1
    go_enter Tryz.func138, Tryz.ntmps138
    go_wp2_with fail
    refine Calls.mono C.out ?_
    rintro e w0 ⟨rfl, hb0⟩
    have B0 : Hid (Below w.heap.size w w0) := hb0
    have c0 : w0.cell? ⟨b, o, none⟩ = some (.string x) := by
      obtain ⟨b', o', e, hx⟩ := StrAt.later hc.out hb0 0 (by simp)
      cases e; simpa using hx
    clear hb0
    go_wp2_with fail
    refine Calls.mono (load_any x (chk_zero HX.out).1 _) ?_
    rintro e w1 ⟨t0, t1, t2, t3, rfl, ut, vt, hb1⟩
    have V1 : Hid (u4 t0 t1 t2 t3 ∧ v4 t0 t1 t2 t3 = num x.data.toList ∧ Below w.heap.size w w1) := ⟨ut, vt, chain B0.out hb1⟩
    clear ut vt hb1 c0
    go_wp2
    refine wp_loop_rounds 1 ?_
    rw [rounds_succ]
    go_wp2_with fail
    refine Calls.mono (store_any t0 t1 t2 t3 V1.out.1 _) ?_
    have BB : Hid (Below w.heap.size w (w1.alloc (.cells #[.int .u64 t0, .int .u64 t1, .int .u64 t2, .int .u64 t3] 135))) := V1.out.2.2.alloc V1.out.2.2.size _
    have E : Hid ((⟨(byts 32 (v4 t0 t1 t2 t3)).toArray⟩ : ByteArray) = enc (mulFrom (num x.data.toList) r)) := by
      show _ = _; rw [V1.out.2.1, hr.out]; rfl
    rintro e w3 ⟨rfl, hb3⟩
    have HB : Hid (Below w.heap.size w w3) := chain BB.out hb3
    clear hb3
    go_wp2
    go_ret2
    refine ⟨?_, HB.out⟩
    show Ending.returned (.tuple #[.string ⟨(byts 32 (v4 t0 t1 t2 t3)).toArray⟩, .int .i64 0]) = two (enc (mulFrom (num x.data.toList) r)) 0
    rw [E.out]; rfl
  · have hr : Hid (r.length = n - 1) := by have q := hn.out; simp at q; show r.length = n - 1; omega
    have hcr : Hid (StrAt w (some ⟨b, o + 1, none⟩) r) := fun i hi => by
      obtain ⟨b', o', e, hx⟩ := hc.out (i + 1) (by simpa using hi)
      cases e
      refine ⟨b, o + 1, rfl, ?_⟩
      rw [show o + 1 + i = o + (i + 1) by omega, hx]; simp
    have AR : Hid (∀ s ∈ r, chk s = 0) := fun s hs => ALL.out s (by simp [hs])
    go_enter Tryz.func138, Tryz.ntmps138
    go_wp2_with fail
    refine Calls.mono C.out ?_
    rintro e w0 ⟨rfl, hb0⟩
    have B0 : Hid (Below w.heap.size w w0) := hb0
    have c0 : w0.cell? ⟨b, o, none⟩ = some (.string x) := by
      obtain ⟨b', o', e, hx⟩ := StrAt.later hc.out hb0 0 (by simp)
      cases e; simpa using hx
    clear hb0
    go_wp2_with fail
    refine Calls.mono (load_any x (chk_zero HX.out).1 _) ?_
    rintro e w1 ⟨t0, t1, t2, t3, rfl, ut, vt, hb1⟩
    have V1 : Hid (u4 t0 t1 t2 t3 ∧ v4 t0 t1 t2 t3 = num x.data.toList ∧ Below w.heap.size w w1) := ⟨ut, vt, chain B0.out hb1⟩
    clear ut vt hb1 c0
    go_wp2
    obtain ⟨m, hm1⟩ : ∃ m, n - 1 = m := ⟨_, rfl⟩
    have hmm : m ≤ 9223372036854775807 := by omega
    rw [hm1] at hr ⊢
    clear hm1
    go_loopw [25] (fun i wr => ∃ k s0 s1 s2 s3 : Nat, k ≤ m ∧ i = .int .i64 k ∧ Hid (RunAt w wr (some ⟨b, o + 1, none⟩) r w1.heap.size s0 s1 s2 s3 (mulFrom (v4 t0 t1 t2 t3) (r.take k)))) (fun i _ => m - (intOf i).toNat)
    case atStart =>
      refine ⟨0, t0, t1, t2, t3, Nat.zero_le _, rfl, ?_, V1.out.1, rfl, hcr.out, V1.out.2.2.size, V1.out.2.2.alloc V1.out.2.2.size _⟩
      simp [At4, go_sem]
    case round =>
      obtain ⟨k, s0, s1, s2, s3, hk, rfl, I⟩ := hrel
      obtain ⟨qf, q0, q1, q2, q3⟩ := I.out.1
      by_cases hlt : k < m
      · have hk' : k < r.length := by have := hr.out; omega
        obtain ⟨b', o', e, hcell⟩ := StrAt.later I.out.2.2.2.1 I.out.2.2.2.2.2 k hk'
        cases e
        have HS : Hid (chk r[k] = 0 ∧ mulFrom (v4 t0 t1 t2 t3) (r.take (k + 1)) = (mulFrom (v4 t0 t1 t2 t3) (r.take k) * num r[k].data.toList) % p) := ⟨AR.out _ (List.getElem_mem hk'), mulFrom_take_succ _ r k hk'⟩
        obtain ⟨s, es⟩ : ∃ s, r[k] = s := ⟨_, rfl⟩
        rw [es] at hcell HS
        clear es
        go_wp2
        go_region_with (first | (go_at_call 150; refine Calls.mono (load_any s (chk_zero HS.out.1).1 _) ?_; rintro e w2 ⟨c0, c1, c2, c3, rfl, uc, vc, hb1⟩; obtain ⟨kf, k0, k1, k2, k3⟩ := At4.later (At4.drew I.out.1) hb1) | (go_at_call 151; refine Calls.mono (mul_any s0 s1 s2 s3 c0 c1 c2 c3 I.out.2.1 uc _) ?_; rintro e w3 ⟨d0, d1, d2, d3, rfl, ud, vd, hb2⟩; obtain ⟨mf, m0, m1, m2, m3⟩ := At4.later (At4.later (At4.drew I.out.1) hb1) hb2))
        all_goals
          have KV : Hid (u4 d0 d1 d2 d3 ∧ v4 d0 d1 d2 d3 = mulFrom (v4 t0 t1 t2 t3) (r.take (k + 1)) ∧ Below w.heap.size w w3 ∧ At4 w3 w1.heap.size (.int .u64 s0) (.int .u64 s1) (.int .u64 s2) (.int .u64 s3)) :=
            ⟨ud, by rw [vd, I.out.2.2.1, vc, HS.out.2], chain (chain I.out.2.2.2.2.2.drew hb1) hb2, At4.later (At4.later (At4.drew I.out.1) hb1) hb2⟩
          clear ud vd vc uc hb1 hb2
          go_wp2
          go_roundw
          case rel => exact ⟨k + 1, d0, d1, d2, d3, by omega, by go_num, At4.whole KV.out.2.2.2 _ _ _ _, KV.out.1, KV.out.2.1, I.out.2.2.2.1, I.out.2.2.2.2.1, below_put KV.out.2.2.1 I.out.2.2.2.2.1 _ _ _ _⟩
          case measure => simp [intOf]; omega
      · have hkn : k = m := by omega
        subst hkn
        go_wp2_with fail
        refine Calls.mono (store_any s0 s1 s2 s3 I.out.2.1 _) ?_
        have BB : Hid (Below w.heap.size w wr) := I.out.2.2.2.2.2
        have E : Hid ((⟨(byts 32 (v4 s0 s1 s2 s3)).toArray⟩ : ByteArray) = enc (mulFrom (num x.data.toList) r)) := by
          show _ = _; rw [I.out.2.2.1, List.take_of_length_le (by have := hr.out; omega), V1.out.2.1]; rfl
        rintro e w3 ⟨rfl, hb3⟩
        have HB : Hid (Below w.heap.size w w3) := chain BB.out hb3
        clear hb3
        go_wp2
        go_ret2
        refine ⟨?_, HB.out⟩
        show Ending.returned (.tuple #[.string ⟨(byts 32 (v4 s0 s1 s2 s3)).toArray⟩, .int .i64 0]) = two (enc (mulFrom (num x.data.toList) r)) 0
        rw [E.out]; rfl
end Go.Proofs.YtckfplpiakbbdaaGreatDoor.Crv
namespace Go.Proofs.YtckfplpiakbbdaaGreatDoor.Crv
open Go.RowKit Go.Proofs.Fd
set_option maxRecDepth 20000
theorem Sub_el (a b : Nat) (ha : a < p) (hb : b < p) (w : World) :
    Calls Tryz.prog 139 #[.string (enc a), .string (enc b)] w fun e w' => e = .returned (.tuple #[.string (enc ((a + p - b) % p)), .int .i64 0]) ∧ Below w.heap.size w w' := by
  have := Sub_ok (enc a) (enc b) (chk_enc ha) (chk_enc hb) w
  rw [num_enc_p ha, num_enc_p hb] at this
  exact this
theorem Inv_el (a : Nat) (ha : a < p) (w : World) :
    Calls Tryz.prog 141 #[.string (enc a)] w fun e w' => e = .returned (.tuple #[.string (enc (a ^ (p - 2) % p)), .int .i64 0]) ∧ Below w.heap.size w w' := by
  have := Inv_ok (enc a) (chk_enc ha) w
  rw [num_enc_p ha] at this
  exact this
theorem chkList2 {a b : Nat} (ha : a < p) (hb : b < p) : chkList [enc a, enc b] = 0 := by
  unfold chkList chkAll chkAll chkAll; simp [chk_enc ha, chk_enc hb]
theorem chkList3 {a b c : Nat} (ha : a < p) (hb : b < p) (hc : c < p) : chkList [enc a, enc b, enc c] = 0 := by
  unfold chkList chkAll chkAll chkAll chkAll; simp [chk_enc ha, chk_enc hb, chk_enc hc]
theorem strAt2 {w : World} {B : Nat} {s t : ByteArray} (h0 : w.cell? ⟨B, 0, none⟩ = some (.string s)) (h1 : w.cell? ⟨B, 1, none⟩ = some (.string t)) : StrAt w (some ⟨B, 0, none⟩) [s, t] := by
  intro i hi
  have : i = 0 ∨ i = 1 := by simp at hi; omega
  rcases this with rfl | rfl
  · exact ⟨_, _, rfl, h0⟩
  · exact ⟨_, _, rfl, h1⟩
theorem strAt3 {w : World} {B : Nat} {s t r : ByteArray} (h0 : w.cell? ⟨B, 0, none⟩ = some (.string s)) (h1 : w.cell? ⟨B, 1, none⟩ = some (.string t)) (h2 : w.cell? ⟨B, 2, none⟩ = some (.string r)) : StrAt w (some ⟨B, 0, none⟩) [s, t, r] := by
  intro i hi
  have : i = 0 ∨ i = 1 ∨ i = 2 := by simp at hi; omega
  rcases this with rfl | rfl | rfl
  · exact ⟨_, _, rfl, h0⟩
  · exact ⟨_, _, rfl, h1⟩
  · exact ⟨_, _, rfl, h2⟩
theorem Add2_el (a b B : Nat) (ha : a < p) (hb : b < p) (w : World) (h0 : w.cell? ⟨B, 0, none⟩ = some (.string (enc a))) (h1 : w.cell? ⟨B, 1, none⟩ = some (.string (enc b))) :
    Calls Tryz.prog 140 #[.slice (some ⟨B, 0, none⟩) 2 2] w fun e w' => e = .returned (.tuple #[.string (enc ((a + b) % p)), .int .i64 0]) ∧ Below w.heap.size w w' := by
  have := Add_ok (some ⟨B, 0, none⟩) [enc a, enc b] 2 2 rfl (by omega) (chkList2 ha hb) w (strAt2 h0 h1)
  have e : sumOf [enc a, enc b] = (a + b) % p := by
    show ((0 + num (enc a).data.toList) % p + num (enc b).data.toList) % p = _
    rw [num_enc_p ha, num_enc_p hb, sum2]
  rw [e] at this
  exact this
theorem Mul2_el (a b B : Nat) (ha : a < p) (hb : b < p) (w : World) (h0 : w.cell? ⟨B, 0, none⟩ = some (.string (enc a))) (h1 : w.cell? ⟨B, 1, none⟩ = some (.string (enc b))) :
    Calls Tryz.prog 138 #[.slice (some ⟨B, 0, none⟩) 2 2] w fun e w' => e = .returned (.tuple #[.string (enc (a * b % p)), .int .i64 0]) ∧ Below w.heap.size w w' := by
  have := Mul_ok B 0 [enc a, enc b] 2 2 rfl (by omega) (by omega) (by omega) (by omega) (chkList2 ha hb) w (strAt2 h0 h1)
  have e : mulFrom (num ([enc a, enc b].headD ByteArray.empty).data.toList) [enc a, enc b].tail = a * b % p := by
    show num (enc a).data.toList * num (enc b).data.toList % p = _
    rw [num_enc_p ha, num_enc_p hb]
  rw [e] at this
  exact this
theorem Mul3_el (a b c B : Nat) (ha : a < p) (hb : b < p) (hc : c < p) (w : World) (h0 : w.cell? ⟨B, 0, none⟩ = some (.string (enc a))) (h1 : w.cell? ⟨B, 1, none⟩ = some (.string (enc b))) (h2 : w.cell? ⟨B, 2, none⟩ = some (.string (enc c))) :
    Calls Tryz.prog 138 #[.slice (some ⟨B, 0, none⟩) 3 3] w fun e w' => e = .returned (.tuple #[.string (enc (a * b % p * c % p)), .int .i64 0]) ∧ Below w.heap.size w w' := by
  have := Mul_ok B 0 [enc a, enc b, enc c] 3 3 rfl (by omega) (by omega) (by omega) (by omega) (chkList3 ha hb hc) w (strAt3 h0 h1 h2)
  have e : mulFrom (num ([enc a, enc b, enc c].headD ByteArray.empty).data.toList) [enc a, enc b, enc c].tail = a * b % p * c % p := by
    show num (enc a).data.toList * num (enc b).data.toList % p * num (enc c).data.toList % p = _
    rw [num_enc_p ha, num_enc_p hb, num_enc_p hc]
  rw [e] at this
  exact this
end Go.Proofs.YtckfplpiakbbdaaGreatDoor.Crv
