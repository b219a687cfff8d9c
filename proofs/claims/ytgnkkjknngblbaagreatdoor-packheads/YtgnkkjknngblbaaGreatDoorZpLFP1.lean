/- PackHeads answers true. -/
import Derived.Test.YtgnkkjknngblbaaGreatDoorZpG33
namespace Go.Proofs.YtgnkkjknngblbaaGreatDoor
open Go.RowKit Go.Proofs.Fd Go.Proofs.Hs Go.Proofs.Cc Go.Proofs.Hd Go.Proofs.Rt Go.Proofs.Wd
set_option maxRecDepth 20000
theorem cut_head (H : List UInt8) (B : List UInt8) (hH : H.length = 248) : (⟨(H ++ B).toArray⟩ : ByteArray).extract 0 248 = ⟨H.toArray⟩ := by
  refine ba_of ?_
  rw [ba_cut, List.drop_zero, List.take_append_of_le_length (by omega), List.take_of_length_le (by omega)]
theorem cut_body (H : List UInt8) (B : List UInt8) (hH : H.length = 248) (hB : B.length = 256) : (⟨(H ++ B).toArray⟩ : ByteArray).extract 248 504 = ⟨B.toArray⟩ := by
  refine ba_of ?_
  rw [ba_cut, List.drop_append_of_le_length (by omega), List.drop_of_length_le (by omega), List.nil_append, List.take_of_length_le (by omega)]
theorem heads_made (SD who : ByteArray) (zS : SD.size = 32) : ∃ (H : ByteArray) (P : ByteArray → ByteArray), (∀ t : ByteArray, 222 < t.size → pmE SD [pp who 0, pp who 1] t way2 = 2 ∧ pmB SD [pp who 0, pp who 1] t way2 = ⟨#[]⟩)
    ∧ ∀ t : ByteArray, t.size ≤ 222 → pmE SD [pp who 0, pp who 1] t way2 = 0 ∧ (pmB SD [pp who 0, pp who 1] t way2).size = 504 ∧ (pmB SD [pp who 0, pp who 1] t way2).extract 0 248 = H ∧ (pmB SD [pp who 0, pp who 1] t way2).extract 248 504 = P t
      ∧ ∀ u : ByteArray, u.size ≤ 222 → ((P t).toList == (P u).toList) = (t.toList == u.toList) := by
  obtain ⟨ss, s1, s2, s3, s4, s5⟩ := pack_step SD [pv who 0, pv who 1] way2 zS (fun k hk => by
    simp at hk
    rcases hk with rfl | rfl <;> exact pv_size _ _) way2_ok rfl
  have e2 : ([pv who 0, pv who 1].map fun k => Crv.ek (Crv.pub k)) = [pp who 0, pp who 1] := rfl
  rw [e2] at s2 s3 s4
  obtain ⟨p1, -⟩ := s5 0 (by simp)
  refine ⟨⟨(hhead SD ss way2 0).toArray⟩, fun t => ⟨(pld ss t.data.toList).toArray⟩, fun t ht => pm_long _ _ _ _ s2 ht, fun t ht => ?_⟩
  obtain ⟨q1, q2⟩ := pm_ok SD [pp who 0, pp who 1] t way2 s2 ht
  rw [s3, s4] at q2
  have lt : (pld ss t.data.toList).length = 256 := pld_len _ _ (by rw [list_sz]; exact ht)
  refine ⟨q1, ?_, ?_, ?_, fun u hu => ?_⟩
  · rw [q2, ba_sz, List.length_append, lt, p1]
  · rw [q2]; exact cut_head _ _ p1
  · rw [q2]; exact cut_body _ _ p1 lt
  · rw [Bool.eq_iff_iff, beq_iff_eq, beq_iff_eq, ByteArray.toList_eq, ByteArray.toList_eq, ByteArray.toList_eq, ByteArray.toList_eq]
    exact ⟨fun h => pld_inj ss _ _ (by rw [list_sz]; exact ht) (by rw [list_sz]; exact hu) h, fun h => by simp only; rw [h]⟩
set_option maxHeartbeats 1000000 in
theorem PackHeads_walk (CM : Hid PMakeC) (CL : Hid PPeelC) (seed a b : ByteArray) (zs : Hid (seed.size + 64 ≤ 140737488355328)) (za : Hid (a.size ≤ 140737488355328)) (zb : Hid (b.size ≤ 140737488355328)) (w : World) (hK : Hid (Kh w)) :
    Calls Tryz.prog 7 #[.string seed, .string a, .string b] w fun e w' => e = .returned (.bool true) ∧ Below w.heap.size w w' := by
  have WK : Hid (∀ w, Kh w → Calls Tryz.prog 11 #[] w fun e w' => e = .returned (.bool true) ∧ Below w.heap.size w w') := fun w h => works9_any CM CL w h
  have RO : Hid (∀ w, Calls Tryz.prog 10 #[] w fun e w' => e = .returned (.int .i64 222) ∧ w' = w) := room_any
  obtain ⟨SD, hSD⟩ : ∃ S : ByteArray, pv seed 0 = S := ⟨_, rfl⟩
  have zS : SD.size = 32 := by rw [← hSD]; exact pv_size _ _
  obtain ⟨Q0, hQ0⟩ : ∃ S : ByteArray, pp ⟨#[104, 101, 97, 100, 115]⟩ 0 = S := ⟨_, rfl⟩
  obtain ⟨Q1, hQ1⟩ : ∃ S : ByteArray, pp ⟨#[104, 101, 97, 100, 115]⟩ 1 = S := ⟨_, rfl⟩
  have zQ0 : Q0.size = 32 := by rw [← hQ0]; exact pp_size _ _
  have zQ1 : Q1.size = 32 := by rw [← hQ1]; exact pp_size _ _
  have V0 : Hid (∀ w, Kh w → Calls Tryz.prog 14 #[.string seed, .int .i64 0] w fun e w' => e = .returned (.string SD) ∧ Below w.heap.size w w') := fun w h => by
    rw [← hSD]; exact private9_any _ 0 (by decide) zs w h
  have P0 : Hid (∀ w, Kh w → Calls Tryz.prog 15 #[.string ⟨#[104, 101, 97, 100, 115]⟩, .int .i64 0] w fun e w' => e = .returned (.string Q0) ∧ Below w.heap.size w w') := fun w h => by
    rw [← hQ0]; exact public9_any _ 0 (by decide) (by show (5 : Nat) + 64 ≤ _; decide) w h
  have P1 : Hid (∀ w, Kh w → Calls Tryz.prog 15 #[.string ⟨#[104, 101, 97, 100, 115]⟩, .int .i64 1] w fun e w' => e = .returned (.string Q1) ∧ Below w.heap.size w w') := fun w h => by
    rw [← hQ1]; exact public9_any _ 1 (by decide) (by show (5 : Nat) + 64 ≤ _; decide) w h
  obtain ⟨H, P, hN, hY⟩ := heads_made SD ⟨#[104, 101, 97, 100, 115]⟩ zS
  rw [hQ0, hQ1] at hN hY
  have MK : Hid (∀ (t : ByteArray), t.size ≤ 140737488355328 → ∀ (A B : Nat) (w : World), Kh w → StrAt w (some ⟨A, 0, none⟩) [Q0, Q1] → HopsAt w (some ⟨B, 0, none⟩) way2 → Calls Tryz.prog 8 #[.string SD, .slice (some ⟨A, 0, none⟩) 2 2, .string t, .slice (some ⟨B, 0, none⟩) 2 2] w fun e w' => e = .returned (.tuple #[.string (pmB SD [Q0, Q1] t way2), .int .i64 (pmE SD [Q0, Q1] t way2)]) ∧ Below w.heap.size w w') := fun t ht A B w h h0 h2 => 
    CM.out SD (some ⟨A, 0, none⟩) [Q0, Q1] 2 2 t (some ⟨B, 0, none⟩) way2 2 2 w ⟨rfl, rfl⟩ (by show (2 : Nat) * 16 ≤ _ ∧ (2 : Nat) * 48 ≤ _; decide) (by show SD.size + 64 ≤ _; omega) (fun p hp => by
      simp at hp
      rcases hp with rfl | rfl
      · omega
      · omega) way2_id ht h h0 h2
  have MA := MK.out a za.out
  have MB := MK.out b zb.out
  have hNa := hN a
  have hNb := hN b
  have hYa := hY a
  have hYb := hY b
  generalize pmB SD [Q0, Q1] a way2 = XA at *
  generalize pmE SD [Q0, Q1] a way2 = EA at *
  generalize pmB SD [Q0, Q1] b way2 = XB at *
  generalize pmE SD [Q0, Q1] b way2 = EB at *
  have MA' : Hid _ := MA
  have MB' : Hid _ := MB
  have FA : Hid _ := hNa
  have FB : Hid _ := hNb
  have GA : Hid _ := hYa
  have GB : Hid _ := hYb
  clear MA MB hNa hNb hYa hYb MK hN hY CM CL hSD hQ0 hQ1 zS zQ0 zQ1
  go_enter Tryz.func7, Tryz.ntmps7
  go_wp2_with fail
  refine Calls.mono (WK.out _ hK.out) ?_
  rintro e w1 ⟨rfl, hb⟩
  have B1 : Hid (Below w.heap.size w w1) := hb
  clear hb WK
  go_wp2_with fail
  have BA : Hid (Below w.heap.size w (w1.alloc (.cells #[.int .i64 1, .int .i64 1, .int .i64 0, .int .i64 0, .string ⟨#[]⟩, .int .i64 4, .int .i64 0, .int .i64 0, .int .i64 0, .string ⟨#[]⟩] 34))) := B1.out.alloc B1.out.size _
  have HW : Hid (HopsAt (w1.alloc (.cells #[.int .i64 1, .int .i64 1, .int .i64 0, .int .i64 0, .string ⟨#[]⟩, .int .i64 4, .int .i64 0, .int .i64 0, .int .i64 0, .string ⟨#[]⟩] 34)) (some ⟨w1.heap.size, 0, none⟩) way2) := hops_way2 _ _ _ rfl
  generalize w1.alloc (.cells #[.int .i64 1, .int .i64 1, .int .i64 0, .int .i64 0, .string ⟨#[]⟩, .int .i64 4, .int .i64 0, .int .i64 0, .int .i64 0, .string ⟨#[]⟩] 34) = w2 at *
  generalize w1.heap.size = g1 at *
  refine Calls.mono (P0.out _ (hK.out.later BA.out)) ?_
  rintro e w3 ⟨rfl, hb⟩
  have B3 : Hid (Below w.heap.size w w3 ∧ HopsAt w3 (some ⟨g1, 0, none⟩) way2) := ⟨chain BA.out hb, HW.out.later hb rfl⟩
  clear hb P0 BA HW B1
  go_wp2_with fail
  refine Calls.mono (P1.out _ (hK.out.later B3.out.1)) ?_
  rintro e w4 ⟨rfl, hb⟩
  have B4 : Hid (Below w.heap.size w w4 ∧ HopsAt w4 (some ⟨g1, 0, none⟩) way2) := ⟨chain B3.out.1 hb, B3.out.2.later hb rfl⟩
  clear hb P1 B3
  go_wp2_with fail
  have B5 : Hid (Below w.heap.size w (w4.alloc (.cells #[.string Q0, .string Q1] 9)) ∧ HopsAt (w4.alloc (.cells #[.string Q0, .string Q1] 9)) (some ⟨g1, 0, none⟩) way2 ∧ StrAt (w4.alloc (.cells #[.string Q0, .string Q1] 9)) (some ⟨w4.heap.size, 0, none⟩) [Q0, Q1]) :=
    ⟨B4.out.1.alloc B4.out.1.size _, B4.out.2.later ((Below.refl _ _).alloc (Nat.le_refl _) _) rfl, strAt2 (by simp [go_sem]) (by simp [go_sem])⟩
  generalize w4.alloc (.cells #[.string Q0, .string Q1] 9) = w5 at *
  generalize w4.heap.size = g2 at *
  clear B4
  refine Calls.mono (V0.out _ (hK.out.later B5.out.1)) ?_
  rintro e w6 ⟨rfl, hb⟩
  have B6 : Hid (Below w.heap.size w w6 ∧ HopsAt w6 (some ⟨g1, 0, none⟩) way2 ∧ StrAt w6 (some ⟨g2, 0, none⟩) [Q0, Q1]) := ⟨chain B5.out.1 hb, B5.out.2.1.later hb rfl, B5.out.2.2.later hb rfl⟩
  clear hb B5
  go_wp2_with fail
  refine Calls.mono (MA'.out _ _ _ (hK.out.later B6.out.1) B6.out.2.2 B6.out.2.1) ?_
  rintro e w7 ⟨rfl, hb⟩
  have B7 : Hid (Below w.heap.size w w7 ∧ HopsAt w7 (some ⟨g1, 0, none⟩) way2 ∧ StrAt w7 (some ⟨g2, 0, none⟩) [Q0, Q1]) := ⟨chain B6.out.1 hb, B6.out.2.1.later hb rfl, B6.out.2.2.later hb rfl⟩
  clear hb B6 MA'
  go_wp2_with fail
  refine Calls.mono (V0.out _ (hK.out.later B7.out.1)) ?_
  rintro e w8 ⟨rfl, hb⟩
  have B8 : Hid (Below w.heap.size w w8 ∧ HopsAt w8 (some ⟨g1, 0, none⟩) way2 ∧ StrAt w8 (some ⟨g2, 0, none⟩) [Q0, Q1]) := ⟨chain B7.out.1 hb, B7.out.2.1.later hb rfl, B7.out.2.2.later hb rfl⟩
  clear hb B7 V0
  go_wp2_with fail
  refine Calls.mono (MB'.out _ _ _ (hK.out.later B8.out.1) B8.out.2.2 B8.out.2.1) ?_
  rintro e w9 ⟨rfl, hb⟩
  have B9 : Hid (Below w.heap.size w w9) := chain B8.out.1 hb
  clear hb B8 MB'
  by_cases ha : 222 < a.size
  · obtain ⟨rfl, rfl⟩ := FA.out ha
    have gi : (222 : Int) < (a.size : Int) := by omega
    clear FA GA FB GB
    go_wp2_with fail
    refine Calls.mono (RO.out _) ?_
    rintro e w10 ⟨rfl, hw⟩
    have hw2 := hw.symm
    subst hw2
    go_wp2
    go_ret
    exact ⟨rfl, B9.out⟩
  · obtain ⟨rfl, za1, za2, za3, za4⟩ := GA.out (by omega)
    have gj : ¬ (222 : Int) < (a.size : Int) := by omega
    by_cases hb' : 222 < b.size
    · obtain ⟨rfl, rfl⟩ := FB.out hb'
      have gi : (222 : Int) < (b.size : Int) := by omega
      clear FA GA FB GB
      go_wp2_with fail
      refine Calls.mono (RO.out _) ?_
      rintro e w10 ⟨rfl, hw⟩
      have hw2 := hw.symm
      subst hw2
      go_wp2_with fail
      refine Calls.mono (RO.out _) ?_
      rintro e w11 ⟨rfl, hw⟩
      have hw2 := hw.symm
      subst hw2
      go_wp2
      go_ret
      exact ⟨rfl, B9.out⟩
    · obtain ⟨rfl, zb1, zb2, zb3, zb4⟩ := GB.out (by omega)
      have hPP := za4 b (by omega)
      have ia : (XA.size : Int) = 504 := by omega
      have ib : (XB.size : Int) = 504 := by omega
      obtain ⟨d, hd⟩ : ∃ d : Bool, (a.toList == b.toList) = d := ⟨_, rfl⟩
      rw [hd] at hPP
      have hdd : (d == d) = true := by simp
      have hHH : (H.toList == H.toList) = true := by simp
      have za5 : XA.extract 248 XA.size = P a := by rw [za1]; exact za3
      have zb5 : XB.extract 248 XB.size = P b := by rw [zb1]; exact zb3
      generalize P a = PA at *
      generalize P b = PB at *
      clear FA GA FB GB za4 zb4
      go_wp2_with fail
      go_quiet (fail)
      have BN : Hid (Below w.heap.size w (w9.drewN nq)) := below_drewN B9.out nq
      clear B9
      go_wp2
      go_ret
      exact ⟨rfl, BN.out⟩
end Go.Proofs.YtgnkkjknngblbaaGreatDoor
