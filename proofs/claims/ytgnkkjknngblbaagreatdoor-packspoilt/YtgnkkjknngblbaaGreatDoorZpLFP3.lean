/- Parts: PkS3, PkL3. -/
import Derived.Test.YtgnkkjknngblbaaGreatDoorZpG33
import Derived.Test.YtgnkkjknngblbaaGreatDoorZpG34
import Derived.Deep.RegionHeld3
namespace Go.Proofs.YtgnkkjknngblbaaGreatDoor
open Go.RowKit Go.Proofs.Fd Go.Proofs.Hs Go.Proofs.Cc Go.Proofs.Hd Go.Proofs.Rt Go.Proofs.Wd
set_option maxRecDepth 20000
def way3 : List Hp := [⟨1, 1, 0, 0, ⟨#[]⟩⟩, ⟨1, 2, 0, 0, ⟨#[]⟩⟩, ⟨4, 0, 0, 0, ⟨#[]⟩⟩]
theorem way3_ok : pth way3 = 0 := by decide
theorem way3_id : ∀ h ∈ way3, h.id.size ≤ 140737488355328 := fun x hx => by
  simp [way3] at hx
  rcases hx with rfl | rfl | rfl
  · show (0 : Nat) ≤ _; decide
  · show (0 : Nat) ≤ _; decide
  · show (0 : Nat) ≤ _; decide
theorem hops_way3 (w : World) (t : TypeId) (g : Nat) (hg : g = w.heap.size) : HopsAt (w.alloc (.cells #[.int .i64 1, .int .i64 1, .int .i64 0, .int .i64 0, .string ⟨#[]⟩, .int .i64 1, .int .i64 2, .int .i64 0, .int .i64 0, .string ⟨#[]⟩, .int .i64 4, .int .i64 0, .int .i64 0, .int .i64 0, .string ⟨#[]⟩] t)) (some ⟨g, 0, none⟩) way3 := fun i hi => by
  subst hg
  rcases (by simp [way3] at hi; omega : i = 0 ∨ i = 1 ∨ i = 2) with rfl | rfl | rfl
  · exact ⟨w.heap.size, 0, rfl, by simp [go_sem, way3], by simp [go_sem, way3], by simp [go_sem, way3], by simp [go_sem, way3], by simp [go_sem, way3]⟩
  · exact ⟨w.heap.size, 0, rfl, by simp [go_sem, way3], by simp [go_sem, way3], by simp [go_sem, way3], by simp [go_sem, way3], by simp [go_sem, way3]⟩
  · exact ⟨w.heap.size, 0, rfl, by simp [go_sem, way3], by simp [go_sem, way3], by simp [go_sem, way3], by simp [go_sem, way3], by simp [go_sem, way3]⟩
theorem spoilt_made (SD who t : ByteArray) (zS : SD.size = 32) (ht : t.size ≤ 222) : ∃ (Ok Bad : Nat → ByteArray → Prop) (X : ByteArray), pmE SD (pps who 3) t way3 = 0 ∧ pmB SD (pps who 3) t way3 = X ∧ Ok 0 X
    ∧ (∀ i P, Ok i P ∨ Bad i P → P.size = 504)
    ∧ (∀ i P (p : Nat) (h : 248 + p < P.data.toList.length), p < 256 → Ok i P → Bad i ⟨(P.data.toList.set (248 + p) (P.data.toList[248 + p] ^^^ 1)).toArray⟩)
    ∧ (∀ i P, i < 2 → Ok i P → ∃ h N T, ppV (pv who i) P = #[pdv h N T ⟨#[]⟩, .int .i64 0] ∧ Ok (i + 1) N)
    ∧ (∀ i P, i < 2 → Bad i P → ∃ h N T, ppV (pv who i) P = #[pdv h N T ⟨#[]⟩, .int .i64 0] ∧ Bad (i + 1) N)
    ∧ (∀ P, Bad 2 P → ppV (pv who 2) P = #[pdz, .int .i64 90] ∨ ∃ h T u, ppV (pv who 2) P = #[pdv h ⟨#[]⟩ T u, .int .i64 0] ∧ (u.toList == t.toList) = false) := by
  obtain ⟨ss, s1, s2, s3, s4, s5⟩ := pack_step SD (pvs who 3) way3 zS (fun k hk => by
    obtain ⟨i, -, rfl⟩ := List.mem_map.1 hk
    exact pv_size _ _) way3_ok rfl
  rw [← pps_pvs] at s2 s3 s4
  rw [pvs_len] at s1
  have l3 : (pvs who 3).length = 3 := pvs_len _ _
  have lt : t.data.toList.length ≤ 222 := by rw [list_sz]; exact ht
  have len : ∀ j, (pld (ss.drop j) t.data.toList).length = 256 := fun j => pld_len _ _ lt
  obtain ⟨q1, q2⟩ := pm_ok SD (pps who 3) t way3 s2 ht
  rw [s3, s4] at q2
  refine ⟨fun i P => i < 3 ∧ P = ⟨(hhead SD ss way3 i ++ pld (ss.drop i) t.data.toList).toArray⟩, fun i P => i < 3 ∧ ∃ B : List UInt8, B.length = 256 ∧ B ≠ pld (ss.drop i) t.data.toList ∧ P = ⟨(hhead SD ss way3 i ++ B).toArray⟩, _, q1, q2, ⟨by decide, rfl⟩, ?_, ?_, ?_, ?_, ?_⟩
  · rintro i P (⟨hi, rfl⟩ | ⟨hi, B, hB, -, rfl⟩)
    · rw [ba_sz, List.length_append, (s5 i (by rw [l3]; exact hi)).1, len]
    · rw [ba_sz, List.length_append, (s5 i (by rw [l3]; exact hi)).1, hB]
  · rintro i P p h hp ⟨hi, rfl⟩
    have lh := (s5 i (by rw [l3]; exact hi)).1
    refine ⟨hi, (pld (ss.drop i) t.data.toList).set p ((pld (ss.drop i) t.data.toList)[p]'(by rw [len]; exact hp) ^^^ 1), by rw [List.length_set, len], fun e => ?_, ?_⟩
    · have e1 := congrArg (fun l : List UInt8 => l[p]?) e
      simp only [List.getElem?_set_self (show p < (pld (ss.drop i) t.data.toList).length by rw [len]; exact hp), List.getElem?_eq_getElem (show p < (pld (ss.drop i) t.data.toList).length by rw [len]; exact hp), Option.some.injEq] at e1
      have e2 := congrArg (fun x : UInt8 => x ^^^ (pld (ss.drop i) t.data.toList)[p]'(by rw [len]; exact hp)) e1
      simp only [UInt8.xor_self] at e2
      rw [UInt8.xor_comm, ← UInt8.xor_assoc, UInt8.xor_self, UInt8.zero_xor] at e2
      exact absurd e2 (by decide)
    · congr 1
      congr 1
      show (hhead SD ss way3 i ++ pld (ss.drop i) t.data.toList).set (248 + p) ((hhead SD ss way3 i ++ pld (ss.drop i) t.data.toList)[248 + p] ^^^ 1) = _
      rw [List.set_append_right _ _ (by omega), List.getElem_append_right (by omega)]
      simp only [lh, Nat.add_sub_cancel_left]
  · rintro i P hi ⟨hi3, rfl⟩
    have := (s5 i (by rw [l3]; exact hi3)).2 _ (len i)
    rw [pvs_at, l3, if_pos (by omega)] at this
    refine ⟨_, _, _, this, by omega, ?_⟩
    rw [drop_nth ss i (by omega), pld_open _ _ _ lt]
  · rintro i P hi ⟨hi3, B, hB, hne, rfl⟩
    have := (s5 i (by rw [l3]; exact hi3)).2 _ hB
    rw [pvs_at, l3, if_pos (by omega)] at this
    refine ⟨_, _, _, this, by omega, _, by rw [openl_len _ _ (by omega)]; exact hB, fun e => hne ?_, rfl⟩
    apply openl_inj (bdy (nth ss i)).data.toList _ _ (by omega) (by rw [len]; decide)
    rw [e, drop_nth ss i (by omega), pld_open _ _ _ lt]
  · rintro P ⟨hi3, B, hB, hne, rfl⟩
    have := (s5 2 (by rw [l3]; exact hi3)).2 _ hB
    rw [pvs_at, l3, if_neg (by omega)] at this
    have key : textl (openl (bdy (nth ss 2)).data.toList B) ≠ some t.data.toList := spoilt_end _ B _ hB (fun e => hne (by
      rw [e, drop_nth ss 2 (by omega), pld_cons, List.drop_of_length_le (by omega), pld_nil]))
    cases hT : textl (openl (bdy (nth ss 2)).data.toList B) with
    | none => left; rw [this, hT]
    | some u =>
      right
      refine ⟨_, _, ⟨u.toArray⟩, by rw [this, hT], ?_⟩
      rw [Bool.eq_false_iff]
      intro q
      rw [beq_iff_eq, ByteArray.toList_eq, ByteArray.toList_eq] at q
      exact key (by rw [hT]; congr 1)
end Go.Proofs.YtgnkkjknngblbaaGreatDoor
namespace Go.Proofs.YtgnkkjknngblbaaGreatDoor
open Go.RowKit Go.Proofs.Fd Go.Proofs.Hs Go.Proofs.Cc Go.Proofs.Hd Go.Proofs.Rt Go.Proofs.Wd
set_option maxRecDepth 20000
theorem wr_small (p : Nat) (h : p < 512) : wrap64 (p : Int) = (p : Int) ∧ IntKind.i64.wrap (p : Int) = (p : Int) := ⟨by unfold wrap64; omega, by rw [IntKind.wrap_i64]; omega⟩
theorem wr_248 (p : Nat) (h : p < 256) : wrap64 (248 + (p : Int)) = ((248 + p : Nat) : Int) ∧ IntKind.i64.wrap (248 + (p : Int)) = ((248 + p : Nat) : Int) := ⟨by unfold wrap64; omega, by rw [IntKind.wrap_i64]; omega⟩
set_option maxHeartbeats 2000000 in
theorem PackSpoilt_walk (CM : Hid PMakeC) (CL : Hid PPeelC) (t : ByteArray) (at_ hop : Int) (zt : Hid (t.size ≤ 140737488355328)) (w : World) (hK : Hid (Kh w)) :
    Calls Tryz.prog 6 #[.string t, .int .i64 at_, .int .i64 hop] w fun e w' => e = .returned (.bool true) ∧ Below w.heap.size w w' := by
  have WK : Hid (∀ w, Kh w → Calls Tryz.prog 11 #[] w fun e w' => e = .returned (.bool true) ∧ Below w.heap.size w w') := fun w h => works9_any CM CL w h
  by_cases ht : 222 < t.size
  · have gi : (222 : Int) < (t.size : Int) := by omega
    clear CM CL
    go_enter Tryz.func6, Tryz.ntmps6
    go_wp2_with fail
    refine Calls.mono (WK.out _ hK.out) ?_
    rintro e w1 ⟨rfl, hb⟩
    have B1 : Hid (Below w.heap.size w w1) := hb
    clear hb
    go_wp2_with fail
    refine Calls.mono (WK.out _ (hK.out.later B1.out)) ?_
    rintro e w2 ⟨rfl, hb⟩
    have B2 : Hid (Below w.heap.size w w2) := chain B1.out hb
    clear hb B1 WK
    go_wp2
    go_ret
    exact ⟨rfl, B2.out⟩
  · have ht : t.size ≤ 222 := by omega
    have gi : ¬ (222 : Int) < (t.size : Int) := by omega
    obtain ⟨who, hwho⟩ : ∃ x : ByteArray, ⟨#[115]⟩ = x := ⟨_, rfl⟩
    have zw : Hid (who.size + 64 ≤ 140737488355328) := by rw [← hwho]; show (1 : Nat) + 64 ≤ _; decide
    obtain ⟨SD, hSD⟩ : ∃ S : ByteArray, pv ⟨#[115, 101, 101, 100]⟩ 1 = S := ⟨_, rfl⟩
    have zS : SD.size = 32 := by rw [← hSD]; exact pv_size _ _
    have V1 : Hid (∀ w, Kh w → Calls Tryz.prog 14 #[.string ⟨#[115, 101, 101, 100]⟩, .int .i64 1] w fun e w' => e = .returned (.string SD) ∧ Below w.heap.size w w') := fun w h => by
      rw [← hSD]; exact private9_any _ 1 (by decide) (by show (4 : Nat) + 64 ≤ _; decide) w h
    have V2 : Hid (∀ (k : Nat) w, k < 3 → Kh w → Calls Tryz.prog 14 #[.string ⟨#[115]⟩, .int .i64 (k : Int)] w fun e w' => e = .returned (.string (pv who k)) ∧ Below w.heap.size w w') := fun k w hk h => by
      rw [hwho]; exact private9_any _ k (by omega) zw w h
    have P0 : Hid (∀ w, Kh w → Calls Tryz.prog 15 #[.string ⟨#[115]⟩, .int .i64 0] w fun e w' => e = .returned (.string (pp who 0)) ∧ Below w.heap.size w w') := fun w h => by
      rw [hwho]; exact public9_any _ 0 (by omega) zw w h
    have P1 : Hid (∀ w, Kh w → Calls Tryz.prog 15 #[.string ⟨#[115]⟩, .int .i64 1] w fun e w' => e = .returned (.string (pp who 1)) ∧ Below w.heap.size w w') := fun w h => by
      rw [hwho]; exact public9_any _ 1 (by omega) zw w h
    have P2 : Hid (∀ w, Kh w → Calls Tryz.prog 15 #[.string ⟨#[115]⟩, .int .i64 2] w fun e w' => e = .returned (.string (pp who 2)) ∧ Below w.heap.size w w') := fun w h => by
      rw [hwho]; exact public9_any _ 2 (by omega) zw w h
    obtain ⟨Ok, Bad, X, m1, m2, f1, f2, f4, f5, f6, f7⟩ := spoilt_made SD who t zS ht
    have e3 : pps who 3 = [pp who 0, pp who 1, pp who 2] := rfl
    rw [e3] at m1 m2
    have MK : Hid (∀ (A B : Nat) (w : World), Kh w → w.cell? ⟨A, 0, none⟩ = some (.string (pp who 0)) → w.cell? ⟨A, 1, none⟩ = some (.string (pp who 1)) → w.cell? ⟨A, 2, none⟩ = some (.string (pp who 2)) → HopsAt w (some ⟨B, 0, none⟩) way3 → Calls Tryz.prog 8 #[.string SD, .slice (some ⟨A, 0, none⟩) 3 3, .string t, .slice (some ⟨B, 0, none⟩) 3 3] w fun e w' => e = .returned (.tuple #[.string X, .int .i64 0]) ∧ Below w.heap.size w w') := fun A B w h h0 h1 h2 h3 => by
      have := CM.out SD (some ⟨A, 0, none⟩) [pp who 0, pp who 1, pp who 2] 3 3 t (some ⟨B, 0, none⟩) way3 3 3 w ⟨rfl, rfl⟩ (by show (3 : Nat) * 16 ≤ _ ∧ (3 : Nat) * 48 ≤ _; decide) (by show SD.size + 64 ≤ _; omega) (fun p hp => by
        simp at hp
        rcases hp with rfl | rfl | rfl
        · rw [pp_size]; decide
        · rw [pp_size]; decide
        · rw [pp_size]; decide) way3_id zt h (strAt3 h0 h1 h2) h3
      rw [m1, m2] at this
      exact this
    have PP : Hid (∀ P : ByteArray, P.size = 504 → ∀ (i : Nat) (w : World), i < 3 → Kh w → Calls Tryz.prog 12 #[.string (pv who i), .string P] w fun e w' => e = .returned (.tuple (ppV (pv who i) P)) ∧ Below w.heap.size w w') := fun P hP i w hi h =>
      CL.out (pv who i) P w (by show (pv who i).size ≤ _; rw [pv_size]; decide) (by show P.size ≤ _; omega) h
    have F1 : Hid (Ok 0 X) := f1
    have SZ : Hid _ := f2
    have F4 : Hid _ := f4
    have F5 : Hid _ := f5
    have F6 : Hid _ := f6
    have F7 : Hid _ := f7
    clear f1 f2 f4 f5 f6 f7 m1 m2 CM CL hwho hSD zw e3 zS
    obtain ⟨r, HR, hr3⟩ : ∃ r : Nat, Hid ((IntKind.u64.wrap hop).tmod 3 = (r : Int)) ∧ r < 3 := by
      unfold Hid
      have h : IntKind.u64.wrap hop = hop % 18446744073709551616 := by rw [IntKind.wrap_u64]
      rw [h, Int.tmod_eq_emod_of_nonneg (Int.emod_nonneg _ (by decide))]
      refine ⟨(hop % 18446744073709551616 % 3).toNat, ?_, ?_⟩
      · have := Int.emod_nonneg (hop % 18446744073709551616) (b := 3) (by decide); omega
      · have := Int.emod_lt_of_pos (hop % 18446744073709551616) (b := 3) (by decide); have := Int.emod_nonneg (hop % 18446744073709551616) (b := 3) (by decide); omega
    obtain ⟨p, HP, hp2⟩ : ∃ p : Nat, Hid ((IntKind.u64.wrap at_).tmod 256 = (p : Int)) ∧ p < 256 := by
      unfold Hid
      have h : IntKind.u64.wrap at_ = at_ % 18446744073709551616 := by rw [IntKind.wrap_u64]
      rw [h, Int.tmod_eq_emod_of_nonneg (Int.emod_nonneg _ (by decide))]
      refine ⟨(at_ % 18446744073709551616 % 256).toNat, ?_, ?_⟩
      · have := Int.emod_nonneg (at_ % 18446744073709551616) (b := 256) (by decide); omega
      · have := Int.emod_lt_of_pos (at_ % 18446744073709551616) (b := 256) (by decide); have := Int.emod_nonneg (at_ % 18446744073709551616) (b := 256) (by decide); omega
    obtain ⟨t2, t2'⟩ := wr_small r (Nat.lt_of_lt_of_le hr3 (by decide))
    go_enter Tryz.func6, Tryz.ntmps6
    go_wp2_with fail
    refine Calls.mono (WK.out _ hK.out) ?_
    rintro e w1 ⟨rfl, hb⟩
    have B1 : Hid (Below w.heap.size w w1) := hb
    clear hb WK
    go_wp2_with fail
    refine Calls.mono (V1.out _ (hK.out.later B1.out)) ?_
    rintro e w2 ⟨rfl, hb⟩
    have B2 : Hid (Below w.heap.size w w2) := chain B1.out hb
    clear hb V1 B1
    go_wp2_with fail
    refine Calls.mono (P0.out _ (hK.out.later B2.out)) ?_
    rintro e w3 ⟨rfl, hb⟩
    have B3 : Hid (Below w.heap.size w w3) := chain B2.out hb
    clear hb P0 B2
    go_wp2_with fail
    refine Calls.mono (P1.out _ (hK.out.later B3.out)) ?_
    rintro e w4 ⟨rfl, hb⟩
    have B4 : Hid (Below w.heap.size w w4) := chain B3.out hb
    clear hb P1 B3
    go_wp2_with fail
    refine Calls.mono (P2.out _ (hK.out.later B4.out)) ?_
    rintro e w5 ⟨rfl, hb⟩
    have B5 : Hid (Below w.heap.size w w5) := chain B4.out hb
    clear hb P2 B4
    go_wp2_with fail
    have BA : Hid (Below w.heap.size w ((w5.alloc (.cells #[.string (pp who 0), .string (pp who 1), .string (pp who 2)] 9)).alloc (.cells #[.int .i64 1, .int .i64 1, .int .i64 0, .int .i64 0, .string ⟨#[]⟩, .int .i64 1, .int .i64 2, .int .i64 0, .int .i64 0, .string ⟨#[]⟩, .int .i64 4, .int .i64 0, .int .i64 0, .int .i64 0, .string ⟨#[]⟩] 34))) := (B5.out.alloc B5.out.size _).alloc (by have := B5.out.size; simp; omega) _
    refine Calls.mono (MK.out _ _ _ (hK.out.later BA.out) (by simp [go_sem]) (by simp [go_sem]) (by simp [go_sem]) (hops_way3 _ _ _ (by simp [go_sem]))) ?_
    rintro e w6 ⟨rfl, hb⟩
    have B6 : Hid (Below w.heap.size w w6) := chain BA.out hb
    clear hb MK BA B5
    have hr := HR.out
    go_wp2_with fail
    clear hr t2 t2'
    go_loopw [7, 42] (fun sv iv wr => ∃ (i : Nat) (P : ByteArray), i < 3 ∧ iv = .int .i64 (i : Int) ∧ sv = .string P ∧ Hid ((i ≤ r → Ok i P) ∧ (r < i → Bad i P) ∧ Below w.heap.size w wr)) (fun _ iv _ => 3 - (intOf iv).toNat)
    case atStart => exact ⟨0, X, by decide, rfl, rfl, fun _ => F1.out, fun h => by omega, B6.out⟩
    case round =>
      obtain ⟨i, P, hi3, rfl, rfl, I⟩ := hrel
      clear B6 F1
      have g1 : (i : Int) < 3 := by omega
      by_cases hir : i = r
      · subst hir
        have zP : P.size = 504 := SZ.out _ _ (.inl (I.out.1 (Nat.le_refl _)))
        have zPi : (P.size : Int) = 504 := by omega
        have okP : Hid (Ok i P) := I.out.1 (Nat.le_refl _)
        obtain ⟨cap, W6, CV, BY, bW, hcap, hcapm, hlt6⟩ := bytes_of2 P (by omega) wr
        have C6 : Hid (BytesAt W6 wr.heap.size P.data.toList ∧ Below w.heap.size w W6 ∧ w.heap.size ≤ wr.heap.size) := ⟨BY, chain I.out.2.2 bW, I.out.2.2.size⟩
        clear bW BY hlt6 I
        generalize wr.heap.size = gb at *
        obtain ⟨t5, t5'⟩ := wr_small p (Nat.lt_of_lt_of_le hp2 (by decide))
        obtain ⟨t3, t3'⟩ := wr_248 p hp2
        obtain ⟨q, hq⟩ : ∃ q : Nat, 248 + p = q := ⟨_, rfl⟩
        rw [hq] at t3 t3'
        have hq1 : (q : Int) < 504 := by omega
        have hq0 : (0 : Int) ≤ (q : Int) := by omega
        have hql : q < P.data.toList.length := by rw [list_sz]; omega
        obtain ⟨cx, fx⟩ := C6.out.1 q hql
        have bad := F4.out i P p (by rw [list_sz]; omega) hp2 okP.out
        simp only [hq] at bad
        obtain ⟨x, hx⟩ : ∃ x, P.data.toList[q] = x := ⟨_, rfl⟩
        rw [hx] at cx bad
        have XY : bits .xor .u8 (x.toNat : Int) 1 = ((x ^^^ 1).toNat : Int) := sxor8 x 1
        have lBL : (P.data.toList.set q (x ^^^ 1)).length = 504 := by rw [List.length_set, list_sz]; exact zP
        have C7 : Hid (BytesAt (W6.setCell ⟨gb, q, none⟩ (.int .u8 ((x ^^^ 1).toNat : Int))) gb (P.data.toList.set q (x ^^^ 1)) ∧ Below w.heap.size w (W6.setCell ⟨gb, q, none⟩ (.int .u8 ((x ^^^ 1).toNat : Int)))) :=
          ⟨C6.out.1.set q (x ^^^ 1) _ rfl, C6.out.2.1.setCell (p := ⟨gb, q, none⟩) C6.out.2.2 _⟩
        have CVT := C7.out.1.string (cap := cap) lBL
        obtain ⟨P', hP'⟩ : ∃ P' : ByteArray, ⟨(P.data.toList.set q (x ^^^ 1)).toArray⟩ = P' := ⟨_, rfl⟩
        rw [hP'] at bad CVT
        have BDp : Hid (Bad i P') := bad
        clear bad hP' lBL hx hq okP
        generalize x ^^^ 1 = z at *
        rw [zP] at CV
        have hp := HP.out
        go_wp2_with fail
        clear hp t5 t5' t3 t3'
        have BD : Hid ((i < i → Ok i P') ∧ (i ≤ i → Bad i P') ∧ Below w.heap.size w (W6.setCell ⟨gb, q, none⟩ (.int .u8 (z.toNat : Int)))) := ⟨fun h => by omega, fun _ => BDp.out, C7.out.2⟩
        generalize W6.setCell ⟨gb, q, none⟩ (.int .u8 (z.toNat : Int)) = W7 at *
        clear C6 C7 cx fx XY CVT CV BDp
        refine Calls.mono (V2.out i _ hi3 (hK.out.later BD.out.2.2)) ?_
        rintro e w5 ⟨rfl, hb5⟩
        have BE : Hid (Below w.heap.size w w5) := chain BD.out.2.2 hb5
        clear hb5
        go_wp2_with fail
        by_cases hi2 : i = 2
        · subst hi2
          have gI : ((2 : Nat) : Int) = 2 := rfl
          have bad := BD.out.2.1 (by omega)
          have PE := PP.out P' (SZ.out _ _ (.inr bad)) 2 _ (by omega) (hK.out.later BE.out)
          rcases F7.out P' bad with hpp | ⟨⟨hk, hn, hu, hd, hid⟩, T, u, hpp, hne⟩
          · rw [hpp] at PE
            unfold pdz pdv zh at PE
            refine Calls.mono PE ?_
            rintro e w6 ⟨rfl, hb6⟩
            have BF : Hid (Below w.heap.size w w6) := chain BE.out hb6
            clear hb6 PE hpp bad BE BD
            go_wp2
            go_ret
            exact ⟨rfl, BF.out.alloc BF.out.size _⟩
          · rw [hpp] at PE
            unfold pdv at PE
            refine Calls.mono PE ?_
            rintro e w6 ⟨rfl, hb6⟩
            have BF : Hid (Below w.heap.size w w6) := chain BE.out hb6
            clear hb6 PE hpp bad BE BD
            go_wp2
            go_ret
            exact ⟨rfl, BF.out.alloc BF.out.size _⟩
        · have gI : ¬ (i : Int) = 2 := by omega
          have gB : ((i : Int) == 2) = false := by simpa using gI
          have nxt : ∃ (h : Hp) (N T : ByteArray), ppV (pv who i) P' = #[pdv h N T ⟨#[]⟩, .int .i64 0] ∧ (i + 1 ≤ i → Ok (i + 1) N) ∧ (i < i + 1 → Bad (i + 1) N) := by
            by_cases hir : i < i
            · obtain ⟨h, N, T, h1, h2⟩ := F5.out i P' (by omega) (BD.out.1 hir)
              exact ⟨h, N, T, h1, fun _ => h2, fun q => by omega⟩
            · obtain ⟨h, N, T, h1, h2⟩ := F6.out i P' (by omega) (BD.out.2.1 (by omega))
              exact ⟨h, N, T, h1, fun q => by omega, fun _ => h2⟩
          obtain ⟨⟨hk, hn, hu, hd, hid⟩, N, T, hpp, nx1, nx2⟩ := nxt
          have PE := PP.out P' (by
            by_cases hir : i < i
            · exact SZ.out _ _ (.inl (BD.out.1 hir))
            · exact SZ.out _ _ (.inr (BD.out.2.1 (by omega)))) i _ hi3 (hK.out.later BE.out)
          rw [hpp] at PE
          unfold pdv at PE
          refine Calls.mono PE ?_
          rintro e w6 ⟨rfl, hb6⟩
          have BF : Hid ((i + 1 ≤ i → Ok (i + 1) N) ∧ (i < i + 1 → Bad (i + 1) N) ∧ Below w.heap.size w w6) := ⟨nx1, nx2, chain BE.out hb6⟩
          clear hb6 PE hpp BE BD nx1 nx2
          go_wp2
          exact ⟨⟨i + 1, N, by omega, by go_num, rfl, BF.out.1, BF.out.2.1, BF.out.2.2.alloc BF.out.2.2.size _⟩, by simp [intOf]; omega⟩
      · have gB0 : ((i : Int) == (r : Int)) = false := by rw [beq_eq_false_iff_ne]; omega
        have gN : ¬ (i : Int) = (r : Int) := by omega
        obtain ⟨P', hP'⟩ : ∃ P' : ByteArray, P = P' := ⟨_, rfl⟩
        subst hP'
        have BD : Hid ((i < r → Ok i P) ∧ (r ≤ i → Bad i P) ∧ Below w.heap.size w wr) := ⟨fun h => I.out.1 (by omega), fun h => I.out.2.1 (by omega), I.out.2.2⟩
        clear I
        go_wp2_with fail
        refine Calls.mono (V2.out i _ hi3 (hK.out.later BD.out.2.2)) ?_
        rintro e w5 ⟨rfl, hb5⟩
        have BE : Hid (Below w.heap.size w w5) := chain BD.out.2.2 hb5
        clear hb5
        go_wp2_with fail
        by_cases hi2 : i = 2
        · subst hi2
          have gI : ((2 : Nat) : Int) = 2 := rfl
          have bad := BD.out.2.1 (by omega)
          have PE := PP.out P (SZ.out _ _ (.inr bad)) 2 _ (by omega) (hK.out.later BE.out)
          rcases F7.out P bad with hpp | ⟨⟨hk, hn, hu, hd, hid⟩, T, u, hpp, hne⟩
          · rw [hpp] at PE
            unfold pdz pdv zh at PE
            refine Calls.mono PE ?_
            rintro e w6 ⟨rfl, hb6⟩
            have BF : Hid (Below w.heap.size w w6) := chain BE.out hb6
            clear hb6 PE hpp bad BE BD
            go_wp2
            go_ret
            exact ⟨rfl, BF.out.alloc BF.out.size _⟩
          · rw [hpp] at PE
            unfold pdv at PE
            refine Calls.mono PE ?_
            rintro e w6 ⟨rfl, hb6⟩
            have BF : Hid (Below w.heap.size w w6) := chain BE.out hb6
            clear hb6 PE hpp bad BE BD
            go_wp2
            go_ret
            exact ⟨rfl, BF.out.alloc BF.out.size _⟩
        · have gI : ¬ (i : Int) = 2 := by omega
          have gB : ((i : Int) == 2) = false := by simpa using gI
          have nxt : ∃ (h : Hp) (N T : ByteArray), ppV (pv who i) P = #[pdv h N T ⟨#[]⟩, .int .i64 0] ∧ (i + 1 ≤ r → Ok (i + 1) N) ∧ (r < i + 1 → Bad (i + 1) N) := by
            by_cases hir : i < r
            · obtain ⟨h, N, T, h1, h2⟩ := F5.out i P (by omega) (BD.out.1 hir)
              exact ⟨h, N, T, h1, fun _ => h2, fun q => by omega⟩
            · obtain ⟨h, N, T, h1, h2⟩ := F6.out i P (by omega) (BD.out.2.1 (by omega))
              exact ⟨h, N, T, h1, fun q => by omega, fun _ => h2⟩
          obtain ⟨⟨hk, hn, hu, hd, hid⟩, N, T, hpp, nx1, nx2⟩ := nxt
          have PE := PP.out P (by
            by_cases hir : i < r
            · exact SZ.out _ _ (.inl (BD.out.1 hir))
            · exact SZ.out _ _ (.inr (BD.out.2.1 (by omega)))) i _ hi3 (hK.out.later BE.out)
          rw [hpp] at PE
          unfold pdv at PE
          refine Calls.mono PE ?_
          rintro e w6 ⟨rfl, hb6⟩
          have BF : Hid ((i + 1 ≤ r → Ok (i + 1) N) ∧ (r < i + 1 → Bad (i + 1) N) ∧ Below w.heap.size w w6) := ⟨nx1, nx2, chain BE.out hb6⟩
          clear hb6 PE hpp BE BD nx1 nx2
          go_wp2
          exact ⟨⟨i + 1, N, by omega, by go_num, rfl, BF.out.1, BF.out.2.1, BF.out.2.2.alloc BF.out.2.2.size _⟩, by simp [intOf]; omega⟩
end Go.Proofs.YtgnkkjknngblbaaGreatDoor
