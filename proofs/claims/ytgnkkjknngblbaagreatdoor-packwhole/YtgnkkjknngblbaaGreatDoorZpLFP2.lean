/- PackWhole answers true. -/
import Derived.Test.YtgnkkjknngblbaaGreatDoorZpG33
import Derived.Test.YtgnkkjknngblbaaGreatDoorZpG32
import Derived.Deep.RegionHeld3
namespace Go.Proofs.YtgnkkjknngblbaaGreatDoor
open Go.RowKit Go.Proofs.Fd Go.Proofs.Hs Go.Proofs.Cc Go.Proofs.Hd Go.Proofs.Rt Go.Proofs.Wd
set_option maxRecDepth 20000
theorem pack_steps (SD who : ByteArray) (hs : List Hp) (t : ByteArray) (n : Nat) (zS : SD.size = 32) (hn : hs.length = n) (hp : pth hs = 0) (ht : t.size ≤ 222) :
    ∃ (T N X : Nat → ByteArray), pmE SD (pps who n) t hs = 0 ∧ pmB SD (pps who n) t hs = N 0 ∧ N n = ⟨#[]⟩ ∧ (∀ i, i + 1 < n → X i = ⟨#[]⟩) ∧ (∀ i, i + 1 = n → X i = t)
      ∧ ∀ i, i < n → ppV (pv who i) (N i) = #[pdv (hs.getD i zh) (N (i + 1)) (T i) (X i), .int .i64 0] ∧ (N i).size = 504 := by
  obtain ⟨ss, s1, s2, s3, s4⟩ := pack_made SD (pvs who n) hs t zS (fun k hk => by
    obtain ⟨i, -, rfl⟩ := List.mem_map.1 hk
    exact pv_size _ _) hp (by rw [pvs_len]; exact hn) ht
  rw [← pps_pvs] at s2 s3
  have n1 : 0 < n := by have := pth_zero hs hp; omega
  refine ⟨fun i => rtg (nth ss i), fun i => if i < n then pkt SD ss hs t.data.toList i else ⟨#[]⟩, fun i => if i + 1 < n then ⟨#[]⟩ else t, s2, ?_, if_neg (Nat.lt_irrefl n), fun i hi => if_pos hi, fun i hi => if_neg (by omega), fun i hi => ?_⟩
  · show _ = if 0 < n then _ else _
    rw [if_pos n1, s3]
  · obtain ⟨h1, h2⟩ := s4 i (by rw [pvs_len]; exact hi)
    rw [pvs_at, pvs_len] at h2
    show ppV (pv who i) (if i < n then pkt SD ss hs t.data.toList i else ⟨#[]⟩) = #[pdv _ (if i + 1 < n then pkt SD ss hs t.data.toList (i + 1) else ⟨#[]⟩) _ (if i + 1 < n then ⟨#[]⟩ else t), _] ∧ (if i < n then pkt SD ss hs t.data.toList i else (⟨#[]⟩ : ByteArray)).size = 504
    rw [if_pos hi]
    refine ⟨?_, h1⟩
    rw [h2]
    by_cases q : i + 1 < n
    · rw [if_pos q, if_pos q, if_pos q]
    · rw [if_neg q, if_neg q, if_neg q]
set_option maxHeartbeats 2000000 in
theorem PackWhole_walk (CM : Hid PMakeC) (CL : Hid PPeelC) (seed t : ByteArray) (a : Option Addr) (hs : List Hp) (n cap : Nat) (hn : Hid (hs.length = n)) (hb : n * 48 ≤ 140737488351232) (hncap : n ≤ cap) (zs : Hid (seed.size + 64 ≤ 140737488355328)) (zt : Hid (t.size ≤ 140737488355328))
    (hi : Hid (∀ h ∈ hs, h.id.size ≤ 140737488355328)) (w : World) (hK : Hid (Kh w)) (hc : Hid (HopsAt w a hs)) :
    Calls Tryz.prog 5 #[.string seed, .slice a n cap, .string t] w fun e w' => e = .returned (.bool true) ∧ Below w.heap.size w w' := by
  obtain ⟨i0, hii, hz0, hz1, hz2⟩ := info_parts infoStr
  have WK : Hid (∀ w, Kh w → Calls Tryz.prog 11 #[] w fun e w' => e = .returned (.bool true) ∧ Below w.heap.size w w') := fun w h => works9_any CM CL w h
  obtain ⟨who, hwho⟩ : ∃ x : ByteArray, ⟨#[119, 104, 111, 108, 101]⟩ = x := ⟨_, rfl⟩
  have zw : Hid (who.size + 64 ≤ 140737488355328) := by rw [← hwho]; show (5 : Nat) + 64 ≤ _; decide
  obtain ⟨SD, hSD⟩ : ∃ S : ByteArray, pv seed 0 = S := ⟨_, rfl⟩
  have zS : SD.size = 32 := by rw [← hSD]; exact pv_size _ _
  have V1 : Hid (∀ w, Kh w → Calls Tryz.prog 14 #[.string seed, .int .i64 0] w fun e w' => e = .returned (.string SD) ∧ Below w.heap.size w w') := fun w h => by
    rw [← hSD]; exact private9_any _ 0 (by decide) zs w h
  have V2 : Hid (∀ (k : Nat) w, k < 6 → Kh w → Calls Tryz.prog 14 #[.string ⟨#[119, 104, 111, 108, 101]⟩, .int .i64 (k : Int)] w fun e w' => e = .returned (.string (pv who k)) ∧ Below w.heap.size w w') := fun k w hk h => by
    rw [hwho]; exact private9_any _ k (by omega) zw w h
  have V3 : Hid (∀ (k : Nat) w, k < 6 → Kh w → Calls Tryz.prog 15 #[.string ⟨#[119, 104, 111, 108, 101]⟩, .int .i64 (k : Int)] w fun e w' => e = .returned (.string (pp who k)) ∧ Below w.heap.size w w') := fun k w hk h => by
    rw [hwho]; exact public9_any _ k (by omega) zw w h
  have zpp : ∀ k, ∀ p ∈ pps who k, p.size ≤ 140737488355328 := fun k p hp => by
    rw [pps_pvs] at hp
    obtain ⟨x, -, rfl⟩ := List.mem_map.1 hp
    rw [Crv.ek_size]; decide
  have MA : Hid (∀ (k : Nat) (pa : Option Addr) (pc : Nat) (w' : World), k ≤ 6 → Kh w' → StrAt w' pa (pps who k) → HopsAt w' a hs → Calls Tryz.prog 8 #[.string SD, .slice pa k pc, .string t, .slice a n cap] w' fun e w'' => e = .returned (.tuple #[.string (pmB SD (pps who k) t hs), .int .i64 (pmE SD (pps who k) t hs)]) ∧ Below w'.heap.size w' w'') := fun k pa pc w' hk h h0 h1 =>
    CM.out SD pa (pps who k) k pc t a hs n cap w' ⟨pps_len _ _, hn.out⟩ ⟨by omega, hb⟩ (by show SD.size + 64 ≤ _; omega) (zpp k) hi zt h h0 h1
  have MN : Hid (∀ (k : Nat) (pa : Option Addr) (pc : Nat) (w' : World), (pth hs ≠ 0 ∨ 222 < t.size ∧ k = n) → k ≤ 6 → Kh w' → StrAt w' pa (pps who k) → HopsAt w' a hs → ∃ E : Int, ¬ E = 0 ∧ Calls Tryz.prog 8 #[.string SD, .slice pa k pc, .string t, .slice a n cap] w' fun e w'' => e = .returned (.tuple #[.string ⟨#[]⟩, .int .i64 E]) ∧ Below w'.heap.size w' w'') := fun k pa pc w' hp hk h h0 h1 => by
    have M := MA.out k pa pc w' hk h h0 h1
    by_cases q : pth hs = 0
    · have ht : 222 < t.size ∧ k = n := hp.resolve_left (fun h => h q)
      obtain ⟨ss, s1, s2, -⟩ := made_pub SD (pvs who k) hs zS (fun k hk => by
        obtain ⟨i, -, rfl⟩ := List.mem_map.1 hk
        exact pv_size _ _) q (by rw [pvs_len, ht.2]; exact hn.out)
      rw [← pps_pvs] at s2
      obtain ⟨e1, e2⟩ := pm_long SD (pps who k) t hs s2 ht.1
      rw [e1, e2] at M
      exact ⟨2, by decide, M⟩
    · have e0 : mkE SD (pps who k) hs = pth hs := by unfold mkE; rw [if_neg q]
      obtain ⟨e1, e2⟩ := pm_no SD (pps who k) t hs (by rw [e0]; exact q)
      rw [e1, e2, e0] at M
      exact ⟨pth hs, q, M⟩
  clear hSD zpp hwho
  go_enter Tryz.func5, Tryz.ntmps5
  go_wp2_with fail
  refine Calls.mono (WK.out _ hK.out) ?_
  rintro e w1 ⟨rfl, hb1⟩
  have B1 : Hid (Below w.heap.size w w1) := hb1
  have K1 : Hid (Kh w1) := hK.out.later hb1
  clear hb1 WK
  go_wp2_with fail
  refine Calls.mono (V1.out _ K1.out) ?_
  rintro e w2 ⟨rfl, hb2⟩
  have B2 : Hid (Below w.heap.size w w2) := chain B1.out hb2
  clear hb2 V1 K1 B1
  go_wp2_with fail
  go_loopw [7, 8] (fun sl iv wr => ∃ k : Nat, k ≤ n ∧ k ≤ 6 ∧ iv = .int .i64 (k : Int) ∧ Hid (wr.ownsRow w.heap.size 9 1 sl k (scells (pps who k)) ∧ Below w.heap.size w wr)) (fun _ iv _ => n - (intOf iv).toNat)
  case atStart => exact ⟨0, Nat.zero_le _, Nat.zero_le _, rfl, ⟨rfl, .inl ⟨rfl, rfl⟩⟩, B2.out⟩
  case round =>
    obtain ⟨k, hk1, hk6, rfl, I⟩ := hrel
    clear B2
    by_cases hlt : k < n ∧ k < 6
    · obtain ⟨hlt, hlt6⟩ := hlt
      have g1 : (k : Int) < (n : Int) := by omega
      have g2 : (k : Int) < 6 := by omega
      go_wp2_with fail
      have KW : Hid (Kh wr) := hK.out.later I.out.2
      refine Calls.mono (V3.out k _ hlt6 KW.out) ?_
      rintro e w3 ⟨rfl, hb3⟩
      have I3 : Hid (w3.ownsRow w.heap.size 9 1 _ k (scells (pps who k)) ∧ Below w.heap.size w w3) := ⟨own8 I.out.1 hb3, chain I.out.2 hb3⟩
      have PC : Hid (scells (pps who (k + 1)) = scells (pps who k) ++ [.string (pp who k)]) := pps_cells who k
      clear hb3 I KW
      generalize pp who k = X at *
      go_wp2_with (first
        | (at_builtin; refine wpList_append_own _ rfl _ _ 22 rfl w.heap.size 9 i0 (.string ⟨#[]⟩) 1 16 Tryz.underlying22 hii hz0 hz1 hz2 rfl (by decide) _ _ _ rfl (I3.out.1.alloc _) ⟨w3.heap.size, 0, none⟩ 1 1 [.string X] rfl rfl (cells_new _ _ _) (by intro u hu; simp at hu; subst hu; rfl) (by unfold maxLen; omega) (by omega) (by have := I3.out.2.size; simp; omega) ?_; intro v1 w4 hown1 hgrow1 hnil1))
      have O4 : Hid (w4.ownsRow w.heap.size 9 1 v1 (k + 1) (scells (pps who (k + 1))) ∧ Below w.heap.size w w4) := by
        refine ⟨?_, (I3.out.2.alloc I3.out.2.size _).grown hgrow1 (by have := I3.out.2.size; simp; omega) (fun k hk => (I3.out.1.lt k hk).1)⟩
        rw [PC.out]; exact hown1
      clear hown1 hgrow1 hnil1 I3 PC
      go_wp2
      exact ⟨⟨k + 1, by omega, by omega, by go_num, O4.out⟩, by simp [intOf]; omega⟩
    · obtain ⟨-, hor⟩ := owns_strs I.out.1
      obtain ⟨pa, pc, hsl, hst⟩ : ∃ pa pc, _ = Value.slice pa k pc ∧ StrAt wr pa (pps who k) := by
        rcases hor with ⟨e1, e2⟩ | ⟨g, c, e1, e2⟩
        · subst e2; exact ⟨none, 0, e1, fun i hi => by simp [pps] at hi⟩
        · exact ⟨_, c, e1, e2⟩
      subst hsl
      have HW : Hid (Below w.heap.size w wr ∧ StrAt wr pa (pps who k)) := ⟨I.out.2, hst⟩
      clear I hor hst
      by_cases hbad : pth hs ≠ 0 ∨ 222 < t.size ∧ k = n
      · obtain ⟨E, hE, M1⟩ := MN.out k pa pc _ hbad (by omega) (hK.out.later HW.out.1) HW.out.2 (hc.out.later HW.out.1 rfl)
        clear hbad MN MA
        by_cases g1 : k < n
        · have g3 : (k : Int) < (n : Int) := by omega
          have g4 : ¬ (k : Int) < 6 := by omega
          go_wp2_with fail
          refine Calls.mono M1 ?_
          rintro e w3 ⟨rfl, hb3⟩
          have B3 : Hid (Below w.heap.size w w3) := chain HW.out.1 hb3
          clear hb3 M1
          go_wp2
          go_ret
          exact ⟨rfl, B3.out⟩
        · have g4 : ¬ (k : Int) < (n : Int) := by omega
          go_wp2_with fail
          refine Calls.mono M1 ?_
          rintro e w3 ⟨rfl, hb3⟩
          have B3 : Hid (Below w.heap.size w w3) := chain HW.out.1 hb3
          clear hb3 M1
          go_wp2
          go_ret
          exact ⟨rfl, B3.out⟩
      · have hp : pth hs = 0 := Classical.not_not.1 (fun h => hbad (.inl h))
        have hl5 := pth_zero hs hp
        obtain rfl : k = n := by have := hn.out; omega
        have ht : t.size ≤ 222 := by
          rcases Nat.lt_or_ge 222 t.size with q | q
          · exact absurd (.inr ⟨q, rfl⟩) hbad
          · exact q
        have g4 : ¬ (k : Int) < (k : Int) := by omega
        obtain ⟨T, N, X, f2, f3, f4, x1, x2, f6⟩ := pack_steps SD who hs t k zS hn.out hp ht
        have M1 := MA.out k pa pc _ hk6 (hK.out.later HW.out.1) HW.out.2 (hc.out.later HW.out.1 rfl)
        rw [f2, f3] at M1
        have FF : Hid (N k = ⟨#[]⟩ ∧ (∀ i, i < k → (N i).size = 504) ∧ (∀ i, i + 1 < k → X i = ⟨#[]⟩) ∧ (∀ i, i + 1 = k → X i = t)) := ⟨f4, fun i hi => (f6 i hi).2, x1, x2⟩
        have PL : Hid (∀ (i : Nat) (w' : World), i < k → Kh w' → Calls Tryz.prog 12 #[.string (pv who i), .string (N i)] w' fun e w'' => e = .returned (.tuple #[pdv (hs.getD i zh) (N (i + 1)) (T i) (X i), .int .i64 0]) ∧ Below w'.heap.size w' w'') := fun i w' hi h => by
          have := CL.out (pv who i) (N i) w' (by show (pv who i).size ≤ _; rw [pv_size]; decide) (by show (N i).size ≤ _; rw [(f6 i hi).2]; decide) h
          rw [(f6 i hi).1] at this
          exact this
        clear f2 f3 f4 f6 x1 x2 MN MA hbad V3
        go_wp2_with fail
        refine Calls.mono M1 ?_
        rintro e w3 ⟨rfl, hb3⟩
        have B3 : Hid (Below w.heap.size w w3) := chain HW.out.1 hb3
        clear hb3 M1 HW
        go_wp2_with fail
        go_loopw [9, 48] (fun sv iv wx => ∃ i : Nat, i ≤ k ∧ iv = .int .i64 (i : Int) ∧ sv = .string (N i) ∧ Hid (i < k ∧ Below w3.heap.size w3 wx)) (fun _ iv _ => k - (intOf iv).toNat)
        case atStart => exact ⟨0, Nat.zero_le _, rfl, rfl, by have := hn.out; omega, Below.refl _ _⟩
        case round =>
          obtain ⟨i, hik, rfl, rfl, I⟩ := hrel
          have hlt : i < k := I.out.1
          have g5 : (i : Int) < (k : Int) := by omega
          obtain ⟨b2, o2, he2, d0, d1, d2, d3, d4⟩ := (hc.out.later (chain B3.out I.out.2) rfl) i (by rw [hn.out]; exact hlt)
          subst he2
          have P1 := PL.out i
          have V := V2.out i
          have zN : (N i).size = 504 := FF.out.2.1 i hlt
          have zNi : ((N i).size : Int) = 504 := by omega
          obtain ⟨PV, hPV⟩ : ∃ P : ByteArray, pv who i = P := ⟨_, rfl⟩
          rw [hPV] at P1 V
          clear hPV
          generalize hs.getD i zh = h at *
          obtain ⟨hk, hn', hu, hd, hid⟩ := h
          simp only at d0 d1 d2 d3 d4
          have Ihid : (hid.toList == hid.toList) = true := by simp
          go_wp2_with fail
          have B4 : Hid (Below w3.heap.size w3 (wr.alloc (.cells #[.int .i64 hk, .int .i64 hn', .int .i64 hu, .int .i64 hd, .string hid] 34))) := I.out.2.alloc I.out.2.size _
          have H4 : Hid (HopAt (wr.alloc (.cells #[.int .i64 hk, .int .i64 hn', .int .i64 hu, .int .i64 hd, .string hid] 34)) wr.heap.size ⟨hk, hn', hu, hd, hid⟩) := HopAt.fresh _ _ _ _ _ _ _
          generalize wr.alloc (.cells #[.int .i64 hk, .int .i64 hn', .int .i64 hu, .int .i64 hd, .string hid] 34) = w4 at *
          generalize wr.heap.size = G0 at *
          clear d0 d1 d2 d3 d4 I
          refine Calls.mono (V _ (by omega) (hK.out.later (chain B3.out B4.out))) ?_
          rintro e w5 ⟨rfl, hb5⟩
          have B5 : Hid (Below w3.heap.size w3 w5 ∧ HopAt w5 G0 ⟨hk, hn', hu, hd, hid⟩) := ⟨chain B4.out hb5, H4.out.later hb5⟩
          clear hb5 B4 H4 V
          go_wp2_with fail
          refine Calls.mono (P1 _ hlt (hK.out.later (chain B3.out B5.out.1))) ?_
          rintro e w6 ⟨rfl, hb6⟩
          have B6 : Hid (Below w3.heap.size w3 w6 ∧ HopAt w6 G0 ⟨hk, hn', hu, hd, hid⟩) := ⟨chain B5.out.1 hb6, B5.out.2.later hb6⟩
          clear hb6 B5 P1
          unfold pdv
          simp only
          obtain ⟨h0, h1, h2, h3, h4⟩ := B6.out.2.cells
          have lG := B6.out.2.lt
          by_cases hlast : i + 1 = k
          · have e1 : N (i + 1) = ⟨#[]⟩ := by rw [hlast]; exact FF.out.1
            have e2 : X i = t := FF.out.2.2.2 i hlast
            rw [e1, e2]
            have Itt : (t.toList == t.toList) = true := by simp
            have g6 : IntKind.i64.wrap ((k : Int) - 1) = (i : Int) := by rw [IntKind.wrap_i64]; omega
            have g7 : wrap64 ((k : Int) - 1) = (i : Int) := by unfold wrap64; omega
            go_wp2
            go_ret
            exact ⟨rfl, (chain B3.out B6.out.1).alloc (chain B3.out B6.out.1).size _⟩
          · have e2 : X i = ⟨#[]⟩ := FF.out.2.2.1 i (by omega)
            rw [e2]
            obtain ⟨m, hm⟩ : ∃ m : Nat, k - 1 = m := ⟨_, rfl⟩
            have g6 : IntKind.i64.wrap ((k : Int) - 1) = (m : Int) := by rw [IntKind.wrap_i64]; omega
            have g7 : wrap64 ((k : Int) - 1) = (m : Int) := by unfold wrap64; omega
            have g8 : ((i : Int) == (m : Int)) = false := by rw [beq_eq_false_iff_ne]; omega
            obtain ⟨Y, hYY⟩ : ∃ Y : ByteArray, N (i + 1) = Y := ⟨_, rfl⟩
            have HY : Hid (Value.string Y = Value.string (N (i + 1)) ∧ i + 1 < k) := ⟨by rw [hYY], by omega⟩
            rw [hYY]
            clear hYY hm
            go_wp2
            exact ⟨⟨i + 1, by omega, by go_num, HY.out.1, HY.out.2, B6.out.1.alloc B6.out.1.size _⟩, by simp [intOf]; omega⟩
end Go.Proofs.YtgnkkjknngblbaaGreatDoor
