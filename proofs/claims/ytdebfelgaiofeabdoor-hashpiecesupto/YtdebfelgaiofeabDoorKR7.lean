/- Pieces as the document joins and binds them. -/
import Derived.Test.YtdebfelgaiofeabDoorKR6
import Derived.Test.YtdebfelgaiofeabDoorLK4
import Derived.Test.YtdebfelgaiofeabDoorK9
namespace Go.Proofs.YtdebfelgaiofeabDoor
open Go.RowKit Go.Proofs.Fd Go.Proofs.Hs

theorem own_later {w w' : World} {base : Nat} {e : TypeId} {size : Nat} {v : Value} {n : Nat} {xs : List Value} (h : w.ownsRow base e size v n xs) (hb : Below w.heap.size w w') : w'.ownsRow base e size v n xs := by
  refine ⟨h.1, ?_⟩
  rcases h.2 with hn | ⟨g, cap, cur, rfl, hbg, hgg, rest⟩
  · exact .inl hn
  · refine .inr ⟨g, cap, cur, rfl, hbg, ?_, rest⟩
    rw [hb.block g (Array.getElem?_eq_some_iff.1 hgg).1]
    exact hgg

/-- Pieces as one text. -/
def jnd (ks : List ByteArray) : List UInt8 := ks.flatMap fun s => s.data.toList
theorem jnd_step (ks : List ByteArray) (k : Nat) (hk : k < ks.length) : jnd (ks.take (k + 1)) = jnd (ks.take k) ++ ks[k].data.toList := flat_step _ ks k hk
theorem jnd_le (ks : List ByteArray) (k : Nat) : (jnd (ks.take k)).length ≤ (jnd ks).length := flat_le ks k

set_option maxHeartbeats 1000000 in
theorem rJoined_any (a : Option Addr) (ks : List ByteArray) (n cap : Nat) (hn : Hid (ks.length = n)) (hn63 : n < 9223372036854775807) (hz : Hid ((jnd ks).length ≤ 140737488355328)) (w : World) (hc : Hid (StrAt w a ks)) :
    Calls Tryd.prog 24 #[.slice a n cap] w fun e w' => e = .returned (.string ⟨(jnd ks).toArray⟩) ∧ Below w.heap.size w w' := by
  obtain ⟨i0, hi, hz0, hz1, hz2⟩ := info_parts infoByte
  go_enter Tryd.func24, Tryd.ntmps24
  go_wp2
  go_loopw [3, 4] (fun sl i wr => ∃ k : Nat, k ≤ n ∧ i = .int .i64 (k : Int) ∧ Hid (wr.ownsRow w.heap.size 5 1 sl (jnd (ks.take k)).length (bcells (jnd (ks.take k))) ∧ Below w.heap.size w wr)) (fun _ i _ => n - (intOf i).toNat)
  case atStart => exact ⟨0, Nat.zero_le _, rfl, ⟨rfl, .inl ⟨rfl, rfl⟩⟩, Below.refl _ _⟩
  case round =>
    obtain ⟨k, hk1, rfl, I⟩ := hrel
    by_cases hlt : k < n
    · have hk' : k < ks.length := by have := hn.out; omega
      obtain ⟨b, o, rfl, hcell⟩ := StrAt.later hc.out I.out.2 rfl k hk'
      have HF : Hid (jnd (ks.take (k + 1)) = jnd (ks.take k) ++ ks[k].data.toList) := jnd_step ks k hk'
      have HL : Hid ((jnd (ks.take k)).length + ks[k].size ≤ 140737488355328) := by
        have h1 := jnd_le ks (k + 1)
        have h2 := hz.out
        have h3 := HF.out
        have h4 := congrArg List.length h3
        rw [List.length_append] at h4
        have h5 : ks[k].data.toList.length = ks[k].size := by simp
        show _ ≤ _
        omega
      generalize ks[k] = s at *
      have g1 : (k : Int) < (n : Int) := by omega
      obtain ⟨P0, hP0⟩ : ∃ P, jnd (ks.take k) = P := ⟨_, rfl⟩
      rw [hP0] at I HF HL
      clear hP0
      go_wp2_with (first
        | (at_builtin; refine Go.Lib.wpList_append_own_string _ rfl _ _ 36 9 rfl w.heap.size 5 i0 Tryd.underlying36 Tryd.underlying9 hi hz0 hz1 hz2 _ _ _ rfl I.out.1 s rfl (by have := HL.out; unfold maxLen; omega) (by have := HL.out; omega) I.out.2.size ?_; intro v1 w2 hown1 hgrow1 hnil1))
      go_roundw
      case rel =>
        refine ⟨k + 1, by omega, by go_num, ?_, ?_⟩
        · rw [HF.out, List.length_append]
          rw [strCells_eq] at hown1
          unfold bcells at *
          rw [List.map_append, show (s.data.toList.length) = s.size by simp]
          exact hown1
        · exact I.out.2.grown hgrow1 I.out.2.size (fun q hq => (I.out.1.lt q hq).1)
      case measure => simp [intOf]; omega
    · have hkn : k = n := by omega
      subst hkn
      have I2 : Hid (wr.ownsRow w.heap.size 5 1 u3 (jnd ks).length (bcells (jnd ks)) ∧ Below w.heap.size w wr) := by
        have := I.out
        rw [List.take_of_length_le (by have := hn.out; omega)] at this
        exact this
      have CV := own_string I2.out.1 wr (Below.refl _ _)
      go_wp2
      go_ret
      exact ⟨rfl, I2.out.2⟩

set_option maxHeartbeats 1000000 in
theorem rSum_any (a : Option Addr) (ks : List ByteArray) (n cap : Nat) (hn : Hid (ks.length = n)) (hn63 : n < 9223372036854775807) (hz : Hid ((jnd ks).length ≤ 140737488355328)) (w : World) (hc : Hid (StrAt w a ks)) :
    Calls Tryd.prog 14 #[.slice a n cap] w fun e w' => e = .returned (.string (shs ks)) ∧ Below w.heap.size w w' := by
  have JN : Hid (Calls Tryd.prog 24 #[.slice a n cap] w fun e w' => e = .returned (.string ⟨(jnd ks).toArray⟩) ∧ Below w.heap.size w w') := rJoined_any a ks n cap hn hn63 hz w hc
  have DG : Hid (∀ w, Calls Tryd.prog 10 #[.string ⟨(jnd ks).toArray⟩] w fun e w' => e = .returned (.string (shs ks)) ∧ Below w.heap.size w w') := fun w => rDigest_any ⟨(jnd ks).toArray⟩ (by show (jnd ks).toArray.size ≤ _; rw [List.size_toArray]; exact hz.out) w
  generalize shs ks = S at *
  generalize (⟨(jnd ks).toArray⟩ : ByteArray) = X at *
  clear hz hc
  go_enter Tryd.func14, Tryd.ntmps14
  go_wp2_with fail
  refine Calls.mono JN.out ?_
  rintro e w1 ⟨rfl, hb1⟩
  have B1 : Hid (Below w.heap.size w w1) := hb1
  clear hb1
  go_wp2_with fail
  refine Calls.mono (DG.out _) ?_
  rintro e w2 ⟨rfl, hb2⟩
  have B2 : Hid (Below w.heap.size w w2) := chain B1.out hb2
  clear hb2
  go_wp2
  go_ret
  exact ⟨rfl, B2.out⟩

set_option maxHeartbeats 1000000 in
theorem rShort_ok (m : Nat) (h1 : 1 ≤ m) (h2 : m ≤ 32) (a : Option Addr) (ks : List ByteArray) (n cap : Nat) (hn : Hid (ks.length = n)) (hn63 : n < 9223372036854775807) (hz : Hid ((jnd ks).length ≤ 140737488355328)) (w : World) (hc : Hid (StrAt w a ks)) :
    Calls Tryd.prog 13 #[.int .i64 (m : Int), .slice a n cap] w fun e w' => e = .returned (.tuple #[.string ((shs ks).extract 0 m), .int .i64 0]) ∧ Below w.heap.size w w' := by
  have SM : Hid (Calls Tryd.prog 14 #[.slice a n cap] w fun e w' => e = .returned (.string (shs ks)) ∧ Below w.heap.size w w') := rSum_any a ks n cap hn hn63 hz w hc
  have hz := shs_size ks
  generalize shs ks = S at *
  have g1 : (1 : Int) ≤ (m : Int) := by omega
  have g2 : (m : Int) ≤ 32 := by omega
  have g3 : ¬ (m : Int) < 1 := by omega
  have g4 : ¬ (32 : Int) < (m : Int) := by omega
  have g5 : (m : Int) ≤ (S.size : Int) := by omega
  clear hn63 h1 h2
  go_enter Tryd.func13, Tryd.ntmps13
  go_wp2_with fail
  refine Calls.mono SM.out ?_
  rintro e w1 ⟨rfl, hb⟩
  have B1 : Hid (Below w.heap.size w w1) := hb
  clear hb
  go_wp2
  go_ret2
  exact ⟨rfl, B1.out⟩

theorem rShort_no (m : Int) (h : m < 1 ∨ 32 < m) (v : Value) (w : World) :
    Calls Tryd.prog 13 #[.int .i64 m, v] w fun e w' => e = .returned (.tuple #[.string ⟨#[]⟩, .int .i64 1]) ∧ Below w.heap.size w w' := by
  by_cases h1 : m < 1
  · go_enter Tryd.func13, Tryd.ntmps13
    go_wp2
    go_ret2
    exact ⟨rfl, Below.refl _ _⟩
  · have h2 : 32 < m := by omega
    clear h
    go_enter Tryd.func13, Tryd.ntmps13
    go_wp2
    go_ret2
    exact ⟨rfl, Below.refl _ _⟩

set_option maxHeartbeats 1000000 in
theorem rEight_any (m : Nat) (hm : m < 9223372036854775807) (w : World) :
    Calls Tryd.prog 26 #[.int .i64 (m : Int)] w fun e w' => e = .returned (.string ⟨(be8 m).toArray⟩) ∧ Below w.heap.size w w' := by
  obtain ⟨i0, hi, hz0, hz1, hz2⟩ := info_parts infoByte
  have cv : IntKind.u64.wrap (m : Int) = (m : Int) := by rw [IntKind.wrap_u64]; omega
  have cv2 : (m : Int) % 18446744073709551616 = (m : Int) := by omega
  go_enter Tryd.func26, Tryd.ntmps26
  go_wp2
  go_loopw [3, 4] (fun sl i wr => ∃ j : Nat, j ≤ 8 ∧ i = .int .i64 (7 - (j : Int)) ∧ Hid (wr.ownsRow w.heap.size 5 1 sl j (bcells ((be8 m).take j)) ∧ Below w.heap.size w wr)) (fun _ i _ => (intOf i + 1).toNat)
  case atStart => exact ⟨0, by omega, rfl, ⟨rfl, .inl ⟨rfl, rfl⟩⟩, Below.refl _ _⟩
  case round =>
    obtain ⟨j, hj, rfl, J⟩ := hrel
    by_cases hj8 : j = 8
    · subst hj8
      rw [show (7 : Int) - ((8 : Nat) : Int) = -1 from rfl]
      have J2 : Hid (wr.ownsRow w.heap.size 5 1 u3 8 (bcells (be8 m)) ∧ Below w.heap.size w wr) := by
        have := J.out
        rw [List.take_of_length_le (by rw [be8_len]; exact Nat.le_refl _)] at this
        exact this
      have CV := own_string J2.out.1 wr (Below.refl _ _)
      go_wp2
      go_ret
      exact ⟨rfl, J2.out.2⟩
    · obtain ⟨t, ht⟩ : ∃ t, 7 - j = t := ⟨_, rfl⟩
      have e0 : (7 : Int) - (j : Int) = (t : Int) := by omega
      have BV : (m : Int) / 2 ^ (8 * t) % 256 = ((UInt8.ofNat (m / 2 ^ (8 * t))).toNat : Int) := by rw [UInt8.toNat_ofNat']; simp
      have TB : Hid ((be8 m).take (j + 1) = (be8 m).take j ++ [UInt8.ofNat (m / 2 ^ (8 * t))]) := by
        show _ = _
        rw [List.take_succ_eq_append_getElem (by rw [be8_len]; omega), be8_at _ j (by omega), ht]
      obtain ⟨c, hc2⟩ : ∃ c, UInt8.ofNat (m / 2 ^ (8 * t)) = c := ⟨_, rfl⟩
      rw [hc2] at BV TB
      clear hc2
      have e6 : IntKind.i64.wrap (8 * (t : Int)) = ((8 * t : Nat) : Int) := by rw [IntKind.wrap_i64]; omega
      have e7 : ((8 * t : Nat) : Int) ≤ 64 := by omega
      rw [e0]
      clear e0
      go_wp2_with (first
        | (at_builtin; refine wpList_append_own _ rfl _ _ 36 rfl w.heap.size 5 i0 (.int .u8 0) 1 1 Tryd.underlying36 hi hz0 hz1 hz2 rfl (by decide) _ _ _ rfl (J.out.1.alloc _) ⟨wr.heap.size, 0, none⟩ 1 1 [.int .u8 (c.toNat : Int)] rfl rfl (cell_one_new _ _ _) (by intro u hu; simp at hu; subst hu; rfl) (by unfold maxLen; omega) (by omega) (by have := J.out.2.size; simp; omega) ?_; intro v1 w2 hown1 hgrow1 hnil1))
      go_roundw
      case rel =>
        refine ⟨j + 1, by omega, by first | rfl | (congr 1; omega), ?_, ?_⟩
        · rw [TB.out]; unfold bcells at *; rw [List.map_append]; exact hown1
        · exact (J.out.2.alloc J.out.2.size _).grown hgrow1 (by have := J.out.2.size; simp; omega) (fun q hq => (J.out.1.lt q hq).1)
      case measure => simp [intOf]

set_option maxHeartbeats 2000000 in
theorem rBind_any (a : Option Addr) (ks : List ByteArray) (n cap : Nat) (hn : Hid (ks.length = n)) (hn63 : n < 9223372036854775807) (hz : Hid ((bnd ks).length ≤ 140737488355328)) (w : World) (hc : Hid (StrAt w a ks)) (hs : Hid (∀ s ∈ ks, s.size < 9223372036854775807)) :
    Calls Tryd.prog 16 #[.slice a n cap] w fun e w' => e = .returned (.string ⟨(sha (bnd ks)).toArray⟩) ∧ Below w.heap.size w w' := by
  obtain ⟨i0, hi, hz0, hz1, hz2⟩ := info_parts infoByte
  have DG : Hid (∀ w, Calls Tryd.prog 10 #[.string ⟨(bnd ks).toArray⟩] w fun e w' => e = .returned (.string ⟨(sha (bnd ks)).toArray⟩) ∧ Below w.heap.size w w') := fun w => rDigest_any ⟨(bnd ks).toArray⟩ (by show (bnd ks).toArray.size ≤ _; rw [List.size_toArray]; exact hz.out) w
  go_enter Tryd.func16, Tryd.ntmps16
  go_wp2
  go_loopw [3, 4] (fun sl i wr => ∃ k : Nat, k ≤ n ∧ i = .int .i64 (k : Int) ∧ Hid (wr.ownsRow w.heap.size 5 1 sl (bnd (ks.take k)).length (bcells (bnd (ks.take k))) ∧ Below w.heap.size w wr)) (fun _ i _ => n - (intOf i).toNat)
  case atStart => exact ⟨0, Nat.zero_le _, rfl, ⟨rfl, .inl ⟨rfl, rfl⟩⟩, Below.refl _ _⟩
  case round =>
    obtain ⟨k, hk1, rfl, I⟩ := hrel
    by_cases hlt : k < n
    · have hk' : k < ks.length := by have := hn.out; omega
      obtain ⟨b, o, rfl, hcell0⟩ := hc.out k hk'
      have HCN : Hid (∀ w', Below w.heap.size w w' → w'.cell? ⟨b, o + k, none⟩ = some (.string ks[k])) := fun w' h => cell_later h hcell0
      have hcell := HCN.out wr I.out.2
      clear hcell0
      have HF : Hid (bnd (ks.take (k + 1)) = bnd (ks.take k) ++ (be8 ks[k].size ++ ks[k].data.toList)) := bnd_step ks k hk'
      have HL : Hid ((bnd (ks.take k)).length + 8 + ks[k].size ≤ 140737488355328) := by
        have h1 := bnd_le ks (k + 1)
        have h2 := hz.out
        have h3 := HF.out
        have h4 := congrArg List.length h3
        rw [List.length_append, List.length_append, be8_len] at h4
        have h5 : ks[k].data.toList.length = ks[k].size := by simp
        show _ ≤ _
        omega
      have HS : Hid (ks[k].size < 9223372036854775807) := hs.out _ (List.getElem_mem hk')
      generalize ks[k] = s at *
      have g1 : (k : Int) < (n : Int) := by omega
      obtain ⟨P0, hP0⟩ : ∃ P, bnd (ks.take k) = P := ⟨_, rfl⟩
      rw [hP0] at I HF HL
      clear hP0
      have E8 : Hid (∀ w, Calls Tryd.prog 26 #[.int .i64 (s.size : Int)] w fun e w' => e = .returned (.string ⟨(be8 s.size).toArray⟩) ∧ Below w.heap.size w w') := rEight_any s.size HS.out
      obtain ⟨Y, hY⟩ : ∃ Y : ByteArray, ⟨(be8 s.size).toArray⟩ = Y := ⟨_, rfl⟩
      have HY : Hid (be8 s.size = Y.data.toList ∧ Y.size = 8) := ⟨by rw [← hY], by rw [← hY]; rfl⟩
      rw [hY] at E8
      clear hY
      go_wp2_with fail
      refine Calls.mono (E8.out _) ?_
      rintro e w1 ⟨rfl, hb1⟩
      have I1 : Hid (w1.ownsRow w.heap.size 5 1 u3 P0.length (bcells P0) ∧ Below w.heap.size w w1) := ⟨own_later I.out.1 hb1, chain I.out.2 hb1⟩
      clear hb1 E8 hcell
      go_wp2_with (first
        | (at_builtin; refine Go.Lib.wpList_append_own_string _ rfl _ _ 36 9 rfl w.heap.size 5 i0 Tryd.underlying36 Tryd.underlying9 hi hz0 hz1 hz2 _ _ _ rfl I1.out.1 Y rfl (by have := HL.out; have := HY.out.2; unfold maxLen; omega) (by have := HL.out; have := HY.out.2; omega) I1.out.2.size ?_; intro v1 w2 hown1 hgrow1 hnil1; have I2 : Hid (w2.ownsRow w.heap.size 5 1 v1 (P0.length + Y.size) (bcells P0 ++ Go.Lib.strCells Y) ∧ Below w.heap.size w w2) := ⟨hown1, I1.out.2.grown hgrow1 I1.out.2.size (fun q hq => (I1.out.1.lt q hq).1)⟩; have hcell2 := HCN.out w2 I2.out.2; clear hown1 hgrow1 hnil1)
        | (at_builtin; refine Go.Lib.wpList_append_own_string _ rfl _ _ 36 9 rfl w.heap.size 5 i0 Tryd.underlying36 Tryd.underlying9 hi hz0 hz1 hz2 _ _ _ rfl I2.out.1 s rfl (by have := HL.out; have := HY.out.2; unfold maxLen; omega) (by have := HL.out; have := HY.out.2; omega) I2.out.2.size ?_; intro v3 w3 hown3 hgrow3 hnil3))
      go_roundw
      case rel =>
        refine ⟨k + 1, by omega, by go_num, ?_, ?_⟩
        · rw [HF.out, ← List.append_assoc, List.length_append, List.length_append, be8_len]
          rw [strCells_eq, strCells_eq, HY.out.2] at hown3
          unfold bcells at *
          rw [List.map_append, List.map_append, HY.out.1, show (s.data.toList.length) = s.size by simp]
          exact hown3
        · exact I2.out.2.grown hgrow3 I2.out.2.size (fun q hq => (I2.out.1.lt q hq).1)
      case measure => simp [intOf]; omega
    · have hkn : k = n := by omega
      subst hkn
      have I2 : Hid (wr.ownsRow w.heap.size 5 1 u3 (bnd ks).length (bcells (bnd ks)) ∧ Below w.heap.size w wr) := by
        have := I.out
        rw [List.take_of_length_le (by have := hn.out; omega)] at this
        exact this
      have CV := own_string I2.out.1 wr (Below.refl _ _)
      go_wp2_with fail
      refine Calls.mono (DG.out _) ?_
      rintro e w1 ⟨rfl, hb1⟩
      have B1 : Hid (Below w.heap.size w w1) := chain I2.out.2 hb1
      clear hb1 CV
      go_wp2
      go_ret
      exact ⟨rfl, B1.out⟩
end Go.Proofs.YtdebfelgaiofeabDoor
