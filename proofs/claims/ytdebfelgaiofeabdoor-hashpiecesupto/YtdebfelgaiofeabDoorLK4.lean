/- HashBound answers true. -/
import Derived.Test.YtdebfelgaiofeabDoorLK3
import Derived.Lib.AppendStr
namespace Go.Proofs.YtdebfelgaiofeabDoor
open Go.RowKit Go.Proofs.Fd Go.Proofs.Hs

/-- Bound pieces as one text. -/
def bnd (ks : List ByteArray) : List UInt8 := ks.flatMap fun s => be8 s.size ++ s.data.toList
theorem bnd_step (ks : List ByteArray) (k : Nat) (hk : k < ks.length) : bnd (ks.take (k + 1)) = bnd (ks.take k) ++ (be8 ks[k].size ++ ks[k].data.toList) := flat_step _ ks k hk
theorem flat_le {f : ByteArray → List UInt8} (ks : List ByteArray) (k : Nat) : ((ks.take k).flatMap f).length ≤ (ks.flatMap f).length := by
  have h : (ks.take k).flatMap f ++ (ks.drop k).flatMap f = ks.flatMap f := by rw [← List.flatMap_append, List.take_append_drop]
  rw [← h, List.length_append]
  omega
theorem bnd_le (ks : List ByteArray) (k : Nat) : (bnd (ks.take k)).length ≤ (bnd ks).length := flat_le ks k
theorem strCells_eq (s : ByteArray) : Go.Lib.strCells s = bcells s.data.toList := by
  simp [Go.Lib.strCells, bcells]

/-- A row of the call's own, read back as a string, in whatever world comes later. -/
theorem own_string {V : World} {base n : Nat} {v : Value} {l : List UInt8} (h : V.ownsRow base 5 1 v n (bcells l)) : ∀ w', Below V.heap.size V w' → (convert 36 9 v).run Tryd.prog w' = .ok (.string ⟨l.toArray⟩) w' := by
  intro w' hb
  obtain ⟨hlen, hor⟩ := owns_bytes h
  rcases hor with ⟨rfl, h0⟩ | ⟨g, cap, rfl, hcell⟩
  · obtain rfl : l = [] := List.length_eq_zero_iff.1 (by omega)
    kernel_rfl
  · have := run_convert_bytes_back (P := Tryd.prog) w' 36 9 5 ⟨g, 0, none⟩ cap l Tryd.underlying36 Tryd.underlying5 Tryd.underlying9 (fun j hj => by
      have q : Addr.add ⟨g, 0, none⟩ j = ⟨g, j, none⟩ := by simp [Addr.add]; intro h; exact h.symm
      rw [q]; exact cell_later hb (hcell j hj))
    rw [hlen] at this; exact this

set_option maxHeartbeats 2000000 in
theorem HashBound_walk (a : Option Addr) (ks : List ByteArray) (n cap : Nat) (hn : Hid (ks.length = n)) (hn63 : n < 9223372036854775807) (hz : Hid ((bnd ks).length ≤ 140737488355328)) (w : World) (hk : Hid (Kh w)) (hc : Hid (StrAt w a ks)) (hs : Hid (∀ s ∈ ks, s.size < 9223372036854775807)) :
    Calls Tryd.prog 7 #[.slice a n cap] w fun e w' => e = .returned (.bool true) ∧ Below w.heap.size w w' := by
  obtain ⟨i0, hi, hz0, hz1, hz2⟩ := info_parts infoByte
  go_enter Tryd.func7, Tryd.ntmps7
  go_wp2_with fail
  refine Calls.mono (works_any _ hk.out) ?_
  rintro e w1 ⟨rfl, hb⟩
  have B1 : Hid (Below w.heap.size w w1) := hb
  clear hb
  go_wp2
  go_loopw [3, 11] (fun sl i wr => ∃ k : Nat, k ≤ n ∧ i = .int .i64 (k : Int) ∧ Hid (wr.ownsRow w.heap.size 5 1 sl (bnd (ks.take k)).length (bcells (bnd (ks.take k))) ∧ Below w.heap.size w wr)) (fun _ i _ => n - (intOf i).toNat)
  case atStart => exact ⟨0, Nat.zero_le _, rfl, ⟨rfl, .inl ⟨rfl, rfl⟩⟩, B1.out⟩
  case round =>
    obtain ⟨k, hk1, rfl, I⟩ := hrel
    by_cases hlt : k < n
    · have hk' : k < ks.length := by have := hn.out; omega
      obtain ⟨b, o, rfl, hcell⟩ := StrAt.later hc.out I.out.2 rfl k hk'
      have HF : Hid (bnd (ks.take (k + 1)) = bnd (ks.take k) ++ (be8 ks[k].size ++ ks[k].data.toList)) := bnd_step ks k hk'
      have HL : Hid ((bnd (ks.take k)).length + 8 + ks[k].size ≤ 140737488355328) := by
        have h1 := bnd_le ks (k + 1)
        have h2 := hz.out
        have h3 := HF.out
        have h4 := congrArg List.length h3
        rw [List.length_append, List.length_append, be8_len] at h4
        have h5 : ks[k].data.toList.length = ks[k].size := by simp
        show _ ≤ _
        omega
      have HS : Hid (ks[k].size < 9223372036854775807) := hs.out _ (List.getElem_mem hk')
      generalize ks[k] = s at *
      go_wp2
      obtain ⟨P0, hP0⟩ : ∃ P, bnd (ks.take k) = P := ⟨_, rfl⟩
      rw [hP0] at I HF HL
      go_loopw [3, 6] (fun sl i wx => ∃ j : Nat, j ≤ 8 ∧ i = .int .i64 (56 - 8 * (j : Int)) ∧ Hid (wx.ownsRow w.heap.size 5 1 sl (P0.length + j) (bcells (P0 ++ (be8 s.size).take j)) ∧ Below w.heap.size w wx)) (fun _ i _ => (intOf i + 8).toNat)
      case atStart => exact ⟨0, by omega, rfl, by show _ ∧ _; simpa using I.out⟩
      case round =>
        obtain ⟨j, hj, rfl, J⟩ := hrel
        by_cases hj8 : j = 8
        · subst hj8
          rw [show (56 : Int) - 8 * ((8 : Nat) : Int) = -8 by decide]
          have J2 : Hid (wr.ownsRow w.heap.size 5 1 u3 (P0.length + 8) (bcells (P0 ++ be8 s.size)) ∧ Below w.heap.size w wr) := by
            have := J.out
            rw [List.take_of_length_le (by rw [be8_len]; exact Nat.le_refl _)] at this
            exact this
          go_wp2_with (first
            | (at_builtin; refine Go.Lib.wpList_append_own_string _ rfl (.tmp 28) (.tmp 29) 36 9 rfl w.heap.size 5 i0 Tryd.underlying36 Tryd.underlying9 hi hz0 hz1 hz2 _ _ _ rfl J2.out.1 s rfl (by have := HL.out; unfold maxLen; omega) (by have := HL.out; omega) J2.out.2.size ?_; intro v1 w2 hown1 hgrow1 hnil1))
          go_roundw
          case rel =>
            refine ⟨k + 1, by omega, by go_num, ?_, ?_⟩
            · rw [HF.out, ← List.append_assoc, List.length_append, List.length_append, be8_len]
              rw [strCells_eq] at hown1
              unfold bcells at *
              rw [List.map_append, show (s.data.toList.length) = s.size by simp]
              exact hown1
            · exact J2.out.2.grown hgrow1 J2.out.2.size (fun q hq => (J2.out.1.lt q hq).1)
          case measure => simp [intOf]; omega
        · obtain ⟨t, ht⟩ : ∃ t, 7 - j = t := ⟨_, rfl⟩
          have e0 : (56 : Int) - 8 * (j : Int) = ((8 * t : Nat) : Int) := by omega
          have BV : (s.size : Int) / 2 ^ (8 * t) % 256 = ((UInt8.ofNat (s.size / 2 ^ (8 * t))).toNat : Int) := by rw [UInt8.toNat_ofNat']; simp
          have TB : Hid ((be8 s.size).take (j + 1) = (be8 s.size).take j ++ [UInt8.ofNat (s.size / 2 ^ (8 * t))]) := by
            show _ = _
            rw [List.take_succ_eq_append_getElem (by rw [be8_len]; omega), be8_at _ j (by omega), ht]
          obtain ⟨c, hc2⟩ : ∃ c, UInt8.ofNat (s.size / 2 ^ (8 * t)) = c := ⟨_, rfl⟩
          rw [hc2] at BV TB
          clear hc2
          have t7 : ((8 * t : Nat) : Int) ≤ 64 := by omega
          have cv : IntKind.u64.wrap ((s.size : Nat) : Int) = ((s.size : Nat) : Int) := by rw [IntKind.wrap_u64]; have := HS.out; omega
          have cv2 : ((s.size : Nat) : Int) % 18446744073709551616 = ((s.size : Nat) : Int) := by have := HS.out; omega
          have e3 : IntKind.i64.wrap (((8 * t : Nat) : Int) - 8) = 56 - 8 * ((j + 1 : Nat) : Int) := by rw [IntKind.wrap_i64]; omega
          rw [e0]
          go_wp2_with (first
            | (at_builtin; refine wpList_append_own _ rfl (.tmp 19) (.tmp 26) 36 rfl w.heap.size 5 i0 (.int .u8 0) 1 1 Tryd.underlying36 hi hz0 hz1 hz2 rfl (by decide) _ _ _ rfl (J.out.1.alloc _) ⟨wr.heap.size, 0, none⟩ 1 1 [.int .u8 (c.toNat : Int)] rfl rfl (cell_one_new _ _ _) (by intro u hu; simp at hu; subst hu; rfl) (by have := HL.out; unfold maxLen; omega) (by have := HL.out; omega) (by have := J.out.2.size; simp; omega) ?_; intro v1 w2 hown1 hgrow1 hnil1))
          go_roundw
          case rel =>
            refine ⟨j + 1, by omega, by first | rfl | (congr 1; omega), ?_, ?_⟩
            · rw [TB.out, ← List.append_assoc, show P0.length + (j + 1) = P0.length + j + 1 by omega]; unfold bcells at *; rw [List.map_append]; exact hown1
            · exact (J.out.2.alloc J.out.2.size _).grown hgrow1 (by have := J.out.2.size; simp; omega) (fun q hq => (J.out.1.lt q hq).1)
          case measure => simp [intOf]; omega
    · have hkn : k = n := by omega
      subst hkn
      have I2 : Hid (wr.ownsRow w.heap.size 5 1 u3 (bnd ks).length (bcells (bnd ks)) ∧ Below w.heap.size w wr) := by
        have := I.out
        rw [List.take_of_length_le (by have := hn.out; omega)] at this
        exact this
      have CVL : Hid (∀ w', Below wr.heap.size wr w' → (convert 36 9 u3).run Tryd.prog w' = .ok (.string ⟨(bnd ks).toArray⟩) w') := own_string I2.out.1
      have BN : Hid (∀ w', Below wr.heap.size wr w' ∧ (convert 36 9 u3).run Tryd.prog w' = .ok (.string ⟨(bnd ks).toArray⟩) w' → Calls Tryd.prog 15 #[.slice a k cap] w' fun e w'' => e = .returned (.string ⟨(sha (bnd ks)).toArray⟩) ∧ Below w'.heap.size w' w'') := fun w' h => by
        have hb := chain I2.out.2 h.1
        exact Bind_any a ks k cap hn hn63 w' (hk.out.later hb).1 (hk.out.later hb).2 (StrAt.later hc.out hb rfl) hs.out
      have SM : Hid (∀ (B : Nat) (w' : World), Below wr.heap.size wr w' ∧ (convert 36 9 u3).run Tryd.prog w' = .ok (.string ⟨(bnd ks).toArray⟩) w' → w'.cell? ⟨B, 0, none⟩ = some (.string ⟨(bnd ks).toArray⟩) → Calls Tryd.prog 9 #[.slice (some ⟨B, 0, none⟩) 1 1] w' fun e w'' => e = .returned (.string ⟨(sha (bnd ks)).toArray⟩) ∧ Below w'.heap.size w' w'') := fun B w' h h0 => by
        have hb := chain I2.out.2 h.1
        have h := Sum_any (some ⟨B, 0, none⟩) [⟨(bnd ks).toArray⟩] 1 1 rfl (by decide) w' (hk.out.later hb).1 (hk.out.later hb).2 (strAt1 h0) (fun x hx => by
          simp at hx; subst hx
          show (bnd ks).toArray.size < _
          have := hz.out
          simp; omega)
        simp only [List.flatMap_cons, List.flatMap_nil, List.append_nil] at h
        exact h
      generalize (⟨(sha (bnd ks)).toArray⟩ : ByteArray) = X at *
      generalize (⟨(bnd ks).toArray⟩ : ByteArray) = Y at *
      go_wp2
      go_region_held3 (fun w' => Below wr.heap.size wr w' ∧ (convert 36 9 u3).run Tryd.prog w' = .ok (.string Y) w') (first | exact ⟨(Below.refl _ _).drew, CVL.out _ (Below.refl _ _).drew⟩ | exact ⟨chain (And.left (by assumption)) hb1, CVL.out _ (chain (And.left (by assumption)) hb1)⟩ | exact ⟨chain (And.left (by assumption)) hb2, CVL.out _ (chain (And.left (by assumption)) hb2)⟩ | exact ⟨Below.alloc (And.left (by assumption)) (Below.size (And.left (by assumption))) _, CVL.out _ (Below.alloc (And.left (by assumption)) (Below.size (And.left (by assumption))) _)⟩ | assumption) (first | (go_at_call 15; refine Calls.mono (BN.out _ (by assumption)) ?_; rintro e w3 ⟨rfl, hb1⟩) | (go_at_call 9; refine Calls.mono (SM.out _ _ (by assumption) ?_) ?_; (focus first | (simp [go_sem]; done) | exact cell_later hb1 (by simp [go_sem])); rintro e w4 ⟨rfl, hb2⟩))
      all_goals
        rename_i hH
        have BF : Hid (Below w.heap.size w w4) := chain I2.out.2 hH.1
        clear hH
        go_wp2
        go_ret
        exact ⟨rfl, BF.out⟩
end Go.Proofs.YtdebfelgaiofeabDoor
