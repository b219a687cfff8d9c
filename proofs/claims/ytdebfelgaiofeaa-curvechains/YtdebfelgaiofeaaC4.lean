/- What whole and Clamp of package curve do. -/
import Derived.Test.YtdebfelgaiofeaaC3
namespace Go.Proofs.Ytdebfelgaiofeaa
open Go.RowKit Go.Proofs.Fd Go.Proofs.Ed

/-- Each text is as long as a scalar. -/
def wh (ss : List ByteArray) : Bool := ss.all fun s => decide (s.size = 32)

theorem wh_take {ss : List ByteArray} {k : Nat} (hk : k < ss.length) (h : wh (ss.take k) = true) (h' : ss[k].size = 32) : wh (ss.take (k + 1)) = true := by
  unfold wh at *
  rw [List.take_succ_eq_append_getElem hk, List.all_append, h]
  simp [h']

theorem wh_not {ss : List ByteArray} {k : Nat} (hk : k < ss.length) (h' : ¬ ss[k].size = 32) : wh ss = false := by
  unfold wh
  rw [List.all_eq_false]
  exact ⟨ss[k], List.getElem_mem hk, by simpa using h'⟩

set_option maxHeartbeats 400000 in
theorem whole_any (a : Option Addr) (ss : List ByteArray) (n cap : Nat) (hn : Hid (ss.length = n)) (hm : n ≤ 9223372036854775807) (w : World) (hc : Hid (StrAt w a ss)) :
    Calls Try.prog 22 #[.slice a n cap] w fun e w' => e = .returned (.bool (wh ss)) ∧ Below w.heap.size w w' := by
  go_enter Try.func22, Try.ntmps22
  go_wp2
  go_loopw [7] (fun i wr => ∃ k : Nat, k ≤ n ∧ i = .int .i64 k ∧ Hid (wh (ss.take k) = true ∧ Below w.heap.size w wr)) (fun i _ => n - (intOf i).toNat)
  case atStart => exact ⟨0, Nat.zero_le _, rfl, rfl, Below.refl _ _⟩
  case round =>
    obtain ⟨k, hk, rfl, I⟩ := hrel
    by_cases hlt : k < n
    · have hk' : k < ss.length := by have := hn.out; omega
      obtain ⟨b, o, rfl, hcell⟩ := StrAt.later hc.out I.out.2 k hk'
      have HT : Hid (ss[k].size = 32 → wh (ss.take (k + 1)) = true) := fun h => wh_take hk' I.out.1 h
      have HN : Hid (¬ ss[k].size = 32 → wh ss = false) := fun h => wh_not hk' h
      generalize ss[k] = s at *
      by_cases h0 : s.size = 32
      · have hz : ((s.size : Int) != 32) = false := by simp [h0]
        have fin := HT.out h0
        have FIN : Hid (wh (ss.take (k + 1)) = true) := fin
        clear fin h0
        go_wp2
        go_roundw
        case rel => exact ⟨k + 1, by omega, by go_num, FIN.out, I.out.2⟩
        case measure => simp [intOf]; omega
      · have hz : ((s.size : Int) != 32) = true := by simp; omega
        have FIN : Hid (wh ss = false) := HN.out h0
        clear h0
        go_wp2
        go_ret
        exact ⟨ret_bool FIN.out.symm, I.out.2⟩
    · have hkn : k = n := by omega
      subst hkn
      have CA : Hid (wh ss = true) := by
        have := I.out.1; rw [List.take_of_length_le (by have := hn.out; omega)] at this; exact this
      go_wp2
      go_ret
      exact ⟨ret_bool CA.out.symm, I.out.2⟩

theorem whole1_any (s : ByteArray) (B : Nat) (w : World) (h0 : w.cell? ⟨B, 0, none⟩ = some (.string s)) :
    Calls Try.prog 22 #[.slice (some ⟨B, 0, none⟩) 1 1] w fun e w' => e = .returned (.bool (decide (s.size = 32))) ∧ Below w.heap.size w w' := by
  have := whole_any (some ⟨B, 0, none⟩) [s] 1 1 rfl (by omega) w (fun i hi => by
    have : i = 0 := by simp at hi; omega
    subst this
    exact ⟨B, 0, rfl, h0⟩)
  rw [show wh [s] = decide (s.size = 32) by simp [wh]] at this
  exact this

theorem and248 (x : UInt8) : bits .and .u8 (x.toNat : Int) 248 = ((UInt8.ofNat (x.toNat / 8 * 8)).toNat : Int) := by
  have h := x.toNat_lt
  have e := (bits_nat .u8 8 (by decide) wraps_u8 x.toNat 248 (by omega) (by decide)).1
  have key : ∀ n : Fin 256, n.val &&& 248 = n.val / 8 * 8 := by decide +kernel
  have k := key ⟨x.toNat, by omega⟩
  rw [show ((248 : Nat) : Int) = 248 from rfl] at e
  rw [e, UInt8.toNat_ofNat', show x.toNat &&& 248 = x.toNat / 8 * 8 from k]
  omega

theorem or64 (x : UInt8) : bits .or .u8 (bits .and .u8 (x.toNat : Int) 127) 64 = ((UInt8.ofNat (x.toNat % 64 + 64)).toNat : Int) := by
  have h := x.toNat_lt
  rw [and127, UInt8.toNat_ofNat', show x.toNat % 128 % 2 ^ 8 = x.toNat % 128 by omega]
  have e := (bits_nat .u8 8 (by decide) wraps_u8 (x.toNat % 128) 64 (by omega) (by decide)).2
  have key : ∀ n : Fin 128, n.val ||| 64 = n.val % 64 + 64 := by decide +kernel
  have k := key ⟨x.toNat % 128, by omega⟩
  rw [show ((64 : Nat) : Int) = 64 from rfl] at e
  rw [e, UInt8.toNat_ofNat', show x.toNat % 128 ||| 64 = x.toNat % 128 % 64 + 64 from k]
  omega

set_option maxHeartbeats 400000 in
theorem Clamp_ok (s : ByteArray) (hs : s.size = 32) (w : World) :
    Calls Try.prog 11 #[.string s] w fun e w' => e = .returned (.tuple #[.string (enc (clampN (num s.data.toList))), .int .i64 0]) ∧ Below w.heap.size w w' := by
  have hd : decide (s.size = 32) = true := by simpa using hs
  go_enter Try.func11, Try.ntmps11
  go_wp2_with fail
  refine Calls.mono (whole1_any s w.heap.size _ (by simp [go_sem])) ?_
  rintro e w1 ⟨rfl, hb⟩
  rw [hd]
  have B1 : Hid (Below w.heap.size w w1) := chain ((Below.refl _ _).alloc (Nat.le_refl _) _) hb
  clear hb
  obtain ⟨cap, W, hcv, hB, hb, hcap⟩ := bytes_of s w1
  rw [hs] at hcv hcap
  have hl : s.data.toList.length = 32 := by simpa using hs
  have BW : Hid (Below w.heap.size w W ∧ w.heap.size ≤ w1.heap.size) := ⟨chain B1.out hb, B1.out.size⟩
  obtain ⟨c0, f0⟩ := hB 0 (by omega)
  obtain ⟨c31, f31⟩ := hB 31 (by omega)
  have CV : Hid ((convert 34 9 (.slice (some ⟨w1.heap.size, 0, none⟩) 32 cap)).run Try.prog ((W.setCell ⟨w1.heap.size, 0, none⟩ (.int .u8 (bits .and .u8 (s.data.toList[0].toNat : Int) 248))).setCell ⟨w1.heap.size, 31, none⟩ (.int .u8 (bits .or .u8 (bits .and .u8 (s.data.toList[31].toNat : Int) 127) 64)))
      = .ok (.string (enc (clampN (num s.data.toList)))) ((W.setCell ⟨w1.heap.size, 0, none⟩ (.int .u8 (bits .and .u8 (s.data.toList[0].toNat : Int) 248))).setCell ⟨w1.heap.size, 31, none⟩ (.int .u8 (bits .or .u8 (bits .and .u8 (s.data.toList[31].toNat : Int) 127) 64)))) := by
    have h := ((hB.set 0 _ _ (and248 s.data.toList[0])).set 31 _ _ (or64 s.data.toList[31])).string (cap := cap) (n := 32) (by simpa using hl)
    have h0 := s.data.toList[0].toNat_lt
    have h31 := s.data.toList[31].toNat_lt
    rw [enc_of (by simpa using hl), num_clamp _ hl _ _ (by rw [UInt8.toNat_ofNat']; omega) (by rw [UInt8.toNat_ofNat']; omega)] at h
    exact h
  obtain ⟨m, hm⟩ : ∃ m, enc (clampN (num s.data.toList)) = m := ⟨_, rfl⟩
  rw [hm] at CV
  have HM : Hid (enc (clampN (num s.data.toList)) = m) := hm
  clear hm
  generalize s.data.toList[31] = x at *
  generalize s.data.toList[0] = y at *
  clear hB hb hl
  have CV' := CV.out
  go_wp2
  go_ret2
  refine ⟨by rw [HM.out]; rfl, ?_⟩
  exact ((BW.out.1.setCell (p := ⟨w1.heap.size, 0, none⟩) BW.out.2 _).setCell (p := ⟨w1.heap.size, 31, none⟩) BW.out.2 _)

set_option maxHeartbeats 400000 in
theorem Clamp_no (s : ByteArray) (hs : ¬ s.size = 32) (w : World) :
    Calls Try.prog 11 #[.string s] w fun e w' => e = .returned (.tuple #[.string ⟨#[]⟩, .int .i64 3]) ∧ Below w.heap.size w w' := by
  have hd : decide (s.size = 32) = false := by simpa using hs
  go_enter Try.func11, Try.ntmps11
  go_wp2_with fail
  refine Calls.mono (whole1_any s w.heap.size _ (by simp [go_sem])) ?_
  rintro e w1 ⟨rfl, hb⟩
  rw [hd]
  have B1 : Hid (Below w.heap.size w w1) := chain ((Below.refl _ _).alloc (Nat.le_refl _) _) hb
  clear hb
  go_wp2
  go_ret2
  exact ⟨rfl, B1.out⟩

end Go.Proofs.Ytdebfelgaiofeaa
