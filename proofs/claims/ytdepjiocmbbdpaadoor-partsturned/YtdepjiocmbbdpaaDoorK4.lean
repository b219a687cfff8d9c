/- The machine takes bytes in. -/
import Derived.Test.YtdepjiocmbbdpaaDoorK3
namespace Go.Proofs.YtdepjiocmbbdpaaDoor
open Go.RowKit Go.Proofs.Fd Go.Proofs.Hs

theorem push32 (x : UInt32) (c : UInt8) : bits .or .u32 (tv x * 256 % 4294967296) ((c.toNat : Int) % 4294967296) = tv (UInt32.ofNat (x.toNat * 256 + c.toNat)) := by
  have hx := x.toNat_lt
  have hc := c.toNat_lt
  rw [tv_ofNat]
  unfold tv
  have e1 : (x.toNat : Int) * 256 % 4294967296 = ((x.toNat * 256 % 4294967296 : Nat) : Int) := by omega
  have e0 : (c.toNat : Int) % 4294967296 = (c.toNat : Int) := by omega
  rw [e1, e0, (bits_nat .u32 32 (by decide) wr32 _ _ (by omega) (by omega)).2]
  have := Nat.shiftLeft_add_eq_or_of_lt (show c.toNat < 2 ^ 8 from hc) (x.toNat % 2 ^ 24)
  rw [Nat.shiftLeft_eq] at this
  have e2 : x.toNat * 256 % 4294967296 = x.toNat % 2 ^ 24 * 2 ^ 8 := by omega
  rw [e2, ← this]
  omega

theorem Mc.setN {w : World} {b : Nat} {m : Mach} (h : Mc w b m) (n : Nat) (hn : n < 18446744073709551616) : Mc (w.setCell ⟨b, 24, none⟩ (.int .u64 (n : Int))) b ⟨m.v, m.r, n⟩ := by
  have ne := ne_off w b 24 (.int .u64 (n : Int))
  refine ⟨h.pos, h.kst.later ((Below.refl b w).setCell (Nat.le_refl _) _) h.pos, (ne 0 (by decide)).trans h.c0, (ne 1 (by decide)).trans h.c1, (ne 2 (by decide)).trans h.c2, (ne 3 (by decide)).trans h.c3, (ne 4 (by decide)).trans h.c4, (ne 5 (by decide)).trans h.c5, (ne 6 (by decide)).trans h.c6, (ne 7 (by decide)).trans h.c7, fun j hj => (ne (8 + j) (by omega)).trans (h.ring j hj), by have := h.cn; simp [go_sem, this], fun o => by simp [h.fz], h.len, hn⟩

set_option maxHeartbeats 1000000 in
theorem put_any (b : Nat) (m : Mach) (c : UInt8) (w : World) (hm : Hid (Mc w b m)) :
    Calls Tryd.prog 67 #[.pointer (some ⟨b, 0, none⟩), .int .u8 (c.toNat : Int)] w fun e w' => e = .returned (.tuple #[]) ∧ Mc w' b (m.put c) ∧ Below b w w' := by
  obtain ⟨k, hk⟩ : ∃ k, m.n / 4 % 16 = k := ⟨_, rfl⟩
  have hk16 : k < 16 := hk ▸ Nat.mod_lt _ (by decide)
  have R := hm.out.ring k hk16
  have CN := hm.out.cn
  obtain ⟨x, hx⟩ : ∃ x, m.r.getD k 0 = x := ⟨_, rfl⟩
  rw [hx] at R
  obtain ⟨n, hn⟩ : ∃ n, m.n = n := ⟨_, rfl⟩
  rw [hn] at CN hk
  have hlt := hm.out.lt
  rw [hn] at hlt
  have e0 : (n : Int) / 4 % 16 = (k : Int) := by omega
  have e0' : IntKind.u64.wrap ((n : Int) / 4) = (n : Int) / 4 := by rw [IntKind.wrap_u64]; omega
  have e0'' : ((n : Int) / 4).tmod 16 = (k : Int) := by rw [Int.tmod_eq_emod_of_nonneg (by omega)]; exact e0
  have b0 : (k : Int) < 16 := by omega
  obtain ⟨n1, hn1⟩ : ∃ n1, (n + 1) % 18446744073709551616 = n1 := ⟨_, rfl⟩
  have e1 : IntKind.u64.wrap ((n : Int) + 1) = (n1 : Int) := by rw [IntKind.wrap_u64]; omega
  have e2 : ((n : Int) + 1) % 18446744073709551616 = (n1 : Int) := by omega
  have PV : Hid (_ = _) := push32 x c
  have F := hm.out.fz (8 + k)
  have F2 := hm.out.fz 24
  obtain ⟨y, hy⟩ : ∃ y, UInt32.ofNat (x.toNat * 256 + c.toNat) = y := ⟨_, rfl⟩
  rw [hy] at PV
  have PU : Hid (m.push c = ⟨m.v, m.r.set k y, n1⟩) := by
    show _ = _
    unfold Mach.push
    simp only [hn, hk, hx, hy]
    rw [show (2 : Nat) ^ 64 = 18446744073709551616 by decide, hn1]
  have HN : Hid (m.n = n) := hn
  have HK : Hid (k < 16 ∧ n1 < 18446744073709551616) := ⟨hk16, by omega⟩
  by_cases h0 : n1 % 64 = 0
  · have PT : Hid (m.put c = (⟨m.v, m.r.set k y, n1⟩ : Mach).mix) := by
      show _ = _
      unfold Mach.put
      rw [PU.out]
      exact if_pos h0
    have h0' : (n1 : Int) % 64 = 0 := by omega
    have h0'' : (n1 : Int).tmod 64 = 0 := by rw [Int.tmod_eq_emod_of_nonneg (by omega)]; exact h0'
    clear hk hx hn hy hn1 hlt hk16
    go_enter Tryd.func67, Tryd.ntmps67
    go_wp2
    go_region
    all_goals
      rw [PV.out]
      obtain ⟨W, hW⟩ : ∃ W, (w.setCell ⟨b, 8 + k, none⟩ (.int .u32 (tv y))).drew = W := ⟨_, rfl⟩
      have M1 : Hid (Mc W b ⟨m.v, m.r.set k y, n⟩ ∧ Below b w W) := by
        rw [← hW]
        refine ⟨?_, ((Below.refl _ _).setCell (p := ⟨b, 8 + k, none⟩) (Nat.le_refl _) _).drew⟩
        have := (hm.out.setRing k HK.out.1 y _ rfl).drew
        rw [HN.out] at this
        exact this
      rw [hW]
      clear hW R CN F F2 PV
      have CN := M1.out.1.cn
      have F2 := M1.out.1.fz 24
      go_wp2_with fail
      refine Calls.mono (mix_any b ⟨m.v, m.r.set k y, n1⟩ _ (M1.out.1.setN n1 HK.out.2)) ?_
      rintro e w1 ⟨rfl, M2, hb2⟩
      have M3 : Hid (Mc w1 b (m.put c) ∧ Below b w w1) := ⟨PT.out ▸ M2, (M1.out.2.setCell (p := ⟨b, 24, none⟩) (Nat.le_refl _) _).trans hb2⟩
      clear M2 hb2
      go_wp2
      refine bodyPost_end (results_none Tryd.results67 _ _ _) rfl ⟨rfl, M3.out⟩
  · have PT : Hid (m.put c = (⟨m.v, m.r.set k y, n1⟩ : Mach)) := by
      show _ = _
      unfold Mach.put
      rw [PU.out]
      exact if_neg h0
    have h0' : ¬ (n1 : Int) % 64 = 0 := by omega
    have h0'' : ¬ (n1 : Int).tmod 64 = 0 := by rw [Int.tmod_eq_emod_of_nonneg (by omega)]; exact h0'
    clear hk hx hn hy hn1 hlt hk16
    go_enter Tryd.func67, Tryd.ntmps67
    go_wp2
    go_region
    all_goals
      rw [PV.out]
      obtain ⟨W, hW⟩ : ∃ W, (w.setCell ⟨b, 8 + k, none⟩ (.int .u32 (tv y))).drew = W := ⟨_, rfl⟩
      have M1 : Hid (Mc W b ⟨m.v, m.r.set k y, n⟩ ∧ Below b w W) := by
        rw [← hW]
        refine ⟨?_, ((Below.refl _ _).setCell (p := ⟨b, 8 + k, none⟩) (Nat.le_refl _) _).drew⟩
        have := (hm.out.setRing k HK.out.1 y _ rfl).drew
        rw [HN.out] at this
        exact this
      rw [hW]
      clear hW R CN F F2 PV
      have CN := M1.out.1.cn
      have F2 := M1.out.1.fz 24
      have M3 : Hid (Mc (W.setCell ⟨b, 24, none⟩ (.int .u64 (n1 : Int))) b (m.put c) ∧ Below b w (W.setCell ⟨b, 24, none⟩ (.int .u64 (n1 : Int)))) := ⟨PT.out ▸ M1.out.1.setN n1 HK.out.2, M1.out.2.setCell (p := ⟨b, 24, none⟩) (Nat.le_refl _) _⟩
      go_wp2
      refine bodyPost_end (results_none Tryd.results67 _ _ _) rfl ⟨rfl, M3.out⟩

/-- Bytes taken in, one by one. -/
theorem text_snoc (m : Mach) (s : List UInt8) (k : Nat) (hk : k < s.length) : m.text (s.take (k + 1)) = (m.text (s.take k)).put s[k] := by
  unfold Mach.text
  rw [List.take_succ_eq_append_getElem hk, List.foldl_append]
  rfl

set_option maxHeartbeats 1000000 in
theorem text_any (b : Nat) (m : Mach) (s : ByteArray) (hs : s.size < 9223372036854775807) (w : World) (hm : Hid (Mc w b m)) :
    Calls Tryd.prog 57 #[.pointer (some ⟨b, 0, none⟩), .string s] w fun e w' => e = .returned (.tuple #[]) ∧ Mc w' b (m.text s.data.toList) ∧ Below b w w' := by
  have hl : Hid (s.data.toList.length = s.size) := by show s.data.toList.length = s.size; simp
  go_enter Tryd.func57, Tryd.ntmps57
  go_wp2
  go_loopw [7] (fun i wr => ∃ k : Nat, k ≤ s.size ∧ i = .int .i64 (k : Int) ∧ Hid (Mc wr b (m.text (s.data.toList.take k)) ∧ Below b w wr)) (fun i _ => s.size - (intOf i).toNat)
  case atStart => exact ⟨0, Nat.zero_le _, rfl, hm.out, Below.refl _ _⟩
  case round =>
    obtain ⟨k, hk, rfl, I⟩ := hrel
    by_cases hlt : k < s.size
    · have TS : Hid (m.text (s.data.toList.take (k + 1)) = (m.text (s.data.toList.take k)).put s[k]) := text_snoc m s.data.toList k (by rw [hl.out]; exact hlt)
      obtain ⟨c, hc⟩ : ∃ c, s[k] = c := ⟨_, rfl⟩
      rw [hc] at TS
      go_wp2_with fail
      refine Calls.mono (put_any b _ c _ I.out.1) ?_
      rintro e w1 ⟨rfl, M2, hb2⟩
      have M3 : Hid (Mc w1 b (m.text (s.data.toList.take (k + 1))) ∧ Below b w w1) := ⟨TS.out ▸ M2, I.out.2.trans hb2⟩
      clear M2 hb2
      go_wp2
      go_roundw
      case rel => exact ⟨k + 1, by omega, by go_num, M3.out⟩
      case measure => simp [intOf]; omega
    · have hkn : k = s.size := by omega
      subst hkn
      have M3 : Hid (Mc wr b (m.text s.data.toList) ∧ Below b w wr) := by
        have := I.out
        rw [List.take_of_length_le (by rw [hl.out]; exact Nat.le_refl _)] at this
        exact this
      go_wp2
      refine bodyPost_end (results_none Tryd.results57 _ _ _) rfl ⟨rfl, M3.out⟩
end Go.Proofs.YtdepjiocmbbdpaaDoor
