/- The document's digits of bytes. -/
import Derived.Test.YtdebfelgaiofeabDoorK8
namespace Go.Proofs.YtdebfelgaiofeabDoor
open Go.RowKit Go.Proofs.Fd Go.Proofs.Hs

theorem dg_lo2 (c : UInt8) (w : World) : (Instr.index 9 (.string ⟨#[48, 49, 50, 51, 52, 53, 54, 55, 56, 57, 97, 98, 99, 100, 101, 102]⟩) (.int .u8 ((c.toNat : Int) % 16))).run Tryd.prog w = .ok (.int .u8 ((dg (c.toNat % 16)).toNat : Int)) w := by
  rw [run_index_string (P := Tryd.prog) w 9 _ .u8 _ Tryd.underlying9]
  have e : (c.toNat : Int) % 16 = ((c.toNat % 16 : Nat) : Int) := by omega
  rw [e]
  generalize hq : c.toNat % 16 = q
  have : q < 16 := by omega
  rcases (by omega : q = 0 ∨ q = 1 ∨ q = 2 ∨ q = 3 ∨ q = 4 ∨ q = 5 ∨ q = 6 ∨ q = 7 ∨ q = 8 ∨ q = 9 ∨ q = 10 ∨ q = 11 ∨ q = 12 ∨ q = 13 ∨ q = 14 ∨ q = 15) with rfl | rfl | rfl | rfl | rfl | rfl | rfl | rfl | rfl | rfl | rfl | rfl | rfl | rfl | rfl | rfl <;> rfl

set_option maxHeartbeats 1000000 in
theorem rHex_any (s : ByteArray) (hs : 2 * s.size ≤ 140737488355328) (w : World) :
    Calls Tryd.prog 18 #[.string s] w fun e w' => e = .returned (.string ⟨(hxs s.data.toList).toArray⟩) ∧ Below w.heap.size w w' := by
  obtain ⟨i0, hi, hz0, hz1, hz2⟩ := info_parts infoByte
  have hl : Hid (s.data.toList.length = s.size) := by show s.data.toList.length = s.size; simp
  go_enter Tryd.func18, Tryd.ntmps18
  go_wp2
  go_loopw [4, 5] (fun sl i wr => ∃ k : Nat, k ≤ s.size ∧ i = .int .i64 (k : Int) ∧ Hid (wr.ownsRow w.heap.size 5 1 sl (2 * k) (bcells (hxs (s.data.toList.take k))) ∧ Below w.heap.size w wr)) (fun _ i _ => s.size - (intOf i).toNat)
  case atStart => exact ⟨0, Nat.zero_le _, rfl, ⟨rfl, .inl ⟨rfl, rfl⟩⟩, Below.refl _ _⟩
  case round =>
    obtain ⟨k, hk, rfl, J⟩ := hrel
    by_cases hlt : k < s.size
    · have HX : Hid (hxs (s.data.toList.take (k + 1)) = hxs (s.data.toList.take k) ++ hx s[k]) := hxs_step s.data.toList k (by rw [hl.out]; exact hlt)
      obtain ⟨c, hc⟩ : ∃ c, s[k] = c := ⟨_, rfl⟩
      rw [hc] at HX
      have d1 := dg_hi c
      have d2 := dg_lo2 c
      have t16 : (c.toNat : Int).tmod 16 = (c.toNat : Int) % 16 := Int.tmod_eq_emod_of_nonneg (by omega)
      have g0 : (0 : Int) ≤ (k : Int) := by omega
      have g1 : (k : Int) < (s.size : Int) := by omega
      go_wp2
      go_region_held3 (fun _ => True) (trivial) (first | (rw [if_pos (by kernel_rfl)]; refine wp_append_own _ (.tmp 12) (.tmp 25) 36 rfl w.heap.size 5 i0 (.int .u8 0) 1 1 Tryd.underlying36 hi hz0 hz1 hz2 rfl (by decide) _ _ _ rfl (J.out.1.drew.alloc _) ⟨wr.heap.size, 0, none⟩ 2 2 [.int .u8 ((dg (c.toNat / 16)).toNat : Int), .int .u8 ((dg (c.toNat % 16)).toNat : Int)] rfl rfl (cells_new _ _ _) (by intro u hu; simp at hu; rcases hu with rfl | rfl <;> rfl) (by unfold maxLen; omega) (by omega) (by have := J.out.2.size; simp; omega) ?_; intro v1 w1 hown1 hgrow1 hnil1))
      all_goals
        go_wp2
        go_roundw
        case rel =>
          refine ⟨k + 1, by omega, by go_num, ?_, ?_⟩
          · rw [HX.out]; unfold bcells; rw [List.map_append, show 2 * (k + 1) = 2 * k + 2 by omega]; exact hown1
          · exact (J.out.2.drew.alloc J.out.2.size _).grown hgrow1 (by have := J.out.2.size; simp; omega) (fun j hj => (J.out.1.lt j hj).1)
        case measure => simp [intOf]; omega
    · have hkn : k = s.size := by omega
      subst hkn
      obtain ⟨hlen, hor⟩ := owns_bytes J.out.1
      rw [List.take_of_length_le (by rw [hl.out]; exact Nat.le_refl _)] at hlen
      rcases hor with ⟨rfl, h0⟩ | ⟨g, cap, rfl, hcell⟩
      · have FIN : Hid (hxs s.data.toList = []) := List.length_eq_zero_iff.1 (by omega)
        have CV : (convert 36 9 (.slice none 0 0)).run Tryd.prog wr = .ok (.string ⟨#[]⟩) wr := by kernel_rfl
        go_wp2
        go_ret
        exact ⟨by rw [FIN.out]; rfl, J.out.2⟩
      · rw [List.take_of_length_le (by rw [hl.out]; exact Nat.le_refl _)] at hcell
        have CV : (convert 36 9 (.slice (some ⟨g, 0, none⟩) (2 * s.size) cap)).run Tryd.prog wr = .ok (.string ⟨(hxs s.data.toList).toArray⟩) wr := by
          have := run_convert_bytes_back (P := Tryd.prog) wr 36 9 5 ⟨g, 0, none⟩ cap (hxs s.data.toList) Tryd.underlying36 Tryd.underlying5 Tryd.underlying9 (fun j hj => by
            have q : Addr.add ⟨g, 0, none⟩ j = ⟨g, j, none⟩ := by simp [Addr.add]; intro h; exact h.symm
            rw [q]; exact hcell j hj)
          rw [hlen] at this; exact this
        clear hcell
        go_wp2
        go_ret
        exact ⟨rfl, J.out.2⟩

set_option maxHeartbeats 1000000 in
theorem HashHex_walk (s : ByteArray) (hs : 2 * s.size ≤ 140737488355328) (w : World) (hk : Hid (Kh w)) :
    Calls Tryd.prog 5 #[.string s] w fun e w' => e = .returned (.bool true) ∧ Below w.heap.size w w' := by
  have H1 : Hid (∀ w, Calls Tryd.prog 17 #[.string s] w fun e w' => e = .returned (.string ⟨(hxs s.data.toList).toArray⟩) ∧ Below w.heap.size w w') := Hex_any s hs
  have H2 : Hid (∀ w, Calls Tryd.prog 18 #[.string s] w fun e w' => e = .returned (.string ⟨(hxs s.data.toList).toArray⟩) ∧ Below w.heap.size w w') := rHex_any s hs
  generalize (⟨(hxs s.data.toList).toArray⟩ : ByteArray) = X at *
  go_enter Tryd.func5, Tryd.ntmps5
  go_wp2_with fail
  refine Calls.mono (H1.out _) ?_
  rintro e w1 ⟨rfl, hb⟩
  have B1 : Hid (Below w.heap.size w w1 ∧ Kh w1) := ⟨hb, hk.out.later hb⟩
  clear hb
  go_wp2_with fail
  refine Calls.mono (H2.out _) ?_
  rintro e w2 ⟨rfl, hb⟩
  have B2 : Hid (Below w.heap.size w w2 ∧ Kh w2) := ⟨chain B1.out.1 hb, B1.out.2.later hb⟩
  clear hb
  go_wp2_with fail
  refine Calls.mono (works_any _ B2.out.2) ?_
  rintro e w3 ⟨rfl, hb⟩
  have B3 : Hid (Below w.heap.size w w3) := chain B2.out.1 hb
  clear hb
  go_wp2
  go_ret
  exact ⟨rfl, B3.out⟩
end Go.Proofs.YtdebfelgaiofeabDoor
