/- Digits of bytes. -/
import Derived.Test.YtdebfelgaiofeadDoorK6
import Derived.Laws.MakeOwn
namespace Go.Proofs.YtdebfelgaiofeadDoor
open Go.RowKit Go.Proofs.Fd Go.Proofs.Hs

/-- The sixteen digits. -/
def dgs : ByteArray := ⟨#[48, 49, 50, 51, 52, 53, 54, 55, 56, 57, 97, 98, 99, 100, 101, 102]⟩
def dg (n : Nat) : UInt8 := dgs.data.toList.getD n 0
def hx (c : UInt8) : List UInt8 := [dg (c.toNat / 16), dg (c.toNat % 16)]
def hxs (l : List UInt8) : List UInt8 := l.flatMap hx
theorem hxs_len (l : List UInt8) : (hxs l).length = 2 * l.length := by
  induction l with
  | nil => rfl
  | cons c r ih => unfold hxs at *; rw [List.flatMap_cons, List.length_append, ih]; simp [hx]; omega
theorem hxs_step (l : List UInt8) (k : Nat) (hk : k < l.length) : hxs (l.take (k + 1)) = hxs (l.take k) ++ hx l[k] := by
  unfold hxs
  rw [List.take_succ_eq_append_getElem hk, List.flatMap_append, List.flatMap_singleton]

theorem dg_hi (c : UInt8) (w : World) : (Instr.index 9 (.string ⟨#[48, 49, 50, 51, 52, 53, 54, 55, 56, 57, 97, 98, 99, 100, 101, 102]⟩) (.int .u8 ((c.toNat : Int) / 16))).run Tryd.prog w = .ok (.int .u8 ((dg (c.toNat / 16)).toNat : Int)) w := by
  have hc := c.toNat_lt
  rw [run_index_string (P := Tryd.prog) w 9 _ .u8 _ Tryd.underlying9]
  have e : (c.toNat : Int) / 16 = ((c.toNat / 16 : Nat) : Int) := by omega
  rw [e]
  generalize hq : c.toNat / 16 = q
  have : q < 16 := by omega
  rcases (by omega : q = 0 ∨ q = 1 ∨ q = 2 ∨ q = 3 ∨ q = 4 ∨ q = 5 ∨ q = 6 ∨ q = 7 ∨ q = 8 ∨ q = 9 ∨ q = 10 ∨ q = 11 ∨ q = 12 ∨ q = 13 ∨ q = 14 ∨ q = 15) with rfl | rfl | rfl | rfl | rfl | rfl | rfl | rfl | rfl | rfl | rfl | rfl | rfl | rfl | rfl | rfl <;> rfl
theorem dg_lo (c : UInt8) (w : World) : (Instr.index 9 (.string ⟨#[48, 49, 50, 51, 52, 53, 54, 55, 56, 57, 97, 98, 99, 100, 101, 102]⟩) (.int .u8 (bits .and .u8 (c.toNat : Int) 15))).run Tryd.prog w = .ok (.int .u8 ((dg (c.toNat % 16)).toNat : Int)) w := by
  have hc := c.toNat_lt
  rw [run_index_string (P := Tryd.prog) w 9 _ .u8 _ Tryd.underlying9]
  have e : bits .and .u8 (c.toNat : Int) 15 = ((c.toNat % 16 : Nat) : Int) := by
    have := bits_mask .u8 8 (by decide) wraps_u8 4 (by decide) (c.toNat : Int) (by omega) (by omega)
    rw [show (2 : Int) ^ 4 - 1 = 15 by decide] at this
    rw [this]
    omega
  rw [e]
  generalize hq : c.toNat % 16 = q
  have : q < 16 := by omega
  rcases (by omega : q = 0 ∨ q = 1 ∨ q = 2 ∨ q = 3 ∨ q = 4 ∨ q = 5 ∨ q = 6 ∨ q = 7 ∨ q = 8 ∨ q = 9 ∨ q = 10 ∨ q = 11 ∨ q = 12 ∨ q = 13 ∨ q = 14 ∨ q = 15) with rfl | rfl | rfl | rfl | rfl | rfl | rfl | rfl | rfl | rfl | rfl | rfl | rfl | rfl | rfl | rfl <;> rfl

set_option maxHeartbeats 1000000 in
theorem Hex_any (s : ByteArray) (hs : 2 * s.size ≤ 140737488355328) (w : World) :
    Calls Tryd.prog 8 #[.string s] w fun e w' => e = .returned (.string ⟨(hxs s.data.toList).toArray⟩) ∧ Below w.heap.size w w' := by
  obtain ⟨i0, hi, hz0, hz1, hz2⟩ := info_parts infoByte
  have hl : Hid (s.data.toList.length = s.size) := by show s.data.toList.length = s.size; simp
  have hm := run_make_own (P := Tryd.prog) w w.heap.size 29 5 i0 (.int .u8 0) 1 Tryd.underlying29 hi hz0 hz1 .i64 .i64 (2 * s.size) (by rw [hz2]; omega) (by unfold maxLen; omega) (Nat.le_refl _)
  obtain ⟨W, hmk, hown, hgrown⟩ := hm
  have OW : Hid (W.ownsRow w.heap.size 5 1 (.slice (some ⟨w.heap.size, 0, none⟩) 0 (2 * s.size)) 0 [] ∧ Below w.heap.size w W) := ⟨hown, (Below.refl _ _).grown hgrown (Nat.le_refl _) (fun k h => by cases h)⟩
  have e2 : ((2 * s.size : Nat) : Int) = 2 * (s.size : Int) := by omega
  rw [e2] at hmk
  have e3 : IntKind.i64.wrap (2 * (s.size : Int)) = 2 * (s.size : Int) := by rw [IntKind.wrap_i64]; omega
  clear hown hgrown e2
  go_enter Tryd.func8, Tryd.ntmps8
  go_wp2
  go_loopw [3, 11] (fun sl i wr => ∃ k : Nat, k ≤ s.size ∧ i = .int .i64 (k : Int) ∧ Hid (wr.ownsRow w.heap.size 5 1 sl (2 * k) (bcells (hxs (s.data.toList.take k))) ∧ Below w.heap.size w wr)) (fun _ i _ => s.size - (intOf i).toNat)
  case atStart => exact ⟨0, Nat.zero_le _, rfl, OW.out⟩
  case round =>
    obtain ⟨k, hk, rfl, J⟩ := hrel
    clear hmk e3
    by_cases hlt : k < s.size
    · have HX : Hid (hxs (s.data.toList.take (k + 1)) = hxs (s.data.toList.take k) ++ hx s[k]) := hxs_step s.data.toList k (by rw [hl.out]; exact hlt)
      obtain ⟨c, hc⟩ : ∃ c, s[k] = c := ⟨_, rfl⟩
      rw [hc] at HX
      have d1 := dg_hi c
      have d2 := dg_lo c
      have g0 : (0 : Int) ≤ (k : Int) := by omega
      have g1 : (k : Int) < (s.size : Int) := by omega
      go_wp2
      go_region_held3 (fun _ => True) (trivial) (first | (rw [if_pos (by kernel_rfl)]; refine wp_append_own _ (.tmp 14) (.tmp 25) 29 rfl w.heap.size 5 i0 (.int .u8 0) 1 1 Tryd.underlying29 hi hz0 hz1 hz2 rfl (by decide) _ _ _ rfl (J.out.1.drew.alloc _) ⟨wr.heap.size, 0, none⟩ 2 2 [.int .u8 ((dg (c.toNat / 16)).toNat : Int), .int .u8 ((dg (c.toNat % 16)).toNat : Int)] rfl rfl (cells_new _ _ _) (by intro u hu; simp at hu; rcases hu with rfl | rfl <;> rfl) (by unfold maxLen; omega) (by omega) (by have := J.out.2.size; simp; omega) ?_; intro v1 w1 hown1 hgrow1 hnil1))
      all_goals
        go_wp2
        go_roundw
        case rel =>
          refine ⟨k + 1, by omega, by go_num, ?_, ?_⟩
          · rw [HX.out]; unfold bcells; rw [List.map_append, show 2 * (k + 1) = 2 * k + 2 by omega]; exact hown1
          · exact (J.out.2.drew.alloc J.out.2.size _).grown hgrow1 (by have := J.out.2.size; simp; omega) (fun j hj => (J.out.1.lt j hj).1)
        case measure => simp [intOf]; omega
    · have hkn : k = s.size := by omega
      subst hkn
      obtain ⟨hlen, hor⟩ := owns_bytes J.out.1
      rw [List.take_of_length_le (by rw [hl.out]; exact Nat.le_refl _)] at hlen
      rcases hor with ⟨rfl, h0⟩ | ⟨g, cap, rfl, hcell⟩
      · have FIN : Hid (hxs s.data.toList = []) := List.length_eq_zero_iff.1 (by omega)
        have CV : (convert 29 9 (.slice none 0 0)).run Tryd.prog wr = .ok (.string ⟨#[]⟩) wr := by kernel_rfl
        go_wp2
        go_ret
        exact ⟨by rw [FIN.out]; rfl, J.out.2⟩
      · rw [List.take_of_length_le (by rw [hl.out]; exact Nat.le_refl _)] at hcell
        have CV : (convert 29 9 (.slice (some ⟨g, 0, none⟩) (2 * s.size) cap)).run Tryd.prog wr = .ok (.string ⟨(hxs s.data.toList).toArray⟩) wr := by
          have := run_convert_bytes_back (P := Tryd.prog) wr 29 9 5 ⟨g, 0, none⟩ cap (hxs s.data.toList) Tryd.underlying29 Tryd.underlying5 Tryd.underlying9 (fun j hj => by
            have q : Addr.add ⟨g, 0, none⟩ j = ⟨g, j, none⟩ := by simp [Addr.add]; intro h; exact h.symm
            rw [q]; exact hcell j hj)
          rw [hlen] at this; exact this
        clear hcell
        go_wp2
        go_ret
        exact ⟨rfl, J.out.2⟩
end Go.Proofs.YtdebfelgaiofeadDoor
