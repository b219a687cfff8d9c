/- The document's clamping. -/
import Derived.Test.YtdebfelgaiofeaaC4
namespace Go.Proofs.Ytdebfelgaiofeaa
open Go.RowKit Go.Proofs.Fd Go.Proofs.Ed

set_option maxHeartbeats 400000 in
theorem rClamped_any (s : ByteArray) (hs : s.size = 32) (w : World) :
    Calls Try.prog 28 #[.string s] w fun e w' => e = .returned (.string (enc (clampN (num s.data.toList)))) ∧ Below w.heap.size w w' := by
  obtain ⟨cap, W, hcv, hB, hb, hcap⟩ := bytes_of s w
  rw [hs] at hcv hcap
  have hl : s.data.toList.length = 32 := by simpa using hs
  have BW : Hid (Below w.heap.size w W) := hb
  obtain ⟨c0, f0⟩ := hB 0 (by omega)
  obtain ⟨c31, f31⟩ := hB 31 (by omega)
  have CV : Hid ((convert 34 9 (.slice (some ⟨w.heap.size, 0, none⟩) 32 cap)).run Try.prog ((W.setCell ⟨w.heap.size, 0, none⟩ (.int .u8 ((s.data.toList[0].toNat : Int) / 8 % 256 * 8 % 256))).setCell ⟨w.heap.size, 31, none⟩ (.int .u8 ((s.data.toList[31].toNat : Int) % 64 + 64)))
      = .ok (.string (enc (clampN (num s.data.toList)))) ((W.setCell ⟨w.heap.size, 0, none⟩ (.int .u8 ((s.data.toList[0].toNat : Int) / 8 % 256 * 8 % 256))).setCell ⟨w.heap.size, 31, none⟩ (.int .u8 ((s.data.toList[31].toNat : Int) % 64 + 64)))) := by
    have h0 := s.data.toList[0].toNat_lt
    have h31 := s.data.toList[31].toNat_lt
    have h := ((hB.set 0 (UInt8.ofNat (s.data.toList[0].toNat / 8 * 8)) ((s.data.toList[0].toNat : Int) / 8 % 256 * 8 % 256) (by rw [UInt8.toNat_ofNat']; omega)).set 31 (UInt8.ofNat (s.data.toList[31].toNat % 64 + 64)) ((s.data.toList[31].toNat : Int) % 64 + 64) (by rw [UInt8.toNat_ofNat']; omega)).string (cap := cap) (n := 32) (by simpa using hl)
    rw [enc_of (by simpa using hl), num_clamp _ hl _ _ (by rw [UInt8.toNat_ofNat']; omega) (by rw [UInt8.toNat_ofNat']; omega)] at h
    exact h
  generalize enc (clampN (num s.data.toList)) = m at *
  generalize s.data.toList[31] = x at *
  generalize s.data.toList[0] = y at *
  clear hB hb hl
  have CV' := CV.out
  go_enter Try.func28, Try.ntmps28
  go_wp2
  go_ret
  exact ⟨rfl, (BW.out.setCell (p := ⟨w.heap.size, 0, none⟩) (Nat.le_refl _) _).setCell (p := ⟨w.heap.size, 31, none⟩) (Nat.le_refl _) _⟩

set_option maxHeartbeats 400000 in
theorem rClamp_ok (s : ByteArray) (hs : s.size = 32) (w : World) :
    Calls Try.prog 12 #[.string s] w fun e w' => e = .returned (.tuple #[.string (enc (clampN (num s.data.toList))), .int .i64 0]) ∧ Below w.heap.size w w' := by
  have hz : ((s.size : Int) != 32) = false := by simp [hs]
  have C : Hid (∀ w, Calls Try.prog 28 #[.string s] w fun e w' => e = .returned (.string (enc (clampN (num s.data.toList)))) ∧ Below w.heap.size w w') := rClamped_any s hs
  clear hs
  go_enter Try.func12, Try.ntmps12
  go_wp2_with fail
  refine Calls.mono (C.out _) ?_
  rintro e w1 ⟨rfl, hb⟩
  have B1 : Hid (Below w.heap.size w w1) := hb
  clear hb
  go_wp2
  go_ret2
  exact ⟨rfl, B1.out⟩

set_option maxHeartbeats 400000 in
theorem rClamp_no (s : ByteArray) (hs : ¬ s.size = 32) (w : World) :
    Calls Try.prog 12 #[.string s] w fun e w' => e = .returned (.tuple #[.string ⟨#[]⟩, .int .i64 3]) ∧ Below w.heap.size w w' := by
  have hz : ((s.size : Int) != 32) = true := by simp; omega
  clear hs
  go_enter Try.func12, Try.ntmps12
  go_wp2
  go_ret2
  exact ⟨rfl, Below.refl _ _⟩
end Go.Proofs.Ytdebfelgaiofeaa
