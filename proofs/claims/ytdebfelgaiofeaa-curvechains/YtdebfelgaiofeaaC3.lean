/- What Clamp, element and whole of package curve do. -/
import Derived.Test.YtdebfelgaiofeaaC1
import Derived.Test.YtdebfelgaiofeaaCB
import Derived.Test.YtdebfelgaiofeaaME
namespace Go.Proofs.Ytdebfelgaiofeaa
open Go.RowKit Go.Proofs.Fd Go.Proofs.Ed

theorem and127 (x : UInt8) : bits .and .u8 (x.toNat : Int) 127 = ((UInt8.ofNat (x.toNat % 128)).toNat : Int) := by
  have h := x.toNat_lt
  have := bits_mask .u8 8 (by decide) wraps_u8 7 (by decide) (x.toNat : Int) (by omega) (by omega)
  rw [show (2 : Int) ^ 7 - 1 = 127 by decide, show (2 : Int) ^ 7 = 128 by decide] at this
  rw [this, UInt8.toNat_ofNat']
  omega

theorem enc_of {l : List UInt8} (h : l.length = 32) : (⟨l.toArray⟩ : ByteArray) = enc (num l) := by
  have := enc_num (s := ⟨l.toArray⟩) (by show l.toArray.size = 32; simpa using h)
  exact this.symm

theorem elem_val (n : Nat) : enc (n % 2 ^ 255 % p) = ek (ptN n) := rfl

set_option maxHeartbeats 400000 in
theorem celement_any (s : ByteArray) (hs : s.size = 32) (w : World) :
    Calls Try.prog 24 #[.string s] w fun e w' => e = .returned (.string (ek (ptN (num s.data.toList)))) ∧ Below w.heap.size w w' := by
  obtain ⟨cap, W, hcv, hB, hb, hcap⟩ := bytes_of s w
  rw [hs] at hcv hcap
  have hl : s.data.toList.length = 32 := by simpa using hs
  have BW : Hid (BytesAt W w.heap.size s.data.toList ∧ Below w.heap.size w W) := ⟨hB, hb⟩
  have CV : Hid ((convert 34 9 (.slice (some ⟨w.heap.size, 0, none⟩) 32 cap)).run Try.prog (W.setCell ⟨w.heap.size, 31, none⟩ (.int .u8 (bits .and .u8 (s.data.toList[31].toNat : Int) 127))) = .ok (.string (enc (num s.data.toList % 2 ^ 255))) (W.setCell ⟨w.heap.size, 31, none⟩ (.int .u8 (bits .and .u8 (s.data.toList[31].toNat : Int) 127)))) := by
    have h := (hB.set 31 _ _ (and127 s.data.toList[31])).string (cap := cap) (n := 32) (by simpa using hl)
    rw [enc_of (by simpa using hl), num_top _ hl _ (by rw [UInt8.toNat_ofNat']; omega)] at h
    exact h
  obtain ⟨c31, f31⟩ := hB 31 (by omega)
  have RD : Hid (∀ w, Calls Try.prog 39 #[.string (enc (num s.data.toList % 2 ^ 255))] w fun e w' => e = .returned (.tuple #[.string (ek (ptN (num s.data.toList))), .int .i64 0]) ∧ Below w.heap.size w w') := fun w => by
    have h := Reduce_ok (enc (num s.data.toList % 2 ^ 255)) (by rw [enc_size]; omega) w
    rw [num_enc (Nat.lt_trans (Nat.mod_lt _ (by decide)) (by decide : 2 ^ 255 < W256)), elem_val] at h
    exact h
  generalize ek (ptN (num s.data.toList)) = r at *
  generalize enc (num s.data.toList % 2 ^ 255) = m at *
  generalize s.data.toList[31] = x at *
  clear hB hb hl
  have CV' := CV.out
  go_enter Try.func24, Try.ntmps24
  go_wp2_with fail
  refine Calls.mono (RD.out _) ?_
  rintro e w1 ⟨rfl, hb⟩
  have B1 : Hid (Below w.heap.size w w1) := chain (BW.out.2.setCell (p := ⟨w.heap.size, 31, none⟩) (Nat.le_refl _) _) hb
  clear hb
  go_wp2
  go_ret
  exact ⟨rfl, B1.out⟩

end Go.Proofs.Ytdebfelgaiofeaa
