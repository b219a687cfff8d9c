/- The chapter's example holds; bytes made so long. -/
import Derived.Test.YtpnpllklmdjbaaaST7
import Derived.Test.YtpnpllklmdjbaaaK7
import Derived.Laws.IdiomStrings
namespace Go.Proofs.Ytpnpllklmdjbaaa
open Go.RowKit Go.Proofs.Fd Go.Proofs.Hs Go.Proofs.Cc

theorem ex_stream : hxs (blk [0, 1, 2, 3, 4, 5, 6, 7, 8, 9, 10, 11, 12, 13, 14, 15, 16, 17, 18, 19, 20, 21, 22, 23, 24, 25, 26, 27, 28, 29, 30, 31] [0, 0, 0, 9, 0, 0, 0, 74, 0, 0, 0, 0] 1) = (49 :: 48 :: 102 :: 49 :: 101 :: 55 :: 101 :: 52 :: 100 :: 49 :: 51 :: 98 :: 53 :: 57 :: 49 :: 53 :: 53 :: 48 :: 48 :: 102 :: 100 :: 100 :: 49 :: 102 :: 97 :: 51 :: 50 :: 48 :: 55 :: 49 :: 99 :: 52 :: 99 :: 55 :: 100 :: 49 :: 102 :: 52 :: 99 :: 55 :: 51 :: 51 :: 99 :: 48 :: 54 :: 56 :: 48 :: 51 :: 48 :: 52 :: 50 :: 50 :: 97 :: 97 :: 57 :: 97 :: 99 :: 51 :: 100 :: 52 :: 54 :: 99 :: 52 :: 101 :: 100 :: 50 :: 56 :: 50 :: 54 :: 52 :: 52 :: 54 :: 48 :: 55 :: 57 :: 102 :: 97 :: 97 :: 48 :: 57 :: 49 :: 52 :: 99 :: 50 :: 100 :: 55 :: 48 :: 53 :: 100 :: 57 :: 56 :: 98 :: 48 :: 50 :: 97 :: 50 :: 98 :: 53 :: 49 :: 50 :: 57 :: 99 :: 100 :: 49 :: 100 :: 101 :: 49 :: 54 :: 52 :: 101 :: 98 :: 57 :: 99 :: 98 :: 100 :: 48 :: 56 :: 51 :: 101 :: 56 :: 97 :: 50 :: 53 :: 48 :: 51 :: 99 :: 52 :: 101 :: [] : List UInt8) := by decide +kernel
/-- The bytes 0, 1, and so on. -/
def upto (q : Nat) : List UInt8 := (List.range q).map fun i => UInt8.ofNat i
theorem upto_succ (q : Nat) : upto (q + 1) = upto q ++ [UInt8.ofNat q] := by simp [upto, List.range_succ]
theorem upto_len (q : Nat) : (upto q).length = q := by simp [upto]
theorem ba_app (a b : List UInt8) : (⟨a.toArray⟩ : ByteArray) ++ ⟨b.toArray⟩ = ⟨(a ++ b).toArray⟩ := by
  apply ByteArray.ext
  simp

set_option maxHeartbeats 1000000 in
theorem works5_any (w : World) :
    Calls Try.prog 11 #[] w fun e w' => e = .returned (.bool true) ∧ Below w.heap.size w w' := by
  have S1 : Hid (∀ (w : World), Calls Try.prog 9 #[.string ⟨(upto 32).toArray⟩, .string ⟨#[0, 0, 0, 9, 0, 0, 0, 74, 0, 0, 0, 0]⟩, .int .i64 1] w fun e w' => e = .returned (.tuple #[.string ⟨(blk [0, 1, 2, 3, 4, 5, 6, 7, 8, 9, 10, 11, 12, 13, 14, 15, 16, 17, 18, 19, 20, 21, 22, 23, 24, 25, 26, 27, 28, 29, 30, 31] [0, 0, 0, 9, 0, 0, 0, 74, 0, 0, 0, 0] 1).toArray⟩, .int .i64 0]) ∧ Below w.heap.size w w') := fun w => sBlock_ok ⟨(upto 32).toArray⟩ ⟨#[0, 0, 0, 9, 0, 0, 0, 74, 0, 0, 0, 0]⟩ 1 (by show (upto 32).toArray.size = 32; simp [upto_len]) (by show (12 : Nat) = 12; rfl) w
  have H1 : Hid (∀ w, Calls Try.prog 22 #[.string ⟨(blk [0, 1, 2, 3, 4, 5, 6, 7, 8, 9, 10, 11, 12, 13, 14, 15, 16, 17, 18, 19, 20, 21, 22, 23, 24, 25, 26, 27, 28, 29, 30, 31] [0, 0, 0, 9, 0, 0, 0, 74, 0, 0, 0, 0] 1).toArray⟩] w fun e w' => e = .returned (.string ⟨(49 :: 48 :: 102 :: 49 :: 101 :: 55 :: 101 :: 52 :: 100 :: 49 :: 51 :: 98 :: 53 :: 57 :: 49 :: 53 :: 53 :: 48 :: 48 :: 102 :: 100 :: 100 :: 49 :: 102 :: 97 :: 51 :: 50 :: 48 :: 55 :: 49 :: 99 :: 52 :: 99 :: 55 :: 100 :: 49 :: 102 :: 52 :: 99 :: 55 :: 51 :: 51 :: 99 :: 48 :: 54 :: 56 :: 48 :: 51 :: 48 :: 52 :: 50 :: 50 :: 97 :: 97 :: 57 :: 97 :: 99 :: 51 :: 100 :: 52 :: 54 :: 99 :: 52 :: 101 :: 100 :: 50 :: 56 :: 50 :: 54 :: 52 :: 52 :: 54 :: 48 :: 55 :: 57 :: 102 :: 97 :: 97 :: 48 :: 57 :: 49 :: 52 :: 99 :: 50 :: 100 :: 55 :: 48 :: 53 :: 100 :: 57 :: 56 :: 98 :: 48 :: 50 :: 97 :: 50 :: 98 :: 53 :: 49 :: 50 :: 57 :: 99 :: 100 :: 49 :: 100 :: 101 :: 49 :: 54 :: 52 :: 101 :: 98 :: 57 :: 99 :: 98 :: 100 :: 48 :: 56 :: 51 :: 101 :: 56 :: 97 :: 50 :: 53 :: 48 :: 51 :: 99 :: 52 :: 101 :: [] : List UInt8).toArray⟩) ∧ Below w.heap.size w w') := fun w => by
    have h := Hex_any ⟨(blk [0, 1, 2, 3, 4, 5, 6, 7, 8, 9, 10, 11, 12, 13, 14, 15, 16, 17, 18, 19, 20, 21, 22, 23, 24, 25, 26, 27, 28, 29, 30, 31] [0, 0, 0, 9, 0, 0, 0, 74, 0, 0, 0, 0] 1).toArray⟩ (by show 2 * (blk [0, 1, 2, 3, 4, 5, 6, 7, 8, 9, 10, 11, 12, 13, 14, 15, 16, 17, 18, 19, 20, 21, 22, 23, 24, 25, 26, 27, 28, 29, 30, 31] [0, 0, 0, 9, 0, 0, 0, 74, 0, 0, 0, 0] 1).toArray.size ≤ _; simp [blk_len]) w
    rw [show (⟨(blk [0, 1, 2, 3, 4, 5, 6, 7, 8, 9, 10, 11, 12, 13, 14, 15, 16, 17, 18, 19, 20, 21, 22, 23, 24, 25, 26, 27, 28, 29, 30, 31] [0, 0, 0, 9, 0, 0, 0, 74, 0, 0, 0, 0] 1).toArray⟩ : ByteArray).data.toList = blk [0, 1, 2, 3, 4, 5, 6, 7, 8, 9, 10, 11, 12, 13, 14, 15, 16, 17, 18, 19, 20, 21, 22, 23, 24, 25, 26, 27, 28, 29, 30, 31] [0, 0, 0, 9, 0, 0, 0, 74, 0, 0, 0, 0] 1 from rfl, ex_stream] at h
    exact h
  generalize (⟨(blk [0, 1, 2, 3, 4, 5, 6, 7, 8, 9, 10, 11, 12, 13, 14, 15, 16, 17, 18, 19, 20, 21, 22, 23, 24, 25, 26, 27, 28, 29, 30, 31] [0, 0, 0, 9, 0, 0, 0, 74, 0, 0, 0, 0] 1).toArray⟩ : ByteArray) = X1 at *
  go_enter Try.func11, Try.ntmps11
  go_wp2
  go_loopw [1, 5] (fun key i wr => ∃ q : Nat, q ≤ 32 ∧ i = .int .i64 (q : Int) ∧ key = .string ⟨(upto q).toArray⟩ ∧ Hid (Below w.heap.size w wr)) (fun _ i _ => 32 - (intOf i).toNat)
  case atStart => exact ⟨0, by omega, rfl, rfl, Below.refl _ _⟩
  case round =>
    obtain ⟨q, hq, rfl, rfl, I⟩ := hrel
    by_cases hq32 : q = 32
    · subst hq32
      rw [show ((32 : Nat) : Int) = 32 from rfl]
      go_wp2_with fail
      refine Calls.mono (S1.out _) ?_
      rintro e w1 ⟨rfl, hb⟩
      have B1 : Hid (Below w.heap.size w w1) := chain I.out hb
      clear hb I S1
      go_wp2_with fail
      refine Calls.mono (H1.out _) ?_
      rintro e w2 ⟨rfl, hb⟩
      have B2 : Hid (Below w.heap.size w w2) := chain B1.out hb
      clear hb B1 H1
      go_wp2
      go_ret
      exact ⟨rfl, B2.out⟩
    · have q32 : (q : Int) < 32 := by omega
      obtain ⟨A, hA⟩ : ∃ A, wr.alloc (.cells #[.int .u8 (q : Int)] 5) = A := ⟨_, rfl⟩
      have IA : BytesAt A wr.heap.size [UInt8.ofNat q] := fun j hj => by
        obtain rfl : j = 0 := by simpa using hj
        rw [← hA]
        refine ⟨?_, by simp [go_sem]⟩
        have e : ((UInt8.ofNat q).toNat : Int) = (q : Int) := by rw [UInt8.toNat_ofNat']; omega
        simp only [List.getElem_cons_zero, e]
        simp [go_sem]
      have CV := IA.string (cap := 1) (n := 1) rfl
      have BA : Hid (Below w.heap.size w A) := by rw [← hA]; exact I.out.alloc I.out.size _
      have AP : Hid (_ = _) := ba_app (upto q) [UInt8.ofNat q]
      rw [← upto_succ] at AP
      have LP : (⟨(upto q).toArray⟩ : ByteArray).size = q := by show (upto q).toArray.size = q; simp [upto_len]
      obtain ⟨Y, hY⟩ : ∃ Y : ByteArray, ⟨([UInt8.ofNat q] : List UInt8).toArray⟩ = Y := ⟨_, rfl⟩
      have LY : Y.size = 1 := by rw [← hY]; rfl
      rw [hY] at CV AP
      generalize (⟨(upto q).toArray⟩ : ByteArray) = X at *
      clear IA hY
      go_wp2
      go_roundw
      case rel => exact ⟨q + 1, by omega, by go_num, by rw [AP.out], BA.out⟩
      case measure => simp [intOf]; omega
end Go.Proofs.Ytpnpllklmdjbaaa
