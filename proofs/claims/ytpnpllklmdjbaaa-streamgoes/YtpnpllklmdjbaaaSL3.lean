/- StreamGoes answers true. -/
import Derived.Test.YtpnpllklmdjbaaaSL2
namespace Go.Proofs.Cc
theorem strm_blocks (k n : List UInt8) (c : UInt32) (i : Nat) : strm k n c (64 * i) = blks k n c i := by
  rw [← strm_of k n c (64 * i) i (Nat.le_refl _), List.take_of_length_le (by rw [blks_len]; exact Nat.le_refl _)]
theorem blks_drop (k n : List UInt8) (c : UInt32) (i j : Nat) : (blks k n c (i + j)).drop (64 * i) = blks k n (c + UInt32.ofNat i) j := by
  rw [blks_add, List.drop_append_of_le_length (by rw [blks_len]; exact Nat.le_refl _), List.drop_of_length_le (by rw [blks_len]; exact Nat.le_refl _), List.nil_append]
theorem blks_1 (k n : List UInt8) (c : UInt32) : blks k n c 1 = blk k n c := by
  have h := blks_succ k n c 0
  have e : c + UInt32.ofNat 0 = c := by simp
  have z : blks k n c 0 = [] := rfl
  rw [e, z, List.nil_append] at h
  exact h
theorem blks_one (k n : List UInt8) (c : UInt32) (j : Nat) : (blks k n c (1 + j)).take 64 = blk k n c := by
  rw [blks_add, blks_1, List.take_append_of_le_length (by rw [blk_len]; exact Nat.le_refl _), List.take_of_length_le (by rw [blk_len]; exact Nat.le_refl _)]
end Go.Proofs.Cc
namespace Go.Proofs.Ytpnpllklmdjbaaa
open Go.RowKit Go.Proofs.Fd Go.Proofs.Hs Go.Proofs.Cc

theorem ba_drop (l : List UInt8) (r : Nat) : (⟨l.toArray⟩ : ByteArray).extract r (⟨l.toArray⟩ : ByteArray).size = ⟨(l.drop r).toArray⟩ := by
  apply ByteArray.ext
  rw [ByteArray.data_extract, ba_len]
  apply Array.ext'
  rw [Array.toList_extract, List.extract_eq_take_drop]
  show ((l.drop r).take (l.length - r)) = l.drop r
  rw [List.take_of_length_le (by rw [List.length_drop]; exact Nat.le_refl _)]
theorem ba_take (l : List UInt8) (r : Nat) : (⟨l.toArray⟩ : ByteArray).extract 0 r = ⟨(l.take r).toArray⟩ := by
  apply ByteArray.ext
  rw [ByteArray.data_extract]
  apply Array.ext'
  rw [Array.toList_extract, List.extract_eq_take_drop]
  simp

set_option maxHeartbeats 1000000 in
theorem StreamGoes_walk (k n : ByteArray) (c b : Int) (w : World) :
    Calls Try.prog 7 #[.agg #[.string k, .string n], .int .i64 c, .int .i64 b] w fun e w' => e = .returned (.bool true) ∧ Below w.heap.size w w' := by
  have WK : Hid (∀ w, Calls Try.prog 11 #[] w fun e w' => e = .returned (.bool true) ∧ Below w.heap.size w w') := works5_any
  have F1 : Hid (∀ w, Calls Try.prog 16 #[.string k, .int .i64 32] w fun e w' => e = .returned (.string (fitb k 32)) ∧ Below w.heap.size w w') := fun w => sfit_any k 32 (by decide) w
  have F2 : Hid (∀ w, Calls Try.prog 16 #[.string n, .int .i64 12] w fun e w' => e = .returned (.string (fitb n 12)) ∧ Below w.heap.size w w') := fun w => sfit_any n 12 (by decide) w
  have hk := fitb_size k 32
  have hn := fitb_size n 12
  generalize fitb k 32 = K at *
  generalize fitb n 12 = N at *
  obtain ⟨C, hC⟩ : ∃ C, UInt32.ofNat (c % 2147483648).toNat = C := ⟨_, rfl⟩
  have C1 : c % 2147483648 = tv C := by rw [← hC, tv_of _ (by omega) (by omega)]
  have C31 : Hid (tv C < 2147483648) := by show _ < _; rw [← C1]; omega
  have CL : Hid (C.toNat < 2147483648) := by have := C31.out; unfold tv at this; show _ < _; omega
  obtain ⟨m, hm⟩ : ∃ m : Nat, (IntKind.u64.wrap b).tmod 8 = (m : Int) := ⟨((IntKind.u64.wrap b).tmod 8).toNat, by rw [IntKind.wrap_u64, Int.tmod_eq_emod_of_nonneg (by omega)]; omega⟩
  have m8 : m < 8 := by
    rw [IntKind.wrap_u64, Int.tmod_eq_emod_of_nonneg (by omega)] at hm
    omega
  obtain ⟨D, hD⟩ : ∃ D, C + UInt32.ofNat m = D := ⟨_, rfl⟩
  have D1 : tv C + (m : Int) = tv D := by
    rw [← hD]
    unfold tv
    rw [UInt32.toNat_add, UInt32.toNat_ofNat']
    have := CL.out
    omega
  have D2 : IntKind.i64.wrap (tv C + (m : Int)) = tv D := by rw [D1]; have := tv_nn D; have := tv_lt D; rw [IntKind.wrap_i64]; omega
  have D3 : IntKind.i64.wrap (tv D) = tv D := by have := tv_nn D; have := tv_lt D; rw [IntKind.wrap_i64]; omega
  obtain ⟨r, hr⟩ : ∃ r, 64 * m = r := ⟨_, rfl⟩
  have R1 : 64 * (m : Int) = (r : Int) := by omega
  have R2 : IntKind.i64.wrap (64 * (m : Int)) = (r : Int) := by rw [IntKind.wrap_i64]; omega
  have R3 : IntKind.i64.wrap (r : Int) = (r : Int) := by rw [IntKind.wrap_i64]; omega
  have R4 : (r : Int) ≤ 512 := by omega
  obtain ⟨Z, hZ⟩ : ∃ Z : ByteArray, ⟨(List.replicate 512 (0 : UInt8)).toArray⟩ = Z := ⟨_, rfl⟩
  have sZ : Z.size = 512 := by rw [← hZ, ba_len, List.length_replicate]
  obtain ⟨Y, hY⟩ : ∃ Y : ByteArray, ⟨(strm K.data.toList N.data.toList C 512).toArray⟩ = Y := ⟨_, rfl⟩
  have sY : Y.size = 512 := by rw [← hY, ba_len, strm_len]
  obtain ⟨Q, hQ⟩ : ∃ Q : ByteArray, ⟨(strm K.data.toList N.data.toList D (512 - r)).toArray⟩ = Q := ⟨_, rfl⟩
  have sQ : Q.size = 512 - r := by rw [← hQ, ba_len, strm_len]
  obtain ⟨O, hO⟩ : ∃ O : ByteArray, ⟨(blk K.data.toList N.data.toList D).toArray⟩ = O := ⟨_, rfl⟩
  have X1 : Hid (∀ w, Calls Try.prog 12 #[.string K, .string N, .int .i64 (tv C), .string Z] w fun e w' => e = .returned (.tuple #[.string Y, .int .i64 0]) ∧ Below w.heap.size w w') := fun w => by
    have h := sXor_ok K N C Z hk hn (by omega) w
    have e : xorl Z.data.toList (strm K.data.toList N.data.toList C Z.size) = strm K.data.toList N.data.toList C 512 := by
      rw [sZ, ← hZ]
      have := xorl_zeros (strm K.data.toList N.data.toList C 512)
      rw [strm_len] at this
      exact this
    rw [e, hY] at h
    exact h
  have X2 : Hid (∀ w, Calls Try.prog 12 #[.string K, .string N, .int .i64 (tv D), .string (Z.extract r Z.size)] w fun e w' => e = .returned (.tuple #[.string Q, .int .i64 0]) ∧ Below w.heap.size w w') := fun w => by
    have hE : Z.extract r Z.size = ⟨(List.replicate (512 - r) (0 : UInt8)).toArray⟩ := by
      rw [← hZ, ba_drop, List.drop_replicate]
    rw [hE]
    have h := sXor_ok K N D ⟨(List.replicate (512 - r) (0 : UInt8)).toArray⟩ hk hn (by rw [ba_len, List.length_replicate]; omega) w
    have e : xorl (List.replicate (512 - r) (0 : UInt8)) (strm K.data.toList N.data.toList D (⟨(List.replicate (512 - r) (0 : UInt8)).toArray⟩ : ByteArray).size) = strm K.data.toList N.data.toList D (512 - r) := by
      rw [ba_len, List.length_replicate]
      have := xorl_zeros (strm K.data.toList N.data.toList D (512 - r))
      rw [strm_len] at this
      exact this
    rw [show (⟨(List.replicate (512 - r) (0 : UInt8)).toArray⟩ : ByteArray).data.toList = List.replicate (512 - r) (0 : UInt8) from rfl, e, hQ] at h
    exact h
  have X3 : Hid (∀ w, Calls Try.prog 9 #[.string K, .string N, .int .i64 (tv D)] w fun e w' => e = .returned (.tuple #[.string O, .int .i64 0]) ∧ Below w.heap.size w w') := fun w => by
    rw [← hO]; exact sBlock_ok K N D hk hn w
  have E1 : Y.extract r Y.size = Q := by
    rw [← hY, ba_drop, ← hQ, ← hr, show (512 : Nat) = 64 * 8 from rfl, strm_blocks, show 64 * 8 - 64 * m = 64 * (8 - m) by omega, strm_blocks]
    have := blks_drop K.data.toList N.data.toList C m (8 - m)
    rw [show m + (8 - m) = 8 by omega, hD] at this
    rw [this]
  have E2 : Q.extract 0 64 = O := by
    rw [← hQ, ba_take, ← hO, ← hr, show 512 - 64 * m = 64 * (1 + (7 - m)) by omega, strm_blocks, blks_one]
  have q64 : (64 : Int) ≤ (Q.size : Int) := by rw [sQ]; omega
  have y64 : (r : Int) ≤ (Y.size : Int) := by rw [sY]; omega
  have z64 : (r : Int) ≤ (Z.size : Int) := by rw [sZ]; omega
  have HD : Hid (C + UInt32.ofNat m = D ∧ 64 * m = r ∧ ⟨(List.replicate 512 (0 : UInt8)).toArray⟩ = Z ∧ Z.size = 512 ∧ Y.size = 512 ∧ Q.size = 512 - r) := ⟨hD, hr, hZ, sZ, sY, sQ⟩
  clear hD hr hZ hY hQ hO hC sZ sY sQ hk hn
  go_enter Try.func7, Try.ntmps7
  go_wp2_with fail
  refine Calls.mono (WK.out _) ?_
  rintro e w1 ⟨rfl, hb⟩
  have B1 : Hid (Below w.heap.size w w1) := chain ((Below.refl _ _).alloc (Nat.le_refl _) _) hb
  have CC : Hid (w1.cell? ⟨w.heap.size, 0, none⟩ = some (.string k) ∧ w1.cell? ⟨w.heap.size, 1, none⟩ = some (.string n)) := ⟨cell_later hb (by simp [go_sem]), cell_later hb (by simp [go_sem])⟩
  have KP : Hid (∀ w', Below w1.heap.size w1 w' → Below w1.heap.size w1 w' ∧ w'.cell? ⟨w.heap.size, 0, none⟩ = some (.string k) ∧ w'.cell? ⟨w.heap.size, 1, none⟩ = some (.string n)) := fun w' h => ⟨h, cell_later h CC.out.1, cell_later h CC.out.2⟩
  clear hb CC WK
  go_wp2
  go_region_held3 (fun w' => Below w1.heap.size w1 w' ∧ w'.cell? ⟨w.heap.size, 0, none⟩ = some (.string k) ∧ w'.cell? ⟨w.heap.size, 1, none⟩ = some (.string n)) (first | exact KP.out _ (Below.refl _ _).drew | exact KP.out _ (chain (And.left (by assumption)) hb2) | exact KP.out _ (chain (And.left (by assumption)) hb3) | assumption) (first | (go_at_call 16; revert F1; intro F1; refine Calls.mono (F1.out _) ?_; rintro e w2 ⟨rfl, hb2⟩; clear F1) | (go_at_call 16; revert F2; intro F2; refine Calls.mono (F2.out _) ?_; rintro e w3 ⟨rfl, hb3⟩; clear F2))
  rename_i hHeld
  have B3 : Hid (Below w.heap.size w w3) := chain B1.out hHeld.1
  clear hHeld hb2 hb3 B1 KP
  obtain ⟨A, CA, BA, bA, sA⟩ := make_n 512 (by decide) w3
  have CV := BA.string (cap := 512) (n := 512) List.length_replicate
  rw [HD.out.2.2.1] at CV
  rw [show ((512 : Nat) : Int) = 512 from rfl] at CA
  have BB : Hid (Below w.heap.size w A) := chain B3.out bA
  clear BA bA sA
  go_wp2_with fail
  refine Calls.mono (X1.out _) ?_
  rintro e w4 ⟨rfl, hb⟩
  have B4 : Hid (Below w.heap.size w w4) := chain BB.out hb
  clear hb BB X1 CV CA
  go_wp2_with fail
  refine Calls.mono (X2.out _) ?_
  rintro e w5 ⟨rfl, hb⟩
  have B5 : Hid (Below w.heap.size w w5) := chain B4.out hb
  clear hb B4 X2
  go_wp2_with fail
  refine Calls.mono (X3.out _) ?_
  rintro e w6 ⟨rfl, hb⟩
  have B6 : Hid (Below w.heap.size w w6) := chain B5.out hb
  clear hb B5 X3
  go_wp2
  go_ret
  exact ⟨rfl, B6.out⟩
end Go.Proofs.Ytpnpllklmdjbaaa
