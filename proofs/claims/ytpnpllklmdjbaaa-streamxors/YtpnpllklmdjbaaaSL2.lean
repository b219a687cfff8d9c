/- StreamTwice answers true. -/
import Derived.Test.YtpnpllklmdjbaaaSL1
namespace Go.Proofs.Ytpnpllklmdjbaaa
open Go.RowKit Go.Proofs.Fd Go.Proofs.Hs Go.Proofs.Cc

theorem tv_count (c : Int) : tv (UInt32.ofNat (c % 4294967296).toNat) = c % 4294967296 := tv_of _ (by omega) (by omega)
theorem ba_len (l : List UInt8) : (⟨l.toArray⟩ : ByteArray).size = l.length := by show l.toArray.size = _; simp
theorem ba_list (s : ByteArray) : (⟨s.data.toList.toArray⟩ : ByteArray) = s := by cases s; simp

set_option maxHeartbeats 1000000 in
theorem StreamTwice_walk (k n : ByteArray) (c : Int) (t : ByteArray) (ht : t.size ≤ 9223372036854775807) (w : World) :
    Calls Try.prog 6 #[.agg #[.string k, .string n], .int .i64 c, .string t] w fun e w' => e = .returned (.bool true) ∧ Below w.heap.size w w' := by
  by_cases hl : 65536 < t.size
  · have hl' : (65536 : Int) < (t.size : Int) := by omega
    have WK : Hid (∀ w, Calls Try.prog 11 #[] w fun e w' => e = .returned (.bool true) ∧ Below w.heap.size w w') := works5_any
    go_enter Try.func6, Try.ntmps6
    go_wp2_with fail
    refine Calls.mono (WK.out _) ?_
    rintro e w1 ⟨rfl, hb⟩
    have B1 : Hid (Below w.heap.size w w1) := chain ((Below.refl _ _).alloc (Nat.le_refl _) _) hb
    clear hb
    go_wp2
    go_ret
    exact ⟨rfl, B1.out⟩
  · have hl' : (t.size : Int) ≤ 65536 := by omega
    have WK : Hid (∀ w, Calls Try.prog 11 #[] w fun e w' => e = .returned (.bool true) ∧ Below w.heap.size w w') := works5_any
    obtain ⟨C, hC⟩ : ∃ C, UInt32.ofNat (c % 4294967296).toNat = C := ⟨_, rfl⟩
    have C1 : c % 4294967296 = tv C := by rw [← hC, tv_count]
    have C2 : IntKind.u32.wrap c = tv C := by rw [IntKind.wrap_u32]; exact C1
    have C3 : IntKind.i64.wrap (tv C) = tv C := by have := tv_nn C; have := tv_lt C; rw [IntKind.wrap_i64]; omega
    have F1 : Hid (∀ w, Calls Try.prog 16 #[.string k, .int .i64 32] w fun e w' => e = .returned (.string (fitb k 32)) ∧ Below w.heap.size w w') := fun w => sfit_any k 32 (by decide) w
    have F2 : Hid (∀ w, Calls Try.prog 16 #[.string n, .int .i64 12] w fun e w' => e = .returned (.string (fitb n 12)) ∧ Below w.heap.size w w') := fun w => sfit_any n 12 (by decide) w
    have hk := fitb_size k 32
    have hn := fitb_size n 12
    generalize fitb k 32 = K at *
    generalize fitb n 12 = N at *
    obtain ⟨A, hA⟩ : ∃ A : ByteArray, ⟨(xorl t.data.toList (strm K.data.toList N.data.toList C t.size)).toArray⟩ = A := ⟨_, rfl⟩
    have hls : t.data.toList.length = t.size := by simp
    have sA : A.size = t.size := by rw [← hA, ba_len, xorl_len _ _ (by rw [strm_len, hls]; exact Nat.le_refl _), hls]
    have X1 : Hid (∀ w, Calls Try.prog 12 #[.string K, .string N, .int .i64 (tv C), .string t] w fun e w' => e = .returned (.tuple #[.string A, .int .i64 0]) ∧ Below w.heap.size w w') := fun w => by
      rw [← hA]; exact sXor_ok K N C t hk hn (by omega) w
    have X2 : Hid (∀ w, Calls Try.prog 12 #[.string K, .string N, .int .i64 (tv C), .string A] w fun e w' => e = .returned (.tuple #[.string t, .int .i64 0]) ∧ Below w.heap.size w w') := fun w => by
      have h := sXor_ok K N C A hk hn (by omega) w
      have e : (⟨(xorl A.data.toList (strm K.data.toList N.data.toList C A.size)).toArray⟩ : ByteArray) = t := by
        rw [sA, ← hA]
        show (⟨(xorl (xorl t.data.toList (strm K.data.toList N.data.toList C t.size)) (strm K.data.toList N.data.toList C t.size)).toArray⟩ : ByteArray) = t
        rw [xorl_twice _ _ (by rw [strm_len, hls]; exact Nat.le_refl _), ba_list]
      rw [e] at h
      exact h
    have sA' : (A.size : Int) = (t.size : Int) := by rw [sA]
    clear hC hA hls hk hn
    go_enter Try.func6, Try.ntmps6
    go_wp2_with fail
    refine Calls.mono (WK.out _) ?_
    rintro e w1 ⟨rfl, hb⟩
    have B1 : Hid (Below w.heap.size w w1) := chain ((Below.refl _ _).alloc (Nat.le_refl _) _) hb
    have CC : Hid (w1.cell? ⟨w.heap.size, 0, none⟩ = some (.string k) ∧ w1.cell? ⟨w.heap.size, 1, none⟩ = some (.string n)) := ⟨cell_later hb (by simp [go_sem]), cell_later hb (by simp [go_sem])⟩
    have KP : Hid (∀ w', Below w1.heap.size w1 w' → Below w1.heap.size w1 w' ∧ w'.cell? ⟨w.heap.size, 0, none⟩ = some (.string k) ∧ w'.cell? ⟨w.heap.size, 1, none⟩ = some (.string n)) := fun w' h => ⟨h, cell_later h CC.out.1, cell_later h CC.out.2⟩
    clear hb CC WK
    go_wp2
    go_region_held3 (fun w' => Below w1.heap.size w1 w' ∧ w'.cell? ⟨w.heap.size, 0, none⟩ = some (.string k) ∧ w'.cell? ⟨w.heap.size, 1, none⟩ = some (.string n)) (first | exact KP.out _ (Below.refl _ _).drew | exact KP.out _ (chain (And.left (by assumption)) hb2) | exact KP.out _ (chain (And.left (by assumption)) hb3) | assumption) (first | (go_at_call 16; revert F1; intro F1; refine Calls.mono (F1.out _) ?_; rintro e w2 ⟨rfl, hb2⟩; clear F1) | (go_at_call 16; revert F2; intro F2; refine Calls.mono (F2.out _) ?_; rintro e w3 ⟨rfl, hb3⟩; clear F2))
    rename_i hHeld
    have B3 : Hid (Below w.heap.size w w3) := chain B1.out hHeld.1
    clear hHeld hb2 hb3 B1 KP
    go_wp2_with fail
    refine Calls.mono (X1.out _) ?_
    rintro e w4 ⟨rfl, hb⟩
    have B4 : Hid (Below w.heap.size w w4) := chain B3.out hb
    clear hb B3 X1
    go_wp2_with fail
    refine Calls.mono (X2.out _) ?_
    rintro e w5 ⟨rfl, hb⟩
    have B5 : Hid (Below w.heap.size w w5) := chain B4.out hb
    clear hb B4 X2
    go_wp2
    go_ret
    exact ⟨rfl, B5.out⟩
end Go.Proofs.Ytpnpllklmdjbaaa
