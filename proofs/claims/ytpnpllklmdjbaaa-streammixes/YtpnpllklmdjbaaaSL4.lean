/- StreamMixes answers true. -/
import Derived.Test.YtpnpllklmdjbaaaSL3
namespace Go.Proofs.Ytpnpllklmdjbaaa
open Go.RowKit Go.Proofs.Fd Go.Proofs.Hs Go.Proofs.Cc

theorem xor_apart (a b s : UInt8) : (a ^^^ s).toNat ^^^ (b ^^^ s).toNat = a.toNat ^^^ b.toNat := by
  rw [← UInt8.toNat_xor, ← UInt8.toNat_xor]
  congr 1
  rw [UInt8.xor_assoc, UInt8.xor_comm s, UInt8.xor_assoc, UInt8.xor_self, UInt8.xor_zero]
theorem cut_size (a : ByteArray) (m : Nat) (h : m ≤ a.size) : (a.extract 0 m).size = m := by rw [ByteArray.size_extract]; omega
/-- A text's beginning, xor the stream. -/
def cutx (K N : ByteArray) (a : ByteArray) (m : Nat) : ByteArray := ⟨(xorl (a.extract 0 m).data.toList (strm K.data.toList N.data.toList 7 m)).toArray⟩
theorem cutx_size (K N a : ByteArray) (m : Nat) (h : m ≤ a.size) : (cutx K N a m).size = m := by
  unfold cutx
  have : (a.extract 0 m).data.toList.length = m := by have := cut_size a m h; simpa using this
  rw [ba_len, xorl_len _ _ (by rw [strm_len, this]; exact Nat.le_refl _), this]
theorem cutx_at (K N a : ByteArray) (m : Nat) (h : m ≤ a.size) (q : Nat) (hq : q < m) (h1 : q < (cutx K N a m).size) (h2 : q < a.size) : (cutx K N a m)[q] = a[q] ^^^ (strm K.data.toList N.data.toList 7 m)[q]'(by rw [strm_len]; exact hq) := by
  have lc : (a.extract 0 m).data.toList.length = m := by have := cut_size a m h; simpa using this
  have e : (cutx K N a m).data.toList = xorl (a.extract 0 m).data.toList (strm K.data.toList N.data.toList 7 m) := rfl
  have e1 : (cutx K N a m)[q] = (cutx K N a m).data.toList[q]'(by simpa using h1) := rfl
  have lx : q < (xorl (a.extract 0 m).data.toList (strm K.data.toList N.data.toList 7 m)).length := by rw [xorl_len _ _ (by rw [lc, strm_len]; exact Nat.le_refl _), lc]; exact hq
  have e2 : (cutx K N a m).data.toList[q]'(by simpa using h1) = (xorl (a.extract 0 m).data.toList (strm K.data.toList N.data.toList 7 m))[q]'lx := List.getElem_of_eq e _
  have e3 : (xorl (a.extract 0 m).data.toList (strm K.data.toList N.data.toList 7 m))[q]'lx = (a.extract 0 m).data.toList[q]'(by rw [lc]; exact hq) ^^^ (strm K.data.toList N.data.toList 7 m)[q]'(by rw [strm_len]; exact hq) := List.getElem_zipWith
  have e4 : (a.extract 0 m).data.toList[q]'(by rw [lc]; exact hq) = a[q] := by
    simp only [ByteArray.data_extract, Array.getElem_toList, Array.getElem_extract, Nat.zero_add]
    rfl
  rw [e1, e2, e3, e4]

set_option maxHeartbeats 1000000 in
theorem StreamMixes_walk (k n a b : ByteArray) (ha : a.size ≤ 9223372036854775807) (hb0 : b.size ≤ 9223372036854775807) (w : World) :
    Calls Try.prog 8 #[.agg #[.string k, .string n], .string a, .string b] w fun e w' => e = .returned (.bool true) ∧ Below w.heap.size w w' := by
  have WK : Hid (∀ w, Calls Try.prog 11 #[] w fun e w' => e = .returned (.bool true) ∧ Below w.heap.size w w') := works5_any
  have F1 : Hid (∀ w, Calls Try.prog 16 #[.string k, .int .i64 32] w fun e w' => e = .returned (.string (fitb k 32)) ∧ Below w.heap.size w w') := fun w => sfit_any k 32 (by decide) w
  have F2 : Hid (∀ w, Calls Try.prog 16 #[.string n, .int .i64 12] w fun e w' => e = .returned (.string (fitb n 12)) ∧ Below w.heap.size w w') := fun w => sfit_any n 12 (by decide) w
  have hk := fitb_size k 32
  have hn := fitb_size n 12
  generalize fitb k 32 = K at *
  generalize fitb n 12 = N at *
  have XX : Hid (∀ (s : ByteArray) (m : Nat), m ≤ s.size → m ≤ 65536 → ∀ w, Calls Try.prog 12 #[.string K, .string N, .int .i64 7, .string (s.extract 0 m)] w fun e w' => e = .returned (.tuple #[.string (cutx K N s m), .int .i64 0]) ∧ Below w.heap.size w w') := fun s m h1 h2 w => by
    have h := sXor_ok K N 7 (s.extract 0 m) hk hn (by rw [cut_size _ _ h1]; exact h2) w
    rw [cut_size _ _ h1] at h
    exact h
  clear hk hn
  by_cases h1 : a.size ≤ b.size ∧ a.size ≤ 2000
  · obtain ⟨h1, h2⟩ := h1
    obtain ⟨m, hm⟩ : ∃ m, a.size = m := ⟨_, rfl⟩
    have i1 : (a.size : Int) ≤ (b.size : Int) := by omega
    have i2 : (a.size : Int) ≤ 2000 := by omega
    have i3 : (m : Int) ≤ (b.size : Int) := by omega
    have i4 : (m : Int) ≤ 2000 := by omega
    have mb : m ≤ 2000 := by omega
    have XA : Hid (∀ w, Calls Try.prog 12 #[.string K, .string N, .int .i64 7, .string (a.extract 0 m)] w fun e w' => e = .returned (.tuple #[.string (cutx K N a m), .int .i64 0]) ∧ Below w.heap.size w w') := XX.out a m (by omega) (by omega)
    have XB : Hid (∀ w, Calls Try.prog 12 #[.string K, .string N, .int .i64 7, .string (b.extract 0 m)] w fun e w' => e = .returned (.tuple #[.string (cutx K N b m), .int .i64 0]) ∧ Below w.heap.size w w') := XX.out b m (by omega) (by omega)
    have sA := cutx_size K N a m (by omega)
    have sB := cutx_size K N b m (by omega)
    have AT : Hid (∀ q, q < m → ∀ (h1 : q < (cutx K N a m).size) (h2 : q < (cutx K N b m).size) (h3 : q < a.size) (h4 : q < b.size), (cutx K N a m)[q].toNat ^^^ (cutx K N b m)[q].toNat = a[q].toNat ^^^ b[q].toNat) := fun q hq h1 h2 h3 h4 => by
      rw [cutx_at K N a m (by omega) q hq h1 h3, cutx_at K N b m (by omega) q hq h2 h4, xor_apart]
    generalize cutx K N a m = X at *
    generalize cutx K N b m = Y at *
    have la : (m : Int) ≤ (a.size : Int) := by omega
    have lb : (m : Int) ≤ (b.size : Int) := by omega
    go_enter Try.func8, Try.ntmps8
    go_wp2_with fail
    refine Calls.mono (WK.out _) ?_
    rintro e w1 ⟨rfl, hb⟩
    have B1 : Hid (Below w.heap.size w w1) := chain ((Below.refl _ _).alloc (Nat.le_refl _) _) hb
    have CC : Hid (w1.cell? ⟨w.heap.size, 0, none⟩ = some (.string k) ∧ w1.cell? ⟨w.heap.size, 1, none⟩ = some (.string n)) := ⟨cell_later hb (by simp [go_sem]), cell_later hb (by simp [go_sem])⟩
    have KP : Hid (∀ w', Below w1.heap.size w1 w' → Below w1.heap.size w1 w' ∧ w'.cell? ⟨w.heap.size, 0, none⟩ = some (.string k) ∧ w'.cell? ⟨w.heap.size, 1, none⟩ = some (.string n)) := fun w' h => ⟨h, cell_later h CC.out.1, cell_later h CC.out.2⟩
    clear hb CC WK
    go_wp2
    go_region_held3 (fun w' => Below w1.heap.size w1 w' ∧ w'.cell? ⟨w.heap.size, 0, none⟩ = some (.string k) ∧ w'.cell? ⟨w.heap.size, 1, none⟩ = some (.string n)) (first | exact KP.out _ (Below.refl _ _).drew | exact KP.out _ (chain (And.left (by assumption)) hb2) | exact KP.out _ (chain (And.left (by assumption)) hb3) | assumption) (first | (go_at_call 16; revert F1; intro F1; refine Calls.mono (F1.out _) ?_; rintro e w2 ⟨rfl, hb2⟩; clear F1) | (go_at_call 16; revert F2; intro F2; refine Calls.mono (F2.out _) ?_; rintro e w3 ⟨rfl, hb3⟩; clear F2))
    rename_i hHeld
    have B3 : Hid (Below w.heap.size w w3) := chain B1.out hHeld.1
    clear hHeld hb2 hb3 B1 KP
    go_wp2_with fail
    refine Calls.mono (XA.out _) ?_
    rintro e w4 ⟨rfl, hb⟩
    have B4 : Hid (Below w.heap.size w w4) := chain B3.out hb
    clear hb B3 XA
    go_wp2_with fail
    refine Calls.mono (XB.out _) ?_
    rintro e w5 ⟨rfl, hb⟩
    have B5 : Hid (Below w.heap.size w w5) := chain B4.out hb
    clear hb B4 XB
    go_wp2
    go_loopw [65] (fun i wr => ∃ q : Nat, q ≤ m ∧ i = .int .i64 (q : Int) ∧ Hid (Below w.heap.size w wr)) (fun i _ => m - (intOf i).toNat)
    case atStart => exact ⟨0, by omega, rfl, B5.out⟩
    case round =>
      obtain ⟨q, hq, rfl, I⟩ := hrel
      clear B5
      by_cases hqm : q < m
      · have z0 : (q : Int) < (m : Int) := by omega
        have l1 : q < a.size := by omega
        have l2 : q < b.size := by omega
        have l3 : q < X.size := by omega
        have l4 : q < Y.size := by omega
        have z1 : (q : Int) < (a.size : Int) := by omega
        have z2 : (q : Int) < (b.size : Int) := by omega
        have z3 : (q : Int) < (X.size : Int) := by omega
        have z4 : (q : Int) < (Y.size : Int) := by omega
        have HE := AT.out q hqm l3 l4 l1 l2
        obtain ⟨xa, ea⟩ : ∃ x, a[q] = x := ⟨_, rfl⟩
        obtain ⟨xb, eb⟩ : ∃ x, b[q] = x := ⟨_, rfl⟩
        obtain ⟨xx, ex⟩ : ∃ x, X[q] = x := ⟨_, rfl⟩
        obtain ⟨xy, ey⟩ : ∃ x, Y[q] = x := ⟨_, rfl⟩
        rw [ea, eb, ex, ey] at HE
        have HE2 : bits .xor .u8 (xx.toNat : Int) (xy.toNat : Int) = bits .xor .u8 (xa.toNat : Int) (xb.toNat : Int) := by rw [sxor8, sxor8, UInt8.toNat_xor, UInt8.toNat_xor, HE]
        go_wp2
        go_quiet (fail)
        have NB : Hid (Below w.heap.size w (wr.drewN nq)) := below_drewN I.out nq
        go_wp2
        go_roundw
        case rel => exact ⟨q + 1, by omega, by go_num, NB.out⟩
        case measure => simp [intOf]; omega
      · have z0 : ¬ (q : Int) < (m : Int) := by omega
        go_wp2
        go_ret
        exact ⟨rfl, I.out⟩
  · by_cases h2 : b.size < a.size ∧ b.size ≤ 2000
    · obtain ⟨h2, h3⟩ := h2
      obtain ⟨m, hm⟩ : ∃ m, b.size = m := ⟨_, rfl⟩
      have i0 : ¬ (a.size : Int) ≤ (b.size : Int) := by omega
      have i1 : ¬ (a.size : Int) ≤ (m : Int) := by omega
      have i2 : (m : Int) ≤ 2000 := by omega
      have i3 : (m : Int) < (a.size : Int) := by omega
      have i4 : ¬ (a.size : Int) < (m : Int) := by omega
      clear h1
      have mb : m ≤ 2000 := by omega
      have XA : Hid (∀ w, Calls Try.prog 12 #[.string K, .string N, .int .i64 7, .string (a.extract 0 m)] w fun e w' => e = .returned (.tuple #[.string (cutx K N a m), .int .i64 0]) ∧ Below w.heap.size w w') := XX.out a m (by omega) (by omega)
      have XB : Hid (∀ w, Calls Try.prog 12 #[.string K, .string N, .int .i64 7, .string (b.extract 0 m)] w fun e w' => e = .returned (.tuple #[.string (cutx K N b m), .int .i64 0]) ∧ Below w.heap.size w w') := XX.out b m (by omega) (by omega)
      have sA := cutx_size K N a m (by omega)
      have sB := cutx_size K N b m (by omega)
      have AT : Hid (∀ q, q < m → ∀ (h1 : q < (cutx K N a m).size) (h2 : q < (cutx K N b m).size) (h3 : q < a.size) (h4 : q < b.size), (cutx K N a m)[q].toNat ^^^ (cutx K N b m)[q].toNat = a[q].toNat ^^^ b[q].toNat) := fun q hq h1 h2 h3 h4 => by
        rw [cutx_at K N a m (by omega) q hq h1 h3, cutx_at K N b m (by omega) q hq h2 h4, xor_apart]
      generalize cutx K N a m = X at *
      generalize cutx K N b m = Y at *
      have la : (m : Int) ≤ (a.size : Int) := by omega
      have lb : (m : Int) ≤ (b.size : Int) := by omega
      go_enter Try.func8, Try.ntmps8
      go_wp2_with fail
      refine Calls.mono (WK.out _) ?_
      rintro e w1 ⟨rfl, hb⟩
      have B1 : Hid (Below w.heap.size w w1) := chain ((Below.refl _ _).alloc (Nat.le_refl _) _) hb
      have CC : Hid (w1.cell? ⟨w.heap.size, 0, none⟩ = some (.string k) ∧ w1.cell? ⟨w.heap.size, 1, none⟩ = some (.string n)) := ⟨cell_later hb (by simp [go_sem]), cell_later hb (by simp [go_sem])⟩
      have KP : Hid (∀ w', Below w1.heap.size w1 w' → Below w1.heap.size w1 w' ∧ w'.cell? ⟨w.heap.size, 0, none⟩ = some (.string k) ∧ w'.cell? ⟨w.heap.size, 1, none⟩ = some (.string n)) := fun w' h => ⟨h, cell_later h CC.out.1, cell_later h CC.out.2⟩
      clear hb CC WK
      go_wp2
      go_region_held3 (fun w' => Below w1.heap.size w1 w' ∧ w'.cell? ⟨w.heap.size, 0, none⟩ = some (.string k) ∧ w'.cell? ⟨w.heap.size, 1, none⟩ = some (.string n)) (first | exact KP.out _ (Below.refl _ _).drew | exact KP.out _ (chain (And.left (by assumption)) hb2) | exact KP.out _ (chain (And.left (by assumption)) hb3) | assumption) (first | (go_at_call 16; revert F1; intro F1; refine Calls.mono (F1.out _) ?_; rintro e w2 ⟨rfl, hb2⟩; clear F1) | (go_at_call 16; revert F2; intro F2; refine Calls.mono (F2.out _) ?_; rintro e w3 ⟨rfl, hb3⟩; clear F2))
      rename_i hHeld
      have B3 : Hid (Below w.heap.size w w3) := chain B1.out hHeld.1
      clear hHeld hb2 hb3 B1 KP
      go_wp2_with fail
      refine Calls.mono (XA.out _) ?_
      rintro e w4 ⟨rfl, hb⟩
      have B4 : Hid (Below w.heap.size w w4) := chain B3.out hb
      clear hb B3 XA
      go_wp2_with fail
      refine Calls.mono (XB.out _) ?_
      rintro e w5 ⟨rfl, hb⟩
      have B5 : Hid (Below w.heap.size w w5) := chain B4.out hb
      clear hb B4 XB
      go_wp2
      go_loopw [65] (fun i wr => ∃ q : Nat, q ≤ m ∧ i = .int .i64 (q : Int) ∧ Hid (Below w.heap.size w wr)) (fun i _ => m - (intOf i).toNat)
      case atStart => exact ⟨0, by omega, rfl, B5.out⟩
      case round =>
        obtain ⟨q, hq, rfl, I⟩ := hrel
        clear B5
        by_cases hqm : q < m
        · have z0 : (q : Int) < (m : Int) := by omega
          have l1 : q < a.size := by omega
          have l2 : q < b.size := by omega
          have l3 : q < X.size := by omega
          have l4 : q < Y.size := by omega
          have z1 : (q : Int) < (a.size : Int) := by omega
          have z2 : (q : Int) < (b.size : Int) := by omega
          have z3 : (q : Int) < (X.size : Int) := by omega
          have z4 : (q : Int) < (Y.size : Int) := by omega
          have HE := AT.out q hqm l3 l4 l1 l2
          obtain ⟨xa, ea⟩ : ∃ x, a[q] = x := ⟨_, rfl⟩
          obtain ⟨xb, eb⟩ : ∃ x, b[q] = x := ⟨_, rfl⟩
          obtain ⟨xx, ex⟩ : ∃ x, X[q] = x := ⟨_, rfl⟩
          obtain ⟨xy, ey⟩ : ∃ x, Y[q] = x := ⟨_, rfl⟩
          rw [ea, eb, ex, ey] at HE
          have HE2 : bits .xor .u8 (xx.toNat : Int) (xy.toNat : Int) = bits .xor .u8 (xa.toNat : Int) (xb.toNat : Int) := by rw [sxor8, sxor8, UInt8.toNat_xor, UInt8.toNat_xor, HE]
          go_wp2
          go_quiet (fail)
          have NB : Hid (Below w.heap.size w (wr.drewN nq)) := below_drewN I.out nq
          go_wp2
          go_roundw
          case rel => exact ⟨q + 1, by omega, by go_num, NB.out⟩
          case measure => simp [intOf]; omega
        · have z0 : ¬ (q : Int) < (m : Int) := by omega
          go_wp2
          go_ret
          exact ⟨rfl, I.out⟩
    · have h3 : 2000 < a.size := by omega
      have h4 : 2000 < b.size := by omega
      have i1 : (2000 : Int) < (a.size : Int) := by omega
      have i2 : (2000 : Int) < (b.size : Int) := by omega
      have i3 : ¬ (a.size : Int) ≤ 2000 := by omega
      have i4 : ¬ (b.size : Int) ≤ 2000 := by omega
      clear h1 h2
      have mb : 2000 ≤ 2000 := by omega
      have XA : Hid (∀ w, Calls Try.prog 12 #[.string K, .string N, .int .i64 7, .string (a.extract 0 2000)] w fun e w' => e = .returned (.tuple #[.string (cutx K N a 2000), .int .i64 0]) ∧ Below w.heap.size w w') := XX.out a 2000 (by omega) (by omega)
      have XB : Hid (∀ w, Calls Try.prog 12 #[.string K, .string N, .int .i64 7, .string (b.extract 0 2000)] w fun e w' => e = .returned (.tuple #[.string (cutx K N b 2000), .int .i64 0]) ∧ Below w.heap.size w w') := XX.out b 2000 (by omega) (by omega)
      have sA := cutx_size K N a 2000 (by omega)
      have sB := cutx_size K N b 2000 (by omega)
      have AT : Hid (∀ q, q < 2000 → ∀ (h1 : q < (cutx K N a 2000).size) (h2 : q < (cutx K N b 2000).size) (h3 : q < a.size) (h4 : q < b.size), (cutx K N a 2000)[q].toNat ^^^ (cutx K N b 2000)[q].toNat = a[q].toNat ^^^ b[q].toNat) := fun q hq h1 h2 h3 h4 => by
        rw [cutx_at K N a 2000 (by omega) q hq h1 h3, cutx_at K N b 2000 (by omega) q hq h2 h4, xor_apart]
      generalize cutx K N a 2000 = X at *
      generalize cutx K N b 2000 = Y at *
      have la : 2000 ≤ (a.size : Int) := by omega
      have lb : 2000 ≤ (b.size : Int) := by omega
      go_enter Try.func8, Try.ntmps8
      go_wp2_with fail
      refine Calls.mono (WK.out _) ?_
      rintro e w1 ⟨rfl, hb⟩
      have B1 : Hid (Below w.heap.size w w1) := chain ((Below.refl _ _).alloc (Nat.le_refl _) _) hb
      have CC : Hid (w1.cell? ⟨w.heap.size, 0, none⟩ = some (.string k) ∧ w1.cell? ⟨w.heap.size, 1, none⟩ = some (.string n)) := ⟨cell_later hb (by simp [go_sem]), cell_later hb (by simp [go_sem])⟩
      have KP : Hid (∀ w', Below w1.heap.size w1 w' → Below w1.heap.size w1 w' ∧ w'.cell? ⟨w.heap.size, 0, none⟩ = some (.string k) ∧ w'.cell? ⟨w.heap.size, 1, none⟩ = some (.string n)) := fun w' h => ⟨h, cell_later h CC.out.1, cell_later h CC.out.2⟩
      clear hb CC WK
      go_wp2
      go_region_held3 (fun w' => Below w1.heap.size w1 w' ∧ w'.cell? ⟨w.heap.size, 0, none⟩ = some (.string k) ∧ w'.cell? ⟨w.heap.size, 1, none⟩ = some (.string n)) (first | exact KP.out _ (Below.refl _ _).drew | exact KP.out _ (chain (And.left (by assumption)) hb2) | exact KP.out _ (chain (And.left (by assumption)) hb3) | assumption) (first | (go_at_call 16; revert F1; intro F1; refine Calls.mono (F1.out _) ?_; rintro e w2 ⟨rfl, hb2⟩; clear F1) | (go_at_call 16; revert F2; intro F2; refine Calls.mono (F2.out _) ?_; rintro e w3 ⟨rfl, hb3⟩; clear F2))
      rename_i hHeld
      have B3 : Hid (Below w.heap.size w w3) := chain B1.out hHeld.1
      clear hHeld hb2 hb3 B1 KP
      go_wp2_with fail
      refine Calls.mono (XA.out _) ?_
      rintro e w4 ⟨rfl, hb⟩
      have B4 : Hid (Below w.heap.size w w4) := chain B3.out hb
      clear hb B3 XA
      go_wp2_with fail
      refine Calls.mono (XB.out _) ?_
      rintro e w5 ⟨rfl, hb⟩
      have B5 : Hid (Below w.heap.size w w5) := chain B4.out hb
      clear hb B4 XB
      go_wp2
      go_loopw [65] (fun i wr => ∃ q : Nat, q ≤ 2000 ∧ i = .int .i64 (q : Int) ∧ Hid (Below w.heap.size w wr)) (fun i _ => 2000 - (intOf i).toNat)
      case atStart => exact ⟨0, by omega, rfl, B5.out⟩
      case round =>
        obtain ⟨q, hq, rfl, I⟩ := hrel
        clear B5
        by_cases hqm : q < 2000
        · have z0 : (q : Int) < 2000 := by omega
          have l1 : q < a.size := by omega
          have l2 : q < b.size := by omega
          have l3 : q < X.size := by omega
          have l4 : q < Y.size := by omega
          have z1 : (q : Int) < (a.size : Int) := by omega
          have z2 : (q : Int) < (b.size : Int) := by omega
          have z3 : (q : Int) < (X.size : Int) := by omega
          have z4 : (q : Int) < (Y.size : Int) := by omega
          have HE := AT.out q hqm l3 l4 l1 l2
          obtain ⟨xa, ea⟩ : ∃ x, a[q] = x := ⟨_, rfl⟩
          obtain ⟨xb, eb⟩ : ∃ x, b[q] = x := ⟨_, rfl⟩
          obtain ⟨xx, ex⟩ : ∃ x, X[q] = x := ⟨_, rfl⟩
          obtain ⟨xy, ey⟩ : ∃ x, Y[q] = x := ⟨_, rfl⟩
          rw [ea, eb, ex, ey] at HE
          have HE2 : bits .xor .u8 (xx.toNat : Int) (xy.toNat : Int) = bits .xor .u8 (xa.toNat : Int) (xb.toNat : Int) := by rw [sxor8, sxor8, UInt8.toNat_xor, UInt8.toNat_xor, HE]
          go_wp2
          go_quiet (fail)
          have NB : Hid (Below w.heap.size w (wr.drewN nq)) := below_drewN I.out nq
          go_wp2
          go_roundw
          case rel => exact ⟨q + 1, by omega, by go_num, NB.out⟩
          case measure => simp [intOf]; omega
        · have z0 : ¬ (q : Int) < 2000 := by omega
          go_wp2
          go_ret
          exact ⟨rfl, I.out⟩
end Go.Proofs.Ytpnpllklmdjbaaa
