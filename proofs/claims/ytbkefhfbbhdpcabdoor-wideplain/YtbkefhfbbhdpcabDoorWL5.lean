/- WidePlain answers true, by the layer's contracts. -/
import Derived.Test.YtbkefhfbbhdpcabDoorGQ
namespace Go.Proofs.YtbkefhfbbhdpcabDoor
open Go.RowKit Go.Proofs.Fd Go.Proofs.Hs Go.Proofs.Cc Go.Proofs.Wd
set_option maxRecDepth 20000

set_option maxHeartbeats 1000000 in
theorem WidePlain_walk (CS : Hid ShutC) (CO : Hid OpenC) (CW : Hid WrapC) (CU : Hid UnwrapC) (k t : ByteArray) (m : Int) (hk : k.size ≤ 140737488351232) (ht : t.size ≤ 140737488351232) (w : World) (hK : Hid (Kh w)) :
    Calls Tryd.prog 3 #[.string k, .string t, .int .i64 m] w fun e w' => e = .returned (.bool true) ∧ Below w.heap.size w w' := by
  by_cases hl : 8000 < t.size
  · have hl' : (8000 : Int) < (t.size : Int) := by omega
    go_enter Tryd.func3, Tryd.ntmps3
    go_wp2_with fail
    refine Calls.mono (works6_any CW CU _ hK.out) ?_
    rintro e w0 ⟨rfl, hb⟩
    have B0 : Hid (Below w.heap.size w w0) := hb
    clear hb
    go_wp2
    go_ret
    exact ⟨rfl, B0.out⟩
  · have hl' : ¬ (8000 : Int) < (t.size : Int) := by omega
    obtain ⟨r, hr⟩ : ∃ r : Nat, (IntKind.u64.wrap m).tmod 100 = (r : Int) := ⟨((IntKind.u64.wrap m).tmod 100).toNat, by rw [IntKind.wrap_u64, Int.tmod_eq_emod_of_nonneg (by omega)]; omega⟩
    have r100 : r < 100 := by
      rw [IntKind.wrap_u64, Int.tmod_eq_emod_of_nonneg (by omega)] at hr
      omega
    have FIN : Hid (∀ n : Nat, 64 ≤ n → t.size + 34 ≤ n → n ≤ 8192 → ∃ B P : ByteArray, P = ⟨(plainl t.data.toList n).toArray⟩ ∧ (∀ w, Kh w → Calls Tryd.prog 5 #[.string k, .string t, .int .i64 (n : Int)] w fun e w' => e = .returned (.tuple #[.string B, .int .i64 0]) ∧ Below w.heap.size w w') ∧ (∀ w, Kh w → Calls Tryd.prog 6 #[.string k, .string P] w fun e w' => e = .returned (.tuple #[.string B, .int .i64 0]) ∧ Below w.heap.size w w') ∧ (∀ w, Kh w → Calls Tryd.prog 7 #[.string k, .string B] w fun e w' => e = .returned (.tuple #[.string P, .int .i64 0]) ∧ Below w.heap.size w w')) := fun n h0 h1 h2 => by
      have lt : t.data.toList.length = t.size := list_sz t
      have lp : (plainl t.data.toList n).length = n := plainl_len _ _ (by omega)
      have sB : (⟨(shutl k.data.toList (plainl t.data.toList n)).toArray⟩ : ByteArray).size = n := by rw [ba_sz, shutl_len _ _ (by omega), lp]
      have sP : (⟨(plainl t.data.toList n).toArray⟩ : ByteArray).size = n := by rw [ba_sz, lp]
      refine ⟨⟨(shutl k.data.toList (plainl t.data.toList n)).toArray⟩, ⟨(plainl t.data.toList n).toArray⟩, rfl, fun w h => ?_, fun w h => ?_, fun w h => ?_⟩
      · have := CW.out k t (n : Int) w (by show _ ≤ _; omega) (by show _ ≤ _; omega) h
        rw [wrV_ok k t n h0 h2 h1] at this
        exact this
      · have := CS.out k ⟨(plainl t.data.toList n).toArray⟩ w (by show _ ≤ _; omega) (by show _ ≤ _; omega) h
        rw [shV_ok k _ (by omega) (by omega)] at this
        exact this
      · have := CO.out k ⟨(shutl k.data.toList (plainl t.data.toList n)).toArray⟩ w (by show _ ≤ _; omega) (by show _ ≤ _; omega) h
        rw [opV_ok k _ (by omega) (by omega)] at this
        rw [show openl k.data.toList (⟨(shutl k.data.toList (plainl t.data.toList n)).toArray⟩ : ByteArray).data.toList = plainl t.data.toList n from open_shut _ _ (by omega)] at this
        exact this
    have MAK : Hid (∀ (y : Int) (_ : y = (t.size : Int) % 256) (n : Nat) (w : World), 64 ≤ n → t.size + 34 ≤ n → n ≤ 8192 → ∃ A E F : World, (Instr.makeSlice 24 (.int .i64 (n : Int)) (.int .i64 (n : Int))).run Tryd.prog w = .ok (.slice (some ⟨w.heap.size, 0, none⟩) n n) A
        ∧ (∃ v, A.cell? ⟨w.heap.size, 32, none⟩ = some v ∧ A.frozen? ⟨w.heap.size, 32, none⟩ = false) ∧ (∃ v, A.cell? ⟨w.heap.size, 33, none⟩ = some v ∧ A.frozen? ⟨w.heap.size, 33, none⟩ = false)
        ∧ (A.setCell ⟨w.heap.size, 32, none⟩ (.int .u8 ((t.size : Int) / 256))).setCell ⟨w.heap.size, 33, none⟩ (.int .u8 y) = E
        ∧ (Builtin.copy_ #[24, 9] 3 #[.slice (some ⟨w.heap.size, 34, none⟩) (n - 34) (n - 34), .string t]).run Tryd.prog E = .ok (.int .i64 (t.size : Int)) F
        ∧ BytesAt F w.heap.size (plainl t.data.toList n) ∧ Below w.heap.size w F) := fun y hy n w h0 h1 h2 => by
      obtain ⟨A, CA, BA, bA, sA⟩ := make_n n (by omega) w
      have lt : t.data.toList.length = t.size := list_sz t
      have BE := (BA.set 32 (UInt8.ofNat (t.data.toList.length / 256)) ((t.size : Int) / 256) (by rw [UInt8.toNat_ofNat', lt]; omega)).set 33 (UInt8.ofNat t.data.toList.length) y (by rw [UInt8.toNat_ofNat', lt]; omega)
      rw [pln_zero _ n (by omega)] at BE
      have lE : (pln t.data.toList n 0).length = n := pln_len _ _ _ (Nat.zero_le _) (by omega)
      have CP := wcopy_at ((A.setCell ⟨w.heap.size, 32, none⟩ (.int .u8 ((t.size : Int) / 256))).setCell ⟨w.heap.size, 33, none⟩ (.int .u8 y)) w.heap.size 34 (n - 34) (n - 34) t t.size (Nat.min_eq_left (by omega)) (fun j hj => by rw [(BE (34 + j) (by omega)).1]; rfl) (fun j hj => (BE (34 + j) (by omega)).2)
      rw [List.take_of_length_le (by rw [lt]; exact Nat.le_refl _)] at CP
      have BF := BE.wcopied 34 t.data.toList (by omega)
      rw [pln_copied] at BF
      exact ⟨A, _, _, CA, BA.some 32 (by rw [List.length_replicate]; omega), BA.some 33 (by rw [List.length_replicate]; omega), rfl, CP, BF, below_setCells (Nat.le_refl _) _ _ _ ((bA.setCell (p := ⟨w.heap.size, 32, none⟩) (Nat.le_refl _) _).setCell (p := ⟨w.heap.size, 33, none⟩) (Nat.le_refl _) _)⟩
    by_cases h30 : t.size + 34 ≤ 64
    · obtain ⟨n, hn⟩ : ∃ n, 64 + r = n := ⟨_, rfl⟩
      have n64 : 64 ≤ n := by omega
      have nt : t.size + 34 ≤ n := by omega
      have n8 : n ≤ 8192 := by omega
      obtain ⟨B, P, hP, W0, S0, O0⟩ := FIN.out n n64 nt n8
      have W1 : Hid (∀ w, Kh w → Calls Tryd.prog 5 #[.string k, .string t, .int .i64 (n : Int)] w fun e w' => e = .returned (.tuple #[.string B, .int .i64 0]) ∧ Below w.heap.size w w') := W0
      have S1 : Hid (∀ w, Kh w → Calls Tryd.prog 6 #[.string k, .string P] w fun e w' => e = .returned (.tuple #[.string B, .int .i64 0]) ∧ Below w.heap.size w w') := S0
      have O1 : Hid (∀ w, Kh w → Calls Tryd.prog 7 #[.string k, .string B] w fun e w' => e = .returned (.tuple #[.string P, .int .i64 0]) ∧ Below w.heap.size w w') := O0
      have MK := fun w => MAK.out (t.size : Int) (by omega) n w n64 nt n8
      have HP : Hid (P = ⟨(plainl t.data.toList n).toArray⟩ ∧ (plainl t.data.toList n).length = n) := ⟨hP, plainl_len _ _ (by rw [list_sz]; exact nt)⟩
      have a1 : 64 + (r : Int) = (n : Int) := by omega
      have a2 : IntKind.i64.wrap (64 + (r : Int)) = (n : Int) := by rw [IntKind.wrap_i64]; omega
      have a3 : (t.size : Int) + 34 ≤ 64 := by omega
      have a5 : max (64 : Int) ((t.size : Int) + 34) = 64 := by omega
      have a4 : IntKind.i64.wrap (n : Int) = (n : Int) := by rw [IntKind.wrap_i64]; omega
      have z1 : (32 : Int) < (n : Int) := by omega
      have z2 : (33 : Int) < (n : Int) := by omega
      have z3 : (34 : Int) ≤ (n : Int) := by omega
      have z4 : ¬ n = 34 := by omega
      have z5 : ¬ n ≤ 34 := by omega
      have HN : Hid (64 + r = n ∧ 64 ≤ n ∧ t.size + 34 ≤ n ∧ n ≤ 8192) := ⟨hn, n64, nt, n8⟩
      clear hn FIN MAK W0 S0 O0 hP n64 nt n8
      go_enter Tryd.func3, Tryd.ntmps3
      go_wp2_with fail
      refine Calls.mono (works6_any CW CU _ hK.out) ?_
      rintro e w0 ⟨rfl, hb⟩
      have B0 : Hid (Below w.heap.size w w0 ∧ Kh w0) := ⟨hb, hK.out.later hb⟩
      clear hb
      obtain ⟨A, E, F, CA, ⟨v32, c32, f32⟩, ⟨v33, c33, f33⟩, hE, CP, BF, bF⟩ := MK w0
      have CF : Hid (∀ w', Below F.heap.size F w' → (convert 24 9 (.slice (some ⟨w0.heap.size, 0, none⟩) n n)).run Tryd.prog w' = .ok (.string P) w') := fun w' h => by
        rw [HP.out.1]; exact (BF.later h).string (cap := n) HP.out.2
      have BF1 : Hid (Below w.heap.size w F ∧ Kh F) := ⟨chain B0.out.1 bF, B0.out.2.later bF⟩
      clear MK BF bF B0
      go_wp2_with fail
      refine Calls.mono (W1.out _ BF1.out.2) ?_
      rintro e w1 ⟨rfl, hb⟩
      have B1 : Hid (Below w.heap.size w w1 ∧ Kh w1 ∧ Below F.heap.size F w1) := ⟨chain BF1.out.1 hb, BF1.out.2.later hb, hb⟩
      have CV1 := CF.out w1 hb
      clear hb W1 BF1 CP CA c32 f32 c33 f33 hE
      go_wp2_with fail
      refine Calls.mono (S1.out _ B1.out.2.1) ?_
      rintro e w2 ⟨rfl, hb⟩
      have B2 : Hid (Below w.heap.size w w2 ∧ Kh w2 ∧ Below F.heap.size F w2) := ⟨chain B1.out.1 hb, B1.out.2.1.later hb, chain B1.out.2.2 hb⟩
      clear hb S1 B1 CV1
      go_wp2_with fail
      refine Calls.mono (O1.out _ B2.out.2.1) ?_
      rintro e w3 ⟨rfl, hb⟩
      have B3 : Hid (Below w.heap.size w w3) := chain B2.out.1 hb
      have CV3 := CF.out w3 (chain B2.out.2.2 hb)
      clear hb O1 B2 CF
      go_wp2
      go_ret
      exact ⟨rfl, B3.out⟩
    · obtain ⟨n, hn⟩ : ∃ n, t.size + 34 + r = n := ⟨_, rfl⟩
      have n64 : 64 ≤ n := by omega
      have nt : t.size + 34 ≤ n := by omega
      have n8 : n ≤ 8192 := by omega
      obtain ⟨B, P, hP, W0, S0, O0⟩ := FIN.out n n64 nt n8
      have W1 : Hid (∀ w, Kh w → Calls Tryd.prog 5 #[.string k, .string t, .int .i64 (n : Int)] w fun e w' => e = .returned (.tuple #[.string B, .int .i64 0]) ∧ Below w.heap.size w w') := W0
      have S1 : Hid (∀ w, Kh w → Calls Tryd.prog 6 #[.string k, .string P] w fun e w' => e = .returned (.tuple #[.string B, .int .i64 0]) ∧ Below w.heap.size w w') := S0
      have O1 : Hid (∀ w, Kh w → Calls Tryd.prog 7 #[.string k, .string B] w fun e w' => e = .returned (.tuple #[.string P, .int .i64 0]) ∧ Below w.heap.size w w') := O0
      have MK := fun w => MAK.out ((t.size : Int) % 256) rfl n w n64 nt n8
      have HP : Hid (P = ⟨(plainl t.data.toList n).toArray⟩ ∧ (plainl t.data.toList n).length = n) := ⟨hP, plainl_len _ _ (by rw [list_sz]; exact nt)⟩
      have a1 : (t.size : Int) + 34 + (r : Int) = (n : Int) := by omega
      have a2 : IntKind.i64.wrap ((t.size : Int) + 34 + (r : Int)) = (n : Int) := by rw [IntKind.wrap_i64]; omega
      have a3 : ¬ (t.size : Int) + 34 ≤ 64 := by omega
      have a5 : max (64 : Int) ((t.size : Int) + 34) = (t.size : Int) + 34 := by omega
      have a5 : (64 : Int) < (t.size : Int) + 34 := by omega
      have a4 : IntKind.i64.wrap (n : Int) = (n : Int) := by rw [IntKind.wrap_i64]; omega
      have z1 : (32 : Int) < (n : Int) := by omega
      have z2 : (33 : Int) < (n : Int) := by omega
      have z3 : (34 : Int) ≤ (n : Int) := by omega
      have z4 : ¬ n = 34 := by omega
      have z5 : ¬ n ≤ 34 := by omega
      have HN : Hid (t.size + 34 + r = n ∧ 64 ≤ n ∧ t.size + 34 ≤ n ∧ n ≤ 8192) := ⟨hn, n64, nt, n8⟩
      clear hn FIN MAK W0 S0 O0 hP n64 nt n8
      go_enter Tryd.func3, Tryd.ntmps3
      go_wp2_with fail
      refine Calls.mono (works6_any CW CU _ hK.out) ?_
      rintro e w0 ⟨rfl, hb⟩
      have B0 : Hid (Below w.heap.size w w0 ∧ Kh w0) := ⟨hb, hK.out.later hb⟩
      clear hb
      obtain ⟨A, E, F, CA, ⟨v32, c32, f32⟩, ⟨v33, c33, f33⟩, hE, CP, BF, bF⟩ := MK w0
      have CF : Hid (∀ w', Below F.heap.size F w' → (convert 24 9 (.slice (some ⟨w0.heap.size, 0, none⟩) n n)).run Tryd.prog w' = .ok (.string P) w') := fun w' h => by
        rw [HP.out.1]; exact (BF.later h).string (cap := n) HP.out.2
      have BF1 : Hid (Below w.heap.size w F ∧ Kh F) := ⟨chain B0.out.1 bF, B0.out.2.later bF⟩
      clear MK BF bF B0
      go_wp2_with fail
      refine Calls.mono (W1.out _ BF1.out.2) ?_
      rintro e w1 ⟨rfl, hb⟩
      have B1 : Hid (Below w.heap.size w w1 ∧ Kh w1 ∧ Below F.heap.size F w1) := ⟨chain BF1.out.1 hb, BF1.out.2.later hb, hb⟩
      have CV1 := CF.out w1 hb
      clear hb W1 BF1 CP CA c32 f32 c33 f33 hE
      go_wp2_with fail
      refine Calls.mono (S1.out _ B1.out.2.1) ?_
      rintro e w2 ⟨rfl, hb⟩
      have B2 : Hid (Below w.heap.size w w2 ∧ Kh w2 ∧ Below F.heap.size F w2) := ⟨chain B1.out.1 hb, B1.out.2.1.later hb, chain B1.out.2.2 hb⟩
      clear hb S1 B1 CV1
      go_wp2_with fail
      refine Calls.mono (O1.out _ B2.out.2.1) ?_
      rintro e w3 ⟨rfl, hb⟩
      have B3 : Hid (Below w.heap.size w w3) := chain B2.out.1 hb
      have CV3 := CF.out w3 (chain B2.out.2.2 hb)
      clear hb O1 B2 CF
      go_wp2
      go_ret
      exact ⟨rfl, B3.out⟩
end Go.Proofs.YtbkefhfbbhdpcabDoor
