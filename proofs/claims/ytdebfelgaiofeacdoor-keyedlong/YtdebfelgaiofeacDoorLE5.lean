/- KeyedLong answers true, by the layer's contracts. -/
import Derived.Test.YtdebfelgaiofeacDoorKE
import Derived.Laws.OwnMore
namespace Go.Proofs.YtdebfelgaiofeacDoor
open Go.RowKit Go.Proofs.Fd Go.Proofs.Hs

set_option maxHeartbeats 1000000 in
theorem KeyedLong_walk (CT : Hid TagC) (CS : Hid SameC) (key s : ByteArray) (hk0 : key.size ≤ 140737488351232) (hs : s.size ≤ 140737488351232) (c : Int) (w : World) (hk : Hid (Kh w)) :
    Calls Tryd.prog 7 #[.string key, .string s, .int .i64 c] w fun e w' => e = .returned (.bool true) ∧ Below w.heap.size w w' := by
  have hl : Hid (key.data.toList.length = key.size) := by show _ = _; simp
  have T : Hid (∀ (k : ByteArray) (B : Nat) (w : World), k.size ≤ 140737488355328 → Kh w → w.cell? ⟨B, 0, none⟩ = some (.string s) → Calls Tryd.prog 11 #[.string k, .slice (some ⟨B, 0, none⟩) 1 1] w fun e w' => e = .returned (.string ⟨(hmac k.data.toList s.data.toList).toArray⟩) ∧ Below w.heap.size w w') := fun k B w hz h h0 => by
    have h := CT.out k (some ⟨B, 0, none⟩) [s] 1 1 w rfl (by show _ ≤ _; decide) hz (fun x hx => by simp at hx; subst hx; omega) h (strAt1 h0)
    rw [jnd_one] at h
    exact h
  have TA : Hid (∀ (B : Nat) (w : World), Kh w → w.cell? ⟨B, 0, none⟩ = some (.string s) → Calls Tryd.prog 11 #[.string key, .slice (some ⟨B, 0, none⟩) 1 1] w fun e w' => e = .returned (.string ⟨(hmac key.data.toList s.data.toList).toArray⟩) ∧ Below w.heap.size w w') := fun B w h h0 => T.out key B w (by omega) h h0
  by_cases h64 : 64 < key.size
  · have g0 : (64 : Int) < (key.size : Int) := by omega
    obtain ⟨K, hKK⟩ : ∃ K : ByteArray, ⟨(sha key.data.toList).toArray⟩ = K := ⟨_, rfl⟩
    have SM : Hid (∀ (B : Nat) (w : World), Kh w → w.cell? ⟨B, 0, none⟩ = some (.string key) → Calls Tryd.prog 21 #[.slice (some ⟨B, 0, none⟩) 1 1] w fun e w' => e = .returned (.string K) ∧ Below w.heap.size w w') := fun B w h h0 => by
      have := Sum_any (some ⟨B, 0, none⟩) [key] 1 1 rfl (by omega) w h.1 h.2 (strAt1 h0) (fun s hs => by simp at hs; subst hs; omega)
      rw [← hKK]
      simpa using this
    have TB : Hid (∀ (B : Nat) (w : World), Kh w → w.cell? ⟨B, 0, none⟩ = some (.string s) → Calls Tryd.prog 11 #[.string K, .slice (some ⟨B, 0, none⟩) 1 1] w fun e w' => e = .returned (.string ⟨(hmac key.data.toList s.data.toList).toArray⟩) ∧ Below w.heap.size w w') := fun B w h h0 => by
      have h := T.out K B w (by rw [← hKK]; show (32 : Nat) ≤ _; decide) h h0
      rw [hmac_long key.data.toList s.data.toList (by rw [hl.out]; exact h64)]
      rw [← hKK] at h ⊢
      exact h
    generalize (⟨(hmac key.data.toList s.data.toList).toArray⟩ : ByteArray) = X at *
    clear hKK T
    go_enter Tryd.func7, Tryd.ntmps7
    go_wp2_with fail
    refine Calls.mono (works4_any CT CS _ hk) ?_
    rintro e w1 ⟨rfl, hb⟩
    have B1 : Hid (Below w.heap.size w w1 ∧ Kh w1) := ⟨hb, hk.out.later hb⟩
    clear hb CT CS
    have KH1 : Hid (∀ w', Below w1.heap.size w1 w' → Kh w') := fun w' h => B1.out.2.later h
    go_wp2_with fail
    refine Calls.mono (TA.out w1.heap.size _ (B1.out.2.alloc _) (by simp [go_sem])) ?_
    rintro e w3 ⟨rfl, hb⟩
    have B3 : Hid (Below w1.heap.size w1 w3) := chain ((Below.refl _ _).alloc (Nat.le_refl _) _) hb
    clear hb TA
    go_wp2_with fail
    refine Calls.mono (SM.out w3.heap.size _ ((KH1.out _ B3.out).alloc _) (by simp [go_sem])) ?_
    rintro e w4 ⟨rfl, hb⟩
    have B4 : Hid (Below w1.heap.size w1 w4) := chain (chain B3.out ((Below.refl _ _).alloc (Nat.le_refl _) _)) hb
    clear hb SM
    go_wp2_with fail
    refine Calls.mono (TB.out w4.heap.size _ ((KH1.out _ B4.out).alloc _) (by simp [go_sem])) ?_
    rintro e w5 ⟨rfl, hb⟩
    have B5 : Hid (Below w.heap.size w w5) := chain B1.out.1 (chain (chain B4.out ((Below.refl _ _).alloc (Nat.le_refl _) _)) hb)
    clear hb TB
    go_wp2
    go_ret
    exact ⟨rfl, B5.out⟩
  · have g0 : ¬ (64 : Int) < (key.size : Int) := by omega
    obtain ⟨m, hm⟩ : ∃ m : Nat, (c % 18446744073709551616).toNat % (65 - key.size) = m := ⟨_, rfl⟩
    have hm2 : m < 65 - key.size := by rw [← hm]; exact Nat.mod_lt _ (by omega)
    have e0 : IntKind.i64.wrap (65 - (key.size : Int)) = 65 - (key.size : Int) := by rw [IntKind.wrap_i64]; omega
    have e1 : IntKind.u64.wrap (65 - (key.size : Int)) = 65 - (key.size : Int) := by rw [IntKind.wrap_u64]; omega
    have e1' : (65 - (key.size : Int)) % 18446744073709551616 = 65 - (key.size : Int) := by omega
    have e2 : (IntKind.u64.wrap c).tmod (65 - (key.size : Int)) = (m : Int) := by
      rw [IntKind.wrap_u64, Int.tmod_eq_emod_of_nonneg (by omega), ← hm]
      have h1 : c % 18446744073709551616 = (((c % 18446744073709551616).toNat : Nat) : Int) := by omega
      have h2 : 65 - (key.size : Int) = ((65 - key.size : Nat) : Int) := by omega
      rw [h2, h1]
      exact (Int.natCast_emod _ _).symm
    have e2' : (c % 18446744073709551616).tmod (65 - (key.size : Int)) = (m : Int) := by rw [← IntKind.wrap_u64]; exact e2
    have e3 : IntKind.i64.wrap (m : Int) = (m : Int) := by rw [IntKind.wrap_i64]; omega
    have e7 : ¬ (65 - (key.size : Int) = 0) := by omega
    have e8 : (key.size : Int) ≤ 64 := by omega
    have e9 : (m : Int) ≤ 64 := by omega
    obtain ⟨i0, hii, hz0, hz1, hz2⟩ := info_parts infoByte
    obtain ⟨Z, hZ⟩ : ∃ Z : ByteArray, ⟨(List.replicate m (0 : UInt8)).toArray⟩ = Z := ⟨_, rfl⟩
    have zZ : Hid (Z.size = m) := by show Z.size = m; rw [← hZ, ba_size, List.length_replicate]
    have TB : Hid (∀ (B : Nat) (w : World), Kh w → w.cell? ⟨B, 0, none⟩ = some (.string s) → Calls Tryd.prog 11 #[.string (key ++ Z), .slice (some ⟨B, 0, none⟩) 1 1] w fun e w' => e = .returned (.string ⟨(hmac key.data.toList s.data.toList).toArray⟩) ∧ Below w.heap.size w w') := fun B w h h0 => by
      have h := T.out (key ++ Z) B w (by rw [ByteArray.size_append, zZ.out]; omega) h h0
      rw [← hmac_zero key.data.toList s.data.toList m (by rw [hl.out]; omega)]
      have e : (key ++ Z).data.toList = key.data.toList ++ List.replicate m 0 := by rw [ByteArray.data_append, Array.toList_append, ← hZ]
      rw [e] at h
      exact h
    have f1 : key.size + Z.size ≤ 9223372036854775807 := by rw [zZ.out]; omega
    have f3 : ∀ w, (Op.stringOp .add key Z).run Tryd.prog w = .ok (.string (key ++ Z)) w := fun w => run_string_add_sum _ _ _ f1
    have MK : Hid (∀ w : World, ∃ w', (Instr.makeSlice 36 (.int .i64 (m : Int)) (.int .i64 (m : Int))).run Tryd.prog w = .ok (.slice (some ⟨w.heap.size, 0, none⟩) m m) w' ∧ Below w.heap.size w w' ∧ (convert 36 9 (.slice (some ⟨w.heap.size, 0, none⟩) m m)).run Tryd.prog w' = .ok (.string Z) w') := fun w => by
      obtain ⟨w', h1, h2, h3⟩ := run_make_full (P := Tryd.prog) w w.heap.size 36 5 i0 (.int .u8 0) 1 Tryd.underlying36 hii hz0 hz1 .i64 .i64 m (by rw [hz2]; omega) (by unfold maxLen; omega) (Nat.le_refl _)
      refine ⟨w', h1, (Below.refl _ _).grown h3 (Nat.le_refl _) (fun k h => by cases h), ?_⟩
      rw [← hZ]
      refine own_string (base := w.heap.size) (n := m) ?_ w' (Below.refl _ _)
      have e : (madeCells (Value.int .u8 0).cells (m * 1)).toList = bcells (List.replicate m 0) := by
        rw [Nat.mul_one]
        show (madeCells #[Value.int .u8 0] m).toList = _
        rw [toList_madeCells_one]
        simp [bcells]
      rw [← e]
      exact h2
    generalize (⟨(hmac key.data.toList s.data.toList).toArray⟩ : ByteArray) = X at *
    clear hm hm2 T hZ
    go_enter Tryd.func7, Tryd.ntmps7
    go_wp2_with fail
    refine Calls.mono (works4_any CT CS _ hk) ?_
    rintro e w1 ⟨rfl, hb⟩
    have B1 : Hid (Below w.heap.size w w1 ∧ Kh w1) := ⟨hb, hk.out.later hb⟩
    clear hb CT CS
    have KH1 : Hid (∀ w', Below w1.heap.size w1 w' → Kh w') := fun w' h => B1.out.2.later h
    obtain ⟨W, mk, bW, cv⟩ := MK.out w1
    have BW : Hid (Below w1.heap.size w1 W) := bW
    clear bW MK
    go_wp2_with fail
    refine Calls.mono (TB.out W.heap.size _ ((KH1.out _ BW.out).alloc _) (by simp [go_sem])) ?_
    rintro e w3 ⟨rfl, hb⟩
    have B3 : Hid (Below w1.heap.size w1 w3) := chain (chain BW.out ((Below.refl _ _).alloc (Nat.le_refl _) _)) hb
    clear hb TB
    go_wp2_with fail
    refine Calls.mono (TA.out w3.heap.size _ ((KH1.out _ B3.out).alloc _) (by simp [go_sem])) ?_
    rintro e w4 ⟨rfl, hb⟩
    have B4 : Hid (Below w.heap.size w w4) := chain B1.out.1 (chain (chain B3.out ((Below.refl _ _).alloc (Nat.le_refl _) _)) hb)
    clear hb TA
    go_wp2
    go_ret
    exact ⟨rfl, B4.out⟩
end Go.Proofs.YtdebfelgaiofeacDoor
