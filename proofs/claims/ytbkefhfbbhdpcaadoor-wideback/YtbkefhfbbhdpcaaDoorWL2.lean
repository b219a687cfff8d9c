/- WideBack answers true, by the layer's contracts. -/
import Derived.Test.YtbkefhfbbhdpcaaDoorWE
namespace Go.Proofs.YtbkefhfbbhdpcaaDoor
open Go.RowKit Go.Proofs.Fd Go.Proofs.Hs Go.Proofs.Cc Go.Proofs.Wd
set_option maxRecDepth 20000

set_option maxHeartbeats 1000000 in
theorem WideBack_walk (CS : Hid ShutC) (CO : Hid OpenC) (CW : Hid WrapC) (CU : Hid UnwrapC) (k b : ByteArray) (hk : k.size ≤ 140737488351232) (hb0 : b.size ≤ 140737488351232) (w : World) (hK : Hid (Kh w)) :
    Calls Tryd.prog 6 #[.string k, .string b] w fun e w' => e = .returned (.bool true) ∧ Below w.heap.size w w' := by
  have S1 : Hid (∀ w, Kh w → Calls Tryd.prog 9 #[.string k, .string b] w fun e w' => e = .returned (.tuple (shV k b)) ∧ Below w.heap.size w w') := fun w h => CS.out k b w (by show _ ≤ _; omega) (by show _ ≤ _; omega) h
  have O1 : Hid (∀ w, Kh w → Calls Tryd.prog 11 #[.string k, .string b] w fun e w' => e = .returned (.tuple (opV k b)) ∧ Below w.heap.size w w') := fun w h => CO.out k b w (by show _ ≤ _; omega) (by show _ ≤ _; omega) h
  by_cases h : wmay (b.size : Int) = 0
  · obtain ⟨h0, h1⟩ := wmay_zero _ h
    rw [shV_ok k b (by omega) (by omega)] at S1
    rw [opV_ok k b (by omega) (by omega)] at O1
    obtain ⟨A, hA⟩ : ∃ A : ByteArray, ⟨(shutl k.data.toList b.data.toList).toArray⟩ = A := ⟨_, rfl⟩
    obtain ⟨C, hC⟩ : ∃ A : ByteArray, ⟨(openl k.data.toList b.data.toList).toArray⟩ = A := ⟨_, rfl⟩
    have hl : b.data.toList.length = b.size := list_sz b
    have dA : A.data.toList = shutl k.data.toList b.data.toList := by rw [← hA]
    have dC : C.data.toList = openl k.data.toList b.data.toList := by rw [← hC]
    have sA : A.size = b.size := by rw [← list_sz, dA, shutl_len _ _ (by omega), hl]
    have sC : C.size = b.size := by rw [← list_sz, dC, openl_len _ _ (by omega), hl]
    have O2 : Hid (∀ w, Kh w → Calls Tryd.prog 11 #[.string k, .string A] w fun e w' => e = .returned (.tuple #[.string b, .int .i64 0]) ∧ Below w.heap.size w w') := fun w h => by
      have := CO.out k A w (by show _ ≤ _; omega) (by show _ ≤ _; omega) h
      rw [opV_ok k A (by omega) (by omega), dA, open_shut _ _ (by omega), ← ba_of (rfl : b.data.toList = b.data.toList)] at this
      exact this
    have S2 : Hid (∀ w, Kh w → Calls Tryd.prog 9 #[.string k, .string C] w fun e w' => e = .returned (.tuple #[.string b, .int .i64 0]) ∧ Below w.heap.size w w') := fun w h => by
      have := CS.out k C w (by show _ ≤ _; omega) (by show _ ≤ _; omega) h
      rw [shV_ok k C (by omega) (by omega), dC, shut_open _ _ (by omega), ← ba_of (rfl : b.data.toList = b.data.toList)] at this
      exact this
    rw [hA] at S1
    rw [hC] at O1
    have sAi : (A.size : Int) = (b.size : Int) := by omega
    have sCi : (C.size : Int) = (b.size : Int) := by omega
    have g1 : ¬ (b.size : Int) < 64 := by omega
    have g2 : ¬ 8192 < (b.size : Int) := by omega
    clear hA hC dA dC sA sC hl CS CO h
    go_enter Tryd.func6, Tryd.ntmps6
    go_wp2_with fail
    refine Calls.mono (works6_any CW CU _ hK.out) ?_
    rintro e w0 ⟨rfl, hb⟩
    have B0 : Hid (Below w.heap.size w w0 ∧ Kh w0) := ⟨hb, hK.out.later hb⟩
    clear hb
    go_wp2_with fail
    refine Calls.mono (S1.out _ B0.out.2) ?_
    rintro e w1 ⟨rfl, hb⟩
    have B1 : Hid (Below w.heap.size w w1 ∧ Kh w1) := ⟨chain B0.out.1 hb, B0.out.2.later hb⟩
    clear hb S1 B0
    go_wp2_with fail
    refine Calls.mono (O1.out _ B1.out.2) ?_
    rintro e w2 ⟨rfl, hb⟩
    have B2 : Hid (Below w.heap.size w w2 ∧ Kh w2) := ⟨chain B1.out.1 hb, B1.out.2.later hb⟩
    clear hb O1 B1
    go_wp2_with fail
    refine Calls.mono (O2.out _ B2.out.2) ?_
    rintro e w3 ⟨rfl, hb⟩
    have B3 : Hid (Below w.heap.size w w3 ∧ Kh w3) := ⟨chain B2.out.1 hb, B2.out.2.later hb⟩
    clear hb O2 B2
    go_wp2_with fail
    refine Calls.mono (S2.out _ B3.out.2) ?_
    rintro e w4 ⟨rfl, hb⟩
    have B4 : Hid (Below w.heap.size w w4) := chain B3.out.1 hb
    clear hb S2 B3
    go_wp2
    go_ret
    exact ⟨rfl, B4.out⟩
  · rw [shV_no k b h] at S1
    rw [opV_no k b h] at O1
    have gb : (b.size : Int) < 64 ∨ 8192 < (b.size : Int) := by
      by_cases g : (b.size : Int) < 64
      · exact .inl g
      · by_cases g2 : 8192 < (b.size : Int)
        · exact .inr g2
        · exact absurd (wmay_ok _ (by omega) (by omega)) h
    generalize wmay (b.size : Int) = m at *
    clear CS CO
    rcases gb with gb | gb
    · go_enter Tryd.func6, Tryd.ntmps6
      go_wp2_with fail
      refine Calls.mono (works6_any CW CU _ hK.out) ?_
      rintro e w0 ⟨rfl, hb⟩
      have B0 : Hid (Below w.heap.size w w0 ∧ Kh w0) := ⟨hb, hK.out.later hb⟩
      clear hb
      go_wp2_with fail
      refine Calls.mono (S1.out _ B0.out.2) ?_
      rintro e w1 ⟨rfl, hb⟩
      have B1 : Hid (Below w.heap.size w w1 ∧ Kh w1) := ⟨chain B0.out.1 hb, B0.out.2.later hb⟩
      clear hb S1 B0
      go_wp2_with fail
      refine Calls.mono (O1.out _ B1.out.2) ?_
      rintro e w2 ⟨rfl, hb⟩
      have B2 : Hid (Below w.heap.size w w2) := chain B1.out.1 hb
      clear hb O1 B1
      go_wp2
      go_ret
      exact ⟨by show Ending.returned (.bool (m != 0)) = _; rw [show (m != 0) = true by simpa using h], B2.out⟩
    · have gb2 : ¬ (b.size : Int) < 64 := by omega
      go_enter Tryd.func6, Tryd.ntmps6
      go_wp2_with fail
      refine Calls.mono (works6_any CW CU _ hK.out) ?_
      rintro e w0 ⟨rfl, hb⟩
      have B0 : Hid (Below w.heap.size w w0 ∧ Kh w0) := ⟨hb, hK.out.later hb⟩
      clear hb
      go_wp2_with fail
      refine Calls.mono (S1.out _ B0.out.2) ?_
      rintro e w1 ⟨rfl, hb⟩
      have B1 : Hid (Below w.heap.size w w1 ∧ Kh w1) := ⟨chain B0.out.1 hb, B0.out.2.later hb⟩
      clear hb S1 B0
      go_wp2_with fail
      refine Calls.mono (O1.out _ B1.out.2) ?_
      rintro e w2 ⟨rfl, hb⟩
      have B2 : Hid (Below w.heap.size w w2) := chain B1.out.1 hb
      clear hb O1 B1
      go_wp2
      go_ret
      exact ⟨by show Ending.returned (.bool (m != 0)) = _; rw [show (m != 0) = true by simpa using h], B2.out⟩
end Go.Proofs.YtbkefhfbbhdpcaaDoor
