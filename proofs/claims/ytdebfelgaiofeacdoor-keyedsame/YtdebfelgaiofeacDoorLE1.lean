/- KeyedSame and KeyedDerives answer true, by the layer's contracts. -/
import Derived.Test.YtdebfelgaiofeacDoorKE
namespace Go.Proofs.YtdebfelgaiofeacDoor
open Go.RowKit Go.Proofs.Fd Go.Proofs.Hs

set_option maxHeartbeats 1000000 in
theorem KeyedSame_walk (CT : Hid TagC) (CS : Hid SameC) (CE : Hid ExtractC) (a b : ByteArray) (ha : a.size ≤ 140737488351232) (hb0 : b.size ≤ 140737488351232) (w : World) (hk : Hid (Kh w)) :
    Calls Tryd.prog 5 #[.string a, .string b] w fun e w' => e = .returned (.bool true) ∧ Below w.heap.size w w' := by
  have S1 : Hid (∀ w, Calls Tryd.prog 15 #[.string a, .string b] w fun e w' => e = .returned (.bool (a.toList == b.toList)) ∧ Below w.heap.size w w') := fun w => CS.out a b w (by show _ ≤ _; omega) (by show _ ≤ _; omega)
  have E1 : Hid (∀ w, Kh w → Calls Tryd.prog 16 #[.string a, .string b] w fun e w' => e = .returned (.string ⟨(hmac a.data.toList b.data.toList).toArray⟩) ∧ Below w.heap.size w w') := fun w h => CE.out a b w (by show _ ≤ _; omega) (by show _ ≤ _; omega) h
  have T1 : Hid (∀ w, Calls Tryd.prog 12 #[.string a, .string b] w fun e w' => e = .returned (.string ⟨(hmac a.data.toList b.data.toList).toArray⟩) ∧ Below w.heap.size w w') := fun w => rTag_any a b (by show _ ≤ _; omega) (by show _ ≤ _; omega) w
  generalize (⟨(hmac a.data.toList b.data.toList).toArray⟩ : ByteArray) = X at *
  clear CE ha hb0
  go_enter Tryd.func5, Tryd.ntmps5
  go_wp2_with fail
  refine Calls.mono (S1.out _) ?_
  rintro e w1 ⟨rfl, hb⟩
  have B1 : Hid (Below w.heap.size w w1 ∧ Kh w1) := ⟨hb, hk.out.later hb⟩
  clear hb S1
  go_wp2_with fail
  refine Calls.mono (E1.out _ B1.out.2) ?_
  rintro e w2 ⟨rfl, hb⟩
  have B2 : Hid (Below w.heap.size w w2 ∧ Kh w2) := ⟨chain B1.out.1 hb, B1.out.2.later hb⟩
  clear hb E1
  go_wp2_with fail
  refine Calls.mono (T1.out _) ?_
  rintro e w3 ⟨rfl, hb⟩
  have B3 : Hid (Below w.heap.size w w3 ∧ Kh w3) := ⟨chain B2.out.1 hb, B2.out.2.later hb⟩
  clear hb T1
  go_wp2_with fail
  refine Calls.mono (works4_any CT CS _ B3.out.2) ?_
  rintro e w4 ⟨rfl, hb⟩
  have B4 : Hid (Below w.heap.size w w4) := chain B3.out.1 hb
  clear hb
  go_wp2
  go_ret
  exact ⟨rfl, B4.out⟩

set_option maxHeartbeats 1000000 in
theorem KeyedDerives_walk (CT : Hid TagC) (CS : Hid SameC) (CX : Hid ExpandC) (CD : Hid DeriveC) (a b : ByteArray) (ha : a.size ≤ 140737488351232) (hb0 : b.size ≤ 140737488351232) (n : Int) (w : World) (hk : Hid (Kh w)) :
    Calls Tryd.prog 6 #[.string a, .string b, .int .i64 n] w fun e w' => e = .returned (.bool true) ∧ Below w.heap.size w w' := by
  have X1 : Hid (∀ w, Kh w → Calls Tryd.prog 17 #[.string a, .string b, .int .i64 n] w fun e w' => e = .returned (.tuple (xpV a b n)) ∧ Below w.heap.size w w') := fun w h => CX.out a b n w (by show _ ≤ _; omega) (by show _ ≤ _; omega) h
  have X2 : Hid (∀ w, Calls Tryd.prog 18 #[.string a, .string b, .int .i64 n] w fun e w' => e = .returned (.tuple (xpV a b n)) ∧ Below w.heap.size w w') := fun w => rExpand_all a b n w (by show _ ≤ _; omega) (by show _ ≤ _; omega)
  have D1 : Hid (∀ w, Kh w → Calls Tryd.prog 19 #[.string a, .string b, .int .i64 n] w fun e w' => e = .returned (.tuple (drV a b n)) ∧ Below w.heap.size w w') := fun w h => CD.out a b n w (by show _ ≤ _; omega) (by show _ ≤ _; omega) h
  have D2 : Hid (∀ w, Calls Tryd.prog 20 #[.string a, .string b, .int .i64 n] w fun e w' => e = .returned (.tuple (drV a b n)) ∧ Below w.heap.size w w') := fun w => rDerive_all a b n w (by show _ ≤ _; omega) (by show _ ≤ _; omega)
  obtain ⟨X, e1, hX⟩ := xpV_form a b n
  obtain ⟨D, e2, hD⟩ := drV_form a b n
  rw [hX] at X1 X2
  rw [hD] at D1 D2
  clear hX hD CX CD ha hb0
  by_cases hg : 2000 < n ∧ n ≤ 8160
  · obtain ⟨g1, g2⟩ := hg
    go_enter Tryd.func6, Tryd.ntmps6
    go_wp2_with fail
    refine Calls.mono (works4_any CT CS _ hk) ?_
    rintro e w4 ⟨rfl, hb⟩
    have B4 : Hid (Below w.heap.size w w4) := hb
    clear hb
    go_wp2
    go_ret
    exact ⟨rfl, B4.out⟩
  · by_cases g1 : 2000 < n
    · have g2 : ¬ n ≤ 8160 := by omega
      have g3 : decide (n ≤ 8160) = false := by simpa using g2
      clear hg
      go_enter Tryd.func6, Tryd.ntmps6
      go_wp2_with fail
      refine Calls.mono (X1.out _ hk.out) ?_
      rintro e w1 ⟨rfl, hb⟩
      have B1 : Hid (Below w.heap.size w w1 ∧ Kh w1) := ⟨hb, hk.out.later hb⟩
      clear hb X1
      go_wp2_with fail
      refine Calls.mono (X2.out _) ?_
      rintro e w2 ⟨rfl, hb⟩
      have B2 : Hid (Below w.heap.size w w2 ∧ Kh w2) := ⟨chain B1.out.1 hb, B1.out.2.later hb⟩
      clear hb X2
      go_wp2_with fail
      refine Calls.mono (D1.out _ B2.out.2) ?_
      rintro e w3 ⟨rfl, hb⟩
      have B3 : Hid (Below w.heap.size w w3 ∧ Kh w3) := ⟨chain B2.out.1 hb, B2.out.2.later hb⟩
      clear hb D1
      go_wp2_with fail
      refine Calls.mono (D2.out _) ?_
      rintro e w4 ⟨rfl, hb⟩
      have B4 : Hid (Below w.heap.size w w4 ∧ Kh w4) := ⟨chain B3.out.1 hb, B3.out.2.later hb⟩
      clear hb D2
      go_wp2_with fail
      refine Calls.mono (works4_any CT CS _ B4.out.2) ?_
      rintro e w5 ⟨rfl, hb⟩
      have B5 : Hid (Below w.heap.size w w5) := chain B4.out.1 hb
      clear hb
      go_wp2
      go_ret
      exact ⟨rfl, B5.out⟩
    · have g3 : decide (2000 < n) = false := by simpa using g1
      clear hg
      go_enter Tryd.func6, Tryd.ntmps6
      go_wp2_with fail
      refine Calls.mono (X1.out _ hk.out) ?_
      rintro e w1 ⟨rfl, hb⟩
      have B1 : Hid (Below w.heap.size w w1 ∧ Kh w1) := ⟨hb, hk.out.later hb⟩
      clear hb X1
      go_wp2_with fail
      refine Calls.mono (X2.out _) ?_
      rintro e w2 ⟨rfl, hb⟩
      have B2 : Hid (Below w.heap.size w w2 ∧ Kh w2) := ⟨chain B1.out.1 hb, B1.out.2.later hb⟩
      clear hb X2
      go_wp2_with fail
      refine Calls.mono (D1.out _ B2.out.2) ?_
      rintro e w3 ⟨rfl, hb⟩
      have B3 : Hid (Below w.heap.size w w3 ∧ Kh w3) := ⟨chain B2.out.1 hb, B2.out.2.later hb⟩
      clear hb D1
      go_wp2_with fail
      refine Calls.mono (D2.out _) ?_
      rintro e w4 ⟨rfl, hb⟩
      have B4 : Hid (Below w.heap.size w w4 ∧ Kh w4) := ⟨chain B3.out.1 hb, B3.out.2.later hb⟩
      clear hb D2
      go_wp2_with fail
      refine Calls.mono (works4_any CT CS _ B4.out.2) ?_
      rintro e w5 ⟨rfl, hb⟩
      have B5 : Hid (Below w.heap.size w w5) := chain B4.out.1 hb
      clear hb
      go_wp2
      go_ret
      exact ⟨rfl, B5.out⟩
end Go.Proofs.YtdebfelgaiofeacDoor
