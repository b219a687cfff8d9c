/- WideTurns, WideWraps and WideUnwraps answer true, by the layer's contracts. -/
import Derived.Test.YtbkefhfbbhdpcaaDoorWR3
namespace Go.Proofs.YtbkefhfbbhdpcaaDoor
open Go.RowKit Go.Proofs.Fd Go.Proofs.Hs Go.Proofs.Cc Go.Proofs.Wd
set_option maxRecDepth 20000

set_option maxHeartbeats 1000000 in
theorem WideTurns_walk (CS : Hid ShutC) (CO : Hid OpenC) (CW : Hid WrapC) (CU : Hid UnwrapC) (k b : ByteArray) (hk : k.size ≤ 140737488351232) (hb0 : b.size ≤ 140737488351232) (w : World) (hK : Hid (Kh w)) :
    Calls Tryd.prog 3 #[.string k, .string b] w fun e w' => e = .returned (.bool true) ∧ Below w.heap.size w w' := by
  have S1 : Hid (∀ w, Kh w → Calls Tryd.prog 9 #[.string k, .string b] w fun e w' => e = .returned (.tuple (shV k b)) ∧ Below w.heap.size w w') := fun w h => CS.out k b w (by show _ ≤ _; omega) (by show _ ≤ _; omega) h
  have S2 : Hid (∀ w, Calls Tryd.prog 10 #[.string k, .string b] w fun e w' => e = .returned (.tuple (shV k b)) ∧ Below w.heap.size w w') := fun w => rShut_all k b (by show _ ≤ _; omega) w
  have O1 : Hid (∀ w, Kh w → Calls Tryd.prog 11 #[.string k, .string b] w fun e w' => e = .returned (.tuple (opV k b)) ∧ Below w.heap.size w w') := fun w h => CO.out k b w (by show _ ≤ _; omega) (by show _ ≤ _; omega) h
  have O2 : Hid (∀ w, Calls Tryd.prog 12 #[.string k, .string b] w fun e w' => e = .returned (.tuple (opV k b)) ∧ Below w.heap.size w w') := fun w => rOpen_all k b (by show _ ≤ _; omega) w
  obtain ⟨X, e1, hX⟩ := shV_form k b
  obtain ⟨Y, e2, hY⟩ := opV_form k b
  rw [hX] at S1 S2
  rw [hY] at O1 O2
  clear hX hY CS CO hk hb0
  go_enter Tryd.func3, Tryd.ntmps3
  go_wp2_with fail
  refine Calls.mono (S1.out _ hK.out) ?_
  rintro e w1 ⟨rfl, hb⟩
  have B1 : Hid (Below w.heap.size w w1 ∧ Kh w1) := ⟨hb, hK.out.later hb⟩
  clear hb S1
  go_wp2_with fail
  refine Calls.mono (S2.out _) ?_
  rintro e w2 ⟨rfl, hb⟩
  have B2 : Hid (Below w.heap.size w w2 ∧ Kh w2) := ⟨chain B1.out.1 hb, B1.out.2.later hb⟩
  clear hb S2 B1
  go_wp2_with fail
  refine Calls.mono (O1.out _ B2.out.2) ?_
  rintro e w3 ⟨rfl, hb⟩
  have B3 : Hid (Below w.heap.size w w3 ∧ Kh w3) := ⟨chain B2.out.1 hb, B2.out.2.later hb⟩
  clear hb O1 B2
  go_wp2_with fail
  refine Calls.mono (O2.out _) ?_
  rintro e w4 ⟨rfl, hb⟩
  have B4 : Hid (Below w.heap.size w w4 ∧ Kh w4) := ⟨chain B3.out.1 hb, B3.out.2.later hb⟩
  clear hb O2 B3
  go_wp2_with fail
  refine Calls.mono (works6_any CW CU _ B4.out.2) ?_
  rintro e w5 ⟨rfl, hb⟩
  have B5 : Hid (Below w.heap.size w w5) := chain B4.out.1 hb
  clear hb B4
  go_wp2
  go_ret
  exact ⟨rfl, B5.out⟩

set_option maxHeartbeats 1000000 in
theorem WideWraps_walk (CW : Hid WrapC) (CU : Hid UnwrapC) (k t : ByteArray) (n : Int) (hk : k.size ≤ 140737488351232) (ht : t.size ≤ 140737488351232) (w : World) (hK : Hid (Kh w)) :
    Calls Tryd.prog 4 #[.string k, .string t, .int .i64 n] w fun e w' => e = .returned (.bool true) ∧ Below w.heap.size w w' := by
  have S1 : Hid (∀ w, Kh w → Calls Tryd.prog 14 #[.string k, .string t, .int .i64 n] w fun e w' => e = .returned (.tuple (wrV k t n)) ∧ Below w.heap.size w w') := fun w h => CW.out k t n w (by show _ ≤ _; omega) (by show _ ≤ _; omega) h
  have S2 : Hid (∀ w, Calls Tryd.prog 15 #[.string k, .string t, .int .i64 n] w fun e w' => e = .returned (.tuple (wrV k t n)) ∧ Below w.heap.size w w') := fun w => rWrap_all k t n (by show _ ≤ _; omega) w
  obtain ⟨X, e1, hX⟩ := wrV_form k t n
  rw [hX] at S1 S2
  clear hX hk ht
  go_enter Tryd.func4, Tryd.ntmps4
  go_wp2_with fail
  refine Calls.mono (S1.out _ hK.out) ?_
  rintro e w1 ⟨rfl, hb⟩
  have B1 : Hid (Below w.heap.size w w1 ∧ Kh w1) := ⟨hb, hK.out.later hb⟩
  clear hb S1
  go_wp2_with fail
  refine Calls.mono (S2.out _) ?_
  rintro e w2 ⟨rfl, hb⟩
  have B2 : Hid (Below w.heap.size w w2 ∧ Kh w2) := ⟨chain B1.out.1 hb, B1.out.2.later hb⟩
  clear hb S2 B1
  go_wp2_with fail
  refine Calls.mono (works6_any CW CU _ B2.out.2) ?_
  rintro e w5 ⟨rfl, hb⟩
  have B5 : Hid (Below w.heap.size w w5) := chain B2.out.1 hb
  clear hb B2
  go_wp2
  go_ret
  exact ⟨rfl, B5.out⟩

set_option maxHeartbeats 1000000 in
theorem WideUnwraps_walk (CW : Hid WrapC) (CU : Hid UnwrapC) (k b : ByteArray) (hk : k.size ≤ 140737488351232) (hb0 : b.size ≤ 140737488351232) (w : World) (hK : Hid (Kh w)) :
    Calls Tryd.prog 5 #[.string k, .string b] w fun e w' => e = .returned (.bool true) ∧ Below w.heap.size w w' := by
  have S1 : Hid (∀ w, Kh w → Calls Tryd.prog 16 #[.string k, .string b] w fun e w' => e = .returned (.tuple (uwV k b)) ∧ Below w.heap.size w w') := fun w h => CU.out k b w (by show _ ≤ _; omega) (by show _ ≤ _; omega) h
  have S2 : Hid (∀ w, Calls Tryd.prog 17 #[.string k, .string b] w fun e w' => e = .returned (.tuple (uwV k b)) ∧ Below w.heap.size w w') := fun w => rUnwrap_all k b (by show _ ≤ _; omega) w
  obtain ⟨X, e1, hX⟩ := uwV_form k b
  rw [hX] at S1 S2
  clear hX hk hb0
  go_enter Tryd.func5, Tryd.ntmps5
  go_wp2_with fail
  refine Calls.mono (S1.out _ hK.out) ?_
  rintro e w1 ⟨rfl, hb⟩
  have B1 : Hid (Below w.heap.size w w1 ∧ Kh w1) := ⟨hb, hK.out.later hb⟩
  clear hb S1
  go_wp2_with fail
  refine Calls.mono (S2.out _) ?_
  rintro e w2 ⟨rfl, hb⟩
  have B2 : Hid (Below w.heap.size w w2 ∧ Kh w2) := ⟨chain B1.out.1 hb, B1.out.2.later hb⟩
  clear hb S2 B1
  go_wp2_with fail
  refine Calls.mono (works6_any CW CU _ B2.out.2) ?_
  rintro e w5 ⟨rfl, hb⟩
  have B5 : Hid (Below w.heap.size w w5) := chain B2.out.1 hb
  clear hb B2
  go_wp2
  go_ret
  exact ⟨rfl, B5.out⟩
end Go.Proofs.YtbkefhfbbhdpcaaDoor
