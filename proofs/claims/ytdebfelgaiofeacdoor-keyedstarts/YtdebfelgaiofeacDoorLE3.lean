/- KeyedStarts answers true, by the layer's contracts. -/
import Derived.Test.YtdebfelgaiofeacDoorKE
namespace Go.Proofs.YtdebfelgaiofeacDoor
open Go.RowKit Go.Proofs.Fd Go.Proofs.Hs

theorem drv_len (s l : List UInt8) (n : Nat) : (drv s l n).length = n := xpn_len _ _ _
theorem drv_take (s l : List UInt8) (n m : Nat) (h : n ≤ m) : (drv s l m).take n = drv s l n := xpn_take _ _ _ _ h

set_option maxHeartbeats 1000000 in
theorem KeyedStarts_walk (CT : Hid TagC) (CS : Hid SameC) (CE : Hid ExtractC) (CX : Hid ExpandC) (CD : Hid DeriveC) (a b : ByteArray) (ha : a.size ≤ 140737488351232) (hb0 : b.size ≤ 140737488351232) (c : Int) (w : World) (hk : Hid (Kh w)) :
    Calls Tryd.prog 8 #[.string a, .string b, .int .i64 c] w fun e w' => e = .returned (.bool true) ∧ Below w.heap.size w w' := by
  obtain ⟨m, hm⟩ : ∃ m : Nat, (c % 18446744073709551616).toNat % 1000 = m := ⟨_, rfl⟩
  have m1000 : m < 1000 := by omega
  have e2 : (IntKind.u64.wrap c).tmod 1000 = (m : Int) := by
    rw [IntKind.wrap_u64, Int.tmod_eq_emod_of_nonneg (by omega)]; omega
  have e2' : (c % 18446744073709551616).tmod 1000 = (m : Int) := by rw [← IntKind.wrap_u64]; exact e2
  have e2'' : c % 18446744073709551616 % 1000 = (m : Int) := by omega
  have e3 : IntKind.i64.wrap (m : Int) = (m : Int) := by rw [IntKind.wrap_i64]; omega
  obtain ⟨q, hq⟩ : ∃ q, m + 100 = q := ⟨_, rfl⟩
  have e4 : IntKind.i64.wrap ((m : Int) + 100) = (q : Int) := by rw [IntKind.wrap_i64]; omega
  have e4' : (m : Int) + 100 = (q : Int) := by omega
  have e4'' : IntKind.i64.wrap (q : Int) = (q : Int) := by rw [IntKind.wrap_i64]; omega
  have e5 : (m : Int) ≤ (q : Int) := by omega
  have V : ∀ j : Nat, j ≤ 8160 → drV a b (j : Int) = #[.string ⟨(drv a.data.toList b.data.toList j).toArray⟩, .int .i64 0] := fun j hj => by
    unfold drV; rw [if_neg (by omega)]; rfl
  have D1 : Hid (∀ w, Kh w → Calls Tryd.prog 19 #[.string a, .string b, .int .i64 (m : Int)] w fun e w' => e = .returned (.tuple #[.string ⟨(drv a.data.toList b.data.toList m).toArray⟩, .int .i64 0]) ∧ Below w.heap.size w w') := fun w h => by
    have h := CD.out a b (m : Int) w (by show _ ≤ _; omega) (by show _ ≤ _; omega) h
    rw [V m (by omega)] at h
    exact h
  have D2 : Hid (∀ w, Kh w → Calls Tryd.prog 19 #[.string a, .string b, .int .i64 (q : Int)] w fun e w' => e = .returned (.tuple #[.string ⟨(drv a.data.toList b.data.toList q).toArray⟩, .int .i64 0]) ∧ Below w.heap.size w w') := fun w h => by
    have h := CD.out a b (q : Int) w (by show _ ≤ _; omega) (by show _ ≤ _; omega) h
    rw [V q (by omega)] at h
    exact h
  have E1 : Hid (∀ w, Kh w → Calls Tryd.prog 16 #[.string ⟨#[100, 111, 118, 101, 99, 111, 116, 101]⟩, .string a] w fun e w' => e = .returned (.string ⟨(hmac [100, 111, 118, 101, 99, 111, 116, 101] a.data.toList).toArray⟩) ∧ Below w.heap.size w w') := fun w h => CE.out ⟨#[100, 111, 118, 101, 99, 111, 116, 101]⟩ a w (by show (8 : Nat) ≤ _; decide) (by show _ ≤ _; omega) h
  have X1 : Hid (∀ w, Kh w → Calls Tryd.prog 17 #[.string ⟨(hmac [100, 111, 118, 101, 99, 111, 116, 101] a.data.toList).toArray⟩, .string b, .int .i64 (m : Int)] w fun e w' => e = .returned (.tuple #[.string ⟨(drv a.data.toList b.data.toList m).toArray⟩, .int .i64 0]) ∧ Below w.heap.size w w') := fun w h => by
    have h := CX.out ⟨(hmac [100, 111, 118, 101, 99, 111, 116, 101] a.data.toList).toArray⟩ b (m : Int) w (by show _ ≤ _; rw [ba_size, hmac_len]; decide) (by show _ ≤ _; omega) h
    unfold xpV at h
    rw [if_neg (by omega)] at h
    exact h
  have zA : (⟨(drv a.data.toList b.data.toList m).toArray⟩ : ByteArray).size = m := by rw [ba_size, drv_len]
  have zB : (⟨(drv a.data.toList b.data.toList q).toArray⟩ : ByteArray).size = q := by rw [ba_size, drv_len]
  have EX : (⟨(drv a.data.toList b.data.toList q).toArray⟩ : ByteArray).extract 0 m = ⟨(drv a.data.toList b.data.toList m).toArray⟩ := by
    apply ByteArray.ext
    rw [← drv_take a.data.toList b.data.toList m q (by omega), ByteArray.data_extract]
    simp
  generalize (⟨(drv a.data.toList b.data.toList m).toArray⟩ : ByteArray) = A at *
  generalize (⟨(drv a.data.toList b.data.toList q).toArray⟩ : ByteArray) = Bq at *
  generalize (⟨(hmac [100, 111, 118, 101, 99, 111, 116, 101] a.data.toList).toArray⟩ : ByteArray) = K at *
  clear hm hq V CE CX CD ha hb0 m1000
  go_enter Tryd.func8, Tryd.ntmps8
  go_wp2_with fail
  refine Calls.mono (works4_any CT CS _ hk) ?_
  rintro e w1 ⟨rfl, hb⟩
  have B1 : Hid (Below w.heap.size w w1 ∧ Kh w1) := ⟨hb, hk.out.later hb⟩
  clear hb CT CS
  go_wp2_with fail
  refine Calls.mono (D1.out _ B1.out.2) ?_
  rintro e w2 ⟨rfl, hb⟩
  have B2 : Hid (Below w.heap.size w w2 ∧ Kh w2) := ⟨chain B1.out.1 hb, B1.out.2.later hb⟩
  clear hb D1
  go_wp2_with fail
  refine Calls.mono (D2.out _ B2.out.2) ?_
  rintro e w3 ⟨rfl, hb⟩
  have B3 : Hid (Below w.heap.size w w3 ∧ Kh w3) := ⟨chain B2.out.1 hb, B2.out.2.later hb⟩
  clear hb D2
  go_wp2_with fail
  refine Calls.mono (E1.out _ B3.out.2) ?_
  rintro e w4 ⟨rfl, hb⟩
  have B4 : Hid (Below w.heap.size w w4 ∧ Kh w4) := ⟨chain B3.out.1 hb, B3.out.2.later hb⟩
  clear hb E1
  go_wp2_with fail
  refine Calls.mono (X1.out _ B4.out.2) ?_
  rintro e w5 ⟨rfl, hb⟩
  have B5 : Hid (Below w.heap.size w w5) := chain B4.out.1 hb
  clear hb X1
  go_wp2
  go_ret
  exact ⟨rfl, B5.out⟩
end Go.Proofs.YtdebfelgaiofeacDoor
