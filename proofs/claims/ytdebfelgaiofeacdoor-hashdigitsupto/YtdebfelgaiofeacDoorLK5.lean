/- HashDigits answers true. -/
import Derived.Test.YtdebfelgaiofeacDoorK8
namespace Go.Proofs.YtdebfelgaiofeacDoor
open Go.RowKit Go.Proofs.Fd Go.Proofs.Hs

theorem dg_inj : ∀ m, m < 16 → ∀ n, n < 16 → dg m = dg n → m = n := by decide +kernel
theorem hx_inj {c d : UInt8} (h : hx c = hx d) : c = d := by
  unfold hx at h
  simp only [List.cons.injEq, and_true] at h
  have hc := c.toNat_lt
  have hd := d.toNat_lt
  have h1 := dg_inj _ (by omega) _ (by omega) h.1
  have h2 := dg_inj _ (by omega) _ (by omega) h.2
  apply UInt8.toNat_inj.1
  omega
theorem hxs_inj {l r : List UInt8} (h : hxs l = hxs r) : l = r := by
  induction l generalizing r with
  | nil =>
    have := congrArg List.length h
    rw [hxs_len, hxs_len] at this
    exact (List.length_eq_zero_iff.1 (by simp at this; omega)).symm
  | cons c l ih =>
    cases r with
    | nil =>
      have := congrArg List.length h
      rw [hxs_len, hxs_len] at this
      simp at this
    | cons d r =>
      unfold hxs at h ih
      rw [List.flatMap_cons, List.flatMap_cons] at h
      have h2 := List.append_inj h rfl
      rw [hx_inj h2.1, ih h2.2]

theorem app_list (a b : ByteArray) : (a ++ b).data.toList = a.data.toList ++ b.data.toList := by simp
theorem hxs_app (l r : List UInt8) : hxs (l ++ r) = hxs l ++ hxs r := by unfold hxs; rw [List.flatMap_append]

set_option maxHeartbeats 1000000 in
theorem HashDigits_walk (a b : ByteArray) (hs : 2 * (a.size + b.size) ≤ 140737488355328) (w : World) (hk : Hid (Kh w)) :
    Calls Tryd.prog 3 #[.string a, .string b] w fun e w' => e = .returned (.bool true) ∧ Below w.heap.size w w' := by
  obtain ⟨A, hA⟩ : ∃ A : ByteArray, ⟨(hxs a.data.toList).toArray⟩ = A := ⟨_, rfl⟩
  obtain ⟨B, hB⟩ : ∃ A : ByteArray, ⟨(hxs b.data.toList).toArray⟩ = A := ⟨_, rfl⟩
  have H1 : Hid (∀ w, Calls Tryd.prog 10 #[.string a] w fun e w' => e = .returned (.string A) ∧ Below w.heap.size w w') := fun w => hA ▸ Hex_any a (by omega) w
  have H2 : Hid (∀ w, Calls Tryd.prog 10 #[.string b] w fun e w' => e = .returned (.string B) ∧ Below w.heap.size w w') := fun w => hB ▸ Hex_any b (by omega) w
  have H3 : Hid (∀ w, Calls Tryd.prog 10 #[.string (a ++ b)] w fun e w' => e = .returned (.string (A ++ B)) ∧ Below w.heap.size w w') := fun w => by
    have h := Hex_any (a ++ b) (by rw [ByteArray.size_append]; exact hs) w
    have e : (⟨(hxs (a ++ b).data.toList).toArray⟩ : ByteArray) = A ++ B := by
      rw [← hA, ← hB]
      apply ByteArray.ext
      rw [app_list, hxs_app]
      simp
    rw [e] at h
    exact h
  have e1 : A.size = 2 * a.size := by
    rw [← hA]
    show (hxs a.data.toList).toArray.size = _
    have := hxs_len a.data.toList
    simp at this ⊢
    exact this
  have e2 : (A.toList == B.toList) = (a.toList == b.toList) := by
    rw [ByteArray.toList_eq, ByteArray.toList_eq, ByteArray.toList_eq, ByteArray.toList_eq, ← hA, ← hB]
    by_cases h : a.data.toList = b.data.toList
    · rw [h]; simp
    · have h2 : ¬ hxs a.data.toList = hxs b.data.toList := fun e => h (hxs_inj e)
      rw [show ((a.data.toList == b.data.toList) = false) by simpa using h]
      simpa using h2
  have e3 : ((2 * a.size : Nat) : Int) = 2 * (a.size : Int) := by omega
  have e4 : IntKind.i64.wrap (2 * (a.size : Int)) = 2 * (a.size : Int) := by rw [IntKind.wrap_i64]; omega
  have e5 : (A.size : Int) = 2 * (a.size : Int) := by omega
  have e6 : B.size = 2 * b.size := by
    rw [← hB]
    show (hxs b.data.toList).toArray.size = _
    have := hxs_len b.data.toList
    simp at this ⊢
    exact this
  have f1 : a.size + b.size ≤ 9223372036854775807 := by omega
  have f2 : A.size + B.size ≤ 9223372036854775807 := by omega
  have f3 : ¬ 9223372036854775807 < a.size + b.size := by omega
  have f4 : ¬ 9223372036854775807 < A.size + B.size := by omega
  clear hA hB hs e6
  go_enter Tryd.func3, Tryd.ntmps3
  go_wp2_with fail
  refine Calls.mono (works_any _ hk.out) ?_
  rintro e w1 ⟨rfl, hb⟩
  have B1 : Hid (Below w.heap.size w w1) := hb
  clear hb
  go_wp2_with fail
  refine Calls.mono (H1.out _) ?_
  rintro e w2 ⟨rfl, hb⟩
  have B2 : Hid (Below w.heap.size w w2) := chain B1.out hb
  clear hb
  go_wp2_with fail
  refine Calls.mono (H2.out _) ?_
  rintro e w3 ⟨rfl, hb⟩
  have B3 : Hid (Below w.heap.size w w3) := chain B2.out hb
  clear hb
  go_wp2_with fail
  refine Calls.mono (H3.out _) ?_
  rintro e w4 ⟨rfl, hb⟩
  have B4 : Hid (Below w.heap.size w w4) := chain B3.out hb
  clear hb
  go_wp2
  go_ret
  exact ⟨rfl, B4.out⟩
end Go.Proofs.YtdebfelgaiofeacDoor
