/- WideText answers true, by the layer's contracts. -/
import Derived.Test.YtbkefhfbbhdpcaaDoorWE
namespace Go.Proofs.YtbkefhfbbhdpcaaDoor
open Go.RowKit Go.Proofs.Fd Go.Proofs.Hs Go.Proofs.Cc Go.Proofs.Wd
set_option maxRecDepth 20000

set_option maxHeartbeats 1000000 in
theorem WideText_walk (CW : Hid WrapC) (CU : Hid UnwrapC) (k t : ByteArray) (m : Int) (hk : k.size ≤ 140737488351232) (ht : t.size ≤ 140737488351232) (w : World) (hK : Hid (Kh w)) :
    Calls Tryd.prog 7 #[.string k, .string t, .int .i64 m] w fun e w' => e = .returned (.bool true) ∧ Below w.heap.size w w' := by
  by_cases hl : 8000 < t.size
  · have hl' : (8000 : Int) < (t.size : Int) := by omega
    go_enter Tryd.func7, Tryd.ntmps7
    go_wp2_with fail
    refine Calls.mono (works6_any CW CU _ hK.out) ?_
    rintro e w0 ⟨rfl, hb⟩
    have B0 : Hid (Below w.heap.size w w0) := hb
    clear hb
    go_wp2
    go_ret
    exact ⟨rfl, B0.out⟩
  · have hl' : ¬ (8000 : Int) < (t.size : Int) := by omega
    obtain ⟨r, hr⟩ : ∃ r : Nat, (IntKind.u64.wrap m).tmod 100 = (r : Int) := ⟨((IntKind.u64.wrap m).tmod 100).toNat, by rw [IntKind.wrap_u64, Int.tmod_eq_emod_of_nonneg (by omega)]; omega⟩
    have r100 : r < 100 := by
      rw [IntKind.wrap_u64, Int.tmod_eq_emod_of_nonneg (by omega)] at hr
      omega
    have FIN : Hid (∀ n : Nat, 64 ≤ n → t.size + 34 ≤ n → n ≤ 8192 → ∃ B : ByteArray, B.size = n ∧ (∀ w, Kh w → Calls Tryd.prog 14 #[.string k, .string t, .int .i64 (n : Int)] w fun e w' => e = .returned (.tuple #[.string B, .int .i64 0]) ∧ Below w.heap.size w w') ∧ (∀ w, Kh w → Calls Tryd.prog 16 #[.string k, .string B] w fun e w' => e = .returned (.tuple #[.string t, .int .i64 0]) ∧ Below w.heap.size w w')) := fun n h0 h1 h2 => by
      have lt : t.data.toList.length = t.size := list_sz t
      have lp : (plainl t.data.toList n).length = n := plainl_len _ _ (by omega)
      refine ⟨⟨(shutl k.data.toList (plainl t.data.toList n)).toArray⟩, by rw [ba_sz, shutl_len _ _ (by omega), lp], fun w h => ?_, fun w h => ?_⟩
      · have := CW.out k t (n : Int) w (by show _ ≤ _; omega) (by show _ ≤ _; omega) h
        rw [wrV_ok k t n h0 h2 h1] at this
        exact this
      · have sB : (⟨(shutl k.data.toList (plainl t.data.toList n)).toArray⟩ : ByteArray).size = n := by rw [ba_sz, shutl_len _ _ (by omega), lp]
        have := CU.out k ⟨(shutl k.data.toList (plainl t.data.toList n)).toArray⟩ w (by show _ ≤ _; omega) (by show _ ≤ _; omega) h
        rw [uwV_some k _ t.data.toList (by omega) (by omega) (by
          show textl (openl k.data.toList (shutl k.data.toList (plainl t.data.toList n))) = _
          rw [open_shut _ _ (by omega), text_plain _ _ (by omega) (by omega)]), ← ba_of (rfl : t.data.toList = t.data.toList)] at this
        exact this
    by_cases h30 : t.size + 34 ≤ 64
    · obtain ⟨n, hn⟩ : ∃ n, 64 + r = n := ⟨_, rfl⟩
      obtain ⟨B, sB, W0, U0⟩ := FIN.out n (by omega) (by omega) (by omega)
      have W1 : Hid (∀ w, Kh w → Calls Tryd.prog 14 #[.string k, .string t, .int .i64 (n : Int)] w fun e w' => e = .returned (.tuple #[.string B, .int .i64 0]) ∧ Below w.heap.size w w') := W0
      have U1 : Hid (∀ w, Kh w → Calls Tryd.prog 16 #[.string k, .string B] w fun e w' => e = .returned (.tuple #[.string t, .int .i64 0]) ∧ Below w.heap.size w w') := U0
      have a1 : 64 + (r : Int) = (n : Int) := by omega
      have a2 : IntKind.i64.wrap (64 + (r : Int)) = (n : Int) := by rw [IntKind.wrap_i64]; omega
      have a3 : (t.size : Int) + 34 ≤ 64 := by omega
      have a4 : IntKind.i64.wrap (n : Int) = (n : Int) := by rw [IntKind.wrap_i64]; omega
      have sBi : (B.size : Int) = (n : Int) := by omega
      have HN : Hid (64 + r = n) := hn
      clear hn FIN sB W0 U0
      go_enter Tryd.func7, Tryd.ntmps7
      go_wp2_with fail
      refine Calls.mono (works6_any CW CU _ hK.out) ?_
      rintro e w0 ⟨rfl, hb⟩
      have B0 : Hid (Below w.heap.size w w0 ∧ Kh w0) := ⟨hb, hK.out.later hb⟩
      clear hb
      go_wp2_with fail
      refine Calls.mono (W1.out _ B0.out.2) ?_
      rintro e w1 ⟨rfl, hb⟩
      have B1 : Hid (Below w.heap.size w w1 ∧ Kh w1) := ⟨chain B0.out.1 hb, B0.out.2.later hb⟩
      clear hb W1 B0
      go_wp2_with fail
      refine Calls.mono (U1.out _ B1.out.2) ?_
      rintro e w2 ⟨rfl, hb⟩
      have B2 : Hid (Below w.heap.size w w2) := chain B1.out.1 hb
      clear hb U1 B1
      go_wp2
      go_ret
      exact ⟨rfl, B2.out⟩
    · obtain ⟨n, hn⟩ : ∃ n, t.size + 34 + r = n := ⟨_, rfl⟩
      obtain ⟨B, sB, W0, U0⟩ := FIN.out n (by omega) (by omega) (by omega)
      have W1 : Hid (∀ w, Kh w → Calls Tryd.prog 14 #[.string k, .string t, .int .i64 (n : Int)] w fun e w' => e = .returned (.tuple #[.string B, .int .i64 0]) ∧ Below w.heap.size w w') := W0
      have U1 : Hid (∀ w, Kh w → Calls Tryd.prog 16 #[.string k, .string B] w fun e w' => e = .returned (.tuple #[.string t, .int .i64 0]) ∧ Below w.heap.size w w') := U0
      have a1 : (t.size : Int) + 34 + (r : Int) = (n : Int) := by omega
      have a2 : IntKind.i64.wrap ((t.size : Int) + 34 + (r : Int)) = (n : Int) := by rw [IntKind.wrap_i64]; omega
      have a3 : ¬ (t.size : Int) + 34 ≤ 64 := by omega
      have a5 : (64 : Int) < (t.size : Int) + 34 := by omega
      have a4 : IntKind.i64.wrap (n : Int) = (n : Int) := by rw [IntKind.wrap_i64]; omega
      have sBi : (B.size : Int) = (n : Int) := by omega
      have HN : Hid (t.size + 34 + r = n) := hn
      clear hn FIN sB W0 U0
      go_enter Tryd.func7, Tryd.ntmps7
      go_wp2_with fail
      refine Calls.mono (works6_any CW CU _ hK.out) ?_
      rintro e w0 ⟨rfl, hb⟩
      have B0 : Hid (Below w.heap.size w w0 ∧ Kh w0) := ⟨hb, hK.out.later hb⟩
      clear hb
      go_wp2_with fail
      refine Calls.mono (W1.out _ B0.out.2) ?_
      rintro e w1 ⟨rfl, hb⟩
      have B1 : Hid (Below w.heap.size w w1 ∧ Kh w1) := ⟨chain B0.out.1 hb, B0.out.2.later hb⟩
      clear hb W1 B0
      go_wp2_with fail
      refine Calls.mono (U1.out _ B1.out.2) ?_
      rintro e w2 ⟨rfl, hb⟩
      have B2 : Hid (Below w.heap.size w w2) := chain B1.out.1 hb
      clear hb U1 B1
      go_wp2
      go_ret
      exact ⟨rfl, B2.out⟩
end Go.Proofs.YtbkefhfbbhdpcaaDoor
