/- FieldTwos and FieldPowers answer true. -/
import Derived.Test.YtmoeijgblhfpdaaR8
namespace Go.Proofs.Ytmoeijgblhfpdaa
open Go.RowKit Go.Proofs.Fd

theorem FieldTwos_core (a b x : ByteArray) (e : Int) (w : World)
    (F : Hid (∀ w, Calls Try.prog 21 #[.string a, .string b] w fun r w' => r = .returned (.tuple #[.string x, .int .i64 e]) ∧ Below w.heap.size w w'))
    (G : Hid (∀ w, Calls Try.prog 22 #[.string a, .string b] w fun r w' => r = .returned (.tuple #[.string x, .int .i64 e]) ∧ Below w.heap.size w w')) :
    Calls Try.prog 6 #[.string a, .string b] w fun e w' => e = .returned (.bool true) ∧ Below w.heap.size w w' := by
  go_enter Try.func6, Try.ntmps6
  go_wp2_with fail
  refine Calls.mono (F.out _) ?_
  rintro r w1 ⟨rfl, hb⟩
  have B1 : Hid (Below w.heap.size w w1) := hb
  clear hb
  go_wp2_with fail
  refine Calls.mono (G.out _) ?_
  rintro r w2 ⟨rfl, hb⟩
  have B2 : Hid (Below w.heap.size w w2) := chain B1.out hb
  clear hb
  go_wp2_with fail
  refine Calls.mono (works_any _) ?_
  rintro r w3 ⟨rfl, hb⟩
  have B3 : Hid (Below w.heap.size w w3) := chain B2.out hb
  clear hb
  go_wp2
  go_ret
  exact ⟨rfl, B3.out⟩

theorem FieldTwos_walk (a b : ByteArray) (_ha : a.size ≤ maxLen) (_hb : b.size ≤ maxLen) (w : World) :
    Calls Try.prog 6 #[.string a, .string b] w fun e w' => e = .returned (.bool true) ∧ Below w.heap.size w w' := by
  by_cases h : chkList [a, b] = 0
  · have hm := chkAll_mem (chkList_zero h).1
    have h1 := hm a (by simp)
    have h2 := hm b (by simp)
    exact FieldTwos_core a b _ _ w (fun w => Sub_ok a b h1 h2 w) (fun w => rSub_ok a b h1 h2 w)
  · exact FieldTwos_core a b _ _ w (fun w => Sub_no a b h w) (fun w => rSub_no a b h w)

theorem FieldPowers_core (a x y : ByteArray) (t e f : Int) (w : World)
    (F : Hid (∀ w, Calls Try.prog 23 #[.string a] w fun r w' => r = .returned (.tuple #[.string x, .int .i64 e]) ∧ Below w.heap.size w w'))
    (G : Hid (∀ w, Calls Try.prog 24 #[.string a] w fun r w' => r = .returned (.tuple #[.string x, .int .i64 e]) ∧ Below w.heap.size w w'))
    (H : Hid (∀ w, Calls Try.prog 25 #[.string a, .int .i64 t] w fun r w' => r = .returned (.tuple #[.string y, .int .i64 f]) ∧ Below w.heap.size w w'))
    (K : Hid (∀ w, Calls Try.prog 26 #[.string a, .int .i64 t] w fun r w' => r = .returned (.tuple #[.string y, .int .i64 f]) ∧ Below w.heap.size w w')) :
    Calls Try.prog 7 #[.string a, .int .i64 t] w fun e w' => e = .returned (.bool true) ∧ Below w.heap.size w w' := by
  go_enter Try.func7, Try.ntmps7
  go_wp2_with fail
  refine Calls.mono (F.out _) ?_
  rintro r w1 ⟨rfl, hb⟩
  have B1 : Hid (Below w.heap.size w w1) := hb
  clear hb
  go_wp2_with fail
  refine Calls.mono (G.out _) ?_
  rintro r w2 ⟨rfl, hb⟩
  have B2 : Hid (Below w.heap.size w w2) := chain B1.out hb
  clear hb
  go_wp2_with fail
  refine Calls.mono (H.out _) ?_
  rintro r w3 ⟨rfl, hb⟩
  have B3 : Hid (Below w.heap.size w w3) := chain B2.out hb
  clear hb
  go_wp2_with fail
  refine Calls.mono (K.out _) ?_
  rintro r w4 ⟨rfl, hb⟩
  have B4 : Hid (Below w.heap.size w w4) := chain B3.out hb
  clear hb
  go_wp2_with fail
  refine Calls.mono (works_any _) ?_
  rintro r w5 ⟨rfl, hb⟩
  have B5 : Hid (Below w.heap.size w w5) := chain B4.out hb
  clear hb
  go_wp2
  go_ret
  exact ⟨rfl, B5.out⟩

theorem FieldPowers_walk (a : ByteArray) (t : Int) (_ha : a.size ≤ maxLen) (w : World) :
    Calls Try.prog 7 #[.string a, .int .i64 t] w fun e w' => e = .returned (.bool true) ∧ Below w.heap.size w w' := by
  by_cases h : chk a = 0
  · by_cases ht : t < 0 ∨ 300 < t
    · exact FieldPowers_core a _ _ t _ _ w (fun w => Inv_ok a h w) (fun w => rInv_ok a h w) (fun w => Square_out a t ht h w) (fun w => rSquare_out a t ht h w)
    · obtain ⟨n, rfl⟩ := Int.eq_ofNat_of_zero_le (show 0 ≤ t by omega)
      exact FieldPowers_core a _ _ n _ _ w (fun w => Inv_ok a h w) (fun w => rInv_ok a h w) (fun w => Square_ok a n (by omega) h w) (fun w => rSquare_ok a n (by omega) h w)
  · exact FieldPowers_core a _ _ t _ _ w (fun w => Inv_no a h w) (fun w => rInv_no a h w) (fun w => Square_no a t h w) (fun w => rSquare_no a t h w)

end Go.Proofs.Ytmoeijgblhfpdaa
