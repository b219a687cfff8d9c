/- FieldChecks answers true. -/
import Derived.Test.YtmoeijgblhfpdaaR9
namespace Go.Proofs.Ytmoeijgblhfpdaa
open Go.RowKit Go.Proofs.Fd

set_option maxHeartbeats 2000000 in
theorem FieldChecks_core (a b x s : ByteArray) (n e g : Int) (w : World)
    (F : Hid (∀ w, Calls Try.prog 9 #[.string b] w fun r w' => r = .returned (.tuple #[.string x, .int .i64 e]) ∧ Below w.heap.size w w'))
    (G : Hid (∀ w, Calls Try.prog 10 #[.string b] w fun r w' => r = .returned (.tuple #[.string x, .int .i64 e]) ∧ Below w.heap.size w w'))
    (H : Hid (∀ w, Calls Try.prog 11 #[.int .i64 n] w fun r w' => r = .returned (.tuple #[.string s, .int .i64 g]) ∧ Below w.heap.size w w'))
    (K : Hid (∀ w, Calls Try.prog 12 #[.int .i64 n] w fun r w' => r = .returned (.tuple #[.string s, .int .i64 g]) ∧ Below w.heap.size w w')) :
    Calls Try.prog 3 #[.string a, .string b, .int .i64 n] w fun e w' => e = .returned (.bool true) ∧ Below w.heap.size w w' := by
  go_enter Try.func3, Try.ntmps3
  go_wp2_with fail
  refine Calls.mono (F.out _) ?_
  rintro r w1 ⟨rfl, hb⟩
  have B1 : Hid (Below w.heap.size w w1) := hb
  clear hb
  go_wp2_with fail
  refine Calls.mono (G.out _) ?_
  rintro r w2 ⟨rfl, hb⟩
  have B2 : Hid (Below w.heap.size w w2) := chain B1.out hb
  clear hb
  go_wp2_with fail
  refine Calls.mono (H.out _) ?_
  rintro r w3 ⟨rfl, hb⟩
  have B3 : Hid (Below w.heap.size w w3) := chain B2.out hb
  clear hb
  go_wp2_with fail
  refine Calls.mono (K.out _) ?_
  rintro r w4 ⟨rfl, hb⟩
  have B4 : Hid (Below w.heap.size w w4) := chain B3.out hb
  clear hb
  go_wp2_with fail
  refine Calls.mono (names_any _) ?_
  rintro r w5 ⟨rfl, hb⟩
  have B5 : Hid (Below w.heap.size w w5) := chain B4.out hb
  clear hb
  go_wp2_with fail
  refine Calls.mono (Check_any a _) ?_
  rintro r w6 ⟨rfl, hb⟩
  have B6 : Hid (Below w.heap.size w w6) := chain B5.out hb
  clear hb
  go_wp2_with fail
  refine Calls.mono (rCheck_any a _) ?_
  rintro r w7 ⟨rfl, hb⟩
  have B7 : Hid (Below w.heap.size w w7) := chain B6.out hb
  clear hb
  go_wp2_with fail
  refine Calls.mono (works_any _) ?_
  rintro r w8 ⟨rfl, hb⟩
  have B8 : Hid (Below w.heap.size w w8) := chain B7.out hb
  clear hb
  go_wp2
  go_ret
  exact ⟨rfl, B8.out⟩

theorem FieldChecks_walk (a b : ByteArray) (n : Int) (_ha : a.size ≤ maxLen) (_hb : b.size ≤ maxLen) (w : World) :
    Calls Try.prog 3 #[.string a, .string b, .int .i64 n] w fun e w' => e = .returned (.bool true) ∧ Below w.heap.size w w' := by
  by_cases h : b.size ≤ 64
  · by_cases hn : n < 0 ∨ 2147483647 < n
    · exact FieldChecks_core a b _ _ n _ _ w (fun w => Reduce_ok b h w) (fun w => rReduce_ok b h w) (fun w => Small_no n hn w) (fun w => rWhole_no n hn w)
    · obtain ⟨m, rfl⟩ := Int.eq_ofNat_of_zero_le (show 0 ≤ n by omega)
      exact FieldChecks_core a b _ _ m _ _ w (fun w => Reduce_ok b h w) (fun w => rReduce_ok b h w) (fun w => Small_ok m (by omega) w) (fun w => rWhole_ok m (by omega) w)
  · by_cases hn : n < 0 ∨ 2147483647 < n
    · exact FieldChecks_core a b _ _ n _ _ w (fun w => Reduce_no b (by omega) w) (fun w => rReduce_no b (by omega) w) (fun w => Small_no n hn w) (fun w => rWhole_no n hn w)
    · obtain ⟨m, rfl⟩ := Int.eq_ofNat_of_zero_le (show 0 ≤ n by omega)
      exact FieldChecks_core a b _ _ m _ _ w (fun w => Reduce_no b (by omega) w) (fun w => rReduce_no b (by omega) w) (fun w => Small_ok m (by omega) w) (fun w => rWhole_ok m (by omega) w)

end Go.Proofs.Ytmoeijgblhfpdaa
