/- DelayTables. -/
import Derived.Test.YtecdjfafeeimfaaDeR
import Derived.Test.YtecdjfafeeimfaaDeW
namespace Go.Proofs.Ytecdjfafeeimfaa
open Go.RowKit Go.Proofs.Fd Go.Proofs.Ta Go.Proofs.De
set_option maxRecDepth 20000

theorem tables_any (m n : Int) : ∃ (L : List Int) (x : Int), L.length ≤ 4097 ∧ (∀ w, Calls Try.prog 8 #[.int .i64 m, .int .i64 n] w fun e w' => TabP w L x e w') ∧ (∀ w, Calls Try.prog 9 #[.int .i64 m, .int .i64 n] w fun e w' => TabP w L x e w') := by
  by_cases h : (0 ≤ m ∧ m ≤ 4096) ∧ 0 ≤ n ∧ n ≤ 4096
  · obtain ⟨m, rfl⟩ : ∃ k : Nat, m = k := ⟨m.toNat, by omega⟩
    obtain ⟨n, rfl⟩ : ∃ k : Nat, n = k := ⟨n.toNat, by omega⟩
    exact ⟨tbl m (n + 1), 0, by rw [tbl_len]; omega, fun w => table_ok m n (by omega) (by omega) w, fun w => rtable_ok m n (by omega) (by omega) w⟩
  · exact ⟨[], 1, by decide, fun w => table_no m n h w, fun w => rtable_no m n h w⟩
set_option maxHeartbeats 2000000 in
theorem DelayTables_walk (m n u : Int) (w : World) :
    Calls Try.prog 3 #[.int .i64 m, .int .i64 n, .int .i64 u] w fun e w' => e = .returned (.bool true) ∧ Below w.heap.size w w' := by
  obtain ⟨L, x, hL, h1, h2⟩ := tables_any m n
  have TB : Hid _ := h1
  have RT : Hid _ := h2
  have OF : Hid (∀ W : World, _) := fun W => of_any m n u W
  have RO : Hid (∀ W : World, _) := fun W => rof_any m n u W
  obtain ⟨v, hv⟩ : ∃ v, ofV m n u = v := ⟨_, rfl⟩
  obtain ⟨y, hy⟩ : ∃ y, ofE m n u = y := ⟨_, rfl⟩
  rw [hv, hy] at OF RO
  have HL : Hid (L.length ≤ 4097) := hL
  clear h1 h2 hv hy hL
  go_enter Try.func3, Try.ntmps3
  go_wp2_with fail
  refine Calls.mono (TB.out _) ?_
  rintro e w1 ⟨a, c, rfl, i1, -, b1⟩
  have I1 : Hid (IntAt w1 a L ∧ Below w.heap.size w w1) := ⟨i1, b1⟩
  clear TB i1 b1
  go_wp2_with fail
  refine Calls.mono (RT.out _) ?_
  rintro e w2 ⟨a2, c2, rfl, i2, -, b2⟩
  have I2 : Hid (IntAt w2 a L ∧ IntAt w2 a2 L ∧ Below w.heap.size w w2) := ⟨I1.out.1.later b2, i2, chain I1.out.2 b2⟩
  clear RT i2 b2 I1
  go_wp2_with fail
  refine Calls.mono (OF.out _) ?_
  rintro e w3 ⟨rfl, b3⟩
  have I3 : Hid (IntAt w3 a L ∧ IntAt w3 a2 L ∧ Below w.heap.size w w3) := ⟨I2.out.1.later b3, I2.out.2.1.later b3, chain I2.out.2.2 b3⟩
  clear OF b3 I2
  go_wp2_with fail
  refine Calls.mono (RO.out _) ?_
  rintro e w4 ⟨rfl, b4⟩
  have I4 : Hid (IntAt w4 a L ∧ IntAt w4 a2 L ∧ Below w.heap.size w w4) := ⟨I3.out.1.later b4, I3.out.2.1.later b4, chain I3.out.2.2 b4⟩
  clear RO b4 I3
  have SM : Hid _ := same_ints a a2 L L.length c c2 rfl (by have := HL.out; omega) w4 I4.out.1 I4.out.2.1
  go_wp2_with fail
  refine Calls.mono SM.out ?_
  rintro e w5 ⟨rfl, b5⟩
  have I5 : Hid (Below w.heap.size w w5) := chain I4.out.2.2 b5
  clear SM b5 I4
  go_wp2_with fail
  refine Calls.mono (works_any _) ?_
  rintro e w6 ⟨rfl, b6⟩
  have I6 : Hid (Below w.heap.size w w6) := chain I5.out b6
  clear b6 I5
  go_wp2
  go_ret
  exact ⟨rfl, I6.out⟩
end Go.Proofs.Ytecdjfafeeimfaa
