/- The program's Table and Of. -/
import Derived.Test.YtecdjfafeeimfaaDeS
import Derived.Test.YtecdjfafeeimfaaDeN
namespace Go.Proofs.Ytecdjfafeeimfaa
open Go.RowKit Go.Proofs.Fd Go.Proofs.Ta Go.Proofs.De
set_option maxRecDepth 20000

theorem one_at (w : World) (m : Int) (t : TypeId) : IntAt (w.alloc (.cells #[.int .i64 m] t)) (some ⟨w.heap.size, 0, none⟩) [m] := fun i hi => by
  obtain rfl : i = 0 := by simpa using hi
  exact ⟨w.heap.size, 0, rfl, by rw [World.cell?_alloc_new]; rfl⟩
theorem maybe_one (m n : Int) (v : Bool) (hv : okA n [m] = v) : Hid (∀ (W : World) (a : Option Addr) (c : Nat), IntAt W a [m] → Calls Try.prog 22 #[.int .i64 n, .slice a 1 c] W fun e w' => e = .returned (.bool v) ∧ w' = W) := fun W a c h => by
  rw [← hv]
  exact mayBe_any n [m] a 1 c rfl (by decide) W h
def TabP (w : World) (L : List Int) (x : Int) (e : Ending) (w' : World) : Prop := ∃ a c, e = .returned (.tuple #[.slice a L.length c, .int .i64 x]) ∧ IntAt w' a L ∧ New w.heap.size a ∧ Below w.heap.size w w'
theorem TabP.no {w w' : World} {x : Int} (h : Below w.heap.size w w') : TabP w [] x (.returned (.tuple #[.slice none 0 0, .int .i64 x])) w' := ⟨none, 0, rfl, IntAt.nil _ _, New.none _, h⟩
set_option maxHeartbeats 1000000 in
theorem table_no (m n : Int) (h : ¬ ((0 ≤ m ∧ m ≤ 4096) ∧ 0 ≤ n ∧ n ≤ 4096)) (w : World) :
    Calls Try.prog 8 #[.int .i64 m, .int .i64 n] w fun e w' => TabP w [] 1 e w' := by
  have MB := maybe_one m n false (okA_no m n h)
  clear h
  go_enter Try.func8, Try.ntmps8
  go_wp2_with fail
  refine Calls.mono (MB.out _ _ _ (one_at _ _ _)) ?_
  rintro e w1 ⟨rfl, rfl⟩
  clear MB
  go_wp2
  go_ret2
  exact TabP.no ((Below.refl _ w).alloc (Nat.le_refl _) _)
set_option maxHeartbeats 1000000 in
theorem table_ok (m n : Nat) (hm : m ≤ 4096) (hn : n ≤ 4096) (w : World) :
    Calls Try.prog 8 #[.int .i64 (m : Int), .int .i64 (n : Int)] w fun e w' => TabP w (tbl m (n + 1)) 0 e w' := by
  have MB := maybe_one m n true ((okA_one m n).2 ⟨⟨by omega, by omega⟩, by omega, by omega⟩)
  have TB : Hid (∀ W : World, _) := fun W => tableOf_any m n hm hn W
  have HL : Hid ((tbl m (n + 1)).length = n + 1) := tbl_len m (n + 1)
  obtain ⟨N, hN⟩ : ∃ N, n + 1 = N := ⟨_, rfl⟩
  rw [hN] at HL TB ⊢
  clear hm hn hN
  go_enter Try.func8, Try.ntmps8
  go_wp2_with fail
  refine Calls.mono (MB.out _ _ _ (one_at _ _ _)) ?_
  rintro e w1 ⟨rfl, rfl⟩
  clear MB
  go_wp2_with fail
  refine Calls.mono (TB.out _) ?_
  rintro e w2 ⟨g, rfl, hr, hg, hb⟩
  have FI : Hid (Row w2 g (tbl m N) ∧ w.heap.size ≤ g ∧ Below w.heap.size w w2) := ⟨hr, Nat.le_trans (by simp) hg, chain ((Below.refl _ w).alloc (Nat.le_refl _) _) hb⟩
  clear TB hr hg hb
  go_wp2
  go_ret2
  exact ⟨some ⟨g, 0, none⟩, N, by rw [HL.out]; rfl, FI.out.1.at, New.some FI.out.2.1, FI.out.2.2⟩
def OfP (w : World) (x y : Int) (e : Ending) (w' : World) : Prop := e = .returned (.tuple #[.int .i64 x, .int .i64 y]) ∧ Below w.heap.size w w'
set_option maxHeartbeats 1000000 in
theorem of_any (m n u : Int) (w : World) :
    Calls Try.prog 10 #[.int .i64 m, .int .i64 n, .int .i64 u] w fun e w' => OfP w (ofV m n u) (ofE m n u) e w' := by
  by_cases h : (0 ≤ m ∧ m ≤ 4096) ∧ 0 ≤ n ∧ n ≤ 4096
  · have MB := maybe_one m n true ((okA_one m n).2 h)
    by_cases h0 : u < 0
    · obtain ⟨e1, e2⟩ := of_no (m := m) (n := n) (u := u) (by unfold ofOk; omega)
      rw [e1, e2]
      clear e1 e2 h
      go_enter Try.func10, Try.ntmps10
      go_wp2_with fail
      refine Calls.mono (MB.out _ _ _ (one_at _ _ _)) ?_
      rintro e w1 ⟨rfl, rfl⟩
      clear MB
      go_wp2
      go_ret2
      exact ⟨rfl, (Below.refl _ w).alloc (Nat.le_refl _) _⟩
    · by_cases h1 : 4294967296 ≤ u
      · obtain ⟨e1, e2⟩ := of_no (m := m) (n := n) (u := u) (by unfold ofOk; omega)
        rw [e1, e2]
        clear e1 e2 h
        go_enter Try.func10, Try.ntmps10
        go_wp2_with fail
        refine Calls.mono (MB.out _ _ _ (one_at _ _ _)) ?_
        rintro e w1 ⟨rfl, rfl⟩
        clear MB
        go_wp2
        go_ret2
        exact ⟨rfl, (Below.refl _ w).alloc (Nat.le_refl _) _⟩
      · obtain ⟨m, rfl⟩ : ∃ k : Nat, m = k := ⟨m.toNat, by omega⟩
        obtain ⟨n, rfl⟩ : ∃ k : Nat, n = k := ⟨n.toNat, by omega⟩
        obtain ⟨u, rfl⟩ : ∃ k : Nat, u = k := ⟨u.toNat, by omega⟩
        obtain ⟨e1, e2⟩ := of_ok m n u (by omega) (by omega) (by omega)
        rw [e1, e2]
        have TB : Hid (∀ W : World, _) := fun W => tableOf_any m n (by omega) (by omega) W
        have PL : Hid (∀ (W : World) (g : Nat), Row W g (tbl m (n + 1)) → Calls Try.prog 25 #[.int .i64 (u : Int), .slice (some ⟨g, 0, none⟩) (n + 1) (n + 1)] W fun e w' => e = .returned (.int .i64 (dl m n u : Int)) ∧ Below W.heap.size W w') := fun W g hr => placeOf_any g m n u (by omega) W hr
        obtain ⟨r, hr⟩ : ∃ r, dl m n u = r := ⟨_, rfl⟩
        rw [hr] at PL ⊢
        obtain ⟨N, hN⟩ : ∃ N, n + 1 = N := ⟨_, rfl⟩
        rw [hN] at TB PL
        obtain ⟨y, hy⟩ : ∃ y : Int, (u : Int) = y := ⟨_, rfl⟩
        rw [hy] at PL h0 h1 ⊢
        clear e1 e2 h hr hN hy
        go_enter Try.func10, Try.ntmps10
        go_wp2_with fail
        refine Calls.mono (MB.out _ _ _ (one_at _ _ _)) ?_
        rintro e w1 ⟨rfl, rfl⟩
        clear MB
        go_wp2_with fail
        refine Calls.mono (TB.out _) ?_
        rintro e w2 ⟨g, rfl, hr, hg, hb⟩
        have F2 : Hid (Row w2 g (tbl m N) ∧ Below w.heap.size w w2) := ⟨hr, chain ((Below.refl _ w).alloc (Nat.le_refl _) _) hb⟩
        clear TB hr hg hb
        go_wp2_with fail
        refine Calls.mono (PL.out _ _ F2.out.1) ?_
        rintro e w3 ⟨rfl, hb⟩
        have F3 : Hid (Below w.heap.size w w3) := chain F2.out.2 hb
        clear PL hb F2
        go_wp2
        go_ret2
        exact ⟨rfl, F3.out⟩
  · have MB := maybe_one m n false (okA_no m n h)
    obtain ⟨e1, e2⟩ := of_no (m := m) (n := n) (u := u) (by unfold ofOk; omega)
    rw [e1, e2]
    clear e1 e2 h
    go_enter Try.func10, Try.ntmps10
    go_wp2_with fail
    refine Calls.mono (MB.out _ _ _ (one_at _ _ _)) ?_
    rintro e w1 ⟨rfl, rfl⟩
    clear MB
    go_wp2
    go_ret2
    exact ⟨rfl, (Below.refl _ w).alloc (Nat.le_refl _) _⟩
end Go.Proofs.Ytecdjfafeeimfaa
