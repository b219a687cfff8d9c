/- DelayFalls. -/
import Derived.Test.YtecdjfafeeimfaaDeW
namespace Go.Proofs.Ytecdjfafeeimfaa
open Go.RowKit Go.Proofs.Fd Go.Proofs.Ta Go.Proofs.De
set_option maxRecDepth 20000

theorem of_yes (m n u : Nat) (hm : m ≤ 4096) (hn : n ≤ 4096) (hu : u < 4294967296) (w : World) :
    Calls Try.prog 10 #[.int .i64 (m : Int), .int .i64 (n : Int), .int .i64 (u : Int)] w fun e w' => OfP w (dl m n u : Int) 0 e w' := by
  have h := of_any m n u w
  rw [(of_ok m n u hm hn hu).1, (of_ok m n u hm hn hu).2] at h
  exact h
theorem u64_nat (x : Int) : ∃ A : Nat, IntKind.u64.wrap x = (A : Int) := by
  refine ⟨(IntKind.u64.wrap x).toNat, ?_⟩
  rw [IntKind.wrap_u64]
  omega
theorem u32_nat (x : Int) : ∃ A : Nat, IntKind.u32.wrap x = (A : Int) ∧ A < 4294967296 := by
  refine ⟨(IntKind.u32.wrap x).toNat, ?_⟩
  rw [IntKind.wrap_u32]
  omega
set_option maxHeartbeats 2000000 in
theorem DelayFalls_walk (mean most U V : Int) (w : World) :
    Calls Try.prog 6 #[.int .i64 mean, .int .i64 most, .agg #[.int .i64 U, .int .i64 V]] w fun e w' => e = .returned (.bool true) ∧ Below w.heap.size w w' := by
  obtain ⟨A, zA⟩ := u64_nat mean
  obtain ⟨B, zB⟩ := u64_nat most
  obtain ⟨x, zx, hx⟩ := u32_nat U
  obtain ⟨y, zy, hy⟩ := u32_nat V
  obtain ⟨m, hm⟩ : ∃ m, A % 4096 = m := ⟨_, rfl⟩
  obtain ⟨n, hn⟩ : ∃ n, B % 4096 = n := ⟨_, rfl⟩
  have zm : (A : Int) % 4096 = (m : Int) := by omega
  have zn : (B : Int) % 4096 = (n : Int) := by omega
  have z1 : IntKind.u64.wrap (m : Int) = (m : Int) := by rw [IntKind.wrap_u64]; omega
  have z2 : IntKind.u64.wrap (n : Int) = (n : Int) := by rw [IntKind.wrap_u64]; omega
  have z3 : IntKind.i64.wrap (m : Int) = (m : Int) := by rw [IntKind.wrap_i64]; omega
  have z4 : IntKind.i64.wrap (n : Int) = (n : Int) := by rw [IntKind.wrap_i64]; omega
  have z5 : IntKind.i64.wrap (x : Int) = (x : Int) := by rw [IntKind.wrap_i64]; omega
  have z6 : IntKind.i64.wrap (y : Int) = (y : Int) := by rw [IntKind.wrap_i64]; omega
  obtain ⟨m1, hm1⟩ : ∃ m1, m + 1 = m1 := ⟨_, rfl⟩
  obtain ⟨n1, hn1⟩ : ∃ n1, n + 1 = n1 := ⟨_, rfl⟩
  have z7 : IntKind.i64.wrap ((m : Int) + 1) = (m1 : Int) := by rw [IntKind.wrap_i64]; omega
  have z8 : IntKind.i64.wrap ((n : Int) + 1) = (n1 : Int) := by rw [IntKind.wrap_i64]; omega
  have key : ∀ lo hi : Nat, lo ≤ hi → hi < 4294967296 → ∃ a b c d : Nat, (b ≤ a ∧ a ≤ c ∧ a ≤ d ∧ a ≤ n ∧ c ≤ n1) ∧ (∀ w, Calls Try.prog 10 #[.int .i64 (m : Int), .int .i64 (n : Int), .int .i64 (lo : Int)] w fun e w' => OfP w (a : Int) 0 e w') ∧ (∀ w, Calls Try.prog 10 #[.int .i64 (m : Int), .int .i64 (n : Int), .int .i64 (hi : Int)] w fun e w' => OfP w (b : Int) 0 e w') ∧ (∀ w, Calls Try.prog 10 #[.int .i64 (m : Int), .int .i64 (n1 : Int), .int .i64 (lo : Int)] w fun e w' => OfP w (c : Int) 0 e w') ∧ (∀ w, Calls Try.prog 10 #[.int .i64 (m1 : Int), .int .i64 (n : Int), .int .i64 (lo : Int)] w fun e w' => OfP w (d : Int) 0 e w') := fun lo hi h1 h2 => by
    subst hm1 hn1
    exact ⟨dl m n lo, dl m n hi, dl m (n + 1) lo, dl (m + 1) n lo, ⟨dl_word m n lo hi h1, dl_cap m n lo, dl_mean m n lo, dl_most m n lo, dl_most m (n + 1) lo⟩, fun w => of_yes m n lo (by omega) (by omega) (by omega) w, fun w => of_yes m n hi (by omega) (by omega) (by omega) w, fun w => of_yes m (n + 1) lo (by omega) (by omega) (by omega) w, fun w => of_yes (m + 1) n lo (by omega) (by omega) (by omega) w⟩
  have KY : Hid _ := key
  clear key hm hn hm1 hn1
  have HX : Hid (x < 4294967296 ∧ y < 4294967296) := ⟨hx, hy⟩
  clear hx hy
  by_cases q : y < x
  · obtain ⟨a, b, c, d, ⟨p1, p2, p3, p4, p5⟩, O1, O2, O3, O4⟩ := KY.out y x (by omega) HX.out.1
    have q1 : (y : Int) < (x : Int) := by omega
    have r1 : (b : Int) ≤ (a : Int) := by omega
    have r2 : (a : Int) ≤ (c : Int) := by omega
    have r3 : (a : Int) ≤ (d : Int) := by omega
    have r4 : (a : Int) ≤ (n : Int) := by omega
    have r5 : (c : Int) ≤ (n1 : Int) := by omega
    have H1 : Hid _ := O1
    have H2 : Hid _ := O2
    have H3 : Hid _ := O3
    have H4 : Hid _ := O4
    clear O1 O2 O3 O4 KY HX p1 p2 p3 p4 p5 q
    go_enter Try.func6, Try.ntmps6
    go_wp2
    go_quiet (fail)
    go_wp2_with fail
    refine Calls.mono (works_any _) ?_
    rintro e w1 ⟨rfl, b1⟩
    have I1 : Hid (Below w.heap.size w w1) := chain (below_drewN ((Below.refl _ w).alloc (Nat.le_refl _) _) _) b1
    clear b1
    go_wp2_with fail
    refine Calls.mono (H1.out _) ?_
    rintro e w2 ⟨rfl, b2⟩
    have I2 : Hid (Below w.heap.size w w2) := chain I1.out b2
    clear b2 I1 H1
    go_wp2_with fail
    refine Calls.mono (H2.out _) ?_
    rintro e w3 ⟨rfl, b3⟩
    have I3 : Hid (Below w.heap.size w w3) := chain I2.out b3
    clear b3 I2 H2
    go_wp2_with fail
    refine Calls.mono (H3.out _) ?_
    rintro e w4 ⟨rfl, b4⟩
    have I4 : Hid (Below w.heap.size w w4) := chain I3.out b4
    clear b4 I3 H3
    go_wp2_with fail
    refine Calls.mono (H4.out _) ?_
    rintro e w5 ⟨rfl, b5⟩
    have I5 : Hid (Below w.heap.size w w5) := chain I4.out b5
    clear b5 I4 H4
    go_wp2
    go_ret
    exact ⟨rfl, I5.out⟩
  · obtain ⟨a, b, c, d, ⟨p1, p2, p3, p4, p5⟩, O1, O2, O3, O4⟩ := KY.out x y (by omega) HX.out.2
    have q1 : ¬ (y : Int) < (x : Int) := by omega
    have r1 : (b : Int) ≤ (a : Int) := by omega
    have r2 : (a : Int) ≤ (c : Int) := by omega
    have r3 : (a : Int) ≤ (d : Int) := by omega
    have r4 : (a : Int) ≤ (n : Int) := by omega
    have r5 : (c : Int) ≤ (n1 : Int) := by omega
    have H1 : Hid _ := O1
    have H2 : Hid _ := O2
    have H3 : Hid _ := O3
    have H4 : Hid _ := O4
    clear O1 O2 O3 O4 KY HX p1 p2 p3 p4 p5 q
    go_enter Try.func6, Try.ntmps6
    go_wp2
    go_quiet (fail)
    go_wp2_with fail
    refine Calls.mono (works_any _) ?_
    rintro e w1 ⟨rfl, b1⟩
    have I1 : Hid (Below w.heap.size w w1) := chain (below_drewN ((Below.refl _ w).alloc (Nat.le_refl _) _) _) b1
    clear b1
    go_wp2_with fail
    refine Calls.mono (H1.out _) ?_
    rintro e w2 ⟨rfl, b2⟩
    have I2 : Hid (Below w.heap.size w w2) := chain I1.out b2
    clear b2 I1 H1
    go_wp2_with fail
    refine Calls.mono (H2.out _) ?_
    rintro e w3 ⟨rfl, b3⟩
    have I3 : Hid (Below w.heap.size w w3) := chain I2.out b3
    clear b3 I2 H2
    go_wp2_with fail
    refine Calls.mono (H3.out _) ?_
    rintro e w4 ⟨rfl, b4⟩
    have I4 : Hid (Below w.heap.size w w4) := chain I3.out b4
    clear b4 I3 H3
    go_wp2_with fail
    refine Calls.mono (H4.out _) ?_
    rintro e w5 ⟨rfl, b5⟩
    have I5 : Hid (Below w.heap.size w w5) := chain I4.out b5
    clear b5 I4 H4
    go_wp2
    go_ret
    exact ⟨rfl, I5.out⟩
end Go.Proofs.Ytecdjfafeeimfaa
