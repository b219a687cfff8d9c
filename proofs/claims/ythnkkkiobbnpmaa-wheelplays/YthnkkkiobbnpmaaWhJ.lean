/- The chapter's example. -/
import Derived.Test.YthnkkkiobbnpmaaWhI
namespace Go.Proofs.Ythnkkkiobbnpmaa
open Go.RowKit Go.Proofs.Fd Go.Proofs.Wh
set_option maxRecDepth 20000

set_option maxHeartbeats 2000000 in
theorem works_any (w : World) : Calls Try.prog 9 #[] w fun e w' => e = .returned (.bool true) ∧ Below w.heap.size w w' := by
  go_enter Try.func9, Try.ntmps9
  go_wp2_with fail
  refine Calls.mono (newL w w (Below.refl _ _)) ?_
  rintro e w1 ⟨p, F, rfl, h1, h2, h3⟩
  have I0' : Hid (Wl w w1 p F St.init) := h1
  clear h1 h2 h3
  go_wp2
  obtain ⟨g, hg⟩ : ∃ g, w1.heap.size = g := ⟨_, rfl⟩
  have I0 : Hid (Wl w (w1.alloc (.cells #[.int .i64 5, .int .i64 3, .int .i64 5] 3)) p F St.init ∧ IntAt (w1.alloc (.cells #[.int .i64 5, .int .i64 3, .int .i64 5] 3)) (some ⟨g, 0, none⟩) [5, 3, 5] ∧ ¬ F g ∧ g < (w1.alloc (.cells #[.int .i64 5, .int .i64 3, .int .i64 5] 3)).heap.size) := by
    refine ⟨I0'.out.later ((Below.refl _ _).alloc (Nat.le_refl _) _), ?_, fun c => ?_, ?_⟩
    · rw [← hg]
      exact lit_int w1 [5, 3, 5] 3
    · have := I0'.out.at_.lt c
      omega
    · simp
      omega
  have c0 : (w1.alloc (.cells #[.int .i64 5, .int .i64 3, .int .i64 5] 3)).cell? ⟨g, 0, none⟩ = some (.int .i64 5) := by rw [← hg]; simp [go_sem]
  obtain ⟨w2, hw2⟩ : ∃ w2, w1.alloc (.cells #[.int .i64 5, .int .i64 3, .int .i64 5] 3) = w2 := ⟨_, rfl⟩
  rw [hw2] at I0 c0 ⊢
  rw [hg]
  clear hw2 hg I0'
  refine wp_loop_rounds 4 ?_
  rw [rounds_succ]
  go_wp2_with fail
  have P0 : Hid _ := putL w w2 p F St.init 5 1 (by decide) (by decide) I0.out.1
  rw [ex_put.1, ex_put.2.1] at P0
  refine Calls.mono P0.out ?_
  rintro e w3 ⟨rfl, F3, h1, h2, h3⟩
  have I1 : Hid (Wl w w3 p F3 (putS St.init 5 1) ∧ IntAt w3 (some ⟨g, 0, none⟩) [5, 3, 5] ∧ ¬ F3 g ∧ g < w3.heap.size) := ⟨h1, fun j hj => by
      obtain ⟨b, o, e, c⟩ := I0.out.2.1 j hj
      injection e with e
      injection e with e1 e2 e3
      subst e1
      subst e2
      exact ⟨g, 0, rfl, h3.cell c I0.out.2.2.1⟩, fun c => by
      rcases h2 g c with c | c
      · exact I0.out.2.2.1 c
      · have := I0.out.2.2.2
        omega, Nat.lt_of_lt_of_le I0.out.2.2.2 h3.size⟩
  have k0 := I1.out.2.1 0 (by decide)
  have k1 := I1.out.2.1 1 (by decide)
  have k2 := I1.out.2.1 2 (by decide)
  obtain ⟨_, _, e, k0⟩ := k0
  cases e
  obtain ⟨_, _, e, k1⟩ := k1
  cases e
  obtain ⟨_, _, e, k2⟩ := k2
  cases e
  have c0 : w3.cell? ⟨g, 0, none⟩ = some (.int .i64 5) := k0
  have c1 : w3.cell? ⟨g, 1, none⟩ = some (.int .i64 3) := k1
  have c2 : w3.cell? ⟨g, 2, none⟩ = some (.int .i64 5) := k2
  clear h1 h2 h3 P0 I0 k0 k1 k2
  go_wp2
  rw [rounds_succ]
  go_wp2_with fail
  have P1 : Hid _ := putL w w3 p F3 (putS St.init 5 1) 3 2 (by decide) (by decide) I1.out.1
  rw [ex_put.2.2.1, ex_put.2.2.2.1] at P1
  refine Calls.mono P1.out ?_
  rintro e w4 ⟨rfl, F4, h1, h2, h3⟩
  have I2 : Hid (Wl w w4 p F4 (putS (putS St.init 5 1) 3 2) ∧ IntAt w4 (some ⟨g, 0, none⟩) [5, 3, 5] ∧ ¬ F4 g ∧ g < w4.heap.size) := ⟨h1, fun j hj => by
      obtain ⟨b, o, e, c⟩ := I1.out.2.1 j hj
      injection e with e
      injection e with e1 e2 e3
      subst e1
      subst e2
      exact ⟨g, 0, rfl, h3.cell c I1.out.2.2.1⟩, fun c => by
      rcases h2 g c with c | c
      · exact I1.out.2.2.1 c
      · have := I1.out.2.2.2
        omega, Nat.lt_of_lt_of_le I1.out.2.2.2 h3.size⟩
  have k0 := I2.out.2.1 0 (by decide)
  have k1 := I2.out.2.1 1 (by decide)
  have k2 := I2.out.2.1 2 (by decide)
  obtain ⟨_, _, e, k0⟩ := k0
  cases e
  obtain ⟨_, _, e, k1⟩ := k1
  cases e
  obtain ⟨_, _, e, k2⟩ := k2
  cases e
  have c0 : w4.cell? ⟨g, 0, none⟩ = some (.int .i64 5) := k0
  have c1 : w4.cell? ⟨g, 1, none⟩ = some (.int .i64 3) := k1
  have c2 : w4.cell? ⟨g, 2, none⟩ = some (.int .i64 5) := k2
  clear h1 h2 h3 P1 I1 k0 k1 k2
  go_wp2
  rw [rounds_succ]
  go_wp2_with fail
  have P2 : Hid _ := putL w w4 p F4 (putS (putS St.init 5 1) 3 2) 5 3 (by decide) (by decide) I2.out.1
  rw [ex_put.2.2.2.2.1, ex_put.2.2.2.2.2] at P2
  refine Calls.mono P2.out ?_
  rintro e w5 ⟨rfl, F5, h1, h2, h3⟩
  have I3 : Hid (Wl w w5 p F5 sA ∧ IntAt w5 (some ⟨g, 0, none⟩) [5, 3, 5] ∧ ¬ F5 g ∧ g < w5.heap.size) := ⟨h1, fun j hj => by
      obtain ⟨b, o, e, c⟩ := I2.out.2.1 j hj
      injection e with e
      injection e with e1 e2 e3
      subst e1
      subst e2
      exact ⟨g, 0, rfl, h3.cell c I2.out.2.2.1⟩, fun c => by
      rcases h2 g c with c | c
      · exact I2.out.2.2.1 c
      · have := I2.out.2.2.2
        omega, Nat.lt_of_lt_of_le I2.out.2.2.2 h3.size⟩
  have k0 := I3.out.2.1 0 (by decide)
  have k1 := I3.out.2.1 1 (by decide)
  have k2 := I3.out.2.1 2 (by decide)
  obtain ⟨_, _, e, k0⟩ := k0
  cases e
  obtain ⟨_, _, e, k1⟩ := k1
  cases e
  obtain ⟨_, _, e, k2⟩ := k2
  cases e
  have c0 : w5.cell? ⟨g, 0, none⟩ = some (.int .i64 5) := k0
  have c1 : w5.cell? ⟨g, 1, none⟩ = some (.int .i64 3) := k1
  have c2 : w5.cell? ⟨g, 2, none⟩ = some (.int .i64 5) := k2
  clear h1 h2 h3 P2 I2 k0 k1 k2
  go_wp2
  rw [rounds_succ]
  go_wp2_with fail
  have A1 : Hid _ := advL w w5 p F5 sA 4 (by decide) I3.out.1
  rw [ex_adv.1, ex_adv.2.1] at A1
  refine Calls.mono A1.out ?_
  rintro e w6 ⟨F6, va, vn, vc, rfl, h1, h2, h3, h4, h5⟩
  have I4 : Hid (Wl w w6 p F6 sB ∧ OwnsI w6 (.slice va vn vc) [2] ∧ ∀ g, (Value.slice va vn vc).ownBlock = some g → ¬ F6 g) := ⟨h1, h4, fun g e => (h5 g e).1⟩
  clear h1 h2 h3 h4 h5 A1 I3 c0 c1 c2
  go_wp2_with fail
  have A2 : Hid _ := advL w w6 p F6 sB 5 (by decide) I4.out.1
  rw [ex_adv.2.2.1, ex_adv.2.2.2.1] at A2
  refine Calls.mono A2.out ?_
  rintro e w7 ⟨F7, ua, un, uc, rfl, h1, h2, h3, h4, h5⟩
  have I5 : Hid (Wl w w7 p F7 (advS sB 5) ∧ OwnsI w7 (.slice va vn vc) [2] ∧ OwnsI w7 (.slice ua un uc) [1, 3]) := ⟨h1, I4.out.2.1.kept h3 I4.out.2.2, h4⟩
  clear h1 h2 h3 h4 h5 A2 I4
  obtain ⟨i1, e1⟩ := owns_int I5.out.2.1
  obtain ⟨i2, e2⟩ := owns_int I5.out.2.2
  obtain rfl : 1 = vn := e1
  obtain rfl : 2 = un := e2
  have J1 : Hid (IntAt w7 va [2]) := i1
  have J2 : Hid (IntAt w7 ua [1, 3]) := i2
  clear i1 i2
  have S1 : Hid _ := same_ints va (some ⟨w7.heap.size, 0, none⟩) [2] 1 vc 1 rfl (by decide) (w7.alloc (.cells #[.int .i64 2] 3)) (J1.out.later ((Below.refl _ _).alloc (Nat.le_refl _) _)) (lit_int w7 [2] 3)
  go_wp2_with fail
  refine Calls.mono S1.out ?_
  rintro e w8 ⟨rfl, hb8⟩
  have B8 : Hid (Below w7.heap.size w7 w8) := ((Below.refl _ _).alloc (Nat.le_refl _) _).trans (hb8.mono (by simp))
  clear hb8 S1
  have S2 : Hid _ := same_ints ua (some ⟨w8.heap.size, 0, none⟩) [1, 3] 2 uc 2 rfl (by decide) (w8.alloc (.cells #[.int .i64 1, .int .i64 3] 3)) (J2.out.later (B8.out.trans ((((Below.refl _ _).alloc (Nat.le_refl _) _)).mono B8.out.size))) (lit_int w8 [1, 3] 3)
  go_wp2_with fail
  refine Calls.mono S2.out ?_
  rintro e w9 ⟨rfl, hb9⟩
  have I9 : Hid (Wl w w9 p F7 (advS sB 5)) := (I5.out.1.later B8.out).later (((Below.refl _ _).alloc (Nat.le_refl _) _).trans (hb9.mono (by simp)))
  clear hb9 S2 B8 I5 J1 J2
  have LN : Hid _ := lenW_any p F7 _ w9 I9.out.at_
  rw [ex_adv.2.2.2.2] at LN
  go_wp2_with (go_at_call 23; refine Calls.mono LN.out ?_; rintro e w10 ⟨rfl, rfl⟩)
  go_ret
  exact ⟨rfl, I9.out.below⟩
end Go.Proofs.Ythnkkkiobbnpmaa
