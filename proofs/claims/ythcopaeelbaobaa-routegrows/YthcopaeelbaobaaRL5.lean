/- RouteGrows answers true, by the layer's contracts. -/
import Derived.Test.YthcopaeelbaobaaRB2
import Derived.Test.YthcopaeelbaobaaRM2
namespace Go.Proofs.Ythcopaeelbaobaa
open Go.RowKit Go.Proofs.Fd Go.Proofs.Rt
set_option maxRecDepth 20000

theorem HopsAt.part {w : World} {a : Option Addr} {l : List Hp} (h : HopsAt w a l) (m : Nat) : HopsAt w a (l.take m) := fun i hi => by
  have hm : i < m := by rw [List.length_take] at hi; omega
  have hl : i < l.length := by rw [List.length_take] at hi; omega
  rw [getD_take _ _ _ hm]
  exact h i hl

set_option maxHeartbeats 2000000 in
theorem RouteGrows_walk (CC : Hid CheckC) (CE : Hid EncodeC) (CP : Hid PathC) (a : Option Addr) (hs : List Hp) (n cap : Nat) (hn : Hid (hs.length = n)) (hb : n ≤ 140737488355328) (hncap : n ≤ cap) (w : World) (hc : Hid (HopsAt w a hs)) (ha : a = none → n = 0 ∧ cap = 0) (hi : Hid (∀ h ∈ hs, h.id.size ≤ 140737488355328)) (h : Hp) (hh : h.id.size ≤ 140737488355328) :
    Calls Try.prog 7 #[.slice a n cap, hv h] w fun e w' => e = .returned (.bool true) ∧ Below w.heap.size w w' := by
  have WK : Hid (∀ w, Calls Try.prog 13 #[] w fun e w' => e = .returned (.bool true) ∧ Below w.heap.size w w') := fun w => works7_any CE CP w
  have P1 : Hid (∀ (w : World), HopsAt w a hs → Calls Try.prog 16 #[.slice a n cap] w fun e w' => e = .returned (.int .i64 (pth hs)) ∧ Below w.heap.size w w') := fun w h => CP.out a hs n cap w hn hb hi h
  have C1 : Hid (∀ (w : World), Calls Try.prog 11 #[hv h] w fun e w' => e = .returned (.int .i64 (chk h)) ∧ Below w.heap.size w w') := fun w => CC.out h w hh
  by_cases hz : pth hs = 0
  · obtain ⟨z1, z2, z3, -⟩ := pth_zero hs hz
    rw [hn.out] at z2 z3
    have PL : Hid (1 < n → pth (hs.take (n - 1)) = 4) := fun q => by
      have := pth_less hs hz (by rw [hn.out]; exact q)
      rw [hn.out] at this
      exact this
    have PM : Hid (ok h = true → h.k = 1 → pth (h :: hs) = if n < 5 then 0 else 4) := fun q1 q2 => by
      have := pth_more h hs hz q1 q2
      rw [hn.out] at this
      exact this
    rw [hz] at P1
    obtain ⟨⟨b, o, spot⟩, rfl⟩ : ∃ x, a = some x := by
      cases a with
      | none => have := (ha rfl).1; omega
      | some x => exact ⟨x, rfl⟩
    obtain ⟨b', o', he, -⟩ := hc.out 0 (by have := hn.out; omega)
    obtain rfl : spot = none := by cases he; rfl
    clear he ha z1
    have P2 : Hid (1 < n → ∀ (w : World), HopsAt w (some ⟨b, o, none⟩) hs → Calls Try.prog 16 #[.slice (some ⟨b, o, none⟩) (n - 1) cap] w fun e w' => e = .returned (.int .i64 4) ∧ Below w.heap.size w w') := fun q w h => by
      have := CP.out (some ⟨b, o, none⟩) (hs.take (n - 1)) (n - 1) cap w (by have := hn.out; show (hs.take (n - 1)).length = _; rw [List.length_take]; omega) (by show n - 1 ≤ _; omega) (fun x hx => hi.out x (List.mem_of_mem_take hx)) (h.part _)
      rw [PL.out q] at this
      exact this
    have P3 : Hid (ok h = true → h.k = 1 → ∀ (x : Option Addr) (c : Nat) (w : World), HopsAt w x (h :: hs) → Calls Try.prog 16 #[.slice x (n + 1) c] w fun e w' => e = .returned (.int .i64 (if n < 5 then 0 else 4)) ∧ Below w.heap.size w w') := fun q1 q2 x c w g => by
      have := CP.out x (h :: hs) (n + 1) c w (by show (h :: hs).length = _; rw [List.length_cons, hn.out]) (by show n + 1 ≤ _; omega) (fun y hy => by
        rcases List.mem_cons.1 hy with rfl | hy
        · exact hh
        · exact hi.out y hy) g
      rw [PM.out q1 q2] at this
      exact this
    clear CC CE CP PL PM hi hz
    obtain ⟨i0, hi0, hz0, hz1, hz2⟩ := info_parts infoHop
    have x1 : IntKind.i64.wrap ((n : Int) - 1) = ((n - 1 : Nat) : Int) := by rw [IntKind.wrap_i64]; omega
    have x2 : ((n : Int) - 1) = ((n - 1 : Nat) : Int) := by omega
    obtain ⟨k, nn, u, d, id⟩ := h
    unfold hv at C1 ⊢
    simp only at C1 P3 hh ⊢
    by_cases hgt : 1 < n
    · have g1 : (1 : Int) < (n : Int) := by omega
      have x3 : ((n - 1 : Nat) : Int) ≤ (cap : Int) := by omega
      by_cases k1 : k = 1
      · subst k1
        by_cases hk : ok ⟨1, nn, u, d, id⟩ = true
        · rw [chk_ok _ hk] at C1
          have P4 : Hid (_) := P3.out hk rfl
          clear P3 hk
          by_cases n5 : n < 5
          · rw [if_pos n5] at P4
            have m5 : (n : Int) < 5 := by omega
            go_enter Try.func7, Try.ntmps7
            go_wp2_with fail
            refine Calls.mono (WK.out _) ?_
            rintro e w1 ⟨rfl, hb1⟩
            have B1 : Hid (HopAt w1 w.heap.size ⟨1, nn, u, d, id⟩ ∧ HopsAt w1 (some ⟨b, o, none⟩) hs ∧ Below w.heap.size w w1) := by
              have b0 := (Below.refl _ w).alloc (Nat.le_refl _) (.cells #[.int .i64 1, .int .i64 nn, .int .i64 u, .int .i64 d, .string id] 23)
              exact ⟨(HopAt.fresh _ _ _ _ _ _ _).later hb1, hc.out.later (chain b0 hb1) rfl, chain b0 hb1⟩
            clear hb1 WK
            go_wp2_with fail
            refine Calls.mono (P1.out _ B1.out.2.1) ?_
            rintro e w2 ⟨rfl, hb2⟩
            have B2 : Hid (HopAt w2 w.heap.size ⟨1, nn, u, d, id⟩ ∧ HopsAt w2 (some ⟨b, o, none⟩) hs ∧ Below w.heap.size w w2) := ⟨B1.out.1.later hb2, B1.out.2.1.later hb2 rfl, chain B1.out.2.2 hb2⟩
            clear hb2 P1 B1
            go_wp2_with fail
            refine Calls.mono (P2.out hgt _ B2.out.2.1) ?_
            rintro e w3 ⟨rfl, hb3⟩
            have B3 : Hid (HopAt w3 w.heap.size ⟨1, nn, u, d, id⟩ ∧ HopsAt w3 (some ⟨b, o, none⟩) hs ∧ Below w.heap.size w w3) := ⟨B2.out.1.later hb3, B2.out.2.1.later hb3 rfl, chain B2.out.2.2 hb3⟩
            clear hb3 P2 B2

            obtain ⟨p0, p1, p2, p3, p4⟩ := B3.out.1.cells
            go_wp2_with fail
            refine Calls.mono (C1.out _) ?_
            rintro e w4 ⟨rfl, hb4⟩
            have B4 : Hid (HopAt w4 w.heap.size ⟨1, nn, u, d, id⟩ ∧ HopsAt w4 (some ⟨b, o, none⟩) hs ∧ Below w.heap.size w w4) := ⟨B3.out.1.later hb4, B3.out.2.1.later hb4 rfl, chain B3.out.2.2 hb4⟩
            clear hb4 C1 p0 p1 p2 p3 p4 B3
            obtain ⟨p0, p1, p2, p3, p4⟩ := B4.out.1.cells
            have NW : Hid (∀ j u', (hcells hs)[j]? = some u' → (w4.alloc (.cells #[.int .i64 1, .int .i64 nn, .int .i64 u, .int .i64 d, .string id] 23)).cell? (Addr.add ⟨b, o, none⟩ j) = some u') := (B4.out.2.1.later ((Below.refl _ _).alloc (Nat.le_refl _) _) rfl).each
            have OW : Hid ((w4.alloc (.cells #[.int .i64 1, .int .i64 nn, .int .i64 u, .int .i64 d, .string id] 23)).ownsRow w4.heap.size 23 5 (.slice (some ⟨w4.heap.size, 0, none⟩) 1 1) 1 (hcells [⟨1, nn, u, d, id⟩])) := ⟨rfl, .inr ⟨_, 1, _, rfl, Nat.le_refl _, heap_newr _ _, Nat.le_refl _, by decide, rfl, rfl⟩⟩
            go_wp2_with (first
              | (at_builtin; refine wpList_append_own _ rfl _ _ 33 rfl w4.heap.size 23 i0 (.agg #[.int .i64 0, .int .i64 0, .int .i64 0, .int .i64 0, .string ⟨#[]⟩]) 5 48 Try.underlying33 hi0 hz0 hz1 hz2 rfl (by decide) _ _ _ rfl OW.out ⟨b, o, none⟩ n cap (hcells hs) rfl (by rw [hcells_len, hn.out]) NW.out (hcells_one hs) (by unfold maxLen; omega) (by omega) (by simp) ?_; intro v1 w5 hown1 hgrow1 hnil1))
            have O2 : Hid (w5.ownsRow w4.heap.size 23 5 v1 (n + 1) (hcells (⟨1, nn, u, d, id⟩ :: hs)) ∧ Below w.heap.size w w5) := by
              rw [Nat.add_comm 1 n] at hown1
              exact ⟨hown1, chain B4.out.2.2 (((Below.refl _ _).alloc (Nat.le_refl _) _).grown hgrow1 (by simp) (fun k hk => (OW.out.lt k hk).1))⟩
            clear hown1 hgrow1 hnil1
            obtain ⟨-, hor⟩ := owns_hops O2.out.1
            rcases hor with ⟨-, h⟩ | ⟨g, c, rfl, hg, -, -, -, -⟩
            · exact absurd h (by omega)
            refine Calls.mono (P4.out _ _ _ hg) ?_
            rintro e w6 ⟨rfl, hb6⟩
            have B6 : Hid (Below w.heap.size w w6) := chain O2.out.2 hb6
            clear hb6 P4 NW OW O2 hg B4 p0 p1 p2 p3 p4
            go_wp2
            go_ret
            first
              | exact ⟨rfl, B6.out⟩
              | exact ⟨by show Ending.returned (Value.bool (!decide ((n : Int) < 5))) = _; rw [decide_eq_false (show ¬ (n : Int) < 5 by omega)]; rfl, B6.out⟩
          · rw [if_neg n5] at P4
            have M5 : Hid (¬ (n : Int) < 5) := by show ¬ (n : Int) < 5; omega
            have m5 := M5.out
            go_enter Try.func7, Try.ntmps7
            go_wp2_with fail
            refine Calls.mono (WK.out _) ?_
            rintro e w1 ⟨rfl, hb1⟩
            have B1 : Hid (HopAt w1 w.heap.size ⟨1, nn, u, d, id⟩ ∧ HopsAt w1 (some ⟨b, o, none⟩) hs ∧ Below w.heap.size w w1) := by
              have b0 := (Below.refl _ w).alloc (Nat.le_refl _) (.cells #[.int .i64 1, .int .i64 nn, .int .i64 u, .int .i64 d, .string id] 23)
              exact ⟨(HopAt.fresh _ _ _ _ _ _ _).later hb1, hc.out.later (chain b0 hb1) rfl, chain b0 hb1⟩
            clear hb1 WK
            go_wp2_with fail
            refine Calls.mono (P1.out _ B1.out.2.1) ?_
            rintro e w2 ⟨rfl, hb2⟩
            have B2 : Hid (HopAt w2 w.heap.size ⟨1, nn, u, d, id⟩ ∧ HopsAt w2 (some ⟨b, o, none⟩) hs ∧ Below w.heap.size w w2) := ⟨B1.out.1.later hb2, B1.out.2.1.later hb2 rfl, chain B1.out.2.2 hb2⟩
            clear hb2 P1 B1
            go_wp2_with fail
            refine Calls.mono (P2.out hgt _ B2.out.2.1) ?_
            rintro e w3 ⟨rfl, hb3⟩
            have B3 : Hid (HopAt w3 w.heap.size ⟨1, nn, u, d, id⟩ ∧ HopsAt w3 (some ⟨b, o, none⟩) hs ∧ Below w.heap.size w w3) := ⟨B2.out.1.later hb3, B2.out.2.1.later hb3 rfl, chain B2.out.2.2 hb3⟩
            clear hb3 P2 B2

            obtain ⟨p0, p1, p2, p3, p4⟩ := B3.out.1.cells
            go_wp2_with fail
            refine Calls.mono (C1.out _) ?_
            rintro e w4 ⟨rfl, hb4⟩
            have B4 : Hid (HopAt w4 w.heap.size ⟨1, nn, u, d, id⟩ ∧ HopsAt w4 (some ⟨b, o, none⟩) hs ∧ Below w.heap.size w w4) := ⟨B3.out.1.later hb4, B3.out.2.1.later hb4 rfl, chain B3.out.2.2 hb4⟩
            clear hb4 C1 p0 p1 p2 p3 p4 B3
            obtain ⟨p0, p1, p2, p3, p4⟩ := B4.out.1.cells
            have NW : Hid (∀ j u', (hcells hs)[j]? = some u' → (w4.alloc (.cells #[.int .i64 1, .int .i64 nn, .int .i64 u, .int .i64 d, .string id] 23)).cell? (Addr.add ⟨b, o, none⟩ j) = some u') := (B4.out.2.1.later ((Below.refl _ _).alloc (Nat.le_refl _) _) rfl).each
            have OW : Hid ((w4.alloc (.cells #[.int .i64 1, .int .i64 nn, .int .i64 u, .int .i64 d, .string id] 23)).ownsRow w4.heap.size 23 5 (.slice (some ⟨w4.heap.size, 0, none⟩) 1 1) 1 (hcells [⟨1, nn, u, d, id⟩])) := ⟨rfl, .inr ⟨_, 1, _, rfl, Nat.le_refl _, heap_newr _ _, Nat.le_refl _, by decide, rfl, rfl⟩⟩
            go_wp2_with (first
              | (at_builtin; refine wpList_append_own _ rfl _ _ 33 rfl w4.heap.size 23 i0 (.agg #[.int .i64 0, .int .i64 0, .int .i64 0, .int .i64 0, .string ⟨#[]⟩]) 5 48 Try.underlying33 hi0 hz0 hz1 hz2 rfl (by decide) _ _ _ rfl OW.out ⟨b, o, none⟩ n cap (hcells hs) rfl (by rw [hcells_len, hn.out]) NW.out (hcells_one hs) (by unfold maxLen; omega) (by omega) (by simp) ?_; intro v1 w5 hown1 hgrow1 hnil1))
            have O2 : Hid (w5.ownsRow w4.heap.size 23 5 v1 (n + 1) (hcells (⟨1, nn, u, d, id⟩ :: hs)) ∧ Below w.heap.size w w5) := by
              rw [Nat.add_comm 1 n] at hown1
              exact ⟨hown1, chain B4.out.2.2 (((Below.refl _ _).alloc (Nat.le_refl _) _).grown hgrow1 (by simp) (fun k hk => (OW.out.lt k hk).1))⟩
            clear hown1 hgrow1 hnil1
            obtain ⟨-, hor⟩ := owns_hops O2.out.1
            rcases hor with ⟨-, h⟩ | ⟨g, c, rfl, hg, -, -, -, -⟩
            · exact absurd h (by omega)
            refine Calls.mono (P4.out _ _ _ hg) ?_
            rintro e w6 ⟨rfl, hb6⟩
            have B6 : Hid (Below w.heap.size w w6) := chain O2.out.2 hb6
            clear hb6 P4 NW OW O2 hg B4 p0 p1 p2 p3 p4
            go_wp2
            go_ret
            first
              | exact ⟨rfl, B6.out⟩
              | exact ⟨by show Ending.returned (Value.bool (!decide ((n : Int) < 5))) = _; rw [decide_eq_false (show ¬ (n : Int) < 5 by omega)]; rfl, B6.out⟩
        · rw [chk_no _ hk] at C1
          clear P3 hk
          go_enter Try.func7, Try.ntmps7
          go_wp2_with fail
          refine Calls.mono (WK.out _) ?_
          rintro e w1 ⟨rfl, hb1⟩
          have B1 : Hid (HopAt w1 w.heap.size ⟨1, nn, u, d, id⟩ ∧ HopsAt w1 (some ⟨b, o, none⟩) hs ∧ Below w.heap.size w w1) := by
            have b0 := (Below.refl _ w).alloc (Nat.le_refl _) (.cells #[.int .i64 1, .int .i64 nn, .int .i64 u, .int .i64 d, .string id] 23)
            exact ⟨(HopAt.fresh _ _ _ _ _ _ _).later hb1, hc.out.later (chain b0 hb1) rfl, chain b0 hb1⟩
          clear hb1 WK
          go_wp2_with fail
          refine Calls.mono (P1.out _ B1.out.2.1) ?_
          rintro e w2 ⟨rfl, hb2⟩
          have B2 : Hid (HopAt w2 w.heap.size ⟨1, nn, u, d, id⟩ ∧ HopsAt w2 (some ⟨b, o, none⟩) hs ∧ Below w.heap.size w w2) := ⟨B1.out.1.later hb2, B1.out.2.1.later hb2 rfl, chain B1.out.2.2 hb2⟩
          clear hb2 P1 B1
          go_wp2_with fail
          refine Calls.mono (P2.out hgt _ B2.out.2.1) ?_
          rintro e w3 ⟨rfl, hb3⟩
          have B3 : Hid (HopAt w3 w.heap.size ⟨1, nn, u, d, id⟩ ∧ HopsAt w3 (some ⟨b, o, none⟩) hs ∧ Below w.heap.size w w3) := ⟨B2.out.1.later hb3, B2.out.2.1.later hb3 rfl, chain B2.out.2.2 hb3⟩
          clear hb3 P2 B2

          obtain ⟨p0, p1, p2, p3, p4⟩ := B3.out.1.cells
          go_wp2_with fail
          refine Calls.mono (C1.out _) ?_
          rintro e w4 ⟨rfl, hb4⟩
          have B4 : Hid (Below w.heap.size w w4) := chain B3.out.2.2 hb4
          clear hb4 C1 p0 p1 p2 p3 p4 B3
          go_wp2
          go_ret
          exact ⟨rfl, B4.out⟩
      · have kb : (k == 1) = false := beq_eq_false_iff_ne.2 k1
        clear P3 C1
        go_enter Try.func7, Try.ntmps7
        go_wp2_with fail
        refine Calls.mono (WK.out _) ?_
        rintro e w1 ⟨rfl, hb1⟩
        have B1 : Hid (HopAt w1 w.heap.size ⟨k, nn, u, d, id⟩ ∧ HopsAt w1 (some ⟨b, o, none⟩) hs ∧ Below w.heap.size w w1) := by
          have b0 := (Below.refl _ w).alloc (Nat.le_refl _) (.cells #[.int .i64 k, .int .i64 nn, .int .i64 u, .int .i64 d, .string id] 23)
          exact ⟨(HopAt.fresh _ _ _ _ _ _ _).later hb1, hc.out.later (chain b0 hb1) rfl, chain b0 hb1⟩
        clear hb1 WK
        go_wp2_with fail
        refine Calls.mono (P1.out _ B1.out.2.1) ?_
        rintro e w2 ⟨rfl, hb2⟩
        have B2 : Hid (HopAt w2 w.heap.size ⟨k, nn, u, d, id⟩ ∧ HopsAt w2 (some ⟨b, o, none⟩) hs ∧ Below w.heap.size w w2) := ⟨B1.out.1.later hb2, B1.out.2.1.later hb2 rfl, chain B1.out.2.2 hb2⟩
        clear hb2 P1 B1
        go_wp2_with fail
        refine Calls.mono (P2.out hgt _ B2.out.2.1) ?_
        rintro e w3 ⟨rfl, hb3⟩
        have B3 : Hid (HopAt w3 w.heap.size ⟨k, nn, u, d, id⟩ ∧ HopsAt w3 (some ⟨b, o, none⟩) hs ∧ Below w.heap.size w w3) := ⟨B2.out.1.later hb3, B2.out.2.1.later hb3 rfl, chain B2.out.2.2 hb3⟩
        clear hb3 P2 B2

        obtain ⟨p0, p1, p2, p3, p4⟩ := B3.out.1.cells
        go_wp2
        go_ret
        exact ⟨rfl, B3.out.2.2⟩
    · have g1 : ¬ (1 : Int) < (n : Int) := by omega
      by_cases k1 : k = 1
      · subst k1
        by_cases hk : ok ⟨1, nn, u, d, id⟩ = true
        · rw [chk_ok _ hk] at C1
          have P4 : Hid (_) := P3.out hk rfl
          clear P3 hk
          by_cases n5 : n < 5
          · rw [if_pos n5] at P4
            have m5 : (n : Int) < 5 := by omega
            go_enter Try.func7, Try.ntmps7
            go_wp2_with fail
            refine Calls.mono (WK.out _) ?_
            rintro e w1 ⟨rfl, hb1⟩
            have B1 : Hid (HopAt w1 w.heap.size ⟨1, nn, u, d, id⟩ ∧ HopsAt w1 (some ⟨b, o, none⟩) hs ∧ Below w.heap.size w w1) := by
              have b0 := (Below.refl _ w).alloc (Nat.le_refl _) (.cells #[.int .i64 1, .int .i64 nn, .int .i64 u, .int .i64 d, .string id] 23)
              exact ⟨(HopAt.fresh _ _ _ _ _ _ _).later hb1, hc.out.later (chain b0 hb1) rfl, chain b0 hb1⟩
            clear hb1 WK
            go_wp2_with fail
            refine Calls.mono (P1.out _ B1.out.2.1) ?_
            rintro e w2 ⟨rfl, hb2⟩
            have B2 : Hid (HopAt w2 w.heap.size ⟨1, nn, u, d, id⟩ ∧ HopsAt w2 (some ⟨b, o, none⟩) hs ∧ Below w.heap.size w w2) := ⟨B1.out.1.later hb2, B1.out.2.1.later hb2 rfl, chain B1.out.2.2 hb2⟩
            clear hb2 P1 B1
            have B3 : Hid (HopAt w2 w.heap.size ⟨1, nn, u, d, id⟩ ∧ HopsAt w2 (some ⟨b, o, none⟩) hs ∧ Below w.heap.size w w2) := B2.out
            clear P2 B2

            obtain ⟨p0, p1, p2, p3, p4⟩ := B3.out.1.cells
            go_wp2_with fail
            refine Calls.mono (C1.out _) ?_
            rintro e w4 ⟨rfl, hb4⟩
            have B4 : Hid (HopAt w4 w.heap.size ⟨1, nn, u, d, id⟩ ∧ HopsAt w4 (some ⟨b, o, none⟩) hs ∧ Below w.heap.size w w4) := ⟨B3.out.1.later hb4, B3.out.2.1.later hb4 rfl, chain B3.out.2.2 hb4⟩
            clear hb4 C1 p0 p1 p2 p3 p4 B3
            obtain ⟨p0, p1, p2, p3, p4⟩ := B4.out.1.cells
            have NW : Hid (∀ j u', (hcells hs)[j]? = some u' → (w4.alloc (.cells #[.int .i64 1, .int .i64 nn, .int .i64 u, .int .i64 d, .string id] 23)).cell? (Addr.add ⟨b, o, none⟩ j) = some u') := (B4.out.2.1.later ((Below.refl _ _).alloc (Nat.le_refl _) _) rfl).each
            have OW : Hid ((w4.alloc (.cells #[.int .i64 1, .int .i64 nn, .int .i64 u, .int .i64 d, .string id] 23)).ownsRow w4.heap.size 23 5 (.slice (some ⟨w4.heap.size, 0, none⟩) 1 1) 1 (hcells [⟨1, nn, u, d, id⟩])) := ⟨rfl, .inr ⟨_, 1, _, rfl, Nat.le_refl _, heap_newr _ _, Nat.le_refl _, by decide, rfl, rfl⟩⟩
            go_wp2_with (first
              | (at_builtin; refine wpList_append_own _ rfl _ _ 33 rfl w4.heap.size 23 i0 (.agg #[.int .i64 0, .int .i64 0, .int .i64 0, .int .i64 0, .string ⟨#[]⟩]) 5 48 Try.underlying33 hi0 hz0 hz1 hz2 rfl (by decide) _ _ _ rfl OW.out ⟨b, o, none⟩ n cap (hcells hs) rfl (by rw [hcells_len, hn.out]) NW.out (hcells_one hs) (by unfold maxLen; omega) (by omega) (by simp) ?_; intro v1 w5 hown1 hgrow1 hnil1))
            have O2 : Hid (w5.ownsRow w4.heap.size 23 5 v1 (n + 1) (hcells (⟨1, nn, u, d, id⟩ :: hs)) ∧ Below w.heap.size w w5) := by
              rw [Nat.add_comm 1 n] at hown1
              exact ⟨hown1, chain B4.out.2.2 (((Below.refl _ _).alloc (Nat.le_refl _) _).grown hgrow1 (by simp) (fun k hk => (OW.out.lt k hk).1))⟩
            clear hown1 hgrow1 hnil1
            obtain ⟨-, hor⟩ := owns_hops O2.out.1
            rcases hor with ⟨-, h⟩ | ⟨g, c, rfl, hg, -, -, -, -⟩
            · exact absurd h (by omega)
            refine Calls.mono (P4.out _ _ _ hg) ?_
            rintro e w6 ⟨rfl, hb6⟩
            have B6 : Hid (Below w.heap.size w w6) := chain O2.out.2 hb6
            clear hb6 P4 NW OW O2 hg B4 p0 p1 p2 p3 p4
            go_wp2
            go_ret
            first
              | exact ⟨rfl, B6.out⟩
              | exact ⟨by show Ending.returned (Value.bool (!decide ((n : Int) < 5))) = _; rw [decide_eq_false (show ¬ (n : Int) < 5 by omega)]; rfl, B6.out⟩
          · exfalso
            omega
        · rw [chk_no _ hk] at C1
          clear P3 hk
          go_enter Try.func7, Try.ntmps7
          go_wp2_with fail
          refine Calls.mono (WK.out _) ?_
          rintro e w1 ⟨rfl, hb1⟩
          have B1 : Hid (HopAt w1 w.heap.size ⟨1, nn, u, d, id⟩ ∧ HopsAt w1 (some ⟨b, o, none⟩) hs ∧ Below w.heap.size w w1) := by
            have b0 := (Below.refl _ w).alloc (Nat.le_refl _) (.cells #[.int .i64 1, .int .i64 nn, .int .i64 u, .int .i64 d, .string id] 23)
            exact ⟨(HopAt.fresh _ _ _ _ _ _ _).later hb1, hc.out.later (chain b0 hb1) rfl, chain b0 hb1⟩
          clear hb1 WK
          go_wp2_with fail
          refine Calls.mono (P1.out _ B1.out.2.1) ?_
          rintro e w2 ⟨rfl, hb2⟩
          have B2 : Hid (HopAt w2 w.heap.size ⟨1, nn, u, d, id⟩ ∧ HopsAt w2 (some ⟨b, o, none⟩) hs ∧ Below w.heap.size w w2) := ⟨B1.out.1.later hb2, B1.out.2.1.later hb2 rfl, chain B1.out.2.2 hb2⟩
          clear hb2 P1 B1
          have B3 : Hid (HopAt w2 w.heap.size ⟨1, nn, u, d, id⟩ ∧ HopsAt w2 (some ⟨b, o, none⟩) hs ∧ Below w.heap.size w w2) := B2.out
          clear P2 B2

          obtain ⟨p0, p1, p2, p3, p4⟩ := B3.out.1.cells
          go_wp2_with fail
          refine Calls.mono (C1.out _) ?_
          rintro e w4 ⟨rfl, hb4⟩
          have B4 : Hid (Below w.heap.size w w4) := chain B3.out.2.2 hb4
          clear hb4 C1 p0 p1 p2 p3 p4 B3
          go_wp2
          go_ret
          exact ⟨rfl, B4.out⟩
      · have kb : (k == 1) = false := beq_eq_false_iff_ne.2 k1
        clear P3 C1
        go_enter Try.func7, Try.ntmps7
        go_wp2_with fail
        refine Calls.mono (WK.out _) ?_
        rintro e w1 ⟨rfl, hb1⟩
        have B1 : Hid (HopAt w1 w.heap.size ⟨k, nn, u, d, id⟩ ∧ HopsAt w1 (some ⟨b, o, none⟩) hs ∧ Below w.heap.size w w1) := by
          have b0 := (Below.refl _ w).alloc (Nat.le_refl _) (.cells #[.int .i64 k, .int .i64 nn, .int .i64 u, .int .i64 d, .string id] 23)
          exact ⟨(HopAt.fresh _ _ _ _ _ _ _).later hb1, hc.out.later (chain b0 hb1) rfl, chain b0 hb1⟩
        clear hb1 WK
        go_wp2_with fail
        refine Calls.mono (P1.out _ B1.out.2.1) ?_
        rintro e w2 ⟨rfl, hb2⟩
        have B2 : Hid (HopAt w2 w.heap.size ⟨k, nn, u, d, id⟩ ∧ HopsAt w2 (some ⟨b, o, none⟩) hs ∧ Below w.heap.size w w2) := ⟨B1.out.1.later hb2, B1.out.2.1.later hb2 rfl, chain B1.out.2.2 hb2⟩
        clear hb2 P1 B1
        have B3 : Hid (HopAt w2 w.heap.size ⟨k, nn, u, d, id⟩ ∧ HopsAt w2 (some ⟨b, o, none⟩) hs ∧ Below w.heap.size w w2) := B2.out
        clear P2 B2

        obtain ⟨p0, p1, p2, p3, p4⟩ := B3.out.1.cells
        go_wp2
        go_ret
        exact ⟨rfl, B3.out.2.2⟩
  · have P1' := P1
    obtain ⟨e0, he0⟩ : ∃ e0, pth hs = e0 := ⟨_, rfl⟩
    rw [he0] at P1 hz
    clear P1' he0 CC CE CP C1
    obtain ⟨k, nn, u, d, id⟩ := h
    unfold hv
    simp only
    go_enter Try.func7, Try.ntmps7
    go_wp2_with fail
    refine Calls.mono (WK.out _) ?_
    rintro e w1 ⟨rfl, hb1⟩
    have B1 : Hid (HopAt w1 w.heap.size ⟨k, nn, u, d, id⟩ ∧ HopsAt w1 a hs ∧ Below w.heap.size w w1) := by
      have b0 := (Below.refl _ w).alloc (Nat.le_refl _) (.cells #[.int .i64 k, .int .i64 nn, .int .i64 u, .int .i64 d, .string id] 23)
      exact ⟨(HopAt.fresh _ _ _ _ _ _ _).later hb1, hc.out.later (chain b0 hb1) rfl, chain b0 hb1⟩
    clear hb1 WK
    go_wp2_with fail
    refine Calls.mono (P1.out _ B1.out.2.1) ?_
    rintro e w2 ⟨rfl, hb2⟩
    have B2 : Hid (HopAt w2 w.heap.size ⟨k, nn, u, d, id⟩ ∧ HopsAt w2 a hs ∧ Below w.heap.size w w2) := ⟨B1.out.1.later hb2, B1.out.2.1.later hb2 rfl, chain B1.out.2.2 hb2⟩
    clear hb2 P1 B1
    go_wp2
    go_ret
    exact ⟨rfl, B2.out.2.2⟩
end Go.Proofs.Ythcopaeelbaobaa
