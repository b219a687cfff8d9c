/- RoutePaths answers true, by the layer's contracts. -/
import Derived.Test.YthcopaeelbaobaaRB2
namespace Go.Proofs.Ythcopaeelbaobaa
open Go.RowKit Go.Proofs.Fd Go.Proofs.Rt
set_option maxRecDepth 20000

set_option maxHeartbeats 2000000 in
theorem RoutePaths_walk (CE : Hid EncodeC) (CP : Hid PathC) (a : Option Addr) (hs : List Hp) (n cap : Nat) (hn : Hid (hs.length = n)) (hb : n * 48 ≤ 140737488355328) (w : World) (hc : Hid (HopsAt w a hs)) (ha : a = none → n = 0 ∧ cap = 0) (hi : Hid (∀ h ∈ hs, h.id.size ≤ 140737488355328)) :
    Calls Try.prog 5 #[.slice a n cap] w fun e w' => e = .returned (.bool true) ∧ Below w.heap.size w w' := by
  have WK : Hid (∀ w, Calls Try.prog 13 #[] w fun e w' => e = .returned (.bool true) ∧ Below w.heap.size w w') := fun w => works7_any CE CP w
  have P1 : Hid (∀ (x : Option Addr) (c : Nat) (w : World), HopsAt w x hs → Calls Try.prog 16 #[.slice x n c] w fun e w' => e = .returned (.int .i64 (pth hs)) ∧ Below w.heap.size w w') := fun x c w h => CP.out x hs n c w hn (by show n ≤ _; omega) hi h
  have P2 : Hid (∀ (w : World), HopsAt w a hs → Calls Try.prog 17 #[.slice a n cap] w fun e w' => e = .returned (.int .i64 (pth hs)) ∧ Below w.heap.size w w') := fun w h => rPath_any a hs n cap hn (by omega) w h
  clear CE CP
  obtain ⟨i0, hi0, hz0, hz1, hz2⟩ := info_parts infoHop
  by_cases hne : n = 0
  · subst hne
    cases a with
    | none =>
      obtain rfl := (ha rfl).2
      clear ha
      clear hi
      have hs0 : hs = [] := List.eq_nil_of_length_eq_zero hn.out
      subst hs0
      go_enter Try.func5, Try.ntmps5
      go_wp2_with fail
      refine Calls.mono (P1.out _ _ _ (hops_none _ _)) ?_
      rintro e w1 ⟨rfl, hb1⟩
      have B1 : Hid (Below w.heap.size w w1) := chain ((Below.refl _ _).alloc (Nat.le_refl _) _) hb1
      clear hb1 P1
      go_wp2_with fail
      refine Calls.mono (P2.out _ (hops_none _ _)) ?_
      rintro e w2 ⟨rfl, hb2⟩
      have B2 : Hid (Below w.heap.size w w2) := chain B1.out hb2
      clear hb2 P2
      go_wp2_with fail
      go_loopw [4] (fun iv wx => iv = .int .i64 0 ∧ Hid (w2 = wx)) (fun _ _ => 0)
      case atStart => exact ⟨rfl, rfl⟩
      case round =>
        obtain ⟨rfl, I⟩ := hrel
        have hI := I.out
        subst hI
        go_wp2_with fail
        refine Calls.mono (WK.out _) ?_
        rintro e w3 ⟨rfl, hb3⟩
        have B3 : Hid (Below w.heap.size w w3) := chain B2.out hb3
        clear hb3
        go_wp2
        go_ret
        exact ⟨rfl, B3.out⟩
    | some x =>
      clear ha
      clear hi
      have hs0 : hs = [] := List.eq_nil_of_length_eq_zero hn.out
      subst hs0
      go_enter Try.func5, Try.ntmps5
      go_wp2_with fail
      refine Calls.mono (P1.out _ _ _ (hops_none _ _)) ?_
      rintro e w1 ⟨rfl, hb1⟩
      have B1 : Hid (Below w.heap.size w w1) := chain ((Below.refl _ _).alloc (Nat.le_refl _) _) hb1
      clear hb1 P1
      go_wp2_with fail
      refine Calls.mono (P2.out _ (hops_none _ _)) ?_
      rintro e w2 ⟨rfl, hb2⟩
      have B2 : Hid (Below w.heap.size w w2) := chain B1.out hb2
      clear hb2 P2
      go_wp2_with fail
      go_loopw [4] (fun iv wx => iv = .int .i64 0 ∧ Hid (w2 = wx)) (fun _ _ => 0)
      case atStart => exact ⟨rfl, rfl⟩
      case round =>
        obtain ⟨rfl, I⟩ := hrel
        have hI := I.out
        subst hI
        go_wp2_with fail
        refine Calls.mono (WK.out _) ?_
        rintro e w3 ⟨rfl, hb3⟩
        have B3 : Hid (Below w.heap.size w w3) := chain B2.out hb3
        clear hb3
        go_wp2
        go_ret
        exact ⟨rfl, B3.out⟩
  · obtain ⟨⟨b, o, spot⟩, rfl⟩ : ∃ x, a = some x := by
      cases a with
      | none => exact absurd (ha rfl).1 hne
      | some x => exact ⟨x, rfl⟩
    obtain ⟨b', o', he, -⟩ := hc.out 0 (by have := hn.out; omega)
    obtain rfl : spot = none := by cases he; rfl
    have NW : Hid (∀ j u, (hcells hs)[j]? = some u → (w.alloc (.cells #[] 23)).cell? (Addr.add ⟨b, o, none⟩ j) = some u) := (hc.out.later ((Below.refl _ _).alloc (Nat.le_refl _) _) rfl).each
    have OW : Hid ((w.alloc (.cells #[] 23)).ownsRow w.heap.size 23 5 (.slice (some ⟨w.heap.size, 0, none⟩) 0 0) 0 []) := ⟨rfl, .inr ⟨_, 0, #[], rfl, Nat.le_refl _, heap_newr _ _, Nat.le_refl _, by decide, rfl, rfl⟩⟩
    clear he ha
    go_enter Try.func5, Try.ntmps5
    go_wp2_with (first
      | (at_builtin; refine wpList_append_own _ rfl _ _ 33 rfl w.heap.size 23 i0 (.agg #[.int .i64 0, .int .i64 0, .int .i64 0, .int .i64 0, .string ⟨#[]⟩]) 5 48 Try.underlying33 hi0 hz0 hz1 hz2 rfl (by decide) _ _ _ rfl OW.out ⟨b, o, none⟩ n cap (hcells hs) rfl (by rw [hcells_len, hn.out]) NW.out (hcells_one hs) (by unfold maxLen; omega) (by omega) (by simp) ?_; intro v1 w2 hown1 hgrow1 hnil1; simp only [Nat.zero_add, List.nil_append] at hown1))
    have O2 : Hid (w2.ownsRow w.heap.size 23 5 v1 n (hcells hs) ∧ Below w.heap.size w w2) := ⟨hown1, ((Below.refl _ _).alloc (Nat.le_refl _) _).grown hgrow1 (by simp) (fun k hk => (OW.out.lt k hk).1)⟩
    clear hown1 hgrow1 hnil1
    obtain ⟨-, hor⟩ := owns_hops O2.out.1
    rcases hor with ⟨-, h⟩ | ⟨g, c, rfl, hh, -, -, hc1, hc2⟩
    · exact absurd h hne
    have nc : (n : Int) ≤ (c : Int) := by omega
    have HST : Hid (∀ w', Below (World.heap w2).size w2 w' → HopsAt w' (some ⟨g, 0, none⟩) hs ∧ HopsAt w' (some ⟨b, o, none⟩) hs ∧ Below w.heap.size w w') := fun w' h => by
      have hb := chain O2.out.2 h
      exact ⟨hh.later h rfl, hc.out.later hb rfl, hb⟩
    clear hh NW OW O2 hi hc
    refine Calls.mono (P1.out _ _ _ (HST.out _ (Below.refl _ _)).1) ?_
    rintro e w3 ⟨rfl, hb3⟩
    have B3 : Hid (Below (World.heap w2).size w2 w3) := hb3
    clear hb3 P1
    go_wp2_with fail
    refine Calls.mono (P2.out _ (HST.out _ B3.out).2.1) ?_
    rintro e w4 ⟨rfl, hb4⟩
    have B4 : Hid (Below (World.heap w2).size w2 w4) := chain B3.out hb4
    clear hb4 P2 B3
    go_wp2_with fail
    go_loopw [4] (fun iv wx => ∃ q : Nat, q ≤ n ∧ iv = .int .i64 (q : Int) ∧ Hid (Below (World.heap w2).size w2 wx)) (fun iv _ => n - (intOf iv).toNat)
    case atStart => exact ⟨0, Nat.zero_le _, rfl, B4.out⟩
    case round =>
      obtain ⟨q, hq, rfl, I⟩ := hrel
      clear B4
      by_cases hlt : q < n
      · have g1 : (q : Int) < (n : Int) := by omega
        have g2 : q < c := by omega
        obtain ⟨b1, o1, he1, c0, c1, c2, c3, c4⟩ := (HST.out _ I.out).1 q (by rw [hn.out]; exact hlt)
        obtain ⟨b2, o2, he2, d0, d1, d2, d3, d4⟩ := (HST.out _ I.out).2.1 q (by rw [hn.out]; exact hlt)
        cases he1
        cases he2
        generalize hs.getD q zh = h at *
        obtain ⟨k, nn, u, d, id⟩ := h
        simp only at c0 c1 c2 c3 c4 d0 d1 d2 d3 d4
        simp only [Nat.zero_add] at c0 c1 c2 c3 c4
        have II : (id.toList == id.toList) = true := by simp
        go_wp2
        go_quiet (fail)
        have BN : Hid (Below (World.heap w2).size w2 (wr.drewN nq)) := below_drewN I.out nq
        clear I c0 c1 c2 c3 c4 d0 d1 d2 d3 d4
        go_wp2
        exact ⟨⟨q + 1, by omega, by go_num, BN.out⟩, by simp [intOf]; omega⟩
      · obtain rfl : q = n := by omega
        have g1 : ¬ (q : Int) < (q : Int) := by omega
        go_wp2_with fail
        refine Calls.mono (WK.out _) ?_
        rintro e w5 ⟨rfl, hb5⟩
        have B5 : Hid (Below w.heap.size w w5) := chain (HST.out _ I.out).2.2 hb5
        clear hb5
        go_wp2
        go_ret
        exact ⟨rfl, B5.out⟩
end Go.Proofs.Ythcopaeelbaobaa
