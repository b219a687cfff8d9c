/- RouteBack answers true, by the layer's contracts. -/
import Derived.Test.YthcopaeelbaobaaRL1
namespace Go.Proofs.Ythcopaeelbaobaa
open Go.RowKit Go.Proofs.Fd Go.Proofs.Rt
set_option maxRecDepth 20000

set_option maxHeartbeats 2000000 in
theorem RouteBack_walk (CD : Hid DecodeC) (CE : Hid EncodeC) (CP : Hid PathC) (h : Hp) (b : ByteArray) (hi : h.id.size ≤ 140737488355328) (hb : b.size ≤ 140737488355328) (w : World) :
    Calls Try.prog 6 #[hv h, .string b] w fun e w' => e = .returned (.bool true) ∧ Below w.heap.size w w' := by
  have WK : Hid (∀ w, Calls Try.prog 13 #[] w fun e w' => e = .returned (.bool true) ∧ Below w.heap.size w w') := fun w => works7_any CE CP w
  have E1 : Hid (∀ w, Calls Try.prog 9 #[hv h] w fun e w' => e = .returned (.tuple (enV h)) ∧ Below w.heap.size w w') := fun w => CE.out h w hi
  have D2 : Hid (∀ w, Calls Try.prog 14 #[.string b] w fun e w' => e = .returned (.tuple (dcV b)) ∧ Below w.heap.size w w') := fun w => CD.out b w hb
  by_cases hk : ok h = true
  · obtain ⟨X, hX⟩ : ∃ X : ByteArray, ⟨(byt h).toArray⟩ = X := ⟨_, rfl⟩
    have sX : X.size = 24 := by
      have := byt_len h hk
      rw [← hX]
      show (byt h).toArray.size = 24
      simpa using this
    have D1 : Hid (∀ w, Calls Try.prog 14 #[.string X] w fun e w' => e = .returned (.tuple #[hv h, .int .i64 0]) ∧ Below w.heap.size w w') := fun w => by
      have := CD.out X w (by rw [sX]; show (24 : Nat) ≤ _; decide)
      rw [dcV_some X h sX (by rw [← hX]; exact dcd_byt h hk)] at this
      exact this
    rw [enV_ok h hk, hX] at E1
    have sXi : (X.size : Int) = 24 := by omega
    clear hX hk CD CP
    obtain ⟨k, n, u, d, id⟩ := h
    unfold hv at E1 D1 ⊢
    simp only at E1 D1 ⊢
    have XX : (id.toList == id.toList) = true := by simp
    go_enter Try.func6, Try.ntmps6
    go_wp2_with fail
    refine Calls.mono (WK.out _) ?_
    rintro e w1 ⟨rfl, hb1⟩
    have B1 : Hid (HopAt w1 w.heap.size ⟨k, n, u, d, id⟩ ∧ Below w.heap.size w w1) := ⟨(HopAt.fresh _ _ _ _ _ _ _).later hb1, chain ((Below.refl _ _).alloc (Nat.le_refl _) _) hb1⟩
    obtain ⟨p0, p1, p2, p3, p4⟩ := B1.out.1.cells
    clear hb1 WK
    go_wp2_with fail
    refine Calls.mono (E1.out _) ?_
    rintro e w2 ⟨rfl, hb2⟩
    have B2 : Hid (HopAt w2 w.heap.size ⟨k, n, u, d, id⟩ ∧ Below w.heap.size w w2) := ⟨B1.out.1.later hb2, chain B1.out.2 hb2⟩
    clear hb2 E1 p0 p1 p2 p3 p4 B1
    go_wp2_with fail
    refine Calls.mono (D1.out _) ?_
    rintro e w3 ⟨rfl, hb3⟩
    obtain ⟨W, hW⟩ : ∃ W, w3.alloc (.cells #[.int .i64 k, .int .i64 n, .int .i64 u, .int .i64 d, .string id] 23) = W := ⟨_, rfl⟩
    have B3 : Hid (HopAt W w.heap.size ⟨k, n, u, d, id⟩ ∧ HopAt W w3.heap.size ⟨k, n, u, d, id⟩ ∧ Below w.heap.size w W) := by
      rw [← hW]
      have bw := (Below.refl _ w3).alloc (Nat.le_refl _) (.cells #[.int .i64 k, .int .i64 n, .int .i64 u, .int .i64 d, .string id] 23)
      exact ⟨(B2.out.1.later hb3).later bw, HopAt.fresh _ _ _ _ _ _ _, chain (chain B2.out.2 hb3) bw⟩
    obtain ⟨p0, p1, p2, p3, p4⟩ := B3.out.1.cells
    obtain ⟨q0, q1, q2, q3, q4⟩ := B3.out.2.1.cells
    clear hb3 D1 B2
    by_cases hq : ∃ x, b.size = 24 ∧ dcd b.data.toList = some x
    · obtain ⟨⟨k', n', u', d', id'⟩, h24, hx⟩ := hq
      obtain ⟨o1, o2, -, -⟩ := dcd_some _ _ hx
      rw [dcV_some b _ h24 hx] at D2
      have iz : id'.size ≤ 140737488355328 := by
        rcases id_len _ o1 with g | g
        · simp only at g; omega
        · simp only at g; omega
      have E2 : Hid (∀ w, Calls Try.prog 9 #[hv ⟨k', n', u', d', id'⟩] w fun e w' => e = .returned (.tuple #[.string b, .int .i64 0]) ∧ Below w.heap.size w w') := fun w => by
        have := CE.out ⟨k', n', u', d', id'⟩ w iz
        rw [enV_ok _ o1, o2] at this
        exact this
      have BB : (b.toList == b.toList) = true := by simp
      unfold hv at *
      simp only at D2 E2
      clear o1 o2 hx h24 iz
      go_wp2_with fail
      refine Calls.mono (D2.out _) ?_
      rintro e w5 ⟨rfl, hb5⟩
      have B5 : Hid (Below w.heap.size w w5) := chain B3.out.2.2 hb5
      clear hb5 D2
      go_wp2_with fail
      refine Calls.mono (E2.out _) ?_
      rintro e w6 ⟨rfl, hb6⟩
      have B6 : Hid (Below w.heap.size w w6) := chain (chain B5.out ((Below.refl _ _).alloc (Nat.le_refl _) _)) hb6
      clear hb6 E2
      go_wp2
      go_ret
      exact ⟨rfl, B6.out⟩
    · obtain ⟨e', he', hd'⟩ : ∃ e' : Int, ¬ e' = 0 ∧ dcV b = #[hv zh, .int .i64 e'] := by
        by_cases h24 : b.size = 24
        · cases hx : dcd b.data.toList with
          | some x => exact absurd ⟨x, h24, hx⟩ hq
          | none => exact ⟨70, by decide, dcV_none b h24 hx⟩
        · exact ⟨3, by decide, dcV_form b h24⟩
      rw [hd'] at D2
      unfold hv zh at *
      simp only at D2
      clear hd' hq
      go_wp2_with fail
      refine Calls.mono (D2.out _) ?_
      rintro e w5 ⟨rfl, hb5⟩
      have B5 : Hid (Below w.heap.size w w5) := chain B3.out.2.2 hb5
      clear hb5 D2
      go_wp2
      go_ret
      exact ⟨rfl, B5.out.alloc B5.out.size _⟩
  · rw [enV_no h hk] at E1
    clear CD CP hk
    obtain ⟨k, n, u, d, id⟩ := h
    unfold hv at E1 ⊢
    simp only at E1 ⊢
    go_enter Try.func6, Try.ntmps6
    go_wp2_with fail
    refine Calls.mono (WK.out _) ?_
    rintro e w1 ⟨rfl, hb1⟩
    have B1 : Hid (HopAt w1 w.heap.size ⟨k, n, u, d, id⟩ ∧ Below w.heap.size w w1) := ⟨(HopAt.fresh _ _ _ _ _ _ _).later hb1, chain ((Below.refl _ _).alloc (Nat.le_refl _) _) hb1⟩
    obtain ⟨p0, p1, p2, p3, p4⟩ := B1.out.1.cells
    clear hb1 WK
    go_wp2_with fail
    refine Calls.mono (E1.out _) ?_
    rintro e w2 ⟨rfl, hb2⟩
    have B2 : Hid (Below w.heap.size w w2) := chain B1.out.2 hb2
    clear hb2 E1 p0 p1 p2 p3 p4 B1
    by_cases hq : ∃ x, b.size = 24 ∧ dcd b.data.toList = some x
    · obtain ⟨⟨k', n', u', d', id'⟩, h24, hx⟩ := hq
      obtain ⟨o1, o2, -, -⟩ := dcd_some _ _ hx
      rw [dcV_some b _ h24 hx] at D2
      have iz : id'.size ≤ 140737488355328 := by
        rcases id_len _ o1 with g | g
        · simp only at g; omega
        · simp only at g; omega
      have E2 : Hid (∀ w, Calls Try.prog 9 #[hv ⟨k', n', u', d', id'⟩] w fun e w' => e = .returned (.tuple #[.string b, .int .i64 0]) ∧ Below w.heap.size w w') := fun w => by
        have := CE.out ⟨k', n', u', d', id'⟩ w iz
        rw [enV_ok _ o1, o2] at this
        exact this
      have BB : (b.toList == b.toList) = true := by simp
      unfold hv at *
      simp only at D2 E2
      clear o1 o2 hx h24 iz
      go_wp2_with fail
      refine Calls.mono (D2.out _) ?_
      rintro e w5 ⟨rfl, hb5⟩
      have B5 : Hid (Below w.heap.size w w5) := chain B2.out hb5
      clear hb5 D2
      go_wp2_with fail
      refine Calls.mono (E2.out _) ?_
      rintro e w6 ⟨rfl, hb6⟩
      have B6 : Hid (Below w.heap.size w w6) := chain (chain B5.out ((Below.refl _ _).alloc (Nat.le_refl _) _)) hb6
      clear hb6 E2
      go_wp2
      go_ret
      exact ⟨rfl, B6.out⟩
    · obtain ⟨e', he', hd'⟩ : ∃ e' : Int, ¬ e' = 0 ∧ dcV b = #[hv zh, .int .i64 e'] := by
        by_cases h24 : b.size = 24
        · cases hx : dcd b.data.toList with
          | some x => exact absurd ⟨x, h24, hx⟩ hq
          | none => exact ⟨70, by decide, dcV_none b h24 hx⟩
        · exact ⟨3, by decide, dcV_form b h24⟩
      rw [hd'] at D2
      unfold hv zh at *
      simp only at D2
      clear hd' hq
      go_wp2_with fail
      refine Calls.mono (D2.out _) ?_
      rintro e w5 ⟨rfl, hb5⟩
      have B5 : Hid (Below w.heap.size w w5) := chain B2.out hb5
      clear hb5 D2
      go_wp2
      go_ret
      exact ⟨rfl, B5.out.alloc B5.out.size _⟩
end Go.Proofs.Ythcopaeelbaobaa
