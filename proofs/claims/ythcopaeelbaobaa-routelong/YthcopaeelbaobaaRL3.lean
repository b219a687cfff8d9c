/- RouteLong answers true, by the layer's contracts. -/
import Derived.Test.YthcopaeelbaobaaRL1
import Derived.Test.YthcopaeelbaobaaRM2
namespace Go.Proofs.Ythcopaeelbaobaa
open Go.RowKit Go.Proofs.Fd Go.Proofs.Rt
set_option maxRecDepth 20000

set_option maxHeartbeats 2000000 in
theorem RouteLong_walk (CE : Hid EncodeC) (CP : Hid PathC) (a b : Hp) (hi : a.id.size ≤ 140737488355328) (hj : b.id.size ≤ 140737488355328) (w : World) :
    Calls Try.prog 8 #[hv a, hv b] w fun e w' => e = .returned (.bool true) ∧ Below w.heap.size w w' := by
  have WK : Hid (∀ w, Calls Try.prog 13 #[] w fun e w' => e = .returned (.bool true) ∧ Below w.heap.size w w') := fun w => works7_any CE CP w
  have E1 : Hid (∀ w, Calls Try.prog 9 #[hv a] w fun e w' => e = .returned (.tuple (enV a)) ∧ Below w.heap.size w w') := fun w => CE.out a w hi
  have E2 : Hid (∀ w, Calls Try.prog 9 #[hv b] w fun e w' => e = .returned (.tuple (enV b)) ∧ Below w.heap.size w w') := fun w => CE.out b w hj
  by_cases ha : ok a = true
  · by_cases hb : ok b = true
    · obtain ⟨X, hX⟩ : ∃ X : ByteArray, ⟨(byt a).toArray⟩ = X := ⟨_, rfl⟩
      obtain ⟨Y, hY⟩ : ∃ X : ByteArray, ⟨(byt b).toArray⟩ = X := ⟨_, rfl⟩
      have sX : X.size = 24 := by
        have := byt_len a ha
        rw [← hX]
        show (byt a).toArray.size = 24
        simpa using this
      have l0 : 0 < X.size := by omega
      obtain ⟨c, hc⟩ : ∃ c, X[0] = c := ⟨_, rfl⟩
      have ck : (c.toNat : Int) = a.k := by
        have h0 := byt_first a ha
        have h1 : (byt a).getD 0 0 = c := by
          rw [← hc, List.getD_eq_getElem?_getD, List.getElem?_eq_getElem (by rw [byt_len a ha]; decide)]
          subst hX
          rfl
        rw [h1] at h0
        exact h0
      have ZX : X.extract 20 24 = ⟨#[0, 0, 0, 0]⟩ := by
        apply ByteArray.ext
        rw [ByteArray.data_extract]
        apply Array.toList_inj.1
        rw [Array.toList_extract, List.extract_eq_take_drop]
        have : X.data.toList = byt a := by rw [← hX]
        rw [this, byt_last a ha]
        rfl
      have IN : Hid (X.toList = Y.toList → a = b) := fun h => by
        rw [ByteArray.toList_eq, ByteArray.toList_eq] at h
        rw [← hX, ← hY] at h
        exact byt_inj a b ha hb h
      rw [enV_ok a ha, hX] at E1
      rw [enV_ok b hb, hY] at E2
      have EQ : Hid (a = b → X = Y) := fun h => by rw [← hX, ← hY, h]
      clear hX hY ha hb CE CP
      have sXi : (X.size : Int) = 24 := by omega
      have z0 : (0 : Int) < (X.size : Int) := by omega
      obtain ⟨k, n, u, d, id⟩ := a
      obtain ⟨k', n', u', d', id'⟩ := b
      unfold hv at E1 E2 ⊢
      simp only at E1 E2 ck ⊢
      subst ck
      have wc : IntKind.i64.wrap (c.toNat : Int) = (c.toNat : Int) := by have := c.toNat_lt; rw [IntKind.wrap_i64]; omega
      have wd : wrap64 (c.toNat : Int) = (c.toNat : Int) := by have := c.toNat_lt; unfold wrap64; omega
      have ZX2 : X.extract 20 X.size = ⟨#[0, 0, 0, 0]⟩ := by rw [sX]; exact ZX
      by_cases qk : (c.toNat : Int) = k'
      · subst qk
        by_cases qn : n = n'
        · subst qn
          by_cases qu : u = u'
          · subst qu
            by_cases qd : d = d'
            · subst qd
              by_cases qi : id = id'
              · subst qi
                obtain rfl := EQ.out rfl
                have XX : (X.toList == X.toList) = true := by simp
                have II : (id.toList == id.toList) = true := by simp
                clear IN EQ

                go_enter Try.func8, Try.ntmps8
                go_wp2_with fail
                obtain ⟨D, hD⟩ : ∃ D, ((w.alloc (.cells #[.int .i64 (c.toNat : Int), .int .i64 n, .int .i64 u, .int .i64 d, .string id] 23)).alloc (.cells #[.int .i64 (c.toNat : Int), .int .i64 n, .int .i64 u, .int .i64 d, .string id] 23)) = D := ⟨_, rfl⟩
                rw [hD]
                have HD : Hid (HopAt D w.heap.size ⟨(c.toNat : Int), n, u, d, id⟩ ∧ HopAt D (w.heap.size + 1) ⟨(c.toNat : Int), n, u, d, id⟩ ∧ Below w.heap.size w D) := by
                  have h0 := HopAt.fresh w 23 (c.toNat : Int) n u d id
                  have b0 := (Below.refl _ w).alloc (Nat.le_refl _) (.cells #[.int .i64 (c.toNat : Int), .int .i64 n, .int .i64 u, .int .i64 d, .string id] 23)
                  have h1 := HopAt.fresh (w.alloc (.cells #[.int .i64 (c.toNat : Int), .int .i64 n, .int .i64 u, .int .i64 d, .string id] 23)) 23 (c.toNat : Int) n u d id
                  have e : (w.alloc (.cells #[.int .i64 (c.toNat : Int), .int .i64 n, .int .i64 u, .int .i64 d, .string id] 23)).heap.size = w.heap.size + 1 := by simp
                  rw [e] at h1
                  have b1 := (Below.refl _ (w.alloc (.cells #[.int .i64 (c.toNat : Int), .int .i64 n, .int .i64 u, .int .i64 d, .string id] 23))).alloc (Nat.le_refl _) (.cells #[.int .i64 (c.toNat : Int), .int .i64 n, .int .i64 u, .int .i64 d, .string id] 23)
                  rw [← hD]
                  exact ⟨h0.later b1, h1, chain b0 b1⟩
                clear hD
                refine Calls.mono (WK.out _) ?_
                rintro e w1 ⟨rfl, hb1⟩
                have B1 : Hid (HopAt w1 w.heap.size ⟨(c.toNat : Int), n, u, d, id⟩ ∧ HopAt w1 (w.heap.size + 1) ⟨(c.toNat : Int), n, u, d, id⟩ ∧ Below w.heap.size w w1) := ⟨HD.out.1.later hb1, HD.out.2.1.later hb1, chain HD.out.2.2 hb1⟩
                obtain ⟨p0, p1, p2, p3, p4⟩ := B1.out.1.cells
                clear hb1 WK HD
                go_wp2_with fail
                refine Calls.mono (E1.out _) ?_
                rintro e w2 ⟨rfl, hb2⟩
                have B2 : Hid (HopAt w2 w.heap.size ⟨(c.toNat : Int), n, u, d, id⟩ ∧ HopAt w2 (w.heap.size + 1) ⟨(c.toNat : Int), n, u, d, id⟩ ∧ Below w.heap.size w w2) := ⟨B1.out.1.later hb2, B1.out.2.1.later hb2, chain B1.out.2.2 hb2⟩
                clear p0 p1 p2 p3 p4
                obtain ⟨p0, p1, p2, p3, p4⟩ := B2.out.2.1.cells
                clear hb2 E1 B1
                go_wp2_with fail
                refine Calls.mono (E2.out _) ?_
                rintro e w3 ⟨rfl, hb3⟩
                have B3 : Hid (HopAt w3 w.heap.size ⟨(c.toNat : Int), n, u, d, id⟩ ∧ HopAt w3 (w.heap.size + 1) ⟨(c.toNat : Int), n, u, d, id⟩ ∧ Below w.heap.size w w3) := ⟨B2.out.1.later hb3, B2.out.2.1.later hb3, chain B2.out.2.2 hb3⟩
                clear p0 p1 p2 p3 p4
                obtain ⟨p0, p1, p2, p3, p4⟩ := B3.out.1.cells
                obtain ⟨q0, q1, q2, q3, q4⟩ := B3.out.2.1.cells
                clear hb3 E2 B2
                go_wp2
                go_quiet (fail)
                have B4 : Hid (Below w.heap.size w (w3.drewN nq)) := below_drewN B3.out.2.2 nq
                go_wp2
                go_ret
                exact ⟨rfl, B4.out⟩
              · have NE : (X.toList == Y.toList) = false := beq_eq_false_iff_ne.2 (fun h => by
                  have := IN.out h
                  simp at this
                  exact qi this)
                have qb : (id.toList == id'.toList) = false := beq_eq_false_iff_ne.2 (fun h => qi (by
                  rw [ByteArray.toList_eq, ByteArray.toList_eq] at h
                  exact ByteArray.ext (Array.toList_inj.1 h)))
                clear IN EQ

                go_enter Try.func8, Try.ntmps8
                go_wp2_with fail
                obtain ⟨D, hD⟩ : ∃ D, ((w.alloc (.cells #[.int .i64 (c.toNat : Int), .int .i64 n, .int .i64 u, .int .i64 d, .string id] 23)).alloc (.cells #[.int .i64 (c.toNat : Int), .int .i64 n, .int .i64 u, .int .i64 d, .string id'] 23)) = D := ⟨_, rfl⟩
                rw [hD]
                have HD : Hid (HopAt D w.heap.size ⟨(c.toNat : Int), n, u, d, id⟩ ∧ HopAt D (w.heap.size + 1) ⟨(c.toNat : Int), n, u, d, id'⟩ ∧ Below w.heap.size w D) := by
                  have h0 := HopAt.fresh w 23 (c.toNat : Int) n u d id
                  have b0 := (Below.refl _ w).alloc (Nat.le_refl _) (.cells #[.int .i64 (c.toNat : Int), .int .i64 n, .int .i64 u, .int .i64 d, .string id] 23)
                  have h1 := HopAt.fresh (w.alloc (.cells #[.int .i64 (c.toNat : Int), .int .i64 n, .int .i64 u, .int .i64 d, .string id] 23)) 23 (c.toNat : Int) n u d id'
                  have e : (w.alloc (.cells #[.int .i64 (c.toNat : Int), .int .i64 n, .int .i64 u, .int .i64 d, .string id] 23)).heap.size = w.heap.size + 1 := by simp
                  rw [e] at h1
                  have b1 := (Below.refl _ (w.alloc (.cells #[.int .i64 (c.toNat : Int), .int .i64 n, .int .i64 u, .int .i64 d, .string id] 23))).alloc (Nat.le_refl _) (.cells #[.int .i64 (c.toNat : Int), .int .i64 n, .int .i64 u, .int .i64 d, .string id'] 23)
                  rw [← hD]
                  exact ⟨h0.later b1, h1, chain b0 b1⟩
                clear hD
                refine Calls.mono (WK.out _) ?_
                rintro e w1 ⟨rfl, hb1⟩
                have B1 : Hid (HopAt w1 w.heap.size ⟨(c.toNat : Int), n, u, d, id⟩ ∧ HopAt w1 (w.heap.size + 1) ⟨(c.toNat : Int), n, u, d, id'⟩ ∧ Below w.heap.size w w1) := ⟨HD.out.1.later hb1, HD.out.2.1.later hb1, chain HD.out.2.2 hb1⟩
                obtain ⟨p0, p1, p2, p3, p4⟩ := B1.out.1.cells
                clear hb1 WK HD
                go_wp2_with fail
                refine Calls.mono (E1.out _) ?_
                rintro e w2 ⟨rfl, hb2⟩
                have B2 : Hid (HopAt w2 w.heap.size ⟨(c.toNat : Int), n, u, d, id⟩ ∧ HopAt w2 (w.heap.size + 1) ⟨(c.toNat : Int), n, u, d, id'⟩ ∧ Below w.heap.size w w2) := ⟨B1.out.1.later hb2, B1.out.2.1.later hb2, chain B1.out.2.2 hb2⟩
                clear p0 p1 p2 p3 p4
                obtain ⟨p0, p1, p2, p3, p4⟩ := B2.out.2.1.cells
                clear hb2 E1 B1
                go_wp2_with fail
                refine Calls.mono (E2.out _) ?_
                rintro e w3 ⟨rfl, hb3⟩
                have B3 : Hid (HopAt w3 w.heap.size ⟨(c.toNat : Int), n, u, d, id⟩ ∧ HopAt w3 (w.heap.size + 1) ⟨(c.toNat : Int), n, u, d, id'⟩ ∧ Below w.heap.size w w3) := ⟨B2.out.1.later hb3, B2.out.2.1.later hb3, chain B2.out.2.2 hb3⟩
                clear p0 p1 p2 p3 p4
                obtain ⟨p0, p1, p2, p3, p4⟩ := B3.out.1.cells
                obtain ⟨q0, q1, q2, q3, q4⟩ := B3.out.2.1.cells
                clear hb3 E2 B2
                go_wp2
                go_quiet (fail)
                have B4 : Hid (Below w.heap.size w (w3.drewN nq)) := below_drewN B3.out.2.2 nq
                go_wp2
                go_ret
                exact ⟨rfl, B4.out⟩
            · have NE : (X.toList == Y.toList) = false := beq_eq_false_iff_ne.2 (fun h => by
                have := IN.out h
                simp at this
                exact qd this.1)
              have qb : (d == d') = false := beq_eq_false_iff_ne.2 qd
              clear IN EQ

              go_enter Try.func8, Try.ntmps8
              go_wp2_with fail
              obtain ⟨D, hD⟩ : ∃ D, ((w.alloc (.cells #[.int .i64 (c.toNat : Int), .int .i64 n, .int .i64 u, .int .i64 d, .string id] 23)).alloc (.cells #[.int .i64 (c.toNat : Int), .int .i64 n, .int .i64 u, .int .i64 d', .string id'] 23)) = D := ⟨_, rfl⟩
              rw [hD]
              have HD : Hid (HopAt D w.heap.size ⟨(c.toNat : Int), n, u, d, id⟩ ∧ HopAt D (w.heap.size + 1) ⟨(c.toNat : Int), n, u, d', id'⟩ ∧ Below w.heap.size w D) := by
                have h0 := HopAt.fresh w 23 (c.toNat : Int) n u d id
                have b0 := (Below.refl _ w).alloc (Nat.le_refl _) (.cells #[.int .i64 (c.toNat : Int), .int .i64 n, .int .i64 u, .int .i64 d, .string id] 23)
                have h1 := HopAt.fresh (w.alloc (.cells #[.int .i64 (c.toNat : Int), .int .i64 n, .int .i64 u, .int .i64 d, .string id] 23)) 23 (c.toNat : Int) n u d' id'
                have e : (w.alloc (.cells #[.int .i64 (c.toNat : Int), .int .i64 n, .int .i64 u, .int .i64 d, .string id] 23)).heap.size = w.heap.size + 1 := by simp
                rw [e] at h1
                have b1 := (Below.refl _ (w.alloc (.cells #[.int .i64 (c.toNat : Int), .int .i64 n, .int .i64 u, .int .i64 d, .string id] 23))).alloc (Nat.le_refl _) (.cells #[.int .i64 (c.toNat : Int), .int .i64 n, .int .i64 u, .int .i64 d', .string id'] 23)
                rw [← hD]
                exact ⟨h0.later b1, h1, chain b0 b1⟩
              clear hD
              refine Calls.mono (WK.out _) ?_
              rintro e w1 ⟨rfl, hb1⟩
              have B1 : Hid (HopAt w1 w.heap.size ⟨(c.toNat : Int), n, u, d, id⟩ ∧ HopAt w1 (w.heap.size + 1) ⟨(c.toNat : Int), n, u, d', id'⟩ ∧ Below w.heap.size w w1) := ⟨HD.out.1.later hb1, HD.out.2.1.later hb1, chain HD.out.2.2 hb1⟩
              obtain ⟨p0, p1, p2, p3, p4⟩ := B1.out.1.cells
              clear hb1 WK HD
              go_wp2_with fail
              refine Calls.mono (E1.out _) ?_
              rintro e w2 ⟨rfl, hb2⟩
              have B2 : Hid (HopAt w2 w.heap.size ⟨(c.toNat : Int), n, u, d, id⟩ ∧ HopAt w2 (w.heap.size + 1) ⟨(c.toNat : Int), n, u, d', id'⟩ ∧ Below w.heap.size w w2) := ⟨B1.out.1.later hb2, B1.out.2.1.later hb2, chain B1.out.2.2 hb2⟩
              clear p0 p1 p2 p3 p4
              obtain ⟨p0, p1, p2, p3, p4⟩ := B2.out.2.1.cells
              clear hb2 E1 B1
              go_wp2_with fail
              refine Calls.mono (E2.out _) ?_
              rintro e w3 ⟨rfl, hb3⟩
              have B3 : Hid (HopAt w3 w.heap.size ⟨(c.toNat : Int), n, u, d, id⟩ ∧ HopAt w3 (w.heap.size + 1) ⟨(c.toNat : Int), n, u, d', id'⟩ ∧ Below w.heap.size w w3) := ⟨B2.out.1.later hb3, B2.out.2.1.later hb3, chain B2.out.2.2 hb3⟩
              clear p0 p1 p2 p3 p4
              obtain ⟨p0, p1, p2, p3, p4⟩ := B3.out.1.cells
              obtain ⟨q0, q1, q2, q3, q4⟩ := B3.out.2.1.cells
              clear hb3 E2 B2
              go_wp2
              go_quiet (fail)
              have B4 : Hid (Below w.heap.size w (w3.drewN nq)) := below_drewN B3.out.2.2 nq
              go_wp2
              go_ret
              exact ⟨rfl, B4.out⟩
          · have NE : (X.toList == Y.toList) = false := beq_eq_false_iff_ne.2 (fun h => by
              have := IN.out h
              simp at this
              exact qu this.1)
            have qb : (u == u') = false := beq_eq_false_iff_ne.2 qu
            clear IN EQ

            go_enter Try.func8, Try.ntmps8
            go_wp2_with fail
            obtain ⟨D, hD⟩ : ∃ D, ((w.alloc (.cells #[.int .i64 (c.toNat : Int), .int .i64 n, .int .i64 u, .int .i64 d, .string id] 23)).alloc (.cells #[.int .i64 (c.toNat : Int), .int .i64 n, .int .i64 u', .int .i64 d', .string id'] 23)) = D := ⟨_, rfl⟩
            rw [hD]
            have HD : Hid (HopAt D w.heap.size ⟨(c.toNat : Int), n, u, d, id⟩ ∧ HopAt D (w.heap.size + 1) ⟨(c.toNat : Int), n, u', d', id'⟩ ∧ Below w.heap.size w D) := by
              have h0 := HopAt.fresh w 23 (c.toNat : Int) n u d id
              have b0 := (Below.refl _ w).alloc (Nat.le_refl _) (.cells #[.int .i64 (c.toNat : Int), .int .i64 n, .int .i64 u, .int .i64 d, .string id] 23)
              have h1 := HopAt.fresh (w.alloc (.cells #[.int .i64 (c.toNat : Int), .int .i64 n, .int .i64 u, .int .i64 d, .string id] 23)) 23 (c.toNat : Int) n u' d' id'
              have e : (w.alloc (.cells #[.int .i64 (c.toNat : Int), .int .i64 n, .int .i64 u, .int .i64 d, .string id] 23)).heap.size = w.heap.size + 1 := by simp
              rw [e] at h1
              have b1 := (Below.refl _ (w.alloc (.cells #[.int .i64 (c.toNat : Int), .int .i64 n, .int .i64 u, .int .i64 d, .string id] 23))).alloc (Nat.le_refl _) (.cells #[.int .i64 (c.toNat : Int), .int .i64 n, .int .i64 u', .int .i64 d', .string id'] 23)
              rw [← hD]
              exact ⟨h0.later b1, h1, chain b0 b1⟩
            clear hD
            refine Calls.mono (WK.out _) ?_
            rintro e w1 ⟨rfl, hb1⟩
            have B1 : Hid (HopAt w1 w.heap.size ⟨(c.toNat : Int), n, u, d, id⟩ ∧ HopAt w1 (w.heap.size + 1) ⟨(c.toNat : Int), n, u', d', id'⟩ ∧ Below w.heap.size w w1) := ⟨HD.out.1.later hb1, HD.out.2.1.later hb1, chain HD.out.2.2 hb1⟩
            obtain ⟨p0, p1, p2, p3, p4⟩ := B1.out.1.cells
            clear hb1 WK HD
            go_wp2_with fail
            refine Calls.mono (E1.out _) ?_
            rintro e w2 ⟨rfl, hb2⟩
            have B2 : Hid (HopAt w2 w.heap.size ⟨(c.toNat : Int), n, u, d, id⟩ ∧ HopAt w2 (w.heap.size + 1) ⟨(c.toNat : Int), n, u', d', id'⟩ ∧ Below w.heap.size w w2) := ⟨B1.out.1.later hb2, B1.out.2.1.later hb2, chain B1.out.2.2 hb2⟩
            clear p0 p1 p2 p3 p4
            obtain ⟨p0, p1, p2, p3, p4⟩ := B2.out.2.1.cells
            clear hb2 E1 B1
            go_wp2_with fail
            refine Calls.mono (E2.out _) ?_
            rintro e w3 ⟨rfl, hb3⟩
            have B3 : Hid (HopAt w3 w.heap.size ⟨(c.toNat : Int), n, u, d, id⟩ ∧ HopAt w3 (w.heap.size + 1) ⟨(c.toNat : Int), n, u', d', id'⟩ ∧ Below w.heap.size w w3) := ⟨B2.out.1.later hb3, B2.out.2.1.later hb3, chain B2.out.2.2 hb3⟩
            clear p0 p1 p2 p3 p4
            obtain ⟨p0, p1, p2, p3, p4⟩ := B3.out.1.cells
            obtain ⟨q0, q1, q2, q3, q4⟩ := B3.out.2.1.cells
            clear hb3 E2 B2
            go_wp2
            go_quiet (fail)
            have B4 : Hid (Below w.heap.size w (w3.drewN nq)) := below_drewN B3.out.2.2 nq
            go_wp2
            go_ret
            exact ⟨rfl, B4.out⟩
        · have NE : (X.toList == Y.toList) = false := beq_eq_false_iff_ne.2 (fun h => by
            have := IN.out h
            simp at this
            exact qn this.1)
          have qb : (n == n') = false := beq_eq_false_iff_ne.2 qn
          clear IN EQ

          go_enter Try.func8, Try.ntmps8
          go_wp2_with fail
          obtain ⟨D, hD⟩ : ∃ D, ((w.alloc (.cells #[.int .i64 (c.toNat : Int), .int .i64 n, .int .i64 u, .int .i64 d, .string id] 23)).alloc (.cells #[.int .i64 (c.toNat : Int), .int .i64 n', .int .i64 u', .int .i64 d', .string id'] 23)) = D := ⟨_, rfl⟩
          rw [hD]
          have HD : Hid (HopAt D w.heap.size ⟨(c.toNat : Int), n, u, d, id⟩ ∧ HopAt D (w.heap.size + 1) ⟨(c.toNat : Int), n', u', d', id'⟩ ∧ Below w.heap.size w D) := by
            have h0 := HopAt.fresh w 23 (c.toNat : Int) n u d id
            have b0 := (Below.refl _ w).alloc (Nat.le_refl _) (.cells #[.int .i64 (c.toNat : Int), .int .i64 n, .int .i64 u, .int .i64 d, .string id] 23)
            have h1 := HopAt.fresh (w.alloc (.cells #[.int .i64 (c.toNat : Int), .int .i64 n, .int .i64 u, .int .i64 d, .string id] 23)) 23 (c.toNat : Int) n' u' d' id'
            have e : (w.alloc (.cells #[.int .i64 (c.toNat : Int), .int .i64 n, .int .i64 u, .int .i64 d, .string id] 23)).heap.size = w.heap.size + 1 := by simp
            rw [e] at h1
            have b1 := (Below.refl _ (w.alloc (.cells #[.int .i64 (c.toNat : Int), .int .i64 n, .int .i64 u, .int .i64 d, .string id] 23))).alloc (Nat.le_refl _) (.cells #[.int .i64 (c.toNat : Int), .int .i64 n', .int .i64 u', .int .i64 d', .string id'] 23)
            rw [← hD]
            exact ⟨h0.later b1, h1, chain b0 b1⟩
          clear hD
          refine Calls.mono (WK.out _) ?_
          rintro e w1 ⟨rfl, hb1⟩
          have B1 : Hid (HopAt w1 w.heap.size ⟨(c.toNat : Int), n, u, d, id⟩ ∧ HopAt w1 (w.heap.size + 1) ⟨(c.toNat : Int), n', u', d', id'⟩ ∧ Below w.heap.size w w1) := ⟨HD.out.1.later hb1, HD.out.2.1.later hb1, chain HD.out.2.2 hb1⟩
          obtain ⟨p0, p1, p2, p3, p4⟩ := B1.out.1.cells
          clear hb1 WK HD
          go_wp2_with fail
          refine Calls.mono (E1.out _) ?_
          rintro e w2 ⟨rfl, hb2⟩
          have B2 : Hid (HopAt w2 w.heap.size ⟨(c.toNat : Int), n, u, d, id⟩ ∧ HopAt w2 (w.heap.size + 1) ⟨(c.toNat : Int), n', u', d', id'⟩ ∧ Below w.heap.size w w2) := ⟨B1.out.1.later hb2, B1.out.2.1.later hb2, chain B1.out.2.2 hb2⟩
          clear p0 p1 p2 p3 p4
          obtain ⟨p0, p1, p2, p3, p4⟩ := B2.out.2.1.cells
          clear hb2 E1 B1
          go_wp2_with fail
          refine Calls.mono (E2.out _) ?_
          rintro e w3 ⟨rfl, hb3⟩
          have B3 : Hid (HopAt w3 w.heap.size ⟨(c.toNat : Int), n, u, d, id⟩ ∧ HopAt w3 (w.heap.size + 1) ⟨(c.toNat : Int), n', u', d', id'⟩ ∧ Below w.heap.size w w3) := ⟨B2.out.1.later hb3, B2.out.2.1.later hb3, chain B2.out.2.2 hb3⟩
          clear p0 p1 p2 p3 p4
          obtain ⟨p0, p1, p2, p3, p4⟩ := B3.out.1.cells
          obtain ⟨q0, q1, q2, q3, q4⟩ := B3.out.2.1.cells
          clear hb3 E2 B2
          go_wp2
          go_quiet (fail)
          have B4 : Hid (Below w.heap.size w (w3.drewN nq)) := below_drewN B3.out.2.2 nq
          go_wp2
          go_ret
          exact ⟨rfl, B4.out⟩
      · have NE : (X.toList == Y.toList) = false := beq_eq_false_iff_ne.2 (fun h => by
          have := IN.out h
          simp at this
          exact qk this.1)
        have qb : ((c.toNat : Int) == k') = false := beq_eq_false_iff_ne.2 qk
        clear IN EQ

        go_enter Try.func8, Try.ntmps8
        go_wp2_with fail
        obtain ⟨D, hD⟩ : ∃ D, ((w.alloc (.cells #[.int .i64 (c.toNat : Int), .int .i64 n, .int .i64 u, .int .i64 d, .string id] 23)).alloc (.cells #[.int .i64 k', .int .i64 n', .int .i64 u', .int .i64 d', .string id'] 23)) = D := ⟨_, rfl⟩
        rw [hD]
        have HD : Hid (HopAt D w.heap.size ⟨(c.toNat : Int), n, u, d, id⟩ ∧ HopAt D (w.heap.size + 1) ⟨k', n', u', d', id'⟩ ∧ Below w.heap.size w D) := by
          have h0 := HopAt.fresh w 23 (c.toNat : Int) n u d id
          have b0 := (Below.refl _ w).alloc (Nat.le_refl _) (.cells #[.int .i64 (c.toNat : Int), .int .i64 n, .int .i64 u, .int .i64 d, .string id] 23)
          have h1 := HopAt.fresh (w.alloc (.cells #[.int .i64 (c.toNat : Int), .int .i64 n, .int .i64 u, .int .i64 d, .string id] 23)) 23 k' n' u' d' id'
          have e : (w.alloc (.cells #[.int .i64 (c.toNat : Int), .int .i64 n, .int .i64 u, .int .i64 d, .string id] 23)).heap.size = w.heap.size + 1 := by simp
          rw [e] at h1
          have b1 := (Below.refl _ (w.alloc (.cells #[.int .i64 (c.toNat : Int), .int .i64 n, .int .i64 u, .int .i64 d, .string id] 23))).alloc (Nat.le_refl _) (.cells #[.int .i64 k', .int .i64 n', .int .i64 u', .int .i64 d', .string id'] 23)
          rw [← hD]
          exact ⟨h0.later b1, h1, chain b0 b1⟩
        clear hD
        refine Calls.mono (WK.out _) ?_
        rintro e w1 ⟨rfl, hb1⟩
        have B1 : Hid (HopAt w1 w.heap.size ⟨(c.toNat : Int), n, u, d, id⟩ ∧ HopAt w1 (w.heap.size + 1) ⟨k', n', u', d', id'⟩ ∧ Below w.heap.size w w1) := ⟨HD.out.1.later hb1, HD.out.2.1.later hb1, chain HD.out.2.2 hb1⟩
        obtain ⟨p0, p1, p2, p3, p4⟩ := B1.out.1.cells
        clear hb1 WK HD
        go_wp2_with fail
        refine Calls.mono (E1.out _) ?_
        rintro e w2 ⟨rfl, hb2⟩
        have B2 : Hid (HopAt w2 w.heap.size ⟨(c.toNat : Int), n, u, d, id⟩ ∧ HopAt w2 (w.heap.size + 1) ⟨k', n', u', d', id'⟩ ∧ Below w.heap.size w w2) := ⟨B1.out.1.later hb2, B1.out.2.1.later hb2, chain B1.out.2.2 hb2⟩
        clear p0 p1 p2 p3 p4
        obtain ⟨p0, p1, p2, p3, p4⟩ := B2.out.2.1.cells
        clear hb2 E1 B1
        go_wp2_with fail
        refine Calls.mono (E2.out _) ?_
        rintro e w3 ⟨rfl, hb3⟩
        have B3 : Hid (HopAt w3 w.heap.size ⟨(c.toNat : Int), n, u, d, id⟩ ∧ HopAt w3 (w.heap.size + 1) ⟨k', n', u', d', id'⟩ ∧ Below w.heap.size w w3) := ⟨B2.out.1.later hb3, B2.out.2.1.later hb3, chain B2.out.2.2 hb3⟩
        clear p0 p1 p2 p3 p4
        obtain ⟨p0, p1, p2, p3, p4⟩ := B3.out.1.cells
        obtain ⟨q0, q1, q2, q3, q4⟩ := B3.out.2.1.cells
        clear hb3 E2 B2
        go_wp2
        go_quiet (fail)
        have B4 : Hid (Below w.heap.size w (w3.drewN nq)) := below_drewN B3.out.2.2 nq
        go_wp2
        go_ret
        exact ⟨rfl, B4.out⟩
    · rw [enV_no b hb] at E2
      obtain ⟨X, hX⟩ : ∃ X : ByteArray, ⟨(byt a).toArray⟩ = X := ⟨_, rfl⟩
      rw [enV_ok a ha, hX] at E1
      clear hX ha hb CE CP
      obtain ⟨k, n, u, d, id⟩ := a
      obtain ⟨k', n', u', d', id'⟩ := b
      unfold hv at E1 E2 ⊢
      simp only at E1 E2 ⊢

      go_enter Try.func8, Try.ntmps8
      go_wp2_with fail
      obtain ⟨D, hD⟩ : ∃ D, ((w.alloc (.cells #[.int .i64 k, .int .i64 n, .int .i64 u, .int .i64 d, .string id] 23)).alloc (.cells #[.int .i64 k', .int .i64 n', .int .i64 u', .int .i64 d', .string id'] 23)) = D := ⟨_, rfl⟩
      rw [hD]
      have HD : Hid (HopAt D w.heap.size ⟨k, n, u, d, id⟩ ∧ HopAt D (w.heap.size + 1) ⟨k', n', u', d', id'⟩ ∧ Below w.heap.size w D) := by
        have h0 := HopAt.fresh w 23 k n u d id
        have b0 := (Below.refl _ w).alloc (Nat.le_refl _) (.cells #[.int .i64 k, .int .i64 n, .int .i64 u, .int .i64 d, .string id] 23)
        have h1 := HopAt.fresh (w.alloc (.cells #[.int .i64 k, .int .i64 n, .int .i64 u, .int .i64 d, .string id] 23)) 23 k' n' u' d' id'
        have e : (w.alloc (.cells #[.int .i64 k, .int .i64 n, .int .i64 u, .int .i64 d, .string id] 23)).heap.size = w.heap.size + 1 := by simp
        rw [e] at h1
        have b1 := (Below.refl _ (w.alloc (.cells #[.int .i64 k, .int .i64 n, .int .i64 u, .int .i64 d, .string id] 23))).alloc (Nat.le_refl _) (.cells #[.int .i64 k', .int .i64 n', .int .i64 u', .int .i64 d', .string id'] 23)
        rw [← hD]
        exact ⟨h0.later b1, h1, chain b0 b1⟩
      clear hD
      refine Calls.mono (WK.out _) ?_
      rintro e w1 ⟨rfl, hb1⟩
      have B1 : Hid (HopAt w1 w.heap.size ⟨k, n, u, d, id⟩ ∧ HopAt w1 (w.heap.size + 1) ⟨k', n', u', d', id'⟩ ∧ Below w.heap.size w w1) := ⟨HD.out.1.later hb1, HD.out.2.1.later hb1, chain HD.out.2.2 hb1⟩
      obtain ⟨p0, p1, p2, p3, p4⟩ := B1.out.1.cells
      clear hb1 WK HD
      go_wp2_with fail
      refine Calls.mono (E1.out _) ?_
      rintro e w2 ⟨rfl, hb2⟩
      have B2 : Hid (HopAt w2 w.heap.size ⟨k, n, u, d, id⟩ ∧ HopAt w2 (w.heap.size + 1) ⟨k', n', u', d', id'⟩ ∧ Below w.heap.size w w2) := ⟨B1.out.1.later hb2, B1.out.2.1.later hb2, chain B1.out.2.2 hb2⟩
      clear p0 p1 p2 p3 p4
      obtain ⟨p0, p1, p2, p3, p4⟩ := B2.out.2.1.cells
      clear hb2 E1 B1
      go_wp2_with fail
      refine Calls.mono (E2.out _) ?_
      rintro e w3 ⟨rfl, hb3⟩
      have B3 : Hid (HopAt w3 w.heap.size ⟨k, n, u, d, id⟩ ∧ HopAt w3 (w.heap.size + 1) ⟨k', n', u', d', id'⟩ ∧ Below w.heap.size w w3) := ⟨B2.out.1.later hb3, B2.out.2.1.later hb3, chain B2.out.2.2 hb3⟩
      clear p0 p1 p2 p3 p4
      obtain ⟨p0, p1, p2, p3, p4⟩ := B3.out.1.cells
      obtain ⟨q0, q1, q2, q3, q4⟩ := B3.out.2.1.cells
      clear hb3 E2 B2
      go_wp2
      go_ret
      exact ⟨rfl, B3.out.2.2⟩
  · rw [enV_no a ha] at E1
    obtain ⟨Y, y, hY⟩ := enV_form b
    rw [hY] at E2
    clear hY ha CE CP
    obtain ⟨k, n, u, d, id⟩ := a
    obtain ⟨k', n', u', d', id'⟩ := b
    unfold hv at E1 E2 ⊢
    simp only at E1 E2 ⊢

    go_enter Try.func8, Try.ntmps8
    go_wp2_with fail
    obtain ⟨D, hD⟩ : ∃ D, ((w.alloc (.cells #[.int .i64 k, .int .i64 n, .int .i64 u, .int .i64 d, .string id] 23)).alloc (.cells #[.int .i64 k', .int .i64 n', .int .i64 u', .int .i64 d', .string id'] 23)) = D := ⟨_, rfl⟩
    rw [hD]
    have HD : Hid (HopAt D w.heap.size ⟨k, n, u, d, id⟩ ∧ HopAt D (w.heap.size + 1) ⟨k', n', u', d', id'⟩ ∧ Below w.heap.size w D) := by
      have h0 := HopAt.fresh w 23 k n u d id
      have b0 := (Below.refl _ w).alloc (Nat.le_refl _) (.cells #[.int .i64 k, .int .i64 n, .int .i64 u, .int .i64 d, .string id] 23)
      have h1 := HopAt.fresh (w.alloc (.cells #[.int .i64 k, .int .i64 n, .int .i64 u, .int .i64 d, .string id] 23)) 23 k' n' u' d' id'
      have e : (w.alloc (.cells #[.int .i64 k, .int .i64 n, .int .i64 u, .int .i64 d, .string id] 23)).heap.size = w.heap.size + 1 := by simp
      rw [e] at h1
      have b1 := (Below.refl _ (w.alloc (.cells #[.int .i64 k, .int .i64 n, .int .i64 u, .int .i64 d, .string id] 23))).alloc (Nat.le_refl _) (.cells #[.int .i64 k', .int .i64 n', .int .i64 u', .int .i64 d', .string id'] 23)
      rw [← hD]
      exact ⟨h0.later b1, h1, chain b0 b1⟩
    clear hD
    refine Calls.mono (WK.out _) ?_
    rintro e w1 ⟨rfl, hb1⟩
    have B1 : Hid (HopAt w1 w.heap.size ⟨k, n, u, d, id⟩ ∧ HopAt w1 (w.heap.size + 1) ⟨k', n', u', d', id'⟩ ∧ Below w.heap.size w w1) := ⟨HD.out.1.later hb1, HD.out.2.1.later hb1, chain HD.out.2.2 hb1⟩
    obtain ⟨p0, p1, p2, p3, p4⟩ := B1.out.1.cells
    clear hb1 WK HD
    go_wp2_with fail
    refine Calls.mono (E1.out _) ?_
    rintro e w2 ⟨rfl, hb2⟩
    have B2 : Hid (HopAt w2 w.heap.size ⟨k, n, u, d, id⟩ ∧ HopAt w2 (w.heap.size + 1) ⟨k', n', u', d', id'⟩ ∧ Below w.heap.size w w2) := ⟨B1.out.1.later hb2, B1.out.2.1.later hb2, chain B1.out.2.2 hb2⟩
    clear p0 p1 p2 p3 p4
    obtain ⟨p0, p1, p2, p3, p4⟩ := B2.out.2.1.cells
    clear hb2 E1 B1
    go_wp2_with fail
    refine Calls.mono (E2.out _) ?_
    rintro e w3 ⟨rfl, hb3⟩
    have B3 : Hid (HopAt w3 w.heap.size ⟨k, n, u, d, id⟩ ∧ HopAt w3 (w.heap.size + 1) ⟨k', n', u', d', id'⟩ ∧ Below w.heap.size w w3) := ⟨B2.out.1.later hb3, B2.out.2.1.later hb3, chain B2.out.2.2 hb3⟩
    clear p0 p1 p2 p3 p4
    obtain ⟨p0, p1, p2, p3, p4⟩ := B3.out.1.cells
    obtain ⟨q0, q1, q2, q3, q4⟩ := B3.out.2.1.cells
    clear hb3 E2 B2
    go_wp2
    go_ret
    exact ⟨rfl, B3.out.2.2⟩
end Go.Proofs.Ythcopaeelbaobaa
