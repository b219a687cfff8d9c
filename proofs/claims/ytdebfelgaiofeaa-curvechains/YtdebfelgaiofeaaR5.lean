/- The document's products. -/
import Derived.Test.YtdebfelgaiofeaaR4
import Derived.Test.YtdebfelgaiofeaaMA
namespace Go.Proofs.Ytdebfelgaiofeaa
open Go.RowKit Go.Proofs.Fd

theorem row_zero20 (w : World) (t : TypeId) : RowAt (w.alloc (.cells #[.int .i64 0, .int .i64 0, .int .i64 0, .int .i64 0, .int .i64 0, .int .i64 0, .int .i64 0, .int .i64 0, .int .i64 0, .int .i64 0, .int .i64 0, .int .i64 0, .int .i64 0, .int .i64 0, .int .i64 0, .int .i64 0, .int .i64 0, .int .i64 0, .int .i64 0, .int .i64 0] t)) w.heap.size 20 (fun _ => 0) := by
  refine ⟨fun o => by simp [go_sem], fun j hj => ?_⟩
  have : j = 0 ∨ j = 1 ∨ j = 2 ∨ j = 3 ∨ j = 4 ∨ j = 5 ∨ j = 6 ∨ j = 7 ∨ j = 8 ∨ j = 9 ∨ j = 10 ∨ j = 11 ∨ j = 12 ∨ j = 13 ∨ j = 14 ∨ j = 15 ∨ j = 16 ∨ j = 17 ∨ j = 18 ∨ j = 19 := by omega
  rcases this with rfl | rfl | rfl | rfl | rfl | rfl | rfl | rfl | rfl | rfl | rfl | rfl | rfl | rfl | rfl | rfl | rfl | rfl | rfl | rfl <;> simp [go_sem]

theorem st_next (d : Nat → Int) (k j : Nat) : (if j = k + 1 then d (k + 1) + cy d (k + 1) else if j = k then md d k else st d k j) = st d (k + 1) j := by
  unfold st
  by_cases e1 : j = k + 1
  · rw [if_pos e1, if_neg (by omega), if_pos e1, e1]
  · rw [if_neg e1]
    by_cases e2 : j = k
    · rw [if_pos e2, if_pos (by omega), e2]
    · rw [if_neg e2]
      by_cases e3 : j < k
      · rw [if_pos e3, if_pos (by omega)]
      · rw [if_neg e3, if_neg e2, if_neg (by omega), if_neg e1]

/-- What stays as it is in Times: both numbers, the place of the answer, and all that was there. -/
def TAt (w wr : World) (a b : Nat → Int) : Prop :=
  RowAt wr w.heap.size 10 a ∧ RowAt wr (w.heap.size + 1) 10 b ∧ RowAt wr (w.heap.size + 1 + 1) 10 (fun _ => 0) ∧ Below w.heap.size w wr

theorem TAt.set {w wr : World} {a b : Nat → Int} (h : TAt w wr a b) {x : Addr} (hx : w.heap.size + 1 + 1 < x.block) (v : Value) : TAt w (wr.setCell x v) a b :=
  ⟨h.1.other (by omega) v, h.2.1.other (by omega) v, h.2.2.1.other (by omega) v, h.2.2.2.setCell (by omega) v⟩
theorem TAt.drew {w wr : World} {a b : Nat → Int} (h : TAt w wr a b) : TAt w wr.drew a b := ⟨h.1.drew, h.2.1.drew, h.2.2.1.drew, h.2.2.2.drew⟩
theorem TAt.later {w wr w1 : World} {a b : Nat → Int} (h : TAt w wr a b) (hb : Below wr.heap.size wr w1) : TAt w w1 a b :=
  ⟨h.1.later (by omega) hb, h.2.1.later (by omega) hb, h.2.2.1.later (by omega) hb, chain h.2.2.2 hb⟩

set_option maxRecDepth 100000 in
set_option maxHeartbeats 8000000 in
theorem Times_any (a b : Nat → Int) (ha : Hid (can a)) (hb : Hid (can b)) (w : World) :
    Calls Try.prog 41 #[.agg #[.int .i64 (a 0), .int .i64 (a 1), .int .i64 (a 2), .int .i64 (a 3), .int .i64 (a 4), .int .i64 (a 5), .int .i64 (a 6), .int .i64 (a 7), .int .i64 (a 8), .int .i64 (a 9)], .agg #[.int .i64 (b 0), .int .i64 (b 1), .int .i64 (b 2), .int .i64 (b 3), .int .i64 (b 4), .int .i64 (b 5), .int .i64 (b 6), .int .i64 (b 7), .int .i64 (b 8), .int .i64 (b 9)]] w fun e w' => ∃ c : Nat → Int, e = .returned (.agg #[.int .i64 (c 0), .int .i64 (c 1), .int .i64 (c 2), .int .i64 (c 3), .int .i64 (c 4), .int .i64 (c 5), .int .i64 (c 6), .int .i64 (c 7), .int .i64 (c 8), .int .i64 (c 9)]) ∧ (can c ∧ vN 10 c = (vN 10 a * vN 10 b) % (p : Int)) ∧ Below w.heap.size w w' := by
  go_enter Try.func41, Try.ntmps41
  go_wp2
  go_loopw [6] (fun s wr => ∃ i : Nat, i ≤ 10 ∧ s = .int .i64 i ∧ Hid (RowAt wr (w.heap.size + 1 + 1 + 1) 20 (pr a b i) ∧ TAt w wr a b)) (fun s _ => 10 - (intOf s).toNat)
  case atStart =>
    have q1 := (((row_new w a 42).later (by omega) (below_alloc _ (.cells #[.int .i64 (b 0), .int .i64 (b 1), .int .i64 (b 2), .int .i64 (b 3), .int .i64 (b 4), .int .i64 (b 5), .int .i64 (b 6), .int .i64 (b 7), .int .i64 (b 8), .int .i64 (b 9)] 42))).later (by omega) (below_alloc _ (.cells #[.int .i64 0, .int .i64 0, .int .i64 0, .int .i64 0, .int .i64 0, .int .i64 0, .int .i64 0, .int .i64 0, .int .i64 0, .int .i64 0] 42))).later (by omega) (below_alloc _ (.cells #[.int .i64 0, .int .i64 0, .int .i64 0, .int .i64 0, .int .i64 0, .int .i64 0, .int .i64 0, .int .i64 0, .int .i64 0, .int .i64 0, .int .i64 0, .int .i64 0, .int .i64 0, .int .i64 0, .int .i64 0, .int .i64 0, .int .i64 0, .int .i64 0, .int .i64 0, .int .i64 0] 75))
    have q2 := ((row_new (w.alloc (.cells #[.int .i64 (a 0), .int .i64 (a 1), .int .i64 (a 2), .int .i64 (a 3), .int .i64 (a 4), .int .i64 (a 5), .int .i64 (a 6), .int .i64 (a 7), .int .i64 (a 8), .int .i64 (a 9)] 42)) b 42).later (by omega) (below_alloc _ (.cells #[.int .i64 0, .int .i64 0, .int .i64 0, .int .i64 0, .int .i64 0, .int .i64 0, .int .i64 0, .int .i64 0, .int .i64 0, .int .i64 0] 42))).later (by omega) (below_alloc _ (.cells #[.int .i64 0, .int .i64 0, .int .i64 0, .int .i64 0, .int .i64 0, .int .i64 0, .int .i64 0, .int .i64 0, .int .i64 0, .int .i64 0, .int .i64 0, .int .i64 0, .int .i64 0, .int .i64 0, .int .i64 0, .int .i64 0, .int .i64 0, .int .i64 0, .int .i64 0, .int .i64 0] 75))
    have q3 := (row_zero ((w.alloc (.cells #[.int .i64 (a 0), .int .i64 (a 1), .int .i64 (a 2), .int .i64 (a 3), .int .i64 (a 4), .int .i64 (a 5), .int .i64 (a 6), .int .i64 (a 7), .int .i64 (a 8), .int .i64 (a 9)] 42)).alloc (.cells #[.int .i64 (b 0), .int .i64 (b 1), .int .i64 (b 2), .int .i64 (b 3), .int .i64 (b 4), .int .i64 (b 5), .int .i64 (b 6), .int .i64 (b 7), .int .i64 (b 8), .int .i64 (b 9)] 42)) 42).later (by omega) (below_alloc _ (.cells #[.int .i64 0, .int .i64 0, .int .i64 0, .int .i64 0, .int .i64 0, .int .i64 0, .int .i64 0, .int .i64 0, .int .i64 0, .int .i64 0, .int .i64 0, .int .i64 0, .int .i64 0, .int .i64 0, .int .i64 0, .int .i64 0, .int .i64 0, .int .i64 0, .int .i64 0, .int .i64 0] 75))
    have q4 := row_zero20 (((w.alloc (.cells #[.int .i64 (a 0), .int .i64 (a 1), .int .i64 (a 2), .int .i64 (a 3), .int .i64 (a 4), .int .i64 (a 5), .int .i64 (a 6), .int .i64 (a 7), .int .i64 (a 8), .int .i64 (a 9)] 42)).alloc (.cells #[.int .i64 (b 0), .int .i64 (b 1), .int .i64 (b 2), .int .i64 (b 3), .int .i64 (b 4), .int .i64 (b 5), .int .i64 (b 6), .int .i64 (b 7), .int .i64 (b 8), .int .i64 (b 9)] 42)).alloc (.cells #[.int .i64 0, .int .i64 0, .int .i64 0, .int .i64 0, .int .i64 0, .int .i64 0, .int .i64 0, .int .i64 0, .int .i64 0, .int .i64 0] 42)) 75
    refine ⟨0, by omega, rfl, RowAt.congr (d := fun _ => 0) ?_ (fun j hj => rfl), q1, ?_, ?_, (((below_alloc _ _).alloc (by simp) _).alloc (by simp; omega) _).alloc (by simp; omega) _⟩
    · simpa using q4
    · simpa using q2
    · simpa using q3
  case round =>
    obtain ⟨i, hi, rfl, I⟩ := hrel
    by_cases hi10 : i < 10
    · have bi0 : (0 : Int) ≤ (i : Int) := by omega
      have bi1 : (i : Int) < 10 := by omega
      go_wp2
      go_loopw [7] (fun s wr => ∃ k : Nat, k ≤ 10 ∧ s = .int .i64 k ∧ Hid (RowAt wr (w.heap.size + 1 + 1 + 1) 20 (wf a b i k) ∧ TAt w wr a b)) (fun s _ => 10 - (intOf s).toNat)
      case atStart => exact ⟨0, by omega, rfl, RowAt.congr I.out.1 (fun j hj => (wf_zero a b i j).symm), I.out.2⟩
      case round =>
        obtain ⟨k, hk, rfl, N⟩ := hrel
        by_cases hk10 : k < 10
        · have ck := N.out.1.2 (i + k) (by omega)
          have ca := N.out.2.1.2 i hi10
          have cb := N.out.2.2.1.2 k hk10
          have cf := N.out.1.1
          have b0 : (0 : Int) ≤ (k : Int) := by omega
          have b1 : (k : Int) < 10 := by omega
          have b2 : (i : Int) + (k : Int) < 20 := by omega
          have hX : Hid (wf a b i k (i + k) = pr a b i (i + k) ∧ (0 ≤ pr a b i (i + k) ∧ pr a b i (i + k) ≤ 45035996273704960) ∧ 0 ≤ a i * b k ∧ a i * b k ≤ 4503599627370496) := by
            have h1 := pr_bd a b ha.out hb.out i (i + k) (by omega)
            exact ⟨wf_here a b i k, by omega, prod_bd (ha.out i hi10) (hb.out k hk10)⟩
          obtain ⟨X, eX⟩ : ∃ X, wf a b i k (i + k) = X := ⟨_, rfl⟩
          obtain ⟨Y, eY⟩ : ∃ Y, a i = Y := ⟨_, rfl⟩
          obtain ⟨Z, eZ⟩ : ∃ Z, b k = Z := ⟨_, rfl⟩
          obtain ⟨Q, eQ⟩ : ∃ Q, Y * Z = Q := ⟨_, rfl⟩
          rw [eX] at ck
          rw [eY] at ca
          rw [eZ] at cb
          have bx : 0 ≤ X := by rw [← eX, hX.out.1]; exact hX.out.2.1.1
          have bx2 : X ≤ 45035996273704960 := by rw [← eX, hX.out.1]; exact hX.out.2.1.2
          have bq : 0 ≤ Q := by rw [← eQ, ← eY, ← eZ]; exact hX.out.2.2.1
          have bq2 : Q ≤ 4503599627370496 := by rw [← eQ, ← eY, ← eZ]; exact hX.out.2.2.2
          have EX : Hid (wf a b i k (i + k) = X ∧ a i = Y ∧ b k = Z ∧ Y * Z = Q) := ⟨eX, eY, eZ, eQ⟩
          clear eX eY eZ
          go_wp2
          go_region
          go_wp2
          go_roundw
          case rel =>
            rw [← EX.out.1, ← EX.out.2.2.2, ← EX.out.2.1, ← EX.out.2.2.1, hX.out.1]
            exact ⟨k + 1, by omega, by go_num, RowAt.congr (RowAt.set (RowAt.drew N.out.1) (i + k) (by omega) _) (fun j hj => wf_next a b i k j), TAt.set N.out.2.drew (by simp) _⟩
          case measure => simp [intOf]; omega
        · have hkk : k = 10 := by omega
          subst hkk
          go_wp2
          go_roundw
          case rel => exact ⟨i + 1, by omega, by go_num, RowAt.congr N.out.1 (fun j hj => wf_full a b i j), N.out.2⟩
          case measure => simp [intOf]; omega
    · have hii : i = 10 := by omega
      subst hii
      clear hi10 hi
      go_wp2
      go_loopw [8] (fun s wr => ∃ k : Nat, k ≤ 19 ∧ s = .int .i64 k ∧ Hid (RowAt wr (w.heap.size + 1 + 1 + 1) 20 (st (pr a b 10) k) ∧ TAt w wr a b)) (fun s _ => 19 - (intOf s).toNat)
      case atStart => exact ⟨0, by omega, rfl, RowAt.congr I.out.1 (fun j hj => by unfold st; split; omega; split; (rename_i h1 h2; rw [h2]; simp [cy]); rfl), I.out.2⟩
      case round =>
        obtain ⟨k, hk, rfl, N⟩ := hrel
        have WB : Hid (∀ j, 0 ≤ pr a b 10 j ∧ pr a b 10 j ≤ 45035996273704960) := fun j => by
          have := pr_bd a b ha.out hb.out 10 j (by omega); omega
        obtain ⟨d, ed⟩ : ∃ d, pr a b 10 = d := ⟨_, rfl⟩
        have ED : Hid (pr a b 10 = d) := ed
        by_cases hk19 : k < 19
        · rw [ed] at N WB
          clear ed
          have ck := N.out.1.2 k (by omega)
          have ck1 := N.out.1.2 (k + 1) (by omega)
          have fz := N.out.1.1
          have b0 : (0 : Int) ≤ (k : Int) := by omega
          have b1 : (k : Int) < 20 := by omega
          have b2 : (k : Int) + 1 < 20 := by omega
          have HX : Hid (st d k k = d k + cy d k ∧ st d k (k + 1) = d (k + 1) ∧ (-34359738368 ≤ cy d k ∧ cy d k ≤ 34359738368) ∧ (0 ≤ d k ∧ d k ≤ 45035996273704960) ∧ (0 ≤ d (k + 1) ∧ d (k + 1) ≤ 45035996273704960)) :=
            ⟨by unfold st; rw [if_neg (by omega), if_pos rfl], by unfold st; rw [if_neg (by omega), if_neg (by omega)], cy_bd d k (fun j hj => by have := WB.out j; omega), WB.out k, WB.out (k + 1)⟩
          obtain ⟨X, eX⟩ : ∃ X, st d k k = X := ⟨_, rfl⟩
          obtain ⟨Y, eY⟩ : ∃ Y, st d k (k + 1) = Y := ⟨_, rfl⟩
          rw [eX] at ck
          rw [eY] at ck1
          have EX : Hid (st d k k = X ∧ st d k (k + 1) = Y) := ⟨eX, eY⟩
          clear eX eY
          go_wp2
          go_roundw
          case rel =>
            have h1 := HX.out
            rw [EX.out.1, EX.out.2] at h1
            obtain ⟨hx, hy, hc, hk1, hk2⟩ := h1
            have w1 : wrap64 (X / 67108864 * 67108864) = X / 67108864 * 67108864 := w64 _ (by omega)
            have w2 : wrap64 (X - X / 67108864 * 67108864) = md d k := by rw [w64 _ (by omega)]; unfold md; omega
            have w3 : wrap64 (Y + X / 67108864) = d (k + 1) + cy d (k + 1) := by
              rw [w64 _ (by omega)]; simp only [cy]; omega
            rw [w1, w2, w3, ED.out]
            refine ⟨k + 1, by omega, by go_num, RowAt.congr (RowAt.set (RowAt.set N.out.1 k (by omega) _) (k + 1) (by omega) _) (fun j hj => st_next d k j), TAt.set (TAt.set N.out.2 (by simp) _) (by simp) _⟩
          case measure => simp [intOf]; omega
        · have hkk : k = 19 := by omega
          subst hkk
          have NW : Hid (RowAt wr (w.heap.size + 1 + 1 + 1) 20 (wd20 a b) ∧ TAt w wr a b) := N.out
          clear ed ED hk19 hk N I
          have BW : Hid (∀ j, j < 20 → 0 ≤ wd20 a b j ∧ wd20 a b j < 67108864) := fun j hj => wd20_bd a b ha.out hb.out j hj
          go_wp2
          have hne : Hid (w.heap.size + 1 + 1 + 1 < wr.heap.size) := World.block_lt_of_cell? _ _ (NW.out.1.2 0 (by omega))
          go_loopw [11] (fun s wx => ∃ k : Nat, k ≤ 10 ∧ s = .int .i64 k ∧ Hid (RowAt wx (w.heap.size + 1 + 1 + 1) 20 (wd20 a b) ∧ RowAt wx wr.heap.size 10 (tm a b k) ∧ TAt w wx a b)) (fun s _ => 10 - (intOf s).toNat)
          case atStart =>
            exact ⟨0, by omega, rfl, NW.out.1.later (by omega) (below_alloc _ _), RowAt.congr (row_zero wr 42) (fun j hj => rfl), NW.out.2.later (below_alloc _ _)⟩
          case round =>
            obtain ⟨k, hk, rfl, M⟩ := hrel
            by_cases hk10 : k < 10
            · have ck := M.out.1.2 k (by omega)
              have cp := M.out.1.2 (10 + k) (by omega)
              have co := M.out.2.1.2 k hk10
              have cf := M.out.2.1.1
              have b0 : (0 : Int) ≤ (k : Int) := by omega
              have b1 : (k : Int) < 10 := by omega
              have b2 : (k : Int) < 20 := by omega
              have b3 : 10 + (k : Int) < 20 := by omega
              obtain ⟨X, eX⟩ : ∃ X, wd20 a b k = X := ⟨_, rfl⟩
              obtain ⟨Y, eY⟩ : ∃ Y, wd20 a b (10 + k) = Y := ⟨_, rfl⟩
              rw [eX] at ck
              rw [eY] at cp
              have bx : 0 ≤ X := by rw [← eX]; exact (BW.out k (by omega)).1
              have bx2 : X < 67108864 := by rw [← eX]; exact (BW.out k (by omega)).2
              have by1 : 0 ≤ Y := by rw [← eY]; exact (BW.out (10 + k) (by omega)).1
              have by2 : Y < 67108864 := by rw [← eY]; exact (BW.out (10 + k) (by omega)).2
              have EX : Hid (wd20 a b k = X ∧ wd20 a b (10 + k) = Y) := ⟨eX, eY⟩
              clear eX eY
              go_wp2
              go_region
              go_wp2
              go_roundw
              case rel =>
                rw [← EX.out.1, ← EX.out.2]
                exact ⟨k + 1, by omega, by go_num, RowAt.other (RowAt.drew M.out.1) (by have := hne.out; simp; omega) _, RowAt.congr (RowAt.set (RowAt.drew M.out.2.1) k hk10 _) (fun j hj => tm_next a b k j), TAt.set M.out.2.2.drew (by have := hne.out; simp; omega) _⟩
              case measure => simp [intOf]; omega
            · have hkk : k = 10 := by omega
              subst hkk
              have c0 := M.out.2.1.2 0 (by omega); have c1 := M.out.2.1.2 1 (by omega); have c2 := M.out.2.1.2 2 (by omega); have c3 := M.out.2.1.2 3 (by omega); have c4 := M.out.2.1.2 4 (by omega); have c5 := M.out.2.1.2 5 (by omega); have c6 := M.out.2.1.2 6 (by omega); have c7 := M.out.2.1.2 7 (by omega); have c8 := M.out.2.1.2 8 (by omega); have c9 := M.out.2.1.2 9 (by omega)
              have TV := tm_val a b ha.out hb.out
              have ML : Hid (mid (tm a b 10)) := fun j hj => by
                have h1 := BW.out j (by omega)
                have h2 := BW.out (10 + j) (by omega)
                show _ ≤ tm a b 10 j ∧ tm a b 10 j ≤ _
                unfold tm; rw [if_pos hj]; omega
              have HV : Hid (0 ≤ vN 10 (tm a b 10) ∧ vN 10 (tm a b 10) < 2 ^ 270) := by
                show _ ∧ _
                omega
              have TE : Hid (vN 10 (tm a b 10) % (p : Int) = (vN 10 a * vN 10 b) % (p : Int)) := TV.2.2
              clear TV
              go_wp2_with fail
              refine Calls.mono (Small_any (tm a b 10) ML HV _) ?_
              rintro e w5 ⟨h, rfl, ch, hb5⟩
              have CH : Hid (can h ∧ vN 10 h = (vN 10 a * vN 10 b) % (p : Int)) := by rw [TE.out] at ch; exact ch
              have J5 : Hid (RowAt w5 (w.heap.size + 1 + 1) 10 (fun _ => 0) ∧ Below w.heap.size w w5) := ⟨M.out.2.2.2.2.1.later (by omega) hb5, chain M.out.2.2.2.2.2 hb5⟩
              clear hb5 ch c0 c1 c2 c3 c4 c5 c6 c7 c8 c9
              have c0 := J5.out.1.2 0 (by omega); have c1 := J5.out.1.2 1 (by omega); have c2 := J5.out.1.2 2 (by omega); have c3 := J5.out.1.2 3 (by omega); have c4 := J5.out.1.2 4 (by omega); have c5 := J5.out.1.2 5 (by omega); have c6 := J5.out.1.2 6 (by omega); have c7 := J5.out.1.2 7 (by omega); have c8 := J5.out.1.2 8 (by omega); have c9 := J5.out.1.2 9 (by omega)
              have cf := J5.out.1.1
              go_wp2
              refine bodyPost_ret (v := .agg #[.int .i64 (h 0), .int .i64 (h 1), .int .i64 (h 2), .int .i64 (h 3), .int .i64 (h 4), .int .i64 (h 5), .int .i64 (h 6), .int .i64 (h 7), .int .i64 (h 8), .int .i64 (h 9)]) (by simp [results, Try.results41, go_sem, *]) rfl ⟨h, rfl, CH.out, ?_⟩
              exact below_put10 J5.out.2 (by omega) h

end Go.Proofs.Ytdebfelgaiofeaa
