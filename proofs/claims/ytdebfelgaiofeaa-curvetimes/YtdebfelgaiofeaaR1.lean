/- The document's carries. -/
import Derived.Test.YtdebfelgaiofeaaMA
import Derived.Test.YtdebfelgaiofeaaProg
import Derived.Test.YtdebfelgaiofeaaH2
import Derived.WalkKit
import Derived.WalkSpells
import Derived.WalkLawsBesides
namespace Go.Proofs.Ytdebfelgaiofeaa
open Go.RowKit Go.Proofs.Fd

/-- Block b holds these n numbers, and may be written. -/
def RowAt (w : World) (b n : Nat) (d : Nat → Int) : Prop := (∀ o, w.frozen? ⟨b, o, none⟩ = false) ∧ ∀ j, j < n → w.cell? ⟨b, j, none⟩ = some (.int .i64 (d j))

theorem w64 (n : Int) (h : -9223372036854775808 ≤ n ∧ n ≤ 9223372036854775807) : wrap64 n = n := by unfold wrap64; omega

set_option maxHeartbeats 1000000 in
theorem even_any (d : Nat → Int) (hd : Hid (∀ j, j < 10 → -1152921504606846976 ≤ d j ∧ d j ≤ 1152921504606846976)) (w : World) :
    Calls Try.prog 64 #[.agg #[.int .i64 (d 0), .int .i64 (d 1), .int .i64 (d 2), .int .i64 (d 3), .int .i64 (d 4), .int .i64 (d 5), .int .i64 (d 6), .int .i64 (d 7), .int .i64 (d 8), .int .i64 (d 9)]] w fun e w' =>
      e = .returned (.agg #[.int .i64 (ev d 0), .int .i64 (ev d 1), .int .i64 (ev d 2), .int .i64 (ev d 3), .int .i64 (ev d 4), .int .i64 (ev d 5), .int .i64 (ev d 6), .int .i64 (ev d 7), .int .i64 (ev d 8), .int .i64 (ev d 9)]) ∧ Below w.heap.size w w' := by
  go_enter Try.func64, Try.ntmps64
  go_wp2
  go_loopw [3] (fun i wr => ∃ k : Nat, k ≤ 9 ∧ i = .int .i64 k ∧ Hid (RowAt wr w.heap.size 10 (st d k) ∧ RowAt wr (w.heap.size + 1) 10 (fun _ => 0) ∧ Below w.heap.size w wr)) (fun i _ => 9 - (intOf i).toNat)
  case atStart =>
    refine ⟨0, Nat.zero_le _, rfl, ⟨?_, ?_⟩, ⟨?_, ?_⟩, ?_⟩
    · intro o; simp [go_sem]
    · intro j hj
      have : j = 0 ∨ j = 1 ∨ j = 2 ∨ j = 3 ∨ j = 4 ∨ j = 5 ∨ j = 6 ∨ j = 7 ∨ j = 8 ∨ j = 9 := by omega
      rcases this with rfl | rfl | rfl | rfl | rfl | rfl | rfl | rfl | rfl | rfl <;> simp [go_sem, st, cy]
    · intro o; simp [go_sem]
    · intro j hj
      have : j = 0 ∨ j = 1 ∨ j = 2 ∨ j = 3 ∨ j = 4 ∨ j = 5 ∨ j = 6 ∨ j = 7 ∨ j = 8 ∨ j = 9 := by omega
      rcases this with rfl | rfl | rfl | rfl | rfl | rfl | rfl | rfl | rfl | rfl <;> simp [go_sem]
    · repeat (first | refine Below.setCell ?_ (by simp; try omega) _ | refine Below.drew ?_ | refine Below.alloc ?_ (by simp; try omega) _ | exact Below.refl _ _)
  case round =>
    obtain ⟨k, hk, rfl, I⟩ := hrel
    by_cases hlt : k < 9
    · have ck := I.out.1.2 k (by omega)
      have ck1 := I.out.1.2 (k + 1) (by omega)
      have fz := I.out.1.1
      have b0 : (0 : Int) ≤ (k : Int) := by omega
      have b1 : (k : Int) < 10 := by omega
      have b2 : (k : Int) + 1 < 10 := by omega
      have HX : Hid (st d k k = d k + cy d k ∧ st d k (k + 1) = d (k + 1) ∧ (-34359738368 ≤ cy d k ∧ cy d k ≤ 34359738368) ∧ (-1152921504606846976 ≤ d k ∧ d k ≤ 1152921504606846976) ∧ (-1152921504606846976 ≤ d (k + 1) ∧ d (k + 1) ≤ 1152921504606846976)) :=
        ⟨by unfold st; rw [if_neg (by omega), if_pos rfl], by unfold st; rw [if_neg (by omega), if_neg (by omega)], cy_bd d k (fun j hj => hd.out j (by omega)), hd.out k (by omega), hd.out (k + 1) (by omega)⟩
      obtain ⟨X, eX⟩ : ∃ X, st d k k = X := ⟨_, rfl⟩
      obtain ⟨Y, eY⟩ : ∃ Y, st d k (k + 1) = Y := ⟨_, rfl⟩
      rw [eX] at ck
      rw [eY] at ck1
      have EX : Hid (st d k k = X ∧ st d k (k + 1) = Y) := ⟨eX, eY⟩
      clear eX eY
      go_wp2
      go_roundw
      case rel =>
        have h1 := HX.out
        rw [EX.out.1, EX.out.2] at h1
        obtain ⟨hx, hy, hc, hk1, hk2⟩ := h1
        have w1 : wrap64 (X / 67108864 * 67108864) = X / 67108864 * 67108864 := w64 _ (by omega)
        have w2 : wrap64 (X - X / 67108864 * 67108864) = md d k := by rw [w64 _ (by omega)]; unfold md; omega
        have w3 : wrap64 (Y + X / 67108864) = d (k + 1) + cy d (k + 1) := by
          rw [w64 _ (by omega)]; simp only [cy]; omega
        rw [w1, w2, w3]
        refine ⟨k + 1, by omega, by go_num, ⟨fun o => by simp [go_sem, fz], fun j hj => ?_⟩, ⟨fun o => ?_, fun j hj => ?_⟩, ?_⟩
        · by_cases e1 : j = k
          · subst e1
            have : st d (j + 1) j = md d j := by unfold st; rw [if_pos (by omega)]
            rw [this]; simp [go_sem, ck]
          · by_cases e2 : j = k + 1
            · subst e2
              have : st d (k + 1) (k + 1) = d (k + 1) + cy d (k + 1) := by unfold st; rw [if_neg (by omega), if_pos rfl]
              rw [this]; simp [go_sem, ck1]
            · have : st d (k + 1) j = st d k j := by
                unfold st
                by_cases e3 : j < k
                · rw [if_pos (by omega), if_pos e3]
                · rw [if_neg (by omega), if_neg (by omega), if_neg e3, if_neg e1]
              rw [this, World.cell?_setCell_other _ _ _ _ (by simp; try omega), World.cell?_setCell_other _ _ _ _ (by simp; try omega)]
              exact I.out.1.2 j hj
        · exact (frozen_setCell (by simp)).trans ((frozen_setCell (by simp)).trans (I.out.2.1.1 o))
        · exact cell_setCell (cell_setCell (I.out.2.1.2 j hj) (by simp)) (by simp)
        · exact (I.out.2.2.setCell (by simp) _).setCell (by simp) _
      case measure => simp [intOf]; omega
    · have hk9 : k = 9 := by omega
      subst hk9
      have c0 := I.out.1.2 0 (by omega); have c1 := I.out.1.2 1 (by omega); have c2 := I.out.1.2 2 (by omega); have c3 := I.out.1.2 3 (by omega); have c4 := I.out.1.2 4 (by omega)
      have c5 := I.out.1.2 5 (by omega); have c6 := I.out.1.2 6 (by omega); have c7 := I.out.1.2 7 (by omega); have c8 := I.out.1.2 8 (by omega); have c9 := I.out.1.2 9 (by omega)
      have r0 := I.out.2.1.2 0 (by omega); have r1 := I.out.2.1.2 1 (by omega); have r2 := I.out.2.1.2 2 (by omega); have r3 := I.out.2.1.2 3 (by omega); have r4 := I.out.2.1.2 4 (by omega)
      have r5 := I.out.2.1.2 5 (by omega); have r6 := I.out.2.1.2 6 (by omega); have r7 := I.out.2.1.2 7 (by omega); have r8 := I.out.2.1.2 8 (by omega); have r9 := I.out.2.1.2 9 (by omega)
      have rf := I.out.2.1.1
      go_wp2
      refine bodyPost_ret (v := .agg #[.int .i64 (ev d 0), .int .i64 (ev d 1), .int .i64 (ev d 2), .int .i64 (ev d 3), .int .i64 (ev d 4), .int .i64 (ev d 5), .int .i64 (ev d 6), .int .i64 (ev d 7), .int .i64 (ev d 8), .int .i64 (ev d 9)]) (by simp [results, Try.results64, go_sem, *, ev]) rfl ⟨rfl, ?_⟩
      repeat (first | refine Below.setCell ?_ (by simp) _ | exact I.out.2.2)

end Go.Proofs.Ytdebfelgaiofeaa
