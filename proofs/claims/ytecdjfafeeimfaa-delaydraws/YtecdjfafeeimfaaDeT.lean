/- The program's tables, and a word's place in one. -/
import Derived.Test.YtecdjfafeeimfaaDeP
namespace Go.Proofs.Ytecdjfafeeimfaa
open Go.RowKit Go.Proofs.Fd Go.Proofs.Ta Go.Proofs.De
set_option maxRecDepth 20000

theorem tbl_first (m n : Nat) : (List.replicate (n + 1) (0 : Int)).set 0 4294967296 = tbl m 1 ++ List.replicate (n - 0) 0 := by
  rw [List.replicate_succ, Nat.sub_zero]
  rfl
theorem tbl_fill (m n k : Nat) (h : k < n) : (tbl m (k + 1) ++ List.replicate (n - k) 0).set (k + 1) (tb m (k + 1) : Int) = tbl m (k + 1 + 1) ++ List.replicate (n - (k + 1)) 0 := by
  obtain ⟨r, rfl⟩ : ∃ r, n = k + (r + 1) := ⟨n - k - 1, by omega⟩
  rw [show k + (r + 1) - k = r + 1 by omega, show k + (r + 1) - (k + 1) = r by omega, tbl_succ m (k + 1), List.replicate_succ, List.set_append_right _ _ (by rw [tbl_len]; omega), tbl_len, Nat.sub_self, List.append_assoc]
  rfl
theorem tb_quo (m k : Nat) : IntKind.i64.wrap (((tb m k * m : Nat) : Int) / ((m : Int) + 1)) = (tb m (k + 1) : Int) := by
  have h := tb_most m (k + 1)
  rw [show (m : Int) + 1 = ((m + 1 : Nat) : Int) from rfl, ← Int.natCast_ediv, ← tb_step, IntKind.wrap_i64]
  omega
set_option maxHeartbeats 1000000 in
theorem tableOf_any (m n : Nat) (hm : m ≤ 4096) (hn : n ≤ 4096) (w : World) :
    Calls Try.prog 23 #[.int .i64 (m : Int), .int .i64 (n : Int)] w fun e w' => ∃ g, e = .returned (.slice (some ⟨g, 0, none⟩) (n + 1) (n + 1)) ∧ Row w' g (tbl m (n + 1)) ∧ w.heap.size ≤ g ∧ Below w.heap.size w w' := by
  have z1 : IntKind.i64.wrap ((n : Int) + 1) = ((n + 1 : Nat) : Int) := by rw [IntKind.wrap_i64]; omega
  have z2 : IntKind.i64.wrap ((m : Int) + 1) = (m : Int) + 1 := by rw [IntKind.wrap_i64]; omega
  have z3 : ¬ (m : Int) + 1 = 0 := by omega
  obtain ⟨N, hN⟩ : ∃ N, n + 1 = N := ⟨_, rfl⟩
  obtain ⟨W, CM, hrow, hbW⟩ := make_ints N (by omega) w
  obtain ⟨g, hg⟩ : ∃ g, w.heap.size = g := ⟨_, rfl⟩
  rw [hg] at CM hrow hbW
  rw [hN] at z1
  have r0 := hrow 0 (by rw [List.length_replicate]; omega)
  have c0 := r0.1
  have f0 := r0.2
  rw [List.getElem_replicate] at c0
  have I0 : Hid (Row (W.setCell ⟨g, 0, none⟩ (.int .i64 4294967296)) g (tbl m 1 ++ List.replicate (n - 0) 0) ∧ Below w.heap.size w (W.setCell ⟨g, 0, none⟩ (.int .i64 4294967296))) := by
    refine ⟨?_, ?_⟩
    · rw [← tbl_first, hN]
      exact hrow.set 0 _
    · rw [hg]
      exact hbW.setCell (p := ⟨g, 0, none⟩) (Nat.le_refl g) _
  have q0 : (0 : Int) < (N : Int) := by omega
  clear r0 hrow hbW
  go_enter Try.func23, Try.ntmps23
  go_wp2
  clear c0 f0
  go_loopw [6, 13] (fun _ i wr => ∃ k : Nat, k ≤ n ∧ i = .int .i64 (k : Int) ∧ Hid (Row wr g (tbl m (k + 1) ++ List.replicate (n - k) 0) ∧ Below w.heap.size w wr)) (fun _ i _ => n - (intOf i).toNat)
  case atStart => exact ⟨0, by omega, rfl, I0.out⟩
  case round =>
    obtain ⟨k, hk, rfl, I⟩ := hrel
    clear I0
    by_cases hlt : k < n
    · have g1 : (k : Int) < (n : Int) := by omega
      have ln : (tbl m (k + 1) ++ List.replicate (n - k) 0).length = n + 1 := by rw [List.length_append, tbl_len, List.length_replicate]; omega
      have c0 := (I.out.1 k (by omega)).1
      have c1 := (I.out.1 (k + 1) (by omega)).1
      have f1 := (I.out.1 (k + 1) (by omega)).2
      rw [List.getElem_append_left (by rw [tbl_len]; omega), tbl_at m (k + 1) k (by omega)] at c0
      have z5 := tb_quo m k
      have sm := tb_small m k hm
      have z4 : IntKind.i64.wrap ((tb m k : Int) * (m : Int)) = ((tb m k * m : Nat) : Int) := by rw [← Int.natCast_mul, IntKind.wrap_i64]; omega
      have I2 : Hid (Row (wr.setCell ⟨g, k + 1, none⟩ (.int .i64 (tb m (k + 1) : Int))) g (tbl m (k + 1 + 1) ++ List.replicate (n - (k + 1)) 0) ∧ Below w.heap.size w (wr.setCell ⟨g, k + 1, none⟩ (.int .i64 (tb m (k + 1) : Int)))) := by
        obtain ⟨i1, i2⟩ := I.out
        exact ⟨by rw [← tbl_fill m n k hlt]; exact i1.set (k + 1) _, i2.setCell (p := ⟨g, k + 1, none⟩) (by rw [hg]; exact Nat.le_refl g) _⟩
      obtain ⟨x, hx⟩ : ∃ x, tb m k = x := ⟨_, rfl⟩
      obtain ⟨y, hy⟩ : ∃ y, tb m (k + 1) = y := ⟨_, rfl⟩
      obtain ⟨p, hp⟩ : ∃ p, tb m k * m = p := ⟨_, rfl⟩
      rw [hp] at z4 z5
      rw [hx] at z4 c0
      rw [hy] at z5 I2
      obtain ⟨k1, hk1⟩ : ∃ k1, k + 1 = k1 := ⟨_, rfl⟩
      have z6 : IntKind.i64.wrap ((k : Int) + 1) = (k1 : Int) := by rw [IntKind.wrap_i64]; omega
      have g2 : (k : Int) < (N : Int) := by omega
      have g3 : (k1 : Int) < (N : Int) := by omega
      rw [hk1] at f1 I2
      have hk2 : k1 ≤ n := by omega
      have c1' : ∃ v, wr.cell? ⟨g, k1, none⟩ = some v := ⟨_, by rw [← hk1]; exact c1⟩
      obtain ⟨v1, c1'⟩ := c1'
      have MS : Hid (n - k1 < n - k) := by show n - k1 < n - k; omega
      clear ln hx hy hp I c1 sm hk1 hlt
      go_wp2
      go_roundw
      case rel => exact ⟨k1, hk2, rfl, I2.out⟩
      case measure => simpa [intOf] using MS.out
    · obtain rfl : k = n := by omega
      have FI : Hid (Row wr g (tbl m (k + 1)) ∧ Below w.heap.size w wr) := by
        obtain ⟨i1, i2⟩ := I.out
        rw [Nat.sub_self, List.replicate_zero, List.append_nil] at i1
        exact ⟨i1, i2⟩
      clear I
      go_wp2
      go_ret
      exact ⟨g, by rw [hN]; rfl, FI.out.1, by omega, FI.out.2⟩
/-- Boxes of a table and of a word, and the table itself. -/
def Boxd (w : World) (rb ub g m n u : Nat) : Prop := w.cell? ⟨rb, 0, none⟩ = some (.slice (some ⟨g, 0, none⟩) (n + 1) (n + 1)) ∧ w.cell? ⟨ub, 0, none⟩ = some (.int .i64 (u : Int)) ∧ Row w g (tbl m (n + 1))
theorem Boxd.later {w w' : World} {rb ub g m n u : Nat} (h : Boxd w rb ub g m n u) (hb : Below w.heap.size w w') : Boxd w' rb ub g m n u := ⟨cell_later hb h.1, cell_later hb h.2.1, h.2.2.later hb⟩
set_option maxHeartbeats 1000000 in
theorem close_any (rb ub g m n u k : Nat) (hk : k < n) (hn : n ≤ 4096) (w : World) (B : Hid (Boxd w rb ub g m n u)) :
    Calls Try.prog 33 #[.int .i64 (k : Int), .pointer (some ⟨rb, 0, none⟩), .pointer (some ⟨ub, 0, none⟩)] w fun e w' => e = .returned (.bool (decide (tb m (k + 1) ≤ u))) ∧ Below w.heap.size w w' := by
  obtain ⟨c0, c1, hr⟩ := B.out
  have c2 := (hr (k + 1) (by rw [tbl_len]; omega)).1
  rw [tbl_at m (n + 1) (k + 1) (by omega)] at c2
  obtain ⟨k1, hk1⟩ : ∃ k1, k + 1 = k1 := ⟨_, rfl⟩
  obtain ⟨N, hN⟩ : ∃ N, n + 1 = N := ⟨_, rfl⟩
  have z : IntKind.i64.wrap ((k : Int) + 1) = (k1 : Int) := by rw [IntKind.wrap_i64]; omega
  have g1 : (k1 : Int) < (N : Int) := by omega
  have hd : decide ((tb m (k + 1) : Int) ≤ (u : Int)) = decide (tb m (k + 1) ≤ u) := by simp
  rw [← hd]
  rw [hk1] at c2 ⊢
  rw [hN] at c0
  obtain ⟨x, hx⟩ : ∃ x : Int, (tb m k1 : Int) = x := ⟨_, rfl⟩
  obtain ⟨y, hy⟩ : ∃ y : Int, (u : Int) = y := ⟨_, rfl⟩
  rw [hx] at c2 ⊢
  rw [hy] at c1 ⊢
  clear hx hy hd hr hk1 hN B hk hn
  go_enter Try.func33, Try.ntmps33
  go_wp2
  go_quiet (fail)
  go_wp2
  go_ret
  exact ⟨rfl, below_drewN (Below.refl _ _) _⟩
end Go.Proofs.Ytecdjfafeeimfaa
