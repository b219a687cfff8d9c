/- What climb of package curve does: the ladder. -/
import Derived.Test.YtdebfelgaiofeaaC2
import Derived.Test.YtdebfelgaiofeaaC4
namespace Go.Proofs.Ytdebfelgaiofeaa
open Go.RowKit Go.Proofs.Fd Go.Proofs.Ed

/-- The cells of the ladder's two points. -/
def LH (w0 : World) (L H : Nat) (x2 z2 x3 z3 u : K) (w : World) : Prop :=
  w.cell? ⟨L, 0, none⟩ = some (.string (ek x2)) ∧ w.cell? ⟨L, 1, none⟩ = some (.string (ek z2)) ∧ w.cell? ⟨H, 0, none⟩ = some (.string (ek x3)) ∧ w.cell? ⟨H, 1, none⟩ = some (.string (ek z3)) ∧ w.cell? ⟨H, 2, none⟩ = some (.string (ek u))
    ∧ (∀ o, w.frozen? ⟨L, o, none⟩ = false) ∧ (∀ o, w.frozen? ⟨H, o, none⟩ = false) ∧ Below w0.heap.size w0 w ∧ w0.heap.size ≤ L ∧ w0.heap.size ≤ H ∧ L ≠ H

theorem LH.later {w0 W w1 : World} {L H : Nat} {x2 z2 x3 z3 u : K} (h : LH w0 L H x2 z2 x3 z3 u W) (hb : Below W.heap.size W w1) : LH w0 L H x2 z2 x3 z3 u w1 := by
  obtain ⟨h0, h1, h2, h3, h4, f0, f1, hB, n0, n1, n2⟩ := h
  have hl : L < W.heap.size := World.block_lt_of_cell? _ _ h0
  have hh : H < W.heap.size := World.block_lt_of_cell? _ _ h2
  exact ⟨cell_later hb h0, cell_later hb h1, cell_later hb h2, cell_later hb h3, cell_later hb h4, fun o => (frozen_kept hb hl).trans (f0 o), fun o => (frozen_kept hb hh).trans (f1 o), chain hB hb, n0, n1, n2⟩

theorem LH.low {w0 W : World} {L H : Nat} {x2 z2 x3 z3 u : K} (h : LH w0 L H x2 z2 x3 z3 u W) (a b : K) : LH w0 L H a b x3 z3 u ((W.setCell ⟨L, 0, none⟩ (.string (ek a))).setCell ⟨L, 1, none⟩ (.string (ek b))) := by
  obtain ⟨h0, h1, h2, h3, h4, f0, f1, hB, n0, n1, n2⟩ := h
  exact ⟨by simp [go_sem, h0], by simp [go_sem, h1], cell_setCell (cell_setCell h2 n2) n2, cell_setCell (cell_setCell h3 n2) n2, cell_setCell (cell_setCell h4 n2) n2, fun o => by simp [f0], fun o => by simp [f1], (hB.setCell (p := ⟨L, 0, none⟩) n0 _).setCell (p := ⟨L, 1, none⟩) n0 _, n0, n1, n2⟩

theorem LH.high {w0 W : World} {L H : Nat} {x2 z2 x3 z3 u : K} (h : LH w0 L H x2 z2 x3 z3 u W) (a b : K) : LH w0 L H x2 z2 a b u ((W.setCell ⟨H, 0, none⟩ (.string (ek a))).setCell ⟨H, 1, none⟩ (.string (ek b))) := by
  obtain ⟨h0, h1, h2, h3, h4, f0, f1, hB, n0, n1, n2⟩ := h
  exact ⟨cell_setCell (cell_setCell h0 n2.symm) n2.symm, cell_setCell (cell_setCell h1 n2.symm) n2.symm, by simp [go_sem, h2], by simp [go_sem, h3], by simp [go_sem, h4], fun o => by simp [f0], fun o => by simp [f1], (hB.setCell (p := ⟨H, 0, none⟩) n1 _).setCell (p := ⟨H, 1, none⟩) n1 _, n0, n1, n2⟩

theorem LH.high3 {w0 W : World} {L H : Nat} {x2 z2 x3 z3 u : K} (h : LH w0 L H x2 z2 x3 z3 u W) (a b : K) : LH w0 L H x2 z2 a b u (((W.setCell ⟨H, 0, none⟩ (.string (ek a))).setCell ⟨H, 1, none⟩ (.string (ek b))).setCell ⟨H, 2, none⟩ (.string (ek u))) := by
  obtain ⟨h0, h1, h2, h3, h4, f0, f1, hB, n0, n1, n2⟩ := h
  exact ⟨cell_setCell (cell_setCell (cell_setCell h0 n2.symm) n2.symm) n2.symm, cell_setCell (cell_setCell (cell_setCell h1 n2.symm) n2.symm) n2.symm, by simp [go_sem, h2], by simp [go_sem, h3], by simp [go_sem, h4], fun o => by simp [f0], fun o => by simp [f1], ((hB.setCell (p := ⟨H, 0, none⟩) n1 _).setCell (p := ⟨H, 1, none⟩) n1 _).setCell (p := ⟨H, 2, none⟩) n1 _, n0, n1, n2⟩

/-- Which of the two stands first. -/
def crs (c : Nat) (x2 z2 x3 z3 : K) : (K × K) × (K × K) := if c = 1 then ((x3, z3), (x2, z2)) else ((x2, z2), (x3, z3))

theorem crs_same {u x2 z2 x3 z3 : K} {b : Nat} (hb : b < 2) : crs b (stepL u (x2, z2) (x3, z3)).1.1 (stepL u (x2, z2) (x3, z3)).1.2 (stepL u (x2, z2) (x3, z3)).2.1 (stepL u (x2, z2) (x3, z3)).2.2 = nxt u b (crs b x2 z2 x3 z3) := by
  rcases (by omega : b = 0 ∨ b = 1) with rfl | rfl <;> rfl
theorem crs_other {u x2 z2 x3 z3 : K} {n b : Nat} (hn : n < 2) (hb : b < 2) (h : n ≠ b) : crs b (stepL u (x3, z3) (x2, z2)).1.1 (stepL u (x3, z3) (x2, z2)).1.2 (stepL u (x3, z3) (x2, z2)).2.1 (stepL u (x3, z3) (x2, z2)).2.2 = nxt u b (crs n x2 z2 x3 z3) := by
  rcases (by omega : b = 0 ∨ b = 1) with rfl | rfl <;> rcases (by omega : n = 0 ∨ n = 1) with rfl | rfl <;> first | exact absurd rfl h | rfl

theorem run_next (u : K) (k m : Nat) (h : m + 1 ≤ 255) : run u k (255 - m) = nxt u (k / 2 ^ m % 2) (run u k (255 - (m + 1))) := by
  rw [show 255 - m = (255 - (m + 1)) + 1 by omega]
  show nxt u (k / 2 ^ (254 - (255 - (m + 1))) % 2) (run u k (255 - (m + 1))) = _
  rw [show 254 - (255 - (m + 1)) = m by omega]

theorem bit_byte (x : UInt8) (r : Nat) : bits .and .u8 ((x.toNat : Int) / 2 ^ r) 1 = ((x.toNat / 2 ^ r % 2 : Nat) : Int) := by
  have h := x.toNat_lt
  have e0 : (x.toNat : Int) / 2 ^ r = ((x.toNat / 2 ^ r : Nat) : Int) := by simp
  have hlt : x.toNat / 2 ^ r < 256 := Nat.lt_of_le_of_lt (Nat.div_le_self _ _) (by omega)
  rw [e0]
  generalize x.toNat / 2 ^ r = y at *
  have := bits_mask .u8 8 (by decide) wraps_u8 1 (by decide) (y : Int) (by omega) (by omega)
  rw [show (2 : Int) ^ 1 - 1 = 1 by decide] at this
  rw [this]
  omega

set_option maxHeartbeats 1000000 in
theorem climb_any (s : ByteArray) (hs : s.size = 32) (u : K) (w : World) :
    Calls Try.prog 23 #[.string s, .string (ek u)] w fun e w' => e = .returned (.string (ek (lad (num s.data.toList) u))) ∧ Below w.heap.size w w' := by
  go_enter Try.func23, Try.ntmps23
  go_wp2_with fail
  refine Calls.mono (csmall_any 1 1 rfl (by omega) _) ?_
  rintro e w1 ⟨rfl, hb⟩
  have B1 : Hid (Below w.heap.size w w1) := hb
  clear hb
  rw [show enc 1 = ek 1 from rfl]
  go_wp2_with fail
  refine Calls.mono (csmall_any 0 0 rfl (by omega) _) ?_
  rintro e w2 ⟨rfl, hb⟩
  have B2 : Hid (Below w.heap.size w w2) := chain B1.out hb
  clear hb
  rw [show enc 0 = ek 0 from rfl]
  go_wp2_with fail
  refine Calls.mono (csmall_any 1 1 rfl (by omega) _) ?_
  rintro e w3 ⟨rfl, hb⟩
  rw [show enc 1 = ek 1 from rfl]
  have L0 : Hid (LH w w2.heap.size w3.heap.size 1 0 u 1 u (w3.alloc (.cells #[.string (ek u), .string (ek 1), .string (ek u)] 58))) := by
    have bb : Below w.heap.size w w3 := chain (B2.out.alloc B2.out.size _) hb
    have k0 : w3.cell? ⟨w2.heap.size, 0, none⟩ = some (.string (ek 1)) := cell_later hb (by simp [go_sem])
    have k1 : w3.cell? ⟨w2.heap.size, 1, none⟩ = some (.string (ek 0)) := cell_later hb (by simp [go_sem])
    have hl : w2.heap.size < w3.heap.size := World.block_lt_of_cell? _ _ k0
    have kf : ∀ o, w3.frozen? ⟨w2.heap.size, o, none⟩ = false := fun o => (frozen_kept hb (by simp)).trans (by simp [go_sem])
    refine ⟨cell_alloc k0, cell_alloc k1, by simp [go_sem], by simp [go_sem], by simp [go_sem], fun o => ?_, fun o => by simp [go_sem], bb.alloc bb.size _, B2.out.size, bb.size, by omega⟩
    rw [World.frozen?_alloc_past _ _ _ hl]; exact kf o
  clear hb
  go_wp2
  obtain ⟨L, hL⟩ : ∃ L, w2.heap.size = L := ⟨_, rfl⟩
  obtain ⟨H, hH⟩ : ∃ L, w3.heap.size = L := ⟨_, rfl⟩
  obtain ⟨W, hW⟩ : ∃ W, w3.alloc (.cells #[.string (ek u), .string (ek 1), .string (ek u)] 58) = W := ⟨_, rfl⟩
  rw [hW] at L0
  rw [hL, hH] at L0
  rw [hW, hL, hH]
  clear hW hL hH B1 B2
  have hl : Hid (s.data.toList.length = 32) := by show s.data.toList.length = 32; simpa using hs
  go_loopw [7, 8] (fun c i wr => ∃ (n t : Nat) (x2 z2 x3 z3 : K), c = .int .u8 n ∧ i = .int .i64 ((t : Int) - 1) ∧ n < 2 ∧ t ≤ 255 ∧ Hid (LH w L H x2 z2 x3 z3 u wr ∧ crs n x2 z2 x3 z3 = run u (num s.data.toList) (255 - t))) (fun _ i _ => (intOf i + 1).toNat)
  case atStart =>
    exact ⟨0, 255, 1, 0, u, 1, rfl, rfl, by omega, by omega, L0.out, rfl⟩
  case round =>
    obtain ⟨n, t, x2, z2, x3, z3, rfl, rfl, hn, ht, I⟩ := hrel
    obtain ⟨q0, q1, q2, q3, q4, f0, f1, -⟩ := I.out.1
    by_cases h0 : t = 0
    · subst h0
      have e1 : ((0 : Nat) : Int) - 1 = -1 := by omega
      rw [e1]
      clear e1
      have nLH : ¬ L = H := I.out.1.2.2.2.2.2.2.2.2.2.2
      have nHL : ¬ H = L := fun e => nLH e.symm
      by_cases hn1 : n = 1
      · subst hn1
        have FIN : Hid (lad (num s.data.toList) u = x3 * kinv z3) := by
          have h := I.out.2
          show (run u (num s.data.toList) (255 - 0)).1.1 * kinv (run u (num s.data.toList) (255 - 0)).1.2 = _
          rw [← h]; rfl
        go_wp2_with fail
        refine Calls.mono (cquot_any x3 z3 _) ?_
        rintro e w5 ⟨rfl, hb⟩
        have B5 : Hid (Below w.heap.size w w5) := chain ((I.out.1.low x3 z3).high x2 z2).2.2.2.2.2.2.2.1 hb
        clear hb
        go_wp2
        go_ret
        exact ⟨by rw [FIN.out]; rfl, B5.out⟩
      · have hn0 : n = 0 := by omega
        subst hn0
        have FIN : Hid (lad (num s.data.toList) u = x2 * kinv z2) := by
          have h := I.out.2
          show (run u (num s.data.toList) (255 - 0)).1.1 * kinv (run u (num s.data.toList) (255 - 0)).1.2 = _
          rw [← h]; rfl
        clear hn1
        go_wp2_with fail
        refine Calls.mono (cquot_any x2 z2 _) ?_
        rintro e w5 ⟨rfl, hb⟩
        have B5 : Hid (Below w.heap.size w w5) := chain I.out.1.2.2.2.2.2.2.2.1 hb
        clear hb
        go_wp2
        go_ret
        exact ⟨by rw [FIN.out]; rfl, B5.out⟩
    · obtain ⟨m, rfl⟩ : ∃ m, t = m + 1 := ⟨t - 1, by omega⟩
      have e1 : ((m + 1 : Nat) : Int) - 1 = (m : Int) := by omega
      rw [e1]
      clear e1 h0
      have hms : m / 8 < s.size := by rw [hs]; omega
      obtain ⟨b, hb⟩ : ∃ b, num s.data.toList / 2 ^ m % 2 = b := ⟨_, rfl⟩
      have hb2 : b < 2 := by rw [← hb]; exact Nat.mod_lt _ (by decide)
      have hbit : bits .and .u8 ((s[m / 8].toNat : Int) / 2 ^ (m % 8)) 1 = (b : Int) := by
        rw [bit_byte, ← hb, ← bit_at _ m (by have := hl.out; omega)]; rfl
      have RN : Hid (run u (num s.data.toList) (255 - m) = nxt u b (crs n x2 z2 x3 z3)) := by
        show _ = _
        rw [I.out.2, run_next u _ m (by omega), hb]
      have nLH : ¬ L = H := I.out.1.2.2.2.2.2.2.2.2.2.2
      have nHL : ¬ H = L := fun e => nLH e.symm
      clear hb
      by_cases hnb : n = b
      · subst hnb
        go_wp2_with fail
        refine Calls.mono (cstep_any x2 z2 x3 z3 u _) ?_
        rintro e w5 ⟨rfl, hb⟩
        have L5 : Hid (LH w L H x2 z2 x3 z3 u w5) := I.out.1.later hb
        clear hb q0 q1 q2 q3 q4 f0 f1
        obtain ⟨q0, q1, q2, q3, q4, f0, f1, -⟩ := L5.out
        have RN' : Hid (crs n (stepL u (x2, z2) (x3, z3)).1.1 (stepL u (x2, z2) (x3, z3)).1.2 (stepL u (x2, z2) (x3, z3)).2.1 (stepL u (x2, z2) (x3, z3)).2.2 = run u (num s.data.toList) (255 - m)) := (crs_same hn).trans RN.out.symm
        generalize (stepL u (x2, z2) (x3, z3)).1.1 = y2 at *
        generalize (stepL u (x2, z2) (x3, z3)).1.2 = y3 at *
        generalize (stepL u (x2, z2) (x3, z3)).2.1 = y4 at *
        generalize (stepL u (x2, z2) (x3, z3)).2.2 = y5 at *
        go_wp2
        go_roundw
        case rel => exact ⟨n, m, y2, y3, y4, y5, rfl, by go_num, hn, by omega, (L5.out.low y2 y3).high3 y4 y5, RN'.out⟩
        case measure => simp [intOf]
      · have hne : ((n : Int) != (b : Int)) = true := by simp; omega
        go_wp2_with fail
        refine Calls.mono (cstep_any x3 z3 x2 z2 u _) ?_
        rintro e w5 ⟨rfl, hb⟩
        have L5 : Hid (LH w L H x3 z3 x2 z2 u w5) := ((I.out.1.low x3 z3).high x2 z2).later hb
        clear hb q0 q1 q2 q3 q4 f0 f1
        obtain ⟨q0, q1, q2, q3, q4, f0, f1, -⟩ := L5.out
        have RN' : Hid (crs b (stepL u (x3, z3) (x2, z2)).1.1 (stepL u (x3, z3) (x2, z2)).1.2 (stepL u (x3, z3) (x2, z2)).2.1 (stepL u (x3, z3) (x2, z2)).2.2 = run u (num s.data.toList) (255 - m)) := (crs_other hn hb2 hnb).trans RN.out.symm
        generalize (stepL u (x3, z3) (x2, z2)).1.1 = y2 at *
        generalize (stepL u (x3, z3) (x2, z2)).1.2 = y3 at *
        generalize (stepL u (x3, z3) (x2, z2)).2.1 = y4 at *
        generalize (stepL u (x3, z3) (x2, z2)).2.2 = y5 at *
        go_wp2
        go_roundw
        case rel => exact ⟨b, m, y2, y3, y4, y5, rfl, by go_num, hb2, by omega, (L5.out.low y2 y3).high3 y4 y5, RN'.out⟩
        case measure => simp [intOf]

end Go.Proofs.Ytdebfelgaiofeaa
