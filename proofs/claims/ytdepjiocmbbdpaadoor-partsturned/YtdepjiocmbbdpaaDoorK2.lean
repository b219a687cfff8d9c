/- The machine's words. -/
import Derived.Test.YtdepjiocmbbdpaaDoorK1
namespace Go.Proofs.YtdepjiocmbbdpaaDoor
open Go.RowKit Go.Proofs.Fd Go.Proofs.Hs
attribute [local go_sem] and32 or32 xor32 add32 add32'

/-- The table lies there. -/
def KstAt (w : World) : Prop := ∀ i, i < 64 → w.cell? ⟨0, i, none⟩ = some (.int .u32 (tv (kst.getD i 0)))
theorem KstAt.later {B : Nat} {w w' : World} (h : KstAt w) (hb : Below B w w') (h0 : 0 < B) : KstAt w' := fun i hi => (hb.cell h0).trans (h i hi)

/-- The machine lies at block b. -/
structure Mc (w : World) (b : Nat) (m : Mach) : Prop where
  pos : 0 < b
  kst : KstAt w
  c0 : w.cell? ⟨b, 0, none⟩ = some (.int .u32 (tv m.v.a))
  c1 : w.cell? ⟨b, 1, none⟩ = some (.int .u32 (tv m.v.b))
  c2 : w.cell? ⟨b, 2, none⟩ = some (.int .u32 (tv m.v.c))
  c3 : w.cell? ⟨b, 3, none⟩ = some (.int .u32 (tv m.v.d))
  c4 : w.cell? ⟨b, 4, none⟩ = some (.int .u32 (tv m.v.e))
  c5 : w.cell? ⟨b, 5, none⟩ = some (.int .u32 (tv m.v.f))
  c6 : w.cell? ⟨b, 6, none⟩ = some (.int .u32 (tv m.v.g))
  c7 : w.cell? ⟨b, 7, none⟩ = some (.int .u32 (tv m.v.h))
  ring : ∀ k, k < 16 → w.cell? ⟨b, 8 + k, none⟩ = some (.int .u32 (tv (m.r.getD k 0)))
  cn : w.cell? ⟨b, 24, none⟩ = some (.int .u64 (m.n : Int))
  fz : ∀ o, w.frozen? ⟨b, o, none⟩ = false
  len : m.r.length = 16
  lt : m.n < 18446744073709551616

theorem Mc.drew {w : World} {b : Nat} {m : Mach} (h : Mc w b m) : Mc w.drew b m := ⟨h.pos, h.kst, h.c0, h.c1, h.c2, h.c3, h.c4, h.c5, h.c6, h.c7, h.ring, h.cn, h.fz, h.len, h.lt⟩

theorem Mc.drewN {w : World} {b : Nat} {m : Mach} (h : Mc w b m) (n : Nat) : Mc (w.drewN n) b m := ⟨h.pos, h.kst, h.c0, h.c1, h.c2, h.c3, h.c4, h.c5, h.c6, h.c7, h.ring, h.cn, h.fz, h.len, h.lt⟩
theorem keepW {w w0 : World} {b : Nat} {m : Mach} {x y z : Addr} {vx vy : Value} (k : Nat) (h : w0.cell? x = some vx ∧ w0.cell? y = some vy ∧ w0.frozen? z = false ∧ Mc w0 b m ∧ Below b w w0) :
    (w0.drewN k).cell? x = some vx ∧ (w0.drewN k).cell? y = some vy ∧ (w0.drewN k).frozen? z = false ∧ Mc (w0.drewN k) b m ∧ Below b w (w0.drewN k) := ⟨h.1, h.2.1, h.2.2.1, h.2.2.2.1.drewN k, below_drewN h.2.2.2.2 k⟩

theorem Mc.setRing {w : World} {b : Nat} {m : Mach} (h : Mc w b m) (k : Nat) (hk : k < 16) (x : UInt32) (r : List UInt32) (hr : r = m.r.set k x) : Mc (w.setCell ⟨b, 8 + k, none⟩ (.int .u32 (tv x))) b ⟨m.v, r, m.n⟩ := by
  have ne : ∀ j, j ≠ 8 + k → (w.setCell ⟨b, 8 + k, none⟩ (.int .u32 (tv x))).cell? ⟨b, j, none⟩ = w.cell? ⟨b, j, none⟩ := fun j hj => by
    have hne : (⟨b, 8 + k, none⟩ : Addr) ≠ ⟨b, j, none⟩ := fun q => hj (by injection q with _ q2; exact q2.symm)
    exact World.cell?_setCell_other _ _ _ _ hne
  subst hr
  refine ⟨h.pos, h.kst.later ((Below.refl b w).setCell (Nat.le_refl _) _) h.pos, ?_, ?_, ?_, ?_, ?_, ?_, ?_, ?_, ?_, ?_, ?_, by simpa using h.len, h.lt⟩
  · rw [ne _ (by omega)]; exact h.c0
  · rw [ne _ (by omega)]; exact h.c1
  · rw [ne _ (by omega)]; exact h.c2
  · rw [ne _ (by omega)]; exact h.c3
  · rw [ne _ (by omega)]; exact h.c4
  · rw [ne _ (by omega)]; exact h.c5
  · rw [ne _ (by omega)]; exact h.c6
  · rw [ne _ (by omega)]; exact h.c7
  · intro j hj
    by_cases e : j = k
    · subst e
      have := h.ring j hj
      simp [go_sem, this, h.len, hj]
    · rw [ne _ (by omega), h.ring j hj]
      congr 3
      simp [List.getD_eq_getElem?_getD, Ne.symm e]
  · rw [ne _ (by omega)]; exact h.cn
  · intro o; simp [h.fz]

theorem wring_lo (r : List UInt32) (i : Nat) (h : i < 16) : wring r i = r := by unfold wring; rw [if_pos h]

set_option maxHeartbeats 1000000 in
theorem word_any (b : Nat) (m : Mach) (i : Nat) (hi : i < 64) (w : World) (hm : Hid (Mc w b m)) :
    Calls Tryd.prog 75 #[.pointer (some ⟨b, 0, none⟩), .int .i64 (i : Int)] w fun e w' => e = .returned (.int .u32 (tv (rat (wring m.r i) i))) ∧ Mc w' b ⟨m.v, wring m.r i, m.n⟩ ∧ Below b w w' := by
  by_cases h16 : i < 16
  · have R := hm.out.ring (i % 16) (Nat.mod_lt _ (by decide))
    have g0 : (0 : Int) ≤ (i : Int) := by omega
    have g1 : (i : Int) < 16 := by omega
    have EW := wring_lo m.r i h16
    go_enter Tryd.func75, Tryd.ntmps75
    go_wp2
    go_ret
    refine ⟨?_, ?_, Below.refl _ _⟩
    · rw [EW]; rfl
    · rw [EW]; exact hm.out
  · obtain ⟨q, hq⟩ : ∃ q, i % 16 = q := ⟨_, rfl⟩
    obtain ⟨p2, hp2⟩ : ∃ q, (i - 2) % 16 = q := ⟨_, rfl⟩
    obtain ⟨p15, hp15⟩ : ∃ q, (i - 15) % 16 = q := ⟨_, rfl⟩
    obtain ⟨p7, hp7⟩ : ∃ q, (i - 7) % 16 = q := ⟨_, rfl⟩
    have hq16 : q < 16 := hq ▸ Nat.mod_lt _ (by decide)
    have R := hm.out.ring q hq16
    have R2 := hm.out.ring p2 (hp2 ▸ Nat.mod_lt _ (by decide))
    have R15 := hm.out.ring p15 (hp15 ▸ Nat.mod_lt _ (by decide))
    have R7 := hm.out.ring p7 (hp7 ▸ Nat.mod_lt _ (by decide))
    have e0 : (i : Int) % 16 = (q : Int) := by omega
    have e2 : ((i : Int) - 2) % 16 = (p2 : Int) := by omega
    have e15 : ((i : Int) - 15) % 16 = (p15 : Int) := by omega
    have e7 : ((i : Int) - 7) % 16 = (p7 : Int) := by omega
    have b0 : (q : Int) < 16 := by omega
    have b2 : (p2 : Int) < 16 := by omega
    have b15 : (p15 : Int) < 16 := by omega
    have b7 : (p7 : Int) < 16 := by omega
    have s2 : (0 : Int) ≤ (i : Int) - 2 := by omega
    have s15 : (0 : Int) ≤ (i : Int) - 15 := by omega
    have s7 : (0 : Int) ≤ (i : Int) - 7 := by omega
    have g1 : (16 : Int) ≤ (i : Int) := by omega
    have g2 : (i : Int) < 64 := by omega
    have FZ := hm.out.fz (8 + q)
    have nq7 : (⟨b, 8 + q, none⟩ : Addr) ≠ ⟨b, 8 + p7, none⟩ := fun h => by injection h with _ h2; omega
    have k7 : IntKind.i64.wrap ((i : Int) - 7) = (i : Int) - 7 := by rw [IntKind.wrap_i64]; omega
    have t7 : ((i : Int) - 7).tmod 16 = (p7 : Int) := by rw [Int.tmod_eq_emod_of_nonneg s7]; exact e7
    obtain ⟨x, hx⟩ : ∃ x, m.r.getD q 0 = x := ⟨_, rfl⟩
    obtain ⟨x2, hx2⟩ : ∃ x, m.r.getD p2 0 = x := ⟨_, rfl⟩
    obtain ⟨x15, hx15⟩ : ∃ x, m.r.getD p15 0 = x := ⟨_, rfl⟩
    obtain ⟨x7, hx7⟩ : ∃ x, m.r.getD p7 0 = x := ⟨_, rfl⟩
    rw [hx] at R
    rw [hx2] at R2
    rw [hx15] at R15
    rw [hx7] at R7
    have EW : Hid (wring m.r i = m.r.set q (x + (spread x15 7 18 3 + x7 + spread x2 17 19 10))) := by
      show _ = _
      unfold wring rat
      rw [if_neg h16, hq, hp2, hp15, hp7, hx, hx2, hx15, hx7]
    have ER : Hid (rat (wring m.r i) i = x + (spread x15 7 18 3 + x7 + spread x2 17 19 10)) := by
      show _ = _
      rw [EW.out]
      unfold rat
      rw [hq]
      simp [hm.out.len, hq16]
    have S15 : Hid (∀ w, Calls Tryd.prog 77 #[.int .u32 (tv x15), .int .i64 7, .int .i64 18, .int .i64 3] w fun e w' => e = .returned (.int .u32 (tv (spread x15 7 18 3))) ∧ ∃ m, w' = w.drewN m) := fun w => spread_any x15 7 18 3 (by omega) (by omega) (by omega) w
    have S2 : Hid (∀ w, Calls Tryd.prog 77 #[.int .u32 (tv x2), .int .i64 17, .int .i64 19, .int .i64 10] w fun e w' => e = .returned (.int .u32 (tv (spread x2 17 19 10))) ∧ ∃ m, w' = w.drewN m) := fun w => spread_any x2 17 19 10 (by omega) (by omega) (by omega) w
    generalize spread x15 7 18 3 = y15 at *
    generalize spread x2 17 19 10 = y2 at *
    have HQ : Hid (q < 16) := hq16
    clear hq hp2 hp15 hp7 hx hx2 hx15 hx7 hi h16 hq16
    go_enter Tryd.func75, Tryd.ntmps75
    go_wp2
    go_quiet (fail)
    go_wp2
    go_region_with (first | (go_at_call 77; revert S15; intro S15; refine Calls.mono (S15.out _) ?_; rintro e w1 ⟨rfl, n1, rfl⟩; clear S15) | (go_at_call 77; refine Calls.mono (S2.out _) ?_; rintro e w2 ⟨rfl, n2, rfl⟩))
    all_goals
      go_wp2
      go_ret
      refine ⟨by rw [ER.out]; rfl, ?_, ?_⟩
      · exact (hm.out.drewN _).setRing q HQ.out _ _ EW.out
      · exact (below_drewN (Below.refl _ _) _).setCell (p := ⟨b, 8 + q, none⟩) (Nat.le_refl _) _
end Go.Proofs.YtdepjiocmbbdpaaDoor
