/- The machine's words. -/
import Derived.Test.YtpnpllklmdjbaaaK1
namespace Go.Proofs.Ytpnpllklmdjbaaa
open Go.RowKit Go.Proofs.Fd Go.Proofs.Hs
attribute [local go_sem] and32 or32 xor32 add32 add32'

/-- The table lies there. -/
def KstAt (w : World) : Prop := ∀ i, i < 64 → w.cell? ⟨0, i, none⟩ = some (.int .u32 (tv (kst.getD i 0)))
theorem KstAt.later {B : Nat} {w w' : World} (h : KstAt w) (hb : Below B w w') (h0 : 0 < B) : KstAt w' := fun i hi => (hb.cell h0).trans (h i hi)

/-- The machine lies at block b. -/
structure Mc (w : World) (b : Nat) (m : Mach) : Prop where
  pos : 0 < b
  kst : KstAt w
  c0 : w.cell? ⟨b, 0, none⟩ = some (.int .u32 (tv m.v.a))
  c1 : w.cell? ⟨b, 1, none⟩ = some (.int .u32 (tv m.v.b))
  c2 : w.cell? ⟨b, 2, none⟩ = some (.int .u32 (tv m.v.c))
  c3 : w.cell? ⟨b, 3, none⟩ = some (.int .u32 (tv m.v.d))
  c4 : w.cell? ⟨b, 4, none⟩ = some (.int .u32 (tv m.v.e))
  c5 : w.cell? ⟨b, 5, none⟩ = some (.int .u32 (tv m.v.f))
  c6 : w.cell? ⟨b, 6, none⟩ = some (.int .u32 (tv m.v.g))
  c7 : w.cell? ⟨b, 7, none⟩ = some (.int .u32 (tv m.v.h))
  ring : ∀ k, k < 16 → w.cell? ⟨b, 8 + k, none⟩ = some (.int .u32 (tv (m.r.getD k 0)))
  cn : w.cell? ⟨b, 24, none⟩ = some (.int .u64 (m.n : Int))
  fz : ∀ o, w.frozen? ⟨b, o, none⟩ = false
  len : m.r.length = 16
  lt : m.n < 18446744073709551616

theorem Mc.drew {w : World} {b : Nat} {m : Mach} (h : Mc w b m) : Mc w.drew b m := ⟨h.pos, h.kst, h.c0, h.c1, h.c2, h.c3, h.c4, h.c5, h.c6, h.c7, h.ring, h.cn, h.fz, h.len, h.lt⟩

theorem Mc.drewN {w : World} {b : Nat} {m : Mach} (h : Mc w b m) (n : Nat) : Mc (w.drewN n) b m := ⟨h.pos, h.kst, h.c0, h.c1, h.c2, h.c3, h.c4, h.c5, h.c6, h.c7, h.ring, h.cn, h.fz, h.len, h.lt⟩
theorem keepW {w w0 : World} {b : Nat} {m : Mach} {x y z : Addr} {vx vy : Value} (k : Nat) (h : w0.cell? x = some vx ∧ w0.cell? y = some vy ∧ w0.frozen? z = false ∧ Mc w0 b m ∧ Below b w w0) :
    (w0.drewN k).cell? x = some vx ∧ (w0.drewN k).cell? y = some vy ∧ (w0.drewN k).frozen? z = false ∧ Mc (w0.drewN k) b m ∧ Below b w (w0.drewN k) := ⟨h.1, h.2.1, h.2.2.1, h.2.2.2.1.drewN k, below_drewN h.2.2.2.2 k⟩

theorem Mc.setRing {w : World} {b : Nat} {m : Mach} (h : Mc w b m) (k : Nat) (hk : k < 16) (x : UInt32) (r : List UInt32) (hr : r = m.r.set k x) : Mc (w.setCell ⟨b, 8 + k, none⟩ (.int .u32 (tv x))) b ⟨m.v, r, m.n⟩ := by
  have ne : ∀ j, j ≠ 8 + k → (w.setCell ⟨b, 8 + k, none⟩ (.int .u32 (tv x))).cell? ⟨b, j, none⟩ = w.cell? ⟨b, j, none⟩ := fun j hj => by
    have hne : (⟨b, 8 + k, none⟩ : Addr) ≠ ⟨b, j, none⟩ := fun q => hj (by injection q with _ q2; exact q2.symm)
    exact World.cell?_setCell_other _ _ _ _ hne
  subst hr
  refine ⟨h.pos, h.kst.later ((Below.refl b w).setCell (Nat.le_refl _) _) h.pos, ?_, ?_, ?_, ?_, ?_, ?_, ?_, ?_, ?_, ?_, ?_, by simpa using h.len, h.lt⟩
  · rw [ne _ (by omega)]; exact h.c0
  · rw [ne _ (by omega)]; exact h.c1
  · rw [ne _ (by omega)]; exact h.c2
  · rw [ne _ (by omega)]; exact h.c3
  · rw [ne _ (by omega)]; exact h.c4
  · rw [ne _ (by omega)]; exact h.c5
  · rw [ne _ (by omega)]; exact h.c6
  · rw [ne _ (by omega)]; exact h.c7
  · intro j hj
    by_cases e : j = k
    · subst e
      have := h.ring j hj
      simp [go_sem, this, h.len, hj]
    · rw [ne _ (by omega), h.ring j hj]
      congr 3
      simp [List.getD_eq_getElem?_getD, Ne.symm e]
  · rw [ne _ (by omega)]; exact h.cn
  · intro o; simp [h.fz]

theorem wring_lo (r : List UInt32) (i : Nat) (h : i < 16) : wring r i = r := by unfold wring; rw [if_pos h]

end Go.Proofs.Ytpnpllklmdjbaaa
