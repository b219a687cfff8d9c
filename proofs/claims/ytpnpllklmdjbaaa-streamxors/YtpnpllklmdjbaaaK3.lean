/- The machine takes a whole block in. -/
import Derived.Test.YtpnpllklmdjbaaaK2
namespace Go.Proofs.Ytpnpllklmdjbaaa
open Go.RowKit Go.Proofs.Fd Go.Proofs.Hs
theorem not32 (x : UInt32) : bits .xor .u32 IntKind.u32.max (tv x) = tv (~~~x) := by
  have e : IntKind.u32.max = tv 4294967295 := by decide
  rw [e, xor32]
  congr 1

/-- The first k of eight words made greater. -/
def plusN (v x : V8) (k : Nat) : V8 := ⟨if 0 < k then v.a + x.a else v.a, if 1 < k then v.b + x.b else v.b, if 2 < k then v.c + x.c else v.c, if 3 < k then v.d + x.d else v.d, if 4 < k then v.e + x.e else v.e, if 5 < k then v.f + x.f else v.f, if 6 < k then v.g + x.g else v.g, if 7 < k then v.h + x.h else v.h⟩

theorem ne_off (w : World) (b k : Nat) (x : Value) : ∀ j, j ≠ k → (w.setCell ⟨b, k, none⟩ x).cell? ⟨b, j, none⟩ = w.cell? ⟨b, j, none⟩ := fun j hj => by
  have hne : (⟨b, k, none⟩ : Addr) ≠ ⟨b, j, none⟩ := fun q => hj (by injection q with _ q2; exact q2.symm)
  exact World.cell?_setCell_other _ _ _ _ hne

theorem Mc.set0 {w : World} {b : Nat} {m : Mach} (h : Mc w b m) (x : UInt32) : Mc (w.setCell ⟨b, 0, none⟩ (.int .u32 (tv x))) b ⟨{ m.v with a := x }, m.r, m.n⟩ := by
  have ne := ne_off w b 0 (.int .u32 (tv x))
  refine ⟨h.pos, h.kst.later ((Below.refl b w).setCell (Nat.le_refl _) _) h.pos, by have := h.c0; simp [go_sem, this], (ne 1 (by decide)).trans h.c1, (ne 2 (by decide)).trans h.c2, (ne 3 (by decide)).trans h.c3, (ne 4 (by decide)).trans h.c4, (ne 5 (by decide)).trans h.c5, (ne 6 (by decide)).trans h.c6, (ne 7 (by decide)).trans h.c7, fun j hj => (ne (8 + j) (by omega)).trans (h.ring j hj), (ne 24 (by decide)).trans h.cn, fun o => by simp [h.fz], h.len, h.lt⟩
theorem Mc.set1 {w : World} {b : Nat} {m : Mach} (h : Mc w b m) (x : UInt32) : Mc (w.setCell ⟨b, 1, none⟩ (.int .u32 (tv x))) b ⟨{ m.v with b := x }, m.r, m.n⟩ := by
  have ne := ne_off w b 1 (.int .u32 (tv x))
  refine ⟨h.pos, h.kst.later ((Below.refl b w).setCell (Nat.le_refl _) _) h.pos, (ne 0 (by decide)).trans h.c0, by have := h.c1; simp [go_sem, this], (ne 2 (by decide)).trans h.c2, (ne 3 (by decide)).trans h.c3, (ne 4 (by decide)).trans h.c4, (ne 5 (by decide)).trans h.c5, (ne 6 (by decide)).trans h.c6, (ne 7 (by decide)).trans h.c7, fun j hj => (ne (8 + j) (by omega)).trans (h.ring j hj), (ne 24 (by decide)).trans h.cn, fun o => by simp [h.fz], h.len, h.lt⟩
theorem Mc.set2 {w : World} {b : Nat} {m : Mach} (h : Mc w b m) (x : UInt32) : Mc (w.setCell ⟨b, 2, none⟩ (.int .u32 (tv x))) b ⟨{ m.v with c := x }, m.r, m.n⟩ := by
  have ne := ne_off w b 2 (.int .u32 (tv x))
  refine ⟨h.pos, h.kst.later ((Below.refl b w).setCell (Nat.le_refl _) _) h.pos, (ne 0 (by decide)).trans h.c0, (ne 1 (by decide)).trans h.c1, by have := h.c2; simp [go_sem, this], (ne 3 (by decide)).trans h.c3, (ne 4 (by decide)).trans h.c4, (ne 5 (by decide)).trans h.c5, (ne 6 (by decide)).trans h.c6, (ne 7 (by decide)).trans h.c7, fun j hj => (ne (8 + j) (by omega)).trans (h.ring j hj), (ne 24 (by decide)).trans h.cn, fun o => by simp [h.fz], h.len, h.lt⟩
theorem Mc.set3 {w : World} {b : Nat} {m : Mach} (h : Mc w b m) (x : UInt32) : Mc (w.setCell ⟨b, 3, none⟩ (.int .u32 (tv x))) b ⟨{ m.v with d := x }, m.r, m.n⟩ := by
  have ne := ne_off w b 3 (.int .u32 (tv x))
  refine ⟨h.pos, h.kst.later ((Below.refl b w).setCell (Nat.le_refl _) _) h.pos, (ne 0 (by decide)).trans h.c0, (ne 1 (by decide)).trans h.c1, (ne 2 (by decide)).trans h.c2, by have := h.c3; simp [go_sem, this], (ne 4 (by decide)).trans h.c4, (ne 5 (by decide)).trans h.c5, (ne 6 (by decide)).trans h.c6, (ne 7 (by decide)).trans h.c7, fun j hj => (ne (8 + j) (by omega)).trans (h.ring j hj), (ne 24 (by decide)).trans h.cn, fun o => by simp [h.fz], h.len, h.lt⟩
theorem Mc.set4 {w : World} {b : Nat} {m : Mach} (h : Mc w b m) (x : UInt32) : Mc (w.setCell ⟨b, 4, none⟩ (.int .u32 (tv x))) b ⟨{ m.v with e := x }, m.r, m.n⟩ := by
  have ne := ne_off w b 4 (.int .u32 (tv x))
  refine ⟨h.pos, h.kst.later ((Below.refl b w).setCell (Nat.le_refl _) _) h.pos, (ne 0 (by decide)).trans h.c0, (ne 1 (by decide)).trans h.c1, (ne 2 (by decide)).trans h.c2, (ne 3 (by decide)).trans h.c3, by have := h.c4; simp [go_sem, this], (ne 5 (by decide)).trans h.c5, (ne 6 (by decide)).trans h.c6, (ne 7 (by decide)).trans h.c7, fun j hj => (ne (8 + j) (by omega)).trans (h.ring j hj), (ne 24 (by decide)).trans h.cn, fun o => by simp [h.fz], h.len, h.lt⟩
theorem Mc.set5 {w : World} {b : Nat} {m : Mach} (h : Mc w b m) (x : UInt32) : Mc (w.setCell ⟨b, 5, none⟩ (.int .u32 (tv x))) b ⟨{ m.v with f := x }, m.r, m.n⟩ := by
  have ne := ne_off w b 5 (.int .u32 (tv x))
  refine ⟨h.pos, h.kst.later ((Below.refl b w).setCell (Nat.le_refl _) _) h.pos, (ne 0 (by decide)).trans h.c0, (ne 1 (by decide)).trans h.c1, (ne 2 (by decide)).trans h.c2, (ne 3 (by decide)).trans h.c3, (ne 4 (by decide)).trans h.c4, by have := h.c5; simp [go_sem, this], (ne 6 (by decide)).trans h.c6, (ne 7 (by decide)).trans h.c7, fun j hj => (ne (8 + j) (by omega)).trans (h.ring j hj), (ne 24 (by decide)).trans h.cn, fun o => by simp [h.fz], h.len, h.lt⟩
theorem Mc.set6 {w : World} {b : Nat} {m : Mach} (h : Mc w b m) (x : UInt32) : Mc (w.setCell ⟨b, 6, none⟩ (.int .u32 (tv x))) b ⟨{ m.v with g := x }, m.r, m.n⟩ := by
  have ne := ne_off w b 6 (.int .u32 (tv x))
  refine ⟨h.pos, h.kst.later ((Below.refl b w).setCell (Nat.le_refl _) _) h.pos, (ne 0 (by decide)).trans h.c0, (ne 1 (by decide)).trans h.c1, (ne 2 (by decide)).trans h.c2, (ne 3 (by decide)).trans h.c3, (ne 4 (by decide)).trans h.c4, (ne 5 (by decide)).trans h.c5, by have := h.c6; simp [go_sem, this], (ne 7 (by decide)).trans h.c7, fun j hj => (ne (8 + j) (by omega)).trans (h.ring j hj), (ne 24 (by decide)).trans h.cn, fun o => by simp [h.fz], h.len, h.lt⟩
theorem Mc.set7 {w : World} {b : Nat} {m : Mach} (h : Mc w b m) (x : UInt32) : Mc (w.setCell ⟨b, 7, none⟩ (.int .u32 (tv x))) b ⟨{ m.v with h := x }, m.r, m.n⟩ := by
  have ne := ne_off w b 7 (.int .u32 (tv x))
  refine ⟨h.pos, h.kst.later ((Below.refl b w).setCell (Nat.le_refl _) _) h.pos, (ne 0 (by decide)).trans h.c0, (ne 1 (by decide)).trans h.c1, (ne 2 (by decide)).trans h.c2, (ne 3 (by decide)).trans h.c3, (ne 4 (by decide)).trans h.c4, (ne 5 (by decide)).trans h.c5, (ne 6 (by decide)).trans h.c6, by have := h.c7; simp [go_sem, this], fun j hj => (ne (8 + j) (by omega)).trans (h.ring j hj), (ne 24 (by decide)).trans h.cn, fun o => by simp [h.fz], h.len, h.lt⟩

attribute [local go_sem] not32 and32 or32 xor32 add32 add32'

end Go.Proofs.Ytpnpllklmdjbaaa
