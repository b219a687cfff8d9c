/- The machine takes bytes in. -/
import Derived.Test.YtpnpllklmdjbaaaK3
namespace Go.Proofs.Ytpnpllklmdjbaaa
open Go.RowKit Go.Proofs.Fd Go.Proofs.Hs

theorem push32 (x : UInt32) (c : UInt8) : bits .or .u32 (tv x * 256 % 4294967296) ((c.toNat : Int) % 4294967296) = tv (UInt32.ofNat (x.toNat * 256 + c.toNat)) := by
  have hx := x.toNat_lt
  have hc := c.toNat_lt
  rw [tv_ofNat]
  unfold tv
  have e1 : (x.toNat : Int) * 256 % 4294967296 = ((x.toNat * 256 % 4294967296 : Nat) : Int) := by omega
  have e0 : (c.toNat : Int) % 4294967296 = (c.toNat : Int) := by omega
  rw [e1, e0, (bits_nat .u32 32 (by decide) wr32 _ _ (by omega) (by omega)).2]
  have := Nat.shiftLeft_add_eq_or_of_lt (show c.toNat < 2 ^ 8 from hc) (x.toNat % 2 ^ 24)
  rw [Nat.shiftLeft_eq] at this
  have e2 : x.toNat * 256 % 4294967296 = x.toNat % 2 ^ 24 * 2 ^ 8 := by omega
  rw [e2, ← this]
  omega

theorem Mc.setN {w : World} {b : Nat} {m : Mach} (h : Mc w b m) (n : Nat) (hn : n < 18446744073709551616) : Mc (w.setCell ⟨b, 24, none⟩ (.int .u64 (n : Int))) b ⟨m.v, m.r, n⟩ := by
  have ne := ne_off w b 24 (.int .u64 (n : Int))
  refine ⟨h.pos, h.kst.later ((Below.refl b w).setCell (Nat.le_refl _) _) h.pos, (ne 0 (by decide)).trans h.c0, (ne 1 (by decide)).trans h.c1, (ne 2 (by decide)).trans h.c2, (ne 3 (by decide)).trans h.c3, (ne 4 (by decide)).trans h.c4, (ne 5 (by decide)).trans h.c5, (ne 6 (by decide)).trans h.c6, (ne 7 (by decide)).trans h.c7, fun j hj => (ne (8 + j) (by omega)).trans (h.ring j hj), by have := h.cn; simp [go_sem, this], fun o => by simp [h.fz], h.len, hn⟩

/-- Bytes taken in, one by one. -/
theorem text_snoc (m : Mach) (s : List UInt8) (k : Nat) (hk : k < s.length) : m.text (s.take (k + 1)) = (m.text (s.take k)).put s[k] := by
  unfold Mach.text
  rw [List.take_succ_eq_append_getElem hk, List.foldl_append]
  rfl

end Go.Proofs.Ytpnpllklmdjbaaa
