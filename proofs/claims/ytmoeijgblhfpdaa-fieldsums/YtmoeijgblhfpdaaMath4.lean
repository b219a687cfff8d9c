/- Thirty-two bytes of four words. -/
import Derived.Test.YtmoeijgblhfpdaaMath2
namespace Go.Proofs.Fd

/-- The eight bytes of a word. -/
def b8 (a : Nat) : List UInt8 :=
  [UInt8.ofNat (a % 256), UInt8.ofNat (a / 256 % 256), UInt8.ofNat (a / 65536 % 256), UInt8.ofNat (a / 16777216 % 256),
   UInt8.ofNat (a / 4294967296 % 256), UInt8.ofNat (a / 1099511627776 % 256), UInt8.ofNat (a / 281474976710656 % 256), UInt8.ofNat (a / 72057594037927936 % 256)]

theorem b8_byts (a : Nat) : b8 a = byts 8 a := by
  simp only [b8, byts, Nat.div_div_eq_div_mul, Nat.reduceMul]

theorem byts32 (a0 a1 a2 a3 : Nat) (h : u4 a0 a1 a2 a3) : byts 32 (v4 a0 a1 a2 a3) = b8 a0 ++ (b8 a1 ++ (b8 a2 ++ b8 a3)) := by
  obtain ⟨h0, h1, h2, h3⟩ := h
  have e : (256 : Nat) ^ 8 = 18446744073709551616 := by decide
  have s0 := byts_append 8 24 (v4 a0 a1 a2 a3)
  have s1 := byts_append 8 16 (v4 a0 a1 a2 a3 / 256 ^ 8)
  have s2 := byts_append 8 8 (v4 a0 a1 a2 a3 / 256 ^ 8 / 256 ^ 8)
  rw [e] at s0 s1 s2
  have d1 : v4 a0 a1 a2 a3 / 18446744073709551616 = a1 + 18446744073709551616 * (a2 + 18446744073709551616 * a3) := by unfold v4; omega
  have d2 : v4 a0 a1 a2 a3 / 18446744073709551616 / 18446744073709551616 = a2 + 18446744073709551616 * a3 := by rw [d1]; omega
  have d3 : v4 a0 a1 a2 a3 / 18446744073709551616 / 18446744073709551616 / 18446744073709551616 = a3 := by rw [d2]; omega
  have m0 : v4 a0 a1 a2 a3 % 18446744073709551616 = a0 := by unfold v4; omega
  have m1 : v4 a0 a1 a2 a3 / 18446744073709551616 % 18446744073709551616 = a1 := by rw [d1]; omega
  have m2 : v4 a0 a1 a2 a3 / 18446744073709551616 / 18446744073709551616 % 18446744073709551616 = a2 := by rw [d2]; omega
  rw [m0] at s0
  rw [m1] at s1
  rw [m2, d3] at s2
  simp only [b8_byts]
  rw [s2, s1, s0]

theorem b8_length (a : Nat) : (b8 a).length = 8 := rfl

end Go.Proofs.Fd
