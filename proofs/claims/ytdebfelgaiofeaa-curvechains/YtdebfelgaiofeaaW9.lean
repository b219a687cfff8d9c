/- What word of package field does. -/
import Derived.Test.YtdebfelgaiofeaaW3
import Derived.Test.YtdebfelgaiofeaaMA
import Derived.Deep.QuietTactic
import Derived.BigQuiet
namespace Go.Proofs.Ytdebfelgaiofeaa
open Go.RowKit Go.Proofs.Fd

theorem or_step (x b k c : Nat) (C : Int) (hC : C = (c : Int)) (hc : c = 2 ^ k) (hx : x < c) (hb : b < 256) (hlt : c * 256 ≤ 18446744073709551616) :
    bits .or .u64 (x : Int) (IntKind.u64.wrap (IntKind.u64.wrap (b : Int) * C)) = ((x + c * b : Nat) : Int) := by
  have h1 : c * b < 18446744073709551616 := by
    have : c * b ≤ c * 255 := Nat.mul_le_mul_left c (by omega)
    omega
  have w1 : IntKind.u64.wrap (b : Int) = (b : Int) := by rw [IntKind.wrap_u64]; omega
  have w2 : IntKind.u64.wrap ((b : Int) * C) = ((c * b : Nat) : Int) := by
    rw [hC, IntKind.wrap_u64, ← Int.natCast_mul, Nat.mul_comm b c]; omega
  rw [w1, w2, bits_or_u64_nat _ _ (by omega) h1]
  have := Nat.two_pow_add_eq_or_of_lt (i := k) (b := x) (by omega) b
  rw [← hc] at this
  rw [Nat.or_comm, ← this, Nat.add_comm]

theorem wrap_byte (b : UInt8) : IntKind.u64.wrap (b.toNat : Int) = (b.toNat : Int) := by
  have := b.toNat_lt
  rw [IntKind.wrap_u64]; omega

theorem word_bits (s : ByteArray) (hs : s.size = 8) :
    bits .or .u64 (bits .or .u64 (bits .or .u64 (bits .or .u64 (bits .or .u64 (bits .or .u64 (bits .or .u64 (IntKind.u64.wrap (s[0].toNat : Int))
      (IntKind.u64.wrap (IntKind.u64.wrap (s[1].toNat : Int) * 256))) (IntKind.u64.wrap (IntKind.u64.wrap (s[2].toNat : Int) * 65536))) (IntKind.u64.wrap (IntKind.u64.wrap (s[3].toNat : Int) * 16777216)))
      (IntKind.u64.wrap (IntKind.u64.wrap (s[4].toNat : Int) * 4294967296))) (IntKind.u64.wrap (IntKind.u64.wrap (s[5].toNat : Int) * 1099511627776)))
      (IntKind.u64.wrap (IntKind.u64.wrap (s[6].toNat : Int) * 281474976710656))) (IntKind.u64.wrap (IntKind.u64.wrap (s[7].toNat : Int) * 72057594037927936)) = ((num s.data.toList : Nat) : Int) := by
  obtain ⟨⟨l⟩⟩ := s
  match l, hs with
  | [x0, x1, x2, x3, x4, x5, x6, x7], hs =>
    have b0 := x0.toNat_lt; have b1 := x1.toNat_lt; have b2 := x2.toNat_lt; have b3 := x3.toNat_lt
    have b4 := x4.toNat_lt; have b5 := x5.toNat_lt; have b6 := x6.toNat_lt; have b7 := x7.toNat_lt
    show bits .or .u64 (bits .or .u64 (bits .or .u64 (bits .or .u64 (bits .or .u64 (bits .or .u64 (bits .or .u64 (IntKind.u64.wrap (x0.toNat : Int))
      (IntKind.u64.wrap (IntKind.u64.wrap (x1.toNat : Int) * 256))) (IntKind.u64.wrap (IntKind.u64.wrap (x2.toNat : Int) * 65536))) (IntKind.u64.wrap (IntKind.u64.wrap (x3.toNat : Int) * 16777216)))
      (IntKind.u64.wrap (IntKind.u64.wrap (x4.toNat : Int) * 4294967296))) (IntKind.u64.wrap (IntKind.u64.wrap (x5.toNat : Int) * 1099511627776)))
      (IntKind.u64.wrap (IntKind.u64.wrap (x6.toNat : Int) * 281474976710656))) (IntKind.u64.wrap (IntKind.u64.wrap (x7.toNat : Int) * 72057594037927936)) = ((num [x0, x1, x2, x3, x4, x5, x6, x7] : Nat) : Int)
    rw [wrap_byte, or_step _ _ 8 256 256 rfl rfl (by omega) (by omega) (by omega), or_step _ _ 16 65536 65536 rfl rfl (by omega) (by omega) (by omega),
      or_step _ _ 24 16777216 16777216 rfl rfl (by omega) (by omega) (by omega), or_step _ _ 32 4294967296 4294967296 rfl rfl (by omega) (by omega) (by omega),
      or_step _ _ 40 1099511627776 1099511627776 rfl rfl (by omega) (by omega) (by omega), or_step _ _ 48 281474976710656 281474976710656 rfl rfl (by omega) (by omega) (by omega),
      or_step _ _ 56 72057594037927936 72057594037927936 rfl rfl (by omega) (by omega) (by omega), num_eight]

theorem ret_u64 {a b : Int} (h : a = b) : Ending.returned (.int .u64 a) = .returned (.int .u64 b) := by rw [h]

set_option maxHeartbeats 1000000 in
theorem word_any (s : ByteArray) (hs : s.size = 8) (w : World) :
    Calls Try.prog 47 #[.string s] w fun e w' => e = .returned (.int .u64 ((num s.data.toList : Nat) : Int)) ∧ (∃ n, w' = w.drewN n) := by
  have H : Hid (_ = _) := word_bits s hs
  go_enter Try.func47, Try.ntmps47
  go_wp2
  go_quiet (fail)
  go_wp2
  go_ret
  exact ⟨ret_u64 H.out, _, rfl⟩

end Go.Proofs.Ytdebfelgaiofeaa
