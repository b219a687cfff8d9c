/- The document's answers: Check, wrong, Sub, Inv, Square. -/
import Derived.Test.YtdebfelgaiofeaaR7
import Derived.Test.YtdebfelgaiofeaaW19
namespace Go.Proofs.Ytdebfelgaiofeaa
open Go.RowKit Go.Proofs.Fd

theorem num32 {s : ByteArray} (hs : s.size = 32) : num s.data.toList < W256 := by
  have q := num_lt s.data.toList
  rw [show s.data.toList.length = 32 by simpa using hs, pow_w256] at q
  exact q

theorem rBytes (c : Nat → Int) (n : Nat) (hc : Hid (dig c (n % p))) (w : World) :
    Calls Try.prog 26 #[.agg #[.int .i64 (c 0), .int .i64 (c 1), .int .i64 (c 2), .int .i64 (c 3), .int .i64 (c 4), .int .i64 (c 5), .int .i64 (c 6), .int .i64 (c 7), .int .i64 (c 8), .int .i64 (c 9)]] w fun e w' => e = .returned (.string (enc (n % p))) ∧ Below w.heap.size w w' :=
  Bytes_any c (n % p) hc (Nat.lt_trans (Nat.mod_lt _ p_pos) p_lt) w

theorem rLess (a b : Nat → Int) (x y : Nat) (ha : Hid (dig a x)) (hb : Hid (dig b y)) (hy : y < p) (w : World) :
    Calls Try.prog 57 #[.agg #[.int .i64 (a 0), .int .i64 (a 1), .int .i64 (a 2), .int .i64 (a 3), .int .i64 (a 4), .int .i64 (a 5), .int .i64 (a 6), .int .i64 (a 7), .int .i64 (a 8), .int .i64 (a 9)], .agg #[.int .i64 (b 0), .int .i64 (b 1), .int .i64 (b 2), .int .i64 (b 3), .int .i64 (b 4), .int .i64 (b 5), .int .i64 (b 6), .int .i64 (b 7), .int .i64 (b 8), .int .i64 (b 9)]] w fun e w' => ∃ c : Nat → Int, e = .returned (.agg #[.int .i64 (c 0), .int .i64 (c 1), .int .i64 (c 2), .int .i64 (c 3), .int .i64 (c 4), .int .i64 (c 5), .int .i64 (c 6), .int .i64 (c 7), .int .i64 (c 8), .int .i64 (c 9)]) ∧ dig c ((x + p - y) % p) ∧ Below w.heap.size w w' := by
  refine Calls.mono (Less_any a b ha.out.1 hb.out.1 (by show _ ≤ _; rw [hb.out.2]; omega) w) ?_
  rintro e w1 ⟨c, rfl, hc, hb1⟩
  exact ⟨c, rfl, dig_less ha.out hb.out (by omega) hc, hb1⟩

end Go.Proofs.Ytdebfelgaiofeaa
