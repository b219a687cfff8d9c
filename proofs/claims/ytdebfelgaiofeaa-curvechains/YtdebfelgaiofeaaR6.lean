/- The document's powers. -/
import Derived.Test.YtdebfelgaiofeaaR5
import Derived.Test.YtdebfelgaiofeaaW8
namespace Go.Proofs.Ytdebfelgaiofeaa
open Go.RowKit Go.Proofs.Fd

/-- Ten digits of the number n. -/
def dig (c : Nat → Int) (n : Nat) : Prop := can c ∧ vN 10 c = (n : Int)

theorem dig_times {a b c : Nat → Int} {x y : Nat} (ha : dig a x) (hb : dig b y) (h : can c ∧ vN 10 c = (vN 10 a * vN 10 b) % (p : Int)) : dig c (x * y % p) := by
  refine ⟨h.1, ?_⟩
  rw [h.2, ha.2, hb.2, ← Int.natCast_mul, ← Int.natCast_emod]

theorem dig_plus {a b c : Nat → Int} {x y : Nat} (ha : dig a x) (hb : dig b y) (h : can c ∧ vN 10 c = (vN 10 a + vN 10 b) % (p : Int)) : dig c ((x + y) % p) := by
  refine ⟨h.1, ?_⟩
  rw [h.2, ha.2, hb.2, ← Int.natCast_add, ← Int.natCast_emod]

theorem dig_less {a b c : Nat → Int} {x y : Nat} (ha : dig a x) (hb : dig b y) (hy : y ≤ p) (h : can c ∧ vN 10 c = (vN 10 a + (p : Int) - vN 10 b) % (p : Int)) : dig c ((x + p - y) % p) := by
  refine ⟨h.1, ?_⟩
  rw [h.2, ha.2, hb.2, show (x : Int) + (p : Int) - (y : Int) = ((x + p - y : Nat) : Int) by omega, ← Int.natCast_emod]

/-- The digits of 1. -/
def od1 (j : Nat) : Int := if j = 0 then 1 else 0
theorem od1_dig : dig od1 1 := by
  refine ⟨fun j hj => ?_, by decide⟩
  unfold od1; split <;> omega

set_option maxHeartbeats 1000000 in
theorem One_any (w : World) : Calls Try.prog 42 #[] w fun e w' => e = .returned (.agg #[.int .i64 (od1 0), .int .i64 (od1 1), .int .i64 (od1 2), .int .i64 (od1 3), .int .i64 (od1 4), .int .i64 (od1 5), .int .i64 (od1 6), .int .i64 (od1 7), .int .i64 (od1 8), .int .i64 (od1 9)]) ∧ Below w.heap.size w w' := by
  go_enter Try.func42, Try.ntmps42
  go_wp2
  refine bodyPost_ret (v := .agg #[.int .i64 (od1 0), .int .i64 (od1 1), .int .i64 (od1 2), .int .i64 (od1 3), .int .i64 (od1 4), .int .i64 (od1 5), .int .i64 (od1 6), .int .i64 (od1 7), .int .i64 (od1 8), .int .i64 (od1 9)]) (by simp [results, Try.results42, go_sem, od1]) rfl ⟨rfl, ?_⟩
  repeat (first | refine Below.setCell ?_ (by simp; try omega) _ | refine Below.drew ?_ | refine Below.alloc ?_ (by simp; try omega) _ | exact Below.refl _ _)

theorem rTimes (a b : Nat → Int) (x y : Nat) (ha : Hid (dig a x)) (hb : Hid (dig b y)) (w : World) :
    Calls Try.prog 41 #[.agg #[.int .i64 (a 0), .int .i64 (a 1), .int .i64 (a 2), .int .i64 (a 3), .int .i64 (a 4), .int .i64 (a 5), .int .i64 (a 6), .int .i64 (a 7), .int .i64 (a 8), .int .i64 (a 9)], .agg #[.int .i64 (b 0), .int .i64 (b 1), .int .i64 (b 2), .int .i64 (b 3), .int .i64 (b 4), .int .i64 (b 5), .int .i64 (b 6), .int .i64 (b 7), .int .i64 (b 8), .int .i64 (b 9)]] w fun e w' => ∃ c : Nat → Int, e = .returned (.agg #[.int .i64 (c 0), .int .i64 (c 1), .int .i64 (c 2), .int .i64 (c 3), .int .i64 (c 4), .int .i64 (c 5), .int .i64 (c 6), .int .i64 (c 7), .int .i64 (c 8), .int .i64 (c 9)]) ∧ dig c (x * y % p) ∧ Below w.heap.size w w' := by
  refine Calls.mono (Times_any a b ha.out.1 hb.out.1 w) ?_
  rintro e w1 ⟨c, rfl, hc, hb1⟩
  exact ⟨c, rfl, dig_times ha.out hb.out hc, hb1⟩

set_option maxRecDepth 100000 in
set_option maxHeartbeats 8000000 in
theorem Inverse_any (a : Nat → Int) (x : Nat) (ha : Hid (dig a x)) (w : World) :
    Calls Try.prog 44 #[.agg #[.int .i64 (a 0), .int .i64 (a 1), .int .i64 (a 2), .int .i64 (a 3), .int .i64 (a 4), .int .i64 (a 5), .int .i64 (a 6), .int .i64 (a 7), .int .i64 (a 8), .int .i64 (a 9)]] w fun e w' => ∃ c : Nat → Int, e = .returned (.agg #[.int .i64 (c 0), .int .i64 (c 1), .int .i64 (c 2), .int .i64 (c 3), .int .i64 (c 4), .int .i64 (c 5), .int .i64 (c 6), .int .i64 (c 7), .int .i64 (c 8), .int .i64 (c 9)]) ∧ dig c (x ^ (p - 2) % p) ∧ Below w.heap.size w w' := by
  go_enter Try.func44, Try.ntmps44
  go_wp2_with fail
  refine Calls.mono (One_any _) ?_
  rintro e w4 ⟨rfl, hb4⟩
  have M : Hid (RowAt w4 w.heap.size 10 a ∧ RowAt w4 (w.heap.size + 1) 10 (fun _ => 0) ∧ Below w.heap.size w w4) := by
    have r1 := (row_new w a 42).later (by omega) (below_alloc _ (.cells #[.int .i64 0, .int .i64 0, .int .i64 0, .int .i64 0, .int .i64 0, .int .i64 0, .int .i64 0, .int .i64 0, .int .i64 0, .int .i64 0] 42))
    have r2 := row_zero (w.alloc (.cells #[.int .i64 (a 0), .int .i64 (a 1), .int .i64 (a 2), .int .i64 (a 3), .int .i64 (a 4), .int .i64 (a 5), .int .i64 (a 6), .int .i64 (a 7), .int .i64 (a 8), .int .i64 (a 9)] 42)) 42
    refine ⟨r1.later (by omega) hb4, ?_, chain ((below_alloc _ _).alloc (by simp) _) hb4⟩
    have := r2.later (by omega) hb4; simpa using this
  clear hb4
  have hne : Hid (w.heap.size < w4.heap.size ∧ w.heap.size + 1 < w4.heap.size) := ⟨World.block_lt_of_cell? _ _ (M.out.1.2 0 (by omega)), World.block_lt_of_cell? _ _ (M.out.2.1.2 0 (by omega))⟩
  go_wp2
  go_loopw [4] (fun s wr => ∃ (n : Nat) (y : Int) (f : Nat → Int), s = .int .i64 y ∧ Hid (y = 254 - (n : Int)) ∧ -1 ≤ y ∧ y ≤ 254 ∧ Hid (RowAt wr w.heap.size 10 a ∧ RowAt wr (w.heap.size + 1) 10 (fun _ => 0) ∧ RowAt wr w4.heap.size 10 f ∧ dig f (x ^ ex n % p) ∧ Below w.heap.size w wr)) (fun s _ => (intOf s + 1).toNat)
  case atStart =>
    have ba : Below w4.heap.size w4 (w4.alloc (.cells #[.int .i64 (od1 0), .int .i64 (od1 1), .int .i64 (od1 2), .int .i64 (od1 3), .int .i64 (od1 4), .int .i64 (od1 5), .int .i64 (od1 6), .int .i64 (od1 7), .int .i64 (od1 8), .int .i64 (od1 9)] 42)) := below_alloc _ _
    refine ⟨0, 254, od1, rfl, rfl, by omega, by omega, M.out.1.later (by omega) ba, M.out.2.1.later (by omega) ba, row_new w4 od1 42, ?_, chain M.out.2.2 ba⟩
    rw [show x ^ ex 0 % p = 1 by (show x ^ 0 % p = 1); rw [Nat.pow_zero]; decide]; exact od1_dig
  case round =>
    obtain ⟨n, y, f, rfl, hy, lo, hi, I⟩ := hrel
    have c0 := I.out.2.2.1.2 0 (by omega); have c1 := I.out.2.2.1.2 1 (by omega); have c2 := I.out.2.2.1.2 2 (by omega); have c3 := I.out.2.2.1.2 3 (by omega); have c4 := I.out.2.2.1.2 4 (by omega); have c5 := I.out.2.2.1.2 5 (by omega); have c6 := I.out.2.2.1.2 6 (by omega); have c7 := I.out.2.2.1.2 7 (by omega); have c8 := I.out.2.2.1.2 8 (by omega); have c9 := I.out.2.2.1.2 9 (by omega)
    by_cases hlt : y < 0
    · have hg : ¬ (0 : Int) ≤ y := by omega
      have hn : Hid (n = 255) := by have := hy.out; show n = 255; omega
      have r0 := I.out.2.1.2 0 (by omega); have r1 := I.out.2.1.2 1 (by omega); have r2 := I.out.2.1.2 2 (by omega); have r3 := I.out.2.1.2 3 (by omega); have r4 := I.out.2.1.2 4 (by omega); have r5 := I.out.2.1.2 5 (by omega); have r6 := I.out.2.1.2 6 (by omega); have r7 := I.out.2.1.2 7 (by omega); have r8 := I.out.2.1.2 8 (by omega); have r9 := I.out.2.1.2 9 (by omega)
      have rf := I.out.2.1.1
      go_wp2
      refine bodyPost_ret (v := .agg #[.int .i64 (f 0), .int .i64 (f 1), .int .i64 (f 2), .int .i64 (f 3), .int .i64 (f 4), .int .i64 (f 5), .int .i64 (f 6), .int .i64 (f 7), .int .i64 (f 8), .int .i64 (f 9)]) (by simp [results, Try.results44, go_sem, *]) rfl ⟨f, rfl, ?_, ?_⟩
      · have := I.out.2.2.2.1; rw [hn.out, ex_all] at this; exact this
      · exact below_put10 I.out.2.2.2.2 (by omega) f
    · have hg : (0 : Int) ≤ y := by omega
      clear lo hlt
      go_wp2_with fail
      refine Calls.mono (rTimes f f _ _ I.out.2.2.2.1 I.out.2.2.2.1 _) ?_
      rintro e w1 ⟨h, rfl, dh, hb1⟩
      have J : Hid (RowAt w1 w.heap.size 10 a ∧ RowAt w1 (w.heap.size + 1) 10 (fun _ => 0) ∧ RowAt w1 w4.heap.size 10 f ∧ dig h (x ^ (2 * ex n) % p) ∧ Below w.heap.size w w1) :=
        ⟨I.out.1.later (by omega) hb1, I.out.2.1.later (by omega) hb1, I.out.2.2.1.later (by omega) hb1, by rw [pow_sq_mod] at dh; exact dh, chain I.out.2.2.2.2 hb1⟩
      clear dh hb1 c0 c1 c2 c3 c4 c5 c6 c7 c8 c9
      have c0 := J.out.2.2.1.2 0 (by omega); have c1 := J.out.2.2.1.2 1 (by omega); have c2 := J.out.2.2.1.2 2 (by omega); have c3 := J.out.2.2.1.2 3 (by omega); have c4 := J.out.2.2.1.2 4 (by omega); have c5 := J.out.2.2.1.2 5 (by omega); have c6 := J.out.2.2.1.2 6 (by omega); have c7 := J.out.2.2.1.2 7 (by omega); have c8 := J.out.2.2.1.2 8 (by omega); have c9 := J.out.2.2.1.2 9 (by omega)
      have cf := J.out.2.2.1.1
      by_cases h2 : y = 2
      · have b2 : (y != 2) = false := by simp [h2]
        have hn : Hid (n = 252 ∨ n = 250) := by have := hy.out; show n = 252 ∨ n = 250; omega
        clear h2
        go_wp2
        go_roundw
        case rel =>
          refine ⟨n + 1, y - 1, h, by go_num, ?_, by omega, by omega, RowAt.put J.out.1 (by have := hne.out; omega) h, RowAt.put J.out.2.1 (by have := hne.out; omega) h, RowAt.whole J.out.2.2.1 h, ?_, below_put10 J.out.2.2.2.2 (by have := hne.out; omega) h⟩
          · have := hy.out; show y - 1 = _; omega
          · rw [ex_skip n hn.out]; exact J.out.2.2.2.1
        case measure => simp [intOf]; omega
      · by_cases h4 : y = 4
        · have b2 : (y != 2) = true := by simp [h2]
          have b4 : (y != 4) = false := by simp [h4]
          have hn : Hid (n = 252 ∨ n = 250) := by have := hy.out; show n = 252 ∨ n = 250; omega
          clear h2 h4
          go_wp2
          go_roundw
          case rel =>
            refine ⟨n + 1, y - 1, h, by go_num, ?_, by omega, by omega, RowAt.put J.out.1 (by have := hne.out; omega) h, RowAt.put J.out.2.1 (by have := hne.out; omega) h, RowAt.whole J.out.2.2.1 h, ?_, below_put10 J.out.2.2.2.2 (by have := hne.out; omega) h⟩
            · have := hy.out; show y - 1 = _; omega
            · rw [ex_skip n hn.out]; exact J.out.2.2.2.1
          case measure => simp [intOf]; omega
        · have b2 : (y != 2) = true := by simp [h2]
          have b4 : (y != 4) = true := by simp [h4]
          have hn : Hid (¬ (n = 252 ∨ n = 250)) := by have := hy.out; show ¬ (n = 252 ∨ n = 250); omega
          clear h2 h4
          have q0 := J.out.1.2 0 (by omega); have q1 := J.out.1.2 1 (by omega); have q2 := J.out.1.2 2 (by omega); have q3 := J.out.1.2 3 (by omega); have q4 := J.out.1.2 4 (by omega); have q5 := J.out.1.2 5 (by omega); have q6 := J.out.1.2 6 (by omega); have q7 := J.out.1.2 7 (by omega); have q8 := J.out.1.2 8 (by omega); have q9 := J.out.1.2 9 (by omega)
          have hq : ¬ w4.heap.size = w.heap.size := by have := hne.out; omega
          have hq' : ¬ w.heap.size = w4.heap.size := by have := hne.out; omega
          go_wp2_with fail
          refine Calls.mono (rTimes h a _ _ J.out.2.2.2.1 ha _) ?_
          rintro e w2 ⟨g, rfl, dg, hb2⟩
          have K : Hid (RowAt w2 w.heap.size 10 a ∧ RowAt w2 (w.heap.size + 1) 10 (fun _ => 0) ∧ RowAt w2 w4.heap.size 10 h ∧ dig g (x ^ (2 * ex n + 1) % p) ∧ Below w.heap.size w w2) :=
            ⟨RowAt.later (RowAt.put J.out.1 (by have := hne.out; omega) h) (by omega) hb2, RowAt.later (RowAt.put J.out.2.1 (by have := hne.out; omega) h) (by omega) hb2, RowAt.later (RowAt.whole J.out.2.2.1 h) (by omega) hb2, by rw [pow_mul_mod] at dg; exact dg, chain (below_put10 J.out.2.2.2.2 (by have := hne.out; omega) h) hb2⟩
          clear dg hb2 c0 c1 c2 c3 c4 c5 c6 c7 c8 c9 q0 q1 q2 q3 q4 q5 q6 q7 q8 q9 cf
          have c0 := K.out.2.2.1.2 0 (by omega); have c1 := K.out.2.2.1.2 1 (by omega); have c2 := K.out.2.2.1.2 2 (by omega); have c3 := K.out.2.2.1.2 3 (by omega); have c4 := K.out.2.2.1.2 4 (by omega); have c5 := K.out.2.2.1.2 5 (by omega); have c6 := K.out.2.2.1.2 6 (by omega); have c7 := K.out.2.2.1.2 7 (by omega); have c8 := K.out.2.2.1.2 8 (by omega); have c9 := K.out.2.2.1.2 9 (by omega)
          have cf := K.out.2.2.1.1
          go_wp2
          go_roundw
          case rel =>
            refine ⟨n + 1, y - 1, g, by go_num, ?_, by omega, by omega, RowAt.put K.out.1 (by have := hne.out; omega) g, RowAt.put K.out.2.1 (by have := hne.out; omega) g, RowAt.whole K.out.2.2.1 g, ?_, below_put10 K.out.2.2.2.2 (by have := hne.out; omega) g⟩
            · have := hy.out; show y - 1 = _; omega
            · rw [ex_take n hn.out]; exact K.out.2.2.2.1
          case measure => simp [intOf]; omega

end Go.Proofs.Ytdebfelgaiofeaa
