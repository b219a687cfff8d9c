/- The document's answers: Reduce, Whole; everybody's numbers. -/
import Derived.Test.YtdebfelgaiofeaaR8
namespace Go.Proofs.Ytdebfelgaiofeaa
open Go.RowKit Go.Proofs.Fd
attribute [local go_sem ↓] Go.wp_at_zero Go.wp_at_succ

theorem rPlus (a b : Nat → Int) (x y : Nat) (ha : Hid (dig a x)) (hb : Hid (dig b y)) (w : World) :
    Calls Try.prog 40 #[.agg #[.int .i64 (a 0), .int .i64 (a 1), .int .i64 (a 2), .int .i64 (a 3), .int .i64 (a 4), .int .i64 (a 5), .int .i64 (a 6), .int .i64 (a 7), .int .i64 (a 8), .int .i64 (a 9)], .agg #[.int .i64 (b 0), .int .i64 (b 1), .int .i64 (b 2), .int .i64 (b 3), .int .i64 (b 4), .int .i64 (b 5), .int .i64 (b 6), .int .i64 (b 7), .int .i64 (b 8), .int .i64 (b 9)]] w fun e w' => ∃ c : Nat → Int, e = .returned (.agg #[.int .i64 (c 0), .int .i64 (c 1), .int .i64 (c 2), .int .i64 (c 3), .int .i64 (c 4), .int .i64 (c 5), .int .i64 (c 6), .int .i64 (c 7), .int .i64 (c 8), .int .i64 (c 9)]) ∧ dig c ((x + y) % p) ∧ Below w.heap.size w w' := by
  refine Calls.mono (Plus_any a b ha.out.1 hb.out.1 w) ?_
  rintro e w1 ⟨c, rfl, hc, hb1⟩
  exact ⟨c, rfl, dig_plus ha.out hb.out hc, hb1⟩

/-- The digits of a number below the base. -/
def lowd (v : Int) (j : Nat) : Int := if j = 0 then v else 0
theorem lowd_dig (n : Nat) (h : n < 67108864) : dig (lowd n) n := by
  refine ⟨fun j hj => ?_, ?_⟩
  · unfold lowd; split <;> omega
  · rw [vN10]
    have f0 : lowd n 0 = (n : Int) := rfl
    have f1 : lowd n 1 = 0 := rfl
    have f2 : lowd n 2 = 0 := rfl
    have f3 : lowd n 3 = 0 := rfl
    have f4 : lowd n 4 = 0 := rfl
    have f5 : lowd n 5 = 0 := rfl
    have f6 : lowd n 6 = 0 := rfl
    have f7 : lowd n 7 = 0 := rfl
    have f8 : lowd n 8 = 0 := rfl
    have f9 : lowd n 9 = 0 := rfl
    rw [f0, f1, f2, f3, f4, f5, f6, f7, f8, f9]; omega

theorem times256 (f : Nat → Int) (x : Nat) (hf : Hid (dig f x)) (w : World) :
    Calls Try.prog 41 #[.agg #[.int .i64 (f 0), .int .i64 (f 1), .int .i64 (f 2), .int .i64 (f 3), .int .i64 (f 4), .int .i64 (f 5), .int .i64 (f 6), .int .i64 (f 7), .int .i64 (f 8), .int .i64 (f 9)], .agg #[.int .i64 256, .int .i64 0, .int .i64 0, .int .i64 0, .int .i64 0, .int .i64 0, .int .i64 0, .int .i64 0, .int .i64 0, .int .i64 0]] w fun e w' => ∃ c : Nat → Int, e = .returned (.agg #[.int .i64 (c 0), .int .i64 (c 1), .int .i64 (c 2), .int .i64 (c 3), .int .i64 (c 4), .int .i64 (c 5), .int .i64 (c 6), .int .i64 (c 7), .int .i64 (c 8), .int .i64 (c 9)]) ∧ dig c (x * 256 % p) ∧ Below w.heap.size w w' :=
  rTimes f (lowd 256) x 256 hf (lowd_dig 256 (by decide)) w

theorem plusByte (f : Nat → Int) (x b : Nat) (hf : Hid (dig f x)) (hb : b < 67108864) (w : World) :
    Calls Try.prog 40 #[.agg #[.int .i64 (f 0), .int .i64 (f 1), .int .i64 (f 2), .int .i64 (f 3), .int .i64 (f 4), .int .i64 (f 5), .int .i64 (f 6), .int .i64 (f 7), .int .i64 (f 8), .int .i64 (f 9)], .agg #[.int .i64 b, .int .i64 0, .int .i64 0, .int .i64 0, .int .i64 0, .int .i64 0, .int .i64 0, .int .i64 0, .int .i64 0, .int .i64 0]] w fun e w' => ∃ c : Nat → Int, e = .returned (.agg #[.int .i64 (c 0), .int .i64 (c 1), .int .i64 (c 2), .int .i64 (c 3), .int .i64 (c 4), .int .i64 (c 5), .int .i64 (c 6), .int .i64 (c 7), .int .i64 (c 8), .int .i64 (c 9)]) ∧ dig c ((x + b) % p) ∧ Below w.heap.size w w' :=
  rPlus f (lowd b) x b hf (lowd_dig b hb) w

theorem red_step (l : List UInt8) (k : Nat) (h : k < l.length) : (num (l.drop (k + 1)) % p * 256 % p + l[k].toNat) % p = num (l.drop k) % p := by
  have e : l.drop k = l[k] :: l.drop (k + 1) := List.drop_eq_getElem_cons h
  rw [e]
  simp only [num]
  rw [Nat.mod_add_mod, Nat.add_mod, Nat.mod_mul_mod, ← Nat.add_mod]
  congr 1; omega

theorem zero_dig : dig (fun _ => 0) 0 := ⟨fun _ _ => ⟨Int.le_refl 0, by show (0 : Int) < 67108864; omega⟩, by decide⟩

set_option maxRecDepth 100000 in
set_option maxHeartbeats 4000000 in
theorem rReduce_ok (s : ByteArray) (hs : s.size ≤ 64) (w : World) :
    Calls Try.prog 25 #[.string s] w fun e w' => e = .returned (.tuple #[.string (enc (num s.data.toList % p)), .int .i64 0]) ∧ Below w.heap.size w w' := by
  have hg : ¬ (64 : Int) < (s.size : Int) := by omega
  have hs2 : (s.size : Int) ≤ 64 := by omega
  go_enter Try.func25, Try.ntmps25
  go_wp2
  go_loopw [5] (fun i wr => ∃ (x : Int) (f : Nat → Int), i = .int .i64 x ∧ -1 ≤ x ∧ x < (s.size : Int) ∧ Hid (RowAt wr w.heap.size 10 f ∧ dig f (num (s.data.toList.drop (x + 1).toNat) % p) ∧ Below w.heap.size w wr)) (fun i _ => (intOf i + 1).toNat)
  case atStart =>
    refine ⟨(s.size : Int) - 1, fun _ => 0, rfl, by omega, by omega, row_zero w _, ?_, below_alloc _ _⟩
    rw [show ((s.size : Int) - 1 + 1).toNat = s.size by omega, List.drop_of_length_le (by simp)]
    exact zero_dig
  case round =>
    obtain ⟨x, f, rfl, lo, hi, N⟩ := hrel
    have c0 := N.out.1.2 0 (by omega); have c1 := N.out.1.2 1 (by omega); have c2 := N.out.1.2 2 (by omega); have c3 := N.out.1.2 3 (by omega); have c4 := N.out.1.2 4 (by omega); have c5 := N.out.1.2 5 (by omega); have c6 := N.out.1.2 6 (by omega); have c7 := N.out.1.2 7 (by omega); have c8 := N.out.1.2 8 (by omega); have c9 := N.out.1.2 9 (by omega)
    by_cases hlt : x < 0
    · have hge : ¬ (0 : Int) ≤ x := by omega
      have DF : Hid (dig f (num s.data.toList % p)) := by
        have := N.out.2.1
        rw [show (x + 1).toNat = 0 by omega, List.drop_zero] at this
        exact this
      go_wp2_with fail
      refine Calls.mono (rBytes f _ DF _) ?_
      rintro e w3 ⟨rfl, hb3⟩
      have B3 : Hid (Below w.heap.size w w3) := chain N.out.2.2 hb3
      clear hb3
      go_wp2
      go_ret2
      exact ⟨rfl, B3.out⟩
    · have hge : (0 : Int) ≤ x := by omega
      obtain ⟨k, rfl⟩ := Int.eq_ofNat_of_zero_le hge
      have hks : k < s.size := by omega
      have DF : Hid (dig f (num (s.data.toList.drop (k + 1)) % p)) := by
        have := N.out.2.1
        rw [show ((k : Int) + 1).toNat = k + 1 by omega] at this
        exact this
      have RS : Hid ((num (s.data.toList.drop (k + 1)) % p * 256 % p + s[k].toNat) % p = num (s.data.toList.drop k) % p) := red_step s.data.toList k (by simpa using hks)
      have hbb : s[k].toNat < 256 := s[k].toNat_lt
      have hbk : IntKind.i64.wrap (s[k].toNat : Int) = (s[k].toNat : Int) := by rw [IntKind.wrap_i64]; omega
      have cf := N.out.1.1
      clear hlt
      go_wp2
      go_region_with (first | (go_at_call 41; refine Calls.mono (times256 f _ DF _) ?_; rintro e w1 ⟨g, rfl, dg, hb1⟩; have G := RowAt.later (RowAt.drew N.out.1) (by omega) hb1; have k0 := G.2 0 (by omega); have k1 := G.2 1 (by omega); have k2 := G.2 2 (by omega); have k3 := G.2 3 (by omega); have k4 := G.2 4 (by omega); have k5 := G.2 5 (by omega); have k6 := G.2 6 (by omega); have k7 := G.2 7 (by omega); have k8 := G.2 8 (by omega); have k9 := G.2 9 (by omega); have gf := G.1) | (go_at_call 40; refine Calls.mono (plusByte g _ s[k].toNat dg (by omega) _) ?_; rintro e w2 ⟨h, rfl, dh, hb2⟩; have G2 := RowAt.later G (by omega) hb2; have m0 := G2.2 0 (by omega); have m1 := G2.2 1 (by omega); have m2 := G2.2 2 (by omega); have m3 := G2.2 3 (by omega); have m4 := G2.2 4 (by omega); have m5 := G2.2 5 (by omega); have m6 := G2.2 6 (by omega); have m7 := G2.2 7 (by omega); have m8 := G2.2 8 (by omega); have m9 := G2.2 9 (by omega); have mf := G2.1))
      all_goals
        have K : Hid (RowAt w2 w.heap.size 10 f ∧ dig h (num (s.data.toList.drop k) % p) ∧ Below w.heap.size w w2) := ⟨G2, by rw [← RS.out]; exact dh, chain (chain N.out.2.2.drew hb1) hb2⟩
        clear hb1 hb2 dg dh G G2
        go_wp2
        go_roundw
        case rel =>
          refine ⟨(k : Int) - 1, h, by go_num, by omega, by omega, RowAt.whole K.out.1 h, ?_, below_put10 K.out.2.2 (Nat.le_refl _) h⟩
          rw [show ((k : Int) - 1 + 1).toNat = k by omega]
          exact K.out.2.1
        case measure => simp [intOf]; try omega

set_option maxHeartbeats 1000000 in
theorem rReduce_no (s : ByteArray) (hs : 64 < s.size) (w : World) :
    Calls Try.prog 25 #[.string s] w fun e w' => e = .returned (.tuple #[.string ByteArray.empty, .int .i64 2]) ∧ Below w.heap.size w w' := by
  have hg : (64 : Int) < (s.size : Int) := by omega
  clear hs
  go_enter Try.func25, Try.ntmps25
  go_wp2
  go_ret2
  exact ⟨rfl, Below.refl _ _⟩

/-- The digits of a number of two digits. -/
def twod (u v : Int) (j : Nat) : Int := if j = 0 then u else if j = 1 then v else 0
theorem twod_dig (n : Nat) (h : n ≤ 2147483647) : dig (twod ((n % 67108864 : Nat) : Int) ((n / 67108864 : Nat) : Int)) n := by
  refine ⟨fun j hj => ?_, ?_⟩
  · unfold twod; split
    · omega
    · split <;> omega
  · rw [vN10]
    have f0 : twod ((n % 67108864 : Nat) : Int) ((n / 67108864 : Nat) : Int) 0 = ((n % 67108864 : Nat) : Int) := rfl
    have f1 : twod ((n % 67108864 : Nat) : Int) ((n / 67108864 : Nat) : Int) 1 = ((n / 67108864 : Nat) : Int) := rfl
    have f2 : twod ((n % 67108864 : Nat) : Int) ((n / 67108864 : Nat) : Int) 2 = 0 := rfl
    have f3 : twod ((n % 67108864 : Nat) : Int) ((n / 67108864 : Nat) : Int) 3 = 0 := rfl
    have f4 : twod ((n % 67108864 : Nat) : Int) ((n / 67108864 : Nat) : Int) 4 = 0 := rfl
    have f5 : twod ((n % 67108864 : Nat) : Int) ((n / 67108864 : Nat) : Int) 5 = 0 := rfl
    have f6 : twod ((n % 67108864 : Nat) : Int) ((n / 67108864 : Nat) : Int) 6 = 0 := rfl
    have f7 : twod ((n % 67108864 : Nat) : Int) ((n / 67108864 : Nat) : Int) 7 = 0 := rfl
    have f8 : twod ((n % 67108864 : Nat) : Int) ((n / 67108864 : Nat) : Int) 8 = 0 := rfl
    have f9 : twod ((n % 67108864 : Nat) : Int) ((n / 67108864 : Nat) : Int) 9 = 0 := rfl
    rw [f0, f1, f2, f3, f4, f5, f6, f7, f8, f9]; omega

end Go.Proofs.Ytdebfelgaiofeaa
