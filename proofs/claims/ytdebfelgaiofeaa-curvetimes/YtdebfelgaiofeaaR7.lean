/- The document's numbers of bytes, and bytes of numbers. -/
import Derived.Test.YtdebfelgaiofeaaR6
import Derived.Test.YtdebfelgaiofeaaMA
import Derived.Test.YtdebfelgaiofeaaW12
namespace Go.Proofs.Ytdebfelgaiofeaa
open Go.RowKit Go.Proofs.Fd

theorem and_one_i64 (a : Nat) (ha : a < 9223372036854775808) : bits .and .i64 (a : Int) 1 = ((a % 2 : Nat) : Int) := by
  have h1 : (BitVec.ofInt 64 (a : Int)).toNat = a := by
    rw [BitVec.ofInt_natCast, BitVec.toNat_ofNat]; exact Nat.mod_eq_of_lt (by omega)
  show IntKind.i64.wrap ((BitVec.ofInt 64 (a : Int) &&& BitVec.ofInt 64 1).toNat : Int) = _
  rw [BitVec.toNat_and, h1, show (BitVec.ofInt 64 1).toNat = 1 by decide, Nat.and_one_is_mod, IntKind.wrap_i64]
  omega

theorem pow_le_26 {r : Nat} (h : r < 26) : 2 ^ r ≤ 33554432 := by
  have : (2 : Nat) ^ r ≤ 2 ^ 25 := Nat.pow_le_pow_right (by decide) (by omega)
  simpa using this

theorem of_val (V r8 r26 : Nat) (x : Int) (hV : V < 256) (hx : 0 ≤ x ∧ x < 67108864) (hr : r26 < 26) :
    wrap64 (x + wrap64 (bits .and .i64 (wrap64 ((V : Int) / 2 ^ r8)) 1 * 2 ^ r26)) = x + ((V / 2 ^ r8 % 2 * 2 ^ r26 : Nat) : Int) := by
  have e1 : (V : Int) / 2 ^ r8 = ((V / 2 ^ r8 : Nat) : Int) := by simp
  have l1 : V / 2 ^ r8 ≤ V := Nat.div_le_self _ _
  rw [e1]
  generalize V / 2 ^ r8 = u at *
  rw [w64 (u : Int) (by omega), and_one_i64 _ (by omega)]
  have e2 : ((u % 2 : Nat) : Int) * 2 ^ r26 = ((u % 2 * 2 ^ r26 : Nat) : Int) := by simp
  rw [e2]
  have l3 : u % 2 * 2 ^ r26 ≤ 1 * 2 ^ r26 := Nat.mul_le_mul_right _ (by omega)
  have l4 := pow_le_26 hr
  generalize u % 2 * 2 ^ r26 = z at *
  rw [w64 (z : Int) (by omega), w64 _ (by omega)]

theorem by_val (y r26 r8 : Nat) (x : Int) (hy : y < 67108864) (hx : 0 ≤ x ∧ x + ((y / 2 ^ r26 % 2 * 2 ^ r8 : Nat) : Int) < 256) :
    (x + bits .and .i64 ((y : Int) / 2 ^ r26) 1 % 256 * 2 ^ r8) % 256 = x + ((y / 2 ^ r26 % 2 * 2 ^ r8 : Nat) : Int) := by
  have e1 : (y : Int) / 2 ^ r26 = ((y / 2 ^ r26 : Nat) : Int) := by simp
  have l1 : y / 2 ^ r26 ≤ y := Nat.div_le_self _ _
  rw [e1]
  generalize y / 2 ^ r26 = u at *
  rw [and_one_i64 _ (by omega)]
  have e3 : ((u % 2 : Nat) : Int) % 256 = ((u % 2 : Nat) : Int) := by omega
  have e2 : ((u % 2 : Nat) : Int) * 2 ^ r8 = ((u % 2 * 2 ^ r8 : Nat) : Int) := by simp
  rw [e3, e2]
  generalize u % 2 * 2 ^ r8 = z at *
  omega

set_option maxRecDepth 100000 in
set_option maxHeartbeats 4000000 in
theorem Of_any (s : ByteArray) (hs : s.size = 32) (w : World) :
    Calls Try.prog 29 #[.string s] w fun e w' => ∃ c : Nat → Int, e = .returned (.agg #[.int .i64 (c 0), .int .i64 (c 1), .int .i64 (c 2), .int .i64 (c 3), .int .i64 (c 4), .int .i64 (c 5), .int .i64 (c 6), .int .i64 (c 7), .int .i64 (c 8), .int .i64 (c 9)]) ∧ dig c (num s.data.toList) ∧ Below w.heap.size w w' := by
  go_enter Try.func29, Try.ntmps29
  go_wp2
  go_loopw [4] (fun i wr => ∃ k : Nat, k ≤ 256 ∧ i = .int .i64 k ∧ Hid (RowAt wr (w.heap.size + 1) 10 (od (num s.data.toList) k) ∧ RowAt wr w.heap.size 10 (fun _ => 0) ∧ Below w.heap.size w wr)) (fun i _ => 256 - (intOf i).toNat)
  case atStart =>
    refine ⟨0, by omega, rfl, RowAt.congr (d := fun _ => 0) ?_ (fun j hj => (od_zero _ j).symm), (row_zero w 42).later (by omega) (below_alloc _ _), (below_alloc _ _).alloc (by simp) _⟩
    have := row_zero (w.alloc (.cells #[.int .i64 0, .int .i64 0, .int .i64 0, .int .i64 0, .int .i64 0, .int .i64 0, .int .i64 0, .int .i64 0, .int .i64 0, .int .i64 0] 42)) 42
    simpa using this
  case round =>
    obtain ⟨k, hk, rfl, N⟩ := hrel
    by_cases hlt : k < 256
    · obtain ⟨j8, h8⟩ : ∃ j, k / 8 = j := ⟨_, rfl⟩
      obtain ⟨r8, g8⟩ : ∃ j, k % 8 = j := ⟨_, rfl⟩
      obtain ⟨j26, h26⟩ : ∃ j, k / 26 = j := ⟨_, rfl⟩
      obtain ⟨r26, g26⟩ : ∃ j, k % 26 = j := ⟨_, rfl⟩
      have ck := N.out.1.2 j26 (by omega)
      have cf := N.out.1.1
      have t1 : Int.tdiv (k : Int) 8 = (j8 : Int) := by rw [← h8]; exact (Int.ofNat_tdiv k 8).symm
      have t2 : Int.tmod (k : Int) 8 = (r8 : Int) := by rw [← g8]; exact (Int.ofNat_tmod k 8).symm
      have t3 : Int.tdiv (k : Int) 26 = (j26 : Int) := by rw [← h26]; exact (Int.ofNat_tdiv k 26).symm
      have t4 : Int.tmod (k : Int) 26 = (r26 : Int) := by rw [← g26]; exact (Int.ofNat_tmod k 26).symm
      have b1 : (j8 : Int) < (s.size : Int) := by omega
      have b6 : (j8 : Int) < 32 := by omega
      have b7 : (0 : Int) ≤ (j8 : Int) := by omega
      have b8 : (0 : Int) ≤ (j26 : Int) := by omega
      have b2 : (j26 : Int) < 10 := by omega
      have b3 : r8 < 8 := by omega
      have b4 : r26 < 26 := by omega
      have b5 : j8 < s.size := by omega
      have HS : Hid (s.size = 32) := hs
      have HK : Hid (k / 8 = j8 ∧ k % 8 = r8 ∧ k / 26 = j26 ∧ k % 26 = r26) := ⟨h8, g8, h26, g26⟩
      have HB : Hid (s[j8].toNat / 2 ^ r8 % 2 = num s.data.toList / 2 ^ k % 2) := by
        have hl : s.data.toList.length = s.size := by simp
        have q := num_at s.data.toList j8 (by omega)
        have q2 : s.data.toList[j8]'(by omega) = s[j8] := rfl
        rw [q2] at q
        show s[j8].toNat / 2 ^ r8 % 2 = _
        rw [← q, pow8, show (256 : Nat) = 2 ^ 8 by decide, bit_of _ _ _ _ b3]
        congr 3; omega
      clear hs h8 g8 h26 g26
      obtain ⟨X, eX⟩ : ∃ X, od (num s.data.toList) k j26 = X := ⟨_, rfl⟩
      have HX : Hid (od (num s.data.toList) k j26 = X ∧ 0 ≤ X ∧ X < 67108864) := ⟨eX, by rw [← eX]; exact (od_bd _ k j26).1, by rw [← eX]; exact (od_bd _ k j26).2⟩
      rw [eX] at ck
      clear eX
      go_wp2
      go_region
      go_wp2
      go_roundw
      case rel =>
        rw [of_val s[j8].toNat r8 r26 X s[j8].toNat_lt HX.out.2 b4, HB.out, ← HX.out.1]
        refine ⟨k + 1, by omega, by go_num, RowAt.congr (RowAt.set (RowAt.drew N.out.1) j26 (by omega) _) (fun j hj => ?_), RowAt.other (RowAt.drew N.out.2.1) (by simp) _, N.out.2.2.drew.setCell (by simp) _⟩
        have q := od_next (num s.data.toList) k j
        rw [HK.out.2.2.1, HK.out.2.2.2] at q
        exact q
      case measure => simp [intOf]; omega
    · have hkk : k = 256 := by omega
      subst hkk
      have c0 := N.out.1.2 0 (by omega); have c1 := N.out.1.2 1 (by omega); have c2 := N.out.1.2 2 (by omega); have c3 := N.out.1.2 3 (by omega); have c4 := N.out.1.2 4 (by omega); have c5 := N.out.1.2 5 (by omega); have c6 := N.out.1.2 6 (by omega); have c7 := N.out.1.2 7 (by omega); have c8 := N.out.1.2 8 (by omega); have c9 := N.out.1.2 9 (by omega)
      have r0 := N.out.2.1.2 0 (by omega); have r1 := N.out.2.1.2 1 (by omega); have r2 := N.out.2.1.2 2 (by omega); have r3 := N.out.2.1.2 3 (by omega); have r4 := N.out.2.1.2 4 (by omega); have r5 := N.out.2.1.2 5 (by omega); have r6 := N.out.2.1.2 6 (by omega); have r7 := N.out.2.1.2 7 (by omega); have r8 := N.out.2.1.2 8 (by omega); have r9 := N.out.2.1.2 9 (by omega)
      have rf := N.out.2.1.1
      have hn : num s.data.toList < W256 := by
        have q := num_lt s.data.toList
        rw [show s.data.toList.length = 32 by simpa using hs, pow_w256] at q
        exact q
      have OA : Hid (dig (od (num s.data.toList) 256) (num s.data.toList)) := od_all _ hn
      clear hn
      obtain ⟨f, ef⟩ : ∃ f, od (num s.data.toList) 256 = f := ⟨_, rfl⟩
      rw [ef] at OA c0 c1 c2 c3 c4 c5 c6 c7 c8 c9
      clear ef
      go_wp2
      refine bodyPost_ret (v := .agg #[.int .i64 (f 0), .int .i64 (f 1), .int .i64 (f 2), .int .i64 (f 3), .int .i64 (f 4), .int .i64 (f 5), .int .i64 (f 6), .int .i64 (f 7), .int .i64 (f 8), .int .i64 (f 9)]) (by simp [results, Try.results29, go_sem, *]) rfl ⟨f, rfl, OA.out, ?_⟩
      exact below_put10 N.out.2.2 (Nat.le_refl _) f

set_option maxRecDepth 100000 in
set_option maxHeartbeats 4000000 in
theorem Bytes_any (c : Nat → Int) (n : Nat) (hc : Hid (dig c n)) (hn : Hid (n < W256)) (w : World) :
    Calls Try.prog 26 #[.agg #[.int .i64 (c 0), .int .i64 (c 1), .int .i64 (c 2), .int .i64 (c 3), .int .i64 (c 4), .int .i64 (c 5), .int .i64 (c 6), .int .i64 (c 7), .int .i64 (c 8), .int .i64 (c 9)]] w fun e w' => e = .returned (.string (enc n)) ∧ Below w.heap.size w w' := by
  have hmk : ∀ w : World, (Instr.makeSlice 34 (.int .i64 32) (.int .i64 32)).run Try.prog w = .ok (.slice (some ⟨w.heap.size, 0, none⟩) 32 32) (w.alloc (.cells #[.int .u8 0, .int .u8 0, .int .u8 0, .int .u8 0, .int .u8 0, .int .u8 0, .int .u8 0, .int .u8 0, .int .u8 0, .int .u8 0, .int .u8 0, .int .u8 0, .int .u8 0, .int .u8 0, .int .u8 0, .int .u8 0, .int .u8 0, .int .u8 0, .int .u8 0, .int .u8 0, .int .u8 0, .int .u8 0, .int .u8 0, .int .u8 0, .int .u8 0, .int .u8 0, .int .u8 0, .int .u8 0, .int .u8 0, .int .u8 0, .int .u8 0, .int .u8 0] 5)) := fun _ => by kernel_rfl
  go_enter Try.func26, Try.ntmps26
  go_wp2
  go_loopw [4] (fun i wr => ∃ k : Nat, k ≤ 256 ∧ i = .int .i64 k ∧ Hid (RowAt wr w.heap.size 10 c ∧ (∀ o, wr.frozen? ⟨w.heap.size + 1, o, none⟩ = false) ∧ (∀ j, j < 32 → wr.cell? ⟨w.heap.size + 1, j, none⟩ = some (.int .u8 (bd n k j))) ∧ Below w.heap.size w wr)) (fun i _ => 256 - (intOf i).toNat)
  case atStart =>
    refine ⟨0, by omega, rfl, (row_new w c 42).later (by omega) (below_alloc _ _), fun o => by simp [go_sem], fun j hj => ?_, (below_alloc _ _).alloc (by simp) _⟩
    rw [bd_zero]
    have : j = 0 ∨ j = 1 ∨ j = 2 ∨ j = 3 ∨ j = 4 ∨ j = 5 ∨ j = 6 ∨ j = 7 ∨ j = 8 ∨ j = 9 ∨ j = 10 ∨ j = 11 ∨ j = 12 ∨ j = 13 ∨ j = 14 ∨ j = 15 ∨ j = 16 ∨ j = 17 ∨ j = 18 ∨ j = 19 ∨ j = 20 ∨ j = 21 ∨ j = 22 ∨ j = 23 ∨ j = 24 ∨ j = 25 ∨ j = 26 ∨ j = 27 ∨ j = 28 ∨ j = 29 ∨ j = 30 ∨ j = 31 := by omega
    rcases this with rfl | rfl | rfl | rfl | rfl | rfl | rfl | rfl | rfl | rfl | rfl | rfl | rfl | rfl | rfl | rfl | rfl | rfl | rfl | rfl | rfl | rfl | rfl | rfl | rfl | rfl | rfl | rfl | rfl | rfl | rfl | rfl <;> simp [go_sem]
  case round =>
    obtain ⟨k, hk, rfl, N⟩ := hrel
    by_cases hlt : k < 256
    · obtain ⟨j8, h8⟩ : ∃ j, k / 8 = j := ⟨_, rfl⟩
      obtain ⟨r8, g8⟩ : ∃ j, k % 8 = j := ⟨_, rfl⟩
      obtain ⟨j26, h26⟩ : ∃ j, k / 26 = j := ⟨_, rfl⟩
      obtain ⟨r26, g26⟩ : ∃ j, k % 26 = j := ⟨_, rfl⟩
      have ck := N.out.1.2 j26 (by omega)
      have cb := N.out.2.2.1 j8 (by omega)
      have cf := N.out.2.1
      have t1 : Int.tdiv (k : Int) 8 = (j8 : Int) := by rw [← h8]; exact (Int.ofNat_tdiv k 8).symm
      have t2 : Int.tmod (k : Int) 8 = (r8 : Int) := by rw [← g8]; exact (Int.ofNat_tmod k 8).symm
      have t3 : Int.tdiv (k : Int) 26 = (j26 : Int) := by rw [← h26]; exact (Int.ofNat_tdiv k 26).symm
      have t4 : Int.tmod (k : Int) 26 = (r26 : Int) := by rw [← g26]; exact (Int.ofNat_tmod k 26).symm
      have b1 : (j8 : Int) < 32 := by omega
      have b7 : (0 : Int) ≤ (j8 : Int) := by omega
      have b8 : (0 : Int) ≤ (j26 : Int) := by omega
      have b2 : (j26 : Int) < 10 := by omega
      have b3 : r8 < 8 := by omega
      have b4 : r26 < 26 := by omega
      have HK : Hid (k / 8 = j8 ∧ k % 8 = r8 ∧ k / 26 = j26 ∧ k % 26 = r26) := ⟨h8, g8, h26, g26⟩
      obtain ⟨y, ey⟩ : ∃ y, n / 67108864 ^ j26 % 67108864 = y := ⟨_, rfl⟩
      have cy1 : c j26 = (y : Int) := by rw [← ey]; exact can_digit c n hc.out.1 hc.out.2 j26 (by omega)
      have HB : Hid (y / 2 ^ r26 % 2 = n / 2 ^ k % 2 ∧ y < 67108864) := by
        refine ⟨?_, by rw [← ey]; exact Nat.mod_lt _ (by decide)⟩
        rw [← ey, pow26, show (67108864 : Nat) = 2 ^ 26 by decide, bit_of _ _ _ _ b4]
        congr 3; omega
      clear h8 g8 h26 g26 ey
      rw [cy1] at ck
      clear cy1
      obtain ⟨X, eX⟩ : ∃ X, bd n k j8 = X := ⟨_, rfl⟩
      have HX : Hid (bd n k j8 = X) := eX
      rw [eX] at cb
      clear eX
      go_wp2
      go_region
      go_wp2
      go_roundw
      case rel =>
        have q := bd_next n k j8
        rw [HK.out.1, HK.out.2.1, if_pos rfl, HX.out] at q
        have q2 := bd_bd n (k + 1) j8
        have q3 := bd_bd n k j8
        rw [HX.out] at q3
        have e : (X + bits .and .i64 ((y : Int) / 2 ^ r26) 1 % 256 * 2 ^ r8) % 256 = bd n (k + 1) j8 := by
          rw [by_val y r26 r8 X HB.out.2 (by rw [HB.out.1]; omega), HB.out.1]; exact q
        rw [e]
        refine ⟨k + 1, by omega, by go_num, RowAt.other (RowAt.drew N.out.1) (by simp) _, fun o => by simp [go_sem, cf], fun j hj => ?_, N.out.2.2.2.drew.setCell (by simp) _⟩
        by_cases ej : j = j8
        · subst ej
          simp [go_sem, cb]
        · have q4 := bd_next n k j
          rw [HK.out.1, if_neg ej] at q4
          rw [← q4]
          simp only [World.cell?_drew]
          rw [World.cell?_setCell_other _ _ _ _ (by simp; try omega)]
          exact N.out.2.2.1 j hj
      case measure => simp [intOf]; omega
    · have hkk : k = 256 := by omega
      subst hkk
      have CC : Hid (∀ j (hj : j < (byts 32 n).length), wr.cell? ⟨w.heap.size + 1, j, none⟩ = some (.int .u8 ((byts 32 n)[j].toNat : Int))) := fun j hj => by
        have hj' : j < 32 := by rw [byts_length] at hj; exact hj
        rw [N.out.2.2.1 j hj', bd_all n j hn.out]
        have q := num_at (byts 32 n) j hj
        rw [num_byts, pow_w256, Nat.mod_eq_of_lt hn.out] at q
        rw [q]
      go_wp2
      rw [conv_back (w.heap.size + 1) (byts 32 n) (byts_length 32 n) _ CC.out]
      go_wp2
      go_ret
      exact ⟨rfl, N.out.2.2.2⟩

end Go.Proofs.Ytdebfelgaiofeaa
