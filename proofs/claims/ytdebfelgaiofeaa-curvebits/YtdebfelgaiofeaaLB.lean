/- CurveBits answers true. -/
import Derived.Test.YtdebfelgaiofeaaC8
import Derived.Test.YtdebfelgaiofeaaC9
namespace Go.Proofs.Ytdebfelgaiofeaa
open Go.RowKit Go.Proofs.Fd Go.Proofs.Ed

theorem band (x y : UInt8) : bits .and .u8 (x.toNat : Int) (y.toNat : Int) = ((x &&& y).toNat : Int) := by
  rw [(bits_nat .u8 8 (by decide) wraps_u8 x.toNat y.toNat x.toNat_lt y.toNat_lt).1, UInt8.toNat_and]
theorem bxor (x y : UInt8) : bits .xor .u8 (x.toNat : Int) (y.toNat : Int) = ((x ^^^ y).toNat : Int) := by
  have h1 : x.toNat < 2 ^ 8 := x.toNat_lt
  have h2 : y.toNat < 2 ^ 8 := y.toNat_lt
  have h3 : x.toNat ^^^ y.toNat < 2 ^ 8 := Nat.xor_lt_two_pow h1 h2
  rw [UInt8.toNat_xor]
  have e1 : x.toNat % 2 ^ IntKind.u8.bits = x.toNat := Nat.mod_eq_of_lt h1
  have e2 : y.toNat % 2 ^ IntKind.u8.bits = y.toNat := Nat.mod_eq_of_lt h2
  simp only [bits, BitVec.ofInt_natCast, BitVec.toNat_xor, BitVec.toNat_ofNat, e1, e2]
  rw [IntKind.wrap_u8]
  omega

theorem turn0 (x t : UInt8) : bits .xor .u8 (x.toNat : Int) (bits .and .u8 (t.toNat : Int) 7) = ((x ^^^ (t &&& 7)).toNat : Int) := by
  rw [← bxor, ← band]; rfl
theorem turn31 (x t : UInt8) : bits .xor .u8 (x.toNat : Int) (bits .and .u8 (t.toNat : Int) 192) = ((x ^^^ (t &&& 192)).toNat : Int) := by
  rw [← bxor, ← band]; rfl
theorem turnP (x t : UInt8) : bits .xor .u8 (x.toNat : Int) ((t.toNat : Int) * 128 % 256) = ((x ^^^ (t * 128)).toNat : Int) := by
  rw [← bxor, UInt8.toNat_mul]
  congr 1

theorem turn0_val (x t : UInt8) : (x ^^^ (t &&& 7)).toNat / 8 * 8 = x.toNat / 8 * 8 := by
  rw [UInt8.toNat_xor, UInt8.toNat_and, show (8 : Nat) = 2 ^ 3 by decide, Nat.xor_div_two_pow]
  have : (t.toNat &&& UInt8.toNat 7) / 2 ^ 3 = 0 := by
    rw [Nat.and_div_two_pow, show UInt8.toNat 7 / 2 ^ 3 = 0 from rfl, Nat.and_zero]
  rw [this, Nat.xor_zero]
theorem turn31_val (x t : UInt8) : (x ^^^ (t &&& 192)).toNat % 64 = x.toNat % 64 := by
  rw [UInt8.toNat_xor, UInt8.toNat_and, show (64 : Nat) = 2 ^ 6 by decide, Nat.xor_mod_two_pow]
  have : (t.toNat &&& UInt8.toNat 192) % 2 ^ 6 = 0 := by
    rw [Nat.and_mod_two_pow, show UInt8.toNat 192 % 2 ^ 6 = 0 from rfl, Nat.and_zero]
  rw [this, Nat.xor_zero]
theorem turnP_val (x t : UInt8) : (x ^^^ (t * 128)).toNat % 128 = x.toNat % 128 := by
  rw [UInt8.toNat_xor, UInt8.toNat_mul, show UInt8.toNat 128 = 128 from rfl, show (128 : Nat) = 2 ^ 7 by decide, Nat.xor_mod_two_pow]
  have : t.toNat * 2 ^ 7 % 2 ^ 8 % 2 ^ 7 = 0 := by omega
  rw [this, Nat.xor_zero]

theorem clamp_turned (l : List UInt8) (h : l.length = 32) (y z : UInt8) (hy : y.toNat / 8 * 8 = l[0].toNat / 8 * 8) (hz : z.toNat % 64 = l[31].toNat % 64) : clampN (num ((l.set 0 y).set 31 z)) = clampN (num l) := by
  have h' : ((l.set 0 y).set 31 z).length = 32 := by simpa using h
  have b0 := l[0].toNat_lt
  have e1 := num_clamp l h (UInt8.ofNat (l[0].toNat / 8 * 8)) (UInt8.ofNat (l[31].toNat % 64 + 64)) (by rw [UInt8.toNat_ofNat']; omega) (by rw [UInt8.toNat_ofNat']; omega)
  have g0 : ((l.set 0 y).set 31 z)[0] = y := by simp
  have g31 : ((l.set 0 y).set 31 z)[31] = z := by simp
  have e2 := num_clamp ((l.set 0 y).set 31 z) h' (UInt8.ofNat (l[0].toNat / 8 * 8)) (UInt8.ofNat (l[31].toNat % 64 + 64)) (by rw [UInt8.toNat_ofNat', g0]; omega) (by rw [UInt8.toNat_ofNat', g31]; omega)
  rw [← e1, ← e2]
  congr 1
  apply List.ext_getElem?
  intro i
  simp only [List.getElem?_set, List.length_set]
  by_cases h0 : 0 = i
  · subst h0; simp
  · by_cases h1 : 31 = i
    · subst h1; simp
    · simp [h0, h1]

theorem pt_turned (l : List UInt8) (h : l.length = 32) (y : UInt8) (hy : y.toNat % 128 = l[31].toNat % 128) : ptN (num (l.set 31 y)) = ptN (num l) := by
  have h' : (l.set 31 y).length = 32 := by simpa using h
  have e1 := num_top l h (UInt8.ofNat (l[31].toNat % 128)) (by rw [UInt8.toNat_ofNat']; omega)
  have g31 : (l.set 31 y)[31] = y := by simp
  have e2 := num_top (l.set 31 y) h' (UInt8.ofNat (l[31].toNat % 128)) (by rw [UInt8.toNat_ofNat', g31]; omega)
  rw [List.set_set, e1] at e2
  apply Fin.ext
  show num (l.set 31 y) % 2 ^ 255 % q = num l % 2 ^ 255 % q
  rw [e2]

set_option maxHeartbeats 1000000 in
theorem CurveBits_walk (a u : ByteArray) (t : UInt8) (w : World) :
    Calls Try.prog 7 #[.string a, .string u, .int .u8 (t.toNat : Int)] w fun e w' => e = .returned (.bool true) ∧ Below w.heap.size w w' := by
  go_enter Try.func7, Try.ntmps7
  go_wp2_with fail
  refine Calls.mono (works_any _) ?_
  rintro e w1 ⟨rfl, hb⟩
  have B1 : Hid (Below w.heap.size w w1) := hb
  clear hb
  go_wp2_with fail
  refine Calls.mono (scalar_any a _) ?_
  rintro e w2 ⟨rfl, hb⟩
  have B2 : Hid (Below w.heap.size w w2) := chain B1.out hb
  clear hb
  obtain ⟨cap1, W1, hcv1, hB1, hb, hcap1⟩ := bytes_of (sc a) w2
  rw [sc_size] at hcv1 hcap1
  have BW1 : Hid (Below w.heap.size w W1) := chain B2.out hb
  have X1 : Hid (BytesAt W1 w2.heap.size (scal a)) := hB1
  clear hb hB1
  go_wp2_with fail
  refine Calls.mono (scalar_any u _) ?_
  rintro e w3 ⟨rfl, hb⟩
  have B3 : Hid (Below w.heap.size w w3) := chain BW1.out hb
  have X2 : Hid (BytesAt w3 w2.heap.size (scal a)) := X1.out.later hb
  have hBx : Hid (w2.heap.size < w3.heap.size) := by
    obtain ⟨h0, -⟩ := X2.out 0 (by rw [scal_len]; omega)
    exact World.block_lt_of_cell? _ _ h0
  clear hb X1
  obtain ⟨cap2, W2, hcv2, hB2, hb, hcap2⟩ := bytes_of (sc u) w3
  rw [sc_size] at hcv2 hcap2
  have BW2 : Hid (Below w.heap.size w W2) := chain B3.out hb
  have X3 : Hid (BytesAt W2 w2.heap.size (scal a) ∧ BytesAt W2 w3.heap.size (scal u)) := ⟨X2.out.later hb, hB2⟩
  clear hb hB2 X2
  have cv1 := X3.out.1.string (cap := cap1) (n := 32) (scal_len a)
  have cv2 := X3.out.2.string (cap := cap2) (n := 32) (scal_len u)
  go_wp2_with fail
  refine Calls.mono (Times_ok (sc a) (sc u) (sc_size a) (sc_size u) _) ?_
  rintro e w4 ⟨rfl, hb⟩
  have B4 : Hid (Below w.heap.size w w4) := chain BW2.out hb
  have X4 : Hid (BytesAt w4 w2.heap.size (scal a) ∧ BytesAt w4 w3.heap.size (scal u)) := ⟨X3.out.1.later hb, X3.out.2.later hb⟩
  clear hb cv1 cv2 X3 hcv1 hcv2
  have ne : w2.heap.size ≠ w3.heap.size := by
    have h1 := (hBx).out
    omega
  obtain ⟨x0, fx0⟩ := X4.out.1 0 (by rw [scal_len]; omega)
  obtain ⟨x31, fx31⟩ := X4.out.1 31 (by rw [scal_len]; omega)
  obtain ⟨p31, fp31⟩ := X4.out.2 31 (by rw [scal_len]; omega)
  have nLH : ¬ w2.heap.size = w3.heap.size := ne
  have nHL : ¬ w3.heap.size = w2.heap.size := fun e => ne e.symm
  have BX : Hid (w.heap.size ≤ w2.heap.size ∧ w.heap.size ≤ w3.heap.size) := ⟨B2.out.size, B3.out.size⟩
  have hla := scal_len a
  have hlu := scal_len u
  obtain ⟨V, hV⟩ : ∃ V, ((w4.setCell ⟨w2.heap.size, 0, none⟩ (.int .u8 (bits .xor .u8 ((scal a)[0].toNat : Int) (bits .and .u8 (t.toNat : Int) 7)))).setCell ⟨w2.heap.size, 31, none⟩ (.int .u8 (bits .xor .u8 ((scal a)[31].toNat : Int) (bits .and .u8 (t.toNat : Int) 192)))).setCell ⟨w3.heap.size, 31, none⟩ (.int .u8 (bits .xor .u8 ((scal u)[31].toNat : Int) ((t.toNat : Int) * 128 % 256))) = V := ⟨_, rfl⟩
  have VX : BytesAt V w2.heap.size (((scal a).set 0 ((scal a)[0] ^^^ (t &&& 7))).set 31 ((scal a)[31] ^^^ (t &&& 192))) := by
    rw [← hV]
    exact ((X4.out.1.set 0 _ _ (turn0 _ t)).set 31 _ _ (turn31 _ t)).other nHL _
  have VP : BytesAt V w3.heap.size ((scal u).set 31 ((scal u)[31] ^^^ (t * 128))) := by
    rw [← hV]
    exact ((X4.out.2.other nLH _).other nLH _).set 31 _ _ (turnP _ t)
  have VB : Hid (Below w.heap.size w V) := by
    rw [← hV]
    exact ((B4.out.setCell (p := ⟨w2.heap.size, 0, none⟩) BX.out.1 _).setCell (p := ⟨w2.heap.size, 31, none⟩) BX.out.1 _).setCell (p := ⟨w3.heap.size, 31, none⟩) BX.out.2 _
  have cv1 := VX.string (cap := cap1) (n := 32) (by simpa using hla)
  have cv2 := VP.string (cap := cap2) (n := 32) (by simpa using hlu)
  have T2 : Hid (∀ w, Calls Try.prog 9 #[.string ⟨(((scal a).set 0 ((scal a)[0] ^^^ (t &&& 7))).set 31 ((scal a)[31] ^^^ (t &&& 192))).toArray⟩, .string ⟨((scal u).set 31 ((scal u)[31] ^^^ (t * 128))).toArray⟩] w fun e w' => e = .returned (.tuple #[.string (ek (tm (sc a) (sc u))), .int .i64 0]) ∧ Below w.heap.size w w') := fun w => by
    have h := Times_ok ⟨(((scal a).set 0 ((scal a)[0] ^^^ (t &&& 7))).set 31 ((scal a)[31] ^^^ (t &&& 192))).toArray⟩ ⟨((scal u).set 31 ((scal u)[31] ^^^ (t * 128))).toArray⟩ (by show Array.size _ = 32; simpa using hla) (by show Array.size _ = 32; simpa using hlu) w
    have e : tm ⟨(((scal a).set 0 ((scal a)[0] ^^^ (t &&& 7))).set 31 ((scal a)[31] ^^^ (t &&& 192))).toArray⟩ ⟨((scal u).set 31 ((scal u)[31] ^^^ (t * 128))).toArray⟩ = tm (sc a) (sc u) := by
      unfold tm
      show lad (clampN (num _)) (ptN (num _)) = lad (clampN (num (scal a))) (ptN (num (scal u)))
      rw [clamp_turned (scal a) hla _ _ (turn0_val _ t) (turn31_val _ t), pt_turned (scal u) hlu _ (turnP_val _ t)]
    rw [e] at h
    exact h
  have CL : Hid (∀ w, Calls Try.prog 11 #[.string ⟨(((scal a).set 0 ((scal a)[0] ^^^ (t &&& 7))).set 31 ((scal a)[31] ^^^ (t &&& 192))).toArray⟩] w fun e w' => e = .returned (.tuple #[.string (enc (clampN (num (scal a)))), .int .i64 0]) ∧ Below w.heap.size w w') := fun w => by
    have h := Clamp_ok ⟨(((scal a).set 0 ((scal a)[0] ^^^ (t &&& 7))).set 31 ((scal a)[31] ^^^ (t &&& 192))).toArray⟩ (by show Array.size _ = 32; simpa using hla) w
    have e : clampN (num (⟨(((scal a).set 0 ((scal a)[0] ^^^ (t &&& 7))).set 31 ((scal a)[31] ^^^ (t &&& 192))).toArray⟩ : ByteArray).data.toList) = clampN (num (scal a)) := clamp_turned (scal a) hla _ _ (turn0_val _ t) (turn31_val _ t)
    rw [e] at h
    exact h
  have CL2 : Hid (∀ w, Calls Try.prog 11 #[.string (enc (clampN (num (scal a))))] w fun e w' => e = .returned (.tuple #[.string (enc (clampN (num (scal a)))), .int .i64 0]) ∧ Below w.heap.size w w') := fun w => by
    have h := Clamp_ok (enc (clampN (num (scal a)))) (enc_size _) w
    rw [num_enc (clampN_lt _), clampN_idem] at h
    exact h
  have CK : Hid (∀ w, Calls Try.prog 21 #[.string (ek (tm (sc a) (sc u)))] w fun e w' => e = .returned (.int .i64 0) ∧ Below w.heap.size w w') := fun w => by
    have h := Check_any (ek (tm (sc a) (sc u))) w
    rw [show chk (ek (tm (sc a) (sc u))) = 0 from chk_enc (k_lt _)] at h
    exact h
  have VX' : Hid (∀ w5, Below V.heap.size V w5 → (convert 34 9 (.slice (some ⟨w2.heap.size, 0, none⟩) 32 cap1)).run Try.prog w5 = .ok (.string ⟨(((scal a).set 0 ((scal a)[0] ^^^ (t &&& 7))).set 31 ((scal a)[31] ^^^ (t &&& 192))).toArray⟩) w5) := fun w5 hb => (VX.later hb).string (cap := cap1) (n := 32) (by simpa using hla)
  generalize (⟨(((scal a).set 0 ((scal a)[0] ^^^ (t &&& 7))).set 31 ((scal a)[31] ^^^ (t &&& 192))).toArray⟩ : ByteArray) = sx at *
  generalize (⟨((scal u).set 31 ((scal u)[31] ^^^ (t * 128))).toArray⟩ : ByteArray) = sp at *
  generalize enc (clampN (num (scal a))) = cl at *
  generalize ek (tm (sc a) (sc u)) = rs at *
  clear VX VP X4 B4 BX
  go_wp2_with fail
  refine Calls.mono (T2.out _) ?_
  rintro e w5 ⟨rfl, hb⟩
  have cv3 := VX'.out w5 hb
  have B5 : Hid (Below w.heap.size w w5) := chain VB.out hb
  clear hb
  go_wp2_with fail
  refine Calls.mono (CL.out _) ?_
  rintro e w6 ⟨rfl, hb⟩
  have B6 : Hid (Below w.heap.size w w6) := chain B5.out hb
  clear hb
  go_wp2_with fail
  refine Calls.mono (CL2.out _) ?_
  rintro e w7 ⟨rfl, hb⟩
  have B7 : Hid (Below w.heap.size w w7) := chain B6.out hb
  clear hb
  go_wp2_with fail
  refine Calls.mono (CK.out _) ?_
  rintro e w8 ⟨rfl, hb⟩
  have B8 : Hid (Below w.heap.size w w8) := chain B7.out hb
  clear hb
  go_wp2
  go_ret
  exact ⟨rfl, B8.out⟩
/-- At a byte as the row hands it over. -/
theorem CurveBits_byte (a u : ByteArray) (t : Int) (ht : (Lit.int .u8 t).wf = true) (w : World) :
    Calls Try.prog 7 #[.string a, .string u, .int .u8 t] w fun e w' => e = .returned (.bool true) ∧ Below w.heap.size w w' := by
  have hb : 0 ≤ t ∧ t < 256 := by
    simp [Lit.wf, IntKind.min, IntKind.max, IntKind.bits, IntKind.signed] at ht
    omega
  have e : t = ((UInt8.ofNat t.toNat).toNat : Int) := by
    rw [UInt8.toNat_ofNat']
    omega
  rw [e]
  exact CurveBits_walk a u _ w
end Go.Proofs.Ytdebfelgaiofeaa
