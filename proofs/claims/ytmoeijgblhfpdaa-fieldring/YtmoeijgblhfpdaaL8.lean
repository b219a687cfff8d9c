/- FieldRing answers true: sums and products of elements make a ring. -/
import Derived.Test.YtmoeijgblhfpdaaW18
import Derived.Test.YtmoeijgblhfpdaaMath8b
namespace Go.Proofs.Ytmoeijgblhfpdaa
open Go.RowKit Go.Proofs.Fd

set_option maxRecDepth 100000 in
set_option maxHeartbeats 4000000 in
theorem FieldRing_walk (x y z : ByteArray) (hx : x.size ≤ maxLen) (hy : y.size ≤ maxLen) (hz : z.size ≤ maxLen) (w : World) :
    Calls Try.prog 8 #[.string x, .string y, .string z] w fun e w' => e = .returned (.bool true) ∧ Below w.heap.size w w' := by
  have EX : Hid (∀ w, Calls Try.prog 27 #[.string x] w fun e w' => e = .returned (.string (enc (elt x))) ∧ Below w.heap.size w w') := fun w => element_any x hx w
  have EY : Hid (∀ w, Calls Try.prog 27 #[.string y] w fun e w' => e = .returned (.string (enc (elt y))) ∧ Below w.heap.size w w') := fun w => element_any y hy w
  have EZ : Hid (∀ w, Calls Try.prog 27 #[.string z] w fun e w' => e = .returned (.string (enc (elt z))) ∧ Below w.heap.size w w') := fun w => element_any z hz w
  have la := elt_lt x
  have lb := elt_lt y
  have lc := elt_lt z
  generalize elt x = a at *
  generalize elt y = b at *
  generalize elt z = c at *
  have S0 : Hid (∀ w, Calls Try.prog 28 #[.int .i64 0] w fun e w' => e = .returned (.string (enc 0)) ∧ Below w.heap.size w w') := fun w => small_k 0 0 rfl (by omega) w
  have S1 : Hid (∀ w, Calls Try.prog 28 #[.int .i64 1] w fun e w' => e = .returned (.string (enc 1)) ∧ Below w.heap.size w w') := fun w => small_k 1 1 rfl (by omega) w
  obtain ⟨AB, hAB⟩ : ∃ v, (a + b) % p = v := ⟨_, rfl⟩
  have lAB : AB < p := by rw [← hAB]; exact Nat.mod_lt _ p_pos
  obtain ⟨MAB, hMAB⟩ : ∃ v, a * b % p = v := ⟨_, rfl⟩
  have lMAB : MAB < p := by rw [← hMAB]; exact Nat.mod_lt _ p_pos
  obtain ⟨BC, hBC⟩ : ∃ v, (b + c) % p = v := ⟨_, rfl⟩
  have lBC : BC < p := by rw [← hBC]; exact Nat.mod_lt _ p_pos
  obtain ⟨MBC, hMBC⟩ : ∃ v, b * c % p = v := ⟨_, rfl⟩
  have lMBC : MBC < p := by rw [← hMBC]; exact Nat.mod_lt _ p_pos
  obtain ⟨S, hS⟩ : ∃ v, (a + b + c) % p = v := ⟨_, rfl⟩
  have lS : S < p := by rw [← hS]; exact Nat.mod_lt _ p_pos
  obtain ⟨U, hU⟩ : ∃ v, a * b % p * c % p = v := ⟨_, rfl⟩
  have lU : U < p := by rw [← hU]; exact Nat.mod_lt _ p_pos
  obtain ⟨MAC, hMAC⟩ : ∃ v, a * c % p = v := ⟨_, rfl⟩
  have lMAC : MAC < p := by rw [← hMAC]; exact Nat.mod_lt _ p_pos
  obtain ⟨LR, hLR⟩ : ∃ v, a * ((b + c) % p) % p = v := ⟨_, rfl⟩
  have lLR : LR < p := by rw [← hLR]; exact Nat.mod_lt _ p_pos
  have A1 : Hid (∀ (B : Nat) (w : World), w.cell? ⟨B, 0, none⟩ = some (.string (enc a)) → w.cell? ⟨B, 1, none⟩ = some (.string (enc b)) → Calls Try.prog 17 #[.slice (some ⟨B, 0, none⟩) 2 2] w fun e w' => e = .returned (.tuple #[.string (enc AB), .int .i64 0]) ∧ Below w.heap.size w w') := fun B w h0 h1 => by
    have := Add2_el a b B la lb w h0 h1; rw [hAB] at this; exact this
  have A2 : Hid (∀ (B : Nat) (w : World), w.cell? ⟨B, 0, none⟩ = some (.string (enc b)) → w.cell? ⟨B, 1, none⟩ = some (.string (enc a)) → Calls Try.prog 17 #[.slice (some ⟨B, 0, none⟩) 2 2] w fun e w' => e = .returned (.tuple #[.string (enc AB), .int .i64 0]) ∧ Below w.heap.size w w') := fun B w h0 h1 => by
    have := Add2_el b a B lb la w h0 h1; rw [Nat.add_comm, hAB] at this; exact this
  have M1 : Hid (∀ (B : Nat) (w : World), w.cell? ⟨B, 0, none⟩ = some (.string (enc a)) → w.cell? ⟨B, 1, none⟩ = some (.string (enc b)) → Calls Try.prog 19 #[.slice (some ⟨B, 0, none⟩) 2 2] w fun e w' => e = .returned (.tuple #[.string (enc MAB), .int .i64 0]) ∧ Below w.heap.size w w') := fun B w h0 h1 => by
    have := Mul2_el a b B la lb w h0 h1; rw [hMAB] at this; exact this
  have M2 : Hid (∀ (B : Nat) (w : World), w.cell? ⟨B, 0, none⟩ = some (.string (enc b)) → w.cell? ⟨B, 1, none⟩ = some (.string (enc a)) → Calls Try.prog 19 #[.slice (some ⟨B, 0, none⟩) 2 2] w fun e w' => e = .returned (.tuple #[.string (enc MAB), .int .i64 0]) ∧ Below w.heap.size w w') := fun B w h0 h1 => by
    have := Mul2_el b a B lb la w h0 h1; rw [Nat.mul_comm, hMAB] at this; exact this
  have A3 : Hid (∀ (B : Nat) (w : World), w.cell? ⟨B, 0, none⟩ = some (.string (enc b)) → w.cell? ⟨B, 1, none⟩ = some (.string (enc c)) → Calls Try.prog 17 #[.slice (some ⟨B, 0, none⟩) 2 2] w fun e w' => e = .returned (.tuple #[.string (enc BC), .int .i64 0]) ∧ Below w.heap.size w w') := fun B w h0 h1 => by
    have := Add2_el b c B lb lc w h0 h1; rw [hBC] at this; exact this
  have M3 : Hid (∀ (B : Nat) (w : World), w.cell? ⟨B, 0, none⟩ = some (.string (enc b)) → w.cell? ⟨B, 1, none⟩ = some (.string (enc c)) → Calls Try.prog 19 #[.slice (some ⟨B, 0, none⟩) 2 2] w fun e w' => e = .returned (.tuple #[.string (enc MBC), .int .i64 0]) ∧ Below w.heap.size w w') := fun B w h0 h1 => by
    have := Mul2_el b c B lb lc w h0 h1; rw [hMBC] at this; exact this
  have A4 : Hid (∀ (B : Nat) (w : World), w.cell? ⟨B, 0, none⟩ = some (.string (enc AB)) → w.cell? ⟨B, 1, none⟩ = some (.string (enc c)) → Calls Try.prog 17 #[.slice (some ⟨B, 0, none⟩) 2 2] w fun e w' => e = .returned (.tuple #[.string (enc S), .int .i64 0]) ∧ Below w.heap.size w w') := fun B w h0 h1 => by
    have := Add2_el AB c B lAB lc w h0 h1; rw [← hAB, ring_add1, hS] at this; exact this
  have A5 : Hid (∀ (B : Nat) (w : World), w.cell? ⟨B, 0, none⟩ = some (.string (enc a)) → w.cell? ⟨B, 1, none⟩ = some (.string (enc BC)) → Calls Try.prog 17 #[.slice (some ⟨B, 0, none⟩) 2 2] w fun e w' => e = .returned (.tuple #[.string (enc S), .int .i64 0]) ∧ Below w.heap.size w w') := fun B w h0 h1 => by
    have := Add2_el a BC B la lBC w h0 h1; rw [← hBC, ring_add2, hS] at this; exact this
  have M4 : Hid (∀ (B : Nat) (w : World), w.cell? ⟨B, 0, none⟩ = some (.string (enc MAB)) → w.cell? ⟨B, 1, none⟩ = some (.string (enc c)) → Calls Try.prog 19 #[.slice (some ⟨B, 0, none⟩) 2 2] w fun e w' => e = .returned (.tuple #[.string (enc U), .int .i64 0]) ∧ Below w.heap.size w w') := fun B w h0 h1 => by
    have := Mul2_el MAB c B lMAB lc w h0 h1; rw [← hMAB, hU] at this; exact this
  have M5 : Hid (∀ (B : Nat) (w : World), w.cell? ⟨B, 0, none⟩ = some (.string (enc a)) → w.cell? ⟨B, 1, none⟩ = some (.string (enc MBC)) → Calls Try.prog 19 #[.slice (some ⟨B, 0, none⟩) 2 2] w fun e w' => e = .returned (.tuple #[.string (enc U), .int .i64 0]) ∧ Below w.heap.size w w') := fun B w h0 h1 => by
    have := Mul2_el a MBC B la lMBC w h0 h1; rw [← hMBC, ring_mul2, hU] at this; exact this
  have A6 : Hid (∀ (B : Nat) (w : World), w.cell? ⟨B, 0, none⟩ = some (.string (enc a)) → w.cell? ⟨B, 1, none⟩ = some (.string (enc b)) → w.cell? ⟨B, 2, none⟩ = some (.string (enc c)) → Calls Try.prog 17 #[.slice (some ⟨B, 0, none⟩) 3 3] w fun e w' => e = .returned (.tuple #[.string (enc S), .int .i64 0]) ∧ Below w.heap.size w w') := fun B w h0 h1 h2 => by
    have := Add3_el a b c B la lb lc w h0 h1 h2; rw [hS] at this; exact this
  have M6 : Hid (∀ (B : Nat) (w : World), w.cell? ⟨B, 0, none⟩ = some (.string (enc a)) → w.cell? ⟨B, 1, none⟩ = some (.string (enc b)) → w.cell? ⟨B, 2, none⟩ = some (.string (enc c)) → Calls Try.prog 19 #[.slice (some ⟨B, 0, none⟩) 3 3] w fun e w' => e = .returned (.tuple #[.string (enc U), .int .i64 0]) ∧ Below w.heap.size w w') := fun B w h0 h1 h2 => by
    have := Mul3_el a b c B la lb lc w h0 h1 h2; rw [hU] at this; exact this
  have M7 : Hid (∀ (B : Nat) (w : World), w.cell? ⟨B, 0, none⟩ = some (.string (enc a)) → w.cell? ⟨B, 1, none⟩ = some (.string (enc c)) → Calls Try.prog 19 #[.slice (some ⟨B, 0, none⟩) 2 2] w fun e w' => e = .returned (.tuple #[.string (enc MAC), .int .i64 0]) ∧ Below w.heap.size w w') := fun B w h0 h1 => by
    have := Mul2_el a c B la lc w h0 h1; rw [hMAC] at this; exact this
  have M8 : Hid (∀ (B : Nat) (w : World), w.cell? ⟨B, 0, none⟩ = some (.string (enc a)) → w.cell? ⟨B, 1, none⟩ = some (.string (enc BC)) → Calls Try.prog 19 #[.slice (some ⟨B, 0, none⟩) 2 2] w fun e w' => e = .returned (.tuple #[.string (enc LR), .int .i64 0]) ∧ Below w.heap.size w w') := fun B w h0 h1 => by
    have := Mul2_el a BC B la lBC w h0 h1; rw [← hBC, hLR] at this; exact this
  have A7 : Hid (∀ (B : Nat) (w : World), w.cell? ⟨B, 0, none⟩ = some (.string (enc MAB)) → w.cell? ⟨B, 1, none⟩ = some (.string (enc MAC)) → Calls Try.prog 17 #[.slice (some ⟨B, 0, none⟩) 2 2] w fun e w' => e = .returned (.tuple #[.string (enc LR), .int .i64 0]) ∧ Below w.heap.size w w') := fun B w h0 h1 => by
    have := Add2_el MAB MAC B lMAB lMAC w h0 h1; rw [← hMAB, ← hMAC, ring_dist, hLR] at this; exact this
  have M9 : Hid (∀ (B : Nat) (w : World), w.cell? ⟨B, 0, none⟩ = some (.string (enc a)) → w.cell? ⟨B, 1, none⟩ = some (.string (enc 1)) → Calls Try.prog 19 #[.slice (some ⟨B, 0, none⟩) 2 2] w fun e w' => e = .returned (.tuple #[.string (enc a), .int .i64 0]) ∧ Below w.heap.size w w') := fun B w h0 h1 => by
    have := Mul2_el a 1 B la (by decide) w h0 h1; rw [Nat.mul_one, Nat.mod_eq_of_lt la] at this; exact this
  have A8 : Hid (∀ (B : Nat) (w : World), w.cell? ⟨B, 0, none⟩ = some (.string (enc a)) → w.cell? ⟨B, 1, none⟩ = some (.string (enc 0)) → Calls Try.prog 17 #[.slice (some ⟨B, 0, none⟩) 2 2] w fun e w' => e = .returned (.tuple #[.string (enc a), .int .i64 0]) ∧ Below w.heap.size w w') := fun B w h0 h1 => by
    have := Add2_el a 0 B la p_pos w h0 h1; rw [Nat.add_zero, Nat.mod_eq_of_lt la] at this; exact this
  clear hAB hMAB hBC hMBC hS hU hMAC hLR lAB lMAB lBC lMBC lS lU lMAC lLR la lb lc hx hy hz
  go_enter Try.func8, Try.ntmps8
  go_wp2_with fail
  refine Calls.mono (works_any _) ?_
  rintro e w1 ⟨rfl, hb⟩
  have B1 : Hid (Below w.heap.size w w1) := hb
  clear hb
  go_wp2_with fail
  refine Calls.mono (EX.out _) ?_
  rintro e w2 ⟨rfl, hb⟩
  have B2 : Hid (Below w.heap.size w w2) := chain B1.out hb
  clear hb
  go_wp2_with fail
  refine Calls.mono (EY.out _) ?_
  rintro e w3 ⟨rfl, hb⟩
  have B3 : Hid (Below w.heap.size w w3) := chain B2.out hb
  clear hb
  go_wp2_with fail
  refine Calls.mono (EZ.out _) ?_
  rintro e w4 ⟨rfl, hb⟩
  have B4 : Hid (Below w.heap.size w w4) := chain B3.out hb
  clear hb
  go_wp2_with fail
  refine Calls.mono (A1.out w4.heap.size _ (by simp [go_sem]) (by simp [go_sem])) ?_
  rintro e w5 ⟨rfl, hb⟩
  have B5 : Hid (Below w.heap.size w w5) := chain (B4.out.alloc B4.out.size _) hb
  clear hb
  go_wp2_with fail
  refine Calls.mono (A2.out w5.heap.size _ (by simp [go_sem]) (by simp [go_sem])) ?_
  rintro e w6 ⟨rfl, hb⟩
  have B6 : Hid (Below w.heap.size w w6) := chain (B5.out.alloc B5.out.size _) hb
  clear hb
  go_wp2_with fail
  refine Calls.mono (M1.out w6.heap.size _ (by simp [go_sem]) (by simp [go_sem])) ?_
  rintro e w7 ⟨rfl, hb⟩
  have B7 : Hid (Below w.heap.size w w7) := chain (B6.out.alloc B6.out.size _) hb
  clear hb
  go_wp2_with fail
  refine Calls.mono (M2.out w7.heap.size _ (by simp [go_sem]) (by simp [go_sem])) ?_
  rintro e w8 ⟨rfl, hb⟩
  have B8 : Hid (Below w.heap.size w w8) := chain (B7.out.alloc B7.out.size _) hb
  clear hb
  go_wp2_with fail
  refine Calls.mono (A3.out w8.heap.size _ (by simp [go_sem]) (by simp [go_sem])) ?_
  rintro e w9 ⟨rfl, hb⟩
  have B9 : Hid (Below w.heap.size w w9) := chain (B8.out.alloc B8.out.size _) hb
  clear hb
  go_wp2_with fail
  refine Calls.mono (M3.out w9.heap.size _ (by simp [go_sem]) (by simp [go_sem])) ?_
  rintro e w10 ⟨rfl, hb⟩
  have B10 : Hid (Below w.heap.size w w10) := chain (B9.out.alloc B9.out.size _) hb
  clear hb
  go_wp2_with fail
  refine Calls.mono (A4.out w10.heap.size _ (by simp [go_sem]) (by simp [go_sem])) ?_
  rintro e w11 ⟨rfl, hb⟩
  have B11 : Hid (Below w.heap.size w w11) := chain (B10.out.alloc B10.out.size _) hb
  clear hb
  go_wp2_with fail
  refine Calls.mono (A5.out w11.heap.size _ (by simp [go_sem]) (by simp [go_sem])) ?_
  rintro e w12 ⟨rfl, hb⟩
  have B12 : Hid (Below w.heap.size w w12) := chain (B11.out.alloc B11.out.size _) hb
  clear hb
  go_wp2_with fail
  refine Calls.mono (M4.out w12.heap.size _ (by simp [go_sem]) (by simp [go_sem])) ?_
  rintro e w13 ⟨rfl, hb⟩
  have B13 : Hid (Below w.heap.size w w13) := chain (B12.out.alloc B12.out.size _) hb
  clear hb
  go_wp2_with fail
  refine Calls.mono (M5.out w13.heap.size _ (by simp [go_sem]) (by simp [go_sem])) ?_
  rintro e w14 ⟨rfl, hb⟩
  have B14 : Hid (Below w.heap.size w w14) := chain (B13.out.alloc B13.out.size _) hb
  clear hb
  go_wp2_with fail
  refine Calls.mono (A6.out w14.heap.size _ (by simp [go_sem]) (by simp [go_sem]) (by simp [go_sem])) ?_
  rintro e w15 ⟨rfl, hb⟩
  have B15 : Hid (Below w.heap.size w w15) := chain (B14.out.alloc B14.out.size _) hb
  clear hb
  go_wp2_with fail
  refine Calls.mono (M6.out w15.heap.size _ (by simp [go_sem]) (by simp [go_sem]) (by simp [go_sem])) ?_
  rintro e w16 ⟨rfl, hb⟩
  have B16 : Hid (Below w.heap.size w w16) := chain (B15.out.alloc B15.out.size _) hb
  clear hb
  go_wp2_with fail
  refine Calls.mono (M7.out w16.heap.size _ (by simp [go_sem]) (by simp [go_sem])) ?_
  rintro e w17 ⟨rfl, hb⟩
  have B17 : Hid (Below w.heap.size w w17) := chain (B16.out.alloc B16.out.size _) hb
  clear hb
  go_wp2_with fail
  refine Calls.mono (M8.out w17.heap.size _ (by simp [go_sem]) (by simp [go_sem])) ?_
  rintro e w18 ⟨rfl, hb⟩
  have B18 : Hid (Below w.heap.size w w18) := chain (B17.out.alloc B17.out.size _) hb
  clear hb
  go_wp2_with fail
  refine Calls.mono (A7.out w18.heap.size _ (by simp [go_sem]) (by simp [go_sem])) ?_
  rintro e w19 ⟨rfl, hb⟩
  have B19 : Hid (Below w.heap.size w w19) := chain (B18.out.alloc B18.out.size _) hb
  clear hb
  go_wp2_with fail
  refine Calls.mono (S1.out _) ?_
  rintro e w20 ⟨rfl, hb⟩
  have B20 : Hid (Below w.heap.size w w20) := chain B19.out hb
  clear hb
  go_wp2_with fail
  refine Calls.mono (M9.out w20.heap.size _ (by simp [go_sem]) (by simp [go_sem])) ?_
  rintro e w21 ⟨rfl, hb⟩
  have B21 : Hid (Below w.heap.size w w21) := chain (B20.out.alloc B20.out.size _) hb
  clear hb
  go_wp2_with fail
  refine Calls.mono (S0.out _) ?_
  rintro e w22 ⟨rfl, hb⟩
  have B22 : Hid (Below w.heap.size w w22) := chain B21.out hb
  clear hb
  go_wp2_with fail
  refine Calls.mono (A8.out w22.heap.size _ (by simp [go_sem]) (by simp [go_sem])) ?_
  rintro e w23 ⟨rfl, hb⟩
  have B23 : Hid (Below w.heap.size w w23) := chain (B22.out.alloc B22.out.size _) hb
  clear hb
  go_wp2
  go_ret
  exact ⟨rfl, B23.out⟩

end Go.Proofs.Ytmoeijgblhfpdaa
