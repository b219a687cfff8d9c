/- FieldBack answers true. -/
import Derived.Test.YtmoeijgblhfpdabW18
import Derived.Test.YtmoeijgblhfpdabMath9
namespace Go.Proofs.Ytmoeijgblhfpdab
open Go.RowKit Go.Proofs.Fd

set_option maxHeartbeats 2000000 in
theorem FieldBack_core (x y : ByteArray) (a b I J one : Nat) (w : World)
    (EX : Hid (∀ w, Calls Try.prog 8 #[.string x] w fun e w' => e = .returned (.string (enc a)) ∧ Below w.heap.size w w'))
    (EY : Hid (∀ w, Calls Try.prog 8 #[.string y] w fun e w' => e = .returned (.string (enc b)) ∧ Below w.heap.size w w'))
    (IV : Hid (∀ w, Calls Try.prog 11 #[.string (enc a)] w fun e w' => e = .returned (.tuple #[.string (enc I), .int .i64 0]) ∧ Below w.heap.size w w'))
    (IJ : Hid (∀ w, Calls Try.prog 11 #[.string (enc I)] w fun e w' => e = .returned (.tuple #[.string (enc a), .int .i64 0]) ∧ Below w.heap.size w w'))
    (SU : Hid (∀ w, Calls Try.prog 9 #[.string (enc a), .string (enc b)] w fun e w' => e = .returned (.tuple #[.string (enc J), .int .i64 0]) ∧ Below w.heap.size w w'))
    (AD : Hid (∀ (B : Nat) (w : World), w.cell? ⟨B, 0, none⟩ = some (.string (enc J)) → w.cell? ⟨B, 1, none⟩ = some (.string (enc b)) → Calls Try.prog 10 #[.slice (some ⟨B, 0, none⟩) 2 2] w fun e w' => e = .returned (.tuple #[.string (enc a), .int .i64 0]) ∧ Below w.heap.size w w'))
    (MU : Hid (∀ (B : Nat) (w : World), w.cell? ⟨B, 0, none⟩ = some (.string (enc a)) → w.cell? ⟨B, 1, none⟩ = some (.string (enc I)) → Calls Try.prog 12 #[.slice (some ⟨B, 0, none⟩) 2 2] w fun e w' => e = .returned (.tuple #[.string (enc one), .int .i64 0]) ∧ Below w.heap.size w w'))
    (hcase : (Hid (a = 0 ∧ one = 0 ∧ I = 0)) ∨ (((enc a).toList == (enc 0).toList) = false ∧ Hid (one = 1))) :
    Calls Try.prog 3 #[.string x, .string y] w fun e w' => e = .returned (.bool true) ∧ Below w.heap.size w w' := by
  have S0 : Hid (∀ w, Calls Try.prog 13 #[.int .i64 0] w fun e w' => e = .returned (.string (enc 0)) ∧ Below w.heap.size w w') := fun w => small_k 0 0 rfl (by omega) w
  have S1 : Hid (∀ w, Calls Try.prog 13 #[.int .i64 1] w fun e w' => e = .returned (.string (enc 1)) ∧ Below w.heap.size w w') := fun w => small_k 1 1 rfl (by omega) w
  rcases hcase with hz | ⟨hne, h1⟩
  · obtain ⟨rfl, rfl, rfl⟩ := hz.out
    go_enter Try.func3, Try.ntmps3
    go_wp2_with fail
    refine Calls.mono (works_any _) ?_
    rintro e w1 ⟨rfl, hb⟩
    have B1 : Hid (Below w.heap.size w w1) := hb
    clear hb
    go_wp2_with fail
    refine Calls.mono (EX.out _) ?_
    rintro e w2 ⟨rfl, hb⟩
    have B2 : Hid (Below w.heap.size w w2) := chain B1.out hb
    clear hb
    go_wp2_with fail
    refine Calls.mono (EY.out _) ?_
    rintro e w3 ⟨rfl, hb⟩
    have B3 : Hid (Below w.heap.size w w3) := chain B2.out hb
    clear hb
    go_wp2_with fail
    refine Calls.mono (SU.out _) ?_
    rintro e w4 ⟨rfl, hb⟩
    have B4 : Hid (Below w.heap.size w w4) := chain B3.out hb
    clear hb
    go_wp2_with fail
    refine Calls.mono (AD.out w4.heap.size _ (by simp [go_sem]) (by simp [go_sem])) ?_
    rintro e w5 ⟨rfl, hb⟩
    have B5 : Hid (Below w.heap.size w w5) := chain (B4.out.alloc B4.out.size _) hb
    clear hb
    go_wp2_with fail
    refine Calls.mono (IV.out _) ?_
    rintro e w6 ⟨rfl, hb⟩
    have B6 : Hid (Below w.heap.size w w6) := chain B5.out hb
    clear hb
    go_wp2_with fail
    refine Calls.mono (MU.out w6.heap.size _ (by simp [go_sem]) (by simp [go_sem])) ?_
    rintro e w7 ⟨rfl, hb⟩
    have B7 : Hid (Below w.heap.size w w7) := chain (B6.out.alloc B6.out.size _) hb
    clear hb
    go_wp2_with fail
    refine Calls.mono (IJ.out _) ?_
    rintro e w8 ⟨rfl, hb⟩
    have B8 : Hid (Below w.heap.size w w8) := chain B7.out hb
    clear hb
    go_wp2_with fail
    refine Calls.mono (S0.out _) ?_
    rintro e w9 ⟨rfl, hb⟩
    have B9 : Hid (Below w.heap.size w w9) := chain B8.out hb
    clear hb
    go_wp2_with fail
    refine Calls.mono (S0.out _) ?_
    rintro e w10 ⟨rfl, hb⟩
    have B10 : Hid (Below w.heap.size w w10) := chain B9.out hb
    clear hb
    go_wp2_with fail
    refine Calls.mono (S0.out _) ?_
    rintro e w11 ⟨rfl, hb⟩
    have B11 : Hid (Below w.heap.size w w11) := chain B10.out hb
    clear hb
    go_wp2
    go_ret
    exact ⟨rfl, B11.out⟩
  · have e1 := h1.out; subst e1
    go_enter Try.func3, Try.ntmps3
    go_wp2_with fail
    refine Calls.mono (works_any _) ?_
    rintro e w1 ⟨rfl, hb⟩
    have B1 : Hid (Below w.heap.size w w1) := hb
    clear hb
    go_wp2_with fail
    refine Calls.mono (EX.out _) ?_
    rintro e w2 ⟨rfl, hb⟩
    have B2 : Hid (Below w.heap.size w w2) := chain B1.out hb
    clear hb
    go_wp2_with fail
    refine Calls.mono (EY.out _) ?_
    rintro e w3 ⟨rfl, hb⟩
    have B3 : Hid (Below w.heap.size w w3) := chain B2.out hb
    clear hb
    go_wp2_with fail
    refine Calls.mono (SU.out _) ?_
    rintro e w4 ⟨rfl, hb⟩
    have B4 : Hid (Below w.heap.size w w4) := chain B3.out hb
    clear hb
    go_wp2_with fail
    refine Calls.mono (AD.out w4.heap.size _ (by simp [go_sem]) (by simp [go_sem])) ?_
    rintro e w5 ⟨rfl, hb⟩
    have B5 : Hid (Below w.heap.size w w5) := chain (B4.out.alloc B4.out.size _) hb
    clear hb
    go_wp2_with fail
    refine Calls.mono (IV.out _) ?_
    rintro e w6 ⟨rfl, hb⟩
    have B6 : Hid (Below w.heap.size w w6) := chain B5.out hb
    clear hb
    go_wp2_with fail
    refine Calls.mono (MU.out w6.heap.size _ (by simp [go_sem]) (by simp [go_sem])) ?_
    rintro e w7 ⟨rfl, hb⟩
    have B7 : Hid (Below w.heap.size w w7) := chain (B6.out.alloc B6.out.size _) hb
    clear hb
    go_wp2_with fail
    refine Calls.mono (IJ.out _) ?_
    rintro e w8 ⟨rfl, hb⟩
    have B8 : Hid (Below w.heap.size w w8) := chain B7.out hb
    clear hb
    go_wp2_with fail
    refine Calls.mono (S0.out _) ?_
    rintro e w9 ⟨rfl, hb⟩
    have B9 : Hid (Below w.heap.size w w9) := chain B8.out hb
    clear hb
    go_wp2_with fail
    refine Calls.mono (S1.out _) ?_
    rintro e w10 ⟨rfl, hb⟩
    have B10 : Hid (Below w.heap.size w w10) := chain B9.out hb
    clear hb
    go_wp2
    go_ret
    exact ⟨rfl, B10.out⟩

theorem FieldBack_walk (x y : ByteArray) (hx : x.size ≤ maxLen) (hy : y.size ≤ maxLen) (w : World) :
    Calls Try.prog 3 #[.string x, .string y] w fun e w' => e = .returned (.bool true) ∧ Below w.heap.size w w' := by
  have ha := elt_lt x
  have hb := elt_lt y
  have h3 : elt x ^ (p - 2) % p < p := Nat.mod_lt _ p_pos
  refine FieldBack_core x y (elt x) (elt y) (elt x ^ (p - 2) % p) ((elt x + p - elt y) % p) (elt x * (elt x ^ (p - 2) % p) % p) w (fun w => element_any x hx w) (fun w => element_any y hy w)
    (fun w => Inv_el _ ha w) (fun w => ?_) (fun w => Sub_el _ _ ha hb w) (fun B w h0 h1 => ?_) (fun B w h0 h1 => Mul2_el _ _ B ha h3 w h0 h1) ?_
  · have := Inv_el _ h3 w
    have e : (elt x ^ (p - 2) % p) ^ (p - 2) % p = elt x := by
      rcases Nat.eq_zero_or_pos (elt x) with hz | hz
      · rw [hz, inv_zero, inv_zero]
      · exact inv_inv hz ha
    rw [e] at this
    exact this
  · have := Add2_el _ (elt y) B (Nat.mod_lt _ p_pos) hb w h0 h1
    rw [back_val ha hb] at this
    exact this
  · rcases Nat.eq_zero_or_pos (elt x) with hz | hz
    · left
      rw [hz, inv_zero]
      exact ⟨rfl, rfl, rfl⟩
    · right
      refine ⟨?_, inv_mul hz ha⟩
      rw [beq_eq_false_iff_ne]
      intro he
      rw [ByteArray.toList_eq, ByteArray.toList_eq] at he
      have h1 := num_enc_p ha
      rw [he, num_enc_p p_pos] at h1
      omega

end Go.Proofs.Ytmoeijgblhfpdab
