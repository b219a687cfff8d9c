/- FieldSigns answers true: what is subtracted is what is added, times minus one. -/
import Derived.Test.YtmoeijgblhfpdabW18
import Derived.Test.YtmoeijgblhfpdabMath8
namespace Go.Proofs.Ytmoeijgblhfpdab
open Go.RowKit Go.Proofs.Fd

set_option maxHeartbeats 2000000 in
theorem FieldSigns_walk (x y : ByteArray) (hx : x.size ≤ maxLen) (hy : y.size ≤ maxLen) (w : World) :
    Calls Try.prog 5 #[.string x, .string y] w fun e w' => e = .returned (.bool true) ∧ Below w.heap.size w w' := by
  have EX : Hid (∀ w, Calls Try.prog 8 #[.string x] w fun e w' => e = .returned (.string (enc (elt x))) ∧ Below w.heap.size w w') := fun w => element_any x hx w
  have EY : Hid (∀ w, Calls Try.prog 8 #[.string y] w fun e w' => e = .returned (.string (enc (elt y))) ∧ Below w.heap.size w w') := fun w => element_any y hy w
  have ha := elt_lt x
  have hb := elt_lt y
  generalize elt x = a at *
  generalize elt y = b at *
  have S0 : Hid (∀ w, Calls Try.prog 13 #[.int .i64 0] w fun e w' => e = .returned (.string (enc 0)) ∧ Below w.heap.size w w') := fun w => small_k 0 0 rfl (by omega) w
  have S1 : Hid (∀ w, Calls Try.prog 13 #[.int .i64 1] w fun e w' => e = .returned (.string (enc 1)) ∧ Below w.heap.size w w') := fun w => small_k 1 1 rfl (by omega) w
  have SU : Hid (∀ w, Calls Try.prog 9 #[.string (enc 0), .string (enc 1)] w fun e w' => e = .returned (.tuple #[.string (enc (p - 1)), .int .i64 0]) ∧ Below w.heap.size w w') := fun w => by
    have := Sub_el 0 1 (by decide) (by decide) w; rw [minus_one] at this; exact this
  obtain ⟨m, hm⟩ : ∃ m, (p - 1) * b % p = m := ⟨_, rfl⟩
  obtain ⟨d, hd⟩ : ∃ d, (a + p - b) % p = d := ⟨_, rfl⟩
  have lm : m < p := by rw [← hm]; exact Nat.mod_lt _ p_pos
  have MU : Hid (∀ (B : Nat) (w : World), w.cell? ⟨B, 0, none⟩ = some (.string (enc (p - 1))) → w.cell? ⟨B, 1, none⟩ = some (.string (enc b)) → Calls Try.prog 12 #[.slice (some ⟨B, 0, none⟩) 2 2] w fun e w' => e = .returned (.tuple #[.string (enc m), .int .i64 0]) ∧ Below w.heap.size w w') := fun B w h0 h1 => by
    have := Mul2_el (p - 1) b B (by decide) hb w h0 h1; rw [hm] at this; exact this
  have AD : Hid (∀ (B : Nat) (w : World), w.cell? ⟨B, 0, none⟩ = some (.string (enc a)) → w.cell? ⟨B, 1, none⟩ = some (.string (enc m)) → Calls Try.prog 10 #[.slice (some ⟨B, 0, none⟩) 2 2] w fun e w' => e = .returned (.tuple #[.string (enc d), .int .i64 0]) ∧ Below w.heap.size w w') := fun B w h0 h1 => by
    have := Add2_el a m B ha lm w h0 h1; rw [← hm, neg_val hb, hd] at this; exact this
  have SD : Hid (∀ w, Calls Try.prog 9 #[.string (enc a), .string (enc b)] w fun e w' => e = .returned (.tuple #[.string (enc d), .int .i64 0]) ∧ Below w.heap.size w w') := fun w => by
    have := Sub_el a b ha hb w; rw [hd] at this; exact this
  clear hm hd lm ha hb hx hy
  go_enter Try.func5, Try.ntmps5
  go_wp2_with fail
  refine Calls.mono (works_any _) ?_
  rintro e w1 ⟨rfl, hb⟩
  have B1 : Hid (Below w.heap.size w w1) := hb
  clear hb
  go_wp2_with fail
  refine Calls.mono (EX.out _) ?_
  rintro e w2 ⟨rfl, hb⟩
  have B2 : Hid (Below w.heap.size w w2) := chain B1.out hb
  clear hb
  go_wp2_with fail
  refine Calls.mono (EY.out _) ?_
  rintro e w3 ⟨rfl, hb⟩
  have B3 : Hid (Below w.heap.size w w3) := chain B2.out hb
  clear hb
  go_wp2_with fail
  refine Calls.mono (S0.out _) ?_
  rintro e w4 ⟨rfl, hb⟩
  have B4 : Hid (Below w.heap.size w w4) := chain B3.out hb
  clear hb
  go_wp2_with fail
  refine Calls.mono (S1.out _) ?_
  rintro e w5 ⟨rfl, hb⟩
  have B5 : Hid (Below w.heap.size w w5) := chain B4.out hb
  clear hb
  go_wp2_with fail
  refine Calls.mono (SU.out _) ?_
  rintro e w6 ⟨rfl, hb⟩
  have B6 : Hid (Below w.heap.size w w6) := chain B5.out hb
  clear hb
  go_wp2_with fail
  refine Calls.mono (MU.out w6.heap.size _ (by simp [go_sem]) (by simp [go_sem])) ?_
  rintro e w7 ⟨rfl, hb⟩
  have B7 : Hid (Below w.heap.size w w7) := chain (B6.out.alloc B6.out.size _) hb
  clear hb
  go_wp2_with fail
  refine Calls.mono (AD.out w7.heap.size _ (by simp [go_sem]) (by simp [go_sem])) ?_
  rintro e w8 ⟨rfl, hb⟩
  have B8 : Hid (Below w.heap.size w w8) := chain (B7.out.alloc B7.out.size _) hb
  clear hb
  go_wp2_with fail
  refine Calls.mono (SD.out _) ?_
  rintro e w9 ⟨rfl, hb⟩
  have B9 : Hid (Below w.heap.size w w9) := chain B8.out hb
  clear hb
  go_wp2
  go_ret
  exact ⟨rfl, B9.out⟩

end Go.Proofs.Ytmoeijgblhfpdab
