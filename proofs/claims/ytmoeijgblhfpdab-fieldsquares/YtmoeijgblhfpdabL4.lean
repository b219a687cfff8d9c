/- FieldSquares answers true. -/
import Derived.Test.YtmoeijgblhfpdabW19
import Derived.Test.YtmoeijgblhfpdabMath8
namespace Go.Proofs.Ytmoeijgblhfpdab
open Go.RowKit Go.Proofs.Fd

theorem rem100 (n : Int) : ∃ t : Nat, t < 100 ∧ (IntKind.u64.wrap n).tmod 100 = (t : Int) := by
  have h0 : 0 ≤ n % 18446744073709551616 := Int.emod_nonneg _ (by decide)
  refine ⟨(n % 18446744073709551616 % 100).toNat, ?_, ?_⟩
  · omega
  · rw [IntKind.wrap_u64, Int.tmod_eq_emod_of_nonneg h0]
    omega

set_option maxHeartbeats 2000000 in
theorem FieldSquares_walk (x : ByteArray) (n m : Int) (hx : x.size ≤ maxLen) (w : World) :
    Calls Try.prog 4 #[.string x, .int .i64 n, .int .i64 m] w fun e w' => e = .returned (.bool true) ∧ Below w.heap.size w w' := by
  have EX : Hid (∀ w, Calls Try.prog 8 #[.string x] w fun e w' => e = .returned (.string (enc (elt x))) ∧ Below w.heap.size w w') := fun w => element_any x hx w
  have ha := elt_lt x
  generalize elt x = a at *
  obtain ⟨t, ht, et⟩ := rem100 n
  obtain ⟨u, hu, eu⟩ := rem100 m
  have bt : (t : Int) < 100 := by omega
  have bu : (u : Int) < 100 := by omega
  obtain ⟨S, hS⟩ : ∃ S, a ^ 2 ^ t % p = S := ⟨_, rfl⟩
  obtain ⟨U, hU⟩ : ∃ U, a ^ 2 ^ (t + u) % p = U := ⟨_, rfl⟩
  obtain ⟨V, hV⟩ : ∃ V, a * a % p = V := ⟨_, rfl⟩
  have lS : S < p := by rw [← hS]; exact Nat.mod_lt _ p_pos
  have Q1 : Hid (∀ w, Calls Try.prog 14 #[.string (enc a), .int .i64 (t : Int)] w fun e w' => e = .returned (.tuple #[.string (enc S), .int .i64 0]) ∧ Below w.heap.size w w') := fun w => by
    have := Square_el a t t rfl ha (by omega) w; rw [hS] at this; exact this
  have Q2 : Hid (∀ w, Calls Try.prog 14 #[.string (enc S), .int .i64 (u : Int)] w fun e w' => e = .returned (.tuple #[.string (enc U), .int .i64 0]) ∧ Below w.heap.size w w') := fun w => by
    have := Square_el S u u rfl lS (by omega) w; rw [← hS, sq_sq, hU, hS] at this; exact this
  have Q3 : Hid (∀ w, Calls Try.prog 14 #[.string (enc a), .int .i64 ((t : Int) + (u : Int))] w fun e w' => e = .returned (.tuple #[.string (enc U), .int .i64 0]) ∧ Below w.heap.size w w') := fun w => by
    have := Square_el a ((t : Int) + (u : Int)) (t + u) (by omega) ha (by omega) w; rw [hU] at this; exact this
  have Q4 : Hid (∀ w, Calls Try.prog 14 #[.string (enc a), .int .i64 1] w fun e w' => e = .returned (.tuple #[.string (enc V), .int .i64 0]) ∧ Below w.heap.size w w') := fun w => by
    have := Square_el a 1 1 rfl ha (by omega) w; rw [sq_one, hV] at this; exact this
  have MU : Hid (∀ (B : Nat) (w : World), w.cell? ⟨B, 0, none⟩ = some (.string (enc a)) → w.cell? ⟨B, 1, none⟩ = some (.string (enc a)) → Calls Try.prog 12 #[.slice (some ⟨B, 0, none⟩) 2 2] w fun e w' => e = .returned (.tuple #[.string (enc V), .int .i64 0]) ∧ Below w.heap.size w w') := fun B w h0 h1 => by
    have := Mul2_el a a B ha ha w h0 h1; rw [hV] at this; exact this
  clear hS hU hV lS ha hx ht hu
  go_enter Try.func4, Try.ntmps4
  go_wp2_with fail
  refine Calls.mono (works_any _) ?_
  rintro e w1 ⟨rfl, hb⟩
  have B1 : Hid (Below w.heap.size w w1) := hb
  clear hb
  go_wp2_with fail
  refine Calls.mono (EX.out _) ?_
  rintro e w2 ⟨rfl, hb⟩
  have B2 : Hid (Below w.heap.size w w2) := chain B1.out hb
  clear hb
  go_wp2_with fail
  refine Calls.mono (Q1.out _) ?_
  rintro e w3 ⟨rfl, hb⟩
  have B3 : Hid (Below w.heap.size w w3) := chain B2.out hb
  clear hb
  go_wp2_with fail
  refine Calls.mono (Q2.out _) ?_
  rintro e w4 ⟨rfl, hb⟩
  have B4 : Hid (Below w.heap.size w w4) := chain B3.out hb
  clear hb
  go_wp2_with fail
  refine Calls.mono (Q3.out _) ?_
  rintro e w5 ⟨rfl, hb⟩
  have B5 : Hid (Below w.heap.size w w5) := chain B4.out hb
  clear hb
  go_wp2_with fail
  refine Calls.mono (Q4.out _) ?_
  rintro e w6 ⟨rfl, hb⟩
  have B6 : Hid (Below w.heap.size w w6) := chain B5.out hb
  clear hb
  go_wp2_with fail
  refine Calls.mono (MU.out w6.heap.size _ (by simp [go_sem]) (by simp [go_sem])) ?_
  rintro e w7 ⟨rfl, hb⟩
  have B7 : Hid (Below w.heap.size w w7) := chain (B6.out.alloc B6.out.size _) hb
  clear hb
  go_wp2
  go_ret
  exact ⟨rfl, B7.out⟩

end Go.Proofs.Ytmoeijgblhfpdab
