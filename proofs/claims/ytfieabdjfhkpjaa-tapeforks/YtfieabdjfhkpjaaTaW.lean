/- The chapter's example; numbers from 0 to n - 1; lists that are the same. -/
import Derived.Test.YtfieabdjfhkpjaaTaO
namespace Go.Proofs.Ytfieabdjfhkpjaa
open Go.RowKit Go.Proofs.Fd Go.Proofs.Ta
set_option maxRecDepth 20000

def exL : List UInt8 := [128, 0, 0, 0, 120]
theorem ex_draw : belV 10 exL = 5 ∧ belE 10 exL = 0 ∧ belR 10 exL = [120] := by decide
theorem ex_word : wordV [120] = 0 ∧ wordE [120] = 120 ∧ wordR [120] = [120] := by decide
set_option maxHeartbeats 1000000 in
theorem works_any (w : World) :
    Calls Try.prog 9 #[] w fun e w' => e = .returned (.bool true) ∧ Below w.heap.size w w' := by
  go_enter Try.func9, Try.ntmps9
  go_wp2_with fail
  refine Calls.mono (new_any ⟨exL.toArray⟩ (by decide) w) ?_
  rintro e w1 ⟨p, rfl, ht, hp, hb⟩
  have I1 : Hid (TAt w1 p exL ∧ w.heap.size ≤ p ∧ Below w.heap.size w w1) := ⟨ht, hp, hb⟩
  clear ht hp hb
  have BL := Below_any p exL 10 w1 I1.out.1
  rw [ex_draw.1, ex_draw.2.1, ex_draw.2.2] at BL
  have HB : Hid _ := BL
  clear BL
  go_wp2_with fail
  refine Calls.mono HB.out ?_
  rintro e w2 ⟨rfl, ht, hb⟩
  have I2 : Hid (TAt w2 p [120] ∧ w.heap.size ≤ p ∧ Below w.heap.size w w2) := ⟨ht, I1.out.2.1, I1.out.2.2.trans (hb.below I1.out.2.1 I1.out.2.1 I1.out.2.2.size)⟩
  clear ht hb HB I1
  have WD := Word_any p [120] w2 I2.out.1
  rw [ex_word.1, ex_word.2.1, ex_word.2.2] at WD
  have HW : Hid _ := WD
  clear WD
  go_wp2_with fail
  refine Calls.mono HW.out ?_
  rintro e w3 ⟨rfl, ht, hb⟩
  have I3 : Hid (TAt w3 p [120] ∧ w.heap.size ≤ p ∧ Below w.heap.size w w3) := ⟨ht, I2.out.2.1, I2.out.2.2.trans (hb.below I2.out.2.1 I2.out.2.1 I2.out.2.2.size)⟩
  clear ht hb HW I2
  have LF : Hid _ := left_any p [120] w3 I3.out.1
  go_wp2_with fail
  refine Calls.mono LF.out ?_
  rintro e w4 ⟨rfl, hb⟩
  have I4 : Hid (Below w.heap.size w w4) := chain I3.out.2.2 hb
  clear hb LF I3
  go_wp2
  go_ret
  exact ⟨rfl, I4.out⟩
set_option maxHeartbeats 1000000 in
/-- What among tells: a number below N, the same in any world. -/
theorem among_is (x : Int) (N : Nat) (h0 : 0 < N) (h1 : N ≤ 1000) :
    ∃ m : Nat, m < N ∧ ∀ w, Calls Try.prog 13 #[.int .i64 x, .int .i64 (N : Int)] w fun e w' => e = .returned (.int .i64 (m : Int)) ∧ w' = w := by
  have hN : (0 : Int) < (N : Int) := by omega
  have r1 := Int.tmod_lt_of_pos x hN
  have r2 := Int.lt_tmod_of_pos x hN
  obtain ⟨r, hr⟩ : ∃ r, Int.tmod x (N : Int) = r := ⟨_, rfl⟩
  rw [hr] at r1 r2
  have s1 := Int.tmod_lt_of_pos (r + (N : Int)) hN
  have s2 := Int.tmod_nonneg (N : Int) (show 0 ≤ r + (N : Int) by omega)
  obtain ⟨m, hm⟩ : ∃ m : Nat, Int.tmod (r + (N : Int)) (N : Int) = (m : Int) := ⟨(Int.tmod (r + (N : Int)) (N : Int)).toNat, by omega⟩
  rw [hm] at s1
  have z1 : IntKind.i64.wrap (Int.tmod x (N : Int)) = r := by rw [hr, IntKind.wrap_i64]; omega
  have z2 : IntKind.i64.wrap (r + (N : Int)) = r + (N : Int) := by rw [IntKind.wrap_i64]; omega
  have z3 : IntKind.i64.wrap (Int.tmod (r + (N : Int)) (N : Int)) = (m : Int) := by rw [hm, IntKind.wrap_i64]; omega
  have hN2 : ¬ (N : Int) = 0 := by omega
  refine ⟨m, by omega, fun w => ?_⟩
  clear r1 r2 s1 s2 h0 h1 hN
  go_enter Try.func13, Try.ntmps13
  go_wp2
  go_ret
  exact ⟨rfl, rfl⟩
set_option maxHeartbeats 1000000 in
theorem same_ints (a b : Option Addr) (L : List Int) (n c1 c2 : Nat) (hn : L.length = n) (hn2 : n ≤ 1000000) (w : World) (h1 : Hid (IntAt w a L)) (h2 : Hid (IntAt w b L)) :
    Calls Try.prog 25 #[.slice a n c1, .slice b n c2] w fun e w' => e = .returned (.bool true) ∧ Below w.heap.size w w' := by
  go_enter Try.func25, Try.ntmps25
  go_wp2
  go_loopw [5] (fun i wr => ∃ k : Nat, k ≤ n ∧ i = .int .i64 (k : Int) ∧ Hid (Below w.heap.size w wr)) (fun i _ => n - (intOf i).toNat)
  case atStart => exact ⟨0, by omega, rfl, Below.refl _ _⟩
  case round =>
    obtain ⟨k, hk, rfl, I⟩ := hrel
    by_cases hlt : k < n
    · have g1 : (k : Int) < (n : Int) := by omega
      obtain ⟨b1, o1, rfl, e1⟩ := (h1.out.later I.out) k (by omega)
      obtain ⟨b2, o2, rfl, e2⟩ := (h2.out.later I.out) k (by omega)
      obtain ⟨x, hx⟩ : ∃ x, L[k] = x := ⟨_, rfl⟩
      rw [hx] at e1 e2
      clear hx
      go_wp2
      go_quiet (fail)
      go_wp2
      go_roundw
      case rel => exact ⟨k + 1, by omega, by go_num, below_drewN I.out _⟩
      case measure => simp [intOf]; omega
    · obtain rfl : k = n := by omega
      go_wp2
      go_ret
      exact ⟨rfl, I.out⟩
end Go.Proofs.Ytfieabdjfhkpjaa
