/- StreamXors answers true. -/
import Derived.Test.YtpnpllklmdjbaaaSD3
import Derived.Test.YtpnpllklmdjbaaaSL2
namespace Go.Proofs.Ytpnpllklmdjbaaa
open Go.RowKit Go.Proofs.Fd Go.Proofs.Hs Go.Proofs.Cc

set_option maxHeartbeats 1000000 in
theorem StreamXors_same (k n : ByteArray) (c : Int) (t : ByteArray) (w : World) (X : ByteArray) (e0 : Int)
    (P1 : Hid (∀ w, Calls Try.prog 12 #[.string k, .string n, .int .i64 c, .string t] w fun e w' => e = .returned (.tuple #[.string X, .int .i64 e0]) ∧ Below w.heap.size w w'))
    (P2 : Hid (∀ w, Calls Try.prog 13 #[.string k, .string n, .int .i64 c, .string t] w fun e w' => e = .returned (.tuple #[.string X, .int .i64 e0]) ∧ Below w.heap.size w w')) :
    Calls Try.prog 4 #[.agg #[.string k, .string n], .int .i64 c, .string t] w fun e w' => e = .returned (.bool true) ∧ Below w.heap.size w w' := by
  have WK : Hid (∀ w, Calls Try.prog 11 #[] w fun e w' => e = .returned (.bool true) ∧ Below w.heap.size w w') := works5_any
  go_enter Try.func4, Try.ntmps4
  go_wp2_with fail
  refine Calls.mono (P1.out _) ?_
  rintro e w1 ⟨rfl, hb⟩
  have B1 : Hid (Below w.heap.size w w1) := chain ((Below.refl _ _).alloc (Nat.le_refl _) _) hb
  have c0 : w1.cell? ⟨w.heap.size, 0, none⟩ = some (.string k) := cell_later hb (by simp [go_sem])
  have c1 : w1.cell? ⟨w.heap.size, 1, none⟩ = some (.string n) := cell_later hb (by simp [go_sem])
  clear hb P1
  go_wp2_with fail
  refine Calls.mono (P2.out _) ?_
  rintro e w2 ⟨rfl, hb⟩
  have B2 : Hid (Below w.heap.size w w2) := chain B1.out hb
  clear hb P2 B1
  go_wp2_with fail
  refine Calls.mono (WK.out _) ?_
  rintro e w3 ⟨rfl, hb⟩
  have B3 : Hid (Below w.heap.size w w3) := chain B2.out hb
  clear hb B2
  go_wp2
  go_ret
  exact ⟨rfl, B3.out⟩

theorem StreamXors_walk (k n : ByteArray) (c : Int) (t : ByteArray) (_ : t.size ≤ 9223372036854775807) (w : World) :
    Calls Try.prog 4 #[.agg #[.string k, .string n], .int .i64 c, .string t] w fun e w' => e = .returned (.bool true) ∧ Below w.heap.size w w' := by
  by_cases h : merr k n c = 0
  · obtain ⟨h1, h2, h3, h4⟩ := merr_zero k n c h
    by_cases ht : 65536 < t.size
    · exact StreamXors_same k n c t w _ 2 (fun w => sXor_long k n c t h ht w) (fun w => rXor_long k n c t h ht w)
    · have e : c = tv (UInt32.ofNat c.toNat) := (tv_of c h3 (by omega)).symm
      rw [e]
      exact StreamXors_same k n _ t w _ 0 (fun w => sXor_ok k n _ t h1 h2 (by omega) w) (fun w => rXor_ok k n _ t h1 h2 (by omega) w)
  · exact StreamXors_same k n c t w _ _ (fun w => sXor_no k n c t h w) (fun w => rXor_no k n c t h w)

end Go.Proofs.Ytpnpllklmdjbaaa
