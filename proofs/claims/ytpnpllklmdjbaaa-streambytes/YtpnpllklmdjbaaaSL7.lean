/- StreamBytes answers true. -/
import Derived.Test.YtpnpllklmdjbaaaSD3
import Derived.Test.YtpnpllklmdjbaaaSL2
namespace Go.Proofs.Ytpnpllklmdjbaaa
open Go.RowKit Go.Proofs.Fd Go.Proofs.Hs Go.Proofs.Cc

set_option maxHeartbeats 1000000 in
theorem StreamBytes_same (k n : ByteArray) (m : Int) (w : World) (X : ByteArray) (e0 : Int)
    (P1 : Hid (∀ w, Calls Try.prog 14 #[.string k, .string n, .int .i64 m] w fun e w' => e = .returned (.tuple #[.string X, .int .i64 e0]) ∧ Below w.heap.size w w'))
    (P2 : Hid (∀ w, Calls Try.prog 15 #[.string k, .string n, .int .i64 m] w fun e w' => e = .returned (.tuple #[.string X, .int .i64 e0]) ∧ Below w.heap.size w w')) (hg : ¬ (5000 < m ∧ m ≤ 65536)) :
    Calls Try.prog 5 #[.agg #[.string k, .string n], .int .i64 m] w fun e w' => e = .returned (.bool true) ∧ Below w.heap.size w w' := by
  have WK : Hid (∀ w, Calls Try.prog 11 #[] w fun e w' => e = .returned (.bool true) ∧ Below w.heap.size w w') := works5_any
  by_cases h5 : 5000 < m
  · have h6 : 65536 < m := by omega
    have h7 : ¬ m ≤ 65536 := by omega
    clear hg
    go_enter Try.func5, Try.ntmps5
    go_wp2_with fail
    refine Calls.mono (P1.out _) ?_
    rintro e w1 ⟨rfl, hb⟩
    have B1 : Hid (Below w.heap.size w w1) := chain ((Below.refl _ _).alloc (Nat.le_refl _) _) hb
    have c0 : w1.cell? ⟨w.heap.size, 0, none⟩ = some (.string k) := cell_later hb (by simp [go_sem])
    have c1 : w1.cell? ⟨w.heap.size, 1, none⟩ = some (.string n) := cell_later hb (by simp [go_sem])
    clear hb P1
    go_wp2_with fail
    refine Calls.mono (P2.out _) ?_
    rintro e w2 ⟨rfl, hb⟩
    have B2 : Hid (Below w.heap.size w w2) := chain B1.out hb
    clear hb P2 B1
    go_wp2_with fail
    refine Calls.mono (WK.out _) ?_
    rintro e w3 ⟨rfl, hb⟩
    have B3 : Hid (Below w.heap.size w w3) := chain B2.out hb
    clear hb B2
    go_wp2
    go_ret
    exact ⟨rfl, B3.out⟩
  · have h6 : m ≤ 5000 := by omega
    clear hg
    go_enter Try.func5, Try.ntmps5
    go_wp2_with fail
    refine Calls.mono (P1.out _) ?_
    rintro e w1 ⟨rfl, hb⟩
    have B1 : Hid (Below w.heap.size w w1) := chain ((Below.refl _ _).alloc (Nat.le_refl _) _) hb
    have c0 : w1.cell? ⟨w.heap.size, 0, none⟩ = some (.string k) := cell_later hb (by simp [go_sem])
    have c1 : w1.cell? ⟨w.heap.size, 1, none⟩ = some (.string n) := cell_later hb (by simp [go_sem])
    clear hb P1
    go_wp2_with fail
    refine Calls.mono (P2.out _) ?_
    rintro e w2 ⟨rfl, hb⟩
    have B2 : Hid (Below w.heap.size w w2) := chain B1.out hb
    clear hb P2 B1
    go_wp2_with fail
    refine Calls.mono (WK.out _) ?_
    rintro e w3 ⟨rfl, hb⟩
    have B3 : Hid (Below w.heap.size w w3) := chain B2.out hb
    clear hb B2
    go_wp2
    go_ret
    exact ⟨rfl, B3.out⟩

set_option maxHeartbeats 1000000 in
theorem StreamBytes_walk (k n : ByteArray) (m : Int) (w : World) :
    Calls Try.prog 5 #[.agg #[.string k, .string n], .int .i64 m] w fun e w' => e = .returned (.bool true) ∧ Below w.heap.size w w' := by
  by_cases hg : 5000 < m ∧ m ≤ 65536
  · obtain ⟨g1, g2⟩ := hg
    have WK : Hid (∀ w, Calls Try.prog 11 #[] w fun e w' => e = .returned (.bool true) ∧ Below w.heap.size w w') := works5_any
    go_enter Try.func5, Try.ntmps5
    go_wp2_with fail
    refine Calls.mono (WK.out _) ?_
    rintro e w3 ⟨rfl, hb⟩
    have B3 : Hid (Below w.heap.size w w3) := chain ((Below.refl _ _).alloc (Nat.le_refl _) _) hb
    clear hb
    go_wp2
    go_ret
    exact ⟨rfl, B3.out⟩
  · by_cases h : merr k n 0 = 0
    · obtain ⟨h1, h2, -, -⟩ := merr_zero k n 0 h
      by_cases hm : m < 0 ∨ 65536 < m
      · exact StreamBytes_same k n m w _ 1 (fun w => sBytes_range k n m h hm w) (fun w => rBytes_range k n m h hm w) hg
      · obtain ⟨q, rfl⟩ : ∃ q : Nat, m = (q : Int) := ⟨m.toNat, by omega⟩
        exact StreamBytes_same k n _ w _ 0 (fun w => sBytes_ok k n q h1 h2 (by omega) w) (fun w => rBytes_ok k n q h1 h2 (by omega) w) hg
    · exact StreamBytes_same k n m w _ _ (fun w => sBytes_no k n m h w) (fun w => rBytes_no k n m h w) hg

end Go.Proofs.Ytpnpllklmdjbaaa
