/- StreamBlocks answers true. -/
import Derived.Test.YtpnpllklmdjbaaaSD3
import Derived.Test.YtpnpllklmdjbaaaSL2
namespace Go.Proofs.Ytpnpllklmdjbaaa
open Go.RowKit Go.Proofs.Fd Go.Proofs.Hs Go.Proofs.Cc

set_option maxHeartbeats 1000000 in
theorem StreamBlocks_same (k n : ByteArray) (c : Int) (w : World) (X : ByteArray) (e0 : Int)
    (P1 : Hid (∀ w, Calls Try.prog 9 #[.string k, .string n, .int .i64 c] w fun e w' => e = .returned (.tuple #[.string X, .int .i64 e0]) ∧ Below w.heap.size w w'))
    (P2 : Hid (∀ w, Calls Try.prog 10 #[.string k, .string n, .int .i64 c] w fun e w' => e = .returned (.tuple #[.string X, .int .i64 e0]) ∧ Below w.heap.size w w')) :
    Calls Try.prog 3 #[.string k, .string n, .int .i64 c] w fun e w' => e = .returned (.bool true) ∧ Below w.heap.size w w' := by
  have WK : Hid (∀ w, Calls Try.prog 11 #[] w fun e w' => e = .returned (.bool true) ∧ Below w.heap.size w w') := works5_any
  go_enter Try.func3, Try.ntmps3
  go_wp2_with fail
  refine Calls.mono (P1.out _) ?_
  rintro e w1 ⟨rfl, hb⟩
  have B1 : Hid (Below w.heap.size w w1) := hb
  clear hb P1
  go_wp2_with fail
  refine Calls.mono (P2.out _) ?_
  rintro e w2 ⟨rfl, hb⟩
  have B2 : Hid (Below w.heap.size w w2) := chain B1.out hb
  clear hb P2 B1
  go_wp2_with fail
  refine Calls.mono (WK.out _) ?_
  rintro e w3 ⟨rfl, hb⟩
  have B3 : Hid (Below w.heap.size w w3) := chain B2.out hb
  clear hb B2
  go_wp2
  go_ret
  exact ⟨rfl, B3.out⟩

theorem StreamBlocks_walk (k n : ByteArray) (c : Int) (w : World) :
    Calls Try.prog 3 #[.string k, .string n, .int .i64 c] w fun e w' => e = .returned (.bool true) ∧ Below w.heap.size w w' := by
  by_cases h : merr k n c = 0
  · obtain ⟨h1, h2, h3, h4⟩ := merr_zero k n c h
    have e : c = tv (UInt32.ofNat c.toNat) := (tv_of c h3 (by omega)).symm
    rw [e]
    exact StreamBlocks_same k n _ w _ 0 (fun w => sBlock_ok k n _ h1 h2 w) (fun w => rBlock_ok k n _ h1 h2 w)
  · exact StreamBlocks_same k n c w _ _ (fun w => sBlock_no k n c h w) (fun w => rBlock_no k n c h w)

end Go.Proofs.Ytpnpllklmdjbaaa
