/- What the document derives. -/
import Derived.Test.YtdebfelgaiofeacDoorKD2
namespace Go.Proofs.YtdebfelgaiofeacDoor
open Go.RowKit Go.Proofs.Fd Go.Proofs.Hs

set_option maxHeartbeats 1000000 in
theorem rDerive_ok (secret label : ByteArray) (n : Nat) (hn : n ≤ 8160) (hk : Hid (secret.size + 64 ≤ 140737488355328)) (hi : Hid (label.size + 97 ≤ 140737488355328)) (w : World) :
    Calls Tryd.prog 20 #[.string secret, .string label, .int .i64 (n : Int)] w fun e w' => e = .returned (.tuple #[.string ⟨(drv secret.data.toList label.data.toList n).toArray⟩, .int .i64 0]) ∧ Below w.heap.size w w' := by
  have T1 : Hid (∀ w, Calls Tryd.prog 12 #[.string ⟨#[100, 111, 118, 101, 99, 111, 116, 101]⟩, .string secret] w fun e w' => e = .returned (.string ⟨(hmac [100, 111, 118, 101, 99, 111, 116, 101] secret.data.toList).toArray⟩) ∧ Below w.heap.size w w') := fun w => rTag_any ⟨#[100, 111, 118, 101, 99, 111, 116, 101]⟩ secret (by show (8 : Nat) ≤ _; decide) hk w
  have E1 : Hid (∀ w, Calls Tryd.prog 18 #[.string ⟨(hmac [100, 111, 118, 101, 99, 111, 116, 101] secret.data.toList).toArray⟩, .string label, .int .i64 (n : Int)] w fun e w' => e = .returned (.tuple #[.string ⟨(drv secret.data.toList label.data.toList n).toArray⟩, .int .i64 0]) ∧ Below w.heap.size w w') := fun w => rExpand_ok ⟨(hmac [100, 111, 118, 101, 99, 111, 116, 101] secret.data.toList).toArray⟩ label n hn (by show _ ≤ _; rw [ba_size, hmac_len]; decide) hi w
  generalize (⟨(drv secret.data.toList label.data.toList n).toArray⟩ : ByteArray) = R at *
  generalize (⟨(hmac [100, 111, 118, 101, 99, 111, 116, 101] secret.data.toList).toArray⟩ : ByteArray) = K at *
  go_enter Tryd.func20, Tryd.ntmps20
  go_wp2_with fail
  refine Calls.mono (T1.out _) ?_
  rintro e w1 ⟨rfl, hb⟩
  have B1 : Hid (Below w.heap.size w w1) := hb
  clear hb T1
  go_wp2_with fail
  refine Calls.mono (E1.out _) ?_
  rintro e w2 ⟨rfl, hb⟩
  have B2 : Hid (Below w.heap.size w w2) := chain B1.out hb
  clear hb E1
  go_wp2
  go_ret2
  exact ⟨rfl, B2.out⟩

set_option maxHeartbeats 1000000 in
theorem rDerive_no (secret label : ByteArray) (n : Int) (hn : n < 0 ∨ 8160 < n) (hk : Hid (secret.size + 64 ≤ 140737488355328)) (w : World) :
    Calls Tryd.prog 20 #[.string secret, .string label, .int .i64 n] w fun e w' => e = .returned (.tuple #[.string ⟨#[]⟩, .int .i64 1]) ∧ Below w.heap.size w w' := by
  have T1 : Hid (∀ w, Calls Tryd.prog 12 #[.string ⟨#[100, 111, 118, 101, 99, 111, 116, 101]⟩, .string secret] w fun e w' => e = .returned (.string ⟨(hmac [100, 111, 118, 101, 99, 111, 116, 101] secret.data.toList).toArray⟩) ∧ Below w.heap.size w w') := fun w => rTag_any ⟨#[100, 111, 118, 101, 99, 111, 116, 101]⟩ secret (by show (8 : Nat) ≤ _; decide) hk w
  generalize (⟨(hmac [100, 111, 118, 101, 99, 111, 116, 101] secret.data.toList).toArray⟩ : ByteArray) = K at *
  have E1 : Hid (∀ w, Calls Tryd.prog 18 #[.string K, .string label, .int .i64 n] w fun e w' => e = .returned (.tuple #[.string ⟨#[]⟩, .int .i64 1]) ∧ Below w.heap.size w w') := fun w => rExpand_no K label n hn w
  clear hn
  go_enter Tryd.func20, Tryd.ntmps20
  go_wp2_with fail
  refine Calls.mono (T1.out _) ?_
  rintro e w1 ⟨rfl, hb⟩
  have B1 : Hid (Below w.heap.size w w1) := hb
  clear hb T1
  go_wp2_with fail
  refine Calls.mono (E1.out _) ?_
  rintro e w2 ⟨rfl, hb⟩
  have B2 : Hid (Below w.heap.size w w2) := chain B1.out hb
  clear hb E1
  go_wp2
  go_ret2
  exact ⟨rfl, B2.out⟩
end Go.Proofs.YtdebfelgaiofeacDoor
