/- What Public and Shared of package curve do. -/
import Derived.Test.YtdebfelgaiofeaaC6
namespace Go.Proofs.Ytdebfelgaiofeaa
open Go.RowKit Go.Proofs.Fd Go.Proofs.Ed

theorem ek_inj {a b : K} (h : ek a = ek b) : a = b := Fin.ext (enc_inj (Nat.lt_trans a.isLt p_lt) (Nat.lt_trans b.isLt p_lt) h)
theorem pt_nine : ptN (num (enc 9).data.toList) = 9 := by rw [num_enc (by decide)]; decide +kernel
theorem pt_ek (a : K) : ptN (num (ek a).data.toList) = a := by
  unfold ek
  rw [num_enc (Nat.lt_trans a.isLt p_lt)]
  apply Fin.ext
  show a.val % 2 ^ 255 % q = a.val
  have h := a.isLt
  have h2 : q < 2 ^ 255 := by decide
  have e1 : a.val % 2 ^ 255 = a.val := Nat.mod_eq_of_lt (by omega)
  rw [e1, Nat.mod_eq_of_lt h]

/-- The product of a scalar and the base. -/
def pub (k : ByteArray) : K := lad (clampN (num k.data.toList)) 9
theorem tm_pub (k : ByteArray) : tm k (enc 9) = pub k := by unfold tm pub; rw [pt_nine]

set_option maxHeartbeats 400000 in
theorem Public_ok (k : ByteArray) (hk : k.size = 32) (w : World) :
    Calls Try.prog 16 #[.string k] w fun e w' => e = .returned (.tuple #[.string (ek (pub k)), .int .i64 0]) ∧ Below w.heap.size w w' := by
  have TM : Hid (∀ w, Calls Try.prog 9 #[.string k, .string (enc 9)] w fun e w' => e = .returned (.tuple #[.string (ek (pub k)), .int .i64 0]) ∧ Below w.heap.size w w') := fun w => by
    have h := Times_ok k (enc 9) hk (enc_size _) w
    rw [tm_pub] at h
    exact h
  go_enter Try.func16, Try.ntmps16
  go_wp2_with fail
  refine Calls.mono (csmall_any 9 9 rfl (by omega) _) ?_
  rintro e w1 ⟨rfl, hb⟩
  have B1 : Hid (Below w.heap.size w w1) := hb
  clear hb
  go_wp2_with fail
  refine Calls.mono (TM.out _) ?_
  rintro e w2 ⟨rfl, hb⟩
  have B2 : Hid (Below w.heap.size w w2) := chain B1.out hb
  clear hb
  go_wp2
  go_ret2
  exact ⟨rfl, B2.out⟩

set_option maxHeartbeats 400000 in
theorem Public_no (k : ByteArray) (hk : ¬ k.size = 32) (w : World) :
    Calls Try.prog 16 #[.string k] w fun e w' => e = .returned (.tuple #[.string ⟨#[]⟩, .int .i64 3]) ∧ Below w.heap.size w w' := by
  have TM : Hid (∀ w, Calls Try.prog 9 #[.string k, .string (enc 9)] w fun e w' => e = .returned (.tuple #[.string ⟨#[]⟩, .int .i64 3]) ∧ Below w.heap.size w w') := fun w => Times_no k (enc 9) (fun h => hk h.1) w
  go_enter Try.func16, Try.ntmps16
  go_wp2_with fail
  refine Calls.mono (csmall_any 9 9 rfl (by omega) _) ?_
  rintro e w1 ⟨rfl, hb⟩
  have B1 : Hid (Below w.heap.size w w1) := hb
  clear hb
  go_wp2_with fail
  refine Calls.mono (TM.out _) ?_
  rintro e w2 ⟨rfl, hb⟩
  have B2 : Hid (Below w.heap.size w w2) := chain B1.out hb
  clear hb
  go_wp2
  go_ret2
  exact ⟨rfl, B2.out⟩

set_option maxHeartbeats 400000 in
theorem Shared_ok (k u : ByteArray) (hk : k.size = 32) (hu : u.size = 32) (h0 : tm k u ≠ 0) (w : World) :
    Calls Try.prog 14 #[.string k, .string u] w fun e w' => e = .returned (.tuple #[.string (ek (tm k u)), .int .i64 0]) ∧ Below w.heap.size w w' := by
  have TM : Hid (∀ w, Calls Try.prog 9 #[.string k, .string u] w fun e w' => e = .returned (.tuple #[.string (ek (tm k u)), .int .i64 0]) ∧ Below w.heap.size w w') := fun w => Times_ok k u hk hu w
  have hne : ((ek (tm k u)).toList == (enc 0).toList) = false := by
    have : ¬ ek (tm k u) = ek 0 := fun e => h0 (ek_inj e)
    rw [beq_eq_false_iff_ne]
    intro e
    rw [ByteArray.toList_eq, ByteArray.toList_eq] at e
    exact this (ByteArray.ext (Array.toList_inj.1 e))
  generalize ek (tm k u) = X at *
  go_enter Try.func14, Try.ntmps14
  go_wp2_with fail
  refine Calls.mono (TM.out _) ?_
  rintro e w1 ⟨rfl, hb⟩
  have B1 : Hid (Below w.heap.size w w1) := hb
  clear hb
  go_wp2_with fail
  refine Calls.mono (csmall_any 0 0 rfl (by omega) _) ?_
  rintro e w2 ⟨rfl, hb⟩
  have B2 : Hid (Below w.heap.size w w2) := chain B1.out hb
  clear hb
  go_wp2
  go_ret2
  exact ⟨rfl, B2.out⟩

set_option maxHeartbeats 400000 in
theorem Shared_weak (k u : ByteArray) (hk : k.size = 32) (hu : u.size = 32) (h0 : tm k u = 0) (w : World) :
    Calls Try.prog 14 #[.string k, .string u] w fun e w' => e = .returned (.tuple #[.string ⟨#[]⟩, .int .i64 20]) ∧ Below w.heap.size w w' := by
  have TM : Hid (∀ w, Calls Try.prog 9 #[.string k, .string u] w fun e w' => e = .returned (.tuple #[.string (enc 0), .int .i64 0]) ∧ Below w.heap.size w w') := fun w => by
    have h := Times_ok k u hk hu w
    rw [h0] at h
    exact h
  go_enter Try.func14, Try.ntmps14
  go_wp2_with fail
  refine Calls.mono (TM.out _) ?_
  rintro e w1 ⟨rfl, hb⟩
  have B1 : Hid (Below w.heap.size w w1) := hb
  clear hb
  go_wp2_with fail
  refine Calls.mono (csmall_any 0 0 rfl (by omega) _) ?_
  rintro e w2 ⟨rfl, hb⟩
  have B2 : Hid (Below w.heap.size w w2) := chain B1.out hb
  clear hb
  go_wp2
  go_ret2
  exact ⟨rfl, B2.out⟩

set_option maxHeartbeats 400000 in
theorem Shared_no (k u : ByteArray) (h : ¬ (k.size = 32 ∧ u.size = 32)) (w : World) :
    Calls Try.prog 14 #[.string k, .string u] w fun e w' => e = .returned (.tuple #[.string ⟨#[]⟩, .int .i64 3]) ∧ Below w.heap.size w w' := by
  have TM : Hid (∀ w, Calls Try.prog 9 #[.string k, .string u] w fun e w' => e = .returned (.tuple #[.string ⟨#[]⟩, .int .i64 3]) ∧ Below w.heap.size w w') := fun w => Times_no k u h w
  clear h
  go_enter Try.func14, Try.ntmps14
  go_wp2_with fail
  refine Calls.mono (TM.out _) ?_
  rintro e w1 ⟨rfl, hb⟩
  have B1 : Hid (Below w.heap.size w w1) := hb
  clear hb
  go_wp2
  go_ret2
  exact ⟨rfl, B1.out⟩

end Go.Proofs.Ytdebfelgaiofeaa
