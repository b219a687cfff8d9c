/- What Times, Public, Shared and Chain of package curve do. -/
import Derived.Test.YtdebfelgaiofeaaC5
namespace Go.Proofs.Ytdebfelgaiofeaa
open Go.RowKit Go.Proofs.Fd Go.Proofs.Ed

/-- The product of a scalar and a point, both 32 bytes. -/
def tm (k u : ByteArray) : K := lad (clampN (num k.data.toList)) (ptN (num u.data.toList))

set_option maxHeartbeats 400000 in
theorem Times_ok (k u : ByteArray) (hk : k.size = 32) (hu : u.size = 32) (w : World) :
    Calls Try.prog 9 #[.string k, .string u] w fun e w' => e = .returned (.tuple #[.string (ek (tm k u)), .int .i64 0]) ∧ Below w.heap.size w w' := by
  have hd : decide (u.size = 32) = true := by simpa using hu
  have CL : Hid (∀ w, Calls Try.prog 23 #[.string (enc (clampN (num k.data.toList))), .string (ek (ptN (num u.data.toList)))] w fun e w' => e = .returned (.string (ek (tm k u))) ∧ Below w.heap.size w w') := fun w => by
    have h := climb_any (enc (clampN (num k.data.toList))) (enc_size _) (ptN (num u.data.toList)) w
    rw [num_enc (clampN_lt _)] at h
    exact h
  go_enter Try.func9, Try.ntmps9
  go_wp2_with fail
  refine Calls.mono (Clamp_ok k hk _) ?_
  rintro e w1 ⟨rfl, hb⟩
  have B1 : Hid (Below w.heap.size w w1) := hb
  clear hb
  go_wp2_with fail
  refine Calls.mono (whole1_any u w1.heap.size _ (by simp [go_sem])) ?_
  rintro e w2 ⟨rfl, hb⟩
  rw [hd]
  have B2 : Hid (Below w.heap.size w w2) := chain (B1.out.alloc B1.out.size _) hb
  clear hb
  go_wp2_with fail
  refine Calls.mono (celement_any u hu _) ?_
  rintro e w3 ⟨rfl, hb⟩
  have B3 : Hid (Below w.heap.size w w3) := chain B2.out hb
  clear hb
  go_wp2_with fail
  refine Calls.mono (CL.out _) ?_
  rintro e w4 ⟨rfl, hb⟩
  have B4 : Hid (Below w.heap.size w w4) := chain B3.out hb
  clear hb
  go_wp2
  go_ret2
  exact ⟨rfl, B4.out⟩

set_option maxHeartbeats 400000 in
theorem Times_no (k u : ByteArray) (h : ¬ (k.size = 32 ∧ u.size = 32)) (w : World) :
    Calls Try.prog 9 #[.string k, .string u] w fun e w' => e = .returned (.tuple #[.string ⟨#[]⟩, .int .i64 3]) ∧ Below w.heap.size w w' := by
  by_cases hk : k.size = 32
  · have hu : ¬ u.size = 32 := fun e => h ⟨hk, e⟩
    have hd : decide (u.size = 32) = false := by simpa using hu
    go_enter Try.func9, Try.ntmps9
    go_wp2_with fail
    refine Calls.mono (Clamp_ok k hk _) ?_
    rintro e w1 ⟨rfl, hb⟩
    have B1 : Hid (Below w.heap.size w w1) := hb
    clear hb
    go_wp2_with fail
    refine Calls.mono (whole1_any u w1.heap.size _ (by simp [go_sem])) ?_
    rintro e w2 ⟨rfl, hb⟩
    rw [hd]
    have B2 : Hid (Below w.heap.size w w2) := chain (B1.out.alloc B1.out.size _) hb
    clear hb
    go_wp2
    go_ret2
    exact ⟨rfl, B2.out⟩
  · go_enter Try.func9, Try.ntmps9
    go_wp2_with fail
    refine Calls.mono (Clamp_no k hk _) ?_
    rintro e w1 ⟨rfl, hb⟩
    have B1 : Hid (Below w.heap.size w w1) := hb
    clear hb
    go_wp2
    go_ret2
    exact ⟨rfl, B1.out⟩

end Go.Proofs.Ytdebfelgaiofeaa
