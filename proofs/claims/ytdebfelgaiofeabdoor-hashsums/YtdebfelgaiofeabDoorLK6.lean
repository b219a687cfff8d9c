/- HashSums answers true. -/
import Derived.Test.YtdebfelgaiofeabDoorK9
import Derived.Test.YtdebfelgaiofeabDoorKR6
namespace Go.Proofs.YtdebfelgaiofeabDoor
open Go.RowKit Go.Proofs.Fd Go.Proofs.Hs

theorem shs_one (s : ByteArray) : shs [s] = ⟨(sha s.data.toList).toArray⟩ := by
  unfold shs
  simp

set_option maxHeartbeats 1000000 in
theorem HashSums_walk (s : ByteArray) (hs : s.size ≤ 140737488355328) (w : World) (hk : Hid (Kh w)) :
    Calls Tryd.prog 3 #[.string s] w fun e w' => e = .returned (.bool true) ∧ Below w.heap.size w w' := by
  have HS : Hid (∀ x ∈ [s], x.size < 9223372036854775807) := fun x hx => by simp at hx; subst hx; omega
  have SM : Hid (∀ (B : Nat) (w : World), Kh w → w.cell? ⟨B, 0, none⟩ = some (.string s) → Calls Tryd.prog 9 #[.slice (some ⟨B, 0, none⟩) 1 1] w fun e w' => e = .returned (.string (shs [s])) ∧ Below w.heap.size w w') := fun B w h h0 => Sum_any _ [s] 1 1 rfl (by decide) w h.1 h.2 (strAt1 h0) HS.out
  have H2 : Hid (∀ w, Calls Tryd.prog 10 #[.string s] w fun e w' => e = .returned (.string (shs [s])) ∧ Below w.heap.size w w') := fun w => by rw [shs_one]; exact rDigest_any s hs w
  generalize shs [s] = S at *
  clear hs HS
  go_enter Tryd.func3, Tryd.ntmps3
  go_wp2_with fail
  refine Calls.mono (SM.out w.heap.size _ (hk.out.alloc _) (by simp [go_sem])) ?_
  rintro e w1 ⟨rfl, hb⟩
  have B1 : Hid (Below w.heap.size w w1 ∧ Kh w1) := ⟨chain ((Below.refl _ _).alloc (Nat.le_refl _) _) hb, (hk.out.alloc _).later hb⟩
  clear hb SM
  go_wp2_with fail
  refine Calls.mono (H2.out _) ?_
  rintro e w2 ⟨rfl, hb⟩
  have B2 : Hid (Below w.heap.size w w2 ∧ Kh w2) := ⟨chain B1.out.1 hb, B1.out.2.later hb⟩
  clear hb
  go_wp2_with fail
  refine Calls.mono (works_any _ B2.out.2) ?_
  rintro e w3 ⟨rfl, hb⟩
  have B3 : Hid (Below w.heap.size w w3) := chain B2.out.1 hb
  clear hb
  go_wp2
  go_ret
  exact ⟨rfl, B3.out⟩
end Go.Proofs.YtdebfelgaiofeabDoor
