/- The program's keyed layer: the contracts of tags, and of what is extracted, hold. -/
import Derived.Test.YtdebfelgaiofeadDoorPD
namespace Go.Proofs.YtdebfelgaiofeadDoor
open Go.RowKit Go.Proofs.Fd Go.Proofs.Hs

theorem same_c : SameC := fun a b w ha hb => Same_any a b w ha hb

set_option maxHeartbeats 1000000 in
theorem tag_c : TagC := fun key a ks n cap w hn hb hk hs hK hc => by
  obtain ⟨XI, hXI⟩ : ∃ X : ByteArray, ⟨(xk 54 key.data.toList).toArray⟩ = X := ⟨_, rfl⟩
  obtain ⟨XO, hXO⟩ : ∃ X : ByteArray, ⟨(xk 92 key.data.toList).toArray⟩ = X := ⟨_, rfl⟩
  have PA : Hid (∀ w', Kh w' → Calls Tryd.prog 10 #[.string key] w' fun e w'' => e = .returned (.agg #[.string XI, .string XO]) ∧ Below w'.heap.size w' w'') := fun w' h => by
    rw [← hXI, ← hXO]; exact padded_any key w' hk h
  have TG : Hid (∀ w', Below w.heap.size w w' → Calls Tryd.prog 11 #[.agg #[.string XI, .string XO], .slice a n cap] w' fun e w'' => e = .returned (.string ⟨(hmac key.data.toList (jnd ks)).toArray⟩) ∧ Below w'.heap.size w' w'') := fun w' h => by
    have h := tag_any XI XO a ks n cap w' hn hb ⟨by rw [← hXI, ba_size, xk_len]; decide, by rw [← hXO, ba_size, xk_len]; decide⟩ hs (hK.out.later h) (StrAt.later hc.out h rfl)
    rw [← hXI, ← hXO] at h ⊢
    exact h
  clear hXI hXO
  generalize (⟨(hmac key.data.toList (jnd ks)).toArray⟩ : ByteArray) = R at *
  have BB : Hid (Kh w) := hK
  go_enter Tryd.func6, Tryd.ntmps6
  go_wp2_with fail
  refine Calls.mono (PA.out _ BB.out) ?_
  rintro e w1 ⟨rfl, hb1⟩
  have B1 : Hid (Below w.heap.size w w1) := hb1
  clear hb1 PA
  go_wp2_with fail
  refine Calls.mono (TG.out _ B1.out) ?_
  rintro e w2 ⟨rfl, hb2⟩
  have B2 : Hid (Below w.heap.size w w2) := chain B1.out hb2
  clear hb2 TG
  go_wp2
  go_ret
  exact ⟨rfl, B2.out⟩

theorem Expand_no (key info : ByteArray) (n : Int) (h : n < 0 ∨ 8160 < n) (w : World) :
    Calls Tryd.prog 7 #[.string key, .string info, .int .i64 n] w fun e w' => e = .returned (.tuple #[.string ⟨#[]⟩, .int .i64 1]) ∧ Below w.heap.size w w' := by
  by_cases h1 : n < 0
  · go_enter Tryd.func7, Tryd.ntmps7
    go_wp2
    go_ret2
    exact ⟨rfl, Below.refl _ _⟩
  · have h2 : 8160 < n := by omega
    clear h
    go_enter Tryd.func7, Tryd.ntmps7
    go_wp2
    go_ret2
    exact ⟨rfl, Below.refl _ _⟩
end Go.Proofs.YtdebfelgaiofeadDoor
