/- The chapter's example; readers of the call's own; all frames that are there. -/
import Derived.Test.YtbaajpefefedbaaFrO
namespace Go.Proofs.Ytbaajpefefedbaa
open Go.RowKit Go.Proofs.Fd Go.Proofs.Fr
set_option maxRecDepth 20000

/-- A reader of the call's own. -/
def Own (B : Nat) (w : World) (p : Nat) (r : Rd) : Prop := B ≤ p ∧ ∃ g, B ≤ g ∧ RdAt w p g r
theorem Own.later {B p : Nat} {w w' : World} {r : Rd} (h : Own B w p r) (hb : Below w.heap.size w w') : Own B w' p r := by
  obtain ⟨h1, g, h2, h3⟩ := h
  exact ⟨h1, g, h2, h3.later hb⟩
theorem take_own (B p : Nat) (r : Rd) (c : ByteArray) (w : World) (R : Own B w p r) (hB : B ≤ w.heap.size) (hz : r.h.length ≤ 1048576) :
    Calls Try.prog 22 #[.pointer (some ⟨p, 0, none⟩), .string c] w fun e w' => e = .returned (.int .i64 (takeE r c.data.toList)) ∧ Own B w' p (takeR r c.data.toList) ∧ Below B w w' := by
  obtain ⟨h1, g, h2, h3⟩ := R
  refine Calls.mono (take_any p g r c w h3 hz) ?_
  rintro e w' ⟨rfl, ⟨g', q1, q2⟩, q3⟩
  exact ⟨rfl, ⟨h1, g', by rcases q2 with rfl | rfl | q <;> omega, q1⟩, q3.below h1 h2 hB⟩
theorem next_own_yes (B p : Nat) (r : Rd) (w : World) (R : Own B w p r) (hB : B ≤ w.heap.size) (hz : r.h.length ≤ 1048576) (hh : has r.h) :
    Calls Try.prog 23 #[.pointer (some ⟨p, 0, none⟩)] w fun e w' => e = .returned (.tuple #[.string ⟨(nextS r).toArray⟩, .bool true]) ∧ Own B w' p (nextR r) ∧ Below B w w' := by
  obtain ⟨h1, g, h2, h3⟩ := R
  refine Calls.mono (next_yes p g r w h3 hz hh) ?_
  rintro e w' ⟨rfl, ⟨g', q1, q2⟩, q3⟩
  exact ⟨rfl, ⟨h1, g', by rcases q2 with rfl | rfl | q <;> omega, q1⟩, q3.below h1 h2 hB⟩
theorem next_own_no (B p : Nat) (r : Rd) (w : World) (R : Own B w p r) (hz : r.h.length ≤ 1048576) (hh : ¬ has r.h) :
    Calls Try.prog 23 #[.pointer (some ⟨p, 0, none⟩)] w fun e w' => e = .returned noV ∧ Own B w' p r ∧ Below w.heap.size w w' := by
  have R' := R
  obtain ⟨h1, g, h2, h3⟩ := R
  refine Calls.mono (next_no p g r w h3 hz hh) ?_
  rintro e w' ⟨rfl, q3⟩
  exact ⟨rfl, R'.later q3, q3⟩
theorem waits_own (B p : Nat) (r : Rd) (w : World) (R : Own B w p r) :
    Calls Try.prog 24 #[.pointer (some ⟨p, 0, none⟩)] w fun e w' => e = .returned (.int .i64 (r.h.length : Int)) ∧ w' = w := by
  obtain ⟨h1, g, h2, h3⟩ := R
  exact waits_any p g r w h3
/-- The chapter's example. -/
def exS : List UInt8 := [0, 0, 0, 2, 97, 98]
theorem ex_of : frs [⟨#[97, 98]⟩] = exS := by decide
theorem ex_step (k : Nat) (h : k < 6) : ¬ has (exS.take k) ∧ takeE ⟨exS.take k, false⟩ ((⟨exS.toArray⟩ : ByteArray).extract k (k + 1)).data.toList = 0 ∧ takeR ⟨exS.take k, false⟩ ((⟨exS.toArray⟩ : ByteArray).extract k (k + 1)).data.toList = ⟨exS.take (k + 1), false⟩ := by
  have e : ((⟨exS.toArray⟩ : ByteArray).extract k (k + 1)).data.toList = (exS.drop k).take 1 := by
    simp [ByteArray.extract, ByteArray.copySlice]
  rw [e]
  have q : ∀ k, k < 6 → ¬ has (exS.take k) ∧ ¬ bad (exS.take k ++ (exS.drop k).take 1) ∧ exS.take k ++ (exS.drop k).take 1 = exS.take (k + 1) := by
    unfold has bad
    intro k hk
    rcases (by omega : k = 0 ∨ k = 1 ∨ k = 2 ∨ k = 3 ∨ k = 4 ∨ k = 5) with rfl | rfl | rfl | rfl | rfl | rfl <;> exact ⟨by decide, by decide, rfl⟩
  obtain ⟨q1, q2, q3⟩ := q k h
  have q4 := take_ok (exS.take k) ((exS.drop k).take 1) q2 (by rw [← List.length_append, q3, List.length_take]; have : exS.length = 6 := rfl; omega)
  rw [q3] at q4
  exact ⟨q1, q4⟩
theorem ex_last : nextS ⟨exS.take 6, false⟩ = [97, 98] ∧ nextR ⟨exS.take 6, false⟩ = ⟨[], false⟩ := by
  refine ⟨by decide, ?_⟩
  unfold nextR
  rw [show ((⟨exS.take 6, false⟩ : Rd).h.drop (4 + num4 (⟨exS.take 6, false⟩ : Rd).h)) = [] by decide]
  exact look_of not_bad_nil
end Go.Proofs.Ytbaajpefefedbaa
