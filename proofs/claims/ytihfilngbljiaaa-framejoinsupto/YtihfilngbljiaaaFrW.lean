/- The chapter's example; readers of the call's own; all frames that are there. -/
import Derived.Test.YtihfilngbljiaaaFrO
namespace Go.Proofs.Ytihfilngbljiaaa
open Go.RowKit Go.Proofs.Fd Go.Proofs.Fr
set_option maxRecDepth 20000

/-- A reader of the call's own. -/
def Own (B : Nat) (w : World) (p : Nat) (r : Rd) : Prop := B ≤ p ∧ ∃ g, B ≤ g ∧ RdAt w p g r
theorem Own.later {B p : Nat} {w w' : World} {r : Rd} (h : Own B w p r) (hb : Below w.heap.size w w') : Own B w' p r := by
  obtain ⟨h1, g, h2, h3⟩ := h
  exact ⟨h1, g, h2, h3.later hb⟩
theorem take_own (B p : Nat) (r : Rd) (c : ByteArray) (w : World) (R : Own B w p r) (hB : B ≤ w.heap.size) (hz : r.h.length ≤ 1048576) :
    Calls Try.prog 13 #[.pointer (some ⟨p, 0, none⟩), .string c] w fun e w' => e = .returned (.int .i64 (takeE r c.data.toList)) ∧ Own B w' p (takeR r c.data.toList) ∧ Below B w w' := by
  obtain ⟨h1, g, h2, h3⟩ := R
  refine Calls.mono (take_any p g r c w h3 hz) ?_
  rintro e w' ⟨rfl, ⟨g', q1, q2⟩, q3⟩
  exact ⟨rfl, ⟨h1, g', by rcases q2 with rfl | rfl | q <;> omega, q1⟩, q3.below h1 h2 hB⟩
theorem next_own_yes (B p : Nat) (r : Rd) (w : World) (R : Own B w p r) (hB : B ≤ w.heap.size) (hz : r.h.length ≤ 1048576) (hh : has r.h) :
    Calls Try.prog 17 #[.pointer (some ⟨p, 0, none⟩)] w fun e w' => e = .returned (.tuple #[.string ⟨(nextS r).toArray⟩, .bool true]) ∧ Own B w' p (nextR r) ∧ Below B w w' := by
  obtain ⟨h1, g, h2, h3⟩ := R
  refine Calls.mono (next_yes p g r w h3 hz hh) ?_
  rintro e w' ⟨rfl, ⟨g', q1, q2⟩, q3⟩
  exact ⟨rfl, ⟨h1, g', by rcases q2 with rfl | rfl | q <;> omega, q1⟩, q3.below h1 h2 hB⟩
theorem next_own_no (B p : Nat) (r : Rd) (w : World) (R : Own B w p r) (hz : r.h.length ≤ 1048576) (hh : ¬ has r.h) :
    Calls Try.prog 17 #[.pointer (some ⟨p, 0, none⟩)] w fun e w' => e = .returned noV ∧ Own B w' p r ∧ Below w.heap.size w w' := by
  have R' := R
  obtain ⟨h1, g, h2, h3⟩ := R
  refine Calls.mono (next_no p g r w h3 hz hh) ?_
  rintro e w' ⟨rfl, q3⟩
  exact ⟨rfl, R'.later q3, q3⟩
theorem waits_own (B p : Nat) (r : Rd) (w : World) (R : Own B w p r) :
    Calls Try.prog 16 #[.pointer (some ⟨p, 0, none⟩)] w fun e w' => e = .returned (.int .i64 (r.h.length : Int)) ∧ w' = w := by
  obtain ⟨h1, g, h2, h3⟩ := R
  exact waits_any p g r w h3
/-- The chapter's example. -/
def exS : List UInt8 := [0, 0, 0, 2, 97, 98]
theorem ex_of : frs [⟨#[97, 98]⟩] = exS := by decide
theorem ex_step (k : Nat) (h : k < 6) : ¬ has (exS.take k) ∧ takeE ⟨exS.take k, false⟩ ((⟨exS.toArray⟩ : ByteArray).extract k (k + 1)).data.toList = 0 ∧ takeR ⟨exS.take k, false⟩ ((⟨exS.toArray⟩ : ByteArray).extract k (k + 1)).data.toList = ⟨exS.take (k + 1), false⟩ := by
  have e : ((⟨exS.toArray⟩ : ByteArray).extract k (k + 1)).data.toList = (exS.drop k).take 1 := by
    simp [ByteArray.extract, ByteArray.copySlice]
  rw [e]
  have q : ∀ k, k < 6 → ¬ has (exS.take k) ∧ ¬ bad (exS.take k ++ (exS.drop k).take 1) ∧ exS.take k ++ (exS.drop k).take 1 = exS.take (k + 1) := by
    unfold has bad
    intro k hk
    rcases (by omega : k = 0 ∨ k = 1 ∨ k = 2 ∨ k = 3 ∨ k = 4 ∨ k = 5) with rfl | rfl | rfl | rfl | rfl | rfl <;> exact ⟨by decide, by decide, rfl⟩
  obtain ⟨q1, q2, q3⟩ := q k h
  have q4 := take_ok (exS.take k) ((exS.drop k).take 1) q2 (by rw [← List.length_append, q3, List.length_take]; have : exS.length = 6 := rfl; omega)
  rw [q3] at q4
  exact ⟨q1, q4⟩
theorem ex_last : nextS ⟨exS.take 6, false⟩ = [97, 98] ∧ nextR ⟨exS.take 6, false⟩ = ⟨[], false⟩ := by
  refine ⟨by decide, ?_⟩
  unfold nextR
  rw [show ((⟨exS.take 6, false⟩ : Rd).h.drop (4 + num4 (⟨exS.take 6, false⟩ : Rd).h)) = [] by decide]
  exact look_of not_bad_nil
set_option maxHeartbeats 1000000 in
theorem works_any (w : World) :
    Calls Try.prog 10 #[] w fun e w' => e = .returned (.bool true) ∧ Below w.heap.size w w' := by
  go_enter Try.func10, Try.ntmps10
  go_wp2_with fail
  refine Calls.mono (Of_ok _ [⟨#[97, 98]⟩] 1 1 rfl (by decide) (by intro s hs; simp at hs; subst hs; decide) (by show _ ≤ _; decide) _ (strAt1 (by simp [go_sem]))) ?_
  rintro e w1 ⟨rfl, hb1⟩
  have B1 : Hid (Below w.heap.size w w1) := ((Below.refl _ w).alloc (Nat.le_refl _) _).trans (hb1.mono (by simp))
  rw [ex_of]
  have EQ : (exS == [0, 0, 0, 2, 97, 98]) = true := rfl
  have EL : exS.length = 6 := rfl
  clear hb1
  go_wp2_with fail
  refine Calls.mono (new_any w1) ?_
  rintro e w2 ⟨rfl, hr2, hb2, -⟩
  obtain ⟨p, hp⟩ : ∃ p, w1.heap.size = p := ⟨_, rfl⟩
  rw [hp] at hr2 ⊢
  have R2 : Hid (Own w.heap.size w2 p ⟨[], false⟩) := ⟨by rw [← hp]; exact B1.out.size, p, by rw [← hp]; exact B1.out.size, hr2⟩
  have B2 : Hid (Below w.heap.size w w2) := B1.out.trans (hb2.mono B1.out.size)
  clear hr2 hb2 B1 hp
  go_wp2_with fail
  go_loopw [25] (fun i wr => ∃ k : Nat, k ≤ 6 ∧ i = .int .i64 (k : Int) ∧ Hid (Own w.heap.size wr p ⟨exS.take k, false⟩ ∧ Below w.heap.size w wr)) (fun i _ => 6 - (intOf i).toNat)
  case atStart => exact ⟨0, by omega, rfl, R2.out, B2.out⟩
  case round =>
    obtain ⟨k, hk, rfl, I⟩ := hrel
    clear R2 B2
    by_cases hlt : k < 6
    · obtain ⟨x1, x2, x3⟩ := ex_step k hlt
      have g1 : (k : Int) < 6 := by omega
      have g2 : (k : Int) + 1 ≤ 6 := by omega
      have NX := next_own_no w.heap.size p ⟨exS.take k, false⟩ wr I.out.1 (by show (exS.take k).length ≤ _; rw [List.length_take]; have : exS.length = 6 := rfl; omega) x1
      have TK : Hid (∀ w', Own w.heap.size w' p ⟨exS.take k, false⟩ → w.heap.size ≤ w'.heap.size → Calls Try.prog 13 #[.pointer (some ⟨p, 0, none⟩), .string ((⟨exS.toArray⟩ : ByteArray).extract k (k + 1))] w' fun e w'' => e = .returned (.int .i64 0) ∧ Own w.heap.size w'' p ⟨exS.take (k + 1), false⟩ ∧ Below w.heap.size w' w'') := fun w' h hB => by
        have q := take_own w.heap.size p ⟨exS.take k, false⟩ ((⟨exS.toArray⟩ : ByteArray).extract k (k + 1)) w' h hB (by show (exS.take k).length ≤ _; rw [List.length_take]; have : exS.length = 6 := rfl; omega)
        rw [x2, x3] at q
        exact q
      have HN : Hid (Calls Try.prog 17 #[.pointer (some ⟨p, 0, none⟩)] wr fun e w' => e = .returned noV ∧ Own w.heap.size w' p ⟨exS.take k, false⟩ ∧ Below wr.heap.size wr w') := NX
      clear x1 x2 x3 NX
      unfold noV at HN
      go_wp2_with fail
      refine Calls.mono HN.out ?_
      rintro e w3 ⟨rfl, hr3, hb3⟩
      have R3 : Hid (Own w.heap.size w3 p ⟨exS.take k, false⟩ ∧ Below w.heap.size w w3) := ⟨hr3, I.out.2.trans (hb3.mono I.out.2.size)⟩
      clear hr3 hb3 HN I
      go_wp2_with fail
      refine Calls.mono (TK.out w3 R3.out.1 R3.out.2.size) ?_
      rintro e w4 ⟨rfl, hr4, hb4⟩
      have R4 : Hid (Own w.heap.size w4 p ⟨exS.take (k + 1), false⟩ ∧ Below w.heap.size w w4) := ⟨hr4, R3.out.2.trans hb4⟩
      clear hr4 hb4 TK R3
      go_wp2
      go_roundw
      case rel => exact ⟨k + 1, by omega, by go_num, R4.out⟩
      case measure => simp [intOf]; omega
    · obtain rfl : k = 6 := by omega
      have q := next_own_yes w.heap.size p ⟨exS.take 6, false⟩ wr I.out.1 I.out.2.size (by decide) (by unfold has; decide)
      rw [ex_last.1, ex_last.2] at q
      have HN : Hid (Calls Try.prog 17 #[.pointer (some ⟨p, 0, none⟩)] wr fun e w' => e = .returned (.tuple #[.string ⟨#[97, 98]⟩, .bool true]) ∧ Own w.heap.size w' p ⟨[], false⟩ ∧ Below w.heap.size wr w') := q
      clear q
      rw [show ((6 : Nat) : Int) = 6 from rfl]
      go_wp2_with fail
      refine Calls.mono HN.out ?_
      rintro e w3 ⟨rfl, hr3, hb3⟩
      have R3 : Hid (Own w.heap.size w3 p ⟨[], false⟩ ∧ Below w.heap.size w w3) := ⟨hr3, I.out.2.trans hb3⟩
      clear hr3 hb3 HN I
      go_wp2_with fail
      refine Calls.mono (waits_own _ p ⟨[], false⟩ w3 R3.out.1) ?_
      rintro e w4 ⟨rfl, rfl⟩
      go_wp2
      go_ret
      exact ⟨rfl, R3.out.2⟩
end Go.Proofs.Ytihfilngbljiaaa
