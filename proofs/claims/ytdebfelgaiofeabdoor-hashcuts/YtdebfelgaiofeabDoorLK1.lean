/- HashShort answers true. -/
import Derived.Test.YtdebfelgaiofeabDoorK9
namespace Go.Proofs.YtdebfelgaiofeabDoor
open Go.RowKit Go.Proofs.Fd Go.Proofs.Hs

theorem ext_ext (S : ByteArray) (n k : Nat) (h : k ≤ n) : (S.extract 0 n).extract 0 k = S.extract 0 k := by
  apply ByteArray.ext
  simp [ByteArray.data_extract, Nat.min_eq_left h]
theorem ext_size (S : ByteArray) (n : Nat) (h : n ≤ S.size) : (S.extract 0 n).size = n := by
  simp [ByteArray.size_extract]; omega
theorem ext_all (S : ByteArray) : S.extract 0 S.size = S := by
  apply ByteArray.ext
  simp

set_option maxHeartbeats 1000000 in
theorem HashShort_walk (s : ByteArray) (hs : s.size < 9223372036854775807) (n m : Int) (w : World) (hk : Hid (Kh w)) :
    Calls Tryd.prog 8 #[.string s, .int .i64 n, .int .i64 m] w fun e w' => e = .returned (.bool true) ∧ Below w.heap.size w w' := by
  obtain ⟨p, hp⟩ : ∃ p : Nat, (n % 32).toNat + 1 = p := ⟨_, rfl⟩
  obtain ⟨q, hq⟩ : ∃ p : Nat, (m % 32).toNat + 1 = p := ⟨_, rfl⟩
  have r1 : ∀ n : Int, (IntKind.u64.wrap n).tmod 32 = n % 32 := fun n => by
    rw [IntKind.wrap_u64, Int.tmod_eq_emod_of_nonneg (by omega)]; omega
  have a1 : wrap64 (1 + wrap64 ((IntKind.u64.wrap n).tmod 32)) = (p : Int) := by
    rw [r1]; unfold wrap64; omega
  have a2 : wrap64 (1 + wrap64 ((IntKind.u64.wrap m).tmod 32)) = (q : Int) := by
    rw [r1]; unfold wrap64; omega
  have HP : Hid (1 ≤ p ∧ p ≤ 32 ∧ 1 ≤ q ∧ q ≤ 32) := by show _ ∧ _ ∧ _ ∧ _; omega
  have HS : Hid (∀ x ∈ [s], x.size < 9223372036854775807) := fun x hx => by simp at hx; subst hx; exact hs
  have SH : Hid (∀ (j : Nat) (_ : Hid (1 ≤ j ∧ j ≤ 32)) (B : Nat) (w : World), Kh w → w.cell? ⟨B, 0, none⟩ = some (.string s) → Calls Tryd.prog 12 #[.int .i64 (j : Int), .slice (some ⟨B, 0, none⟩) 1 1] w fun e w' => e = .returned (.tuple #[.string ((shs [s]).extract 0 j), .int .i64 0]) ∧ Below w.heap.size w w') := fun j hj B w h h0 => Short_ok j hj.out.1 hj.out.2 _ [s] 1 1 rfl (by decide) w h (strAt1 h0) HS.out
  have SM : Hid (∀ (B : Nat) (w : World), Kh w → w.cell? ⟨B, 0, none⟩ = some (.string s) → Calls Tryd.prog 9 #[.slice (some ⟨B, 0, none⟩) 1 1] w fun e w' => e = .returned (.string (shs [s])) ∧ Below w.heap.size w w') := fun B w h h0 => Sum_any _ [s] 1 1 rfl (by decide) w h.1 h.2 (strAt1 h0) HS.out
  have hz := shs_size [s]
  generalize shs [s] = S at *
  have c1 := ext_size S p (by have := HP.out; omega)
  have c2 := ext_size S q (by have := HP.out; omega)
  have c3 : S.extract 0 32 = S := by rw [← hz]; exact ext_all S
  have k1 : ((S.extract 0 p).extract 0 (min p q)) = ((S.extract 0 q).extract 0 (min p q)) := by rw [ext_ext S p _ (Nat.min_le_left _ _), ext_ext S q _ (Nat.min_le_right _ _)]
  clear hp hq r1 hs
  go_enter Tryd.func8, Tryd.ntmps8
  go_wp2_with fail
  refine Calls.mono (works_any _ hk.out) ?_
  rintro e w1 ⟨rfl, hb⟩
  have B1 : Hid (Below w.heap.size w w1 ∧ Kh w1) := ⟨hb, hk.out.later hb⟩
  clear hb
  go_wp2_with fail
  refine Calls.mono (SH.out p ⟨HP.out.1, HP.out.2.1⟩ w1.heap.size _ (B1.out.2.alloc _) (by simp [go_sem])) ?_
  rintro e w2 ⟨rfl, hb⟩
  have B2 : Hid (Below w.heap.size w w2 ∧ Kh w2) := ⟨chain (B1.out.1.alloc B1.out.1.size _) hb, (B1.out.2.alloc _).later hb⟩
  clear hb
  go_wp2_with fail
  refine Calls.mono (SH.out q ⟨HP.out.2.2.1, HP.out.2.2.2⟩ w2.heap.size _ (B2.out.2.alloc _) (by simp [go_sem])) ?_
  rintro e w3 ⟨rfl, hb⟩
  have B3 : Hid (Below w.heap.size w w3 ∧ Kh w3) := ⟨chain (B2.out.1.alloc B2.out.1.size _) hb, (B2.out.2.alloc _).later hb⟩
  clear hb
  go_wp2_with fail
  refine Calls.mono (SH.out 32 ⟨by decide, by decide⟩ w3.heap.size _ (B3.out.2.alloc _) (by simp [go_sem])) ?_
  rintro e w4 ⟨rfl, hb⟩
  have B4 : Hid (Below w.heap.size w w4 ∧ Kh w4) := ⟨chain (B3.out.1.alloc B3.out.1.size _) hb, (B3.out.2.alloc _).later hb⟩
  clear hb
  rw [c3]
  have z4 : (p : Int) ≤ 32 := by have := HP.out; omega
  have y1 := ext_ext S p q
  have y2 := ext_ext S q q (Nat.le_refl _)
  have y3 := ext_ext S p p (Nat.le_refl _)
  have y4 := ext_ext S q p
  obtain ⟨A, hA⟩ : ∃ A, S.extract 0 p = A := ⟨_, rfl⟩
  obtain ⟨B, hB⟩ : ∃ B, S.extract 0 q = B := ⟨_, rfl⟩
  rw [hA] at c1 y1 y3 y4
  rw [hB] at c2 y1 y2 y4
  rw [hA, hB]
  clear SH c3 k1 a1 a2 hB
  by_cases hpq : (q : Int) < (p : Int)
  · have x1 : A.extract 0 q = B := y1 (by omega)
    clear y1 y3 y4
    have x3 : (q : Int) ≤ (p : Int) := by omega
    go_wp2
    go_region_held3 (fun _ => True) (trivial) (first | (go_at_call 9; refine Calls.mono (SM.out w4.heap.size _ (B4.out.2.later ((Below.refl _ _).drew.alloc (Nat.le_refl _) _)) (by simp [go_sem])) ?_; rintro e w5 ⟨rfl, hb5⟩))
    all_goals
      have B5 : Hid (Below w.heap.size w w5) := chain (B4.out.1.drew.alloc B4.out.1.size _) hb5
      clear hb5
      go_wp2
      go_ret
      exact ⟨rfl, B5.out⟩
  · have x1 : B.extract 0 p = A := y4 (by omega)
    clear y1 y2 y4
    have x3 : (p : Int) ≤ (q : Int) := by omega
    go_wp2
    go_region_held3 (fun _ => True) (trivial) (first | (go_at_call 9; refine Calls.mono (SM.out w4.heap.size _ (B4.out.2.later ((Below.refl _ _).drew.alloc (Nat.le_refl _) _)) (by simp [go_sem])) ?_; rintro e w5 ⟨rfl, hb5⟩))
    all_goals
      have B5 : Hid (Below w.heap.size w w5) := chain (B4.out.1.drew.alloc B4.out.1.size _) hb5
      clear hb5
      go_wp2
      go_ret
      exact ⟨rfl, B5.out⟩
end Go.Proofs.YtdebfelgaiofeabDoor
