/- KeyedCuts answers true, by the layer's contracts. -/
import Derived.Test.YtdebfelgaiofeadDoorKE
namespace Go.Proofs.YtdebfelgaiofeadDoor
open Go.RowKit Go.Proofs.Fd Go.Proofs.Hs

theorem cut_jnd (s : ByteArray) (m : Nat) : jnd [s.extract 0 m, ⟨#[]⟩, s.extract m s.size] = s.data.toList := by
  show (s.extract 0 m).data.toList ++ ([] ++ ((s.extract m s.size).data.toList ++ [])) = _
  rw [ext_list, ext_list, List.drop_zero, List.nil_append, List.append_nil, List.take_of_length_le (i := s.size) (by simp), List.take_append_drop]

set_option maxHeartbeats 1000000 in
theorem KeyedCuts_walk (CT : Hid TagC) (CS : Hid SameC) (key s : ByteArray) (hk0 : key.size ≤ 140737488351232) (hs : s.size ≤ 140737488351232) (c : Int) (w : World) (hk : Hid (Kh w)) :
    Calls Tryd.prog 3 #[.string key, .string s, .int .i64 c] w fun e w' => e = .returned (.bool true) ∧ Below w.heap.size w w' := by
  obtain ⟨m, hm⟩ : ∃ m : Nat, (c % 18446744073709551616).toNat % (s.size + 1) = m := ⟨_, rfl⟩
  have hm2 : m ≤ s.size := by rw [← hm]; have := Nat.mod_lt (c % 18446744073709551616).toNat (show 0 < s.size + 1 by omega); omega
  have e1 : IntKind.u64.wrap ((s.size : Int) + 1) = (s.size : Int) + 1 := by rw [IntKind.wrap_u64]; omega
  have e1' : IntKind.i64.wrap ((s.size : Int) + 1) = (s.size : Int) + 1 := by rw [IntKind.wrap_i64]; omega
  have e1'' : ((s.size : Int) + 1) % 18446744073709551616 = (s.size : Int) + 1 := by omega
  have e2 : (IntKind.u64.wrap c).tmod ((s.size : Int) + 1) = (m : Int) := by
    rw [IntKind.wrap_u64, Int.tmod_eq_emod_of_nonneg (by omega), ← hm]
    have h1 : c % 18446744073709551616 = (((c % 18446744073709551616).toNat : Nat) : Int) := by omega
    have h2 : (s.size : Int) + 1 = ((s.size + 1 : Nat) : Int) := by omega
    rw [h2, h1]
    exact (Int.natCast_emod _ _).symm
  have e2' : (c % 18446744073709551616).tmod ((s.size : Int) + 1) = (m : Int) := by rw [← IntKind.wrap_u64]; exact e2
  have e3 : IntKind.i64.wrap (m : Int) = (m : Int) := by rw [IntKind.wrap_i64]; omega
  have e5 : (m : Int) ≤ (s.size : Int) := by omega
  have e7 : ¬ ((s.size : Int) + 1 = 0) := by omega
  have e8 : (s.size : Int) ≤ 140737488351232 := by omega
  have T3 : Hid (∀ (B : Nat) (w : World), Kh w → w.cell? ⟨B, 0, none⟩ = some (.string (s.extract 0 m)) → w.cell? ⟨B, 1, none⟩ = some (.string ⟨#[]⟩) → w.cell? ⟨B, 2, none⟩ = some (.string (s.extract m s.size)) → Calls Tryd.prog 6 #[.string key, .slice (some ⟨B, 0, none⟩) 3 3] w fun e w' => e = .returned (.string ⟨(hmac key.data.toList s.data.toList).toArray⟩) ∧ Below w.heap.size w w') := fun B w h h0 h1 h2 => by
    have h := CT.out key (some ⟨B, 0, none⟩) [s.extract 0 m, ⟨#[]⟩, s.extract m s.size] 3 3 w rfl (by show _ ≤ _; decide) (by show _ ≤ _; omega) (fun x hx => by
      simp only [List.mem_cons, List.not_mem_nil, or_false] at hx
      rcases hx with rfl | rfl | rfl
      · rw [ByteArray.size_extract]; omega
      · exact Nat.zero_le _
      · rw [ByteArray.size_extract]; omega) h (strAt3 h0 h1 h2)
    rw [cut_jnd] at h
    exact h
  have T1 : Hid (∀ (B : Nat) (w : World), Kh w → w.cell? ⟨B, 0, none⟩ = some (.string s) → Calls Tryd.prog 6 #[.string key, .slice (some ⟨B, 0, none⟩) 1 1] w fun e w' => e = .returned (.string ⟨(hmac key.data.toList s.data.toList).toArray⟩) ∧ Below w.heap.size w w') := fun B w h h0 => by
    have h := CT.out key (some ⟨B, 0, none⟩) [s] 1 1 w rfl (by show _ ≤ _; decide) (by show _ ≤ _; omega) (fun x hx => by simp at hx; subst hx; omega) h (strAt1 h0)
    rw [jnd_one] at h
    exact h
  generalize (⟨(hmac key.data.toList s.data.toList).toArray⟩ : ByteArray) = X at *
  clear hm hm2 hk0
  go_enter Tryd.func3, Tryd.ntmps3
  go_wp2_with fail
  refine Calls.mono (works4_any CT CS _ hk) ?_
  rintro e w1 ⟨rfl, hb⟩
  have B1 : Hid (Below w.heap.size w w1 ∧ Kh w1) := ⟨hb, hk.out.later hb⟩
  clear hb CT CS
  have KH1 : Hid (∀ w', Below w1.heap.size w1 w' → Kh w') := fun w' h => B1.out.2.later h
  go_wp2_with fail
  go_region_held3 (fun w' => Below w1.heap.size w1 w') (first | exact (Below.refl _ _).drew | exact chain (by assumption) hb3 | exact chain (by assumption) hb1 | exact Below.alloc (by assumption) (Below.size (by assumption)) _ | assumption) (first | (go_at_call 6; revert T3; intro T3; refine Calls.mono (T3.out _ _ (KH1.out _ (by assumption)) ?_ ?_ ?_) ?_; (focus first | (simp [go_sem]; done) | exact cell_alloc (by simp [go_sem])); (focus first | (simp [go_sem]; done) | exact cell_alloc (by simp [go_sem])); (focus first | (simp [go_sem]; done) | exact cell_alloc (by simp [go_sem])); rintro e w3 ⟨rfl, hb3⟩; clear T3) | (go_at_call 6; refine Calls.mono (T1.out _ _ (KH1.out _ (by assumption)) ?_) ?_; (focus first | (simp [go_sem]; done) | exact cell_later hb3 (by simp [go_sem]) | exact cell_later hb3 (cell_alloc (by simp [go_sem]))); rintro e w4 ⟨rfl, hb1⟩))
  all_goals
    rename_i hH
    have BF : Hid (Below w.heap.size w w4) := chain B1.out.1 hH
    clear hH
    go_wp2
    go_ret
    exact ⟨rfl, BF.out⟩
end Go.Proofs.YtdebfelgaiofeadDoor
