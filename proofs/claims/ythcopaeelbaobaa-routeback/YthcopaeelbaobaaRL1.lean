/- RouteBytes and RouteReads answer true, by the layer's contracts. -/
import Derived.Test.YthcopaeelbaobaaRE
namespace Go.Proofs.Ythcopaeelbaobaa
open Go.RowKit Go.Proofs.Fd Go.Proofs.Rt
set_option maxRecDepth 20000

theorem enV_form (h : Hp) : ∃ (X : ByteArray) (e : Int), enV h = #[.string X, .int .i64 e] := by
  unfold enV; split <;> exact ⟨_, _, rfl⟩
theorem dcV_two (b : ByteArray) : ∃ (x : Hp) (e : Int), dcV b = #[hv x, .int .i64 e] := by
  unfold dcV; split
  · split <;> exact ⟨_, _, rfl⟩
  · exact ⟨_, _, rfl⟩

set_option maxHeartbeats 1000000 in
theorem RouteBytes_walk (CC : Hid CheckC) (CE : Hid EncodeC) (CP : Hid PathC) (h : Hp) (hi : h.id.size ≤ 140737488355328) (w : World) :
    Calls Try.prog 3 #[hv h] w fun e w' => e = .returned (.bool true) ∧ Below w.heap.size w w' := by
  have E1 : Hid (∀ w, Calls Try.prog 9 #[hv h] w fun e w' => e = .returned (.tuple (enV h)) ∧ Below w.heap.size w w') := fun w => CE.out h w hi
  have E2 : Hid (∀ w, Calls Try.prog 10 #[hv h] w fun e w' => e = .returned (.tuple (enV h)) ∧ Below w.heap.size w w') := fun w => rEncode_any h w
  have C1 : Hid (∀ w, Calls Try.prog 11 #[hv h] w fun e w' => e = .returned (.int .i64 (chk h)) ∧ Below w.heap.size w w') := fun w => CC.out h w hi
  have C2 : Hid (∀ w, Calls Try.prog 12 #[hv h] w fun e w' => e = .returned (.int .i64 (chk h)) ∧ Below w.heap.size w w') := fun w => rCheck_any h w
  obtain ⟨X, x, hX⟩ := enV_form h
  rw [hX] at E1 E2
  generalize chk h = c at *
  clear hX
  obtain ⟨k, n, u, d, id⟩ := h
  unfold hv at *
  simp only at E1 E2 C1 C2 ⊢
  have WK : Hid (∀ w, Calls Try.prog 13 #[] w fun e w' => e = .returned (.bool true) ∧ Below w.heap.size w w') := fun w => works7_any CE CP w
  have XX : (X.toList == X.toList) = true := by simp
  clear CC CE CP hi
  go_enter Try.func3, Try.ntmps3
  go_wp2_with fail
  refine Calls.mono (E1.out _) ?_
  rintro e w1 ⟨rfl, hb1⟩
  have B1 : Hid (HopAt w1 w.heap.size ⟨k, n, u, d, id⟩ ∧ Below w.heap.size w w1) := ⟨(HopAt.fresh _ _ _ _ _ _ _).later hb1, chain ((Below.refl _ _).alloc (Nat.le_refl _) _) hb1⟩
  obtain ⟨p0, p1, p2, p3, p4⟩ := B1.out.1.cells
  clear hb1 E1
  go_wp2_with fail
  refine Calls.mono (E2.out _) ?_
  rintro e w2 ⟨rfl, hb2⟩
  have B2 : Hid (HopAt w2 w.heap.size ⟨k, n, u, d, id⟩ ∧ Below w.heap.size w w2) := ⟨B1.out.1.later hb2, chain B1.out.2 hb2⟩
  clear p0 p1 p2 p3 p4
  obtain ⟨p0, p1, p2, p3, p4⟩ := B2.out.1.cells
  clear hb2 E2 B1
  have KP : Hid (∀ w', Below w2.heap.size w2 w' → Below w2.heap.size w2 w' ∧ w'.cell? ⟨w.heap.size, 0, none⟩ = some (.int .i64 k) ∧ w'.cell? ⟨w.heap.size, 1, none⟩ = some (.int .i64 n) ∧ w'.cell? ⟨w.heap.size, 2, none⟩ = some (.int .i64 u) ∧ w'.cell? ⟨w.heap.size, 3, none⟩ = some (.int .i64 d) ∧ w'.cell? ⟨w.heap.size, 4, none⟩ = some (.string id)) := fun w' h => ⟨h, cell_later h p0, cell_later h p1, cell_later h p2, cell_later h p3, cell_later h p4⟩
  go_wp2
  go_region_held3 (fun w' => Below w2.heap.size w2 w' ∧ w'.cell? ⟨w.heap.size, 0, none⟩ = some (.int .i64 k) ∧ w'.cell? ⟨w.heap.size, 1, none⟩ = some (.int .i64 n) ∧ w'.cell? ⟨w.heap.size, 2, none⟩ = some (.int .i64 u) ∧ w'.cell? ⟨w.heap.size, 3, none⟩ = some (.int .i64 d) ∧ w'.cell? ⟨w.heap.size, 4, none⟩ = some (.string id)) (first | exact KP.out _ (Below.refl _ _).drew | exact KP.out _ (chain (And.left (by assumption)) hb3) | exact KP.out _ (chain (And.left (by assumption)) hb4) | exact KP.out _ (chain (And.left (by assumption)) hb5) | assumption) (first | (go_at_call 11; refine Calls.mono (C1.out _) ?_; rintro e w3 ⟨rfl, hb3⟩) | (go_at_call 12; refine Calls.mono (C2.out _) ?_; rintro e w4 ⟨rfl, hb4⟩) | (go_at_call 13; refine Calls.mono (WK.out _) ?_; rintro e w5 ⟨rfl, hb5⟩))
  rename_i hHeld
  have B5 : Hid (Below w.heap.size w w5) := chain B2.out.2 hHeld.1
  clear hHeld hb3 hb4 hb5 KP
  go_wp2
  go_ret
  exact ⟨rfl, B5.out⟩

set_option maxHeartbeats 1000000 in
theorem RouteReads_walk (CD : Hid DecodeC) (CE : Hid EncodeC) (CP : Hid PathC) (b : ByteArray) (hb : b.size ≤ 140737488355328) (w : World) :
    Calls Try.prog 4 #[.string b] w fun e w' => e = .returned (.bool true) ∧ Below w.heap.size w w' := by
  have D1 : Hid (∀ w, Calls Try.prog 14 #[.string b] w fun e w' => e = .returned (.tuple (dcV b)) ∧ Below w.heap.size w w') := fun w => CD.out b w hb
  have D2 : Hid (∀ w, Calls Try.prog 15 #[.string b] w fun e w' => e = .returned (.tuple (dcV b)) ∧ Below w.heap.size w w') := fun w => rDecode_any b w
  obtain ⟨⟨k, n, u, d, id⟩, x, hX⟩ := dcV_two b
  rw [hX] at D1 D2
  clear hX
  unfold hv at *
  simp only at D1 D2
  have WK : Hid (∀ w, Calls Try.prog 13 #[] w fun e w' => e = .returned (.bool true) ∧ Below w.heap.size w w') := fun w => works7_any CE CP w
  have XX : (id.toList == id.toList) = true := by simp
  clear CD CE CP
  go_enter Try.func4, Try.ntmps4
  go_wp2_with fail
  refine Calls.mono (D1.out _) ?_
  rintro e w1 ⟨rfl, hb1⟩
  have B1 : Hid (Below w.heap.size w w1) := hb1
  clear hb1 D1
  go_wp2_with fail
  refine Calls.mono (D2.out _) ?_
  rintro e w2 ⟨rfl, hb2⟩
  obtain ⟨W, hW⟩ : ∃ W, w2.alloc (.cells #[.int .i64 k, .int .i64 n, .int .i64 u, .int .i64 d, .string id] 23) = W := ⟨_, rfl⟩
  have B2 : Hid (HopAt W w1.heap.size ⟨k, n, u, d, id⟩ ∧ HopAt W w2.heap.size ⟨k, n, u, d, id⟩ ∧ Below w.heap.size w W) := by
    rw [← hW]
    have bw := (Below.refl _ w2).alloc (Nat.le_refl _) (.cells #[.int .i64 k, .int .i64 n, .int .i64 u, .int .i64 d, .string id] 23)
    exact ⟨((HopAt.fresh _ _ _ _ _ _ _).later hb2).later bw, HopAt.fresh _ _ _ _ _ _ _, chain (chain (chain B1.out ((Below.refl _ _).alloc (Nat.le_refl _) _)) hb2) bw⟩
  obtain ⟨p0, p1, p2, p3, p4⟩ := B2.out.1.cells
  obtain ⟨q0, q1, q2, q3, q4⟩ := B2.out.2.1.cells
  clear hb2 D2 B1
  go_wp2_with fail
  refine Calls.mono (WK.out _) ?_
  rintro e w3 ⟨rfl, hb3⟩
  have B3 : Hid (Below w.heap.size w w3) := chain B2.out.2.2 hb3
  clear hb3 B2
  go_wp2
  go_ret
  exact ⟨rfl, B3.out⟩
end Go.Proofs.Ythcopaeelbaobaa
