/- The program's wide layer: the four keys. -/
import Derived.Test.YtbkefhfbbhdpcaaDoorGP
import Derived.Test.YtbkefhfbbhdpcaaDoorGW
import Derived.Test.YtbkefhfbbhdpcaaDoorWRp
namespace Go.Proofs.YtbkefhfbbhdpcaaDoor
open Go.RowKit Go.Proofs.Fd Go.Proofs.Hs Go.Proofs.Cc Go.Proofs.Wd

theorem At4.range {w : World} {b : Nat} {x0 x1 x2 x3 : Value} (h : At4 w b x0 x1 x2 x3) : w.rangeAt b 0 [x0, x1, x2, x3] := by
  obtain ⟨-, h0, h1, h2, h3⟩ := h
  intro j v hv
  rcases (by have := (List.getElem?_eq_some_iff.1 hv).1; simp at this; omega : j = 0 ∨ j = 1 ∨ j = 2 ∨ j = 3) with rfl | rfl | rfl | rfl
  · simp at hv; subst hv; simpa using h0
  · simp at hv; subst hv; simpa using h1
  · simp at hv; subst hv; simpa using h2
  · simp at hv; subst hv; simpa using h3
theorem res_keys (tmps : Array Value) (w : World) (b : Nat) (x : Array Value) (h0 : tmps.getD 2 undef = .pointer (some ⟨b, 0, none⟩))
    (l1 : (loadVar 33 ⟨b, 0, none⟩).run Tryd.prog w = .ok (.agg x) w) :
    (results Tryd.f28 tmps).run Tryd.prog w = .ok (.agg x) w := by
  unfold results
  rw [Tryd.results28]
  have h0' : tmps[2]?.getD undef = .pointer (some ⟨b, 0, none⟩) := by simpa using h0
  simp [h0', l1, asAddr]
/-- A key's part, as a string. -/
def wks (key : ByteArray) (i : Nat) : ByteArray := ⟨(wkey key.data.toList i).toArray⟩

set_option maxHeartbeats 1000000 in
theorem derived_any (key : ByteArray) (hk : Hid (key.size + 64 ≤ 140737488355328)) (w : World) (hK : Hid (Kh w)) :
    Calls Tryd.prog 28 #[.string key] w fun e w' => e = .returned (.agg #[.string (wks key 0), .string (wks key 1), .string (wks key 2), .string (wks key 3)]) ∧ Below w.heap.size w w' := by
  obtain ⟨A, hA⟩ : ∃ A : ByteArray, ⟨(drv key.data.toList lab 128).toArray⟩ = A := ⟨_, rfl⟩
  have DV : Hid (∀ w, Kh w → Calls Tryd.prog 35 #[.string key, .string ⟨#[119, 105, 100, 101]⟩, .int .i64 128] w fun e w' => e = .returned (.tuple #[.string A, .int .i64 0]) ∧ Below w.heap.size w w') := fun w h => by
    have := derive_c key ⟨#[119, 105, 100, 101]⟩ 128 w hk (by show (4 : Nat) + 97 ≤ _; decide) h
    unfold drV at this
    rw [if_neg (by decide)] at this
    rw [← hA]
    exact this
  have sA : A.size = 128 := by rw [← hA, ba_sz]; unfold drv; rw [xpn_len]
  have AK : Hid (wks key 0 = A.extract 0 32 ∧ wks key 1 = A.extract 32 64 ∧ wks key 2 = A.extract 64 96 ∧ wks key 3 = A.extract 96 128) := by
    have h : ∀ i, wks key i = A.extract (32 * i) (32 * i + 32) := fun i => by
      have e : (A.extract (32 * i) (32 * i + 32)).data.toList = wkey key.data.toList i := by
        rw [← hA, ba_cut]
        unfold wkey
        rw [show 32 * i + 32 - 32 * i = 32 by omega]
      unfold wks
      rw [← e]
    exact ⟨h 0, h 1, h 2, h 3⟩
  have sAi : (A.size : Int) = 128 := by omega
  clear hA
  rw [AK.out.1, AK.out.2.1, AK.out.2.2.1, AK.out.2.2.2]
  go_enter Tryd.func28, Tryd.ntmps28
  go_wp2_with fail
  refine Calls.mono (DV.out _ (hK.out.alloc _)) ?_
  rintro e w1 ⟨rfl, hb1⟩
  obtain ⟨W2, hW2⟩ : ∃ W2, w1.alloc (.cells #[.string A] 9) = W2 := ⟨_, rfl⟩
  have J : Hid (At4 W2 w.heap.size (.string ⟨#[]⟩) (.string ⟨#[]⟩) (.string ⟨#[]⟩) (.string ⟨#[]⟩) ∧ Below w.heap.size w W2 ∧ W2.cell? ⟨w1.heap.size, 0, none⟩ = some (.string A)) := by
    have h0 : At4 (w.alloc (.cells #[.string ⟨#[]⟩, .string ⟨#[]⟩, .string ⟨#[]⟩, .string ⟨#[]⟩] 33)) w.heap.size (.string ⟨#[]⟩) (.string ⟨#[]⟩) (.string ⟨#[]⟩) (.string ⟨#[]⟩) := ⟨fun o => by simp [go_sem], by simp [go_sem], by simp [go_sem], by simp [go_sem], by simp [go_sem]⟩
    rw [← hW2]
    exact ⟨(h0.later hb1).later ((Below.refl _ _).alloc (Nat.le_refl _) _), (chain ((Below.refl _ _).alloc (Nat.le_refl _) _) hb1).alloc (by have := hb1.size; simp at this; omega) _, by simp [go_sem]⟩
  obtain ⟨fz, c0, c1, c2, c3⟩ := J.out.1
  have ca := J.out.2.2
  have f0 := fz 0
  have f1 := fz 1
  have f2 := fz 2
  have f3 := fz 3
  have AF : Hid (∀ x0 x1 x2 x3, At4 ((((W2.setCell ⟨w.heap.size, 0, none⟩ x0).setCell ⟨w.heap.size, 1, none⟩ x1).setCell ⟨w.heap.size, 2, none⟩ x2).setCell ⟨w.heap.size, 3, none⟩ x3) w.heap.size x0 x1 x2 x3) := fun x0 x1 x2 x3 => At4.whole J.out.1 x0 x1 x2 x3
  have NF : Hid (∀ x0 x1 x2 x3, Below w.heap.size w ((((W2.setCell ⟨w.heap.size, 0, none⟩ x0).setCell ⟨w.heap.size, 1, none⟩ x1).setCell ⟨w.heap.size, 2, none⟩ x2).setCell ⟨w.heap.size, 3, none⟩ x3)) := fun x0 x1 x2 x3 => below_put J.out.2.1 (Nat.le_refl _) x0 x1 x2 x3
  clear hb1 DV fz J
  go_wp2
  refine bodyPost_ret (v := .agg #[.string (A.extract 0 32), .string (A.extract 32 64), .string (A.extract 64 96), .string (A.extract 96 128)]) ?_ rfl ⟨rfl, NF.out _ _ _ _⟩
  exact res_keys _ _ w.heap.size _ (by kernel_rfl) (run_loadVar_mid _ w.heap.size 0 33 [.string (A.extract 0 32), .string (A.extract 32 64), .string (A.extract 64 96), .string (A.extract 96 128)] _ (At4.range (AF.out _ _ _ _)) Tryd.underlying33 rfl (by kernel_rfl))
end Go.Proofs.YtbkefhfbbhdpcaaDoor
