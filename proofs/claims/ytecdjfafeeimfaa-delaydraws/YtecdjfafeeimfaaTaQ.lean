/- The program's tape: New, Left, Fork, Word, Below, Bytes. -/
import Derived.Test.YtecdjfafeeimfaaTaP
namespace Go.Proofs.Ytecdjfafeeimfaa
open Go.RowKit Go.Proofs.Fd Go.Proofs.Ta
set_option maxRecDepth 20000

theorem TAt.new (w : World) (t : ByteArray) (ty : TypeId) (ht : t.size ≤ 140737488351232) : TAt (w.alloc (.cells #[.string t, .int .i64 0] ty)) w.heap.size t.data.toList :=
  ⟨t, 0, by rw [World.cell?_alloc_new]; rfl, by rw [World.cell?_alloc_new]; rfl, fun o => by simp [go_sem], Nat.zero_le _, ht, rfl⟩
theorem range2 {w : World} {b : Nat} {x0 x1 : Value} (h0 : w.cell? ⟨b, 0, none⟩ = some x0) (h1 : w.cell? ⟨b, 1, none⟩ = some x1) : w.rangeAt b 0 [x0, x1] := by
  intro j v hv
  rcases (by have := (List.getElem?_eq_some_iff.1 hv).1; simp at this; omega : j = 0 ∨ j = 1) with rfl | rfl
  · simp at hv; subst hv; simpa using h0
  · simp at hv; subst hv; simpa using h1
theorem res_reader (tmps : Array Value) (w : World) (b : Nat) (x : Array Value) (h0 : tmps.getD 2 undef = .pointer (some ⟨b, 0, none⟩))
    (l1 : (loadVar 53 ⟨b, 0, none⟩).run Try.prog w = .ok (.agg x) w) :
    (results Try.f26 tmps).run Try.prog w = .ok (.agg x) w := by
  unfold results
  rw [Try.results26]
  have h0' : tmps[2]?.getD undef = .pointer (some ⟨b, 0, none⟩) := by simpa using h0
  simp [h0', l1, asAddr]
set_option maxHeartbeats 1000000 in
theorem readerOf_any (t : ByteArray) (ht : t.size ≤ 140737488351232) (w : World) :
    Calls Try.prog 26 #[.string t] w fun e w' => e = .returned (.agg #[.string t, .int .i64 0]) ∧ Below w.heap.size w w' := by
  have CL : Hid (∀ w, Calls Try.prog 34 #[.string t] w fun e w' => e = .returned (.string t) ∧ Below w.heap.size w w') := fun w => sclone_any t (by omega) w
  clear ht
  go_enter Try.func26, Try.ntmps26
  go_wp2_with fail
  refine Calls.mono (CL.out _) ?_
  rintro e w1 ⟨rfl, hb⟩
  have k0 : w1.cell? ⟨w.heap.size, 0, none⟩ = some (.string ⟨#[]⟩) := cell_later hb (by rw [World.cell?_alloc_new]; rfl)
  have k1 : w1.cell? ⟨w.heap.size, 1, none⟩ = some (.int .i64 0) := cell_later hb (by rw [World.cell?_alloc_new]; rfl)
  have k2 : ∀ o, w1.frozen? ⟨w.heap.size, o, none⟩ = false := fun o => (frozen_kept hb (by simp)).trans (by simp [go_sem])
  have B1 : Hid (Below w.heap.size w w1) := ((Below.refl _ w).alloc (Nat.le_refl _) _).trans (hb.mono (by simp))
  have FI : Hid (Below w.heap.size w ((w1.setCell ⟨w.heap.size, 0, none⟩ (.string t)).setCell ⟨w.heap.size, 1, none⟩ (.int .i64 0)) ∧ ((w1.setCell ⟨w.heap.size, 0, none⟩ (.string t)).setCell ⟨w.heap.size, 1, none⟩ (.int .i64 0)).cell? ⟨w.heap.size, 0, none⟩ = some (.string t) ∧ ((w1.setCell ⟨w.heap.size, 0, none⟩ (.string t)).setCell ⟨w.heap.size, 1, none⟩ (.int .i64 0)).cell? ⟨w.heap.size, 1, none⟩ = some (.int .i64 0)) :=
    ⟨(B1.out.setCell (p := ⟨w.heap.size, 0, none⟩) (Nat.le_refl w.heap.size) _).setCell (p := ⟨w.heap.size, 1, none⟩) (Nat.le_refl w.heap.size) _, by simp [go_sem, k0], by simp [go_sem, k1]⟩
  clear hb CL B1
  go_wp2
  refine bodyPost_ret (v := .agg #[.string t, .int .i64 0]) ?_ rfl ⟨rfl, FI.out.1⟩
  exact res_reader _ _ w.heap.size _ (by kernel_rfl) (run_loadVar_mid _ w.heap.size 0 53 [.string t, .int .i64 0] _ (range2 FI.out.2.1 FI.out.2.2) Try.underlying53 rfl (by kernel_rfl))
set_option maxHeartbeats 1000000 in
theorem new_any (t : ByteArray) (ht : t.size ≤ 140737488351232) (w : World) :
    Calls Try.prog 14 #[.string t] w fun e w' => ∃ p, e = .returned (.pointer (some ⟨p, 0, none⟩)) ∧ TAt w' p t.data.toList ∧ w.heap.size ≤ p ∧ Below w.heap.size w w' := by
  have CL : Hid _ := readerOf_any t ht w
  have HT : Hid (t.size ≤ 140737488351232) := ht
  clear ht
  go_enter Try.func14, Try.ntmps14
  go_wp2_with fail
  refine Calls.mono CL.out ?_
  rintro e w1 ⟨rfl, hb⟩
  have B1 : Hid (Below w.heap.size w w1) := hb
  clear hb CL
  go_wp2
  go_ret
  exact ⟨w1.heap.size, rfl, TAt.new w1 t _ HT.out, B1.out.size, B1.out.alloc B1.out.size _⟩
set_option maxHeartbeats 1000000 in
theorem left_any (p : Nat) (l : List UInt8) (w : World) (R : Hid (TAt w p l)) :
    Calls Try.prog 18 #[.pointer (some ⟨p, 0, none⟩)] w fun e w' => e = .returned (.int .i64 (l.length : Int)) ∧ Below w.heap.size w w' := by
  have RS := rest_any p l w R.out
  obtain ⟨S, hS⟩ : ∃ S : ByteArray, ⟨l.toArray⟩ = S := ⟨_, rfl⟩
  have hz : l.length = S.size := by rw [← hS]; exact (ba_size l).symm
  rw [hS] at RS
  rw [hz]
  have HR : Hid _ := RS
  clear RS hz hS
  go_enter Try.func18, Try.ntmps18
  go_wp2_with fail
  refine Calls.mono HR.out ?_
  rintro e w1 ⟨rfl, hb⟩
  have B1 : Hid (Below w.heap.size w w1) := hb
  clear hb HR R
  go_wp2
  go_ret
  exact ⟨rfl, B1.out⟩
end Go.Proofs.Ytecdjfafeeimfaa
