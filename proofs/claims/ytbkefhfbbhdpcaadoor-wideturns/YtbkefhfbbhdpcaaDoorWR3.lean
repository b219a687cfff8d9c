/- The document's wide blocks: shut, opened, wrapped. -/
import Derived.Test.YtbkefhfbbhdpcaaDoorWR2
import Derived.Test.YtbkefhfbbhdpcaaDoorGW
import Derived.Test.YtbkefhfbbhdpcaaDoorWE
namespace Go.Proofs.YtbkefhfbbhdpcaaDoor
open Go.RowKit Go.Proofs.Fd Go.Proofs.Hs Go.Proofs.Cc Go.Proofs.Wd
set_option maxRecDepth 20000

theorem steps_at (w : World) (a b c d : Nat) : ∀ q, q < 4 → (w.alloc (.cells #[.int .i64 (a : Int), .int .i64 (b : Int), .int .i64 (c : Int), .int .i64 (d : Int)] 3)).cell? ⟨w.heap.size, q, none⟩ = some (.int .i64 (([a, b, c, d] : List Nat).getD q 0 : Int)) := fun q hq => by
  rw [World.cell?_alloc_new]
  rcases (by omega : q = 0 ∨ q = 1 ∨ q = 2 ∨ q = 3) with rfl | rfl | rfl | rfl <;> rfl

set_option maxHeartbeats 400000 in
theorem rShut_no (key block : ByteArray) (h : wmay (block.size : Int) ≠ 0) (w : World) :
    Calls Tryd.prog 10 #[.string key, .string block] w fun e w' => e = .returned (.tuple #[.string ⟨#[]⟩, .int .i64 (wmay (block.size : Int))]) ∧ Below w.heap.size w w' := by
  have WM : Hid (∀ w, Calls Tryd.prog 22 #[.int .i64 (block.size : Int)] w fun e w' => e = .returned (.int .i64 (wmay (block.size : Int))) ∧ w' = w) := rwmay_any _
  generalize wmay (block.size : Int) = m at *
  go_enter Tryd.func10, Tryd.ntmps10
  go_wp2_with fail
  refine Calls.mono (WM.out _) ?_
  rintro e w1 ⟨rfl, rfl⟩
  go_wp2
  go_ret2
  exact ⟨rfl, Below.refl _ _⟩
set_option maxHeartbeats 400000 in
theorem rShut_ok (key block : ByteArray) (h0 : 64 ≤ block.size) (h1 : block.size ≤ 8192) (hk : Hid (key.size + 64 ≤ 140737488355328)) (w : World) :
    Calls Tryd.prog 10 #[.string key, .string block] w fun e w' => e = .returned (.tuple #[.string ⟨(shutl key.data.toList block.data.toList).toArray⟩, .int .i64 0]) ∧ Below w.heap.size w w' := by
  have WM : Hid (∀ w, Calls Tryd.prog 22 #[.int .i64 (block.size : Int)] w fun e w' => e = .returned (.int .i64 0) ∧ w' = w) := fun w => by
    have := rwmay_any (block.size : Int) w
    rw [wmay_ok _ (by omega) (by omega)] at this
    exact this
  have TR : Hid (Calls Tryd.prog 23 #[.string key, .string block, .slice (some ⟨w.heap.size, 0, none⟩) 4 4] (w.alloc (.cells #[.int .i64 0, .int .i64 1, .int .i64 2, .int .i64 3] 3)) fun e w' => e = .returned (.string ⟨(shutl key.data.toList block.data.toList).toArray⟩) ∧ Below (w.alloc (.cells #[.int .i64 0, .int .i64 1, .int .i64 2, .int .i64 3] 3)).heap.size (w.alloc (.cells #[.int .i64 0, .int .i64 1, .int .i64 2, .int .i64 3] 3)) w') :=
    rturned_any key block [0, 1, 2, 3] w.heap.size 4 ⟨rfl, by decide⟩ h0 h1 hk _ (steps_at w 0 1 2 3)
  generalize (⟨(shutl key.data.toList block.data.toList).toArray⟩ : ByteArray) = X at *
  go_enter Tryd.func10, Tryd.ntmps10
  go_wp2_with fail
  refine Calls.mono (WM.out _) ?_
  rintro e w1 ⟨rfl, hw1⟩
  have hw2 := hw1.symm
  subst hw2
  go_wp2_with fail
  refine Calls.mono TR.out ?_
  rintro e w2 ⟨rfl, hb2⟩
  have B2 : Hid (Below w.heap.size w w2) := chain ((Below.refl _ _).alloc (Nat.le_refl _) _) hb2
  clear hb2 TR
  go_wp2
  go_ret2
  exact ⟨rfl, B2.out⟩
set_option maxHeartbeats 400000 in
theorem rOpen_no (key block : ByteArray) (h : wmay (block.size : Int) ≠ 0) (w : World) :
    Calls Tryd.prog 12 #[.string key, .string block] w fun e w' => e = .returned (.tuple #[.string ⟨#[]⟩, .int .i64 (wmay (block.size : Int))]) ∧ Below w.heap.size w w' := by
  have WM : Hid (∀ w, Calls Tryd.prog 22 #[.int .i64 (block.size : Int)] w fun e w' => e = .returned (.int .i64 (wmay (block.size : Int))) ∧ w' = w) := rwmay_any _
  generalize wmay (block.size : Int) = m at *
  go_enter Tryd.func12, Tryd.ntmps12
  go_wp2_with fail
  refine Calls.mono (WM.out _) ?_
  rintro e w1 ⟨rfl, rfl⟩
  go_wp2
  go_ret2
  exact ⟨rfl, Below.refl _ _⟩
set_option maxHeartbeats 400000 in
theorem rOpen_ok (key block : ByteArray) (h0 : 64 ≤ block.size) (h1 : block.size ≤ 8192) (hk : Hid (key.size + 64 ≤ 140737488355328)) (w : World) :
    Calls Tryd.prog 12 #[.string key, .string block] w fun e w' => e = .returned (.tuple #[.string ⟨(openl key.data.toList block.data.toList).toArray⟩, .int .i64 0]) ∧ Below w.heap.size w w' := by
  have WM : Hid (∀ w, Calls Tryd.prog 22 #[.int .i64 (block.size : Int)] w fun e w' => e = .returned (.int .i64 0) ∧ w' = w) := fun w => by
    have := rwmay_any (block.size : Int) w
    rw [wmay_ok _ (by omega) (by omega)] at this
    exact this
  have TR : Hid (Calls Tryd.prog 23 #[.string key, .string block, .slice (some ⟨w.heap.size, 0, none⟩) 4 4] (w.alloc (.cells #[.int .i64 3, .int .i64 2, .int .i64 1, .int .i64 0] 3)) fun e w' => e = .returned (.string ⟨(openl key.data.toList block.data.toList).toArray⟩) ∧ Below (w.alloc (.cells #[.int .i64 3, .int .i64 2, .int .i64 1, .int .i64 0] 3)).heap.size (w.alloc (.cells #[.int .i64 3, .int .i64 2, .int .i64 1, .int .i64 0] 3)) w') :=
    rturned_any key block [3, 2, 1, 0] w.heap.size 4 ⟨rfl, by decide⟩ h0 h1 hk _ (steps_at w 3 2 1 0)
  generalize (⟨(openl key.data.toList block.data.toList).toArray⟩ : ByteArray) = X at *
  go_enter Tryd.func12, Tryd.ntmps12
  go_wp2_with fail
  refine Calls.mono (WM.out _) ?_
  rintro e w1 ⟨rfl, hw1⟩
  have hw2 := hw1.symm
  subst hw2
  go_wp2_with fail
  refine Calls.mono TR.out ?_
  rintro e w2 ⟨rfl, hb2⟩
  have B2 : Hid (Below w.heap.size w w2) := chain ((Below.refl _ _).alloc (Nat.le_refl _) _) hb2
  clear hb2 TR
  go_wp2
  go_ret2
  exact ⟨rfl, B2.out⟩


theorem rShut_all (k b : ByteArray) (hk : Hid (k.size + 64 ≤ 140737488355328)) (w : World) :
    Calls Tryd.prog 10 #[.string k, .string b] w fun e w' => e = .returned (.tuple (shV k b)) ∧ Below w.heap.size w w' := by
  by_cases h : wmay (b.size : Int) = 0
  · obtain ⟨h0, h1⟩ := wmay_zero _ h
    rw [shV_ok k b (by omega) (by omega)]
    exact rShut_ok k b (by omega) (by omega) hk w
  · rw [shV_no k b h]
    exact rShut_no k b h w
theorem rOpen_all (k b : ByteArray) (hk : Hid (k.size + 64 ≤ 140737488355328)) (w : World) :
    Calls Tryd.prog 12 #[.string k, .string b] w fun e w' => e = .returned (.tuple (opV k b)) ∧ Below w.heap.size w w' := by
  by_cases h : wmay (b.size : Int) = 0
  · obtain ⟨h0, h1⟩ := wmay_zero _ h
    rw [opV_ok k b (by omega) (by omega)]
    exact rOpen_ok k b (by omega) (by omega) hk w
  · rw [opV_no k b h]
    exact rOpen_no k b h w
theorem wrV_no (k t : ByteArray) (n : Int) (h : wmay n ≠ 0) : wrV k t n = #[.string ⟨#[]⟩, .int .i64 (wmay n)] := by unfold wrV; rw [if_neg h]
theorem wrV_long (k t : ByteArray) (n : Int) (h : wmay n = 0) (ht : n - 34 < (t.size : Int)) : wrV k t n = #[.string ⟨#[]⟩, .int .i64 2] := by unfold wrV; rw [if_pos h, if_pos ht]
theorem uwV_no (k b : ByteArray) (h : wmay (b.size : Int) ≠ 0) : uwV k b = #[.string ⟨#[]⟩, .int .i64 (wmay (b.size : Int))] := by unfold uwV; rw [if_neg h]

set_option maxHeartbeats 400000 in
theorem rWrap_all (k t : ByteArray) (n : Int) (hk : Hid (k.size + 64 ≤ 140737488355328)) (w : World) :
    Calls Tryd.prog 15 #[.string k, .string t, .int .i64 n] w fun e w' => e = .returned (.tuple (wrV k t n)) ∧ Below w.heap.size w w' := by
  by_cases h : wmay n = 0
  · obtain ⟨h0, h1⟩ := wmay_zero _ h
    have WM : Hid (∀ w, Calls Tryd.prog 22 #[.int .i64 n] w fun e w' => e = .returned (.int .i64 0) ∧ w' = w) := fun w => by
      have := rwmay_any n w
      rw [h] at this
      exact this
    by_cases hl : n - 34 < (t.size : Int)
    · rw [wrV_long k t n h hl]
      have hl2 : n - 32 - 2 < (t.size : Int) := by omega
      clear h
      go_enter Tryd.func15, Tryd.ntmps15
      go_wp2_with fail
      refine Calls.mono (WM.out _) ?_
      rintro e w1 ⟨rfl, rfl⟩
      go_wp2
      go_ret2
      exact ⟨rfl, Below.refl _ _⟩
    · obtain ⟨m, rfl⟩ : ∃ m : Nat, n = (m : Int) := ⟨n.toNat, by omega⟩
      rw [wrV_ok k t m (by omega) (by omega) (by omega)]
      obtain ⟨P, hP⟩ : ∃ P : ByteArray, ⟨(plainl t.data.toList m).toArray⟩ = P := ⟨_, rfl⟩
      have PL : Hid (∀ w, Calls Tryd.prog 25 #[.string t, .int .i64 (m : Int)] w fun e w' => e = .returned (.string P) ∧ Below w.heap.size w w') := fun w => by
        rw [← hP]; exact rPlain_any t m (by omega) (by omega) w
      have sP : P.size = m := by rw [← hP, ba_sz, plainl_len _ _ (by rw [list_sz]; omega)]
      have SH : Hid (∀ w, Calls Tryd.prog 10 #[.string k, .string P] w fun e w' => e = .returned (.tuple #[.string ⟨(shutl k.data.toList (plainl t.data.toList m)).toArray⟩, .int .i64 0]) ∧ Below w.heap.size w w') := fun w => by
        have := rShut_ok k P (by omega) (by omega) hk w
        rw [show P.data.toList = plainl t.data.toList m by rw [← hP]] at this
        exact this
      generalize (⟨(shutl k.data.toList (plainl t.data.toList m)).toArray⟩ : ByteArray) = X at *
      have hl2 : ¬ (m : Int) - 32 - 2 < (t.size : Int) := by omega
      clear h hP sP
      go_enter Tryd.func15, Tryd.ntmps15
      go_wp2_with fail
      refine Calls.mono (WM.out _) ?_
      rintro e w1 ⟨rfl, hw1⟩
      have hw2 := hw1.symm
      subst hw2
      go_wp2_with fail
      refine Calls.mono (PL.out _) ?_
      rintro e w2 ⟨rfl, hb2⟩
      have B2 : Hid (Below w.heap.size w w2) := hb2
      clear hb2 PL
      go_wp2_with fail
      refine Calls.mono (SH.out _) ?_
      rintro e w3 ⟨rfl, hb3⟩
      have B3 : Hid (Below w.heap.size w w3) := chain B2.out hb3
      clear hb3 SH
      go_wp2
      go_ret2
      exact ⟨rfl, B3.out⟩
  · rw [wrV_no k t n h]
    have WM : Hid (∀ w, Calls Tryd.prog 22 #[.int .i64 n] w fun e w' => e = .returned (.int .i64 (wmay n)) ∧ w' = w) := rwmay_any n
    generalize wmay n = m at *
    go_enter Tryd.func15, Tryd.ntmps15
    go_wp2_with fail
    refine Calls.mono (WM.out _) ?_
    rintro e w1 ⟨rfl, rfl⟩
    go_wp2
    go_ret2
    exact ⟨rfl, Below.refl _ _⟩

set_option maxHeartbeats 400000 in
theorem rUnwrap_all (k b : ByteArray) (hk : Hid (k.size + 64 ≤ 140737488355328)) (w : World) :
    Calls Tryd.prog 17 #[.string k, .string b] w fun e w' => e = .returned (.tuple (uwV k b)) ∧ Below w.heap.size w w' := by
  by_cases h : wmay (b.size : Int) = 0
  · obtain ⟨h0, h1⟩ := wmay_zero _ h
    obtain ⟨O, hO⟩ : ∃ O : ByteArray, ⟨(openl k.data.toList b.data.toList).toArray⟩ = O := ⟨_, rfl⟩
    have dO : O.data.toList = openl k.data.toList b.data.toList := by rw [← hO]
    have sO : O.size = b.size := by rw [← list_sz, dO, openl_len _ _ (by rw [list_sz]; omega), list_sz]
    have OP : Hid (∀ w, Calls Tryd.prog 12 #[.string k, .string b] w fun e w' => e = .returned (.tuple #[.string O, .int .i64 0]) ∧ Below w.heap.size w w') := fun w => by
      rw [← hO]; exact rOpen_ok k b (by omega) (by omega) hk w
    have TX : Hid (∀ w, Calls Tryd.prog 27 #[.string O] w fun e w' => e = .returned (.tuple (txV (openl k.data.toList b.data.toList))) ∧ Below w.heap.size w w') := fun w => by
      rw [← dO]; exact rText_any O (by omega) (by omega) w
    cases ht : textl (openl k.data.toList b.data.toList) with
    | none =>
      rw [uwV_none k b (by omega) (by omega) ht]
      rw [txV_no _ ht] at TX
      clear hO dO sO h ht
      go_enter Tryd.func17, Tryd.ntmps17
      go_wp2_with fail
      refine Calls.mono (OP.out _) ?_
      rintro e w1 ⟨rfl, hb1⟩
      have B1 : Hid (Below w.heap.size w w1) := hb1
      clear hb1 OP
      go_wp2_with fail
      refine Calls.mono (TX.out _) ?_
      rintro e w2 ⟨rfl, hb2⟩
      have B2 : Hid (Below w.heap.size w w2) := chain B1.out hb2
      clear hb2 TX
      go_wp2
      go_ret2
      exact ⟨rfl, B2.out⟩
    | some t =>
      rw [uwV_some k b t (by omega) (by omega) ht]
      rw [txV_yes _ _ ht] at TX
      generalize (⟨t.toArray⟩ : ByteArray) = X at *
      clear hO dO sO h ht
      go_enter Tryd.func17, Tryd.ntmps17
      go_wp2_with fail
      refine Calls.mono (OP.out _) ?_
      rintro e w1 ⟨rfl, hb1⟩
      have B1 : Hid (Below w.heap.size w w1) := hb1
      clear hb1 OP
      go_wp2_with fail
      refine Calls.mono (TX.out _) ?_
      rintro e w2 ⟨rfl, hb2⟩
      have B2 : Hid (Below w.heap.size w w2) := chain B1.out hb2
      clear hb2 TX
      go_wp2
      go_ret2
      exact ⟨rfl, B2.out⟩
  · rw [uwV_no k b h]
    have OP : Hid (∀ w, Calls Tryd.prog 12 #[.string k, .string b] w fun e w' => e = .returned (.tuple #[.string ⟨#[]⟩, .int .i64 (wmay (b.size : Int))]) ∧ Below w.heap.size w w') := fun w => rOpen_no k b h w
    generalize wmay (b.size : Int) = m at *
    go_enter Tryd.func17, Tryd.ntmps17
    go_wp2_with fail
    refine Calls.mono (OP.out _) ?_
    rintro e w1 ⟨rfl, hb1⟩
    go_wp2
    go_ret2
    exact ⟨rfl, hb1⟩
end Go.Proofs.YtbkefhfbbhdpcaaDoor
