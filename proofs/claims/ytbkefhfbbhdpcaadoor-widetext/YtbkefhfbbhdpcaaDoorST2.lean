/- The program's stream: blocks mixed. -/
import Derived.Test.YtbkefhfbbhdpcaaDoorST1
import Derived.Test.YtbkefhfbbhdpcaaDoorK6
import Derived.Deep.MidRow
namespace Go.Proofs.YtbkefhfbbhdpcaaDoor
open Go.RowKit Go.Proofs.Fd Go.Proofs.Hs Go.Proofs.Cc

/-- Words as cells. -/
def wcl (l : List UInt32) : List Value := l.map fun x => .int .u32 (tv x)
theorem wcl_len (l : List UInt32) : (wcl l).length = l.length := by simp [wcl]
theorem wcl_one (l : List UInt32) : ∀ v ∈ wcl l, v.oneCell' = true := fun v hv => by
  obtain ⟨x, _, rfl⟩ := List.mem_map.1 hv; rfl
theorem QAt.range {w : World} {b : Nat} {l : List UInt32} (h : QAt w b l) : w.rangeAt b 0 (wcl l) := fun j v hv => by
  unfold wcl at hv
  rw [List.getElem?_map] at hv
  by_cases hj : j < l.length
  · rw [List.getElem?_eq_getElem hj] at hv
    rw [Nat.zero_add, (h j hj).1]; exact hv
  · rw [List.getElem?_eq_none (by omega)] at hv; cases hv
theorem QAt.new (w : World) (l : List UInt32) (t : TypeId) : QAt (w.alloc (.cells (wcl l).toArray t)) w.heap.size l := fun j hj => by
  refine ⟨?_, by simp [go_sem]⟩
  rw [World.cell?_alloc_new]
  simp [wcl, hj]

theorem QAt.zeros (w : World) (t : TypeId) : QAt (w.alloc (.cells #[.int .u32 0, .int .u32 0, .int .u32 0, .int .u32 0, .int .u32 0, .int .u32 0, .int .u32 0, .int .u32 0, .int .u32 0, .int .u32 0, .int .u32 0, .int .u32 0, .int .u32 0, .int .u32 0, .int .u32 0, .int .u32 0] t)) w.heap.size (List.replicate 16 0) := QAt.new w (List.replicate 16 0) t
theorem QAt.there {w : World} {b : Nat} {l : List UInt32} (h : QAt w b l) (n : Nat) (hn : l.length = n) : w.there b 0 n := fun j hj => by
  obtain ⟨h0, h1⟩ := h j (by omega)
  exact ⟨by rw [Nat.zero_add, h0]; rfl, by rw [Nat.zero_add]; exact h1⟩
theorem QAt.len {w : World} {b : Nat} {l : List UInt32} (h : QAt w b l) (hl : l.length = 16) : b < w.heap.size := World.block_lt_of_cell? _ _ (h 0 (by omega)).1
theorem size16 : (Tryd.prog.info? 59).map (·.size) = some 16 := by kernel_rfl
/-- A quarter round of words in one block, beside others. -/
theorem quarter_inv (B g g2 : Nat) (w0 : World) (L Z : List UInt32) (i j k l : Nat) (w : World) (I : Hid (L.length = 16 ∧ QAt w g L ∧ QAt w g2 Z ∧ Below B w0 w)) (hr : i < 16 ∧ j < 16 ∧ k < 16 ∧ l < 16) (hd : i ≠ j ∧ i ≠ k ∧ i ≠ l ∧ j ≠ k ∧ j ≠ l ∧ k ≠ l) (hB : Hid (B ≤ g ∧ g2 ≠ g)) :
    Calls Tryd.prog 82 #[.pointer (some ⟨g, 0, none⟩), .int .i64 (i : Int), .int .i64 (j : Int), .int .i64 (k : Int), .int .i64 (l : Int)] w fun e w' => e = .returned (.tuple #[]) ∧ Hid ((qr L i j k l).length = 16 ∧ QAt w' g (qr L i j k l) ∧ QAt w' g2 Z ∧ Below B w0 w') := by
  refine Calls.mono (quarter_any g L i j k l I.out.1 hr hd w I.out.2.1) ?_
  rintro e w' ⟨rfl, h1, h2, h3⟩
  exact ⟨rfl, by rw [qr_len]; exact I.out.1, h1, h3 _ _ hB.out.2 I.out.2.2.1, I.out.2.2.2.trans (h2.mono hB.out.1)⟩
theorem res_mixed (tmps : Array Value) (w : World) (b : Nat) (x : Array Value) (h0 : tmps.getD 2 undef = .pointer (some ⟨b, 0, none⟩))
    (l1 : (loadVar 59 ⟨b, 0, none⟩).run Tryd.prog w = .ok (.agg x) w) :
    (results Tryd.f75 tmps).run Tryd.prog w = .ok (.agg x) w := by
  unfold results
  rw [Tryd.results75]
  have h0' : tmps[2]?.getD undef = .pointer (some ⟨b, 0, none⟩) := by simpa using h0
  simp [h0', l1, asAddr]

set_option maxRecDepth 10000 in
set_option maxHeartbeats 1000000 in
theorem smixed_any (L : List UInt32) (hL : Hid (L.length = 16)) (w : World) :
    Calls Tryd.prog 75 #[.agg (wcl L).toArray] w fun e w' => e = .returned (.agg (wcl (Cc.rounds L 10)).toArray) ∧ Below w.heap.size w w' := by
  obtain ⟨M, hM⟩ : ∃ M, Cc.rounds L 10 = M := ⟨_, rfl⟩
  obtain ⟨cs, hcs⟩ : ∃ cs, wcl M = cs := ⟨_, rfl⟩
  rw [hM, hcs]
  have HM : Hid (Cc.rounds L 10 = M ∧ wcl M = cs) := ⟨hM, hcs⟩
  clear hM hcs
  go_enter Tryd.func75, Tryd.ntmps75
  go_wp2
  obtain ⟨A, hA⟩ : ∃ A, w.alloc (.cells (wcl L).toArray 59) = A := ⟨_, rfl⟩
  rw [hA]
  obtain ⟨C, hC⟩ : ∃ C, A.alloc (.cells #[.int .u32 0, .int .u32 0, .int .u32 0, .int .u32 0, .int .u32 0, .int .u32 0, .int .u32 0, .int .u32 0, .int .u32 0, .int .u32 0, .int .u32 0, .int .u32 0, .int .u32 0, .int .u32 0, .int .u32 0, .int .u32 0] 59) = C := ⟨_, rfl⟩
  rw [hC]
  have sA : A.heap.size = w.heap.size + 1 := by rw [← hA]; simp
  obtain ⟨g, hg⟩ : ∃ g, w.heap.size = g := ⟨_, rfl⟩
  obtain ⟨g2, hg2⟩ : ∃ g2, g + 1 = g2 := ⟨_, rfl⟩
  have IC : Hid (L.length = 16 ∧ QAt C g L ∧ QAt C g2 (List.replicate 16 0) ∧ Below g w C) := by
    have q1 := QAt.new w L 59
    rw [hA] at q1
    have q2 := QAt.zeros A 59
    rw [hC, sA, hg, hg2] at q2
    refine ⟨hL.out, ?_, q2, ?_⟩
    · rw [← hg, ← hC]; exact q1.later ((Below.refl _ _).alloc (Nat.le_refl _) _)
    · rw [← hC, ← hA, ← hg]; exact ((Below.refl _ _).alloc (Nat.le_refl _) _).alloc (by simp) _
  have HG : Hid (g ≤ g ∧ g2 ≠ g) := by show _ ∧ _; omega
  have HG2 : Hid (g ≤ g2) := by show _ ≤ _; omega
  rw [hg, hg2]
  have HW : Hid (w.heap.size = g) := hg
  clear hA hC sA hg hg2
  go_loopw [3] (fun i wr => ∃ q : Nat, q ≤ 10 ∧ i = .int .i64 (q : Int) ∧ Hid ((Cc.rounds L q).length = 16 ∧ QAt wr g (Cc.rounds L q) ∧ QAt wr g2 (List.replicate 16 0) ∧ Below g w wr)) (fun i _ => 10 - (intOf i).toNat)
  case atStart => exact ⟨0, by omega, rfl, IC.out⟩
  case round =>
    obtain ⟨q, hq, rfl, I⟩ := hrel
    clear IC
    by_cases hq10 : q = 10
    · subst hq10
      have J := I.out
      rw [HM.out.1] at J
      have RG : Hid (wr.rangeAt g 0 cs) := by show wr.rangeAt g 0 cs; rw [← HM.out.2]; exact J.2.1.range
      have TH : Hid (wr.there g2 0 16) := J.2.2.1.there 16 rfl
      have HL : Hid (cs.length = 16 ∧ cs.toArray.all (·.oneCell') = true) := by rw [← HM.out.2]; exact ⟨by rw [wcl_len]; exact J.1, all_oneCell_toArray (wcl_one _)⟩
      obtain ⟨V, hV⟩ : ∃ V, wr.setCells g2 0 cs.toArray.toList = V := ⟨_, rfl⟩
      have RV : Hid (V.rangeAt g2 0 cs ∧ Below g w V) := by
        rw [← hV]
        exact ⟨World.rangeAt_setCells_same wr g2 0 _ (by show wr.there g2 0 cs.length; rw [HL.out.1]; exact TH.out), below_setCells HG2.out _ _ _ J.2.2.2⟩
      have HV : Hid (_ = _) := hV
      clear hV I J HM
      go_wp2_with (first
        | (refine wpList_load_mid rfl 59 (.tmp 1) rfl g 0 rfl cs _ RG.out Tryd.underlying59 rfl (by rw [HL.out.1]; exact size16) ?_)
        | (refine wpList_store_mid rfl 59 (.tmp 2) (.tmp 14) rfl g2 0 cs.toArray rfl rfl (by rw [List.size_toArray, HL.out.1]; exact TH.out) (by rw [List.size_toArray, HL.out.1]; exact size16) HL.out.2 ?_; rw [HV.out]))
      refine bodyPost_ret (v := .agg cs.toArray) ?_ rfl ⟨rfl, by rw [HW.out]; exact RV.out.2⟩
      exact res_mixed _ V g2 _ (by kernel_rfl) (run_loadVar_mid V g2 0 59 cs _ RV.out.1 Tryd.underlying59 rfl (by rw [HL.out.1]; exact size16))
    · have q10 : (q : Int) < 10 := by omega
      have RS : Hid (Cc.rounds L (q + 1) = dias (cols (Cc.rounds L q) 4) 4) := rfl
      rw [round_eq] at RS
      generalize Cc.rounds L q = N at *
      go_wp2_with fail
      refine Calls.mono (quarter_inv g g g2 w _ _ 0 4 8 12 _ I (by decide) (by decide) HG) ?_
      rintro e w1 ⟨rfl, I1⟩
      clear I
      go_wp2_with fail
      refine Calls.mono (quarter_inv g g g2 w _ _ 1 5 9 13 _ I1 (by decide) (by decide) HG) ?_
      rintro e w2 ⟨rfl, I2⟩
      clear I1
      go_wp2_with fail
      refine Calls.mono (quarter_inv g g g2 w _ _ 2 6 10 14 _ I2 (by decide) (by decide) HG) ?_
      rintro e w3 ⟨rfl, I3⟩
      clear I2
      go_wp2_with fail
      refine Calls.mono (quarter_inv g g g2 w _ _ 3 7 11 15 _ I3 (by decide) (by decide) HG) ?_
      rintro e w4 ⟨rfl, I4⟩
      clear I3
      go_wp2_with fail
      refine Calls.mono (quarter_inv g g g2 w _ _ 0 5 10 15 _ I4 (by decide) (by decide) HG) ?_
      rintro e w5 ⟨rfl, I5⟩
      clear I4
      go_wp2_with fail
      refine Calls.mono (quarter_inv g g g2 w _ _ 1 6 11 12 _ I5 (by decide) (by decide) HG) ?_
      rintro e w6 ⟨rfl, I6⟩
      clear I5
      go_wp2_with fail
      refine Calls.mono (quarter_inv g g g2 w _ _ 2 7 8 13 _ I6 (by decide) (by decide) HG) ?_
      rintro e w7 ⟨rfl, I7⟩
      clear I6
      go_wp2_with fail
      refine Calls.mono (quarter_inv g g g2 w _ _ 3 4 9 14 _ I7 (by decide) (by decide) HG) ?_
      rintro e w8 ⟨rfl, I8⟩
      clear I7
      have NX : Hid ((Cc.rounds L (q + 1)).length = 16 ∧ QAt w8 g (Cc.rounds L (q + 1)) ∧ QAt w8 g2 (List.replicate 16 0) ∧ Below g w w8) := by rw [RS.out]; exact I8
      clear I8 RS
      go_wp2
      go_roundw
      case rel => exact ⟨q + 1, by omega, by go_num, NX.out⟩
      case measure => simp [intOf]; omega
end Go.Proofs.YtbkefhfbbhdpcaaDoor
