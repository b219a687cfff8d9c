/- The document's wide blocks: a block, by steps. -/
import Derived.Test.YtbkefhfbbhdpcaaDoorWR1
import Derived.Test.YtbkefhfbbhdpcaaDoorSD2
import Derived.Test.YtbkefhfbbhdpcaaDoorWRp
namespace Go.Proofs.YtbkefhfbbhdpcaaDoor
open Go.RowKit Go.Proofs.Fd Go.Proofs.Hs Go.Proofs.Cc Go.Proofs.Wd
set_option maxRecDepth 20000

/-- Twelve bytes 0, as a string. -/
def z12s : ByteArray := ⟨z12.toArray⟩
theorem z12_made (w' w2 : World) (h : Below (w'.alloc (.cells (Array.replicate 12 (.int .u8 0)) 5)).heap.size (w'.alloc (.cells (Array.replicate 12 (.int .u8 0)) 5)) w2) :
    (convert 30 9 (.slice (some ⟨w'.heap.size, 0, none⟩) 12 12)).run Tryd.prog w2 = .ok (.string z12s) w2 := by
  have hB : BytesAt (w'.alloc (.cells (Array.replicate 12 (.int .u8 0)) 5)) w'.heap.size z12 := fun j hj => by
    have hj' : j < 12 := by simpa [z12] using hj
    refine ⟨?_, by simp [go_sem]⟩
    rw [World.cell?_alloc_new, Array.getElem?_replicate, if_pos hj']
    simp only [z12, List.getElem_replicate]
    rfl
  exact (hB.later h).string (cap := 12) (n := 12) rfl
theorem z12_now (w' : World) : (convert 30 9 (.slice (some ⟨w'.heap.size, 0, none⟩) 12 12)).run Tryd.prog (w'.alloc (.cells (Array.replicate 12 (.int .u8 0)) 5)) = .ok (.string z12s) (w'.alloc (.cells (Array.replicate 12 (.int .u8 0)) 5)) := z12_made w' _ (Below.refl _ _)

set_option maxHeartbeats 2000000 in
theorem rturned_any (key block : ByteArray) (st : List Nat) (g cap : Nat) (hst : Hid (st.length = 4 ∧ ∀ q, q < 4 → st.getD q 0 < 4)) (hb0 : 64 ≤ block.size) (hb1 : block.size ≤ 8192) (hk : Hid (key.size + 64 ≤ 140737488355328)) (w : World) (hc : Hid (∀ q, q < 4 → w.cell? ⟨g, q, none⟩ = some (.int .i64 (st.getD q 0 : Int)))) :
    Calls Tryd.prog 23 #[.string key, .string block, .slice (some ⟨g, 0, none⟩) 4 cap] w fun e w' => e = .returned (.string ⟨(trnd key.data.toList st block.data.toList).toArray⟩) ∧ Below w.heap.size w w' := by
  have KY : Hid (∀ w, Calls Tryd.prog 31 #[.string key, .string ⟨#[119, 105, 100, 101]⟩, .int .i64 128] w fun e w' => e = .returned (.string ⟨(drv key.data.toList lab 128).toArray⟩) ∧ Below w.heap.size w w') := fun w => rKey_any key ⟨#[119, 105, 100, 101]⟩ 128 (by decide) hk (by show (4 : Nat) + 97 ≤ _; decide) w
  obtain ⟨A, hA⟩ : ∃ A : ByteArray, ⟨(drv key.data.toList lab 128).toArray⟩ = A := ⟨_, rfl⟩
  have sA : A.size = 128 := by rw [← hA, ba_sz]; unfold drv; rw [xpn_len]
  have AK : Hid (∀ i, i < 4 → (A.extract (32 * i) (32 * i + 32)).data.toList = wkey key.data.toList i ∧ (A.extract (32 * i) (32 * i + 32)).size = 32) := fun i hi => by
    refine ⟨?_, by rw [ByteArray.size_extract, sA]; omega⟩
    rw [← hA, ba_cut]
    unfold wkey
    rw [show 32 * i + 32 - 32 * i = 32 by omega]
  rw [hA] at KY
  obtain ⟨P, hP⟩ : ∃ P : Nat → List UInt8 × List UInt8, (fun q => run key.data.toList (st.take q) (block.data.toList.take 32, block.data.toList.drop 32)) = P := ⟨_, rfl⟩
  have PP : Hid (P 0 = (block.data.toList.take 32, block.data.toList.drop 32) ∧ (∀ q, q < 4 → P (q + 1) = stp key.data.toList (st.getD q 0) (P q)) ∧ (∀ q, (P q).1.length = 32 ∧ (P q).2.length = block.size - 32) ∧ trnd key.data.toList st block.data.toList = (P 4).1 ++ (P 4).2) := by
    have hl : block.data.toList.length = block.size := list_sz _
    rw [← hP]
    refine ⟨rfl, fun q hq => ?_, fun q => ?_, ?_⟩
    · show run _ (st.take (q + 1)) _ = _
      have hq' : q < st.length := by rw [hst.out.1]; exact hq
      rw [List.take_succ_eq_append_getElem hq', run_snoc, List.getD_eq_getElem?_getD, List.getElem?_eq_getElem hq']
      rfl
    · have h := run_len key.data.toList (st.take q) (block.data.toList.take 32, block.data.toList.drop 32) (by show (block.data.toList.take 32).length = 32; rw [List.length_take, hl]; omega)
      refine ⟨h.1, h.2.trans ?_⟩
      show (block.data.toList.drop 32).length = _
      rw [List.length_drop, hl]
    · show _ = (run _ (st.take 4) _).1 ++ (run _ (st.take 4) _).2
      rw [List.take_of_length_le (by rw [hst.out.1]; exact Nat.le_refl _)]
      rfl
  rw [PP.out.2.2.2]
  have BL : Hid ((block.extract 0 32).data.toList = (P 0).1 ∧ (block.extract 32 block.size).data.toList = (P 0).2) := by
    have e : block = ⟨block.data.toList.toArray⟩ := ba_of rfl
    rw [PP.out.1]
    constructor
    · rw [e, ba_cut]; simp
    · rw [e, ba_cut, ba_sz]
      show (block.data.toList.drop 32).take _ = block.data.toList.drop 32
      rw [List.take_of_length_le (by rw [List.length_drop]; exact Nat.le_refl _)]
  clear hP hA
  have b32 : (32 : Int) ≤ (block.size : Int) := by omega
  have HM : Hid (∀ w : World, (Instr.makeSlice 30 (.int .i64 12) (.int .i64 12)).run Tryd.prog w = .ok (.slice (some ⟨w.heap.size, 0, none⟩) 12 12) (w.alloc (.cells (Array.replicate 12 (.int .u8 0)) 5))) := fun _ => by kernel_rfl
  go_enter Tryd.func23, Tryd.ntmps23
  go_wp2_with fail
  refine Calls.mono (KY.out _) ?_
  rintro e w1 ⟨rfl, hbA⟩
  have I1 : Hid (Below w.heap.size w w1) := hbA
  clear hbA KY
  go_wp2
  go_quiet (fail)
  have I2 : Hid (Below w.heap.size w (w1.drewN nq)) := below_drewN I1.out nq
  go_wp2
  go_loopw [8, 9, 10] (fun lv rv i wr => ∃ (q : Nat) (L R : ByteArray), q ≤ 4 ∧ i = .int .i64 (q : Int) ∧ lv = .string L ∧ rv = .string R ∧ Hid (L.data.toList = (P q).1 ∧ R.data.toList = (P q).2 ∧ Below w.heap.size w wr)) (fun _ _ i _ => 4 - (intOf i).toNat)
  case atStart => exact ⟨0, _, _, by omega, rfl, rfl, rfl, BL.out.1, BL.out.2, I2.out⟩
  case round =>
    obtain ⟨q, L, R, hq, rfl, rfl, rfl, I⟩ := hrel
    clear I1 I2 BL
    have sL : L.size = 32 := by rw [← list_sz, I.out.1]; exact (PP.out.2.2.1 q).1
    have sR : R.size = block.size - 32 := by rw [← list_sz, I.out.2.1]; exact (PP.out.2.2.1 q).2
    by_cases hq4 : q = 4
    · subst hq4
      rw [show ((4 : Nat) : Int) = 4 from rfl]
      have FE : Hid (L ++ R = ⟨((P 4).1 ++ (P 4).2).toArray⟩) := by
        show _ = _
        rw [ba_of I.out.1, ba_of I.out.2.1]
        apply ByteArray.ext
        simp
      have SL : Hid (L.size = 32 ∧ R.size = block.size - 32) := ⟨sL, sR⟩
      have hsum : L.size + R.size ≤ 8192 := by omega
      clear sL sR
      go_wp2
      go_ret
      exact ⟨by rw [← FE.out]; rfl, I.out.2.2⟩
    · have q4 : q < 4 := by omega
      have z4 : (q : Int) < 4 := by omega
      have cq := cell_later I.out.2.2 (hc.out q q4)
      have h4 := hst.out.2 q q4
      have NP : Hid (_ = _) := PP.out.2.1 q q4
      obtain ⟨s, hs⟩ : ∃ s, st.getD q 0 = s := ⟨_, rfl⟩
      rw [hs] at cq h4 NP
      have SL : Hid (L.size = 32 ∧ R.size = block.size - 32) := ⟨sL, sR⟩
      have sRi : (R.size : Int) ≤ 8192 := by omega
      clear hs sL sR
      rcases (by omega : s = 0 ∨ s = 1 ∨ s = 2 ∨ s = 3) with rfl | rfl | rfl | rfl
      · rw [show ((0 : Nat) : Int) = 0 from rfl] at cq
        obtain ⟨kd, ks⟩ := AK.out 0 (by decide)
        rw [show 32 * 0 = 0 from rfl, show 0 + 32 = 32 from rfl] at kd ks
        obtain ⟨K, hK⟩ : ∃ K, A.extract 0 32 = K := ⟨_, rfl⟩
        rw [hK] at kd ks
        obtain ⟨X, hX⟩ : ∃ X : ByteArray, ⟨(xorl L.data.toList K.data.toList).toArray⟩ = X := ⟨_, rfl⟩
        have sX : X.size = 32 := by rw [← hX, ba_sz, xorl_len _ _ (by rw [list_sz, list_sz, SL.out.1, ks]; exact Nat.le_refl _), list_sz, SL.out.1]
        obtain ⟨S, hS⟩ : ∃ S : ByteArray, ⟨(strm X.data.toList z12 0 R.size).toArray⟩ = S := ⟨_, rfl⟩
        have sS : S.size = R.size := by rw [← hS, ba_sz, strm_len]
        obtain ⟨Y, hY⟩ : ∃ Y : ByteArray, ⟨(xorl R.data.toList S.data.toList).toArray⟩ = Y := ⟨_, rfl⟩
        have W1 : Hid (∀ w, Calls Tryd.prog 32 #[.string L, .string K] w fun e w' => e = .returned (.string X) ∧ Below w.heap.size w w') := fun w => by
          rw [← hX]; exact rWith_any L K (by rw [SL.out.1, ks]) (by rw [SL.out.1]; decide) w
        have S1 : Hid (∀ w, Calls Tryd.prog 33 #[.string X, .string z12s, .int .i64 0, .int .i64 (R.size : Int)] w fun e w' => e = .returned (.string S) ∧ Below w.heap.size w w') := fun w => by
          rw [← hS]; exact rStream_any X z12s 0 R.size sX (by show (12 : Nat) = 12; rfl) (by omega) w
        have W2 : Hid (∀ w, Calls Tryd.prog 32 #[.string R, .string S] w fun e w' => e = .returned (.string Y) ∧ Below w.heap.size w w') := fun w => by
          rw [← hY]; exact rWith_any R S sS.symm (by omega) w
        have NY : Hid (L.data.toList = (P (q + 1)).1 ∧ Y.data.toList = (P (q + 1)).2) := by
          have e1 : P q = (L.data.toList, R.data.toList) := by rw [I.out.1, I.out.2.1]
          rw [NP.out, e1, stp_even _ _ _ _ (by decide), ← hY, ← hS, ← hX, kd]
          refine ⟨rfl, ?_⟩
          show xorl R.data.toList (strm (xorl L.data.toList (wkey key.data.toList 0)) z12 0 R.size) = stR (wkey key.data.toList 0) L.data.toList R.data.toList
          unfold stR
          rw [list_sz]
        have CN := z12_now
        have CB : Hid (∀ (b : Nat) (w' w2 : World), w'.heap.size = b → Below (w'.alloc (.cells (Array.replicate 12 (.int .u8 0)) 5)).heap.size (w'.alloc (.cells (Array.replicate 12 (.int .u8 0)) 5)) w2 → (convert 30 9 (.slice (some ⟨b, 0, none⟩) 12 12)).run Tryd.prog w2 = .ok (.string z12s) w2) := fun b w' w2 h h2 => by rw [← h]; exact z12_made w' w2 h2
        have MK := HM.out
        clear hX hS hY sX sS kd ks NP
        go_wp2
        go_quiet (fail)
        have CN1 : (convert 30 9 (.slice (some ⟨wr.heap.size, 0, none⟩) 12 12)).run Tryd.prog ((wr.drewN (nq + 1)).alloc (.cells (Array.replicate 12 (.int .u8 0)) 5)) = .ok (.string z12s) ((wr.drewN (nq + 1)).alloc (.cells (Array.replicate 12 (.int .u8 0)) 5)) := z12_now (wr.drewN (nq + 1))
        go_wp2
        go_region_with (first | (go_at_call 32; revert W1; intro W1; refine Calls.mono (W1.out _) ?_; rintro e w2 ⟨rfl, hb2⟩; clear W1; (first | (have CV2 := CB.out wr.heap.size (wr.drewN (nq + 1)) _ rfl hb2) | skip)) | (go_at_call 33; refine Calls.mono (S1.out _) ?_; rintro e w3 ⟨rfl, hb3⟩) | (go_at_call 32; revert W2; intro W2; refine Calls.mono (W2.out _) ?_; rintro e w4 ⟨rfl, hb4⟩; clear W2))
        all_goals
          have B4 : Hid (Below w.heap.size w w4) := by
            first
              | exact chain (chain (chain (below_drewN I.out.2.2 _) hb2) hb3) hb4
              | exact chain (chain (Below.alloc (chain (below_drewN I.out.2.2 _) hb2) (Below.size (chain (below_drewN I.out.2.2 _) hb2)) _) hb3) hb4
              | exact chain (chain (chain (Below.alloc (below_drewN I.out.2.2 _) (Below.size (below_drewN I.out.2.2 _)) _) hb2) hb3) hb4
          clear hb2 hb3 hb4
          go_wp2
          go_roundw
          case rel => exact ⟨q + 1, L, Y, by omega, by go_num, rfl, rfl, NY.out.1, NY.out.2, B4.out⟩
          case measure => simp [intOf]; omega
      · rw [show ((1 : Nat) : Int) = 1 from rfl] at cq
        obtain ⟨kd, ks⟩ := AK.out 1 (by decide)
        rw [show 32 * 1 = 32 from rfl, show 32 + 32 = 64 from rfl] at kd ks
        obtain ⟨K, hK⟩ : ∃ K, A.extract 32 64 = K := ⟨_, rfl⟩
        rw [hK] at kd ks
        obtain ⟨S, hS⟩ : ∃ S : ByteArray, ⟨(hmac K.data.toList R.data.toList).toArray⟩ = S := ⟨_, rfl⟩
        have sS : S.size = 32 := by rw [← hS, ba_sz, hmac_len]
        obtain ⟨Y, hY⟩ : ∃ Y : ByteArray, ⟨(xorl L.data.toList S.data.toList).toArray⟩ = Y := ⟨_, rfl⟩
        have T1 : Hid (∀ w, Calls Tryd.prog 34 #[.string K, .string R] w fun e w' => e = .returned (.string S) ∧ Below w.heap.size w w') := fun w => by
          rw [← hS]; exact rTag_any K R (by show _ ≤ _; rw [ks]; decide) (by show _ ≤ _; omega) w
        have W2 : Hid (∀ w, Calls Tryd.prog 32 #[.string L, .string S] w fun e w' => e = .returned (.string Y) ∧ Below w.heap.size w w') := fun w => by
          rw [← hY]; exact rWith_any L S (by rw [SL.out.1, sS]) (by rw [SL.out.1]; decide) w
        have NY : Hid (Y.data.toList = (P (q + 1)).1 ∧ R.data.toList = (P (q + 1)).2) := by
          have e1 : P q = (L.data.toList, R.data.toList) := by rw [I.out.1, I.out.2.1]
          rw [NP.out, e1, stp_odd _ _ _ _ (by decide), ← hY, ← hS, kd]
          exact ⟨rfl, rfl⟩
        clear hS hY sS kd ks NP
        go_wp2
        go_quiet (fail)
        go_wp2_with fail
        refine Calls.mono (T1.out _) ?_
        rintro e w2 ⟨rfl, hb2⟩
        have B2 : Hid (Below w.heap.size w w2) := chain (below_drewN I.out.2.2 nq) hb2
        clear hb2 T1
        go_wp2_with fail
        refine Calls.mono (W2.out _) ?_
        rintro e w3 ⟨rfl, hb3⟩
        have B3 : Hid (Below w.heap.size w w3) := chain B2.out hb3
        clear hb3 W2
        go_wp2
        go_roundw
        case rel => exact ⟨q + 1, Y, R, by omega, by go_num, rfl, rfl, NY.out.1, NY.out.2, B3.out⟩
        case measure => simp [intOf]; omega
      · rw [show ((2 : Nat) : Int) = 2 from rfl] at cq
        obtain ⟨kd, ks⟩ := AK.out 2 (by decide)
        rw [show 32 * 2 = 64 from rfl, show 64 + 32 = 96 from rfl] at kd ks
        obtain ⟨K, hK⟩ : ∃ K, A.extract 64 96 = K := ⟨_, rfl⟩
        rw [hK] at kd ks
        obtain ⟨X, hX⟩ : ∃ X : ByteArray, ⟨(xorl L.data.toList K.data.toList).toArray⟩ = X := ⟨_, rfl⟩
        have sX : X.size = 32 := by rw [← hX, ba_sz, xorl_len _ _ (by rw [list_sz, list_sz, SL.out.1, ks]; exact Nat.le_refl _), list_sz, SL.out.1]
        obtain ⟨S, hS⟩ : ∃ S : ByteArray, ⟨(strm X.data.toList z12 0 R.size).toArray⟩ = S := ⟨_, rfl⟩
        have sS : S.size = R.size := by rw [← hS, ba_sz, strm_len]
        obtain ⟨Y, hY⟩ : ∃ Y : ByteArray, ⟨(xorl R.data.toList S.data.toList).toArray⟩ = Y := ⟨_, rfl⟩
        have W1 : Hid (∀ w, Calls Tryd.prog 32 #[.string L, .string K] w fun e w' => e = .returned (.string X) ∧ Below w.heap.size w w') := fun w => by
          rw [← hX]; exact rWith_any L K (by rw [SL.out.1, ks]) (by rw [SL.out.1]; decide) w
        have S1 : Hid (∀ w, Calls Tryd.prog 33 #[.string X, .string z12s, .int .i64 0, .int .i64 (R.size : Int)] w fun e w' => e = .returned (.string S) ∧ Below w.heap.size w w') := fun w => by
          rw [← hS]; exact rStream_any X z12s 0 R.size sX (by show (12 : Nat) = 12; rfl) (by omega) w
        have W2 : Hid (∀ w, Calls Tryd.prog 32 #[.string R, .string S] w fun e w' => e = .returned (.string Y) ∧ Below w.heap.size w w') := fun w => by
          rw [← hY]; exact rWith_any R S sS.symm (by omega) w
        have NY : Hid (L.data.toList = (P (q + 1)).1 ∧ Y.data.toList = (P (q + 1)).2) := by
          have e1 : P q = (L.data.toList, R.data.toList) := by rw [I.out.1, I.out.2.1]
          rw [NP.out, e1, stp_even _ _ _ _ (by decide), ← hY, ← hS, ← hX, kd]
          refine ⟨rfl, ?_⟩
          show xorl R.data.toList (strm (xorl L.data.toList (wkey key.data.toList 2)) z12 0 R.size) = stR (wkey key.data.toList 2) L.data.toList R.data.toList
          unfold stR
          rw [list_sz]
        have CN := z12_now
        have CB : Hid (∀ (b : Nat) (w' w2 : World), w'.heap.size = b → Below (w'.alloc (.cells (Array.replicate 12 (.int .u8 0)) 5)).heap.size (w'.alloc (.cells (Array.replicate 12 (.int .u8 0)) 5)) w2 → (convert 30 9 (.slice (some ⟨b, 0, none⟩) 12 12)).run Tryd.prog w2 = .ok (.string z12s) w2) := fun b w' w2 h h2 => by rw [← h]; exact z12_made w' w2 h2
        have MK := HM.out
        clear hX hS hY sX sS kd ks NP
        go_wp2
        go_quiet (fail)
        have CN1 : (convert 30 9 (.slice (some ⟨wr.heap.size, 0, none⟩) 12 12)).run Tryd.prog ((wr.drewN (nq + 1)).alloc (.cells (Array.replicate 12 (.int .u8 0)) 5)) = .ok (.string z12s) ((wr.drewN (nq + 1)).alloc (.cells (Array.replicate 12 (.int .u8 0)) 5)) := z12_now (wr.drewN (nq + 1))
        go_wp2
        go_region_with (first | (go_at_call 32; revert W1; intro W1; refine Calls.mono (W1.out _) ?_; rintro e w2 ⟨rfl, hb2⟩; clear W1; (first | (have CV2 := CB.out wr.heap.size (wr.drewN (nq + 1)) _ rfl hb2) | skip)) | (go_at_call 33; refine Calls.mono (S1.out _) ?_; rintro e w3 ⟨rfl, hb3⟩) | (go_at_call 32; revert W2; intro W2; refine Calls.mono (W2.out _) ?_; rintro e w4 ⟨rfl, hb4⟩; clear W2))
        all_goals
          have B4 : Hid (Below w.heap.size w w4) := by
            first
              | exact chain (chain (chain (below_drewN I.out.2.2 _) hb2) hb3) hb4
              | exact chain (chain (Below.alloc (chain (below_drewN I.out.2.2 _) hb2) (Below.size (chain (below_drewN I.out.2.2 _) hb2)) _) hb3) hb4
              | exact chain (chain (chain (Below.alloc (below_drewN I.out.2.2 _) (Below.size (below_drewN I.out.2.2 _)) _) hb2) hb3) hb4
          clear hb2 hb3 hb4
          go_wp2
          go_roundw
          case rel => exact ⟨q + 1, L, Y, by omega, by go_num, rfl, rfl, NY.out.1, NY.out.2, B4.out⟩
          case measure => simp [intOf]; omega
      · rw [show ((3 : Nat) : Int) = 3 from rfl] at cq
        obtain ⟨kd, ks⟩ := AK.out 3 (by decide)
        rw [show 32 * 3 = 96 from rfl, show 96 + 32 = 128 from rfl] at kd ks
        obtain ⟨K, hK⟩ : ∃ K, A.extract 96 128 = K := ⟨_, rfl⟩
        rw [hK] at kd ks
        obtain ⟨S, hS⟩ : ∃ S : ByteArray, ⟨(hmac K.data.toList R.data.toList).toArray⟩ = S := ⟨_, rfl⟩
        have sS : S.size = 32 := by rw [← hS, ba_sz, hmac_len]
        obtain ⟨Y, hY⟩ : ∃ Y : ByteArray, ⟨(xorl L.data.toList S.data.toList).toArray⟩ = Y := ⟨_, rfl⟩
        have T1 : Hid (∀ w, Calls Tryd.prog 34 #[.string K, .string R] w fun e w' => e = .returned (.string S) ∧ Below w.heap.size w w') := fun w => by
          rw [← hS]; exact rTag_any K R (by show _ ≤ _; rw [ks]; decide) (by show _ ≤ _; omega) w
        have W2 : Hid (∀ w, Calls Tryd.prog 32 #[.string L, .string S] w fun e w' => e = .returned (.string Y) ∧ Below w.heap.size w w') := fun w => by
          rw [← hY]; exact rWith_any L S (by rw [SL.out.1, sS]) (by rw [SL.out.1]; decide) w
        have NY : Hid (Y.data.toList = (P (q + 1)).1 ∧ R.data.toList = (P (q + 1)).2) := by
          have e1 : P q = (L.data.toList, R.data.toList) := by rw [I.out.1, I.out.2.1]
          rw [NP.out, e1, stp_odd _ _ _ _ (by decide), ← hY, ← hS, kd]
          exact ⟨rfl, rfl⟩
        clear hS hY sS kd ks NP
        go_wp2
        go_quiet (fail)
        go_wp2_with fail
        refine Calls.mono (T1.out _) ?_
        rintro e w2 ⟨rfl, hb2⟩
        have B2 : Hid (Below w.heap.size w w2) := chain (below_drewN I.out.2.2 nq) hb2
        clear hb2 T1
        go_wp2_with fail
        refine Calls.mono (W2.out _) ?_
        rintro e w3 ⟨rfl, hb3⟩
        have B3 : Hid (Below w.heap.size w w3) := chain B2.out hb3
        clear hb3 W2
        go_wp2
        go_roundw
        case rel => exact ⟨q + 1, Y, R, by omega, by go_num, rfl, rfl, NY.out.1, NY.out.2, B3.out⟩
        case measure => simp [intOf]; omega
end Go.Proofs.YtbkefhfbbhdpcaaDoor
