/- The document's tags. -/
import Derived.Test.YtbogoheigbiegaaDoorZgG10
import Derived.Test.YtbogoheigbiegaaDoorZgG02
namespace Go.Proofs.YtbogoheigbiegaaDoor
open Go.RowKit Go.Proofs.Fd Go.Proofs.Hs
set_option maxRecDepth 20000
theorem zeros64 (w : World) : BytesAt (w.alloc (.cells (Array.replicate 64 (.int .u8 0)) 5)) w.heap.size (List.replicate 64 0) := fun j hj => by
  have hj' : j < 64 := by simpa using hj
  refine ⟨?_, by simp [go_sem]⟩
  rw [World.cell?_alloc_new, List.getElem_replicate, Array.getElem?_replicate, if_pos hj']
  rfl
def xs (c : UInt8) (k : List UInt8) (i : Nat) : List UInt8 := (List.range 64).map fun j => if j < i then k.getD j 0 ^^^ c else 0
theorem xs_len (c : UInt8) (k : List UInt8) (i : Nat) : (xs c k i).length = 64 := by simp [xs]
theorem xs_zero (c : UInt8) (k : List UInt8) : xs c k 0 = List.replicate 64 0 := by
  unfold xs
  rw [List.eq_replicate_iff]
  refine ⟨by simp, fun b hb => ?_⟩
  obtain ⟨j, -, rfl⟩ := List.mem_map.1 hb
  simp
theorem xs_step (c : UInt8) (k : List UInt8) (i : Nat) : (xs c k i).set i (k.getD i 0 ^^^ c) = xs c k (i + 1) := by
  apply List.ext_getElem?
  intro j
  by_cases e : i = j
  · subst e
    by_cases h : i < 64
    · simp [xs, h]
    · simp [xs, h]
  · rw [List.getElem?_set_ne e]
    by_cases h : j < 64
    · have : (j < i) ↔ (j < i + 1) := by omega
      simp [xs, h, this]
    · simp [xs, h]
theorem xs_all (c : UInt8) (k : List UInt8) : xs c k 64 = (k64 k).map fun b => b ^^^ c := by
  unfold xs k64
  rw [List.map_map]
  apply List.map_congr_left
  intro j hj
  have : j < 64 := by simpa using hj
  simp [this]
theorem xor8 (x y : UInt8) : bits BinOp.xor IntKind.u8 (x.toNat : Int) (y.toNat : Int) = ((x ^^^ y).toNat : Int) := by
  have h1 : x.toNat < 2 ^ 8 := x.toNat_lt
  have h2 : y.toNat < 2 ^ 8 := y.toNat_lt
  have h3 : x.toNat ^^^ y.toNat < 2 ^ 8 := Nat.xor_lt_two_pow h1 h2
  rw [UInt8.toNat_xor]
  have e1 : x.toNat % 2 ^ IntKind.u8.bits = x.toNat := Nat.mod_eq_of_lt h1
  have e2 : y.toNat % 2 ^ IntKind.u8.bits = y.toNat := Nat.mod_eq_of_lt h2
  simp only [bits, BitVec.ofInt_natCast, BitVec.toNat_xor, BitVec.toNat_ofNat, e1, e2]
  rw [IntKind.wrap_u8]
  omega
set_option maxHeartbeats 2000000 in
theorem rTag_any (key text : ByteArray) (hk : Hid (key.size ≤ 140737488355328)) (ht : Hid (text.size + 64 ≤ 140737488355328)) (w : World) :
    Calls Tryd.prog 48 #[.string key, .string text] w fun e w' => e = .returned (.string ⟨(hmac key.data.toList text.data.toList).toArray⟩) ∧ Below w.heap.size w w' := by
  have hl : Hid (key.data.toList.length = key.size ∧ text.data.toList.length = text.size) := by show _ ∧ _; simp
  have DG : Hid (∀ (t : ByteArray) (w : World), t.size ≤ 140737488355328 → Calls Tryd.prog 60 #[.string t] w fun e w' => e = .returned (.string ⟨(sha t.data.toList).toArray⟩) ∧ Below w.heap.size w w') := fun t w h => rDigest_any t h w
  have hmk : ∀ w : World, (Instr.makeSlice 60 (.int .i64 64) (.int .i64 64)).run Tryd.prog w = .ok (.slice (some ⟨w.heap.size, 0, none⟩) 64 64) (w.alloc (.cells (Array.replicate 64 (.int .u8 0)) 5)) := fun _ => by kernel_rfl
  by_cases h64 : 64 < key.size
  · have g0 : (64 : Int) < (key.size : Int) := by omega
    obtain ⟨K, hK⟩ : ∃ K : ByteArray, ⟨(sha key.data.toList).toArray⟩ = K := ⟨_, rfl⟩
    have DK : Hid (∀ w, Calls Tryd.prog 60 #[.string key] w fun e w' => e = .returned (.string K) ∧ Below w.heap.size w w') := fun w => by rw [← hK]; exact DG.out key w hk.out
    have HK : Hid (short key.data.toList = K.data.toList ∧ K.size ≤ 64) := by
      rw [← hK]; exact ⟨short_gt _ (by rw [hl.out.1]; omega), by show (32 : Nat) ≤ 64; decide⟩
    have FIN : Hid (hmac key.data.toList text.data.toList = sha (xs 92 K.data.toList 64 ++ sha (xs 54 K.data.toList 64 ++ text.data.toList))) := by
      show _ = _
      unfold hmac xk
      rw [HK.out.1, xs_all, xs_all]
    clear hK
    go_enter Tryd.func48, Tryd.ntmps48
    go_wp2_with fail
    refine Calls.mono (DK.out _) ?_
    rintro e w1 ⟨rfl, hb0⟩
    have B0 : Hid (Below w.heap.size w w1) := hb0
    clear hb0 DK
    go_wp2
    go_region_with (fail)
    · obtain ⟨WA, hWA⟩ : ∃ x, (w1.alloc (.cells (Array.replicate 64 (.int .u8 0)) 5)).alloc (.cells (Array.replicate 64 (.int .u8 0)) 5) = x := ⟨_, rfl⟩
      have I0 : Hid (BytesAt WA (w1.heap.size) (xs 54 K.data.toList 0) ∧ BytesAt WA (w1.heap.size + 1) (xs 92 K.data.toList 0)) := by
        rw [xs_zero, xs_zero, ← hWA]
        have e1 : (w1.alloc (.cells (Array.replicate 64 (.int .u8 0)) 5)).heap.size = w1.heap.size + 1 := by simp
        have zi := (zeros64 w1).later ((Below.refl _ _).alloc (Nat.le_refl _) (.cells (Array.replicate 64 (.int .u8 0)) 5))
        have zo := zeros64 (w1.alloc (.cells (Array.replicate 64 (.int .u8 0)) 5))
        rw [e1] at zo
        exact ⟨zi, zo⟩
      have I1 : Hid (Below w.heap.size w WA) := by
        rw [← hWA]
        exact (B0.out.alloc B0.out.size _).alloc (by have := B0.out.size; simp; try omega) _
      obtain ⟨go_, hgo⟩ : ∃ g, w1.heap.size + 1 = g := ⟨_, rfl⟩
      rw [hgo] at I0
      rw [hgo]
      obtain ⟨gi, hgi⟩ : ∃ g, w1.heap.size = g := ⟨_, rfl⟩
      rw [hgi] at I0
      rw [hgi]
      rw [hWA]
      have d1 : gi ≠ go_ := by omega
      have d2 : go_ ≠ gi := by omega
      have HG : Hid (w.heap.size ≤ gi ∧ w.heap.size ≤ go_) := by have := B0.out.size; show _ ∧ _; omega
      clear hWA hgi hgo hmk
      go_wp2
      go_loopw [7] (fun i wr => ∃ q : Nat, q ≤ 64 ∧ i = .int .i64 (q : Int) ∧ Hid (BytesAt wr gi (xs 54 K.data.toList q) ∧ BytesAt wr go_ (xs 92 K.data.toList q) ∧ Below w.heap.size w wr)) (fun i _ => 64 - (intOf i).toNat)
      case atStart => exact ⟨0, by omega, rfl, I0.out.1, I0.out.2, I1.out.drew⟩
      case round =>
        obtain ⟨q, hq, rfl, I⟩ := hrel
        clear I0 I1
        by_cases hq64 : q = 64
        · subst hq64
          have CVI : Hid (∀ w', Below wr.heap.size wr w' → (convert 60 9 (.slice (some ⟨gi, 0, none⟩) 64 64)).run Tryd.prog w' = .ok (.string ⟨(xs 54 K.data.toList 64).toArray⟩) w') := fun w' h => (I.out.1.later h).string (xs_len _ _ _)
          have CVO : Hid (∀ w', Below wr.heap.size wr w' → (convert 60 9 (.slice (some ⟨go_, 0, none⟩) 64 64)).run Tryd.prog w' = .ok (.string ⟨(xs 92 K.data.toList 64).toArray⟩) w') := fun w' h => (I.out.2.1.later h).string (xs_len _ _ _)
          obtain ⟨XI, hXI⟩ : ∃ X : ByteArray, ⟨(xs 54 K.data.toList 64).toArray⟩ = X := ⟨_, rfl⟩
          obtain ⟨XO, hXO⟩ : ∃ X : ByteArray, ⟨(xs 92 K.data.toList 64).toArray⟩ = X := ⟨_, rfl⟩
          have zI : Hid (XI.size = 64 ∧ XI.data.toList = xs 54 K.data.toList 64) := ⟨by rw [← hXI]; show (xs 54 K.data.toList 64).toArray.size = 64; rw [List.size_toArray, xs_len], by rw [← hXI]⟩
          have zO : Hid (XO.size = 64 ∧ XO.data.toList = xs 92 K.data.toList 64) := ⟨by rw [← hXO]; show (xs 92 K.data.toList 64).toArray.size = 64; rw [List.size_toArray, xs_len], by rw [← hXO]⟩
          rw [hXI] at CVI
          rw [hXO] at CVO
          have DG1 : Hid (∀ w, Calls Tryd.prog 60 #[.string (XI ++ text)] w fun e w' => e = .returned (.string ⟨(sha (XI ++ text).data.toList).toArray⟩) ∧ Below w.heap.size w w') := fun w => DG.out _ w (by rw [ByteArray.size_append]; have := zI.out.1; have := ht.out; omega)
          obtain ⟨D, hD⟩ : ∃ X : ByteArray, ⟨(sha (XI ++ text).data.toList).toArray⟩ = X := ⟨_, rfl⟩
          have zD : Hid (D.size = 32 ∧ D.data.toList = sha (xs 54 K.data.toList 64 ++ text.data.toList)) := by
            refine ⟨by rw [← hD]; rfl, ?_⟩
            rw [← hD, ← zI.out.2]
            show (sha (XI ++ text).data.toList) = _
            rw [ByteArray.data_append, Array.toList_append]
          rw [hD] at DG1
          have DG2 : Hid (∀ w, Calls Tryd.prog 60 #[.string (XO ++ D)] w fun e w' => e = .returned (.string ⟨(hmac key.data.toList text.data.toList).toArray⟩) ∧ Below w.heap.size w w') := fun w => by
            have h := DG.out (XO ++ D) w (by rw [ByteArray.size_append]; have := zO.out.1; have := zD.out.1; omega)
            rw [FIN.out, ← zD.out.2, ← zO.out.2]
            rw [ByteArray.data_append, Array.toList_append] at h
            exact h
          have f1 : XI.size + text.size ≤ 9223372036854775807 := by have := zI.out.1; have := ht.out; omega
          have f2 : XO.size + D.size ≤ 9223372036854775807 := by have := zO.out.1; have := zD.out.1; omega
          have f3 : ∀ w, (Op.stringOp .add XI text).run Tryd.prog w = .ok (.string (XI ++ text)) w := fun w => run_string_add_sum _ _ _ f1
          have f4 : ∀ w, (Op.stringOp .add XO D).run Tryd.prog w = .ok (.string (XO ++ D)) w := fun w => run_string_add_sum _ _ _ f2
          clear hXI hXO hD DG
          go_wp2
          go_region_held3 (fun w' => Below wr.heap.size wr w' ∧ (convert 60 9 (.slice (some ⟨gi, 0, none⟩) 64 64)).run Tryd.prog w' = .ok (.string XI) w' ∧ (convert 60 9 (.slice (some ⟨go_, 0, none⟩) 64 64)).run Tryd.prog w' = .ok (.string XO) w') (first | exact ⟨(Below.refl _ _).drew, CVI.out _ (Below.refl _ _).drew, CVO.out _ (Below.refl _ _).drew⟩ | exact ⟨chain (And.left (by assumption)) hb1, CVI.out _ (chain (And.left (by assumption)) hb1), CVO.out _ (chain (And.left (by assumption)) hb1)⟩ | exact ⟨chain (And.left (by assumption)) hb2, CVI.out _ (chain (And.left (by assumption)) hb2), CVO.out _ (chain (And.left (by assumption)) hb2)⟩ | assumption) (first | (go_at_call 60; revert DG1; intro DG1; refine Calls.mono (DG1.out _) ?_; rintro e w3 ⟨rfl, hb1⟩; clear DG1) | (go_at_call 60; refine Calls.mono (DG2.out _) ?_; rintro e w4 ⟨rfl, hb2⟩))
          all_goals
            rename_i hH
            have BF : Hid (Below w.heap.size w w4) := chain I.out.2.2 hH.1
            clear hH
            go_wp2
            go_ret
            exact ⟨rfl, BF.out⟩
        · have q64 : (q : Int) < 64 := by omega
          obtain ⟨ci, fi⟩ := I.out.1 q (by rw [xs_len]; omega)
          obtain ⟨co, fo⟩ := I.out.2.1 q (by rw [xs_len]; omega)
          generalize ((xs 54 K.data.toList q)[q]'(by rw [xs_len]; omega)).toNat = y1 at ci
          generalize ((xs 92 K.data.toList q)[q]'(by rw [xs_len]; omega)).toNat = y2 at co
          by_cases hqk : q < K.size
          · have q2 : (q : Int) < (K.size : Int) := by omega
            have HC : Hid (K.data.toList.getD q 0 = K[q]) := by
              show _ = _
              rw [List.getD_eq_getElem?_getD, List.getElem?_eq_getElem (by simpa using hqk)]; rfl
            obtain ⟨c, hc⟩ : ∃ c, K[q] = c := ⟨_, rfl⟩
            rw [hc] at HC
            have NX : Hid (BytesAt ((wr.setCell ⟨gi, q, none⟩ (.int .u8 (bits BinOp.xor IntKind.u8 (c.toNat : Int) 54))).setCell ⟨go_, q, none⟩ (.int .u8 (bits BinOp.xor IntKind.u8 (c.toNat : Int) 92))) gi (xs 54 K.data.toList (q + 1)) ∧ BytesAt ((wr.setCell ⟨gi, q, none⟩ (.int .u8 (bits BinOp.xor IntKind.u8 (c.toNat : Int) 54))).setCell ⟨go_, q, none⟩ (.int .u8 (bits BinOp.xor IntKind.u8 (c.toNat : Int) 92))) go_ (xs 92 K.data.toList (q + 1)) ∧ Below w.heap.size w ((wr.setCell ⟨gi, q, none⟩ (.int .u8 (bits BinOp.xor IntKind.u8 (c.toNat : Int) 54))).setCell ⟨go_, q, none⟩ (.int .u8 (bits BinOp.xor IntKind.u8 (c.toNat : Int) 92)))) := by
              rw [← xs_step, ← xs_step, HC.out]
              exact ⟨(I.out.1.set q _ _ (xor8 c 54)).other (a := ⟨go_, q, none⟩) d2 _, (I.out.2.1.other (a := ⟨gi, q, none⟩) d1 _).set q _ _ (xor8 c 92), (I.out.2.2.setCell (p := ⟨gi, q, none⟩) HG.out.1 _).setCell (p := ⟨go_, q, none⟩) HG.out.2 _⟩
            clear HC
            go_wp2
            exact ⟨⟨q + 1, by omega, by go_num, NX.out⟩, by simp [intOf]; omega⟩
          · have q2 : ¬ (q : Int) < (K.size : Int) := by omega
            have HC : Hid (K.data.toList.getD q 0 = 0) := by
              show _ = _
              rw [List.getD_eq_getElem?_getD, List.getElem?_eq_none (by simpa using hqk)]; rfl
            have NX : Hid (BytesAt ((wr.setCell ⟨gi, q, none⟩ (.int .u8 (bits BinOp.xor IntKind.u8 0 54))).setCell ⟨go_, q, none⟩ (.int .u8 (bits BinOp.xor IntKind.u8 0 92))) gi (xs 54 K.data.toList (q + 1)) ∧ BytesAt ((wr.setCell ⟨gi, q, none⟩ (.int .u8 (bits BinOp.xor IntKind.u8 0 54))).setCell ⟨go_, q, none⟩ (.int .u8 (bits BinOp.xor IntKind.u8 0 92))) go_ (xs 92 K.data.toList (q + 1)) ∧ Below w.heap.size w ((wr.setCell ⟨gi, q, none⟩ (.int .u8 (bits BinOp.xor IntKind.u8 0 54))).setCell ⟨go_, q, none⟩ (.int .u8 (bits BinOp.xor IntKind.u8 0 92)))) := by
              rw [← xs_step, ← xs_step, HC.out]
              exact ⟨(I.out.1.set q _ _ (xor8 (0 : UInt8) 54)).other (a := ⟨go_, q, none⟩) d2 _, (I.out.2.1.other (a := ⟨gi, q, none⟩) d1 _).set q _ _ (xor8 (0 : UInt8) 92), (I.out.2.2.setCell (p := ⟨gi, q, none⟩) HG.out.1 _).setCell (p := ⟨go_, q, none⟩) HG.out.2 _⟩
            clear HC
            go_wp2
            exact ⟨⟨q + 1, by omega, by go_num, NX.out⟩, by simp [intOf]; omega⟩
    · obtain ⟨WA, hWA⟩ : ∃ x, (w1.alloc (.cells (Array.replicate 64 (.int .u8 0)) 5)).alloc (.cells (Array.replicate 64 (.int .u8 0)) 5) = x := ⟨_, rfl⟩
      have I0 : Hid (BytesAt WA (w1.heap.size + 1) (xs 54 K.data.toList 0) ∧ BytesAt WA (w1.heap.size) (xs 92 K.data.toList 0)) := by
        rw [xs_zero, xs_zero, ← hWA]
        have e1 : (w1.alloc (.cells (Array.replicate 64 (.int .u8 0)) 5)).heap.size = w1.heap.size + 1 := by simp
        have zi := zeros64 (w1.alloc (.cells (Array.replicate 64 (.int .u8 0)) 5))
        have zo := (zeros64 w1).later ((Below.refl _ _).alloc (Nat.le_refl _) (.cells (Array.replicate 64 (.int .u8 0)) 5))
        rw [e1] at zi
        exact ⟨zi, zo⟩
      have I1 : Hid (Below w.heap.size w WA) := by
        rw [← hWA]
        exact (B0.out.alloc B0.out.size _).alloc (by have := B0.out.size; simp; try omega) _
      obtain ⟨gi, hgi⟩ : ∃ g, w1.heap.size + 1 = g := ⟨_, rfl⟩
      rw [hgi] at I0
      rw [hgi]
      obtain ⟨go_, hgo⟩ : ∃ g, w1.heap.size = g := ⟨_, rfl⟩
      rw [hgo] at I0
      rw [hgo]
      rw [hWA]
      have d1 : gi ≠ go_ := by omega
      have d2 : go_ ≠ gi := by omega
      have HG : Hid (w.heap.size ≤ gi ∧ w.heap.size ≤ go_) := by have := B0.out.size; show _ ∧ _; omega
      clear hWA hgi hgo hmk
      go_wp2
      go_loopw [7] (fun i wr => ∃ q : Nat, q ≤ 64 ∧ i = .int .i64 (q : Int) ∧ Hid (BytesAt wr gi (xs 54 K.data.toList q) ∧ BytesAt wr go_ (xs 92 K.data.toList q) ∧ Below w.heap.size w wr)) (fun i _ => 64 - (intOf i).toNat)
      case atStart => exact ⟨0, by omega, rfl, I0.out.1, I0.out.2, I1.out.drew⟩
      case round =>
        obtain ⟨q, hq, rfl, I⟩ := hrel
        clear I0 I1
        by_cases hq64 : q = 64
        · subst hq64
          have CVI : Hid (∀ w', Below wr.heap.size wr w' → (convert 60 9 (.slice (some ⟨gi, 0, none⟩) 64 64)).run Tryd.prog w' = .ok (.string ⟨(xs 54 K.data.toList 64).toArray⟩) w') := fun w' h => (I.out.1.later h).string (xs_len _ _ _)
          have CVO : Hid (∀ w', Below wr.heap.size wr w' → (convert 60 9 (.slice (some ⟨go_, 0, none⟩) 64 64)).run Tryd.prog w' = .ok (.string ⟨(xs 92 K.data.toList 64).toArray⟩) w') := fun w' h => (I.out.2.1.later h).string (xs_len _ _ _)
          obtain ⟨XI, hXI⟩ : ∃ X : ByteArray, ⟨(xs 54 K.data.toList 64).toArray⟩ = X := ⟨_, rfl⟩
          obtain ⟨XO, hXO⟩ : ∃ X : ByteArray, ⟨(xs 92 K.data.toList 64).toArray⟩ = X := ⟨_, rfl⟩
          have zI : Hid (XI.size = 64 ∧ XI.data.toList = xs 54 K.data.toList 64) := ⟨by rw [← hXI]; show (xs 54 K.data.toList 64).toArray.size = 64; rw [List.size_toArray, xs_len], by rw [← hXI]⟩
          have zO : Hid (XO.size = 64 ∧ XO.data.toList = xs 92 K.data.toList 64) := ⟨by rw [← hXO]; show (xs 92 K.data.toList 64).toArray.size = 64; rw [List.size_toArray, xs_len], by rw [← hXO]⟩
          rw [hXI] at CVI
          rw [hXO] at CVO
          have DG1 : Hid (∀ w, Calls Tryd.prog 60 #[.string (XI ++ text)] w fun e w' => e = .returned (.string ⟨(sha (XI ++ text).data.toList).toArray⟩) ∧ Below w.heap.size w w') := fun w => DG.out _ w (by rw [ByteArray.size_append]; have := zI.out.1; have := ht.out; omega)
          obtain ⟨D, hD⟩ : ∃ X : ByteArray, ⟨(sha (XI ++ text).data.toList).toArray⟩ = X := ⟨_, rfl⟩
          have zD : Hid (D.size = 32 ∧ D.data.toList = sha (xs 54 K.data.toList 64 ++ text.data.toList)) := by
            refine ⟨by rw [← hD]; rfl, ?_⟩
            rw [← hD, ← zI.out.2]
            show (sha (XI ++ text).data.toList) = _
            rw [ByteArray.data_append, Array.toList_append]
          rw [hD] at DG1
          have DG2 : Hid (∀ w, Calls Tryd.prog 60 #[.string (XO ++ D)] w fun e w' => e = .returned (.string ⟨(hmac key.data.toList text.data.toList).toArray⟩) ∧ Below w.heap.size w w') := fun w => by
            have h := DG.out (XO ++ D) w (by rw [ByteArray.size_append]; have := zO.out.1; have := zD.out.1; omega)
            rw [FIN.out, ← zD.out.2, ← zO.out.2]
            rw [ByteArray.data_append, Array.toList_append] at h
            exact h
          have f1 : XI.size + text.size ≤ 9223372036854775807 := by have := zI.out.1; have := ht.out; omega
          have f2 : XO.size + D.size ≤ 9223372036854775807 := by have := zO.out.1; have := zD.out.1; omega
          have f3 : ∀ w, (Op.stringOp .add XI text).run Tryd.prog w = .ok (.string (XI ++ text)) w := fun w => run_string_add_sum _ _ _ f1
          have f4 : ∀ w, (Op.stringOp .add XO D).run Tryd.prog w = .ok (.string (XO ++ D)) w := fun w => run_string_add_sum _ _ _ f2
          clear hXI hXO hD DG
          go_wp2
          go_region_held3 (fun w' => Below wr.heap.size wr w' ∧ (convert 60 9 (.slice (some ⟨gi, 0, none⟩) 64 64)).run Tryd.prog w' = .ok (.string XI) w' ∧ (convert 60 9 (.slice (some ⟨go_, 0, none⟩) 64 64)).run Tryd.prog w' = .ok (.string XO) w') (first | exact ⟨(Below.refl _ _).drew, CVI.out _ (Below.refl _ _).drew, CVO.out _ (Below.refl _ _).drew⟩ | exact ⟨chain (And.left (by assumption)) hb1, CVI.out _ (chain (And.left (by assumption)) hb1), CVO.out _ (chain (And.left (by assumption)) hb1)⟩ | exact ⟨chain (And.left (by assumption)) hb2, CVI.out _ (chain (And.left (by assumption)) hb2), CVO.out _ (chain (And.left (by assumption)) hb2)⟩ | assumption) (first | (go_at_call 60; revert DG1; intro DG1; refine Calls.mono (DG1.out _) ?_; rintro e w3 ⟨rfl, hb1⟩; clear DG1) | (go_at_call 60; refine Calls.mono (DG2.out _) ?_; rintro e w4 ⟨rfl, hb2⟩))
          all_goals
            rename_i hH
            have BF : Hid (Below w.heap.size w w4) := chain I.out.2.2 hH.1
            clear hH
            go_wp2
            go_ret
            exact ⟨rfl, BF.out⟩
        · have q64 : (q : Int) < 64 := by omega
          obtain ⟨ci, fi⟩ := I.out.1 q (by rw [xs_len]; omega)
          obtain ⟨co, fo⟩ := I.out.2.1 q (by rw [xs_len]; omega)
          generalize ((xs 54 K.data.toList q)[q]'(by rw [xs_len]; omega)).toNat = y1 at ci
          generalize ((xs 92 K.data.toList q)[q]'(by rw [xs_len]; omega)).toNat = y2 at co
          by_cases hqk : q < K.size
          · have q2 : (q : Int) < (K.size : Int) := by omega
            have HC : Hid (K.data.toList.getD q 0 = K[q]) := by
              show _ = _
              rw [List.getD_eq_getElem?_getD, List.getElem?_eq_getElem (by simpa using hqk)]; rfl
            obtain ⟨c, hc⟩ : ∃ c, K[q] = c := ⟨_, rfl⟩
            rw [hc] at HC
            have NX : Hid (BytesAt ((wr.setCell ⟨gi, q, none⟩ (.int .u8 (bits BinOp.xor IntKind.u8 (c.toNat : Int) 54))).setCell ⟨go_, q, none⟩ (.int .u8 (bits BinOp.xor IntKind.u8 (c.toNat : Int) 92))) gi (xs 54 K.data.toList (q + 1)) ∧ BytesAt ((wr.setCell ⟨gi, q, none⟩ (.int .u8 (bits BinOp.xor IntKind.u8 (c.toNat : Int) 54))).setCell ⟨go_, q, none⟩ (.int .u8 (bits BinOp.xor IntKind.u8 (c.toNat : Int) 92))) go_ (xs 92 K.data.toList (q + 1)) ∧ Below w.heap.size w ((wr.setCell ⟨gi, q, none⟩ (.int .u8 (bits BinOp.xor IntKind.u8 (c.toNat : Int) 54))).setCell ⟨go_, q, none⟩ (.int .u8 (bits BinOp.xor IntKind.u8 (c.toNat : Int) 92)))) := by
              rw [← xs_step, ← xs_step, HC.out]
              exact ⟨(I.out.1.set q _ _ (xor8 c 54)).other (a := ⟨go_, q, none⟩) d2 _, (I.out.2.1.other (a := ⟨gi, q, none⟩) d1 _).set q _ _ (xor8 c 92), (I.out.2.2.setCell (p := ⟨gi, q, none⟩) HG.out.1 _).setCell (p := ⟨go_, q, none⟩) HG.out.2 _⟩
            clear HC
            go_wp2
            exact ⟨⟨q + 1, by omega, by go_num, NX.out⟩, by simp [intOf]; omega⟩
          · have q2 : ¬ (q : Int) < (K.size : Int) := by omega
            have HC : Hid (K.data.toList.getD q 0 = 0) := by
              show _ = _
              rw [List.getD_eq_getElem?_getD, List.getElem?_eq_none (by simpa using hqk)]; rfl
            have NX : Hid (BytesAt ((wr.setCell ⟨gi, q, none⟩ (.int .u8 (bits BinOp.xor IntKind.u8 0 54))).setCell ⟨go_, q, none⟩ (.int .u8 (bits BinOp.xor IntKind.u8 0 92))) gi (xs 54 K.data.toList (q + 1)) ∧ BytesAt ((wr.setCell ⟨gi, q, none⟩ (.int .u8 (bits BinOp.xor IntKind.u8 0 54))).setCell ⟨go_, q, none⟩ (.int .u8 (bits BinOp.xor IntKind.u8 0 92))) go_ (xs 92 K.data.toList (q + 1)) ∧ Below w.heap.size w ((wr.setCell ⟨gi, q, none⟩ (.int .u8 (bits BinOp.xor IntKind.u8 0 54))).setCell ⟨go_, q, none⟩ (.int .u8 (bits BinOp.xor IntKind.u8 0 92)))) := by
              rw [← xs_step, ← xs_step, HC.out]
              exact ⟨(I.out.1.set q _ _ (xor8 (0 : UInt8) 54)).other (a := ⟨go_, q, none⟩) d2 _, (I.out.2.1.other (a := ⟨gi, q, none⟩) d1 _).set q _ _ (xor8 (0 : UInt8) 92), (I.out.2.2.setCell (p := ⟨gi, q, none⟩) HG.out.1 _).setCell (p := ⟨go_, q, none⟩) HG.out.2 _⟩
            clear HC
            go_wp2
            exact ⟨⟨q + 1, by omega, by go_num, NX.out⟩, by simp [intOf]; omega⟩
  · have g0 : ¬ (64 : Int) < (key.size : Int) := by omega
    obtain ⟨K, hK⟩ : ∃ K, key = K := ⟨_, rfl⟩
    have HK : Hid (short key.data.toList = K.data.toList ∧ K.size ≤ 64) := by
      rw [← hK]; exact ⟨short_le _ (by rw [hl.out.1]; omega), by omega⟩
    have FIN : Hid (hmac key.data.toList text.data.toList = sha (xs 92 K.data.toList 64 ++ sha (xs 54 K.data.toList 64 ++ text.data.toList))) := by
      show _ = _
      unfold hmac xk
      rw [HK.out.1, xs_all, xs_all]
    have B0 : Hid (Below w.heap.size w w) := Below.refl _ _
    subst hK
    go_enter Tryd.func48, Tryd.ntmps48
    go_wp2
    go_region_with (fail)
    · obtain ⟨WA, hWA⟩ : ∃ x, (w.alloc (.cells (Array.replicate 64 (.int .u8 0)) 5)).alloc (.cells (Array.replicate 64 (.int .u8 0)) 5) = x := ⟨_, rfl⟩
      have I0 : Hid (BytesAt WA (w.heap.size) (xs 54 key.data.toList 0) ∧ BytesAt WA (w.heap.size + 1) (xs 92 key.data.toList 0)) := by
        rw [xs_zero, xs_zero, ← hWA]
        have e1 : (w.alloc (.cells (Array.replicate 64 (.int .u8 0)) 5)).heap.size = w.heap.size + 1 := by simp
        have zi := (zeros64 w).later ((Below.refl _ _).alloc (Nat.le_refl _) (.cells (Array.replicate 64 (.int .u8 0)) 5))
        have zo := zeros64 (w.alloc (.cells (Array.replicate 64 (.int .u8 0)) 5))
        rw [e1] at zo
        exact ⟨zi, zo⟩
      have I1 : Hid (Below w.heap.size w WA) := by
        rw [← hWA]
        exact (B0.out.alloc B0.out.size _).alloc (by have := B0.out.size; simp; try omega) _
      obtain ⟨go_, hgo⟩ : ∃ g, w.heap.size + 1 = g := ⟨_, rfl⟩
      rw [hgo] at I0
      rw [hgo]
      obtain ⟨gi, hgi⟩ : ∃ g, w.heap.size = g := ⟨_, rfl⟩
      rw [hgi] at I0
      rw [hgi]
      rw [hWA]
      have d1 : gi ≠ go_ := by omega
      have d2 : go_ ≠ gi := by omega
      have HG : Hid (w.heap.size ≤ gi ∧ w.heap.size ≤ go_) := by have := B0.out.size; show _ ∧ _; omega
      clear hWA hgi hgo hmk
      go_wp2
      go_loopw [7] (fun i wr => ∃ q : Nat, q ≤ 64 ∧ i = .int .i64 (q : Int) ∧ Hid (BytesAt wr gi (xs 54 key.data.toList q) ∧ BytesAt wr go_ (xs 92 key.data.toList q) ∧ Below w.heap.size w wr)) (fun i _ => 64 - (intOf i).toNat)
      case atStart => exact ⟨0, by omega, rfl, I0.out.1, I0.out.2, I1.out.drew⟩
      case round =>
        obtain ⟨q, hq, rfl, I⟩ := hrel
        clear I0 I1
        by_cases hq64 : q = 64
        · subst hq64
          have CVI : Hid (∀ w', Below wr.heap.size wr w' → (convert 60 9 (.slice (some ⟨gi, 0, none⟩) 64 64)).run Tryd.prog w' = .ok (.string ⟨(xs 54 key.data.toList 64).toArray⟩) w') := fun w' h => (I.out.1.later h).string (xs_len _ _ _)
          have CVO : Hid (∀ w', Below wr.heap.size wr w' → (convert 60 9 (.slice (some ⟨go_, 0, none⟩) 64 64)).run Tryd.prog w' = .ok (.string ⟨(xs 92 key.data.toList 64).toArray⟩) w') := fun w' h => (I.out.2.1.later h).string (xs_len _ _ _)
          obtain ⟨XI, hXI⟩ : ∃ X : ByteArray, ⟨(xs 54 key.data.toList 64).toArray⟩ = X := ⟨_, rfl⟩
          obtain ⟨XO, hXO⟩ : ∃ X : ByteArray, ⟨(xs 92 key.data.toList 64).toArray⟩ = X := ⟨_, rfl⟩
          have zI : Hid (XI.size = 64 ∧ XI.data.toList = xs 54 key.data.toList 64) := ⟨by rw [← hXI]; show (xs 54 key.data.toList 64).toArray.size = 64; rw [List.size_toArray, xs_len], by rw [← hXI]⟩
          have zO : Hid (XO.size = 64 ∧ XO.data.toList = xs 92 key.data.toList 64) := ⟨by rw [← hXO]; show (xs 92 key.data.toList 64).toArray.size = 64; rw [List.size_toArray, xs_len], by rw [← hXO]⟩
          rw [hXI] at CVI
          rw [hXO] at CVO
          have DG1 : Hid (∀ w, Calls Tryd.prog 60 #[.string (XI ++ text)] w fun e w' => e = .returned (.string ⟨(sha (XI ++ text).data.toList).toArray⟩) ∧ Below w.heap.size w w') := fun w => DG.out _ w (by rw [ByteArray.size_append]; have := zI.out.1; have := ht.out; omega)
          obtain ⟨D, hD⟩ : ∃ X : ByteArray, ⟨(sha (XI ++ text).data.toList).toArray⟩ = X := ⟨_, rfl⟩
          have zD : Hid (D.size = 32 ∧ D.data.toList = sha (xs 54 key.data.toList 64 ++ text.data.toList)) := by
            refine ⟨by rw [← hD]; rfl, ?_⟩
            rw [← hD, ← zI.out.2]
            show (sha (XI ++ text).data.toList) = _
            rw [ByteArray.data_append, Array.toList_append]
          rw [hD] at DG1
          have DG2 : Hid (∀ w, Calls Tryd.prog 60 #[.string (XO ++ D)] w fun e w' => e = .returned (.string ⟨(hmac key.data.toList text.data.toList).toArray⟩) ∧ Below w.heap.size w w') := fun w => by
            have h := DG.out (XO ++ D) w (by rw [ByteArray.size_append]; have := zO.out.1; have := zD.out.1; omega)
            rw [FIN.out, ← zD.out.2, ← zO.out.2]
            rw [ByteArray.data_append, Array.toList_append] at h
            exact h
          have f1 : XI.size + text.size ≤ 9223372036854775807 := by have := zI.out.1; have := ht.out; omega
          have f2 : XO.size + D.size ≤ 9223372036854775807 := by have := zO.out.1; have := zD.out.1; omega
          have f3 : ∀ w, (Op.stringOp .add XI text).run Tryd.prog w = .ok (.string (XI ++ text)) w := fun w => run_string_add_sum _ _ _ f1
          have f4 : ∀ w, (Op.stringOp .add XO D).run Tryd.prog w = .ok (.string (XO ++ D)) w := fun w => run_string_add_sum _ _ _ f2
          clear hXI hXO hD DG
          go_wp2
          go_region_held3 (fun w' => Below wr.heap.size wr w' ∧ (convert 60 9 (.slice (some ⟨gi, 0, none⟩) 64 64)).run Tryd.prog w' = .ok (.string XI) w' ∧ (convert 60 9 (.slice (some ⟨go_, 0, none⟩) 64 64)).run Tryd.prog w' = .ok (.string XO) w') (first | exact ⟨(Below.refl _ _).drew, CVI.out _ (Below.refl _ _).drew, CVO.out _ (Below.refl _ _).drew⟩ | exact ⟨chain (And.left (by assumption)) hb1, CVI.out _ (chain (And.left (by assumption)) hb1), CVO.out _ (chain (And.left (by assumption)) hb1)⟩ | exact ⟨chain (And.left (by assumption)) hb2, CVI.out _ (chain (And.left (by assumption)) hb2), CVO.out _ (chain (And.left (by assumption)) hb2)⟩ | assumption) (first | (go_at_call 60; revert DG1; intro DG1; refine Calls.mono (DG1.out _) ?_; rintro e w3 ⟨rfl, hb1⟩; clear DG1) | (go_at_call 60; refine Calls.mono (DG2.out _) ?_; rintro e w4 ⟨rfl, hb2⟩))
          all_goals
            rename_i hH
            have BF : Hid (Below w.heap.size w w4) := chain I.out.2.2 hH.1
            clear hH
            go_wp2
            go_ret
            exact ⟨rfl, BF.out⟩
        · have q64 : (q : Int) < 64 := by omega
          obtain ⟨ci, fi⟩ := I.out.1 q (by rw [xs_len]; omega)
          obtain ⟨co, fo⟩ := I.out.2.1 q (by rw [xs_len]; omega)
          generalize ((xs 54 key.data.toList q)[q]'(by rw [xs_len]; omega)).toNat = y1 at ci
          generalize ((xs 92 key.data.toList q)[q]'(by rw [xs_len]; omega)).toNat = y2 at co
          by_cases hqk : q < key.size
          · have q2 : (q : Int) < (key.size : Int) := by omega
            have HC : Hid (key.data.toList.getD q 0 = key[q]) := by
              show _ = _
              rw [List.getD_eq_getElem?_getD, List.getElem?_eq_getElem (by simpa using hqk)]; rfl
            obtain ⟨c, hc⟩ : ∃ c, key[q] = c := ⟨_, rfl⟩
            rw [hc] at HC
            have NX : Hid (BytesAt ((wr.setCell ⟨gi, q, none⟩ (.int .u8 (bits BinOp.xor IntKind.u8 (c.toNat : Int) 54))).setCell ⟨go_, q, none⟩ (.int .u8 (bits BinOp.xor IntKind.u8 (c.toNat : Int) 92))) gi (xs 54 key.data.toList (q + 1)) ∧ BytesAt ((wr.setCell ⟨gi, q, none⟩ (.int .u8 (bits BinOp.xor IntKind.u8 (c.toNat : Int) 54))).setCell ⟨go_, q, none⟩ (.int .u8 (bits BinOp.xor IntKind.u8 (c.toNat : Int) 92))) go_ (xs 92 key.data.toList (q + 1)) ∧ Below w.heap.size w ((wr.setCell ⟨gi, q, none⟩ (.int .u8 (bits BinOp.xor IntKind.u8 (c.toNat : Int) 54))).setCell ⟨go_, q, none⟩ (.int .u8 (bits BinOp.xor IntKind.u8 (c.toNat : Int) 92)))) := by
              rw [← xs_step, ← xs_step, HC.out]
              exact ⟨(I.out.1.set q _ _ (xor8 c 54)).other (a := ⟨go_, q, none⟩) d2 _, (I.out.2.1.other (a := ⟨gi, q, none⟩) d1 _).set q _ _ (xor8 c 92), (I.out.2.2.setCell (p := ⟨gi, q, none⟩) HG.out.1 _).setCell (p := ⟨go_, q, none⟩) HG.out.2 _⟩
            clear HC
            go_wp2
            exact ⟨⟨q + 1, by omega, by go_num, NX.out⟩, by simp [intOf]; omega⟩
          · have q2 : ¬ (q : Int) < (key.size : Int) := by omega
            have HC : Hid (key.data.toList.getD q 0 = 0) := by
              show _ = _
              rw [List.getD_eq_getElem?_getD, List.getElem?_eq_none (by simpa using hqk)]; rfl
            have NX : Hid (BytesAt ((wr.setCell ⟨gi, q, none⟩ (.int .u8 (bits BinOp.xor IntKind.u8 0 54))).setCell ⟨go_, q, none⟩ (.int .u8 (bits BinOp.xor IntKind.u8 0 92))) gi (xs 54 key.data.toList (q + 1)) ∧ BytesAt ((wr.setCell ⟨gi, q, none⟩ (.int .u8 (bits BinOp.xor IntKind.u8 0 54))).setCell ⟨go_, q, none⟩ (.int .u8 (bits BinOp.xor IntKind.u8 0 92))) go_ (xs 92 key.data.toList (q + 1)) ∧ Below w.heap.size w ((wr.setCell ⟨gi, q, none⟩ (.int .u8 (bits BinOp.xor IntKind.u8 0 54))).setCell ⟨go_, q, none⟩ (.int .u8 (bits BinOp.xor IntKind.u8 0 92)))) := by
              rw [← xs_step, ← xs_step, HC.out]
              exact ⟨(I.out.1.set q _ _ (xor8 (0 : UInt8) 54)).other (a := ⟨go_, q, none⟩) d2 _, (I.out.2.1.other (a := ⟨gi, q, none⟩) d1 _).set q _ _ (xor8 (0 : UInt8) 92), (I.out.2.2.setCell (p := ⟨gi, q, none⟩) HG.out.1 _).setCell (p := ⟨go_, q, none⟩) HG.out.2 _⟩
            clear HC
            go_wp2
            exact ⟨⟨q + 1, by omega, by go_num, NX.out⟩, by simp [intOf]; omega⟩
    · obtain ⟨WA, hWA⟩ : ∃ x, (w.alloc (.cells (Array.replicate 64 (.int .u8 0)) 5)).alloc (.cells (Array.replicate 64 (.int .u8 0)) 5) = x := ⟨_, rfl⟩
      have I0 : Hid (BytesAt WA (w.heap.size + 1) (xs 54 key.data.toList 0) ∧ BytesAt WA (w.heap.size) (xs 92 key.data.toList 0)) := by
        rw [xs_zero, xs_zero, ← hWA]
        have e1 : (w.alloc (.cells (Array.replicate 64 (.int .u8 0)) 5)).heap.size = w.heap.size + 1 := by simp
        have zi := zeros64 (w.alloc (.cells (Array.replicate 64 (.int .u8 0)) 5))
        have zo := (zeros64 w).later ((Below.refl _ _).alloc (Nat.le_refl _) (.cells (Array.replicate 64 (.int .u8 0)) 5))
        rw [e1] at zi
        exact ⟨zi, zo⟩
      have I1 : Hid (Below w.heap.size w WA) := by
        rw [← hWA]
        exact (B0.out.alloc B0.out.size _).alloc (by have := B0.out.size; simp; try omega) _
      obtain ⟨gi, hgi⟩ : ∃ g, w.heap.size + 1 = g := ⟨_, rfl⟩
      rw [hgi] at I0
      rw [hgi]
      obtain ⟨go_, hgo⟩ : ∃ g, w.heap.size = g := ⟨_, rfl⟩
      rw [hgo] at I0
      rw [hgo]
      rw [hWA]
      have d1 : gi ≠ go_ := by omega
      have d2 : go_ ≠ gi := by omega
      have HG : Hid (w.heap.size ≤ gi ∧ w.heap.size ≤ go_) := by have := B0.out.size; show _ ∧ _; omega
      clear hWA hgi hgo hmk
      go_wp2
      go_loopw [7] (fun i wr => ∃ q : Nat, q ≤ 64 ∧ i = .int .i64 (q : Int) ∧ Hid (BytesAt wr gi (xs 54 key.data.toList q) ∧ BytesAt wr go_ (xs 92 key.data.toList q) ∧ Below w.heap.size w wr)) (fun i _ => 64 - (intOf i).toNat)
      case atStart => exact ⟨0, by omega, rfl, I0.out.1, I0.out.2, I1.out.drew⟩
      case round =>
        obtain ⟨q, hq, rfl, I⟩ := hrel
        clear I0 I1
        by_cases hq64 : q = 64
        · subst hq64
          have CVI : Hid (∀ w', Below wr.heap.size wr w' → (convert 60 9 (.slice (some ⟨gi, 0, none⟩) 64 64)).run Tryd.prog w' = .ok (.string ⟨(xs 54 key.data.toList 64).toArray⟩) w') := fun w' h => (I.out.1.later h).string (xs_len _ _ _)
          have CVO : Hid (∀ w', Below wr.heap.size wr w' → (convert 60 9 (.slice (some ⟨go_, 0, none⟩) 64 64)).run Tryd.prog w' = .ok (.string ⟨(xs 92 key.data.toList 64).toArray⟩) w') := fun w' h => (I.out.2.1.later h).string (xs_len _ _ _)
          obtain ⟨XI, hXI⟩ : ∃ X : ByteArray, ⟨(xs 54 key.data.toList 64).toArray⟩ = X := ⟨_, rfl⟩
          obtain ⟨XO, hXO⟩ : ∃ X : ByteArray, ⟨(xs 92 key.data.toList 64).toArray⟩ = X := ⟨_, rfl⟩
          have zI : Hid (XI.size = 64 ∧ XI.data.toList = xs 54 key.data.toList 64) := ⟨by rw [← hXI]; show (xs 54 key.data.toList 64).toArray.size = 64; rw [List.size_toArray, xs_len], by rw [← hXI]⟩
          have zO : Hid (XO.size = 64 ∧ XO.data.toList = xs 92 key.data.toList 64) := ⟨by rw [← hXO]; show (xs 92 key.data.toList 64).toArray.size = 64; rw [List.size_toArray, xs_len], by rw [← hXO]⟩
          rw [hXI] at CVI
          rw [hXO] at CVO
          have DG1 : Hid (∀ w, Calls Tryd.prog 60 #[.string (XI ++ text)] w fun e w' => e = .returned (.string ⟨(sha (XI ++ text).data.toList).toArray⟩) ∧ Below w.heap.size w w') := fun w => DG.out _ w (by rw [ByteArray.size_append]; have := zI.out.1; have := ht.out; omega)
          obtain ⟨D, hD⟩ : ∃ X : ByteArray, ⟨(sha (XI ++ text).data.toList).toArray⟩ = X := ⟨_, rfl⟩
          have zD : Hid (D.size = 32 ∧ D.data.toList = sha (xs 54 key.data.toList 64 ++ text.data.toList)) := by
            refine ⟨by rw [← hD]; rfl, ?_⟩
            rw [← hD, ← zI.out.2]
            show (sha (XI ++ text).data.toList) = _
            rw [ByteArray.data_append, Array.toList_append]
          rw [hD] at DG1
          have DG2 : Hid (∀ w, Calls Tryd.prog 60 #[.string (XO ++ D)] w fun e w' => e = .returned (.string ⟨(hmac key.data.toList text.data.toList).toArray⟩) ∧ Below w.heap.size w w') := fun w => by
            have h := DG.out (XO ++ D) w (by rw [ByteArray.size_append]; have := zO.out.1; have := zD.out.1; omega)
            rw [FIN.out, ← zD.out.2, ← zO.out.2]
            rw [ByteArray.data_append, Array.toList_append] at h
            exact h
          have f1 : XI.size + text.size ≤ 9223372036854775807 := by have := zI.out.1; have := ht.out; omega
          have f2 : XO.size + D.size ≤ 9223372036854775807 := by have := zO.out.1; have := zD.out.1; omega
          have f3 : ∀ w, (Op.stringOp .add XI text).run Tryd.prog w = .ok (.string (XI ++ text)) w := fun w => run_string_add_sum _ _ _ f1
          have f4 : ∀ w, (Op.stringOp .add XO D).run Tryd.prog w = .ok (.string (XO ++ D)) w := fun w => run_string_add_sum _ _ _ f2
          clear hXI hXO hD DG
          go_wp2
          go_region_held3 (fun w' => Below wr.heap.size wr w' ∧ (convert 60 9 (.slice (some ⟨gi, 0, none⟩) 64 64)).run Tryd.prog w' = .ok (.string XI) w' ∧ (convert 60 9 (.slice (some ⟨go_, 0, none⟩) 64 64)).run Tryd.prog w' = .ok (.string XO) w') (first | exact ⟨(Below.refl _ _).drew, CVI.out _ (Below.refl _ _).drew, CVO.out _ (Below.refl _ _).drew⟩ | exact ⟨chain (And.left (by assumption)) hb1, CVI.out _ (chain (And.left (by assumption)) hb1), CVO.out _ (chain (And.left (by assumption)) hb1)⟩ | exact ⟨chain (And.left (by assumption)) hb2, CVI.out _ (chain (And.left (by assumption)) hb2), CVO.out _ (chain (And.left (by assumption)) hb2)⟩ | assumption) (first | (go_at_call 60; revert DG1; intro DG1; refine Calls.mono (DG1.out _) ?_; rintro e w3 ⟨rfl, hb1⟩; clear DG1) | (go_at_call 60; refine Calls.mono (DG2.out _) ?_; rintro e w4 ⟨rfl, hb2⟩))
          all_goals
            rename_i hH
            have BF : Hid (Below w.heap.size w w4) := chain I.out.2.2 hH.1
            clear hH
            go_wp2
            go_ret
            exact ⟨rfl, BF.out⟩
        · have q64 : (q : Int) < 64 := by omega
          obtain ⟨ci, fi⟩ := I.out.1 q (by rw [xs_len]; omega)
          obtain ⟨co, fo⟩ := I.out.2.1 q (by rw [xs_len]; omega)
          generalize ((xs 54 key.data.toList q)[q]'(by rw [xs_len]; omega)).toNat = y1 at ci
          generalize ((xs 92 key.data.toList q)[q]'(by rw [xs_len]; omega)).toNat = y2 at co
          by_cases hqk : q < key.size
          · have q2 : (q : Int) < (key.size : Int) := by omega
            have HC : Hid (key.data.toList.getD q 0 = key[q]) := by
              show _ = _
              rw [List.getD_eq_getElem?_getD, List.getElem?_eq_getElem (by simpa using hqk)]; rfl
            obtain ⟨c, hc⟩ : ∃ c, key[q] = c := ⟨_, rfl⟩
            rw [hc] at HC
            have NX : Hid (BytesAt ((wr.setCell ⟨gi, q, none⟩ (.int .u8 (bits BinOp.xor IntKind.u8 (c.toNat : Int) 54))).setCell ⟨go_, q, none⟩ (.int .u8 (bits BinOp.xor IntKind.u8 (c.toNat : Int) 92))) gi (xs 54 key.data.toList (q + 1)) ∧ BytesAt ((wr.setCell ⟨gi, q, none⟩ (.int .u8 (bits BinOp.xor IntKind.u8 (c.toNat : Int) 54))).setCell ⟨go_, q, none⟩ (.int .u8 (bits BinOp.xor IntKind.u8 (c.toNat : Int) 92))) go_ (xs 92 key.data.toList (q + 1)) ∧ Below w.heap.size w ((wr.setCell ⟨gi, q, none⟩ (.int .u8 (bits BinOp.xor IntKind.u8 (c.toNat : Int) 54))).setCell ⟨go_, q, none⟩ (.int .u8 (bits BinOp.xor IntKind.u8 (c.toNat : Int) 92)))) := by
              rw [← xs_step, ← xs_step, HC.out]
              exact ⟨(I.out.1.set q _ _ (xor8 c 54)).other (a := ⟨go_, q, none⟩) d2 _, (I.out.2.1.other (a := ⟨gi, q, none⟩) d1 _).set q _ _ (xor8 c 92), (I.out.2.2.setCell (p := ⟨gi, q, none⟩) HG.out.1 _).setCell (p := ⟨go_, q, none⟩) HG.out.2 _⟩
            clear HC
            go_wp2
            exact ⟨⟨q + 1, by omega, by go_num, NX.out⟩, by simp [intOf]; omega⟩
          · have q2 : ¬ (q : Int) < (key.size : Int) := by omega
            have HC : Hid (key.data.toList.getD q 0 = 0) := by
              show _ = _
              rw [List.getD_eq_getElem?_getD, List.getElem?_eq_none (by simpa using hqk)]; rfl
            have NX : Hid (BytesAt ((wr.setCell ⟨gi, q, none⟩ (.int .u8 (bits BinOp.xor IntKind.u8 0 54))).setCell ⟨go_, q, none⟩ (.int .u8 (bits BinOp.xor IntKind.u8 0 92))) gi (xs 54 key.data.toList (q + 1)) ∧ BytesAt ((wr.setCell ⟨gi, q, none⟩ (.int .u8 (bits BinOp.xor IntKind.u8 0 54))).setCell ⟨go_, q, none⟩ (.int .u8 (bits BinOp.xor IntKind.u8 0 92))) go_ (xs 92 key.data.toList (q + 1)) ∧ Below w.heap.size w ((wr.setCell ⟨gi, q, none⟩ (.int .u8 (bits BinOp.xor IntKind.u8 0 54))).setCell ⟨go_, q, none⟩ (.int .u8 (bits BinOp.xor IntKind.u8 0 92)))) := by
              rw [← xs_step, ← xs_step, HC.out]
              exact ⟨(I.out.1.set q _ _ (xor8 (0 : UInt8) 54)).other (a := ⟨go_, q, none⟩) d2 _, (I.out.2.1.other (a := ⟨gi, q, none⟩) d1 _).set q _ _ (xor8 (0 : UInt8) 92), (I.out.2.2.setCell (p := ⟨gi, q, none⟩) HG.out.1 _).setCell (p := ⟨go_, q, none⟩) HG.out.2 _⟩
            clear HC
            go_wp2
            exact ⟨⟨q + 1, by omega, by go_num, NX.out⟩, by simp [intOf]; omega⟩
end Go.Proofs.YtbogoheigbiegaaDoor
