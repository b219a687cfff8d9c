/- The document's tags and keys; the keyed layer's contracts. -/
import Derived.Test.YtbkefhfbbhdpcaaDoorGR
import Derived.Test.YtbkefhfbbhdpcaaDoorHM

/- The document's tags. -/
namespace Go.Proofs.YtbkefhfbbhdpcaaDoor
open Go.RowKit Go.Proofs.Fd Go.Proofs.Hs
set_option maxRecDepth 20000

theorem zeros64 (w : World) : BytesAt (w.alloc (.cells (Array.replicate 64 (.int .u8 0)) 5)) w.heap.size (List.replicate 64 0) := fun j hj => by
  have hj' : j < 64 := by simpa using hj
  refine ⟨?_, by simp [go_sem]⟩
  rw [World.cell?_alloc_new, List.getElem_replicate, Array.getElem?_replicate, if_pos hj']
  rfl

/-- A key's bytes so far. -/
def xs (c : UInt8) (k : List UInt8) (i : Nat) : List UInt8 := (List.range 64).map fun j => if j < i then k.getD j 0 ^^^ c else 0
theorem xs_len (c : UInt8) (k : List UInt8) (i : Nat) : (xs c k i).length = 64 := by simp [xs]
theorem xs_zero (c : UInt8) (k : List UInt8) : xs c k 0 = List.replicate 64 0 := by
  unfold xs
  rw [List.eq_replicate_iff]
  refine ⟨by simp, fun b hb => ?_⟩
  obtain ⟨j, -, rfl⟩ := List.mem_map.1 hb
  simp
theorem xs_step (c : UInt8) (k : List UInt8) (i : Nat) : (xs c k i).set i (k.getD i 0 ^^^ c) = xs c k (i + 1) := by
  apply List.ext_getElem?
  intro j
  by_cases e : i = j
  · subst e
    by_cases h : i < 64
    · simp [xs, h]
    · simp [xs, h]
  · rw [List.getElem?_set_ne e]
    by_cases h : j < 64
    · have : (j < i) ↔ (j < i + 1) := by omega
      simp [xs, h, this]
    · simp [xs, h]
theorem xs_all (c : UInt8) (k : List UInt8) : xs c k 64 = (k64 k).map fun b => b ^^^ c := by
  unfold xs k64
  rw [List.map_map]
  apply List.map_congr_left
  intro j hj
  have : j < 64 := by simpa using hj
  simp [this]

theorem xor8 (x y : UInt8) : bits BinOp.xor IntKind.u8 (x.toNat : Int) (y.toNat : Int) = ((x ^^^ y).toNat : Int) := by
  have h1 : x.toNat < 2 ^ 8 := x.toNat_lt
  have h2 : y.toNat < 2 ^ 8 := y.toNat_lt
  have h3 : x.toNat ^^^ y.toNat < 2 ^ 8 := Nat.xor_lt_two_pow h1 h2
  rw [UInt8.toNat_xor]
  have e1 : x.toNat % 2 ^ IntKind.u8.bits = x.toNat := Nat.mod_eq_of_lt h1
  have e2 : y.toNat % 2 ^ IntKind.u8.bits = y.toNat := Nat.mod_eq_of_lt h2
  simp only [bits, BitVec.ofInt_natCast, BitVec.toNat_xor, BitVec.toNat_ofNat, e1, e2]
  rw [IntKind.wrap_u8]
  omega

theorem below_other {B : Nat} {w w1 : World} (h : Below B w w1) {b k : Nat} (hb : B ≤ b) (v : Value) : Below B w (w1.setCell ⟨b, k, none⟩ v) := h.setCell (p := ⟨b, k, none⟩) hb v

set_option maxHeartbeats 2000000 in
theorem rTag_any (key text : ByteArray) (hk : Hid (key.size ≤ 140737488355328)) (ht : Hid (text.size + 64 ≤ 140737488355328)) (w : World) :
    Calls Tryd.prog 34 #[.string key, .string text] w fun e w' => e = .returned (.string ⟨(hmac key.data.toList text.data.toList).toArray⟩) ∧ Below w.heap.size w w' := by
  have hl : Hid (key.data.toList.length = key.size ∧ text.data.toList.length = text.size) := by show _ ∧ _; simp
  have DG : Hid (∀ (t : ByteArray) (w : World), t.size ≤ 140737488355328 → Calls Tryd.prog 43 #[.string t] w fun e w' => e = .returned (.string ⟨(sha t.data.toList).toArray⟩) ∧ Below w.heap.size w w') := fun t w h => rDigest_any t h w
  have hmk : ∀ w : World, (Instr.makeSlice 30 (.int .i64 64) (.int .i64 64)).run Tryd.prog w = .ok (.slice (some ⟨w.heap.size, 0, none⟩) 64 64) (w.alloc (.cells (Array.replicate 64 (.int .u8 0)) 5)) := fun _ => by kernel_rfl
  by_cases h64 : 64 < key.size
  · have g0 : (64 : Int) < (key.size : Int) := by omega
    obtain ⟨K, hK⟩ : ∃ K : ByteArray, ⟨(sha key.data.toList).toArray⟩ = K := ⟨_, rfl⟩
    have DK : Hid (∀ w, Calls Tryd.prog 43 #[.string key] w fun e w' => e = .returned (.string K) ∧ Below w.heap.size w w') := fun w => by rw [← hK]; exact DG.out key w hk.out
    have HK : Hid (short key.data.toList = K.data.toList ∧ K.size ≤ 64) := by
      rw [← hK]; exact ⟨short_gt _ (by rw [hl.out.1]; omega), by show (32 : Nat) ≤ 64; decide⟩
    have FIN : Hid (hmac key.data.toList text.data.toList = sha (xs 92 K.data.toList 64 ++ sha (xs 54 K.data.toList 64 ++ text.data.toList))) := by
      show _ = _
      unfold hmac xk
      rw [HK.out.1, xs_all, xs_all]
    clear hK
    go_enter Tryd.func34, Tryd.ntmps34
    go_wp2_with fail
    refine Calls.mono (DK.out _) ?_
    rintro e w1 ⟨rfl, hb0⟩
    have B0 : Hid (Below w.heap.size w w1) := hb0
    clear hb0 DK
    go_wp2
    go_region_with (fail)
    · obtain ⟨WA, hWA⟩ : ∃ x, (w1.alloc (.cells (Array.replicate 64 (.int .u8 0)) 5)).alloc (.cells (Array.replicate 64 (.int .u8 0)) 5) = x := ⟨_, rfl⟩
      have I0 : Hid (BytesAt WA (w1.heap.size) (xs 54 K.data.toList 0) ∧ BytesAt WA (w1.heap.size + 1) (xs 92 K.data.toList 0)) := by
        rw [xs_zero, xs_zero, ← hWA]
        have e1 : (w1.alloc (.cells (Array.replicate 64 (.int .u8 0)) 5)).heap.size = w1.heap.size + 1 := by simp
        have zi := (zeros64 w1).later ((Below.refl _ _).alloc (Nat.le_refl _) (.cells (Array.replicate 64 (.int .u8 0)) 5))
        have zo := zeros64 (w1.alloc (.cells (Array.replicate 64 (.int .u8 0)) 5))
        rw [e1] at zo
        exact ⟨zi, zo⟩
      have I1 : Hid (Below w.heap.size w WA) := by
        rw [← hWA]
        exact (B0.out.alloc B0.out.size _).alloc (by have := B0.out.size; simp; try omega) _
      obtain ⟨go_, hgo⟩ : ∃ g, w1.heap.size + 1 = g := ⟨_, rfl⟩
      rw [hgo] at I0
      rw [hgo]
      obtain ⟨gi, hgi⟩ : ∃ g, w1.heap.size = g := ⟨_, rfl⟩
      rw [hgi] at I0
      rw [hgi]
      rw [hWA]
      have d1 : gi ≠ go_ := by omega
      have d2 : go_ ≠ gi := by omega
      have HG : Hid (w.heap.size ≤ gi ∧ w.heap.size ≤ go_) := by have := B0.out.size; show _ ∧ _; omega
      clear hWA hgi hgo hmk
      go_wp2
      go_loopw [7] (fun i wr => ∃ q : Nat, q ≤ 64 ∧ i = .int .i64 (q : Int) ∧ Hid (BytesAt wr gi (xs 54 K.data.toList q) ∧ BytesAt wr go_ (xs 92 K.data.toList q) ∧ Below w.heap.size w wr)) (fun i _ => 64 - (intOf i).toNat)
      case atStart => exact ⟨0, by omega, rfl, I0.out.1, I0.out.2, I1.out.drew⟩
      case round =>
        obtain ⟨q, hq, rfl, I⟩ := hrel
        clear I0 I1
        by_cases hq64 : q = 64
        · subst hq64
          have CVI : Hid (∀ w', Below wr.heap.size wr w' → (convert 30 9 (.slice (some ⟨gi, 0, none⟩) 64 64)).run Tryd.prog w' = .ok (.string ⟨(xs 54 K.data.toList 64).toArray⟩) w') := fun w' h => (I.out.1.later h).string (xs_len _ _ _)
          have CVO : Hid (∀ w', Below wr.heap.size wr w' → (convert 30 9 (.slice (some ⟨go_, 0, none⟩) 64 64)).run Tryd.prog w' = .ok (.string ⟨(xs 92 K.data.toList 64).toArray⟩) w') := fun w' h => (I.out.2.1.later h).string (xs_len _ _ _)
          obtain ⟨XI, hXI⟩ : ∃ X : ByteArray, ⟨(xs 54 K.data.toList 64).toArray⟩ = X := ⟨_, rfl⟩
          obtain ⟨XO, hXO⟩ : ∃ X : ByteArray, ⟨(xs 92 K.data.toList 64).toArray⟩ = X := ⟨_, rfl⟩
          have zI : Hid (XI.size = 64 ∧ XI.data.toList = xs 54 K.data.toList 64) := ⟨by rw [← hXI]; show (xs 54 K.data.toList 64).toArray.size = 64; rw [List.size_toArray, xs_len], by rw [← hXI]⟩
          have zO : Hid (XO.size = 64 ∧ XO.data.toList = xs 92 K.data.toList 64) := ⟨by rw [← hXO]; show (xs 92 K.data.toList 64).toArray.size = 64; rw [List.size_toArray, xs_len], by rw [← hXO]⟩
          rw [hXI] at CVI
          rw [hXO] at CVO
          have DG1 : Hid (∀ w, Calls Tryd.prog 43 #[.string (XI ++ text)] w fun e w' => e = .returned (.string ⟨(sha (XI ++ text).data.toList).toArray⟩) ∧ Below w.heap.size w w') := fun w => DG.out _ w (by rw [ByteArray.size_append]; have := zI.out.1; have := ht.out; omega)
          obtain ⟨D, hD⟩ : ∃ X : ByteArray, ⟨(sha (XI ++ text).data.toList).toArray⟩ = X := ⟨_, rfl⟩
          have zD : Hid (D.size = 32 ∧ D.data.toList = sha (xs 54 K.data.toList 64 ++ text.data.toList)) := by
            refine ⟨by rw [← hD]; rfl, ?_⟩
            rw [← hD, ← zI.out.2]
            show (sha (XI ++ text).data.toList) = _
            rw [ByteArray.data_append, Array.toList_append]
          rw [hD] at DG1
          have DG2 : Hid (∀ w, Calls Tryd.prog 43 #[.string (XO ++ D)] w fun e w' => e = .returned (.string ⟨(hmac key.data.toList text.data.toList).toArray⟩) ∧ Below w.heap.size w w') := fun w => by
            have h := DG.out (XO ++ D) w (by rw [ByteArray.size_append]; have := zO.out.1; have := zD.out.1; omega)
            rw [FIN.out, ← zD.out.2, ← zO.out.2]
            rw [ByteArray.data_append, Array.toList_append] at h
            exact h
          have f1 : XI.size + text.size ≤ 9223372036854775807 := by have := zI.out.1; have := ht.out; omega
          have f2 : XO.size + D.size ≤ 9223372036854775807 := by have := zO.out.1; have := zD.out.1; omega
          have f3 : ∀ w, (Op.stringOp .add XI text).run Tryd.prog w = .ok (.string (XI ++ text)) w := fun w => run_string_add_sum _ _ _ f1
          have f4 : ∀ w, (Op.stringOp .add XO D).run Tryd.prog w = .ok (.string (XO ++ D)) w := fun w => run_string_add_sum _ _ _ f2
          clear hXI hXO hD DG
          go_wp2
          go_region_held3 (fun w' => Below wr.heap.size wr w' ∧ (convert 30 9 (.slice (some ⟨gi, 0, none⟩) 64 64)).run Tryd.prog w' = .ok (.string XI) w' ∧ (convert 30 9 (.slice (some ⟨go_, 0, none⟩) 64 64)).run Tryd.prog w' = .ok (.string XO) w') (first | exact ⟨(Below.refl _ _).drew, CVI.out _ (Below.refl _ _).drew, CVO.out _ (Below.refl _ _).drew⟩ | exact ⟨chain (And.left (by assumption)) hb1, CVI.out _ (chain (And.left (by assumption)) hb1), CVO.out _ (chain (And.left (by assumption)) hb1)⟩ | exact ⟨chain (And.left (by assumption)) hb2, CVI.out _ (chain (And.left (by assumption)) hb2), CVO.out _ (chain (And.left (by assumption)) hb2)⟩ | assumption) (first | (go_at_call 43; revert DG1; intro DG1; refine Calls.mono (DG1.out _) ?_; rintro e w3 ⟨rfl, hb1⟩; clear DG1) | (go_at_call 43; refine Calls.mono (DG2.out _) ?_; rintro e w4 ⟨rfl, hb2⟩))
          all_goals
            rename_i hH
            have BF : Hid (Below w.heap.size w w4) := chain I.out.2.2 hH.1
            clear hH
            go_wp2
            go_ret
            exact ⟨rfl, BF.out⟩
        · have q64 : (q : Int) < 64 := by omega
          obtain ⟨ci, fi⟩ := I.out.1 q (by rw [xs_len]; omega)
          obtain ⟨co, fo⟩ := I.out.2.1 q (by rw [xs_len]; omega)
          generalize ((xs 54 K.data.toList q)[q]'(by rw [xs_len]; omega)).toNat = y1 at ci
          generalize ((xs 92 K.data.toList q)[q]'(by rw [xs_len]; omega)).toNat = y2 at co
          by_cases hqk : q < K.size
          · have q2 : (q : Int) < (K.size : Int) := by omega
            have HC : Hid (K.data.toList.getD q 0 = K[q]) := by
              show _ = _
              rw [List.getD_eq_getElem?_getD, List.getElem?_eq_getElem (by simpa using hqk)]; rfl
            obtain ⟨c, hc⟩ : ∃ c, K[q] = c := ⟨_, rfl⟩
            rw [hc] at HC
            have NX : Hid (BytesAt ((wr.setCell ⟨gi, q, none⟩ (.int .u8 (bits BinOp.xor IntKind.u8 (c.toNat : Int) 54))).setCell ⟨go_, q, none⟩ (.int .u8 (bits BinOp.xor IntKind.u8 (c.toNat : Int) 92))) gi (xs 54 K.data.toList (q + 1)) ∧ BytesAt ((wr.setCell ⟨gi, q, none⟩ (.int .u8 (bits BinOp.xor IntKind.u8 (c.toNat : Int) 54))).setCell ⟨go_, q, none⟩ (.int .u8 (bits BinOp.xor IntKind.u8 (c.toNat : Int) 92))) go_ (xs 92 K.data.toList (q + 1)) ∧ Below w.heap.size w ((wr.setCell ⟨gi, q, none⟩ (.int .u8 (bits BinOp.xor IntKind.u8 (c.toNat : Int) 54))).setCell ⟨go_, q, none⟩ (.int .u8 (bits BinOp.xor IntKind.u8 (c.toNat : Int) 92)))) := by
              rw [← xs_step, ← xs_step, HC.out]
              exact ⟨(I.out.1.set q _ _ (xor8 c 54)).other (a := ⟨go_, q, none⟩) d2 _, (I.out.2.1.other (a := ⟨gi, q, none⟩) d1 _).set q _ _ (xor8 c 92), (I.out.2.2.setCell (p := ⟨gi, q, none⟩) HG.out.1 _).setCell (p := ⟨go_, q, none⟩) HG.out.2 _⟩
            clear HC
            go_wp2
            exact ⟨⟨q + 1, by omega, by go_num, NX.out⟩, by simp [intOf]; omega⟩
          · have q2 : ¬ (q : Int) < (K.size : Int) := by omega
            have HC : Hid (K.data.toList.getD q 0 = 0) := by
              show _ = _
              rw [List.getD_eq_getElem?_getD, List.getElem?_eq_none (by simpa using hqk)]; rfl
            have NX : Hid (BytesAt ((wr.setCell ⟨gi, q, none⟩ (.int .u8 (bits BinOp.xor IntKind.u8 0 54))).setCell ⟨go_, q, none⟩ (.int .u8 (bits BinOp.xor IntKind.u8 0 92))) gi (xs 54 K.data.toList (q + 1)) ∧ BytesAt ((wr.setCell ⟨gi, q, none⟩ (.int .u8 (bits BinOp.xor IntKind.u8 0 54))).setCell ⟨go_, q, none⟩ (.int .u8 (bits BinOp.xor IntKind.u8 0 92))) go_ (xs 92 K.data.toList (q + 1)) ∧ Below w.heap.size w ((wr.setCell ⟨gi, q, none⟩ (.int .u8 (bits BinOp.xor IntKind.u8 0 54))).setCell ⟨go_, q, none⟩ (.int .u8 (bits BinOp.xor IntKind.u8 0 92)))) := by
              rw [← xs_step, ← xs_step, HC.out]
              exact ⟨(I.out.1.set q _ _ (xor8 (0 : UInt8) 54)).other (a := ⟨go_, q, none⟩) d2 _, (I.out.2.1.other (a := ⟨gi, q, none⟩) d1 _).set q _ _ (xor8 (0 : UInt8) 92), (I.out.2.2.setCell (p := ⟨gi, q, none⟩) HG.out.1 _).setCell (p := ⟨go_, q, none⟩) HG.out.2 _⟩
            clear HC
            go_wp2
            exact ⟨⟨q + 1, by omega, by go_num, NX.out⟩, by simp [intOf]; omega⟩
    · obtain ⟨WA, hWA⟩ : ∃ x, (w1.alloc (.cells (Array.replicate 64 (.int .u8 0)) 5)).alloc (.cells (Array.replicate 64 (.int .u8 0)) 5) = x := ⟨_, rfl⟩
      have I0 : Hid (BytesAt WA (w1.heap.size + 1) (xs 54 K.data.toList 0) ∧ BytesAt WA (w1.heap.size) (xs 92 K.data.toList 0)) := by
        rw [xs_zero, xs_zero, ← hWA]
        have e1 : (w1.alloc (.cells (Array.replicate 64 (.int .u8 0)) 5)).heap.size = w1.heap.size + 1 := by simp
        have zi := zeros64 (w1.alloc (.cells (Array.replicate 64 (.int .u8 0)) 5))
        have zo := (zeros64 w1).later ((Below.refl _ _).alloc (Nat.le_refl _) (.cells (Array.replicate 64 (.int .u8 0)) 5))
        rw [e1] at zi
        exact ⟨zi, zo⟩
      have I1 : Hid (Below w.heap.size w WA) := by
        rw [← hWA]
        exact (B0.out.alloc B0.out.size _).alloc (by have := B0.out.size; simp; try omega) _
      obtain ⟨gi, hgi⟩ : ∃ g, w1.heap.size + 1 = g := ⟨_, rfl⟩
      rw [hgi] at I0
      rw [hgi]
      obtain ⟨go_, hgo⟩ : ∃ g, w1.heap.size = g := ⟨_, rfl⟩
      rw [hgo] at I0
      rw [hgo]
      rw [hWA]
      have d1 : gi ≠ go_ := by omega
      have d2 : go_ ≠ gi := by omega
      have HG : Hid (w.heap.size ≤ gi ∧ w.heap.size ≤ go_) := by have := B0.out.size; show _ ∧ _; omega
      clear hWA hgi hgo hmk
      go_wp2
      go_loopw [7] (fun i wr => ∃ q : Nat, q ≤ 64 ∧ i = .int .i64 (q : Int) ∧ Hid (BytesAt wr gi (xs 54 K.data.toList q) ∧ BytesAt wr go_ (xs 92 K.data.toList q) ∧ Below w.heap.size w wr)) (fun i _ => 64 - (intOf i).toNat)
      case atStart => exact ⟨0, by omega, rfl, I0.out.1, I0.out.2, I1.out.drew⟩
      case round =>
        obtain ⟨q, hq, rfl, I⟩ := hrel
        clear I0 I1
        by_cases hq64 : q = 64
        · subst hq64
          have CVI : Hid (∀ w', Below wr.heap.size wr w' → (convert 30 9 (.slice (some ⟨gi, 0, none⟩) 64 64)).run Tryd.prog w' = .ok (.string ⟨(xs 54 K.data.toList 64).toArray⟩) w') := fun w' h => (I.out.1.later h).string (xs_len _ _ _)
          have CVO : Hid (∀ w', Below wr.heap.size wr w' → (convert 30 9 (.slice (some ⟨go_, 0, none⟩) 64 64)).run Tryd.prog w' = .ok (.string ⟨(xs 92 K.data.toList 64).toArray⟩) w') := fun w' h => (I.out.2.1.later h).string (xs_len _ _ _)
          obtain ⟨XI, hXI⟩ : ∃ X : ByteArray, ⟨(xs 54 K.data.toList 64).toArray⟩ = X := ⟨_, rfl⟩
          obtain ⟨XO, hXO⟩ : ∃ X : ByteArray, ⟨(xs 92 K.data.toList 64).toArray⟩ = X := ⟨_, rfl⟩
          have zI : Hid (XI.size = 64 ∧ XI.data.toList = xs 54 K.data.toList 64) := ⟨by rw [← hXI]; show (xs 54 K.data.toList 64).toArray.size = 64; rw [List.size_toArray, xs_len], by rw [← hXI]⟩
          have zO : Hid (XO.size = 64 ∧ XO.data.toList = xs 92 K.data.toList 64) := ⟨by rw [← hXO]; show (xs 92 K.data.toList 64).toArray.size = 64; rw [List.size_toArray, xs_len], by rw [← hXO]⟩
          rw [hXI] at CVI
          rw [hXO] at CVO
          have DG1 : Hid (∀ w, Calls Tryd.prog 43 #[.string (XI ++ text)] w fun e w' => e = .returned (.string ⟨(sha (XI ++ text).data.toList).toArray⟩) ∧ Below w.heap.size w w') := fun w => DG.out _ w (by rw [ByteArray.size_append]; have := zI.out.1; have := ht.out; omega)
          obtain ⟨D, hD⟩ : ∃ X : ByteArray, ⟨(sha (XI ++ text).data.toList).toArray⟩ = X := ⟨_, rfl⟩
          have zD : Hid (D.size = 32 ∧ D.data.toList = sha (xs 54 K.data.toList 64 ++ text.data.toList)) := by
            refine ⟨by rw [← hD]; rfl, ?_⟩
            rw [← hD, ← zI.out.2]
            show (sha (XI ++ text).data.toList) = _
            rw [ByteArray.data_append, Array.toList_append]
          rw [hD] at DG1
          have DG2 : Hid (∀ w, Calls Tryd.prog 43 #[.string (XO ++ D)] w fun e w' => e = .returned (.string ⟨(hmac key.data.toList text.data.toList).toArray⟩) ∧ Below w.heap.size w w') := fun w => by
            have h := DG.out (XO ++ D) w (by rw [ByteArray.size_append]; have := zO.out.1; have := zD.out.1; omega)
            rw [FIN.out, ← zD.out.2, ← zO.out.2]
            rw [ByteArray.data_append, Array.toList_append] at h
            exact h
          have f1 : XI.size + text.size ≤ 9223372036854775807 := by have := zI.out.1; have := ht.out; omega
          have f2 : XO.size + D.size ≤ 9223372036854775807 := by have := zO.out.1; have := zD.out.1; omega
          have f3 : ∀ w, (Op.stringOp .add XI text).run Tryd.prog w = .ok (.string (XI ++ text)) w := fun w => run_string_add_sum _ _ _ f1
          have f4 : ∀ w, (Op.stringOp .add XO D).run Tryd.prog w = .ok (.string (XO ++ D)) w := fun w => run_string_add_sum _ _ _ f2
          clear hXI hXO hD DG
          go_wp2
          go_region_held3 (fun w' => Below wr.heap.size wr w' ∧ (convert 30 9 (.slice (some ⟨gi, 0, none⟩) 64 64)).run Tryd.prog w' = .ok (.string XI) w' ∧ (convert 30 9 (.slice (some ⟨go_, 0, none⟩) 64 64)).run Tryd.prog w' = .ok (.string XO) w') (first | exact ⟨(Below.refl _ _).drew, CVI.out _ (Below.refl _ _).drew, CVO.out _ (Below.refl _ _).drew⟩ | exact ⟨chain (And.left (by assumption)) hb1, CVI.out _ (chain (And.left (by assumption)) hb1), CVO.out _ (chain (And.left (by assumption)) hb1)⟩ | exact ⟨chain (And.left (by assumption)) hb2, CVI.out _ (chain (And.left (by assumption)) hb2), CVO.out _ (chain (And.left (by assumption)) hb2)⟩ | assumption) (first | (go_at_call 43; revert DG1; intro DG1; refine Calls.mono (DG1.out _) ?_; rintro e w3 ⟨rfl, hb1⟩; clear DG1) | (go_at_call 43; refine Calls.mono (DG2.out _) ?_; rintro e w4 ⟨rfl, hb2⟩))
          all_goals
            rename_i hH
            have BF : Hid (Below w.heap.size w w4) := chain I.out.2.2 hH.1
            clear hH
            go_wp2
            go_ret
            exact ⟨rfl, BF.out⟩
        · have q64 : (q : Int) < 64 := by omega
          obtain ⟨ci, fi⟩ := I.out.1 q (by rw [xs_len]; omega)
          obtain ⟨co, fo⟩ := I.out.2.1 q (by rw [xs_len]; omega)
          generalize ((xs 54 K.data.toList q)[q]'(by rw [xs_len]; omega)).toNat = y1 at ci
          generalize ((xs 92 K.data.toList q)[q]'(by rw [xs_len]; omega)).toNat = y2 at co
          by_cases hqk : q < K.size
          · have q2 : (q : Int) < (K.size : Int) := by omega
            have HC : Hid (K.data.toList.getD q 0 = K[q]) := by
              show _ = _
              rw [List.getD_eq_getElem?_getD, List.getElem?_eq_getElem (by simpa using hqk)]; rfl
            obtain ⟨c, hc⟩ : ∃ c, K[q] = c := ⟨_, rfl⟩
            rw [hc] at HC
            have NX : Hid (BytesAt ((wr.setCell ⟨gi, q, none⟩ (.int .u8 (bits BinOp.xor IntKind.u8 (c.toNat : Int) 54))).setCell ⟨go_, q, none⟩ (.int .u8 (bits BinOp.xor IntKind.u8 (c.toNat : Int) 92))) gi (xs 54 K.data.toList (q + 1)) ∧ BytesAt ((wr.setCell ⟨gi, q, none⟩ (.int .u8 (bits BinOp.xor IntKind.u8 (c.toNat : Int) 54))).setCell ⟨go_, q, none⟩ (.int .u8 (bits BinOp.xor IntKind.u8 (c.toNat : Int) 92))) go_ (xs 92 K.data.toList (q + 1)) ∧ Below w.heap.size w ((wr.setCell ⟨gi, q, none⟩ (.int .u8 (bits BinOp.xor IntKind.u8 (c.toNat : Int) 54))).setCell ⟨go_, q, none⟩ (.int .u8 (bits BinOp.xor IntKind.u8 (c.toNat : Int) 92)))) := by
              rw [← xs_step, ← xs_step, HC.out]
              exact ⟨(I.out.1.set q _ _ (xor8 c 54)).other (a := ⟨go_, q, none⟩) d2 _, (I.out.2.1.other (a := ⟨gi, q, none⟩) d1 _).set q _ _ (xor8 c 92), (I.out.2.2.setCell (p := ⟨gi, q, none⟩) HG.out.1 _).setCell (p := ⟨go_, q, none⟩) HG.out.2 _⟩
            clear HC
            go_wp2
            exact ⟨⟨q + 1, by omega, by go_num, NX.out⟩, by simp [intOf]; omega⟩
          · have q2 : ¬ (q : Int) < (K.size : Int) := by omega
            have HC : Hid (K.data.toList.getD q 0 = 0) := by
              show _ = _
              rw [List.getD_eq_getElem?_getD, List.getElem?_eq_none (by simpa using hqk)]; rfl
            have NX : Hid (BytesAt ((wr.setCell ⟨gi, q, none⟩ (.int .u8 (bits BinOp.xor IntKind.u8 0 54))).setCell ⟨go_, q, none⟩ (.int .u8 (bits BinOp.xor IntKind.u8 0 92))) gi (xs 54 K.data.toList (q + 1)) ∧ BytesAt ((wr.setCell ⟨gi, q, none⟩ (.int .u8 (bits BinOp.xor IntKind.u8 0 54))).setCell ⟨go_, q, none⟩ (.int .u8 (bits BinOp.xor IntKind.u8 0 92))) go_ (xs 92 K.data.toList (q + 1)) ∧ Below w.heap.size w ((wr.setCell ⟨gi, q, none⟩ (.int .u8 (bits BinOp.xor IntKind.u8 0 54))).setCell ⟨go_, q, none⟩ (.int .u8 (bits BinOp.xor IntKind.u8 0 92)))) := by
              rw [← xs_step, ← xs_step, HC.out]
              exact ⟨(I.out.1.set q _ _ (xor8 (0 : UInt8) 54)).other (a := ⟨go_, q, none⟩) d2 _, (I.out.2.1.other (a := ⟨gi, q, none⟩) d1 _).set q _ _ (xor8 (0 : UInt8) 92), (I.out.2.2.setCell (p := ⟨gi, q, none⟩) HG.out.1 _).setCell (p := ⟨go_, q, none⟩) HG.out.2 _⟩
            clear HC
            go_wp2
            exact ⟨⟨q + 1, by omega, by go_num, NX.out⟩, by simp [intOf]; omega⟩
  · have g0 : ¬ (64 : Int) < (key.size : Int) := by omega
    obtain ⟨K, hK⟩ : ∃ K, key = K := ⟨_, rfl⟩
    have HK : Hid (short key.data.toList = K.data.toList ∧ K.size ≤ 64) := by
      rw [← hK]; exact ⟨short_le _ (by rw [hl.out.1]; omega), by omega⟩
    have FIN : Hid (hmac key.data.toList text.data.toList = sha (xs 92 K.data.toList 64 ++ sha (xs 54 K.data.toList 64 ++ text.data.toList))) := by
      show _ = _
      unfold hmac xk
      rw [HK.out.1, xs_all, xs_all]
    have B0 : Hid (Below w.heap.size w w) := Below.refl _ _
    subst hK
    go_enter Tryd.func34, Tryd.ntmps34
    go_wp2
    go_region_with (fail)
    · obtain ⟨WA, hWA⟩ : ∃ x, (w.alloc (.cells (Array.replicate 64 (.int .u8 0)) 5)).alloc (.cells (Array.replicate 64 (.int .u8 0)) 5) = x := ⟨_, rfl⟩
      have I0 : Hid (BytesAt WA (w.heap.size) (xs 54 key.data.toList 0) ∧ BytesAt WA (w.heap.size + 1) (xs 92 key.data.toList 0)) := by
        rw [xs_zero, xs_zero, ← hWA]
        have e1 : (w.alloc (.cells (Array.replicate 64 (.int .u8 0)) 5)).heap.size = w.heap.size + 1 := by simp
        have zi := (zeros64 w).later ((Below.refl _ _).alloc (Nat.le_refl _) (.cells (Array.replicate 64 (.int .u8 0)) 5))
        have zo := zeros64 (w.alloc (.cells (Array.replicate 64 (.int .u8 0)) 5))
        rw [e1] at zo
        exact ⟨zi, zo⟩
      have I1 : Hid (Below w.heap.size w WA) := by
        rw [← hWA]
        exact (B0.out.alloc B0.out.size _).alloc (by have := B0.out.size; simp; try omega) _
      obtain ⟨go_, hgo⟩ : ∃ g, w.heap.size + 1 = g := ⟨_, rfl⟩
      rw [hgo] at I0
      rw [hgo]
      obtain ⟨gi, hgi⟩ : ∃ g, w.heap.size = g := ⟨_, rfl⟩
      rw [hgi] at I0
      rw [hgi]
      rw [hWA]
      have d1 : gi ≠ go_ := by omega
      have d2 : go_ ≠ gi := by omega
      have HG : Hid (w.heap.size ≤ gi ∧ w.heap.size ≤ go_) := by have := B0.out.size; show _ ∧ _; omega
      clear hWA hgi hgo hmk
      go_wp2
      go_loopw [7] (fun i wr => ∃ q : Nat, q ≤ 64 ∧ i = .int .i64 (q : Int) ∧ Hid (BytesAt wr gi (xs 54 key.data.toList q) ∧ BytesAt wr go_ (xs 92 key.data.toList q) ∧ Below w.heap.size w wr)) (fun i _ => 64 - (intOf i).toNat)
      case atStart => exact ⟨0, by omega, rfl, I0.out.1, I0.out.2, I1.out.drew⟩
      case round =>
        obtain ⟨q, hq, rfl, I⟩ := hrel
        clear I0 I1
        by_cases hq64 : q = 64
        · subst hq64
          have CVI : Hid (∀ w', Below wr.heap.size wr w' → (convert 30 9 (.slice (some ⟨gi, 0, none⟩) 64 64)).run Tryd.prog w' = .ok (.string ⟨(xs 54 key.data.toList 64).toArray⟩) w') := fun w' h => (I.out.1.later h).string (xs_len _ _ _)
          have CVO : Hid (∀ w', Below wr.heap.size wr w' → (convert 30 9 (.slice (some ⟨go_, 0, none⟩) 64 64)).run Tryd.prog w' = .ok (.string ⟨(xs 92 key.data.toList 64).toArray⟩) w') := fun w' h => (I.out.2.1.later h).string (xs_len _ _ _)
          obtain ⟨XI, hXI⟩ : ∃ X : ByteArray, ⟨(xs 54 key.data.toList 64).toArray⟩ = X := ⟨_, rfl⟩
          obtain ⟨XO, hXO⟩ : ∃ X : ByteArray, ⟨(xs 92 key.data.toList 64).toArray⟩ = X := ⟨_, rfl⟩
          have zI : Hid (XI.size = 64 ∧ XI.data.toList = xs 54 key.data.toList 64) := ⟨by rw [← hXI]; show (xs 54 key.data.toList 64).toArray.size = 64; rw [List.size_toArray, xs_len], by rw [← hXI]⟩
          have zO : Hid (XO.size = 64 ∧ XO.data.toList = xs 92 key.data.toList 64) := ⟨by rw [← hXO]; show (xs 92 key.data.toList 64).toArray.size = 64; rw [List.size_toArray, xs_len], by rw [← hXO]⟩
          rw [hXI] at CVI
          rw [hXO] at CVO
          have DG1 : Hid (∀ w, Calls Tryd.prog 43 #[.string (XI ++ text)] w fun e w' => e = .returned (.string ⟨(sha (XI ++ text).data.toList).toArray⟩) ∧ Below w.heap.size w w') := fun w => DG.out _ w (by rw [ByteArray.size_append]; have := zI.out.1; have := ht.out; omega)
          obtain ⟨D, hD⟩ : ∃ X : ByteArray, ⟨(sha (XI ++ text).data.toList).toArray⟩ = X := ⟨_, rfl⟩
          have zD : Hid (D.size = 32 ∧ D.data.toList = sha (xs 54 key.data.toList 64 ++ text.data.toList)) := by
            refine ⟨by rw [← hD]; rfl, ?_⟩
            rw [← hD, ← zI.out.2]
            show (sha (XI ++ text).data.toList) = _
            rw [ByteArray.data_append, Array.toList_append]
          rw [hD] at DG1
          have DG2 : Hid (∀ w, Calls Tryd.prog 43 #[.string (XO ++ D)] w fun e w' => e = .returned (.string ⟨(hmac key.data.toList text.data.toList).toArray⟩) ∧ Below w.heap.size w w') := fun w => by
            have h := DG.out (XO ++ D) w (by rw [ByteArray.size_append]; have := zO.out.1; have := zD.out.1; omega)
            rw [FIN.out, ← zD.out.2, ← zO.out.2]
            rw [ByteArray.data_append, Array.toList_append] at h
            exact h
          have f1 : XI.size + text.size ≤ 9223372036854775807 := by have := zI.out.1; have := ht.out; omega
          have f2 : XO.size + D.size ≤ 9223372036854775807 := by have := zO.out.1; have := zD.out.1; omega
          have f3 : ∀ w, (Op.stringOp .add XI text).run Tryd.prog w = .ok (.string (XI ++ text)) w := fun w => run_string_add_sum _ _ _ f1
          have f4 : ∀ w, (Op.stringOp .add XO D).run Tryd.prog w = .ok (.string (XO ++ D)) w := fun w => run_string_add_sum _ _ _ f2
          clear hXI hXO hD DG
          go_wp2
          go_region_held3 (fun w' => Below wr.heap.size wr w' ∧ (convert 30 9 (.slice (some ⟨gi, 0, none⟩) 64 64)).run Tryd.prog w' = .ok (.string XI) w' ∧ (convert 30 9 (.slice (some ⟨go_, 0, none⟩) 64 64)).run Tryd.prog w' = .ok (.string XO) w') (first | exact ⟨(Below.refl _ _).drew, CVI.out _ (Below.refl _ _).drew, CVO.out _ (Below.refl _ _).drew⟩ | exact ⟨chain (And.left (by assumption)) hb1, CVI.out _ (chain (And.left (by assumption)) hb1), CVO.out _ (chain (And.left (by assumption)) hb1)⟩ | exact ⟨chain (And.left (by assumption)) hb2, CVI.out _ (chain (And.left (by assumption)) hb2), CVO.out _ (chain (And.left (by assumption)) hb2)⟩ | assumption) (first | (go_at_call 43; revert DG1; intro DG1; refine Calls.mono (DG1.out _) ?_; rintro e w3 ⟨rfl, hb1⟩; clear DG1) | (go_at_call 43; refine Calls.mono (DG2.out _) ?_; rintro e w4 ⟨rfl, hb2⟩))
          all_goals
            rename_i hH
            have BF : Hid (Below w.heap.size w w4) := chain I.out.2.2 hH.1
            clear hH
            go_wp2
            go_ret
            exact ⟨rfl, BF.out⟩
        · have q64 : (q : Int) < 64 := by omega
          obtain ⟨ci, fi⟩ := I.out.1 q (by rw [xs_len]; omega)
          obtain ⟨co, fo⟩ := I.out.2.1 q (by rw [xs_len]; omega)
          generalize ((xs 54 key.data.toList q)[q]'(by rw [xs_len]; omega)).toNat = y1 at ci
          generalize ((xs 92 key.data.toList q)[q]'(by rw [xs_len]; omega)).toNat = y2 at co
          by_cases hqk : q < key.size
          · have q2 : (q : Int) < (key.size : Int) := by omega
            have HC : Hid (key.data.toList.getD q 0 = key[q]) := by
              show _ = _
              rw [List.getD_eq_getElem?_getD, List.getElem?_eq_getElem (by simpa using hqk)]; rfl
            obtain ⟨c, hc⟩ : ∃ c, key[q] = c := ⟨_, rfl⟩
            rw [hc] at HC
            have NX : Hid (BytesAt ((wr.setCell ⟨gi, q, none⟩ (.int .u8 (bits BinOp.xor IntKind.u8 (c.toNat : Int) 54))).setCell ⟨go_, q, none⟩ (.int .u8 (bits BinOp.xor IntKind.u8 (c.toNat : Int) 92))) gi (xs 54 key.data.toList (q + 1)) ∧ BytesAt ((wr.setCell ⟨gi, q, none⟩ (.int .u8 (bits BinOp.xor IntKind.u8 (c.toNat : Int) 54))).setCell ⟨go_, q, none⟩ (.int .u8 (bits BinOp.xor IntKind.u8 (c.toNat : Int) 92))) go_ (xs 92 key.data.toList (q + 1)) ∧ Below w.heap.size w ((wr.setCell ⟨gi, q, none⟩ (.int .u8 (bits BinOp.xor IntKind.u8 (c.toNat : Int) 54))).setCell ⟨go_, q, none⟩ (.int .u8 (bits BinOp.xor IntKind.u8 (c.toNat : Int) 92)))) := by
              rw [← xs_step, ← xs_step, HC.out]
              exact ⟨(I.out.1.set q _ _ (xor8 c 54)).other (a := ⟨go_, q, none⟩) d2 _, (I.out.2.1.other (a := ⟨gi, q, none⟩) d1 _).set q _ _ (xor8 c 92), (I.out.2.2.setCell (p := ⟨gi, q, none⟩) HG.out.1 _).setCell (p := ⟨go_, q, none⟩) HG.out.2 _⟩
            clear HC
            go_wp2
            exact ⟨⟨q + 1, by omega, by go_num, NX.out⟩, by simp [intOf]; omega⟩
          · have q2 : ¬ (q : Int) < (key.size : Int) := by omega
            have HC : Hid (key.data.toList.getD q 0 = 0) := by
              show _ = _
              rw [List.getD_eq_getElem?_getD, List.getElem?_eq_none (by simpa using hqk)]; rfl
            have NX : Hid (BytesAt ((wr.setCell ⟨gi, q, none⟩ (.int .u8 (bits BinOp.xor IntKind.u8 0 54))).setCell ⟨go_, q, none⟩ (.int .u8 (bits BinOp.xor IntKind.u8 0 92))) gi (xs 54 key.data.toList (q + 1)) ∧ BytesAt ((wr.setCell ⟨gi, q, none⟩ (.int .u8 (bits BinOp.xor IntKind.u8 0 54))).setCell ⟨go_, q, none⟩ (.int .u8 (bits BinOp.xor IntKind.u8 0 92))) go_ (xs 92 key.data.toList (q + 1)) ∧ Below w.heap.size w ((wr.setCell ⟨gi, q, none⟩ (.int .u8 (bits BinOp.xor IntKind.u8 0 54))).setCell ⟨go_, q, none⟩ (.int .u8 (bits BinOp.xor IntKind.u8 0 92)))) := by
              rw [← xs_step, ← xs_step, HC.out]
              exact ⟨(I.out.1.set q _ _ (xor8 (0 : UInt8) 54)).other (a := ⟨go_, q, none⟩) d2 _, (I.out.2.1.other (a := ⟨gi, q, none⟩) d1 _).set q _ _ (xor8 (0 : UInt8) 92), (I.out.2.2.setCell (p := ⟨gi, q, none⟩) HG.out.1 _).setCell (p := ⟨go_, q, none⟩) HG.out.2 _⟩
            clear HC
            go_wp2
            exact ⟨⟨q + 1, by omega, by go_num, NX.out⟩, by simp [intOf]; omega⟩
    · obtain ⟨WA, hWA⟩ : ∃ x, (w.alloc (.cells (Array.replicate 64 (.int .u8 0)) 5)).alloc (.cells (Array.replicate 64 (.int .u8 0)) 5) = x := ⟨_, rfl⟩
      have I0 : Hid (BytesAt WA (w.heap.size + 1) (xs 54 key.data.toList 0) ∧ BytesAt WA (w.heap.size) (xs 92 key.data.toList 0)) := by
        rw [xs_zero, xs_zero, ← hWA]
        have e1 : (w.alloc (.cells (Array.replicate 64 (.int .u8 0)) 5)).heap.size = w.heap.size + 1 := by simp
        have zi := zeros64 (w.alloc (.cells (Array.replicate 64 (.int .u8 0)) 5))
        have zo := (zeros64 w).later ((Below.refl _ _).alloc (Nat.le_refl _) (.cells (Array.replicate 64 (.int .u8 0)) 5))
        rw [e1] at zi
        exact ⟨zi, zo⟩
      have I1 : Hid (Below w.heap.size w WA) := by
        rw [← hWA]
        exact (B0.out.alloc B0.out.size _).alloc (by have := B0.out.size; simp; try omega) _
      obtain ⟨gi, hgi⟩ : ∃ g, w.heap.size + 1 = g := ⟨_, rfl⟩
      rw [hgi] at I0
      rw [hgi]
      obtain ⟨go_, hgo⟩ : ∃ g, w.heap.size = g := ⟨_, rfl⟩
      rw [hgo] at I0
      rw [hgo]
      rw [hWA]
      have d1 : gi ≠ go_ := by omega
      have d2 : go_ ≠ gi := by omega
      have HG : Hid (w.heap.size ≤ gi ∧ w.heap.size ≤ go_) := by have := B0.out.size; show _ ∧ _; omega
      clear hWA hgi hgo hmk
      go_wp2
      go_loopw [7] (fun i wr => ∃ q : Nat, q ≤ 64 ∧ i = .int .i64 (q : Int) ∧ Hid (BytesAt wr gi (xs 54 key.data.toList q) ∧ BytesAt wr go_ (xs 92 key.data.toList q) ∧ Below w.heap.size w wr)) (fun i _ => 64 - (intOf i).toNat)
      case atStart => exact ⟨0, by omega, rfl, I0.out.1, I0.out.2, I1.out.drew⟩
      case round =>
        obtain ⟨q, hq, rfl, I⟩ := hrel
        clear I0 I1
        by_cases hq64 : q = 64
        · subst hq64
          have CVI : Hid (∀ w', Below wr.heap.size wr w' → (convert 30 9 (.slice (some ⟨gi, 0, none⟩) 64 64)).run Tryd.prog w' = .ok (.string ⟨(xs 54 key.data.toList 64).toArray⟩) w') := fun w' h => (I.out.1.later h).string (xs_len _ _ _)
          have CVO : Hid (∀ w', Below wr.heap.size wr w' → (convert 30 9 (.slice (some ⟨go_, 0, none⟩) 64 64)).run Tryd.prog w' = .ok (.string ⟨(xs 92 key.data.toList 64).toArray⟩) w') := fun w' h => (I.out.2.1.later h).string (xs_len _ _ _)
          obtain ⟨XI, hXI⟩ : ∃ X : ByteArray, ⟨(xs 54 key.data.toList 64).toArray⟩ = X := ⟨_, rfl⟩
          obtain ⟨XO, hXO⟩ : ∃ X : ByteArray, ⟨(xs 92 key.data.toList 64).toArray⟩ = X := ⟨_, rfl⟩
          have zI : Hid (XI.size = 64 ∧ XI.data.toList = xs 54 key.data.toList 64) := ⟨by rw [← hXI]; show (xs 54 key.data.toList 64).toArray.size = 64; rw [List.size_toArray, xs_len], by rw [← hXI]⟩
          have zO : Hid (XO.size = 64 ∧ XO.data.toList = xs 92 key.data.toList 64) := ⟨by rw [← hXO]; show (xs 92 key.data.toList 64).toArray.size = 64; rw [List.size_toArray, xs_len], by rw [← hXO]⟩
          rw [hXI] at CVI
          rw [hXO] at CVO
          have DG1 : Hid (∀ w, Calls Tryd.prog 43 #[.string (XI ++ text)] w fun e w' => e = .returned (.string ⟨(sha (XI ++ text).data.toList).toArray⟩) ∧ Below w.heap.size w w') := fun w => DG.out _ w (by rw [ByteArray.size_append]; have := zI.out.1; have := ht.out; omega)
          obtain ⟨D, hD⟩ : ∃ X : ByteArray, ⟨(sha (XI ++ text).data.toList).toArray⟩ = X := ⟨_, rfl⟩
          have zD : Hid (D.size = 32 ∧ D.data.toList = sha (xs 54 key.data.toList 64 ++ text.data.toList)) := by
            refine ⟨by rw [← hD]; rfl, ?_⟩
            rw [← hD, ← zI.out.2]
            show (sha (XI ++ text).data.toList) = _
            rw [ByteArray.data_append, Array.toList_append]
          rw [hD] at DG1
          have DG2 : Hid (∀ w, Calls Tryd.prog 43 #[.string (XO ++ D)] w fun e w' => e = .returned (.string ⟨(hmac key.data.toList text.data.toList).toArray⟩) ∧ Below w.heap.size w w') := fun w => by
            have h := DG.out (XO ++ D) w (by rw [ByteArray.size_append]; have := zO.out.1; have := zD.out.1; omega)
            rw [FIN.out, ← zD.out.2, ← zO.out.2]
            rw [ByteArray.data_append, Array.toList_append] at h
            exact h
          have f1 : XI.size + text.size ≤ 9223372036854775807 := by have := zI.out.1; have := ht.out; omega
          have f2 : XO.size + D.size ≤ 9223372036854775807 := by have := zO.out.1; have := zD.out.1; omega
          have f3 : ∀ w, (Op.stringOp .add XI text).run Tryd.prog w = .ok (.string (XI ++ text)) w := fun w => run_string_add_sum _ _ _ f1
          have f4 : ∀ w, (Op.stringOp .add XO D).run Tryd.prog w = .ok (.string (XO ++ D)) w := fun w => run_string_add_sum _ _ _ f2
          clear hXI hXO hD DG
          go_wp2
          go_region_held3 (fun w' => Below wr.heap.size wr w' ∧ (convert 30 9 (.slice (some ⟨gi, 0, none⟩) 64 64)).run Tryd.prog w' = .ok (.string XI) w' ∧ (convert 30 9 (.slice (some ⟨go_, 0, none⟩) 64 64)).run Tryd.prog w' = .ok (.string XO) w') (first | exact ⟨(Below.refl _ _).drew, CVI.out _ (Below.refl _ _).drew, CVO.out _ (Below.refl _ _).drew⟩ | exact ⟨chain (And.left (by assumption)) hb1, CVI.out _ (chain (And.left (by assumption)) hb1), CVO.out _ (chain (And.left (by assumption)) hb1)⟩ | exact ⟨chain (And.left (by assumption)) hb2, CVI.out _ (chain (And.left (by assumption)) hb2), CVO.out _ (chain (And.left (by assumption)) hb2)⟩ | assumption) (first | (go_at_call 43; revert DG1; intro DG1; refine Calls.mono (DG1.out _) ?_; rintro e w3 ⟨rfl, hb1⟩; clear DG1) | (go_at_call 43; refine Calls.mono (DG2.out _) ?_; rintro e w4 ⟨rfl, hb2⟩))
          all_goals
            rename_i hH
            have BF : Hid (Below w.heap.size w w4) := chain I.out.2.2 hH.1
            clear hH
            go_wp2
            go_ret
            exact ⟨rfl, BF.out⟩
        · have q64 : (q : Int) < 64 := by omega
          obtain ⟨ci, fi⟩ := I.out.1 q (by rw [xs_len]; omega)
          obtain ⟨co, fo⟩ := I.out.2.1 q (by rw [xs_len]; omega)
          generalize ((xs 54 key.data.toList q)[q]'(by rw [xs_len]; omega)).toNat = y1 at ci
          generalize ((xs 92 key.data.toList q)[q]'(by rw [xs_len]; omega)).toNat = y2 at co
          by_cases hqk : q < key.size
          · have q2 : (q : Int) < (key.size : Int) := by omega
            have HC : Hid (key.data.toList.getD q 0 = key[q]) := by
              show _ = _
              rw [List.getD_eq_getElem?_getD, List.getElem?_eq_getElem (by simpa using hqk)]; rfl
            obtain ⟨c, hc⟩ : ∃ c, key[q] = c := ⟨_, rfl⟩
            rw [hc] at HC
            have NX : Hid (BytesAt ((wr.setCell ⟨gi, q, none⟩ (.int .u8 (bits BinOp.xor IntKind.u8 (c.toNat : Int) 54))).setCell ⟨go_, q, none⟩ (.int .u8 (bits BinOp.xor IntKind.u8 (c.toNat : Int) 92))) gi (xs 54 key.data.toList (q + 1)) ∧ BytesAt ((wr.setCell ⟨gi, q, none⟩ (.int .u8 (bits BinOp.xor IntKind.u8 (c.toNat : Int) 54))).setCell ⟨go_, q, none⟩ (.int .u8 (bits BinOp.xor IntKind.u8 (c.toNat : Int) 92))) go_ (xs 92 key.data.toList (q + 1)) ∧ Below w.heap.size w ((wr.setCell ⟨gi, q, none⟩ (.int .u8 (bits BinOp.xor IntKind.u8 (c.toNat : Int) 54))).setCell ⟨go_, q, none⟩ (.int .u8 (bits BinOp.xor IntKind.u8 (c.toNat : Int) 92)))) := by
              rw [← xs_step, ← xs_step, HC.out]
              exact ⟨(I.out.1.set q _ _ (xor8 c 54)).other (a := ⟨go_, q, none⟩) d2 _, (I.out.2.1.other (a := ⟨gi, q, none⟩) d1 _).set q _ _ (xor8 c 92), (I.out.2.2.setCell (p := ⟨gi, q, none⟩) HG.out.1 _).setCell (p := ⟨go_, q, none⟩) HG.out.2 _⟩
            clear HC
            go_wp2
            exact ⟨⟨q + 1, by omega, by go_num, NX.out⟩, by simp [intOf]; omega⟩
          · have q2 : ¬ (q : Int) < (key.size : Int) := by omega
            have HC : Hid (key.data.toList.getD q 0 = 0) := by
              show _ = _
              rw [List.getD_eq_getElem?_getD, List.getElem?_eq_none (by simpa using hqk)]; rfl
            have NX : Hid (BytesAt ((wr.setCell ⟨gi, q, none⟩ (.int .u8 (bits BinOp.xor IntKind.u8 0 54))).setCell ⟨go_, q, none⟩ (.int .u8 (bits BinOp.xor IntKind.u8 0 92))) gi (xs 54 key.data.toList (q + 1)) ∧ BytesAt ((wr.setCell ⟨gi, q, none⟩ (.int .u8 (bits BinOp.xor IntKind.u8 0 54))).setCell ⟨go_, q, none⟩ (.int .u8 (bits BinOp.xor IntKind.u8 0 92))) go_ (xs 92 key.data.toList (q + 1)) ∧ Below w.heap.size w ((wr.setCell ⟨gi, q, none⟩ (.int .u8 (bits BinOp.xor IntKind.u8 0 54))).setCell ⟨go_, q, none⟩ (.int .u8 (bits BinOp.xor IntKind.u8 0 92)))) := by
              rw [← xs_step, ← xs_step, HC.out]
              exact ⟨(I.out.1.set q _ _ (xor8 (0 : UInt8) 54)).other (a := ⟨go_, q, none⟩) d2 _, (I.out.2.1.other (a := ⟨gi, q, none⟩) d1 _).set q _ _ (xor8 (0 : UInt8) 92), (I.out.2.2.setCell (p := ⟨gi, q, none⟩) HG.out.1 _).setCell (p := ⟨go_, q, none⟩) HG.out.2 _⟩
            clear HC
            go_wp2
            exact ⟨⟨q + 1, by omega, by go_num, NX.out⟩, by simp [intOf]; omega⟩
end Go.Proofs.YtbkefhfbbhdpcaaDoor

/- What the document expands. -/
namespace Go.Proofs.YtbkefhfbbhdpcaaDoor
open Go.RowKit Go.Proofs.Fd Go.Proofs.Hs
set_option maxRecDepth 20000

theorem rExpand_no (key info : ByteArray) (n : Int) (h : n < 0 ∨ 8160 < n) (w : World) :
    Calls Tryd.prog 57 #[.string key, .string info, .int .i64 n] w fun e w' => e = .returned (.tuple #[.string ⟨#[]⟩, .int .i64 1]) ∧ Below w.heap.size w w' := by
  by_cases h1 : n < 0
  · go_enter Tryd.func57, Tryd.ntmps57
    go_wp2
    go_ret2
    exact ⟨rfl, Below.refl _ _⟩
  · have h2 : 8160 < n := by omega
    clear h
    go_enter Tryd.func57, Tryd.ntmps57
    go_wp2
    go_ret2
    exact ⟨rfl, Below.refl _ _⟩

theorem ba_size (l : List UInt8) : (⟨l.toArray⟩ : ByteArray).size = l.length := by
  show l.toArray.size = _; simp

set_option maxHeartbeats 2000000 in
theorem rExpand_ok (key info : ByteArray) (n : Nat) (hn : n ≤ 8160) (hk : Hid (key.size ≤ 140737488355328)) (hi : Hid (info.size + 97 ≤ 140737488355328)) (w : World) :
    Calls Tryd.prog 57 #[.string key, .string info, .int .i64 (n : Int)] w fun e w' => e = .returned (.tuple #[.string ⟨(xpn key.data.toList info.data.toList n).toArray⟩, .int .i64 0]) ∧ Below w.heap.size w w' := by
  have TG : Hid (∀ (t : ByteArray) (w : World), t.size + 64 ≤ 140737488355328 → Calls Tryd.prog 34 #[.string key, .string t] w fun e w' => e = .returned (.string ⟨(hmac key.data.toList t.data.toList).toArray⟩) ∧ Below w.heap.size w w') := fun t w h => rTag_any key t hk h w
  have g1 : ¬ (n : Int) < 0 := by omega
  have g2 : ¬ (8160 : Int) < (n : Int) := by omega
  have g3 : (n : Int) ≤ 8160 := by omega
  go_enter Tryd.func57, Tryd.ntmps57
  go_wp2
  go_loopw [8, 9, 10] (fun o l i wr => ∃ j : Nat, 32 * j < n + 32 ∧ o = .string ⟨(tgs key.data.toList info.data.toList j).toArray⟩ ∧ l = .string ⟨(tg key.data.toList info.data.toList j).toArray⟩ ∧ i = .int .i64 ((j + 1 : Nat) : Int) ∧ Hid (Below w.heap.size w wr)) (fun _ _ i _ => 8192 - (intOf i).toNat)
  case atStart => exact ⟨0, by omega, rfl, rfl, rfl, Below.refl _ _⟩
  case round =>
    obtain ⟨j, hj, rfl, rfl, rfl, I⟩ := hrel
    have zO : Hid ((⟨(tgs key.data.toList info.data.toList j).toArray⟩ : ByteArray).size = 32 * j) := by show _ = _; rw [ba_size, tgs_len]
    by_cases hlt : 32 * j < n
    · obtain ⟨p, hp⟩ : ∃ p, j + 1 = p := ⟨_, rfl⟩
      have hp255 : p ≤ 255 := by omega
      obtain ⟨b, hb⟩ : ∃ b, UInt8.ofNat p = b := ⟨_, rfl⟩
      have eb : IntKind.u8.wrap (p : Int) = (b.toNat : Int) := by rw [IntKind.wrap_u8, ← hb, UInt8.toNat_ofNat']; omega
      have eb2 : (p : Int) % 256 = (b.toNat : Int) := by rw [← hb, UInt8.toNat_ofNat']; omega
      have CB : (convert 30 9 (.slice (some ⟨wr.heap.size, 0, none⟩) 1 1)).run Tryd.prog (wr.alloc (.cells #[.int .u8 (b.toNat : Int)] 5)) = .ok (.string ⟨[b].toArray⟩) (wr.alloc (.cells #[.int .u8 (b.toNat : Int)] 5)) := by
        have h : BytesAt (wr.alloc (.cells #[.int .u8 (b.toNat : Int)] 5)) wr.heap.size [b] := fun i hi => by
          obtain rfl : i = 0 := by simp at hi; omega
          exact ⟨by rw [World.cell?_alloc_new]; rfl, by simp [go_sem]⟩
        exact h.string rfl
      have zL : Hid ((⟨(tg key.data.toList info.data.toList j).toArray⟩ : ByteArray).size ≤ 32) := by
        show _ ≤ _
        rw [ba_size]
        cases j with
        | zero => exact Nat.zero_le _
        | succ j => rw [tg_len]; exact Nat.le_refl _
      have T1 : Hid (∀ w, Calls Tryd.prog 34 #[.string key, .string ((⟨(tg key.data.toList info.data.toList j).toArray⟩ : ByteArray) ++ info ++ ⟨[b].toArray⟩)] w fun e w' => e = .returned (.string ⟨(tg key.data.toList info.data.toList (j + 1)).toArray⟩) ∧ Below w.heap.size w w') := fun w => by
        have h := TG.out ((⟨(tg key.data.toList info.data.toList j).toArray⟩ : ByteArray) ++ info ++ ⟨[b].toArray⟩) w (by
          rw [ByteArray.size_append, ByteArray.size_append]
          have h1 := hi.out
          have h2 := zL.out
          have h3 : (⟨[b].toArray⟩ : ByteArray).size = 1 := rfl
          omega)
        have e : ((⟨(tg key.data.toList info.data.toList j).toArray⟩ : ByteArray) ++ info ++ ⟨[b].toArray⟩).data.toList = tg key.data.toList info.data.toList j ++ info.data.toList ++ [UInt8.ofNat (j + 1)] := by
          rw [ByteArray.data_append, ByteArray.data_append, Array.toList_append, Array.toList_append, hp, hb]
        rw [e] at h
        exact h
      have NX : Hid ((⟨(tgs key.data.toList info.data.toList (j + 1)).toArray⟩ : ByteArray) = ⟨(tgs key.data.toList info.data.toList j).toArray⟩ ++ ⟨(tg key.data.toList info.data.toList (j + 1)).toArray⟩) := by
        show _ = _
        apply ByteArray.ext
        rw [ByteArray.data_append, tgs_succ]
        simp
      have NL : Hid ((⟨(tg key.data.toList info.data.toList (j + 1)).toArray⟩ : ByteArray).size = 32) := by show _ = _; rw [ba_size, tg_len]
      obtain ⟨O, hO⟩ : ∃ X : ByteArray, ⟨(tgs key.data.toList info.data.toList j).toArray⟩ = X := ⟨_, rfl⟩
      obtain ⟨L, hL⟩ : ∃ X : ByteArray, ⟨(tg key.data.toList info.data.toList j).toArray⟩ = X := ⟨_, rfl⟩
      obtain ⟨N, hN⟩ : ∃ X : ByteArray, ⟨(tg key.data.toList info.data.toList (j + 1)).toArray⟩ = X := ⟨_, rfl⟩
      obtain ⟨Bb, hB⟩ : ∃ X : ByteArray, ⟨[b].toArray⟩ = X := ⟨_, rfl⟩
      have zB : Hid (Bb.size = 1) := by show _ = _; rw [← hB]; rfl
      have HN : Hid ((⟨(tg key.data.toList info.data.toList (j + 1)).toArray⟩ : ByteArray) = N) := hN
      rw [hO] at zO NX
      rw [hL] at zL T1
      rw [hN] at NX NL T1
      rw [hB] at CB T1
      rw [hO, hL, hp]
      have gO : (O.size : Int) < (n : Int) := by have := zO.out; omega
      have f1 : ∀ w, (Op.stringOp .add L info).run Tryd.prog w = .ok (.string (L ++ info)) w := fun w => run_string_add_sum _ _ _ (by have := zL.out; have := hi.out; omega)
      have f2 : ∀ w, (Op.stringOp .add (L ++ info) Bb).run Tryd.prog w = .ok (.string (L ++ info ++ Bb)) w := fun w => run_string_add_sum _ _ _ (by rw [ByteArray.size_append]; have := zL.out; have := hi.out; have := zB.out; omega)
      have f3 : ∀ w, (Op.stringOp .add O N).run Tryd.prog w = .ok (.string (O ++ N)) w := fun w => run_string_add_sum _ _ _ (by have := zO.out; have := NL.out; omega)
      have HP : Hid (j + 1 = p) := hp
      clear hO hL hN hB hb hp TG
      go_wp2_with fail
      refine Calls.mono (T1.out _) ?_
      rintro e w2 ⟨rfl, hb2⟩
      have B2 : Hid (Below w.heap.size w w2) := chain (I.out.alloc I.out.size _) hb2
      clear hb2 CB T1
      go_wp2
      exact ⟨⟨j + 1, by omega, by rw [NX.out], by rw [HN.out], by have := HP.out; congr 1; omega, B2.out⟩, by simp [intOf]; omega⟩
    · have gO : (n : Int) ≤ ((⟨(tgs key.data.toList info.data.toList j).toArray⟩ : ByteArray).size : Int) := by have := zO.out; omega
      have EX : Hid ((⟨(xpn key.data.toList info.data.toList n).toArray⟩ : ByteArray) = (⟨(tgs key.data.toList info.data.toList j).toArray⟩ : ByteArray).extract 0 n) := by
        show _ = _
        apply ByteArray.ext
        rw [← xpn_of key.data.toList info.data.toList n j (by omega), ByteArray.data_extract]
        simp
      generalize (⟨(tgs key.data.toList info.data.toList j).toArray⟩ : ByteArray) = O at *
      generalize (⟨(tg key.data.toList info.data.toList j).toArray⟩ : ByteArray) = L at *
      have gN : ¬ (O.size : Int) < (n : Int) := by omega
      have g0 : (0 : Int) ≤ (n : Int) := by omega
      clear TG
      go_wp2
      go_ret2
      exact ⟨by rw [EX.out]; rfl, I.out⟩
end Go.Proofs.YtbkefhfbbhdpcaaDoor

/- What the document derives. -/
namespace Go.Proofs.YtbkefhfbbhdpcaaDoor
open Go.RowKit Go.Proofs.Fd Go.Proofs.Hs
set_option maxRecDepth 20000

set_option maxHeartbeats 1000000 in
theorem rDerive_ok (secret label : ByteArray) (n : Nat) (hn : n ≤ 8160) (hk : Hid (secret.size + 64 ≤ 140737488355328)) (hi : Hid (label.size + 97 ≤ 140737488355328)) (w : World) :
    Calls Tryd.prog 41 #[.string secret, .string label, .int .i64 (n : Int)] w fun e w' => e = .returned (.tuple #[.string ⟨(drv secret.data.toList label.data.toList n).toArray⟩, .int .i64 0]) ∧ Below w.heap.size w w' := by
  have T1 : Hid (∀ w, Calls Tryd.prog 34 #[.string ⟨#[100, 111, 118, 101, 99, 111, 116, 101]⟩, .string secret] w fun e w' => e = .returned (.string ⟨(hmac [100, 111, 118, 101, 99, 111, 116, 101] secret.data.toList).toArray⟩) ∧ Below w.heap.size w w') := fun w => rTag_any ⟨#[100, 111, 118, 101, 99, 111, 116, 101]⟩ secret (by show (8 : Nat) ≤ _; decide) hk w
  have E1 : Hid (∀ w, Calls Tryd.prog 57 #[.string ⟨(hmac [100, 111, 118, 101, 99, 111, 116, 101] secret.data.toList).toArray⟩, .string label, .int .i64 (n : Int)] w fun e w' => e = .returned (.tuple #[.string ⟨(drv secret.data.toList label.data.toList n).toArray⟩, .int .i64 0]) ∧ Below w.heap.size w w') := fun w => rExpand_ok ⟨(hmac [100, 111, 118, 101, 99, 111, 116, 101] secret.data.toList).toArray⟩ label n hn (by show _ ≤ _; rw [ba_size, hmac_len]; decide) hi w
  generalize (⟨(drv secret.data.toList label.data.toList n).toArray⟩ : ByteArray) = R at *
  generalize (⟨(hmac [100, 111, 118, 101, 99, 111, 116, 101] secret.data.toList).toArray⟩ : ByteArray) = K at *
  go_enter Tryd.func41, Tryd.ntmps41
  go_wp2_with fail
  refine Calls.mono (T1.out _) ?_
  rintro e w1 ⟨rfl, hb⟩
  have B1 : Hid (Below w.heap.size w w1) := hb
  clear hb T1
  go_wp2_with fail
  refine Calls.mono (E1.out _) ?_
  rintro e w2 ⟨rfl, hb⟩
  have B2 : Hid (Below w.heap.size w w2) := chain B1.out hb
  clear hb E1
  go_wp2
  go_ret2
  exact ⟨rfl, B2.out⟩

set_option maxHeartbeats 1000000 in
theorem rDerive_no (secret label : ByteArray) (n : Int) (hn : n < 0 ∨ 8160 < n) (hk : Hid (secret.size + 64 ≤ 140737488355328)) (w : World) :
    Calls Tryd.prog 41 #[.string secret, .string label, .int .i64 n] w fun e w' => e = .returned (.tuple #[.string ⟨#[]⟩, .int .i64 1]) ∧ Below w.heap.size w w' := by
  have T1 : Hid (∀ w, Calls Tryd.prog 34 #[.string ⟨#[100, 111, 118, 101, 99, 111, 116, 101]⟩, .string secret] w fun e w' => e = .returned (.string ⟨(hmac [100, 111, 118, 101, 99, 111, 116, 101] secret.data.toList).toArray⟩) ∧ Below w.heap.size w w') := fun w => rTag_any ⟨#[100, 111, 118, 101, 99, 111, 116, 101]⟩ secret (by show (8 : Nat) ≤ _; decide) hk w
  generalize (⟨(hmac [100, 111, 118, 101, 99, 111, 116, 101] secret.data.toList).toArray⟩ : ByteArray) = K at *
  have E1 : Hid (∀ w, Calls Tryd.prog 57 #[.string K, .string label, .int .i64 n] w fun e w' => e = .returned (.tuple #[.string ⟨#[]⟩, .int .i64 1]) ∧ Below w.heap.size w w') := fun w => rExpand_no K label n hn w
  clear hn
  go_enter Tryd.func41, Tryd.ntmps41
  go_wp2_with fail
  refine Calls.mono (T1.out _) ?_
  rintro e w1 ⟨rfl, hb⟩
  have B1 : Hid (Below w.heap.size w w1) := hb
  clear hb T1
  go_wp2_with fail
  refine Calls.mono (E1.out _) ?_
  rintro e w2 ⟨rfl, hb⟩
  have B2 : Hid (Below w.heap.size w w2) := chain B1.out hb
  clear hb E1
  go_wp2
  go_ret2
  exact ⟨rfl, B2.out⟩
end Go.Proofs.YtbkefhfbbhdpcaaDoor

/- What the program's keyed layer answers, as contracts; the example; laws that hold by them. -/
namespace Go.Proofs.YtbkefhfbbhdpcaaDoor
open Go.RowKit Go.Proofs.Fd Go.Proofs.Hs
set_option maxRecDepth 20000

/-- Contracts of the layer. -/
def TagC : Prop := ∀ (key : ByteArray) (a : Option Addr) (ks : List ByteArray) (n cap : Nat) (w : World), Hid (ks.length = n) → Hid (n * 16 + 1024 ≤ 140737488355328) → Hid (key.size ≤ 140737488355328) → Hid (∀ s ∈ ks, s.size ≤ 140737488355328) → Hid (Kh w) → Hid (StrAt w a ks) →
    Calls Tryd.prog 40 #[.string key, .slice a n cap] w fun e w' => e = .returned (.string ⟨(hmac key.data.toList (jnd ks)).toArray⟩) ∧ Below w.heap.size w w'
def ExtractC : Prop := ∀ (a b : ByteArray) (w : World), Hid (a.size ≤ 140737488355328) → Hid (b.size ≤ 140737488355328) → Hid (Kh w) →
    Calls Tryd.prog 45 #[.string a, .string b] w fun e w' => e = .returned (.string ⟨(hmac a.data.toList b.data.toList).toArray⟩) ∧ Below w.heap.size w w'
/-- What an expansion answers. -/
def xpV (k i : ByteArray) (n : Int) : Array Value := if n < 0 ∨ 8160 < n then #[.string ⟨#[]⟩, .int .i64 1] else #[.string ⟨(xpn k.data.toList i.data.toList n.toNat).toArray⟩, .int .i64 0]
def drV (k i : ByteArray) (n : Int) : Array Value := if n < 0 ∨ 8160 < n then #[.string ⟨#[]⟩, .int .i64 1] else #[.string ⟨(drv k.data.toList i.data.toList n.toNat).toArray⟩, .int .i64 0]
def ExpandC : Prop := ∀ (k i : ByteArray) (n : Int) (w : World), Hid (k.size ≤ 140737488355328) → Hid (i.size + 97 ≤ 140737488355328) → Hid (Kh w) →
    Calls Tryd.prog 44 #[.string k, .string i, .int .i64 n] w fun e w' => e = .returned (.tuple (xpV k i n)) ∧ Below w.heap.size w w'
def DeriveC : Prop := ∀ (k i : ByteArray) (n : Int) (w : World), Hid (k.size + 64 ≤ 140737488355328) → Hid (i.size + 97 ≤ 140737488355328) → Hid (Kh w) →
    Calls Tryd.prog 35 #[.string k, .string i, .int .i64 n] w fun e w' => e = .returned (.tuple (drV k i n)) ∧ Below w.heap.size w w'
theorem rExpand_all (k i : ByteArray) (n : Int) (w : World) (hk : Hid (k.size ≤ 140737488355328)) (hi : Hid (i.size + 97 ≤ 140737488355328)) :
    Calls Tryd.prog 57 #[.string k, .string i, .int .i64 n] w fun e w' => e = .returned (.tuple (xpV k i n)) ∧ Below w.heap.size w w' := by
  unfold xpV
  by_cases h : n < 0 ∨ 8160 < n
  · rw [if_pos h]; exact rExpand_no k i n h w
  · rw [if_neg h]
    obtain ⟨m, rfl⟩ : ∃ m : Nat, n = (m : Int) := ⟨n.toNat, by omega⟩
    exact rExpand_ok k i m (by omega) hk hi w
theorem rDerive_all (k i : ByteArray) (n : Int) (w : World) (hk : Hid (k.size + 64 ≤ 140737488355328)) (hi : Hid (i.size + 97 ≤ 140737488355328)) :
    Calls Tryd.prog 41 #[.string k, .string i, .int .i64 n] w fun e w' => e = .returned (.tuple (drV k i n)) ∧ Below w.heap.size w w' := by
  unfold drV
  by_cases h : n < 0 ∨ 8160 < n
  · rw [if_pos h]; exact rDerive_no k i n h hk w
  · rw [if_neg h]
    obtain ⟨m, rfl⟩ : ∃ m : Nat, n = (m : Int) := ⟨n.toNat, by omega⟩
    exact rDerive_ok k i m (by omega) hk hi w
theorem xpV_form (k i : ByteArray) (n : Int) : ∃ (X : ByteArray) (e : Int), xpV k i n = #[.string X, .int .i64 e] := by
  unfold xpV; split
  · exact ⟨_, _, rfl⟩
  · exact ⟨_, _, rfl⟩
theorem drV_form (k i : ByteArray) (n : Int) : ∃ (X : ByteArray) (e : Int), drV k i n = #[.string X, .int .i64 e] := by
  unfold drV; split
  · exact ⟨_, _, rfl⟩
  · exact ⟨_, _, rfl⟩

theorem strAt3 {w : World} {B : Nat} {x y z : ByteArray} (h0 : w.cell? ⟨B, 0, none⟩ = some (.string x)) (h1 : w.cell? ⟨B, 1, none⟩ = some (.string y)) (h2 : w.cell? ⟨B, 2, none⟩ = some (.string z)) : StrAt w (some ⟨B, 0, none⟩) [x, y, z] := fun i hi => by
  refine ⟨B, 0, rfl, ?_⟩
  rcases (by simp at hi; omega : i = 0 ∨ i = 1 ∨ i = 2) with rfl | rfl | rfl
  · exact h0
  · exact h1
  · exact h2
theorem jnd_one (s : ByteArray) : jnd [s] = s.data.toList := by simp [jnd]

theorem ex_tag : (⟨(hxs (hmac [74, 101, 102, 101] [119, 104, 97, 116, 32, 100, 111, 32, 121, 97, 32, 119, 97, 110, 116, 32, 102, 111, 114, 32, 110, 111, 116, 104, 105, 110, 103, 63])).toArray⟩ : ByteArray) = ⟨#[53, 98, 100, 99, 99, 49, 52, 54, 98, 102, 54, 48, 55, 53, 52, 101, 54, 97, 48, 52, 50, 52, 50, 54, 48, 56, 57, 53, 55, 53, 99, 55, 53, 97, 48, 48, 51, 102, 48, 56, 57, 100, 50, 55, 51, 57, 56, 51, 57, 100, 101, 99, 53, 56, 98, 57, 54, 52, 101, 99, 51, 56, 52, 51]⟩ := by decide +kernel

end Go.Proofs.YtbkefhfbbhdpcaaDoor
