/- The program's keyed layer: what is expanded and derived. -/
import Derived.Test.YtdebfelgaiofeadDoorPE
namespace Go.Proofs.YtdebfelgaiofeadDoor
open Go.RowKit Go.Proofs.Fd Go.Proofs.Hs

theorem own_bytesAt {w : World} {base g n cap : Nat} {l : List UInt8} (h : w.ownsRow base 5 1 (.slice (some ⟨g, 0, none⟩) n cap) n (bcells l)) : BytesAt w g l := fun i hi => by
  have hl : l.length = n := by have := h.1; simpa [bcells] using this
  refine ⟨?_, h.frozenAt i⟩
  rw [h.cellAt i (by omega)]
  simp [bcells, hi]
theorem BytesAt.part {w : World} {b : Nat} {l : List UInt8} (h : BytesAt w b l) (n : Nat) : BytesAt w b (l.take n) := fun j hj => by
  have hj' : j < l.length := by rw [List.length_take] at hj; omega
  rw [List.getElem_take]
  exact h j hj'

set_option maxHeartbeats 2000000 in
theorem Expand_ok (key info : ByteArray) (n : Nat) (hn : n ≤ 8160) (hk : Hid (key.size ≤ 140737488355328)) (hi : Hid (info.size + 97 ≤ 140737488355328)) (w : World) (hK : Hid (Kh w)) :
    Calls Tryd.prog 7 #[.string key, .string info, .int .i64 (n : Int)] w fun e w' => e = .returned (.tuple #[.string ⟨(xpn key.data.toList info.data.toList n).toArray⟩, .int .i64 0]) ∧ Below w.heap.size w w' := by
  obtain ⟨XI, hXI⟩ : ∃ X : ByteArray, ⟨(xk 54 key.data.toList).toArray⟩ = X := ⟨_, rfl⟩
  obtain ⟨XO, hXO⟩ : ∃ X : ByteArray, ⟨(xk 92 key.data.toList).toArray⟩ = X := ⟨_, rfl⟩
  have PA : Hid (∀ w', Kh w' → Calls Tryd.prog 10 #[.string key] w' fun e w'' => e = .returned (.agg #[.string XI, .string XO]) ∧ Below w'.heap.size w' w'') := fun w' h => by
    rw [← hXI, ← hXO]; exact padded_any key w' hk h
  have g1 : ¬ (n : Int) < 0 := by omega
  have g2 : ¬ (8160 : Int) < (n : Int) := by omega
  have g3 : (n : Int) ≤ 8160 := by omega
  go_enter Tryd.func7, Tryd.ntmps7
  go_wp2_with fail
  refine Calls.mono (PA.out _ hK.out) ?_
  rintro e w1 ⟨rfl, hb1⟩
  have B1 : Hid (Below w.heap.size w w1 ∧ Kh w1) := ⟨hb1, hK.out.later hb1⟩
  clear hb1 PA
  obtain ⟨i0, hii, hz0, hz1, hz2⟩ := info_parts infoByte
  obtain ⟨A, hA⟩ : ∃ A, w1.alloc (.cells #[.string XI, .string XO] 34) = A := ⟨_, rfl⟩
  have CA : Hid (A.cell? ⟨w1.heap.size, 0, none⟩ = some (.string XI) ∧ A.cell? ⟨w1.heap.size, 1, none⟩ = some (.string XO) ∧ Below w.heap.size w A ∧ w1.heap.size < A.heap.size) := by
    rw [← hA]
    exact ⟨by simp [go_sem], by simp [go_sem], chain B1.out.1 ((Below.refl _ _).alloc (Nat.le_refl _) _), by simp⟩
  have hm := run_make_own (P := Tryd.prog) A A.heap.size 29 5 i0 (.int .u8 0) 1 Tryd.underlying29 hii hz0 hz1 .i64 .i64 (n + 32) (by rw [hz2]; omega) (by unfold maxLen; omega) (Nat.le_refl _)
  obtain ⟨W, hmk, hown, hgrown⟩ := hm
  have OW : Hid (W.ownsRow A.heap.size 5 1 (.slice (some ⟨A.heap.size, 0, none⟩) 0 (n + 32)) 0 [] ∧ Below A.heap.size A W) := ⟨hown, (Below.refl _ _).grown hgrown (Nat.le_refl _) (fun k h => by cases h)⟩
  have e2 : ((n + 32 : Nat) : Int) = (n : Int) + 32 := by omega
  rw [e2] at hmk
  have e3 : IntKind.i64.wrap ((n : Int) + 32) = (n : Int) + 32 := by rw [IntKind.wrap_i64]; omega
  clear hown hgrown e2
  have TG : Hid (∀ (j B : Nat) (L Bb : ByteArray) (w' : World), L.data.toList = tg key.data.toList info.data.toList j → Bb.data.toList = [UInt8.ofNat (j + 1)] → L.size ≤ 140737488355328 → Bb.size ≤ 140737488355328 → Below w.heap.size w w' → w'.cell? ⟨B, 0, none⟩ = some (.string L) → w'.cell? ⟨B, 1, none⟩ = some (.string info) → w'.cell? ⟨B, 2, none⟩ = some (.string Bb) → Calls Tryd.prog 11 #[.agg #[.string XI, .string XO], .slice (some ⟨B, 0, none⟩) 3 3] w' fun e w'' => e = .returned (.string ⟨(tg key.data.toList info.data.toList (j + 1)).toArray⟩) ∧ Below w'.heap.size w' w'') := fun j B L Bb w' hL hB zL zB hw h0 h1 h2 => by
    have h := tag_any XI XO (some ⟨B, 0, none⟩) [L, info, Bb] 3 3 w' rfl (by show _ ≤ _; decide) ⟨by rw [← hXI, ba_size, xk_len]; decide, by rw [← hXO, ba_size, xk_len]; decide⟩ (fun s hs => by
      simp at hs
      rcases hs with rfl | rfl | rfl
      · exact zL
      · have := hi.out; omega
      · exact zB) (hK.out.later hw) (strAt3 h0 h1 h2)
    have e : sha (XO.data.toList ++ sha (XI.data.toList ++ jnd [L, info, Bb])) = tg key.data.toList info.data.toList (j + 1) := by
      show _ = hmac key.data.toList (tg key.data.toList info.data.toList j ++ info.data.toList ++ [UInt8.ofNat (j + 1)])
      unfold hmac
      rw [← hXI, ← hXO, ← hL, ← hB]
      simp [jnd]
    rw [e] at h
    exact h
  clear hXI hXO
  go_wp2
  go_loopw [9, 10, 11] (fun ah sl nu wr => ∃ j g cap : Nat, 32 * j < n + 32 ∧ ah = .string ⟨(tg key.data.toList info.data.toList j).toArray⟩ ∧ sl = .slice (some ⟨g, 0, none⟩) (32 * j) cap ∧ nu = .int .u8 ((UInt8.ofNat (j + 1)).toNat : Int) ∧ Hid (wr.ownsRow A.heap.size 5 1 (.slice (some ⟨g, 0, none⟩) (32 * j) cap) (32 * j) (bcells (tgs key.data.toList info.data.toList j)) ∧ Below A.heap.size A wr)) (fun _ sl _ _ => 8192 - (match sl with | .slice _ n _ => n | _ => 0))
  case atStart => exact ⟨0, A.heap.size, n + 32, by omega, rfl, rfl, rfl, OW.out⟩
  case round =>
    obtain ⟨j, g, cap, hj, rfl, rfl, rfl, I⟩ := hrel
    clear OW hmk e3
    by_cases hlt : 32 * j < n
    · have c0 := cell_later I.out.2 CA.out.1
      have c1 := cell_later I.out.2 CA.out.2.1
      have g4 : 32 * (j : Int) < (n : Int) := by omega
      obtain ⟨b, hbb⟩ : ∃ b, UInt8.ofNat (j + 1) = b := ⟨_, rfl⟩
      have NB : Hid (IntKind.u8.wrap ((b.toNat : Int) + 1) = ((UInt8.ofNat (j + 1 + 1)).toNat : Int)) := by
        show _ = _
        rw [IntKind.wrap_u8, ← hbb, UInt8.toNat_ofNat', UInt8.toNat_ofNat']; omega
      have CB : (convert 29 9 (.slice (some ⟨wr.heap.size, 0, none⟩) 1 1)).run Tryd.prog (wr.alloc (.cells #[.int .u8 (b.toNat : Int)] 5)) = .ok (.string ⟨[b].toArray⟩) (wr.alloc (.cells #[.int .u8 (b.toNat : Int)] 5)) := by
        have h : BytesAt (wr.alloc (.cells #[.int .u8 (b.toNat : Int)] 5)) wr.heap.size [b] := fun i hi => by
          obtain rfl : i = 0 := by simp at hi; omega
          exact ⟨by rw [World.cell?_alloc_new]; rfl, by simp [go_sem]⟩
        exact h.string rfl
      obtain ⟨L, hL⟩ : ∃ X : ByteArray, ⟨(tg key.data.toList info.data.toList j).toArray⟩ = X := ⟨_, rfl⟩
      obtain ⟨Bb, hB⟩ : ∃ X : ByteArray, ⟨[b].toArray⟩ = X := ⟨_, rfl⟩
      obtain ⟨N, hN⟩ : ∃ X : ByteArray, ⟨(tg key.data.toList info.data.toList (j + 1)).toArray⟩ = X := ⟨_, rfl⟩
      have zL : L.size ≤ 140737488355328 := by
        rw [← hL, ba_size]
        cases j with
        | zero => exact Nat.zero_le _
        | succ j => rw [tg_len]; decide
      have T1 : Hid (∀ (B : Nat) (w' : World), Below w.heap.size w w' → w'.cell? ⟨B, 0, none⟩ = some (.string L) → w'.cell? ⟨B, 1, none⟩ = some (.string info) → w'.cell? ⟨B, 2, none⟩ = some (.string Bb) → Calls Tryd.prog 11 #[.agg #[.string XI, .string XO], .slice (some ⟨B, 0, none⟩) 3 3] w' fun e w'' => e = .returned (.string N) ∧ Below w'.heap.size w' w'') := fun B w' hw h0 h1 h2 => by
        rw [← hN]
        exact TG.out j B L Bb w' (by rw [← hL]) (by rw [← hB, hbb]) zL (by rw [← hB]; show (1 : Nat) ≤ _; decide) hw h0 h1 h2
      have NN : Hid (N.size = 32 ∧ bcells (tgs key.data.toList info.data.toList (j + 1)) = bcells (tgs key.data.toList info.data.toList j) ++ Go.Lib.strCells N ∧ N = ⟨(tg key.data.toList info.data.toList (j + 1)).toArray⟩) := by
        refine ⟨by rw [← hN, ba_size, tg_len], ?_, hN.symm⟩
        rw [strCells_eq, tgs_succ, ← hN]
        simp [bcells]
      rw [hB] at CB
      rw [hbb, hL]
      clear hL hB hN zL TG
      go_wp2_with fail
      refine Calls.mono (T1.out (wr.heap.size + 1) _ (chain CA.out.2.2.1 ((I.out.2.alloc I.out.2.size _).alloc (by have := I.out.2.size; simp; omega) _)) (by simp [go_sem]) (by simp [go_sem]) (by simp [go_sem])) ?_
      rintro e w3 ⟨rfl, hb3⟩
      have I3 : Hid (w3.ownsRow A.heap.size 5 1 (.slice (some ⟨g, 0, none⟩) (32 * j) cap) (32 * j) (bcells (tgs key.data.toList info.data.toList j)) ∧ Below A.heap.size A w3) := by
        have hb' : Below wr.heap.size wr w3 := chain (((Below.refl _ _).alloc (Nat.le_refl _) _).alloc (by simp) _) hb3
        exact ⟨own_later I.out.1 hb', chain I.out.2 hb'⟩
      clear hb3 T1 CB c0 c1
      go_wp2_with (first
        | (at_builtin; refine Go.Lib.wpList_append_own_string _ rfl _ _ 29 9 rfl A.heap.size 5 i0 Tryd.underlying29 Tryd.underlying9 hii hz0 hz1 hz2 _ _ _ rfl I3.out.1 N rfl (by have := NN.out.1; unfold maxLen; omega) (by have := NN.out.1; omega) I3.out.2.size ?_; intro v1 w4 hown1 hgrow1 hnil1))
      rcases hown1.2 with ⟨h, -⟩ | ⟨g', cap', cur, hv, -, -, -⟩
      · exact absurd (hnil1.1 h).1 (by intro q; cases q)
      · subst hv
        rw [← NN.out.2.1, NN.out.1, show 32 * j + 32 = 32 * (j + 1) by omega] at hown1
        rw [NN.out.1, show 32 * j + 32 = 32 * (j + 1) by omega]
        refine ⟨⟨j + 1, g', cap', by omega, by rw [NN.out.2.2], rfl, by rw [← NB.out, IntKind.wrap_u8], hown1, I3.out.2.grown hgrow1 I3.out.2.size (fun q hq => (I3.out.1.lt q hq).1)⟩, ?_⟩
        show 8192 - 32 * (j + 1) < 8192 - 32 * j
        omega
    · have g4 : ¬ 32 * (j : Int) < (n : Int) := by omega
      have OB := own_bytesAt I.out.1
      have XP := xpn_of key.data.toList info.data.toList n j (by omega)
      have CV := (OB.part n).string (cap := cap) (n := n) (by rw [XP, xpn_len])
      rw [XP] at CV
      have gc : 32 * j ≤ cap := by
        rcases I.out.1.2 with ⟨h, -⟩ | ⟨g', cap', cur, h, -, -, h2, -⟩
        · cases h
        · injection h with q1 q2 q3; omega
      have g5 : (n : Int) ≤ (cap : Int) := by omega
      obtain ⟨R, hR⟩ : ∃ X : ByteArray, ⟨(xpn key.data.toList info.data.toList n).toArray⟩ = X := ⟨_, rfl⟩
      have HR : Hid (_ = _) := hR
      rw [hR] at CV
      clear hR OB XP
      have BF : Hid (Below w.heap.size w wr) := chain CA.out.2.2.1 I.out.2
      go_wp2
      rw [HR.out]
      go_ret2
      exact ⟨rfl, BF.out⟩

theorem expand_c : ExpandC := fun k i n w hk hi hK => by
  unfold xpV
  by_cases h : n < 0 ∨ 8160 < n
  · rw [if_pos h]; exact Expand_no k i n h w
  · rw [if_neg h]
    obtain ⟨m, rfl⟩ : ∃ m : Nat, n = (m : Int) := ⟨n.toNat, by omega⟩
    exact Expand_ok k i m (by omega) hk hi w hK

end Go.Proofs.YtdebfelgaiofeadDoor
