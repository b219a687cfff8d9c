/- The document's stream: the words at first, mixed, and a block's bytes. -/
import Derived.Test.YtbkefhfbbhdpcaaDoorSR1
import Derived.Test.YtbkefhfbbhdpcaaDoorSR2
import Derived.Test.YtbkefhfbbhdpcaaDoorST3
import Derived.Laws.OwnMore
namespace Go.Proofs.YtbkefhfbbhdpcaaDoor
open Go.RowKit Go.Proofs.Fd Go.Proofs.Hs Go.Proofs.Cc
set_option maxRecDepth 20000

theorem rown_later {w w' : World} {base : Nat} {e : TypeId} {size : Nat} {v : Value} {n : Nat} {xs : List Value} (h : w.ownsRow base e size v n xs) (hb : Below w.heap.size w w') : w'.ownsRow base e size v n xs := by
  refine ⟨h.1, ?_⟩
  rcases h.2 with hn | ⟨g, cap, cur, rfl, hbg, hgg, rest⟩
  · exact .inl hn
  · refine .inr ⟨g, cap, cur, rfl, hbg, ?_, rest⟩
    rw [hb.block g (Array.getElem?_eq_some_iff.1 hgg).1]
    exact hgg
theorem rown_string {V : World} {base n : Nat} {v : Value} {l : List UInt8} (h : V.ownsRow base 5 1 v n (bcells l)) : ∀ w', Below V.heap.size V w' → (convert 30 9 v).run Tryd.prog w' = .ok (.string ⟨l.toArray⟩) w' := by
  intro w' hb
  obtain ⟨hlen, hor⟩ := owns_bytes h
  rcases hor with ⟨rfl, h0⟩ | ⟨g, cap, rfl, hcell⟩
  · obtain rfl : l = [] := List.length_eq_zero_iff.1 (by omega)
    kernel_rfl
  · have := run_convert_bytes_back (P := Tryd.prog) w' 30 9 5 ⟨g, 0, none⟩ cap l Tryd.underlying30 Tryd.underlying5 Tryd.underlying9 (fun j hj => by
      have q : Addr.add ⟨g, 0, none⟩ j = ⟨g, j, none⟩ := by simp [Addr.add]; intro h; exact h.symm
      rw [q]; exact cell_later hb (hcell j hj))
    rw [hlen] at this; exact this
/-- A row of words of the call's own. -/
theorem rown_words {w : World} {base n : Nat} {v : Value} {l : List UInt32} (h : w.ownsRow base 55 1 v n (qcells l)) (hn : 0 < n) : ∃ g cap, v = .slice (some ⟨g, 0, none⟩) n cap ∧ base ≤ g ∧ g < w.heap.size ∧ l.length = n ∧ QAt w g l := by
  obtain ⟨h1, h2⟩ := h
  have hl : l.length = n := by simpa [qcells] using h1
  rcases h2 with ⟨-, h0⟩ | ⟨g, cap, cur, rfl, hb, hh, -, -, -, ht⟩
  · omega
  · refine ⟨g, cap, rfl, hb, (Array.getElem?_eq_some_iff.1 hh).1, hl, fun j hj => ⟨?_, ?_⟩⟩
    · have e : cur[j]? = (qcells l)[j]? := by
        rw [← ht, List.getElem?_take_of_lt (by omega)]; simp
      unfold World.cell?
      rw [hh]
      simp only [Option.isSome_none]
      show cur[j]? = _
      rw [e]; simp [qcells, hj]
    · unfold World.frozen?
      rw [hh]
      simp
theorem QAt.keep {B : Nat} {w w' : World} {b : Nat} {l : List UInt32} (h : QAt w b l) (hb : Below B w w') (hlt : b < B) : QAt w' b l := fun j hj =>
  ⟨(hb.cell (p := ⟨b, j, none⟩) hlt).trans (h j hj).1, (hb.frozen (p := ⟨b, j, none⟩) hlt).trans (h j hj).2⟩
theorem qcells_app (a b : List UInt32) : qcells a ++ qcells b = qcells (a ++ b) := by simp [qcells]
theorem qcells_len (l : List UInt32) : (qcells l).length = l.length := by simp [qcells]
theorem qcells_one (l : List UInt32) : ∀ v ∈ qcells l, v.oneCell' = true := fun v hv => by
  obtain ⟨x, _, rfl⟩ := List.mem_map.1 hv; rfl
theorem QAt.adds {w : World} {g : Nat} {l : List UInt32} (h : QAt w g l) : ∀ j u, (qcells l)[j]? = some u → w.cell? ((⟨g, 0, none⟩ : Addr).add j) = some u := fun j u hu => by
  have hj : j < l.length := by have := (List.getElem?_eq_some_iff.1 hu).1; simpa [qcells] using this
  have q : Addr.add ⟨g, 0, none⟩ j = ⟨g, j, none⟩ := by simp [Addr.add]; intro h; exact h.symm
  rw [q, (h j hj).1]
  simp [qcells, hj] at hu
  rw [hu]
theorem le4_cells (x : UInt32) : [Value.int .u8 (tv x % 256), .int .u8 (tv x / 256 % 256), .int .u8 (tv x / 65536 % 256), .int .u8 (tv x / 16777216)] = bcells (le4 x) := by
  rw [byte_tv1, byte_tv3]
  have e1 := byte_tv x 256
  have e2 := byte_tv x 65536
  rw [show ((256 : Nat) : Int) = 256 from rfl] at e1
  rw [show ((65536 : Nat) : Int) = 65536 from rfl] at e2
  rw [e1, e2]
  rfl

set_option maxRecDepth 20000 in
set_option maxHeartbeats 2000000 in
theorem rblock_any (k n : ByteArray) (c : UInt32) (hk : Hid (k.size = 32)) (hn : Hid (n.size = 12)) (w : World) :
    Calls Tryd.prog 42 #[.string k, .string n, .int .u32 (tv c)] w fun e w' => e = .returned (.string ⟨(blk k.data.toList n.data.toList c).toArray⟩) ∧ Below w.heap.size w w' := by
  obtain ⟨i0, hi, hz0, hz1, hz2⟩ := info_parts qinfo
  obtain ⟨i1, hi1, hy0, hy1, hy2⟩ := info_parts infoByte
  obtain ⟨F, hF⟩ : ∃ F, fstw k.data.toList n.data.toList c = F := ⟨_, rfl⟩
  obtain ⟨M, hM⟩ : ∃ M, Cc.rounds F 10 = M := ⟨_, rfl⟩
  have LF : Hid (F.length = 16) := by show _ = _; rw [← hF, fstw_len]
  have LM : Hid (M.length = 16) := by show _ = _; rw [← hM, rounds_len]; exact LF.out
  obtain ⟨G, hG⟩ : ∃ G : Nat → List UInt8, blkn k.data.toList n.data.toList c = G := ⟨_, rfl⟩
  have HG1 : Hid (G 0 = [] ∧ blk k.data.toList n.data.toList c = G 16 ∧ (∀ q, G (q + 1) = G q ++ le4 (M.getD q 0 + F.getD q 0)) ∧ ∀ q, (G q).length = 4 * q) := by
    rw [← hG]
    refine ⟨rfl, rfl, fun q => ?_, fun q => blkn_len _ _ _ q⟩
    rw [blkn_succ]
    unfold outw
    rw [hF, hM]
  have HFM : Hid (fstw k.data.toList n.data.toList c = F ∧ Cc.rounds F 10 = M) := ⟨hF, hM⟩
  rw [HG1.out.2.1]
  clear hG hM hF
  have R1 : Hid (∀ w, Calls Tryd.prog 58 #[.string k] w fun e w' => ∃ v, e = .returned v ∧ w'.ownsRow w.heap.size 55 1 v 8 (qcells (rd k.data.toList 8)) ∧ Below w.heap.size w w') := rRead_any k 8 hk.out (by decide)
  have R2 : Hid (∀ w, Calls Tryd.prog 58 #[.string n] w fun e w' => ∃ v, e = .returned v ∧ w'.ownsRow w.heap.size 55 1 v 3 (qcells (rd n.data.toList 3)) ∧ Below w.heap.size w w') := rRead_any n 3 hn.out (by decide)
  obtain ⟨A, hA⟩ : ∃ A, w.alloc (.cells #[.int .u32 1634760805, .int .u32 857760878, .int .u32 2036477234, .int .u32 1797285236] 55) = A := ⟨_, rfl⟩
  have IA : Hid (A.ownsRow w.heap.size 55 1 (.slice (some ⟨w.heap.size, 0, none⟩) 4 4) 4 (qcells [1634760805, 857760878, 2036477234, 1797285236]) ∧ Below w.heap.size w A) := by
    rw [← hA]
    exact ⟨World.ownsRow_lit (base := w.heap.size) (e := 55) (size := 1) w #[.int .u32 1634760805, .int .u32 857760878, .int .u32 2036477234, .int .u32 1797285236] 4 (Nat.le_refl _) (by unfold maxLen; omega) rfl, (Below.refl _ _).alloc (Nat.le_refl _) _⟩
  go_enter Tryd.func42, Tryd.ntmps42
  go_wp2_with fail
  refine Calls.mono (R1.out _) ?_
  rintro e w1 ⟨v1, rfl, ow1, hb1⟩
  obtain ⟨g1, cap1, rfl, hg1, -, hl1, qa1⟩ := rown_words ow1 (by decide)
  have I1 : Hid (w1.ownsRow w.heap.size 55 1 (.slice (some ⟨w.heap.size, 0, none⟩) 4 4) 4 (qcells [1634760805, 857760878, 2036477234, 1797285236]) ∧ Below w.heap.size w w1 ∧ QAt w1 g1 (rd k.data.toList 8)) := ⟨rown_later IA.out.1 hb1, chain IA.out.2 hb1, qa1⟩
  clear ow1 hb1 qa1 IA R1 hA
  go_wp2_with (first
    | (at_builtin; revert I1; intro I1; refine wpList_append_own _ rfl _ _ 78 rfl w.heap.size 55 i0 (.int .u32 0) 1 4 Tryd.underlying78 hi hz0 hz1 hz2 rfl (by decide) _ _ _ rfl I1.out.1 ⟨g1, 0, none⟩ 8 cap1 (qcells (rd k.data.toList 8)) rfl (by rw [qcells_len, rd_len]) I1.out.2.2.adds (qcells_one _) (by unfold maxLen; omega) (by omega) I1.out.2.1.size ?_; intro v2 w2 hown2 hgrow2 _; have I2 : Hid (w2.ownsRow w.heap.size 55 1 v2 12 (qcells ([1634760805, 857760878, 2036477234, 1797285236] ++ rd k.data.toList 8)) ∧ Below w.heap.size w w2) := ⟨qcells_app [1634760805, 857760878, 2036477234, 1797285236] (rd k.data.toList 8) ▸ hown2, I1.out.2.1.grown hgrow2 I1.out.2.1.size (fun q hq => (I1.out.1.lt q hq).1)⟩; clear hown2 hgrow2 I1)
    | (at_builtin; revert I2; intro I2; refine wpList_append_own _ rfl _ _ 78 rfl w.heap.size 55 i0 (.int .u32 0) 1 4 Tryd.underlying78 hi hz0 hz1 hz2 rfl (by decide) _ _ _ rfl (I2.out.1.alloc _) ⟨w2.heap.size, 0, none⟩ 1 1 (qcells [c]) rfl rfl (cells_new _ _ _) (qcells_one _) (by unfold maxLen; omega) (by omega) (by have := I2.out.2.size; simp; omega) ?_; intro v3 w3 hown3 hgrow3 _; have I3 : Hid (w3.ownsRow w.heap.size 55 1 v3 13 (qcells ([1634760805, 857760878, 2036477234, 1797285236] ++ rd k.data.toList 8 ++ [c])) ∧ Below w.heap.size w w3) := ⟨qcells_app ([1634760805, 857760878, 2036477234, 1797285236] ++ rd k.data.toList 8) [c] ▸ hown3, (I2.out.2.alloc I2.out.2.size _).grown hgrow3 (by have := I2.out.2.size; simp; omega) (fun q hq => (I2.out.1.lt q hq).1)⟩; clear hown3 hgrow3 I2))
  refine Calls.mono (R2.out _) ?_
  rintro e w4 ⟨v4, rfl, ow4, hb4⟩
  obtain ⟨g4, cap4, rfl, hg4, -, hl4, qa4⟩ := rown_words ow4 (by decide)
  have I4 : Hid (w4.ownsRow w.heap.size 55 1 v3 13 (qcells ([1634760805, 857760878, 2036477234, 1797285236] ++ rd k.data.toList 8 ++ [c])) ∧ Below w.heap.size w w4 ∧ QAt w4 g4 (rd n.data.toList 3)) := ⟨rown_later I3.out.1 hb4, chain I3.out.2 hb4, qa4⟩
  clear ow4 hb4 qa4 I3 R2 hl1 hg1 hg4 hl4
  go_wp2_with (first
    | (at_builtin; revert I4; intro I4; refine wpList_append_own _ rfl _ _ 78 rfl w.heap.size 55 i0 (.int .u32 0) 1 4 Tryd.underlying78 hi hz0 hz1 hz2 rfl (by decide) _ _ _ rfl I4.out.1 ⟨g4, 0, none⟩ 3 cap4 (qcells (rd n.data.toList 3)) rfl (by rw [qcells_len, rd_len]) I4.out.2.2.adds (qcells_one _) (by unfold maxLen; omega) (by omega) I4.out.2.1.size ?_; intro v5 w5 hown5 hgrow5 _; have I5 : Hid (w5.ownsRow w.heap.size 55 1 v5 16 (qcells F) ∧ Below w.heap.size w w5) := ⟨by rw [← HFM.out.1]; exact qcells_app ([1634760805, 857760878, 2036477234, 1797285236] ++ rd k.data.toList 8 ++ [c]) (rd n.data.toList 3) ▸ hown5, I4.out.2.1.grown hgrow5 I4.out.2.1.size (fun q hq => (I4.out.1.lt q hq).1)⟩; obtain ⟨gf, capf, rfl, -, hgf, hlf, qf⟩ := rown_words I5.out.1 (by decide); have I6 : Hid (QAt w5 gf F ∧ Below w.heap.size w w5 ∧ gf < w5.heap.size) := ⟨qf, I5.out.2, hgf⟩; clear hown5 hgrow5 I4 I5 hlf qf hgf)
    | (at_builtin; revert I6; intro I6; refine wpList_append_own _ rfl _ _ 78 rfl w5.heap.size 55 i0 (.int .u32 0) 1 4 Tryd.underlying78 hi hz0 hz1 hz2 rfl (by decide) _ _ _ rfl (World.ownsRow_lit (base := w5.heap.size) (e := 55) (size := 1) w5 #[] 0 (Nat.le_refl _) (by unfold maxLen; omega) rfl) ⟨gf, 0, none⟩ 16 capf (qcells F) rfl (by rw [qcells_len]; exact LF.out) (QAt.later I6.out.1 ((Below.refl _ _).alloc (Nat.le_refl _) _)).adds (qcells_one _) (by unfold maxLen; omega) (by omega) (by simp) ?_; intro v7 w7 hown7 hgrow7 _; have B7 : Below w5.heap.size w5 w7 := ((Below.refl _ _).alloc (Nat.le_refl _) _).grown hgrow7 (by simp) (fun q hq => (World.ownsRow.lt (World.ownsRow_lit (base := w5.heap.size) (e := 55) (size := 1) w5 #[] 0 (Nat.le_refl _) (by unfold maxLen; omega) rfl) q hq).1); simp only [Nat.zero_add, List.nil_append] at hown7; obtain ⟨gw, capw, rfl, hgw, -, -, qw⟩ := rown_words hown7 (by decide); have I7 : Hid (QAt w7 gf F ∧ QAt w7 gw F ∧ Below w.heap.size w w7 ∧ gf < gw ∧ w.heap.size ≤ gw) := ⟨I6.out.1.later B7, qw, chain I6.out.2.1 B7, Nat.lt_of_lt_of_le I6.out.2.2 hgw, Nat.le_trans I6.out.2.1.size hgw⟩; clear hown7 hgrow7 B7 qw hgw I6))
  have HN : Hid (gf < gw ∧ w.heap.size ≤ gw) := I7.out.2.2.2
  have I8 : Hid (QAt w7 gf F ∧ QAt w7 gw (Cc.rounds F 0) ∧ Below w.heap.size w w7) := ⟨I7.out.1, I7.out.2.1, I7.out.2.2.1⟩
  clear I7
  go_loopw [9] (fun i wr => ∃ q : Nat, q ≤ 10 ∧ i = .int .i64 (q : Int) ∧ Hid (QAt wr gf F ∧ QAt wr gw (Cc.rounds F q) ∧ Below w.heap.size w wr)) (fun i _ => 10 - (intOf i).toNat)
  case atStart => exact ⟨0, by omega, rfl, I8.out⟩
  case round =>
    obtain ⟨q, hq, rfl, I⟩ := hrel
    clear I8
    by_cases hq10 : q = 10
    · subst hq10
      rw [show ((10 : Nat) : Int) = 10 from rfl]
      have J : Hid (QAt wr gf F ∧ QAt wr gw M ∧ Below w.heap.size w wr) := by rw [← HFM.out.2]; exact I.out
      clear I HFM
      go_wp2
      obtain ⟨wb, rfl⟩ : ∃ W, W = wr := ⟨_, rfl⟩
      go_loopw [12, 13] (fun sl i wx => ∃ q : Nat, q ≤ 16 ∧ i = .int .i64 (q : Int) ∧ Hid (wx.ownsRow wb.heap.size 5 1 sl (4 * q) (bcells (G q)) ∧ Below wb.heap.size wb wx)) (fun _ i _ => 16 - (intOf i).toNat)
      case atStart => exact ⟨0, by omega, rfl, by rw [HG1.out.1]; exact ⟨rfl, .inl ⟨rfl, rfl⟩⟩, Below.refl _ _⟩
      case round =>
        obtain ⟨q, hq, rfl, I⟩ := hrel
        by_cases hq16 : q = 16
        · subst hq16
          have CV := rown_string I.out.1 wr (Below.refl _ _)
          have BF : Hid (Below w.heap.size w wr) := chain J.out.2.2 I.out.2
          clear J I HG1
          go_wp2
          go_ret
          exact ⟨rfl, BF.out⟩
        · have z16 : (q : Int) < 16 := by omega
          have CM := (J.out.2.1.later I.out.2).at q (by rw [LM.out]; omega)
          have CF := (J.out.1.later I.out.2).at q (by rw [LF.out]; omega)
          obtain ⟨cm, -⟩ := CM
          obtain ⟨cf, -⟩ := CF
          have GS : Hid (_ = _) := HG1.out.2.2.1 q
          obtain ⟨x, hx⟩ : ∃ x, M.getD q 0 + F.getD q 0 = x := ⟨_, rfl⟩
          rw [hx] at GS
          have hm := add32 (M.getD q 0) (F.getD q 0)
          rw [hx] at hm
          have hm' := add32' (M.getD q 0) (F.getD q 0)
          rw [hx] at hm'
          clear hx
          generalize M.getD q 0 = m0 at *
          generalize F.getD q 0 = l0 at *
          go_wp2
          go_quiet (fail)
          go_wp2_with (first
            | (at_builtin; refine wpList_append_own _ rfl _ _ 30 rfl wb.heap.size 5 i1 (.int .u8 0) 1 1 Tryd.underlying30 hi1 hy0 hy1 hy2 rfl (by decide) _ _ _ rfl (World.ownsRow.alloc (w := wr.drewN nq) I.out.1 _) ⟨wr.heap.size, 0, none⟩ 4 4 [.int .u8 (tv x % 256), .int .u8 (tv x / 256 % 256), .int .u8 (tv x / 65536 % 256), .int .u8 (tv x / 16777216)] rfl rfl (cells_new (wr.drewN nq) _ _) (by intro u hu; simp at hu; rcases hu with rfl | rfl | rfl | rfl <;> rfl) (by unfold maxLen; omega) (by omega) (by have := I.out.2.size; simp; omega) ?_; intro v1 w1 hown1 hgrow1 hnil1))
          go_roundw
          case rel =>
            refine ⟨q + 1, by omega, by go_num, ?_, ?_⟩
            · rw [GS.out]; unfold bcells; rw [List.map_append, show 4 * (q + 1) = 4 * q + 4 by omega]; rw [le4_cells] at hown1; exact hown1
            · exact ((below_drewN I.out.2 nq).alloc (by have := I.out.2.size; exact this) _).grown hgrow1 (by have := I.out.2.size; simp; omega) (fun j hj => (I.out.1.lt j hj).1)
          case measure => simp [intOf]; omega
    · have q10 : (q : Int) < 10 := by omega
      obtain ⟨R, hR⟩ : ∃ R, Cc.rounds F q = R := ⟨_, rfl⟩
      have LR : Hid (R.length = 16) := by show _ = _; rw [← hR, rounds_len]; exact LF.out
      have NR : Hid (Cc.rounds F (q + 1) = dias (cols R 4) 4) := by show _ = _; rw [← hR]; rfl
      have J : Hid (QAt wr gf F ∧ QAt wr gw (cols R 0) ∧ Below w.heap.size w wr) := by have := I.out; rw [hR] at this; exact this
      clear I hR
      go_wp2
      go_loopw [10] (fun i wx => ∃ j : Nat, (j = 0 ∧ i = .int .i64 0 ∨ j = 1 ∧ i = .int .i64 1 ∨ j = 2 ∧ i = .int .i64 2 ∨ j = 3 ∧ i = .int .i64 3 ∨ j = 4 ∧ i = .int .i64 4) ∧ Hid (QAt wx gf F ∧ QAt wx gw (cols R j) ∧ Below w.heap.size w wx)) (fun i _ => 4 - (intOf i).toNat)
      case atStart => exact ⟨0, .inl ⟨rfl, rfl⟩, J.out⟩
      case round =>
        obtain ⟨j, hj, I⟩ := hrel
        clear J
        rcases hj with ⟨rfl, rfl⟩ | ⟨rfl, rfl⟩ | ⟨rfl, rfl⟩ | ⟨rfl, rfl⟩ | ⟨rfl, rfl⟩
        · go_wp2_with fail
          refine Calls.mono (rQuarter_any gw capw (cols R 0) 0 4 8 12 (by show _ = _; rw [cols_len]; exact LR.out) (by show _ ∧ _; decide) _ I.out.2.1) ?_
          rintro e w1 ⟨rfl, hq1, hb1⟩
          have NX : Hid (QAt w1 gf F ∧ QAt w1 gw (cols R 1) ∧ Below w.heap.size w w1) := ⟨I.out.1.keep hb1 HN.out.1, hq1, I.out.2.2.trans (hb1.mono HN.out.2)⟩
          clear hq1 hb1 I
          go_wp2
          go_roundw
          case rel => exact ⟨1, .inr (.inl ⟨rfl, by go_num⟩), NX.out⟩
          case measure => simp [intOf]
        · go_wp2_with fail
          refine Calls.mono (rQuarter_any gw capw (cols R 1) 1 5 9 13 (by show _ = _; rw [cols_len]; exact LR.out) (by show _ ∧ _; decide) _ I.out.2.1) ?_
          rintro e w1 ⟨rfl, hq1, hb1⟩
          have NX : Hid (QAt w1 gf F ∧ QAt w1 gw (cols R 2) ∧ Below w.heap.size w w1) := ⟨I.out.1.keep hb1 HN.out.1, hq1, I.out.2.2.trans (hb1.mono HN.out.2)⟩
          clear hq1 hb1 I
          go_wp2
          go_roundw
          case rel => exact ⟨2, .inr (.inr (.inl ⟨rfl, by go_num⟩)), NX.out⟩
          case measure => simp [intOf]
        · go_wp2_with fail
          refine Calls.mono (rQuarter_any gw capw (cols R 2) 2 6 10 14 (by show _ = _; rw [cols_len]; exact LR.out) (by show _ ∧ _; decide) _ I.out.2.1) ?_
          rintro e w1 ⟨rfl, hq1, hb1⟩
          have NX : Hid (QAt w1 gf F ∧ QAt w1 gw (cols R 3) ∧ Below w.heap.size w w1) := ⟨I.out.1.keep hb1 HN.out.1, hq1, I.out.2.2.trans (hb1.mono HN.out.2)⟩
          clear hq1 hb1 I
          go_wp2
          go_roundw
          case rel => exact ⟨3, .inr (.inr (.inr (.inl ⟨rfl, by go_num⟩))), NX.out⟩
          case measure => simp [intOf]
        · go_wp2_with fail
          refine Calls.mono (rQuarter_any gw capw (cols R 3) 3 7 11 15 (by show _ = _; rw [cols_len]; exact LR.out) (by show _ ∧ _; decide) _ I.out.2.1) ?_
          rintro e w1 ⟨rfl, hq1, hb1⟩
          have NX : Hid (QAt w1 gf F ∧ QAt w1 gw (cols R 4) ∧ Below w.heap.size w w1) := ⟨I.out.1.keep hb1 HN.out.1, hq1, I.out.2.2.trans (hb1.mono HN.out.2)⟩
          clear hq1 hb1 I
          go_wp2
          go_roundw
          case rel => exact ⟨4, .inr (.inr (.inr (.inr (⟨rfl, by go_num⟩)))), NX.out⟩
          case measure => simp [intOf]
        · have K0 : Hid (QAt wr gf F ∧ QAt wr gw (dias (cols R 4) 0) ∧ Below w.heap.size w wr) := I
          clear I
          go_wp2
          go_loopw [11] (fun i wx => ∃ j : Nat, (j = 0 ∧ i = .int .i64 0 ∨ j = 1 ∧ i = .int .i64 1 ∨ j = 2 ∧ i = .int .i64 2 ∨ j = 3 ∧ i = .int .i64 3 ∨ j = 4 ∧ i = .int .i64 4) ∧ Hid (QAt wx gf F ∧ QAt wx gw (dias (cols R 4) j) ∧ Below w.heap.size w wx)) (fun i _ => 4 - (intOf i).toNat)
          case atStart => exact ⟨0, .inl ⟨rfl, rfl⟩, K0.out⟩
          case round =>
            obtain ⟨j, hj, I⟩ := hrel
            clear K0
            rcases hj with ⟨rfl, rfl⟩ | ⟨rfl, rfl⟩ | ⟨rfl, rfl⟩ | ⟨rfl, rfl⟩ | ⟨rfl, rfl⟩
            · go_wp2_with fail
              refine Calls.mono (rQuarter_any gw capw (dias (cols R 4) 0) 0 5 10 15 (by show _ = _; rw [dias_len]; rw [cols_len]; exact LR.out) (by show _ ∧ _; decide) _ I.out.2.1) ?_
              rintro e w1 ⟨rfl, hq1, hb1⟩
              have NX : Hid (QAt w1 gf F ∧ QAt w1 gw (dias (cols R 4) 1) ∧ Below w.heap.size w w1) := ⟨I.out.1.keep hb1 HN.out.1, hq1, I.out.2.2.trans (hb1.mono HN.out.2)⟩
              clear hq1 hb1 I
              go_wp2
              go_roundw
              case rel => exact ⟨1, .inr (.inl ⟨rfl, by go_num⟩), NX.out⟩
              case measure => simp [intOf]
            · go_wp2_with fail
              refine Calls.mono (rQuarter_any gw capw (dias (cols R 4) 1) 1 6 11 12 (by show _ = _; rw [dias_len]; rw [cols_len]; exact LR.out) (by show _ ∧ _; decide) _ I.out.2.1) ?_
              rintro e w1 ⟨rfl, hq1, hb1⟩
              have NX : Hid (QAt w1 gf F ∧ QAt w1 gw (dias (cols R 4) 2) ∧ Below w.heap.size w w1) := ⟨I.out.1.keep hb1 HN.out.1, hq1, I.out.2.2.trans (hb1.mono HN.out.2)⟩
              clear hq1 hb1 I
              go_wp2
              go_roundw
              case rel => exact ⟨2, .inr (.inr (.inl ⟨rfl, by go_num⟩)), NX.out⟩
              case measure => simp [intOf]
            · go_wp2_with fail
              refine Calls.mono (rQuarter_any gw capw (dias (cols R 4) 2) 2 7 8 13 (by show _ = _; rw [dias_len]; rw [cols_len]; exact LR.out) (by show _ ∧ _; decide) _ I.out.2.1) ?_
              rintro e w1 ⟨rfl, hq1, hb1⟩
              have NX : Hid (QAt w1 gf F ∧ QAt w1 gw (dias (cols R 4) 3) ∧ Below w.heap.size w w1) := ⟨I.out.1.keep hb1 HN.out.1, hq1, I.out.2.2.trans (hb1.mono HN.out.2)⟩
              clear hq1 hb1 I
              go_wp2
              go_roundw
              case rel => exact ⟨3, .inr (.inr (.inr (.inl ⟨rfl, by go_num⟩))), NX.out⟩
              case measure => simp [intOf]
            · go_wp2_with fail
              refine Calls.mono (rQuarter_any gw capw (dias (cols R 4) 3) 3 4 9 14 (by show _ = _; rw [dias_len]; rw [cols_len]; exact LR.out) (by show _ ∧ _; decide) _ I.out.2.1) ?_
              rintro e w1 ⟨rfl, hq1, hb1⟩
              have NX : Hid (QAt w1 gf F ∧ QAt w1 gw (dias (cols R 4) 4) ∧ Below w.heap.size w w1) := ⟨I.out.1.keep hb1 HN.out.1, hq1, I.out.2.2.trans (hb1.mono HN.out.2)⟩
              clear hq1 hb1 I
              go_wp2
              go_roundw
              case rel => exact ⟨4, .inr (.inr (.inr (.inr (⟨rfl, by go_num⟩)))), NX.out⟩
              case measure => simp [intOf]
            · have NX : Hid (QAt wr gf F ∧ QAt wr gw (Cc.rounds F (q + 1)) ∧ Below w.heap.size w wr) := by rw [NR.out]; exact I.out
              clear I
              go_wp2
              go_roundw
              case rel => exact ⟨q + 1, by omega, by go_num, NX.out⟩
              case measure => simp [intOf]; omega
end Go.Proofs.YtbkefhfbbhdpcaaDoor
