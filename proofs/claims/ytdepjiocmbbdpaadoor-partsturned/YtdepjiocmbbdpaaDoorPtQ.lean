/- A part is laid to its message. -/
import Derived.Test.YtdepjiocmbbdpaaDoorPtP
namespace Go.Proofs.YtdepjiocmbbdpaaDoor
open Go.RowKit Go.Proofs.Fd Go.Proofs.Pt
set_option maxRecDepth 20000

theorem fl_app (B C : List (Nat × Nat)) : fl (B ++ C) = fl B ++ fl C := by unfold fl; rw [List.flatMap_append]
theorem fl_in {B : List (Nat × Nat)} {k : Nat} (hk : k < B.length) : B[k].1 ∈ fl B ∧ B[k].2 ∈ fl B := ⟨fl_mem.2 ⟨B[k], List.getElem_mem hk, .inl rfl⟩, fl_mem.2 ⟨B[k], List.getElem_mem hk, .inr rfl⟩⟩
/-- Blocks of two messages are apart. -/
theorem fl_apart : ∀ {B : List (Nat × Nat)}, (fl B).Nodup → ∀ {i k : Nat} (hi : i < B.length) (hk : k < B.length), i ≠ k → B[i].1 ≠ B[k].1 ∧ B[i].1 ≠ B[k].2 ∧ B[i].2 ≠ B[k].1 ∧ B[i].2 ≠ B[k].2
  | [], _, i, _, hi, _, _ => absurd hi (Nat.not_lt_zero _)
  | x :: B, h, i, k, hi, hk, hne => by
    have h' : ([x.1, x.2] ++ fl B).Nodup := h
    rw [List.nodup_append] at h'
    obtain ⟨-, h2, h3⟩ := h'
    match i, k with
    | 0, 0 => exact absurd rfl hne
    | 0, k + 1 =>
      have hk' : k < B.length := by simpa using hk
      have q := fl_in hk'
      exact ⟨h3 x.1 (by simp) _ q.1, h3 x.1 (by simp) _ q.2, h3 x.2 (by simp) _ q.1, h3 x.2 (by simp) _ q.2⟩
    | i + 1, 0 =>
      have hi' : i < B.length := by simpa using hi
      have q := fl_in hi'
      exact ⟨fun e => h3 x.1 (by simp) _ q.1 e.symm, fun e => h3 x.2 (by simp) _ q.1 e.symm, fun e => h3 x.1 (by simp) _ q.2 e.symm, fun e => h3 x.2 (by simp) _ q.2 e.symm⟩
    | i + 1, k + 1 => exact fl_apart h2 (by simpa using hi) (by simpa using hk) (by omega)
/-- One message is another one now. -/
theorem JAt.setMs {w w' : World} {j : Nat} {J : Jn} {vS vD : Value} {B : List (Nat × Nat)} (h : JAt w j J vS vD B) {k : Nat} (hk : k < B.length) {x : Ms} (hx : MsgAt w' B[k].1 B[k].2 x) (hb : Bf (fun q => q = B[k].1 ∨ q = B[k].2) w w') : JAt w' j ⟨J.mo, J.no, J.S.set k x, J.D⟩ vS vD B := by
  have q := fl_in hk
  have ap : ∀ g, g ∉ fl B → g < w.heap.size → w'.heap[g]? = w.heap[g]? := fun g hg hl => hb.block g hl (fun e => by rcases e with rfl | rfl; exact hg q.1; exact hg q.2)
  refine ⟨h.blk.same (ap j h.jB h.blk.lt), ownsRow_same h.s fun g e => ap g (h.SB g e) (h.s.lt g e).2, ownsRow_same h.d fun g e => ap g (h.DB g e) (h.d.lt g e).2, by rw [List.length_set]; exact h.len, fun i hi hj => ?_, h.l8, h.nd, h.jS, h.jD, h.SD, h.jB, h.SB, h.DB, by rw [List.length_set]; exact h.lS, h.lD⟩
  simp only [List.getElem_set]
  by_cases e : k = i
  · subst e; rw [if_pos rfl]; exact hx
  · rw [if_neg e]
    have a := fl_apart h.nd hi hk (fun z => e z.symm)
    exact (h.ms i hi (by simpa using hj)).bf hb (by rintro (z | z); exact a.1 z; exact a.2.1 z) (by rintro (z | z); exact a.2.2.1 z; exact a.2.2.2 z)
/-- One message more. -/
theorem JAt.add {w w' : World} {j : Nat} {J : Jn} {vS vS' vD : Value} {B : List (Nat × Nat)} (h : JAt w j J vS vD B) {b g : Nat} {x : Ms} (hx : MsgAt w b g x) (hbw : b ∉ fl B ∧ g ∉ fl B ∧ b ≠ j ∧ g ≠ j ∧ vS.ownBlock ≠ some b ∧ vS.ownBlock ≠ some g ∧ vD.ownBlock ≠ some b ∧ vD.ownBlock ≠ some g)
    (hj : Blk w' j [.int .i64 (J.mo : Int), vS', .int .i64 (J.no : Int), vD]) (hs : PRow w' vS' (B.map Prod.fst ++ [b])) (hn : NewOwn w vS vS') (hb : Bf (fun z => z = j ∨ vS.ownBlock = some z) w w') (hl : J.S.length < 1024) : JAt w' j ⟨J.mo, J.no, J.S ++ [x], J.D⟩ vS' vD (B ++ [(b, g)]) := by
  obtain ⟨b1, b2, b3, b4, b5, b6, b7, b8⟩ := hbw
  have keep : ∀ q, q < w.heap.size → q ≠ j → vS.ownBlock ≠ some q → w'.heap[q]? = w.heap[q]? := fun q hq h1 h2 => hb.block q hq (fun e => by rcases e with e | e; exact h1 e; exact h2 e)
  have old : ∀ q, vS'.ownBlock = some q → vS.ownBlock = some q ∨ w.heap.size ≤ q := fun q e => by
    rcases hn with z | ⟨g', z, hz⟩
    · exact .inl (z ▸ e)
    · rw [z] at e; cases e; exact .inr hz
  have ltb := hx.a.lt
  have ltg := hx.r.lt
  refine ⟨hj, by rw [List.map_append]; exact hs, ownsRow_same h.d fun q e => keep q (h.d.lt q e).2 (fun z => h.jD (z ▸ e)) (fun z => h.SD q z e), by rw [List.length_append, List.length_append, h.len]; rfl, fun i hi hj' => ?_, h.l8, ?_, ?_, h.jD, ?_, ?_, ?_, ?_, by rw [List.length_append]; show J.S.length + 1 ≤ _; omega, h.lD⟩
  · by_cases e : i < B.length
    · have e' : i < J.S.length := by rw [← h.len]; exact e
      simp only [List.getElem_append_left e, List.getElem_append_left e']
      have q := fl_in e
      have m := h.ms i e e'
      exact m.same (keep _ m.a.lt (fun z => h.jB (z ▸ q.1)) (fun z => h.SB _ z q.1)) (keep _ m.r.lt (fun z => h.jB (z ▸ q.2)) (fun z => h.SB _ z q.2))
    · have hi' : i < B.length + 1 := by rw [List.length_append] at hi; exact hi
      obtain rfl : i = B.length := by omega
      have e' : B.length = J.S.length := h.len
      have e1 : (B ++ [(b, g)])[B.length] = (b, g) := by simp
      have e2 : (J.S ++ [x])[B.length]'hj' = x := by simp [e']
      rw [e1, e2]
      exact hx.same (keep b ltb b3 b5) (keep g ltg b4 b6)
  · rw [fl_app]
    refine List.nodup_append.2 ⟨h.nd, by unfold fl; simp; exact hx.ne, fun a ha c hc => ?_⟩
    unfold fl at hc
    simp at hc
    rintro rfl
    rcases hc with rfl | rfl
    · exact b1 ha
    · exact b2 ha
  · intro e
    rcases old j e with z | z
    · exact h.jS z
    · have := h.blk.lt; omega
  · intro q e e2
    rcases old q e with z | z
    · exact h.SD q z e2
    · have := (h.d.lt q e2).2; omega
  · rw [fl_app]; intro hm
    rcases List.mem_append.1 hm with z | z
    · exact h.jB z
    · unfold fl at z; simp at z; rcases z with z | z
      · exact b3 z.symm
      · exact b4 z.symm
  · intro q e hm
    rw [fl_app] at hm
    rcases old q e with z | z
    · rcases List.mem_append.1 hm with y | y
      · exact h.SB q z y
      · unfold fl at y; simp at y; rcases y with rfl | rfl
        · exact b5 z
        · exact b6 z
    · rcases List.mem_append.1 hm with y | y
      · obtain ⟨p, hp, e'⟩ := fl_mem.1 y
        have := h.lt (g := q) (.inr (.inr (.inr y))); omega
      · unfold fl at y; simp at y; rcases y with rfl | rfl
        · omega
        · omega
  · intro q e hm
    rw [fl_app] at hm
    rcases List.mem_append.1 hm with y | y
    · exact h.DB q e y
    · unfold fl at y; simp at y; rcases y with rfl | rfl
      · exact b7 e
      · exact b8 e
/-- What keep leaves: the message's place, all in memory. -/
structure KpP (w : World) (j : Nat) (J : Jn) (vS vD : Value) (B : List (Nat × Nat)) (p : Pa) (b : Nat) (w' : World) : Prop where
  at_ : ∃ vS' B' k, ∃ hk : k < B'.length, B'[k].1 = b ∧ k = (J.keep p).2 ∧ k < (J.keep p).1.length ∧ JAt w' j ⟨J.mo, J.no, (J.keep p).1.set k (((J.keep p).1.getD k dflt).take p), J.D⟩ vS' vD B' ∧ (∀ g, JF j vS' vD B' g → JF j vS vD B g ∨ w.heap.size ≤ g)
  bf : Bf (JF j vS vD B) w w'
set_option maxHeartbeats 4000000 in
theorem keep_any (j : Nat) (J : Jn) (vS vD : Value) (B : List (Nat × Nat)) (p : Pa) (h8 : Mk8 p.m) (hm : May p) (hl : p.p.length ≤ 200) (hmi : ∀ x ∈ J.S, 1 ≤ x.mi) (hroom : at_ J.S p.m.1 = none → J.S.length < J.mo) (hmo : J.mo ≤ 1024) (w : World) (h : Hid (JAt w j J vS vD B)) :
    Calls Tryd.prog 27 #[.pointer (some ⟨j, 0, none⟩), .agg (pac p).toArray] w fun e w' => ∃ b, e = .returned (.tuple #[.pointer (some ⟨b, 0, none⟩), .int .i64 (((J.keep p).1.getD (J.keep p).2 dflt).code p : Int)]) ∧ KpP w j J vS vD B p b w' := by
  obtain ⟨W0, hW0⟩ : ∃ W, w.alloc (.cells (pac p).toArray 64) = W := ⟨_, rfl⟩
  have y0 : Blk W0 w.heap.size (pac p) := hW0 ▸ Blk.new w (pac p) _ (pac_ne _)
  have b0 : Below w.heap.size w W0 := hW0 ▸ (Below.refl _ w).alloc (Nat.le_refl _) _
  have s0 : W0.heap.size = w.heap.size + 1 := by rw [← hW0]; simp
  have I0 : Hid (JAt W0 j J vS vD B ∧ Blk W0 w.heap.size (pac p) ∧ Below w.heap.size w W0) := ⟨h.out.later b0, y0, b0⟩
  have H8 : Hid (Mk8 p.m) := h8
  have WA : Hid (∀ W, JAt W j J vS vD B → Calls Tryd.prog 39 #[.pointer (some ⟨j, 0, none⟩), .agg (bc p.m.1).toArray] W fun e w' => e = .returned (wpt J B p.m.1) ∧ Below W.heap.size W w') := fun W hW => waiting_any j J vS vD B p.m.1 h8.a W hW
  have L0 : Hid (∀ W, Blk W w.heap.size (pac p) → (Instr.loadAt 57 (.pointer (some ⟨w.heap.size, 0, none⟩))).run Tryd.prog W = .ok (.agg (bc p.m.1).toArray) W) := fun W hW => load_name (paf hW.r H8.out).i (by rw [bc_len]; exact H8.out.a)
  have L1 : Hid (∀ W, Blk W w.heap.size (pac p) → (Instr.loadAt 64 (.pointer (some ⟨w.heap.size, 0, none⟩))).run Tryd.prog W = .ok (.agg (pac p).toArray) W) := fun W hW => load_part hW.r (pac_len H8.out)
  have L2 : Hid (∀ W, Blk W w.heap.size (pac p) → (Instr.loadAt 60 (.pointer (some ⟨w.heap.size, 0, none⟩))).run Tryd.prog W = .ok (.agg (mkc p.m).toArray) W) := fun W hW => load_mark (exec_msg hW) (mkc_len H8.out)
  clear y0 b0
  cases hat : at_ J.S p.m.1 with
  | some k =>
    obtain ⟨hkS, hki, -⟩ := at_some.1 hat
    have hkB : k < B.length := by rw [h.out.len]; exact hkS
    have ek : J.keep p = (J.S, k) := by unfold Jn.keep; rw [hat]
    have eg : J.S.getD k dflt = J.S[k] := by rw [List.getD_eq_getElem?_getD, List.getElem?_eq_getElem hkS]; rfl
    have ew : wpt J B p.m.1 = .pointer (some ⟨B[k].1, 0, none⟩) := by unfold wpt; rw [hat]; simp only [List.getD_eq_getElem?_getD, List.getElem?_eq_getElem hkB, Option.getD_some]
    rw [ew] at WA
    have MT : Hid (∀ W, JAt W j J vS vD B → Calls Tryd.prog 42 #[.pointer (some ⟨B[k].1, 0, none⟩), .agg (pac p).toArray] W fun e w' => e = .returned (.int .i64 (J.S[k].code p : Int)) ∧ MsgAt w' B[k].1 B[k].2 (J.S[k].take p) ∧ Bf (fun q => q = B[k].1 ∨ q = B[k].2) W w') := fun W hW => mtake_any B[k].1 B[k].2 J.S[k] p h8 hm hl (fun _ => hmi _ (List.getElem_mem hkS)) W (hW.ms k hkB hkS)
    have PO : Hid (∀ W W', JAt W j J vS vD B → Below w.heap.size w W → MsgAt W' B[k].1 B[k].2 (J.S[k].take p) → Bf (fun q => q = B[k].1 ∨ q = B[k].2) W W' → KpP w j J vS vD B p B[k].1 W') := fun W W' h1 h2 h3 h4 => by
      refine ⟨⟨vS, B, k, hkB, rfl, by rw [ek], by rw [ek]; exact hkS, ?_, fun g hg => .inl hg⟩, ?_⟩
      · rw [ek, eg]; exact h1.setMs hkB h3 h4
      · have q := fl_in hkB
        refine (Bf.of h2).trans (Nx.refl _ _) ⟨h4.os, h4.tape, h4.output, h4.size, fun z hz hF => h4.block z hz (fun e => hF (.inr (.inr (.inr ?_))))⟩
        rcases e with rfl | rfl
        · exact q.1
        · exact q.2
    rw [ek, eg]
    generalize B[k].1 = b at *
    generalize B[k].2 = gg at *
    generalize J.S[k].code p = cd at *
    generalize J.S[k].take p = tk at *
    clear hat hkS hki hkB ek eg ew hroom hmi h8 hm hl h
    go_enter Tryd.func27, Tryd.ntmps27
    go_upto_region 1 with fail
    refine wp_region_lit ?_
    refine wpList_plain rfl (fun K2 hK2 => ?_)
    go_simp
    refine hK2 _ _ ?_
    clear hK2 K2
    refine wpList_plain rfl (fun K2 hK2 => ?_)
    go_simp
    refine hK2 _ _ ?_
    clear hK2 K2
    refine wpList_plain rfl (fun K2 hK2 => ?_)
    go_simp
    refine hK2 _ _ ?_
    clear hK2 K2
    refine wpList_plain rfl (fun K2 hK2 => wp_load_run _ _ rfl _ rfl _ (L0.out _ I0.out.2.1) (hK2 _ _ ?_))
    try simp only [Act.put, List.setIfInBounds_toArray, List.set_cons_zero, List.set_cons_succ]
    refine wpList_plain rfl (fun K2 hK2 => ?_)
    go_simp
    refine Calls.mono (WA.out _ I0.out.1) ?_
    rintro e w2 ⟨rfl, hb2⟩
    have I2 : Hid (JAt w2 j J vS vD B ∧ Blk w2 w.heap.size (pac p) ∧ Below w.heap.size w w2) := ⟨I0.out.1.later hb2, I0.out.2.1.later hb2, chain I0.out.2.2 hb2⟩
    clear hb2 I0
    refine hK2 _ _ ?_
    clear hK2 K2
    try simp only [Act.put, List.setIfInBounds_toArray, List.set_cons_zero, List.set_cons_succ]
    refine wpList_plain rfl (fun K2 hK2 => ?_)
    go_simp
    refine hK2 _ _ ?_
    clear hK2 K2
    refine wpList_nil ?_
    try simp only [Act.put, List.setIfInBounds_toArray, List.set_cons_zero, List.set_cons_succ]
    go_upto_region 5 with fail
    refine wp_region_lit ?_
    refine wpList_plain rfl (fun K2 hK2 => ?_)
    go_simp
    refine hK2 _ _ ?_
    clear hK2 K2
    refine wpList_plain rfl (fun K2 hK2 => ?_)
    go_simp
    refine hK2 _ _ ?_
    clear hK2 K2
    refine wpList_plain rfl (fun K2 hK2 => wp_load_run _ _ rfl _ rfl _ (L1.out _ I2.out.2.1) (hK2 _ _ ?_))
    try simp only [Act.put, List.setIfInBounds_toArray, List.set_cons_zero, List.set_cons_succ]
    refine wpList_plain rfl (fun K2 hK2 => ?_)
    go_simp
    refine Calls.mono (MT.out _ I2.out.1) ?_
    rintro e w3 ⟨rfl, m3, b3⟩
    have F3 : Hid (MsgAt w3 b gg tk ∧ Bf (fun q => q = b ∨ q = gg) w2 w3) := ⟨m3, b3⟩
    clear m3 b3
    refine hK2 _ _ ?_
    clear hK2 K2
    try simp only [Act.put, List.setIfInBounds_toArray, List.set_cons_zero, List.set_cons_succ]
    refine wpList_plain rfl (fun K2 hK2 => ?_)
    go_simp
    refine hK2 _ _ ?_
    clear hK2 K2
    refine wpList_plain rfl (fun K2 hK2 => ?_)
    go_simp
    refine hK2 _ _ ?_
    clear hK2 K2
    refine wpList_nil ?_
    try simp only [Act.put, List.setIfInBounds_toArray, List.set_cons_zero, List.set_cons_succ]
    go_wp2
    go_ret2
    exact ⟨b, rfl, PO.out w2 w3 I2.out.1 I2.out.2.2 F3.out.1 F3.out.2⟩
  | none =>
    have hr := hroom hat
    have ne : J.S.length ≠ J.mo := by omega
    have ew : wpt J B p.m.1 = .pointer none := by unfold wpt; rw [hat]
    rw [ew] at WA
    have ep : push J.mo J.S (beg p.m) = J.S ++ [beg p.m] := by unfold push; rw [if_neg ne]
    have ek : J.keep p = (J.S ++ [beg p.m], J.S.length) := by unfold Jn.keep; rw [hat]; simp only [ep]; rw [List.length_append]; rfl
    have eg : (J.S ++ [beg p.m]).getD J.S.length dflt = beg p.m := by simp [List.getD_eq_getElem?_getD]
    have BG : Hid (∀ W, Calls Tryd.prog 40 #[.agg (mkc p.m).toArray] W fun e w' => ∃ b g, e = .returned (.pointer (some ⟨b, 0, none⟩)) ∧ MsgAt w' b g (beg p.m) ∧ W.heap.size ≤ b ∧ W.heap.size ≤ g ∧ Below W.heap.size W w') := fun W => begun_any p.m h8 (by have := hm.2.1; omega) hm.1 W
    have QP : Hid (∀ W b, JAt W j J vS vD B → Calls Tryd.prog 41 #[.pointer (some ⟨j, 0, none⟩), .pointer (some ⟨b, 0, none⟩)] W fun e w' => ∃ vS', e = .returned (.tuple #[]) ∧ Blk w' j [.int .i64 (J.mo : Int), vS', .int .i64 (J.no : Int), vD] ∧ PRow w' vS' (B.map Prod.fst ++ [b]) ∧ NewOwn W vS vS' ∧ Bf (fun z => z = j ∨ vS.ownBlock = some z) W w') := fun W b hW =>
      qput_any j J.mo J.no vS vD (B.map Prod.fst) b W hW.blk hW.s (by rw [List.length_map, hW.len]; exact ne) (by rw [List.length_map, hW.len]; exact hW.lS) hW.jS
    have hlS : J.S.length < 1024 := by omega
    have AD : Hid (∀ W b g W', JAt W j J vS vD B → w.heap.size + 1 ≤ b → w.heap.size + 1 ≤ g → MsgAt W b g (beg p.m) → ∀ vS', Blk W' j [.int .i64 (J.mo : Int), vS', .int .i64 (J.no : Int), vD] → PRow W' vS' (B.map Prod.fst ++ [b]) → NewOwn W vS vS' → Bf (fun z => z = j ∨ vS.ownBlock = some z) W W' → JAt W' j ⟨J.mo, J.no, J.S ++ [beg p.m], J.D⟩ vS' vD (B ++ [(b, g)])) := fun W b g W' h1 hb hg h2 vS' h3 h4 h5 h6 => by
      have lt : ∀ q, JF j vS vD B q → q < w.heap.size := fun q hq => h.out.lt hq
      exact h1.add h2 ⟨fun z => by have := lt b (.inr (.inr (.inr z))); omega, fun z => by have := lt g (.inr (.inr (.inr z))); omega, fun z => by have := lt j (.inl rfl); omega, fun z => by have := lt j (.inl rfl); omega, fun z => by have := lt b (.inr (.inl z)); omega, fun z => by have := lt g (.inr (.inl z)); omega, fun z => by have := lt b (.inr (.inr (.inl z))); omega, fun z => by have := lt g (.inr (.inr (.inl z))); omega⟩ h3 h4 h5 h6 hlS
    have MT : Hid (∀ W b g, MsgAt W b g (beg p.m) → Calls Tryd.prog 42 #[.pointer (some ⟨b, 0, none⟩), .agg (pac p).toArray] W fun e w' => e = .returned (.int .i64 ((beg p.m).code p : Int)) ∧ MsgAt w' b g ((beg p.m).take p) ∧ Bf (fun q => q = b ∨ q = g) W w') := fun W b g hW => mtake_any b g (beg p.m) p h8 hm hl (fun _ => by show 1 ≤ p.m.2.1; have := hm.2.1; omega) W hW
    have hBl : B.length = J.S.length := h.out.len
    have jw : ∀ q, JF j vS vD B q → q < w.heap.size := fun q hq => h.out.lt hq
    have PO : Hid (∀ W2 W3 W4 vS' b g, Below w.heap.size w W2 → w.heap.size + 1 ≤ b → w.heap.size + 1 ≤ g → NewOwn W2 vS vS' → Bf (fun z => z = j ∨ vS.ownBlock = some z) W2 W3 → JAt W3 j ⟨J.mo, J.no, J.S ++ [beg p.m], J.D⟩ vS' vD (B ++ [(b, g)]) → MsgAt W4 b g ((beg p.m).take p) → Bf (fun q => q = b ∨ q = g) W3 W4 → KpP w j J vS vD B p b W4) := fun W2 W3 W4 vS' b g h1 hb hg h2 h3 h4 h5 h6 => by
      have hkB : B.length < (B ++ [(b, g)]).length := by rw [List.length_append]; exact Nat.lt_succ_self _
      have eB : (B ++ [(b, g)])[B.length] = (b, g) := by simp
      refine ⟨⟨vS', B ++ [(b, g)], B.length, hkB, by rw [eB], by rw [ek]; exact hBl, by rw [ek, List.length_append, hBl]; exact Nat.lt_succ_self _, ?_, fun q hq => ?_⟩, ?_⟩
      · rw [ek]; simp only [hBl, eg]
        have := h4.setMs (k := B.length) hkB (x := (beg p.m).take p) (by rw [eB]; exact h5) (by rw [eB]; exact h6)
        simp only [hBl] at this
        exact this
      · rcases hq with hq | hq | hq | hq
        · exact .inl (.inl hq)
        · rcases h2 with z | ⟨g', z, hz⟩
          · exact .inl (.inr (.inl (z ▸ hq)))
          · rw [z] at hq; cases hq; exact .inr (Nat.le_trans h1.size hz)
        · exact .inl (.inr (.inr (.inl hq)))
        · rw [fl_app] at hq
          rcases List.mem_append.1 hq with z | z
          · exact .inl (.inr (.inr (.inr z)))
          · unfold fl at z; simp at z
            rcases z with rfl | rfl
            · exact .inr (by omega)
            · exact .inr (by omega)
      · have e1 : Bf (JF j vS vD B) w W2 := Bf.of h1
        have e2 : Bf (JF j vS vD B) W2 W3 := ⟨h3.os, h3.tape, h3.output, h3.size, fun z hz hF => h3.block z hz (fun e => by rcases e with e | e; exact hF (.inl e); exact hF (.inr (.inl e)))⟩
        have e23 := e1.trans (Nx.refl _ _) e2
        refine ⟨h6.os.trans e23.os, h6.tape.trans e23.tape, h6.output.trans e23.output, Nat.le_trans e23.size h6.size, fun z hz hF => (h6.block z (Nat.lt_of_lt_of_le hz e23.size) (fun e => by rcases e with e | e <;> omega)).trans (e23.block z hz hF)⟩
    rw [ek, eg]
    generalize (beg p.m).code p = cd at *
    generalize (beg p.m).take p = tk at *
    clear hat ek eg ew ep hroom hmi h8 hm hl h hr ne hlS
    go_enter Tryd.func27, Tryd.ntmps27
    go_upto_region 1 with fail
    refine wp_region_lit ?_
    refine wpList_plain rfl (fun K2 hK2 => ?_)
    go_simp
    refine hK2 _ _ ?_
    clear hK2 K2
    refine wpList_plain rfl (fun K2 hK2 => ?_)
    go_simp
    refine hK2 _ _ ?_
    clear hK2 K2
    refine wpList_plain rfl (fun K2 hK2 => ?_)
    go_simp
    refine hK2 _ _ ?_
    clear hK2 K2
    refine wpList_plain rfl (fun K2 hK2 => wp_load_run _ _ rfl _ rfl _ (L0.out _ I0.out.2.1) (hK2 _ _ ?_))
    try simp only [Act.put, List.setIfInBounds_toArray, List.set_cons_zero, List.set_cons_succ]
    refine wpList_plain rfl (fun K2 hK2 => ?_)
    go_simp
    refine Calls.mono (WA.out _ I0.out.1) ?_
    rintro e w2 ⟨rfl, hb2⟩
    have I2 : Hid (JAt w2 j J vS vD B ∧ Blk w2 w.heap.size (pac p) ∧ Below w.heap.size w w2) := ⟨I0.out.1.later hb2, I0.out.2.1.later hb2, chain I0.out.2.2 hb2⟩
    clear hb2 I0
    refine hK2 _ _ ?_
    clear hK2 K2
    try simp only [Act.put, List.setIfInBounds_toArray, List.set_cons_zero, List.set_cons_succ]
    refine wpList_plain rfl (fun K2 hK2 => ?_)
    go_simp
    refine hK2 _ _ ?_
    clear hK2 K2
    refine wpList_nil ?_
    try simp only [Act.put, List.setIfInBounds_toArray, List.set_cons_zero, List.set_cons_succ]
    go_upto_region 3 with fail
    have SZ : Hid (w.heap.size + 1 ≤ w2.heap.size) := I2.out.2.1.lt
    refine wp_region_lit ?_
    refine wpList_plain rfl (fun K2 hK2 => ?_)
    go_simp
    refine hK2 _ _ ?_
    clear hK2 K2
    refine wpList_plain rfl (fun K2 hK2 => wp_load_run _ _ rfl _ rfl _ (L2.out _ I2.out.2.1) (hK2 _ _ ?_))
    try simp only [Act.put, List.setIfInBounds_toArray, List.set_cons_zero, List.set_cons_succ]
    refine wpList_plain rfl (fun K2 hK2 => ?_)
    go_simp
    refine Calls.mono (BG.out _) ?_
    rintro e w5 ⟨b, g, rfl, m5, hb5, hg5, n5⟩
    have szw : w.heap.size + 1 ≤ w2.heap.size := SZ.out
    have F5 : Hid (Below w.heap.size w w5 ∧ w.heap.size + 1 ≤ b ∧ w.heap.size + 1 ≤ g ∧ MsgAt w5 b g (beg p.m) ∧ JAt w5 j J vS vD B ∧ Blk w5 w.heap.size (pac p)) := ⟨chain I2.out.2.2 n5, Nat.le_trans szw hb5, Nat.le_trans szw hg5, m5, I2.out.1.later n5, I2.out.2.1.later n5⟩
    clear m5 hb5 hg5 n5 szw
    refine hK2 _ _ ?_
    clear hK2 K2
    try simp only [Act.put, List.setIfInBounds_toArray, List.set_cons_zero, List.set_cons_succ]
    refine wpList_plain rfl (fun K2 hK2 => ?_)
    go_simp
    refine hK2 _ _ ?_
    clear hK2 K2
    refine wpList_nil ?_
    try simp only [Act.put, List.setIfInBounds_toArray, List.set_cons_zero, List.set_cons_succ]
    go_upto_region 4 with fail
    refine wp_region_lit ?_
    refine wpList_plain rfl (fun K2 hK2 => ?_)
    go_simp
    refine hK2 _ _ ?_
    clear hK2 K2
    refine wpList_plain rfl (fun K2 hK2 => ?_)
    go_simp
    refine hK2 _ _ ?_
    clear hK2 K2
    refine wpList_plain rfl (fun K2 hK2 => ?_)
    go_simp
    refine hK2 _ _ ?_
    clear hK2 K2
    refine wpList_plain rfl (fun K2 hK2 => ?_)
    go_simp
    refine hK2 _ _ ?_
    clear hK2 K2
    refine wpList_plain rfl (fun K2 hK2 => ?_)
    go_simp
    refine Calls.mono (QP.out _ b F5.out.2.2.2.2.1) ?_
    rintro e w6 ⟨vS', rfl, j6, o6, n6, b6⟩
    have bA : Blk w6 w.heap.size (pac p) := F5.out.2.2.2.2.2.bf b6 (by rintro (z | z); have := jw j (.inl rfl); omega; have := jw _ (.inr (.inl z)); omega)
    have F6 : Hid (NewOwn w5 vS vS' ∧ Bf (fun z => z = j ∨ vS.ownBlock = some z) w5 w6 ∧ JAt w6 j ⟨J.mo, J.no, J.S ++ [beg p.m], J.D⟩ vS' vD (B ++ [(b, g)])) := ⟨n6, b6, AD.out w5 b g w6 F5.out.2.2.2.2.1 F5.out.2.1 F5.out.2.2.1 F5.out.2.2.2.1 vS' j6 o6 n6 b6⟩
    have A6 : Hid (Blk w6 w.heap.size (pac p)) := bA
    clear j6 o6 n6 b6 bA
    refine hK2 _ _ ?_
    clear hK2 K2
    try simp only [Act.put, List.setIfInBounds_toArray, List.set_cons_zero, List.set_cons_succ]
    refine wpList_nil ?_
    try simp only [Act.put, List.setIfInBounds_toArray, List.set_cons_zero, List.set_cons_succ]
    go_upto_region 5 with fail
    have MS6 : Hid (MsgAt w6 b g (beg p.m)) := by
      show MsgAt w6 b g (beg p.m)
      have hkB : B.length < (B ++ [(b, g)]).length := by rw [List.length_append]; exact Nat.lt_succ_self _
      have := F6.out.2.2.ms B.length hkB (by rw [List.length_append, hBl]; exact Nat.lt_succ_self _)
      simpa [hBl] using this
    refine wp_region_lit ?_
    refine wpList_plain rfl (fun K2 hK2 => ?_)
    go_simp
    refine hK2 _ _ ?_
    clear hK2 K2
    refine wpList_plain rfl (fun K2 hK2 => ?_)
    go_simp
    refine hK2 _ _ ?_
    clear hK2 K2
    refine wpList_plain rfl (fun K2 hK2 => wp_load_run _ _ rfl _ rfl _ (L1.out _ A6.out) (hK2 _ _ ?_))
    try simp only [Act.put, List.setIfInBounds_toArray, List.set_cons_zero, List.set_cons_succ]
    refine wpList_plain rfl (fun K2 hK2 => ?_)
    go_simp
    have M6 : MsgAt w6 b g (beg p.m) := MS6.out
    refine Calls.mono (MT.out _ b g M6) ?_
    rintro e w7 ⟨rfl, m7, b7⟩
    have F7 : Hid (MsgAt w7 b g tk ∧ Bf (fun q => q = b ∨ q = g) w6 w7) := ⟨m7, b7⟩
    clear m7 b7 M6
    refine hK2 _ _ ?_
    clear hK2 K2
    try simp only [Act.put, List.setIfInBounds_toArray, List.set_cons_zero, List.set_cons_succ]
    refine wpList_plain rfl (fun K2 hK2 => ?_)
    go_simp
    refine hK2 _ _ ?_
    clear hK2 K2
    refine wpList_plain rfl (fun K2 hK2 => ?_)
    go_simp
    refine hK2 _ _ ?_
    clear hK2 K2
    refine wpList_nil ?_
    try simp only [Act.put, List.setIfInBounds_toArray, List.set_cons_zero, List.set_cons_succ]
    go_wp2
    go_ret2
    exact ⟨b, rfl, PO.out w5 w6 w7 vS' b g F5.out.1 F5.out.2.1 F5.out.2.2.1 F6.out.1 F6.out.2.1 F6.out.2.2 F7.out.1 F7.out.2⟩
end Go.Proofs.YtdepjiocmbbdpaaDoor
