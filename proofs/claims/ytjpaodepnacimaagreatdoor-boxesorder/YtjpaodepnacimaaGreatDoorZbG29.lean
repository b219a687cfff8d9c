/- Parts: BpJ, BpK, SnA. -/
import Derived.Test.YtjpaodepnacimaaGreatDoorZbG28
import Derived.Test.YtjpaodepnacimaaGreatDoorZbG20
namespace Go.Proofs.YtjpaodepnacimaaGreatDoor
open Go.RowKit Go.Proofs.Fd Go.Proofs.Dk Go.Proofs.Lg Go.Proofs.Bx
set_option maxRecDepth 20000
theorem storen_sh {us : List Value} (w : World) (hl : us.length = 64) (h1 : ∀ v ∈ us, v.oneCell' = true) : (Instr.storeAt 86 (.pointer (some ⟨w.heap.size, 0, none⟩)) (.agg us.toArray)).run Tryz.prog (w.alloc (.cells zsh.toArray 86)) = .ok () (w.alloc (.cells us.toArray 86)) :=
  run_storeAt_new w _ _ _ (by rw [List.size_toArray, hl]; exact sizeSh) (by rw [List.size_toArray, List.size_toArray, hl, zsh_len]) (by simpa using h1)
theorem Blk.mid {w : World} {b q : Nat} {vs : List Value} {quota : Nat} (h : Blk w b (bxc q vs quota)) : w.rangeAt b 1 vs ∧ w.there b 1 vs.length := by
  constructor
  · intro j u hj
    have := h.c (1 + j) u (by
      have hl := (List.getElem?_eq_some_iff.1 hj).1
      rw [Nat.add_comm, List.getElem?_cons_succ, List.getElem?_append_left hl]
      exact hj)
    exact this
  · intro j hj
    have := h.there (1 + j) (by simp; omega)
    rw [Nat.zero_add] at this
    exact this
set_option maxHeartbeats 8000000 in
theorem xwrite_any (w : World) (p q b quota : Nat) (s : St) (x : Lo) (bx c : Bxs) (F : Nat → Prop) (v : Value) (vs : List Value) (a : Option Addr) (n cc : Nat) (rs : List Bs) (hn : rs.length = n) (hnb : n ≤ 300) (hr : ∀ r ∈ rs, 1 ≤ r.length ∧ r.length ≤ 2000) (htk : tksX bx rs = some c) (hbl : ∀ v, (bx v).length ≤ 40000) (gc : Gx c) (hm : manyX c 64 ≤ 50000) (hl : s.l.length + 60000 ≤ 1000000) (hk : Hid (Kh w)) (w1 : World) (k : Hid (Py w w1 p F s q v x b quota vs bx)) (tx : Hid (TxAt w1 a rs)) (hap : Hid (∀ y, a = some y → 0 < rs.length → y.block < w1.heap.size ∧ ¬ FH F q v y.block)) :
    Calls Tryz.prog 41 #[.pointer (some ⟨b, 0, none⟩), .slice a n cc] w1 fun e w' => e = .returned (.int .i64 (wrX s x bx c rs).1.1.1) ∧ PyP w w1 (FB F q v b vs) p q b quota (wrX s x bx c rs).1.1.2 (wrX s x bx c rs).1.2 (wrX s x bx c rs).2 w' := by
  have hln := k.out.bv.ln
  have LD : Hid _ := load_sh k.out.bk.mid.1 hln
  have hsz : ∀ z, FH F q v z → z < w1.heap.size := fun z hz => (k.out.lz.fh hz).1
  have BH : Hid (Calls Tryz.prog 36 #[.agg vs.toArray, .slice a n cc] w1 fun e W0 => ∃ us, e = .returned (.tuple #[.agg us.toArray, .bool true]) ∧ Bvs (fun z => LF vs z ∨ w1.heap.size ≤ z) W0 us c ∧ Below w1.heap.size w1 W0) := by
    have := xbehind_any (fun z => LF vs z ∨ w1.heap.size ≤ z) w1 vs bx a n cc rs hn (by omega) hr (fun u => by have := hbl u; omega) (fun z hz => .inr hz) (k.out.bv.imp (fun z hz _ => .inl hz)) tx
    rw [htk] at this
    exact this
  have CC : Hid (∀ (F : Nat → Prop) (v : Value) (W1 W : World) s x, PyL w W1 F v p q b quota vs s x bx W → W.cell? ⟨b, 0, none⟩ = some (.pointer (some ⟨q, 0, none⟩))) := fun F v W1 W s x ⟨F', v', z, _, _⟩ => z.bk.c 0 _ rfl
  have NEXT : Hid (∀ (W0 : World) (us : List Value), Bvs (fun z => LF vs z ∨ w1.heap.size ≤ z) W0 us c → Below w1.heap.size w1 W0 →
      Hid (Calls Tryz.prog 70 #[.pointer (some ⟨b, 0, none⟩), .slice a n cc] (W0.alloc (.cells us.toArray 86)) fun e w' => e = .returned (.int .i64 (apX s x rs).1.1) ∧ Hid (PyL w (W0.alloc (.cells us.toArray 86)) F v p q b quota vs (apX s x rs).1.2 (apX s x rs).2 bx w'))
      ∧ Hid (∀ W s' x', PyL w (W0.alloc (.cells us.toArray 86)) F v p q b quota vs s' x' bx W → (Instr.loadAt 86 (.pointer (some ⟨W0.heap.size, 0, none⟩))).run Tryz.prog W = .ok (.agg us.toArray) W ∧ (Instr.storeAt 86 (.pointer (some ⟨b, 1, none⟩)) (.agg us.toArray)).run Tryz.prog W = .ok () (W.setCells b 1 us) ∧ Hid (PyP w w1 (FB F q v b vs) p q b quota s' x' c (W.setCells b 1 us)))
      ∧ Hid (∀ W s' x', PyL w (W0.alloc (.cells us.toArray 86)) F v p q b quota vs s' x' bx W → PyP w w1 (FB F q v b vs) p q b quota s' x' bx W ∧ Hid (Calls Tryz.prog 72 #[.pointer (some ⟨W0.heap.size, 0, none⟩)] W fun e w' => ∃ a c', e = .returned (.slice a (shX c).length c') ∧ w'.cell? ⟨b, 0, none⟩ = some (.pointer (some ⟨q, 0, none⟩)) ∧ Hid (TxAt w' a (shX c) ∧ (∀ x, a = some x → W.heap.size ≤ x.block) ∧ Below W.heap.size W w')))) := fun W0 us hus hb0 => by
    have nb1 := nb W0 (.cells us.toArray 86)
    have hb2 := chain hb0 nb1
    have hs0 := hb0.size
    have une : us ≠ [] := fun e => by have := hus.ln; rw [e] at this; simp at this
    have py2 := k.out.later hb2
    have s2 : (W0.alloc (.cells us.toArray 86)).heap.size = W0.heap.size + 1 := by simp
    have shl : Shl (fun z => (LF vs z ∨ w1.heap.size ≤ z) ∧ z < W0.heap.size) (W0.alloc (.cells us.toArray 86)) W0.heap.size us c := ⟨Blk.new W0 us _ une, (hus.imp (fun z hz hlt => ⟨hz, hlt⟩)).later nb1, fun z => Nat.lt_irrefl _ z.2⟩
    have kf : ∀ z, (LF vs z ∨ w1.heap.size ≤ z) ∧ z < W0.heap.size → ¬ FH F q v z := fun z hz c => by
      rcases hz.1 with e | e
      · exact (k.out.ap z e).1 c
      · have := hsz z c; omega
    have shW : ∀ W s' x', PyL w (W0.alloc (.cells us.toArray 86)) F v p q b quota vs s' x' bx W → Shl (fun z => (LF vs z ∨ w1.heap.size ≤ z) ∧ z < W0.heap.size) W W0.heap.size us c := fun W s' x' ⟨F', v', z, n2, f⟩ =>
      ⟨shl.bk.bf f (fun e => by have := hsz _ e; omega), shl.bv.bf f kf, shl.ks⟩
    have hnF : ∀ {F' : Nat → Prop} {v' : Value}, Nx (W0.alloc (.cells us.toArray 86)) (FH F q v) (FH F' q v') → Nx w1 (FB F q v b vs) (FB F' q v' b vs) := fun n2 z hz => by
      rcases hz with e | e
      · rcases n2 z e with e | e
        · exact .inl (.inl e)
        · exact .inr (by omega)
      · exact .inl (.inr e)
    have hfF : ∀ {W : World}, Bf (FH F q v) (W0.alloc (.cells us.toArray 86)) W → Bf (FB F q v b vs) w1 W := fun f => (Bf.of hb2).trans (Nx.refl _ _) (f.wide fun z e => .inl e)
    refine ⟨?_, fun W s' x' z => ?_, fun W s' x' z => ⟨?_, ?_⟩⟩
    · exact (xappend_any w p q b quota s x bx F v vs a n cc rs hn (by omega) (by omega) hk _ py2 (tx.out.later hb2) (fun y e h0 => ⟨Nat.lt_of_lt_of_le (hap.out y e h0).1 hb2.size, (hap.out y e h0).2⟩)).mono fun _ _ ⟨e1, e2⟩ => ⟨e1, e2⟩
    · have sh := shW W s' x' z
      obtain ⟨F', v', py, n2, f⟩ := z
      have hu : us.length = vs.length := by rw [hus.ln, hln]
      refine ⟨load_sh sh.bk.r hus.ln, store_sh (by have := py.bk.mid.2; rw [hln] at this; exact this) hus.ln hus.one, ?_⟩
      refine py.set sh.bv (fun g hg _ => ⟨hg.1, fun e => ?_, ?_, ?_⟩) (hnF n2) (hfF f)
      · rcases n2 g e with e | e
        · exact kf g hg e
        · have := hg.2; omega
      · intro e
        rcases hg.1 with c1 | c1
        · exact (k.out.ap g c1).2.1 e
        · have := k.out.bk.lt; omega
      · rcases hg.1 with c1 | c1
        · exact (k.out.ap g c1).2.2
        · have := k.out.lz.hd_.dl.below.size; omega
    · obtain ⟨F', v', py, n2, f⟩ := z
      exact ⟨F', v', vs, py, hnF n2, hfF f⟩
    · have sh := shW W s' x' z
      obtain ⟨F', v', py, n2, f⟩ := z
      exact (xshort_any _ W W0.heap.size us c gc hm sh).mono fun _ w' ⟨a, c', e1, e2, e3, e4⟩ => ⟨a, c', e1, (py.bk.later e4).c 0 _ rfl, e2, e3, e4⟩
  have SY : Hid (∀ (W2 W : World) s x, s.l.length ≤ 1000000 → PyL w W2 F v p q b quota vs s x bx W → Calls Tryz.prog 54 #[.pointer (some ⟨q, 0, none⟩)] W fun e w' => e = .returned (.int .i64 (syE s)) ∧ Hid (PyL w W2 F v p q b quota vs (syS s) x bx w')) := fun W2 W s x hl ⟨F', v', z, n, f⟩ =>
    (lzsync_any w W p F' s q v' x hl z.lz).mono fun _ _ ⟨e1, e2⟩ => ⟨e1, (z.log1 e2).trans n f⟩
  have CP : Hid (∀ (W2 W W4 : World) s x a' c', s.l.length + 4000 ≤ 1000000 → PyL w W2 F v p q b quota vs s x bx W → Below W.heap.size W W4 → TxAt W4 a' (shX c) → (∀ y, a' = some y → W.heap.size ≤ y.block) → Calls Tryz.prog 71 #[.pointer (some ⟨q, 0, none⟩), .slice a' (shX c).length c'] W4 fun e w' => e = .returned (.int .i64 (cmp s x (shX c)).1.1) ∧ w'.cell? ⟨b, 0, none⟩ = some (.pointer (some ⟨q, 0, none⟩)) ∧ Hid (PyL w W2 F v p q b quota vs (cmp s x (shX c)).1.2 (cmp s x (shX c)).2 bx w')) := fun W2 W W4 s x a' c' hl ⟨F', v', z, n, f⟩ hb tx hnew => by
    have z4 := z.later hb
    refine (lzcompact_any w W4 p F' s q v' x a' _ c' (shX c) rfl (by rw [shX_len]; omega) hl hk.out z4.lz tx (fun y e _ cc => ?_)).mono ?_
    · have := hnew y e
      have := z.lz.hd_.dl.at_.lt cc
      omega
    · rintro e w' ⟨e1, e2⟩
      have zz := z4.log1 e2
      exact ⟨e1, by obtain ⟨F'', v'', g, _, _⟩ := zz; exact g.bk.c 0 _ rfl, zz.trans n (f.later hb)⟩
  have kap := kp_apX rs s x k.out.lz.h1
  have hal : (apX s x rs).1.2.l.length + 4000 ≤ 1000000 := by have := kap.1.l; omega
  have EW : Hid (wrX s x bx c rs = if (apX s x rs).1.1 = 151 then (cmp (apX s x rs).1.2 (apX s x rs).2 (shX c), if (cmp (apX s x rs).1.2 (apX s x rs).2 (shX c)).1.1 = 0 then c else bx) else if (apX s x rs).1.1 ≠ 0 then (apX s x rs, bx) else (((syE (apX s x rs).1.2, syS (apX s x rs).1.2), (apX s x rs).2), if syE (apX s x rs).1.2 = 0 then c else bx)) := rfl
  obtain ⟨R, hR⟩ : ∃ R, wrX s x bx c rs = R := ⟨_, rfl⟩
  rw [hR] at EW
  rw [hR]
  obtain ⟨⟨⟨ya, sa⟩, xa⟩, hA⟩ : ∃ A, apX s x rs = A := ⟨_, rfl⟩
  rw [hA] at NEXT EW hal
  have EW2 : Hid (R = if ya = 151 then (cmp sa xa (shX c), if (cmp sa xa (shX c)).1.1 = 0 then c else bx) else if ya ≠ 0 then (((ya, sa), xa), bx) else (((syE sa, syS sa), xa), if syE sa = 0 then c else bx)) := EW.out
  have NX2 : Hid _ := NEXT.out
  obtain ⟨N, hN⟩ : ∃ N, (shX c).length = N := ⟨_, rfl⟩
  rw [hN] at NEXT CP
  clear k tx hap hR hA hN EW hln hsz hn hr htk hbl gc hm hl hk kap NX2
  by_cases h151 : ya = 151
  · have EW3 := EW2.out
    rw [if_pos h151] at EW3
    obtain ⟨⟨⟨yc, sc⟩, xc⟩, hcx⟩ : ∃ z, cmp sa xa (shX c) = z := ⟨_, rfl⟩
    have C2 : Hid _ := fun W2 W W4 a' c' hp hb tx hnew => CP.out W2 W W4 sa xa a' c' hal hp hb tx hnew
    rw [hcx] at EW3 C2
    clear CP SY hcx EW2
    subst h151
    go_enter Tryz.func41, Tryz.ntmps41
    go_upto_region 1 with fail
    refine wp_region_lit ?_
    refine wpList_plain rfl (fun K2 hK2 => ?_)
    go_simp
    refine hK2 _ _ ?_
    clear hK2 K2
    refine wpList_plain rfl (fun K2 hK2 => ?_)
    go_simp
    refine hK2 _ _ ?_
    clear hK2 K2
    refine wpList_plain rfl (fun K2 hK2 => ?_)
    go_simp
    refine hK2 _ _ ?_
    clear hK2 K2
    refine wpList_plain rfl (fun K2 hK2 => wp_load_run _ _ rfl _ rfl _ LD.out (hK2 _ _ ?_))
    refine wpList_plain rfl (fun K2 hK2 => ?_)
    go_simp
    refine hK2 _ _ ?_
    clear hK2 K2
    refine wpList_plain rfl (fun K2 hK2 => ?_)
    go_simp
    refine Calls.mono BH.out ?_
    rintro e W0 ⟨us, rfl, hus, hb0⟩
    refine hK2 _ _ ?_
    clear hK2 K2
    refine wpList_plain rfl (fun K2 hK2 => ?_)
    go_simp
    refine hK2 _ _ ?_
    clear hK2 K2
    refine wpList_plain rfl (fun K2 hK2 => ?_)
    go_simp
    refine hK2 _ _ ?_
    clear hK2 K2
    refine wpList_plain rfl (fun K2 hK2 => ?_)
    go_simp
    refine hK2 _ _ ?_
    clear hK2 K2
    refine wpList_plain rfl (fun K2 hK2 => wp_alloc_run _ rfl _ _ (alloc_sh _) (hK2 _ _ ?_))
    refine wpList_plain rfl (fun K2 hK2 => wp_store_run _ _ _ rfl _ rfl _ rfl _ (storen_sh _ hus.ln hus.one) (hK2 _ _ ?_))
    refine wpList_plain rfl (fun K2 hK2 => ?_)
    go_simp
    refine hK2 _ _ ?_
    clear hK2 K2
    refine wpList_nil ?_
    try simp only [Act.put, List.setIfInBounds_toArray, List.set_cons_zero, List.set_cons_succ]
    obtain ⟨A1, FN, SO⟩ := NEXT.out W0 us hus hb0
    obtain ⟨C, hC⟩ : ∃ C, W0.heap.size = C := ⟨_, rfl⟩
    obtain ⟨W2, hW2⟩ : ∃ W, W0.alloc (.cells us.toArray 86) = W := ⟨_, rfl⟩
    rw [hW2] at A1 FN SO
    rw [hC] at FN SO
    rw [hC, hW2]
    clear LD BH NEXT hus hb0 hC hW2
    go_wp2_with fail
    refine Calls.mono A1.out ?_
    rintro e w3 ⟨rfl, H3⟩
    have c3 := CC.out _ _ _ _ _ _ H3.out
    clear A1
    have H3d : Hid _ := PyL.later H3.out ((Below.refl _ w3).drew)
    obtain ⟨-, S3⟩ := SO.out _ _ _ H3d.out
    have SX : Hid _ := fun W s' x' z => (SO.out W s' x' z).1
    have C3 : Hid _ := fun W4 a' c' hb tx hnew => C2.out W2 w3.drew W4 a' c' H3d.out hb tx hnew
    clear SO C2 H3
    go_wp2_with fail
    go_region_held3 (fun w' => w'.cell? ⟨b, 0, none⟩ = some (.pointer (some ⟨q, 0, none⟩))) (first | exact c3 | assumption) (first | (go_at_call 72; refine Calls.mono S3.out ?_; rintro e w4 ⟨a4, c4, rfl, hc4, H4⟩) | (go_at_call 71; refine Calls.mono (C3.out _ _ _ H4.out.2.2 H4.out.1 H4.out.2.1) ?_; rintro e w5 ⟨rfl, hc5, H5⟩))
    clear S3 C3 H4 hc4 c3
    by_cases h0 : yc = 0
    · rw [if_pos h0] at EW3
      subst h0
      have ER : Hid _ := EW3
      clear EW3 SX
      obtain ⟨L1, S1, F1⟩ := FN.out _ _ _ H5.out
      have L2 : Hid _ := L1
      have S2 : Hid _ := S1
      have F2 : Hid _ := F1.out
      clear FN F1 L1 S1
      go_upto_region 10 with fail
      refine wp_region_lit ?_
      refine wpList_plain rfl (fun K2 hK2 => ?_)
      go_simp
      refine hK2 _ _ ?_
      clear hK2 K2
      refine wpList_plain rfl (fun K2 hK2 => wp_load_run _ _ rfl _ rfl _ L2.out (hK2 _ _ ?_))
      refine wpList_plain rfl (fun K2 hK2 => ?_)
      go_simp
      refine hK2 _ _ ?_
      clear hK2 K2
      refine wpList_plain rfl (fun K2 hK2 => ?_)
      go_simp
      refine hK2 _ _ ?_
      clear hK2 K2
      refine wpList_plain rfl (fun K2 hK2 => wp_store_run _ _ _ rfl _ rfl _ rfl _ S2.out (hK2 _ _ ?_))
      refine wpList_nil ?_
      obtain ⟨W9, hW9⟩ : ∃ W, w5.setCells b 1 us = W := ⟨_, rfl⟩
      rw [hW9] at F2 ⊢
      clear S2 L2 hW9
      go_wp2
      go_ret
      exact ⟨by rw [ER.out]; rfl, by rw [ER.out]; exact F2.out⟩
    · rw [if_neg h0] at EW3
      have ER : Hid _ := EW3
      have F2 : Hid _ := SX.out _ _ _ H5.out
      clear EW3 FN H5 SX
      go_wp2
      go_ret
      exact ⟨by rw [ER.out]; rfl, by rw [ER.out]; exact F2.out⟩
  · have EW3 := EW2.out
    rw [if_neg h151] at EW3
    by_cases ha0 : ya = 0
    · rw [if_neg (by rw [ha0]; simp)] at EW3
      have S2a : Hid _ := fun W2 W hp => SY.out W2 W sa xa (by have := hal; simp only at this; omega) hp
      obtain ⟨yc, hyc⟩ : ∃ z, syE sa = z := ⟨_, rfl⟩
      obtain ⟨sc, hsc⟩ : ∃ z, syS sa = z := ⟨_, rfl⟩
      rw [hyc, hsc] at EW3 S2a
      clear CP SY hyc hsc EW2 h151
      subst ha0
      go_enter Tryz.func41, Tryz.ntmps41
      go_upto_region 1 with fail
      refine wp_region_lit ?_
      refine wpList_plain rfl (fun K2 hK2 => ?_)
      go_simp
      refine hK2 _ _ ?_
      clear hK2 K2
      refine wpList_plain rfl (fun K2 hK2 => ?_)
      go_simp
      refine hK2 _ _ ?_
      clear hK2 K2
      refine wpList_plain rfl (fun K2 hK2 => ?_)
      go_simp
      refine hK2 _ _ ?_
      clear hK2 K2
      refine wpList_plain rfl (fun K2 hK2 => wp_load_run _ _ rfl _ rfl _ LD.out (hK2 _ _ ?_))
      refine wpList_plain rfl (fun K2 hK2 => ?_)
      go_simp
      refine hK2 _ _ ?_
      clear hK2 K2
      refine wpList_plain rfl (fun K2 hK2 => ?_)
      go_simp
      refine Calls.mono BH.out ?_
      rintro e W0 ⟨us, rfl, hus, hb0⟩
      refine hK2 _ _ ?_
      clear hK2 K2
      refine wpList_plain rfl (fun K2 hK2 => ?_)
      go_simp
      refine hK2 _ _ ?_
      clear hK2 K2
      refine wpList_plain rfl (fun K2 hK2 => ?_)
      go_simp
      refine hK2 _ _ ?_
      clear hK2 K2
      refine wpList_plain rfl (fun K2 hK2 => ?_)
      go_simp
      refine hK2 _ _ ?_
      clear hK2 K2
      refine wpList_plain rfl (fun K2 hK2 => wp_alloc_run _ rfl _ _ (alloc_sh _) (hK2 _ _ ?_))
      refine wpList_plain rfl (fun K2 hK2 => wp_store_run _ _ _ rfl _ rfl _ rfl _ (storen_sh _ hus.ln hus.one) (hK2 _ _ ?_))
      refine wpList_plain rfl (fun K2 hK2 => ?_)
      go_simp
      refine hK2 _ _ ?_
      clear hK2 K2
      refine wpList_nil ?_
      try simp only [Act.put, List.setIfInBounds_toArray, List.set_cons_zero, List.set_cons_succ]
      obtain ⟨A1, FN, SO⟩ := NEXT.out W0 us hus hb0
      obtain ⟨C, hC⟩ : ∃ C, W0.heap.size = C := ⟨_, rfl⟩
      obtain ⟨W2, hW2⟩ : ∃ W, W0.alloc (.cells us.toArray 86) = W := ⟨_, rfl⟩
      rw [hW2] at A1 FN SO
      rw [hC] at FN SO
      rw [hC, hW2]
      clear LD BH NEXT hus hb0 hC hW2
      go_wp2_with fail
      refine Calls.mono A1.out ?_
      rintro e w3 ⟨rfl, H3⟩
      have c3 := CC.out _ _ _ _ _ _ H3.out
      clear A1
      have S3 : Hid _ := S2a.out _ _ H3.out
      have SX : Hid _ := fun W s' x' z => (SO.out W s' x' z).1
      clear S2a H3 SO
      go_wp2_with fail
      refine Calls.mono S3.out ?_
      rintro e w5 ⟨rfl, H5⟩
      have hc5 := CC.out _ _ _ _ _ _ H5.out
      clear S3 c3
      by_cases h0 : yc = 0
      · rw [if_pos h0] at EW3
        subst h0
        have ER : Hid _ := EW3
        clear EW3 SX
        obtain ⟨L1, S1, F1⟩ := FN.out _ _ _ H5.out
        have L2 : Hid _ := L1
        have S2 : Hid _ := S1
        have F2 : Hid _ := F1.out
        clear FN F1 L1 S1
        go_upto_region 10 with fail
        refine wp_region_lit ?_
        refine wpList_plain rfl (fun K2 hK2 => ?_)
        go_simp
        refine hK2 _ _ ?_
        clear hK2 K2
        refine wpList_plain rfl (fun K2 hK2 => wp_load_run _ _ rfl _ rfl _ L2.out (hK2 _ _ ?_))
        refine wpList_plain rfl (fun K2 hK2 => ?_)
        go_simp
        refine hK2 _ _ ?_
        clear hK2 K2
        refine wpList_plain rfl (fun K2 hK2 => ?_)
        go_simp
        refine hK2 _ _ ?_
        clear hK2 K2
        refine wpList_plain rfl (fun K2 hK2 => wp_store_run _ _ _ rfl _ rfl _ rfl _ S2.out (hK2 _ _ ?_))
        refine wpList_nil ?_
        obtain ⟨W9, hW9⟩ : ∃ W, w5.setCells b 1 us = W := ⟨_, rfl⟩
        rw [hW9] at F2 ⊢
        clear S2 L2 hW9
        go_wp2
        go_ret
        exact ⟨by rw [ER.out]; rfl, by rw [ER.out]; exact F2.out⟩
      · rw [if_neg h0] at EW3
        have ER : Hid _ := EW3
        have F2 : Hid _ := SX.out _ _ _ H5.out
        clear EW3 FN H5 SX
        go_wp2
        go_ret
        exact ⟨by rw [ER.out]; rfl, by rw [ER.out]; exact F2.out⟩
    · rw [if_pos ha0] at EW3
      have ER : Hid _ := EW3
      clear CP SY EW2 EW3
      go_enter Tryz.func41, Tryz.ntmps41
      go_upto_region 1 with fail
      refine wp_region_lit ?_
      refine wpList_plain rfl (fun K2 hK2 => ?_)
      go_simp
      refine hK2 _ _ ?_
      clear hK2 K2
      refine wpList_plain rfl (fun K2 hK2 => ?_)
      go_simp
      refine hK2 _ _ ?_
      clear hK2 K2
      refine wpList_plain rfl (fun K2 hK2 => ?_)
      go_simp
      refine hK2 _ _ ?_
      clear hK2 K2
      refine wpList_plain rfl (fun K2 hK2 => wp_load_run _ _ rfl _ rfl _ LD.out (hK2 _ _ ?_))
      refine wpList_plain rfl (fun K2 hK2 => ?_)
      go_simp
      refine hK2 _ _ ?_
      clear hK2 K2
      refine wpList_plain rfl (fun K2 hK2 => ?_)
      go_simp
      refine Calls.mono BH.out ?_
      rintro e W0 ⟨us, rfl, hus, hb0⟩
      refine hK2 _ _ ?_
      clear hK2 K2
      refine wpList_plain rfl (fun K2 hK2 => ?_)
      go_simp
      refine hK2 _ _ ?_
      clear hK2 K2
      refine wpList_plain rfl (fun K2 hK2 => ?_)
      go_simp
      refine hK2 _ _ ?_
      clear hK2 K2
      refine wpList_plain rfl (fun K2 hK2 => ?_)
      go_simp
      refine hK2 _ _ ?_
      clear hK2 K2
      refine wpList_plain rfl (fun K2 hK2 => wp_alloc_run _ rfl _ _ (alloc_sh _) (hK2 _ _ ?_))
      refine wpList_plain rfl (fun K2 hK2 => wp_store_run _ _ _ rfl _ rfl _ rfl _ (storen_sh _ hus.ln hus.one) (hK2 _ _ ?_))
      refine wpList_plain rfl (fun K2 hK2 => ?_)
      go_simp
      refine hK2 _ _ ?_
      clear hK2 K2
      refine wpList_nil ?_
      try simp only [Act.put, List.setIfInBounds_toArray, List.set_cons_zero, List.set_cons_succ]
      obtain ⟨A1, FN, SO⟩ := NEXT.out W0 us hus hb0
      obtain ⟨C, hC⟩ : ∃ C, W0.heap.size = C := ⟨_, rfl⟩
      obtain ⟨W2, hW2⟩ : ∃ W, W0.alloc (.cells us.toArray 86) = W := ⟨_, rfl⟩
      rw [hW2] at A1 FN SO
      rw [hC] at FN SO
      rw [hC, hW2]
      clear LD BH NEXT hus hb0 hC hW2
      go_wp2_with fail
      refine Calls.mono A1.out ?_
      rintro e w3 ⟨rfl, H3⟩
      have c3 := CC.out _ _ _ _ _ _ H3.out
      clear A1
      have F2 : Hid _ := (SO.out _ _ _ H3.out).1
      clear FN H3 SO
      go_wp2
      go_ret
      exact ⟨by rw [ER.out]; rfl, by rw [ER.out]; exact F2.out⟩
end Go.Proofs.YtjpaodepnacimaaGreatDoor
namespace Go.Proofs.YtjpaodepnacimaaGreatDoor
open Go.RowKit Go.Proofs.Fd Go.Proofs.Dk Go.Proofs.Lg Go.Proofs.Bx
set_option maxRecDepth 20000
def lnX (bx : Bxs) (u : Int) : Nat := if noU u = true then 0 else (bx u.toNat).length
theorem noU_nat {u : Int} (h : noU u = false) : ∃ n : Nat, u = (n : Int) ∧ n < 64 := by
  unfold noU at h
  simp at h
  exact ⟨u.toNat, by omega, by omega⟩
theorem Py.cell {w wr : World} {p : Nat} {F : Nat → Prop} {s : St} {q : Nat} {v : Value} {x : Lo} {b quota : Nat} {vs : List Value} {bx : Bxs} (k : Py w wr p F s q v x b quota vs bx) {u : Nat} (hu : u < 64) : ∃ a n c, wr.cell? ⟨b, 1 + u, none⟩ = some (.slice a n c) ∧ Sli wr a n c (bx u) := by
  obtain ⟨a, n, c, e, sl, -⟩ := k.bv.bx u hu
  exact ⟨a, n, c, k.bk.mid.1 u _ e, sl⟩
theorem Py.quo {w wr : World} {p : Nat} {F : Nat → Prop} {s : St} {q : Nat} {v : Value} {x : Lo} {b quota : Nat} {vs : List Value} {bx : Bxs} (k : Py w wr p F s q v x b quota vs bx) : wr.cell? ⟨b, 65, none⟩ = some (.int .i64 (quota : Int)) := by
  refine k.bk.c 65 _ ?_
  rw [List.getElem?_cons_succ, List.getElem?_append_right (by rw [k.bv.ln]; decide), k.bv.ln]
  rfl
theorem xlen_any (w wr : World) (p : Nat) (F : Nat → Prop) (s : St) (q : Nat) (v : Value) (x : Lo) (b quota : Nat) (vs : List Value) (bx : Bxs) (u : Int) (k : Hid (Py w wr p F s q v x b quota vs bx)) :
    Calls Tryz.prog 10 #[.pointer (some ⟨b, 0, none⟩), .int .i64 u] wr fun e w' => e = .returned (.int .i64 (lnX bx u : Int)) ∧ w' = wr := by
  have US : Hid _ := xuser_any u wr
  unfold lnX
  cases hU : noU u with
  | true =>
    rw [hU] at US
    rw [if_pos rfl]
    clear k hU
    go_enter Tryz.func10, Tryz.ntmps10
    go_wp2_with fail
    refine Calls.mono US.out ?_
    rintro e w1 ⟨rfl, rfl⟩
    clear US
    go_wp2
    go_ret
    exact ⟨rfl, rfl⟩
  | false =>
    obtain ⟨n, rfl, hn⟩ := noU_nat hU
    rw [hU] at US
    rw [if_neg (by simp), Int.toNat_natCast]
    obtain ⟨a, m, c, cu, sl⟩ := k.out.cell hn
    have EL : Hid ((bx n).length = m) := sl.len
    have g0 : (0 : Int) ≤ (n : Int) := by omega
    have g64 : (n : Int) < 64 := by omega
    clear k hU sl
    go_enter Tryz.func10, Tryz.ntmps10
    go_wp2_with fail
    refine Calls.mono US.out ?_
    rintro e w1 ⟨rfl, rfl⟩
    clear US
    go_wp2
    go_ret
    exact ⟨by rw [EL.out]; rfl, rfl⟩
set_option maxHeartbeats 4000000 in
theorem xputB_any (w : World) (p q b quota : Nat) (s : St) (x : Lo) (bx : Bxs) (F : Nat → Prop) (v : Value) (vs : List Value) (u : Int) (X T : ByteArray) (gb : Gx bx) (hm : manyX bx 64 ≤ 30000) (hl : s.l.length + 60000 ≤ 1000000) (hk : Hid (Kh w)) (w1 : World) (k : Hid (Py w w1 p F s q v x b quota vs bx)) :
    Calls Tryz.prog 21 #[.pointer (some ⟨b, 0, none⟩), .int .i64 u, .string X, .string T] w1 fun e w' => e = .returned (.int .i64 (puX quota s x bx u X.data.toList T.data.toList).1.1.1) ∧ PyP w w1 (FB F q v b vs) p q b quota (puX quota s x bx u X.data.toList T.data.toList).1.1.2 (puX quota s x bx u X.data.toList T.data.toList).1.2 (puX quota s x bx u X.data.toList T.data.toList).2 w' := by
  have US : Hid _ := xuser_any u w1
  have ID : Hid _ := xid_any X w1
  have TX : Hid (∀ W, _) := fun W => xtext_any T W
  have STAY : Hid (∀ W, Below w1.heap.size w1 W → PyP w w1 (FB F q v b vs) p q b quota s x bx W) := fun W hb => k.out.start.later hb
  have hTl : T.data.toList.length = T.size := by simp
  obtain ⟨R, hR⟩ : ∃ R, puX quota s x bx u X.data.toList T.data.toList = R := ⟨_, rfl⟩
  have HR : Hid (puX quota s x bx u X.data.toList T.data.toList = R) := hR
  rw [hR]
  unfold puX at hR
  cases hU : noU u with
  | true =>
    rw [if_pos hU] at hR
    rw [hU] at US
    have FF : Hid _ := STAY.out w1 (Below.refl _ _)
    have ER : Hid _ := hR
    clear hR HR k hU STAY TX ID hTl
    go_enter Tryz.func21, Tryz.ntmps21
    go_wp2_with fail
    refine Calls.mono US.out ?_
    rintro e w2 ⟨rfl, rfl⟩
    clear US
    go_wp2
    go_ret
    exact ⟨by rw [← ER.out]; rfl, by rw [← ER.out]; exact FF.out⟩
  | false =>
    rw [if_neg (by rw [hU]; simp)] at hR
    rw [hU] at US
    cases hI : okI X.data.toList with
    | false =>
      rw [if_pos hI] at hR
      rw [hI] at ID
      have ER : Hid _ := hR
      clear hR HR k hU hI TX hTl
      go_enter Tryz.func21, Tryz.ntmps21
      go_wp2_with fail
      refine Calls.mono US.out ?_
      rintro e w2 ⟨rfl, rfl⟩
      clear US
      go_wp2_with fail
      refine Calls.mono ID.out ?_
      rintro e w3 ⟨rfl, hb3⟩
      have FF : Hid _ := STAY.out _ hb3
      clear ID STAY hb3
      go_wp2
      go_ret
      exact ⟨by rw [← ER.out]; rfl, by rw [← ER.out]; exact FF.out⟩
    | true =>
      rw [if_neg (by rw [hI]; simp), hTl] at hR
      rw [hI] at ID
      by_cases hT : T.size ≤ 222
      · rw [if_neg (by omega)] at hR
        rw [decide_eq_true hT] at TX
        obtain ⟨n, rfl, hn⟩ := noU_nat hU
        rw [Int.toNat_natCast] at hR
        obtain ⟨a, m, c, cu, sl⟩ := k.out.cell hn
        have hml : m ≤ 30000 := by
          have := manyX_at 64 bx n hn
          have := sl.len
          omega
        have g0 : (0 : Int) ≤ (n : Int) := by omega
        have g64 : (n : Int) < 64 := by omega
        have HS : Hid (∀ W, Below w1.heap.size w1 W → Calls Tryz.prog 40 #[.slice a m c, .string X] W fun e w' => e = .returned (.bool (decide (X.data.toList ∈ ids (bx n)))) ∧ Below W.heap.size W w') := fun W hb => xhas_any a m c (bx n) X sl.len (by omega) W (sl.at_.later hb)
        have CU : Hid (∀ W, Below w1.heap.size w1 W → W.cell? ⟨b, 1 + n, none⟩ = some (.slice a m c) ∧ W.cell? ⟨b, 65, none⟩ = some (.int .i64 (quota : Int))) := fun W hb => ⟨cell_later hb cu, cell_later hb k.out.quo⟩
        by_cases hmem : X.data.toList ∈ ids (bx n)
        · rw [if_pos hmem] at hR
          rw [decide_eq_true hmem] at HS
          have ER : Hid _ := hR
          clear hR HR k hU hI hTl hT hmem sl cu
          go_enter Tryz.func21, Tryz.ntmps21
          go_wp2_with fail
          refine Calls.mono US.out ?_
          rintro e w2 ⟨rfl, rfl⟩
          clear US
          go_wp2_with fail
          refine Calls.mono ID.out ?_
          rintro e w3 ⟨rfl, hb3⟩
          clear ID
          go_wp2_with fail
          refine Calls.mono (TX.out _) ?_
          rintro e w4 ⟨rfl, rfl⟩
          obtain ⟨x1, x2⟩ := CU.out _ hb3
          clear TX
          go_wp2_with fail
          refine Calls.mono (HS.out _ hb3) ?_
          rintro e w5 ⟨rfl, hb5⟩
          have FF : Hid _ := STAY.out _ (chain hb3 hb5)
          clear HS STAY hb3 hb5 x1 x2
          go_wp2
          go_ret
          exact ⟨by rw [← ER.out]; rfl, by rw [← ER.out]; exact FF.out⟩
        · rw [if_neg hmem] at hR
          rw [decide_eq_false hmem] at HS
          have LN : Hid (∀ W, Below w1.heap.size w1 W → Calls Tryz.prog 10 #[.pointer (some ⟨b, 0, none⟩), .int .i64 (n : Int)] W fun e w' => e = .returned (.int .i64 (m : Int)) ∧ w' = W) := fun W hb => by
            have := xlen_any w W p F s q v x b quota vs bx (n : Int) (k.out.later hb)
            unfold lnX at this
            rw [if_neg (by rw [hU]; simp), Int.toNat_natCast, sl.len] at this
            exact this
          by_cases hq : quota ≤ m
          · rw [if_pos (by rw [sl.len]; exact hq)] at hR
            have gq : (quota : Int) ≤ (m : Int) := by omega
            have ER : Hid _ := hR
            clear hR HR k hU hI hTl hT hmem sl cu
            go_enter Tryz.func21, Tryz.ntmps21
            go_wp2_with fail
            refine Calls.mono US.out ?_
            rintro e w2 ⟨rfl, rfl⟩
            clear US
            go_wp2_with fail
            refine Calls.mono ID.out ?_
            rintro e w3 ⟨rfl, hb3⟩
            clear ID
            go_wp2_with fail
            refine Calls.mono (TX.out _) ?_
            rintro e w4 ⟨rfl, rfl⟩
            obtain ⟨x1, x2⟩ := CU.out _ hb3
            clear TX
            go_wp2_with fail
            refine Calls.mono (HS.out _ hb3) ?_
            rintro e w5 ⟨rfl, hb5⟩
            have b5 : Below _ _ w5.drew := (chain hb3 hb5).drew
            obtain ⟨x3, x4⟩ := CU.out _ b5
            have L5 : Hid _ := LN.out _ b5
            have FF : Hid _ := STAY.out _ b5
            clear HS STAY hb3 hb5 x1 x2 CU LN
            go_wp2_with fail
            go_region_held3 (fun w' => w'.cell? ⟨b, 65, none⟩ = some (.int .i64 (quota : Int))) (first | exact x4 | assumption) (first | (go_at_call 10; refine Calls.mono L5.out ?_; rintro e w6 ⟨rfl, rfl⟩))
            go_wp2
            go_ret
            exact ⟨by rw [← ER.out]; rfl, by rw [← ER.out]; exact FF.out⟩
          · rw [if_neg (by rw [sl.len]; exact hq)] at hR
            have gq : ¬ (quota : Int) ≤ (m : Int) := by omega
            have hXl : X.data.toList.length = 16 := okI_len hI
            have hTl2 : T.data.toList.length ≤ 222 := by omega
            have PR : Hid (∀ W, Calls Tryz.prog 42 #[.int .i64 (n : Int), .string X, .string T] W fun e w' => e = .returned (.string (st (putR n X.data.toList T.data.toList))) ∧ Below W.heap.size W w') := fun W => xput_any n hn X.data.toList T.data.toList hXl hTl2 W
            have gc := gb.put hn hI hTl2 hmem
            have hmc : manyX (upB bx n (bx n ++ [(X.data.toList, T.data.toList)])) 64 ≤ 50000 := by
              have := manyX_up 64 bx n (bx n ++ [(X.data.toList, T.data.toList)]) hn
              rw [List.length_append, List.length_singleton] at this
              omega
            have hpl : 1 ≤ (putR n X.data.toList T.data.toList).length ∧ (putR n X.data.toList T.data.toList).length ≤ 2000 := by
              have : (putR n X.data.toList T.data.toList).length = 2 + 16 + T.data.toList.length := by
                unfold putR
                rw [List.length_cons, List.length_cons, List.length_append, hXl]
                omega
              omega
            have htk : tksX bx [putR n X.data.toList T.data.toList] = some (upB bx n (bx n ++ [(X.data.toList, T.data.toList)])) := by
              rw [tksX, tkX_put hn hI hTl2 hmem]
              rfl
            have WR : Hid (∀ W, Below w1.heap.size w1 W → Calls Tryz.prog 41 #[.pointer (some ⟨b, 0, none⟩), .slice (some ⟨W.heap.size, 0, none⟩) 1 1] (W.alloc (.cells #[.string (st (putR n X.data.toList T.data.toList))] 9)) fun e w' => e = .returned (.int .i64 R.1.1.1) ∧ Hid (PyP w w1 (FB F q v b vs) p q b quota R.1.1.2 R.1.2 R.2 w')) := fun W hb => by
              have nb1 := nb W (.cells #[.string (st (putR n X.data.toList T.data.toList))] 9)
              have hb2 := chain hb nb1
              have hbs := hb.size
              have := xwrite_any w p q b quota s x bx (upB bx n (bx n ++ [(X.data.toList, T.data.toList)])) F v vs (some ⟨W.heap.size, 0, none⟩) 1 1 [putR n X.data.toList T.data.toList] rfl (by decide) (fun r hr => by rw [List.mem_singleton.1 hr]; exact hpl) htk (fun u => by
                by_cases hu : u < 64
                · have := manyX_at 64 bx u hu; omega
                · rw [gb.u u (by omega)]; simp) gc hmc hl hk _ (k.out.later hb2) (fun i hi => by
                obtain rfl : i = 0 := by simpa using hi
                exact ⟨W.heap.size, 0, rfl, by rw [World.cell?_alloc_new]; rfl⟩) (fun y e _ => by
                injection e with e
                subst e
                exact ⟨by simp, fun c => by have : W.heap.size < w1.heap.size := (k.out.lz.fh c).1; omega⟩)
              rw [← hR]
              exact this.mono fun _ w' ⟨e1, e2⟩ => ⟨e1, e2.trans (Nx.refl _ _) (Bf.of hb2)⟩
            obtain ⟨P, hP⟩ : ∃ P, st (putR n X.data.toList T.data.toList) = P := ⟨_, rfl⟩
            rw [hP] at PR WR
            clear hR HR k hU hI hTl hT hmem sl cu hXl hTl2 gc hmc hpl htk hP STAY hm hl hk gb
            go_enter Tryz.func21, Tryz.ntmps21
            go_wp2_with fail
            refine Calls.mono US.out ?_
            rintro e w2 ⟨rfl, rfl⟩
            clear US
            go_wp2_with fail
            refine Calls.mono ID.out ?_
            rintro e w3 ⟨rfl, hb3⟩
            clear ID
            go_wp2_with fail
            refine Calls.mono (TX.out _) ?_
            rintro e w4 ⟨rfl, rfl⟩
            obtain ⟨x1, x2⟩ := CU.out _ hb3
            clear TX
            go_wp2_with fail
            refine Calls.mono (HS.out _ hb3) ?_
            rintro e w5 ⟨rfl, hb5⟩
            have b5 : Below _ _ w5.drew := (chain hb3 hb5).drew
            obtain ⟨x3, x4⟩ := CU.out _ b5
            have L5 : Hid _ := LN.out _ b5
            have B5 : Hid _ := b5
            clear HS hb3 hb5 x1 x2 CU LN b5
            go_wp2_with fail
            go_region_held3 (fun w' => w'.cell? ⟨b, 65, none⟩ = some (.int .i64 (quota : Int))) (first | exact x4 | assumption) (first | (go_at_call 10; refine Calls.mono L5.out ?_; rintro e w6 ⟨rfl, rfl⟩))
            clear L5 x3 x4
            go_wp2_with fail
            refine Calls.mono (PR.out _) ?_
            rintro e w7 ⟨rfl, hb7⟩
            have W7 : Hid _ := WR.out w7 (chain B5.out hb7)
            obtain ⟨A, hA⟩ : ∃ A, w7.heap.size = A := ⟨_, rfl⟩
            obtain ⟨W8, hW8⟩ : ∃ W, w7.alloc (.cells #[.string P] 9) = W := ⟨_, rfl⟩
            rw [hA, hW8] at W7
            clear PR WR B5 hb7
            go_wp2_with fail
            refine Calls.mono W7.out ?_
            rintro e w9 ⟨rfl, H9⟩
            clear W7 hA hW8
            go_wp2
            go_ret
            exact ⟨rfl, H9.out⟩
      · rw [if_pos (by omega)] at hR
        rw [decide_eq_false hT] at TX
        have ER : Hid _ := hR
        clear hR HR k hU hI hTl hT
        go_enter Tryz.func21, Tryz.ntmps21
        go_wp2_with fail
        refine Calls.mono US.out ?_
        rintro e w2 ⟨rfl, rfl⟩
        clear US
        go_wp2_with fail
        refine Calls.mono ID.out ?_
        rintro e w3 ⟨rfl, hb3⟩
        have FF : Hid _ := STAY.out _ hb3
        clear ID STAY hb3
        go_wp2_with fail
        refine Calls.mono (TX.out _) ?_
        rintro e w4 ⟨rfl, rfl⟩
        clear TX
        go_wp2
        go_ret
        exact ⟨by rw [← ER.out]; rfl, by rw [← ER.out]; exact FF.out⟩
end Go.Proofs.YtjpaodepnacimaaGreatDoor
namespace Go.Proofs.YtjpaodepnacimaaGreatDoor
open Go.RowKit Go.Proofs.Fd Go.Proofs.Dk Go.Proofs.Lg
set_option maxRecDepth 20000
abbrev stc (q ep : Nat) (va vh : Value) (most : Nat) : List Value := [.pointer (some ⟨q, 0, none⟩), .int .i64 (ep : Int), va, vh, .int .i64 (most : Int)]
structure Es (w : World) (b q ep most : Nat) (va vh : Value) (ah he : List Bs) : Prop where
  bk : Blk w b (stc q ep va vh most)
  ra : OwnsS w va ah
  rh : OwnsS w vh he
  av : va.ownBlock ≠ some b
  hv : vh.ownBlock ≠ some b
  ne : ∀ g, va.ownBlock = some g → vh.ownBlock ≠ some g
def EFt (b : Nat) (va vh : Value) (g : Nat) : Prop := g = b ∨ va.ownBlock = some g ∨ vh.ownBlock = some g
section
variable {w : World} {b q ep most : Nat} {va vh : Value} {ah he : List Bs}
theorem Es.lt (h : Es w b q ep most va vh ah he) {x : Nat} (hx : EFt b va vh x) : x < w.heap.size := by
  rcases hx with rfl | e | e
  · exact h.bk.lt
  · exact (h.ra.lt x e).2
  · exact (h.rh.lt x e).2
theorem Es.same (h : Es w b q ep most va vh ah he) {w' : World} (hs : ∀ x, EFt b va vh x → w'.heap[x]? = w.heap[x]?) : Es w' b q ep most va vh ah he :=
  ⟨h.bk.same (hs b (.inl rfl)), ownsRow_same h.ra (fun x e => hs x (.inr (.inl e))), ownsRow_same h.rh (fun x e => hs x (.inr (.inr e))), h.av, h.hv, h.ne⟩
theorem Es.later (h : Es w b q ep most va vh ah he) {w' : World} (hb : Below w.heap.size w w') : Es w' b q ep most va vh ah he := h.same fun x hx => hb.block x (h.lt hx)
theorem Es.bf (h : Es w b q ep most va vh ah he) {F : Nat → Prop} {w' : World} (hb : Bf F w w') (hF : ∀ x, EFt b va vh x → ¬ F x) : Es w' b q ep most va vh ah he := h.same fun x hx => hb.block x (h.lt hx) (hF x hx)
end
theorem sindex_any (a : Option Addr) (n c : Nat) (l : List Bs) (hn : l.length = n) (hnb : n ≤ 1000000) (X : ByteArray) (w : World) (h : Hid (TxAt w a l)) :
    Calls Tryz.prog 119 #[.slice a n c, .string X] w fun e w' => ∃ z : Int, e = .returned (.int .i64 z) ∧ (0 ≤ z ↔ X.data.toList ∈ l) ∧ w' = w := by
  have HN : Hid (l.length = n) := hn
  clear hn
  go_enter Tryz.func119, Tryz.ntmps119
  go_wp2
  go_loopw [8] (fun i wr => ∃ k : Nat, k ≤ n ∧ i = .int .i64 (k : Int) ∧ Hid (X.data.toList ∉ l.take k) ∧ w = wr) (fun i _ => n - (intOf i).toNat)
  case atStart => exact ⟨0, Nat.zero_le _, rfl, (by rw [List.take_zero]; exact List.not_mem_nil), rfl⟩
  case round =>
    obtain ⟨k, hk, rfl, J, rfl⟩ := hrel
    by_cases hlt : k < n
    · have hkl : k < l.length := by rw [HN.out]; exact hlt
      have g1 : (k : Int) < (n : Int) := by omega
      obtain ⟨b1, o1, rfl, c1⟩ := h.out k hkl
      have ET : Hid (l.take (k + 1) = l.take k ++ [l[k]]) := List.take_succ_eq_append_getElem hkl
      have EM : Hid (l[k] ∈ l) := List.getElem_mem hkl
      obtain ⟨t, ht⟩ : ∃ t, l[k] = t := ⟨_, rfl⟩
      rw [ht] at c1 ET EM
      unfold sv at c1
      clear ht
      by_cases he : X = st t
      · subst he
        have EM2 : Hid ((st t).data.toList ∈ l) := EM.out
        obtain ⟨T, hT⟩ : ∃ T, st t = T := ⟨_, rfl⟩
        rw [hT] at c1 EM2 ⊢
        clear hT J ET
        go_wp2
        go_ret
        exact ⟨(k : Int), rfl, ⟨fun _ => by first | exact EM2.out | exact EM.out, fun _ => by omega⟩, rfl⟩
      · have HE : Hid (X.data.toList ≠ t) := fun c => he (by rw [← c]; rfl)
        have hne : (X.toList == (st t).toList) = false := by
          rw [ByteArray.toList_eq, ByteArray.toList_eq]
          exact beq_eq_false_iff_ne.2 HE.out
        obtain ⟨T, hT⟩ : ∃ T, st t = T := ⟨_, rfl⟩
        rw [hT] at c1 hne
        clear hT he
        go_wp2
        go_roundw
        case rel => exact ⟨k + 1, by omega, rfl, (by rw [ET.out]; intro c; rcases List.mem_append.1 c with c | c; exact J.out c; exact HE.out (List.mem_singleton.1 c)), by first | rfl | trivial⟩
        case measure => simp [intOf]; omega
    · have g1 : ¬ (k : Int) < (n : Int) := by omega
      have hkn : k = n := by omega
      go_wp2
      go_ret
      refine ⟨-1, rfl, ⟨fun c => absurd c (by decide), fun c => ?_⟩, rfl⟩
      rw [← List.take_of_length_le (show l.length ≤ k by rw [HN.out]; omega)] at c
      exact absurd c J.out
theorem scontains_any (a : Option Addr) (n c : Nat) (l : List Bs) (hn : l.length = n) (hnb : n ≤ 1000000) (X : ByteArray) (w : World) (h : Hid (TxAt w a l)) :
    Calls Tryz.prog 76 #[.slice a n c, .string X] w fun e w' => e = .returned (.bool (decide (X.data.toList ∈ l))) ∧ w' = w := by
  have IX : Hid _ := sindex_any a n c l hn hnb X w h
  clear h hn
  go_enter Tryz.func76, Tryz.ntmps76
  go_wp2_with fail
  refine Calls.mono IX.out ?_
  rintro e w1 ⟨z, rfl, hz, rfl⟩
  clear IX
  by_cases hm : X.data.toList ∈ l
  · have hz2 : 0 ≤ z := hz.2 hm
    have HM : Hid (X.data.toList ∈ l) := hm
    clear hz hm
    go_wp2
    go_ret
    exact ⟨by rw [decide_eq_true HM.out]; rfl, rfl⟩
  · have hz2 : decide (0 ≤ z) = false := decide_eq_false fun c => hm (hz.1 c)
    have HM : Hid (X.data.toList ∉ l) := hm
    clear hz hm
    go_wp2
    go_ret
    exact ⟨by rw [decide_eq_false HM.out]; rfl, rfl⟩
end Go.Proofs.YtjpaodepnacimaaGreatDoor
