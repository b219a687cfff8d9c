/- A message one piece of which was turned. -/
import Derived.Test.YtdepjiocmbbdpaaDoorPtWb
namespace Go.Proofs.YtdepjiocmbbdpaaDoor
open Go.RowKit Go.Proofs.Fd Go.Proofs.Pt
set_option maxRecDepth 20000
theorem Tu.later {w : World} {b : Bs} {K : Nat} {v : UInt8} {u G B k : Nat} {W W' : World} (h : Tu w b K v u G B k W) (hb : Below W.heap.size W W') : Tu w b K v u G B k W' := ⟨h.k.later hb, h.g.later hb, h.j.later hb, chain h.d hb, Nat.le_trans h.u hb.size, Nat.lt_of_lt_of_le h.b hb.size⟩
set_option maxHeartbeats 4000000 in
theorem PartsTurned_walk (body : ByteArray) (v : Int) (w : World) (hK : Kh w) :
    Calls Tryd.prog 8 #[.string body, .int .i64 v] w fun e w' => e = .returned (.bool true) ∧ Below w.heap.size w w' := by
  obtain ⟨b, hb⟩ : ∃ b, body.data.toList = b := ⟨_, rfl⟩
  have eb : body = st b := by rw [← hb, ba_st]
  have sb := st_size b
  have WK : Hid _ := works22_any w hK
  have HK : Hid (Kh w) := hK
  have ZE := bs_toList (st b)
  rw [sb] at ZE
  subst eb
  clear hb hK
  by_cases h0 : b.length = 0
  · rw [decide_eq_true h0] at ZE
    generalize st b = Bd at *
    go_enter Tryd.func8, Tryd.ntmps8
    go_wp2_with fail
    refine Calls.mono WK.out ?_
    rintro e w1 ⟨rfl, b1⟩
    have B1 : Hid _ := b1
    clear b1
    go_wp2
    go_ret
    exact ⟨rfl, B1.out⟩
  rw [decide_eq_false h0] at ZE
  by_cases hl : 2048 < b.length
  · have g1 : (2048 : Int) < (b.length : Int) := by omega
    generalize st b = Bd at *
    go_enter Tryd.func8, Tryd.ntmps8
    go_wp2_with fail
    refine Calls.mono WK.out ?_
    rintro e w1 ⟨rfl, b1⟩
    have B1 : Hid _ := b1
    clear b1
    go_wp2
    go_ret
    exact ⟨rfl, B1.out⟩
  have hl' : b.length ≤ 2048 := by omega
  have g1 : ¬ (2048 : Int) < (b.length : Int) := by omega
  obtain ⟨K, hk⟩ : ∃ k : Nat, (IntKind.u64.wrap v).tmod (b.length : Int) = (k : Int) := ⟨((IntKind.u64.wrap v).tmod (b.length : Int)).toNat, by
    rw [IntKind.wrap_u64, Int.tmod_eq_emod_of_nonneg (by omega)]
    have := Int.emod_nonneg (v % 18446744073709551616) (show (b.length : Int) ≠ 0 by omega)
    omega⟩
  have hKN : K < b.length := by
    rw [IntKind.wrap_u64, Int.tmod_eq_emod_of_nonneg (by omega)] at hk
    have := Int.emod_lt_of_pos (v % 18446744073709551616) (show (0 : Int) < (b.length : Int) by omega)
    omega
  have hk' : (v % 18446744073709551616).tmod (b.length : Int) = (K : Int) := by rw [← IntKind.wrap_u64]; exact hk
  have wN : IntKind.u64.wrap (b.length : Int) = (b.length : Int) := by rw [IntKind.wrap_u64]; omega
  have wk : IntKind.i64.wrap (K : Int) = (K : Int) := by rw [IntKind.wrap_i64]; omega
  have n1 := cnt_pos b.length
  have n11 := cnt_le _ hl'
  have hP := cnt_div b K hKN
  obtain ⟨x, hx⟩ : ∃ x, b[K] = x := ⟨_, rfl⟩
  obtain ⟨y, hy⟩ : ∃ y, x ^^^ 1 = y := ⟨_, rfl⟩
  have NE : Hid (((st (b.set K y)).toList == (st b).toList) = false) := st_beq _ _ (by rw [← hy, ← hx]; exact turn_ne b K hKN)
  have hx' : b[K]? = some x := by rw [List.getElem?_eq_getElem hKN, hx]
  have tx1 : bits .xor .u8 (x.toNat : Int) 1 = (y.toNat : Int) := by rw [← hy]; exact txor8 x 1
  obtain ⟨tl, htl⟩ : ∃ l, tx (tpart i0 b (K / 200)) = l := ⟨_, rfl⟩
  have TE : Hid ((cut i0 b).set (K / 200) (tl.set (16 + K % 200) y) = tcut i0 b K y) := by rw [← htl]; exact tcut_eq i0 b rfl K y
  have gx : tl[16 + K % 200]? = some x := by rw [← htl, tx_get _ rfl (dg6_len i0 b)]; exact (pc_get b K).trans hx'
  have lz : 16 + K % 200 < tl.length := by
    rcases Nat.lt_or_ge (16 + K % 200) tl.length with h | h
    · exact h
    · rw [List.getElem?_eq_none h] at gx; cases gx
  have lt8 : tl.length ≤ 216 := by
    rw [← htl, tx_tlen _ rfl (dg6_len i0 b)]
    have : (pc b (K / 200)).length ≤ 200 := by unfold pc; rw [List.length_take]; omega
    show 16 + (pc b (K / 200)).length ≤ _
    omega
  have CU : Hid (∀ W, Kh W → Calls Tryd.prog 9 #[.string ⟨#[97, 110, 32, 105, 100, 32, 105, 115]⟩, .string (st b)] W fun e w' => ∃ G, e = .returned (.tuple #[.slice (some ⟨G, 0, none⟩) (cnt b.length) (cnt b.length), .int .i64 0]) ∧ Blk w' G (scl (cut i0 b)) ∧ W.heap.size ≤ G ∧ Below W.heap.size W w') := fun W h => Cut_ok i0 b rfl hl' W h
  have CC : Hid (∀ W G, Blk W G (scl (cut i0 b)) → W.cell? ⟨G, K / 200, none⟩ = some (.string (st tl))) := fun W G h => by have := cut_cell h (K / 200) hP; rw [htl] at this; exact this
  have NW : Hid (∀ W, Calls Tryd.prog 13 #[.int .i64 2, .int .i64 2] W fun e w' => e = .returned (.tuple #[.pointer (some ⟨W.heap.size, 0, none⟩), .int .i64 0]) ∧ JW W.heap.size (fun _ => False) w' W.heap.size (new 2 2) ∧ Below W.heap.size W w') := fun W => NewJ 2 2 (by decide) (by decide) W
  have TC : Hid (∀ W G k, Blk W G (scl (tcut i0 b K y)) → k < cnt b.length → W.cell? ⟨G, k, none⟩ = some (.string (st (tx ⟨mkOf i0 b, k, pc (b.set K y) k⟩)))) := fun W G k h hk => h.c k _ (by unfold scl; rw [List.getElem?_map, tcut_get i0 b K y k hk]; rfl)
  have TK : Hid (∀ u G B k W, k < cnt b.length → G < u → w.heap.size ≤ u → Tu w b K y u G B k W → Calls Tryd.prog 15 #[.pointer (some ⟨u, 0, none⟩), .string (st (tx ⟨mkOf i0 b, k, pc (b.set K y) k⟩))] W fun e w' => e = .returned (if k + 1 < cnt b.length then ansV none 0 else if mkOf i0 b = mkOf i0 (b.set K y) then ansV (some (i0, b.set K y)) 0 else ansV none 220) ∧ (k + 1 < cnt b.length → Tu w b K y u G B (k + 1) w') ∧ Below w.heap.size w w') := fun u G B k W h1 h2 h3 h4 => h4.take hl' h1 h2 h3 HK.out.1
  have TG : Hid (Tu w b K y = Tu w b K y) := rfl
  have lC : Hid (∀ l, (scl l).length = l.length) := fun l => scl_len l
  have cl : (cut i0 b).length = cnt b.length := by unfold cut; simp
  obtain ⟨P, hPe⟩ : ∃ P, K / 200 = P := ⟨_, rfl⟩
  obtain ⟨z, hz⟩ : ∃ z, 16 + K % 200 = z := ⟨_, rfl⟩
  have qd1 : (K : Int).tdiv 200 = (P : Int) := by rw [Int.tdiv_eq_ediv_of_nonneg (by omega)]; omega
  have qd2 : (K : Int) / 200 = (P : Int) := by omega
  have qm1 : 16 + (K : Int).tmod 200 = (z : Int) := by rw [Int.tmod_eq_emod_of_nonneg (by omega)]; omega
  have qm2 : 16 + (K : Int) % 200 = (z : Int) := by omega
  have HN : Hid (cnt b.length = cnt b.length) := rfl
  rw [hPe] at hP TE CC
  rw [hz] at TE gx lz
  obtain ⟨n, hn⟩ : ∃ n, cnt b.length = n := ⟨_, rfl⟩
  rw [hn] at CU n1 n11 hP TC TK cl
  obtain ⟨s, hs⟩ : ∃ s, tl.length = s := ⟨_, rfl⟩
  have HS : Hid (tl.length = s) := hs
  have sS : (st tl).size = s := by rw [st_size, hs]
  rw [hs] at lz lt8
  have GX : Hid (tl[z]? = some x) := gx
  clear hn hs hPe hz hx hx' hy htl gx TG HN hl'
  generalize st b = Bd at *
  go_enter Tryd.func8, Tryd.ntmps8
  go_wp2_with fail
  refine Calls.mono WK.out ?_
  rintro e w1 ⟨rfl, b1⟩
  have B1 : Hid _ := b1
  clear b1
  go_wp2_with fail
  refine Calls.mono (CU.out _ (HK.out.later B1.out)) ?_
  rintro e w3 ⟨G, rfl, g3, lG, b3⟩
  have F3 : Hid (Blk w3 G (scl (cut i0 b)) ∧ Below w.heap.size w w3) := ⟨g3, chain B1.out b3⟩
  have HW : Hid (w.heap.size ≤ G) := Nat.le_trans B1.out.size lG
  clear g3 lG b3 WK CU
  go_wp2_with fail
  refine Calls.mono (NW.out _) ?_
  rintro e w4 ⟨rfl, j4, b4⟩
  obtain ⟨cap, W5, r5, a5, n5, lcap⟩ := bytes_of (st tl) w4
  have lG : G < w3.heap.size := F3.out.1.lt
  have lw : w.heap.size ≤ w3.heap.size := F3.out.2.size
  have g4 : Blk w4 G (scl (cut i0 b)) := F3.out.1.later b4
  have cP := CC.out w4 G g4
  obtain ⟨u, hu⟩ : ∃ u, w3.heap.size = u := ⟨_, rfl⟩
  obtain ⟨B, hB⟩ : ∃ u, w4.heap.size = u := ⟨_, rfl⟩
  have luB : u ≤ B := by rw [← hu, ← hB]; exact b4.size
  have lB : Hid (B < W5.heap.size) := by
    rw [← hB]; exact World.block_lt_of_cell? _ _ (a5 0 (show 0 < tl.length by rw [HS.out]; omega)).1
  rw [hB, sS] at r5
  rw [hB] at a5
  have D5 : Hid (Below w.heap.size w W5) := chain (chain F3.out.2 b4) n5
  have J5 : Hid (JW u (fun g => False ∨ g = B) W5 u (new 2 2)) := by
    rw [hu] at j4
    exact (j4.more (Nat.le_of_eq hB)).later n5
  have G5 : Hid (Blk W5 G (scl (cut i0 b))) := g4.later n5
  have K5 : Hid (Kh W5) := HK.out.later D5.out
  have A5 : Hid (BytesAt W5 B tl) := a5
  rw [hu] at lG lw ⊢
  clear j4 b4 n5 F3 NW g4 a5 hu hB B1
  have hGB : ¬ G = B := by omega
  have hBG : ¬ B = G := by omega
  obtain ⟨cz, fz⟩ := A5.out z (by rw [HS.out]; exact lz)
  have ez : tl[z]'(by rw [HS.out]; exact lz) = x := by
    have := GX.out
    rw [List.getElem?_eq_getElem (by rw [HS.out]; exact lz)] at this
    exact Option.some.inj this
  rw [ez] at cz
  have rb := r5
  have z0 : (z : Int) < (s : Int) := by omega
  have z1 : (0 : Int) ≤ (z : Int) := by omega
  have p0 : (0 : Int) ≤ (P : Int) := by omega
  have p1 : (P : Int) < (n : Int) := by omega
  have rc : (convert 54 9 (.slice (some ⟨B, 0, none⟩) s cap)).run Tryd.prog (W5.setCell ⟨B, z, none⟩ (.int .u8 (y.toNat : Int))) = .ok (.string ⟨(tl.set z y).toArray⟩) (W5.setCell ⟨B, z, none⟩ (.int .u8 (y.toNat : Int))) := BytesAt.string (A5.out.set z y _ rfl) (by rw [List.length_set, HS.out])
  obtain ⟨tl2, htl2⟩ : ∃ t : ByteArray, ⟨(tl.set z y).toArray⟩ = t := ⟨_, rfl⟩
  rw [htl2] at rc
  have T2 : Hid (st (tl.set z y) = tl2) := htl2
  have bf6 := Bf.put1 W5 B z [.int .u8 (y.toNat : Int)]
  have G6 : Hid (Blk (W5.setCell ⟨B, z, none⟩ (.int .u8 (y.toNat : Int))) G (scl (cut i0 b))) := G5.out.bf bf6 hGB
  have fG := G6.out.f
  have cq := CC.out _ _ G6.out
  have hG6 := HK.out.1
  have bf7 := Bf.put1 (W5.setCell ⟨B, z, none⟩ (.int .u8 (y.toNat : Int))) G P [.string tl2]
  have I7 : Hid (Tu w b K y u G B 0 ((W5.setCell ⟨B, z, none⟩ (.int .u8 (y.toNat : Int))).setCell ⟨G, P, none⟩ (.string tl2))) := by
    have D6 := D5.out.trans (bf6.below (fun g e => by rw [e]; exact Nat.le_trans lw luB) D5.out.size)
    refine ⟨(K5.out.bf bf6 (by omega)).bf bf7 (fun e => by have e' : 0 = G := e; have h : w.heap.size ≤ G := HW.out; have h2 : 0 < w.heap.size := hG6; omega), ?_, (J5.out.bf bf6 (fun g e => .inl (.inr e))).bf bf7 (fun g e => .inr (by rw [e]; exact lG)), D6.trans (bf7.below (fun g e => by rw [e]; exact HW.out) D6.size), ?_, ?_⟩
    · have := G6.out.set P (by rw [lC.out, cl]; exact hP) (.string (st (tl.set z y)))
      rw [scl_set, TE.out, T2.out] at this
      exact this
    · have h1 := bf6.size; have h2 := bf7.size; have h3 := lB.out
      exact Nat.le_trans luB (Nat.le_trans (Nat.le_of_lt h3) (Nat.le_trans h1 h2))
    · have h1 := bf6.size; have h2 := bf7.size; have h3 := lB.out
      exact Nat.lt_of_lt_of_le h3 (Nat.le_trans h1 h2)
  clear bf6 bf7 htl2 ez lB J5 K5 A5 D5 G5 CC G6 T2 TE GX HS lC hG6
  go_wp2_with fail
  clear hk hk' wN wk qd1 qd2 qm1 qm2 tx1 z0 z1 p0 p1 hl h0 g1 hKN hP sS lt8 lz lcap ZE
  go_loopw [73] (fun iv wr => ∃ k : Nat, k < n ∧ iv = .int .i64 (k : Int) ∧ Hid (Tu w b K y u G B k wr)) (fun iv _ => n - (intOf iv).toNat)
  case atStart => exact ⟨0, n1, rfl, I7⟩
  case round =>
    obtain ⟨k, hk, rfl, I⟩ := hrel
    clear I7
    have q1 : (k : Int) < (n : Int) := by omega
    have q0 : (0 : Int) ≤ (k : Int) := by omega
    have ck := TC.out _ G k I.out.g hk
    have tk := TK.out u G B k _ hk lG lw I.out
    clear TC TK cP cz fz rb rc r5 cq fG hGB hBG luB
    obtain ⟨B2, hB2⟩ : ∃ B2, st (b.set K y) = B2 := ⟨_, rfl⟩
    obtain ⟨I0, hI0⟩ : ∃ I0, st i0 = I0 := ⟨_, rfl⟩
    rw [hB2] at NE
    by_cases hk1 : k + 1 < n
    · have q2 : (k : Int) < (n : Int) - 1 := by omega
      rw [if_pos hk1] at tk
      simp only [ansV] at tk
      have TKH : Hid _ := tk
      clear tk
      go_upto_region 16 with fail
      refine wp_region_lit ?_
      refine wpList_plain rfl (fun K2 hK2 => ?_)
      go_simp
      refine hK2 _ _ ?_
      clear hK2 K2
      refine wpList_plain rfl (fun K2 hK2 => ?_)
      go_simp
      refine hK2 _ _ ?_
      clear hK2 K2
      refine wpList_plain rfl (fun K2 hK2 => ?_)
      go_simp
      refine Calls.mono (TKH.out) ?_
      rintro e wt ⟨rfl, it, dt⟩
      obtain ⟨V, w8, rA, rS, t8, n8⟩ := told_new wt (⟨#[]⟩) (⟨#[]⟩)
      have AL : Hid _ := rA
      have ST : Hid _ := rS
      have I8 : Hid (Tu w b K y u G B (k + 1) w8) := (it hk1).later n8
      have d0 := t8.c 0 _ rfl
      have d1 := t8.c 1 _ rfl
      clear rA rS n8 it dt
      refine hK2 _ _ ?_
      clear hK2 K2
      try simp only [Act.put, List.setIfInBounds_toArray, List.set_cons_zero, List.set_cons_succ]
      refine wpList_plain rfl (fun K2 hK2 => ?_)
      go_simp
      refine hK2 _ _ ?_
      clear hK2 K2
      refine wpList_plain rfl (fun K2 hK2 => ?_)
      go_simp
      refine hK2 _ _ ?_
      clear hK2 K2
      refine wpList_plain rfl (fun K2 hK2 => ?_)
      go_simp
      refine hK2 _ _ ?_
      clear hK2 K2
      refine wpList_plain rfl (fun K2 hK2 => ?_)
      go_simp
      refine hK2 _ _ ?_
      clear hK2 K2
      refine wpList_plain rfl (fun K2 hK2 => wp_alloc_run _ rfl _ _ (AL.out) (hK2 _ _ ?_))
      try simp only [Act.put, List.setIfInBounds_toArray, List.set_cons_zero, List.set_cons_succ]
      refine wpList_plain rfl (fun K2 hK2 => wp_store_run _ _ _ rfl _ rfl _ rfl _ (ST.out) (hK2 _ _ ?_))
      try simp only [Act.put]
      refine wpList_plain rfl (fun K2 hK2 => ?_)
      go_simp
      refine hK2 _ _ ?_
      clear hK2 K2
      refine wpList_plain rfl (fun K2 hK2 => ?_)
      go_simp
      refine hK2 _ _ ?_
      clear hK2 K2
      refine wpList_nil ?_
      try simp only [Act.put, List.setIfInBounds_toArray, List.set_cons_zero, List.set_cons_succ]
      go_wp2
      go_roundw
      case rel => exact ⟨k + 1, hk1, by go_num, I8⟩
      case measure => simp [intOf]; omega
    · have q2 : ¬ (k : Int) < (n : Int) - 1 := by omega
      rw [if_neg hk1] at tk
      by_cases m : mkOf i0 b = mkOf i0 (b.set K y)
      · rw [if_pos m] at tk
        simp only [ansV] at tk
        rw [hB2, hI0] at tk
        clear hB2 hI0 m
        have ne := NE.out
        have TKH : Hid _ := tk
        clear tk
        go_upto_region 16 with fail
        refine wp_region_lit ?_
        refine wpList_plain rfl (fun K2 hK2 => ?_)
        go_simp
        refine hK2 _ _ ?_
        clear hK2 K2
        refine wpList_plain rfl (fun K2 hK2 => ?_)
        go_simp
        refine hK2 _ _ ?_
        clear hK2 K2
        refine wpList_plain rfl (fun K2 hK2 => ?_)
        go_simp
        refine Calls.mono (TKH.out) ?_
        rintro e wt ⟨rfl, it, dt⟩
        obtain ⟨V, w8, rA, rS, t8, n8⟩ := told_new wt (I0) (B2)
        have AL : Hid _ := rA
        have ST : Hid _ := rS
        have D8 : Hid (Below w.heap.size w w8) := chain dt n8
        have d0 := t8.c 0 _ rfl
        have d1 := t8.c 1 _ rfl
        clear rA rS n8 it dt
        refine hK2 _ _ ?_
        clear hK2 K2
        try simp only [Act.put, List.setIfInBounds_toArray, List.set_cons_zero, List.set_cons_succ]
        refine wpList_plain rfl (fun K2 hK2 => ?_)
        go_simp
        refine hK2 _ _ ?_
        clear hK2 K2
        refine wpList_plain rfl (fun K2 hK2 => ?_)
        go_simp
        refine hK2 _ _ ?_
        clear hK2 K2
        refine wpList_plain rfl (fun K2 hK2 => ?_)
        go_simp
        refine hK2 _ _ ?_
        clear hK2 K2
        refine wpList_plain rfl (fun K2 hK2 => ?_)
        go_simp
        refine hK2 _ _ ?_
        clear hK2 K2
        refine wpList_plain rfl (fun K2 hK2 => wp_alloc_run _ rfl _ _ (AL.out) (hK2 _ _ ?_))
        try simp only [Act.put, List.setIfInBounds_toArray, List.set_cons_zero, List.set_cons_succ]
        refine wpList_plain rfl (fun K2 hK2 => wp_store_run _ _ _ rfl _ rfl _ rfl _ (ST.out) (hK2 _ _ ?_))
        try simp only [Act.put]
        refine wpList_plain rfl (fun K2 hK2 => ?_)
        go_simp
        refine hK2 _ _ ?_
        clear hK2 K2
        refine wpList_plain rfl (fun K2 hK2 => ?_)
        go_simp
        refine hK2 _ _ ?_
        clear hK2 K2
        refine wpList_nil ?_
        try simp only [Act.put, List.setIfInBounds_toArray, List.set_cons_zero, List.set_cons_succ]
        go_wp2
        go_ret
        exact ⟨rfl, D8.out⟩
      · rw [if_neg m] at tk
        clear m
        simp only [ansV] at tk
        have TKH : Hid _ := tk
        clear tk
        go_upto_region 16 with fail
        refine wp_region_lit ?_
        refine wpList_plain rfl (fun K2 hK2 => ?_)
        go_simp
        refine hK2 _ _ ?_
        clear hK2 K2
        refine wpList_plain rfl (fun K2 hK2 => ?_)
        go_simp
        refine hK2 _ _ ?_
        clear hK2 K2
        refine wpList_plain rfl (fun K2 hK2 => ?_)
        go_simp
        refine Calls.mono (TKH.out) ?_
        rintro e wt ⟨rfl, it, dt⟩
        obtain ⟨V, w8, rA, rS, t8, n8⟩ := told_new wt (⟨#[]⟩) (⟨#[]⟩)
        have AL : Hid _ := rA
        have ST : Hid _ := rS
        have D8 : Hid (Below w.heap.size w w8) := chain dt n8
        have d0 := t8.c 0 _ rfl
        have d1 := t8.c 1 _ rfl
        clear rA rS n8 it dt
        refine hK2 _ _ ?_
        clear hK2 K2
        try simp only [Act.put, List.setIfInBounds_toArray, List.set_cons_zero, List.set_cons_succ]
        refine wpList_plain rfl (fun K2 hK2 => ?_)
        go_simp
        refine hK2 _ _ ?_
        clear hK2 K2
        refine wpList_plain rfl (fun K2 hK2 => ?_)
        go_simp
        refine hK2 _ _ ?_
        clear hK2 K2
        refine wpList_plain rfl (fun K2 hK2 => ?_)
        go_simp
        refine hK2 _ _ ?_
        clear hK2 K2
        refine wpList_plain rfl (fun K2 hK2 => ?_)
        go_simp
        refine hK2 _ _ ?_
        clear hK2 K2
        refine wpList_plain rfl (fun K2 hK2 => wp_alloc_run _ rfl _ _ (AL.out) (hK2 _ _ ?_))
        try simp only [Act.put, List.setIfInBounds_toArray, List.set_cons_zero, List.set_cons_succ]
        refine wpList_plain rfl (fun K2 hK2 => wp_store_run _ _ _ rfl _ rfl _ rfl _ (ST.out) (hK2 _ _ ?_))
        try simp only [Act.put]
        refine wpList_plain rfl (fun K2 hK2 => ?_)
        go_simp
        refine hK2 _ _ ?_
        clear hK2 K2
        refine wpList_plain rfl (fun K2 hK2 => ?_)
        go_simp
        refine hK2 _ _ ?_
        clear hK2 K2
        refine wpList_nil ?_
        try simp only [Act.put, List.setIfInBounds_toArray, List.set_cons_zero, List.set_cons_succ]
        go_wp2
        go_ret
        exact ⟨rfl, D8.out⟩
end Go.Proofs.YtdepjiocmbbdpaaDoor
