/- Parts: BpL, BpN. -/
import Derived.Test.YtjpaodepnacimaaGreatDoorZbG29
namespace Go.Proofs.YtjpaodepnacimaaGreatDoor
open Go.RowKit Go.Proofs.Fd Go.Proofs.Dk Go.Proofs.Lg Go.Proofs.Bx
set_option maxRecDepth 20000
theorem rmL_mem {l : List Sl} (h : (ids l).Nodup) (i j : Bs) : i ∈ ids (rmL l j) ↔ i ∈ ids l ∧ i ≠ j := by
  rw [rmL_filter l j h]
  unfold ids
  simp only [List.mem_map, List.mem_filter, Bool.not_eq_true', decide_eq_false_iff_not]
  constructor
  · rintro ⟨e, ⟨h1, h2⟩, rfl⟩
    exact ⟨⟨e, h1, rfl⟩, h2⟩
  · rintro ⟨⟨e, h1, rfl⟩, h2⟩
    exact ⟨e, ⟨h1, h2⟩, rfl⟩
theorem rmL_nodup {l : List Sl} (h : (ids l).Nodup) (j : Bs) : (ids (rmL l j)).Nodup := ((rmL_sub l j).map _).nodup h
theorem rms_mem : ∀ (A : List Bs) {l : List Sl}, (ids l).Nodup → ∀ i, i ∈ ids (rms l A) ↔ i ∈ ids l ∧ i ∉ A
  | [], _, _, i => by simp [rms]
  | j :: A, l, h, i => by
    rw [rms, rms_mem A (rmL_nodup h j), rmL_mem h, List.mem_cons]
    constructor
    · rintro ⟨⟨h1, h2⟩, h3⟩
      exact ⟨h1, fun c => c.elim h2 h3⟩
    · rintro ⟨h1, h2⟩
      exact ⟨⟨h1, fun c => h2 (.inl c)⟩, fun c => h2 (.inr c)⟩
theorem rms_app : ∀ (A : List Bs) (l : List Sl) (i : Bs), rms l (A ++ [i]) = rmL (rms l A) i
  | [], _, _ => rfl
  | j :: A, l, i => by rw [List.cons_append, rms, rms_app A, rms]
theorem ackR_inj {u : Nat} {i j : Bs} (h : ackR u i = ackR u j) : i = j := by
  unfold ackR at h
  injection h with _ h
  injection h
theorem ack_mem (u : Nat) (A : List Bs) (i : Bs) : ackR u i ∈ A.map (ackR u) ↔ i ∈ A := by
  rw [List.mem_map]
  exact ⟨fun ⟨j, h1, h2⟩ => by rw [← ackR_inj h2]; exact h1, fun h => ⟨i, h, rfl⟩⟩
theorem ackR_len {u : Nat} {i : Bs} (h : i.length = 16) : (ackR u i).length = 18 := by
  unfold ackR
  rw [List.length_cons, List.length_cons, h]
set_option maxHeartbeats 4000000 in
theorem xacks_any (w wa : World) (p : Nat) (F : Nat → Prop) (s : St) (q : Nat) (v : Value) (x : Lo) (b quota : Nat) (vs : List Value) (bx : Bxs) (u : Nat) (hu : u < 64) (gb : Gx bx) (hlu : (bx u).length ≤ 30000) (a : Option Addr) (n c : Nat) (m : List Bs) (hn : m.length = n) (hnb : n ≤ 256) (h16 : ∀ i ∈ m, i.length = 16) (tx : Hid (TxAt wa a m)) (k : Hid (Py w wa p F s q v x b quota vs bx)) :
    Calls Tryz.prog 44 #[.pointer (some ⟨b, 0, none⟩), .int .i64 (u : Int), .slice a n c] wa fun e w' => ∃ a' c', e = .returned (.slice a' (aks (bx u) m).length c') ∧ TxAt w' a' ((aks (bx u) m).map (ackR u)) ∧ (∀ y, a' = some y → wa.heap.size ≤ y.block) ∧ Below wa.heap.size wa w' := by
  have HN : Hid (m.length = n) := hn
  have H16 : Hid (∀ i ∈ m, i.length = 16) := h16
  obtain ⟨a1, n1, c1, cu, sl⟩ := k.out.cell hu
  have CU : Hid (∀ W, Below wa.heap.size wa W → W.cell? ⟨b, 1 + u, none⟩ = some (.slice a1 n1 c1)) := fun W hb => cell_later hb cu
  have HS : Hid (∀ W (i : Bs), Below wa.heap.size wa W → Calls Tryz.prog 40 #[.slice a1 n1 c1, .string (st i)] W fun e w' => e = .returned (.bool (decide (i ∈ ids (bx u)))) ∧ Below W.heap.size W w') := fun W i hb => xhas_any a1 n1 c1 (bx u) (st i) sl.len (by have := sl.len; omega) W (sl.at_.later hb)
  have AR : Hid (∀ W (i : Bs), i.length = 16 → Calls Tryz.prog 75 #[.int .i64 (u : Int), .string (st i)] W fun e w' => e = .returned (.string (st (ackR u i))) ∧ Below W.heap.size W w') := fun W i hi => xack_any u hu i hi W
  have CT : Hid (∀ W (v : Value) (A : List Bs) (i : Bs), A.length ≤ 1000 → W.ownsRow wa.heap.size 9 1 v A.length (scs (A.map (ackR u))) → ∃ aa cc, v = .slice aa A.length cc ∧ Hid (Calls Tryz.prog 76 #[.slice aa A.length cc, .string (st (ackR u i))] W fun e w' => e = .returned (.bool (decide (i ∈ A))) ∧ w' = W)) := fun W v A i hA o => by
    obtain ⟨aa, cc, e, t, -⟩ := owns_tx (l := A.map (ackR u)) (by rw [List.length_map]) o
    refine ⟨aa, cc, e, ?_⟩
    have := scontains_any aa A.length cc (A.map (ackR u)) (by rw [List.length_map]) (by omega) (st (ackR u i)) W t
    have e2 : decide ((st (ackR u i)).data.toList ∈ A.map (ackR u)) = decide (i ∈ A) := by
      by_cases hh : i ∈ A
      · rw [decide_eq_true hh]; exact decide_eq_true ((ack_mem u A i).2 hh)
      · rw [decide_eq_false hh]; exact decide_eq_false (fun z => hh ((ack_mem u A i).1 z))
    rw [e2] at this
    exact this
  have AP : Hid (∀ (W : World) (v : Value) (A : List Bs) (i : Bs), A.length ≤ 1000 → W.ownsRow wa.heap.size 9 1 v A.length (scs (A.map (ackR u))) → wa.heap.size ≤ W.heap.size → ∃ v' W2, (Builtin.append_ #[37, 37] 37 #[v, .slice (some ⟨W.heap.size, 0, none⟩) 1 1]).run Tryz.prog (W.alloc (.cells #[.string (st (ackR u i))] 9)) = .ok v' W2 ∧ Hid (W2.ownsRow wa.heap.size 9 1 v' (A ++ [i]).length (scs ((A ++ [i]).map (ackR u))) ∧ Below wa.heap.size W W2)) := fun W v A i hA o hb => by
    have o' : W.ownsRow wa.heap.size 9 1 v (A.map (ackR u)).length (scs (A.map (ackR u))) := by rw [List.length_map]; exact o
    obtain ⟨v', W2, r1, r2, r3⟩ := app_str1 wa.heap.size W 37 v (A.map (ackR u)) o' hb (by rw [List.length_map]; omega) (ackR u i)
    refine ⟨v', W2, r1, ?_, r3⟩
    rw [List.map_append]
    rw [List.length_append, List.length_map, List.length_singleton] at r2
    rw [List.length_append, List.length_singleton]
    exact r2
  have nd := gb.n u
  have ST0 : Hid (∀ (A : List Bs) (j : Nat) (hj : j < m.length), A ++ aks (rms (bx u) A) (m.drop j) = aks (bx u) m → (m[j] ∈ ids (bx u) ∧ m[j] ∉ A → (A ++ [m[j]]) ++ aks (rms (bx u) (A ++ [m[j]])) (m.drop (j + 1)) = aks (bx u) m) ∧ (¬ (m[j] ∈ ids (bx u) ∧ m[j] ∉ A) → A ++ aks (rms (bx u) A) (m.drop (j + 1)) = aks (bx u) m)) := fun A j hj e => by
    rw [List.drop_eq_getElem_cons hj, aks] at e
    constructor
    · intro hh
      rw [if_pos ((rms_mem A nd _).2 hh)] at e
      rw [rms_app, List.append_assoc]
      exact e
    · intro hh
      rw [if_neg (fun z => hh ((rms_mem A nd _).1 z))] at e
      exact e
  obtain ⟨Rr, hRr⟩ : ∃ R, aks (bx u) m = R := ⟨_, rfl⟩
  rw [hRr] at ST0
  have I0 : Hid (([] : List Bs) ++ aks (rms (bx u) []) (m.drop 0) = Rr) := hRr
  have hRl : Rr.length ≤ 256 := by rw [← hRr]; have := (aks_len m (bx u)).1; omega
  rw [hRr]
  have FIN : Hid (∀ (W : World) (v : Value), W.ownsRow wa.heap.size 9 1 v Rr.length (scs (Rr.map (ackR u))) → Below wa.heap.size wa W → ∃ a' c', v = .slice a' Rr.length c' ∧ Hid (TxAt W a' (Rr.map (ackR u)) ∧ (∀ y, a' = some y → wa.heap.size ≤ y.block) ∧ Below wa.heap.size wa W)) := fun W v o hb => by
    obtain ⟨aa, cc, e, t, -⟩ := owns_tx (l := Rr.map (ackR u)) (by rw [List.length_map]) o
    refine ⟨aa, cc, e, t, fun y hy => ?_, hb⟩
    exact (o.lt y.block (by rw [e, hy]; rfl)).1
  have g0 : (0 : Int) ≤ (u : Int) := by omega
  have g64 : (u : Int) < 64 := by omega
  have TXL : Hid (∀ W, Below wa.heap.size wa W → TxAt W a m) := fun W hb => tx.out.later hb
  clear k tx hn h16 sl cu gb nd hRr hlu
  go_enter Tryz.func44, Tryz.ntmps44
  go_wp2_with fail
  go_loopw [7, 13] (fun sv i wx => ∃ (j : Nat) (A : List Bs), j ≤ n ∧ A.length ≤ j ∧ i = .int .i64 (j : Int) ∧ Hid (A ++ aks (rms (bx u) A) (m.drop j) = Rr ∧ wx.ownsRow wa.heap.size 9 1 sv A.length (scs (A.map (ackR u))) ∧ Below wa.heap.size wa wx)) (fun _ i _ => n - (intOf i).toNat)
  case atStart => exact ⟨0, [], by omega, Nat.le_refl _, rfl, I0.out, World.ownsRow_nil _ _ _ _, Below.refl _ _⟩
  case round =>
    obtain ⟨j, A, hj, hAj, rfl, I⟩ := hrel
    clear I0
    by_cases hlt : j < n
    · have hjl : j < m.length := by rw [HN.out]; exact hlt
      have g1 : (j : Int) < (n : Int) := by omega
      obtain ⟨b1, o1, rfl, t1⟩ := (TXL.out _ I.out.2.2) j hjl
      have l16 := H16.out _ (List.getElem_mem hjl)
      obtain ⟨aa, cc, rfl, -⟩ := CT.out _ _ A m[j] (by omega) I.out.2.1
      obtain ⟨Y1, Y2⟩ := ST0.out A j hjl I.out.1
      have A1 : Hid _ := AR.out wr m[j] l16
      have H1 : Hid _ := fun W hb => HS.out W m[j] hb
      have C1 : Hid (∀ W, Below wa.heap.size wa W → Below wr.heap.size wr W → Calls Tryz.prog 76 #[.slice aa A.length cc, .string (st (ackR u m[j]))] W fun e w' => e = .returned (.bool (decide (m[j] ∈ A))) ∧ w' = W) := fun W hb hb2 => by
        obtain ⟨aa', cc', e, Z⟩ := CT.out W (.slice aa A.length cc) A m[j] (by omega) (owns_laterS I.out.2.1 hb2)
        injection e with e1 e2 e3
        subst e1 e3
        exact Z.out
      have P1 : Hid _ := fun W ow hb => AP.out W (.slice aa A.length cc) A m[j] (by omega) ow hb
      have OW : Hid (∀ W, Below wr.heap.size wr W → W.ownsRow wa.heap.size 9 1 (.slice aa A.length cc) A.length (scs (A.map (ackR u))) ∧ Below wa.heap.size wa W) := fun W hb => ⟨owns_laterS I.out.2.1 hb, chain I.out.2.2 hb⟩
      unfold sv at t1
      obtain ⟨X, hX⟩ : ∃ X, st m[j] = X := ⟨_, rfl⟩
      obtain ⟨P, hP⟩ : ∃ X, st (ackR u m[j]) = X := ⟨_, rfl⟩
      rw [hX] at t1 A1 H1
      rw [hP] at A1 C1 P1
      by_cases hin : m[j] ∈ ids (bx u)
      · rw [decide_eq_true hin] at H1
        by_cases hA : m[j] ∈ A
        · rw [decide_eq_true hA] at C1
          have E1 : Hid _ := Y2 (fun z => z.2 hA)
          clear hX hP I Y1 Y2 P1 hin hA l16
          go_wp2_with fail
          refine Calls.mono A1.out ?_
          rintro e w2 ⟨rfl, hb2⟩
          have x2 := CU.out w2 (OW.out _ hb2).2
          clear A1 t1
          go_wp2_with fail
          refine Calls.mono (H1.out _ (OW.out _ hb2).2) ?_
          rintro e w3 ⟨rfl, hb3⟩
          have B3 : Hid _ := chain hb2 hb3
          clear H1 x2 hb2 hb3
          go_wp2_with fail
          refine Calls.mono (C1.out _ (OW.out _ B3.out).2 B3.out) ?_
          rintro e w4 ⟨rfl, rfl⟩
          have J : Hid _ := OW.out _ B3.out
          clear C1 OW B3
          go_wp2
          go_roundw
          case rel => exact ⟨j + 1, A, by omega, by omega, by go_num, E1.out, J.out⟩
          case measure => simp [intOf]; omega
        · rw [decide_eq_false hA] at C1
          have E1 : Hid _ := Y1 ⟨hin, hA⟩
          clear hX hP I Y1 Y2 hin hA l16
          go_wp2_with fail
          refine Calls.mono A1.out ?_
          rintro e w2 ⟨rfl, hb2⟩
          have x2 := CU.out w2 (OW.out _ hb2).2
          clear A1 t1
          go_wp2_with fail
          refine Calls.mono (H1.out _ (OW.out _ hb2).2) ?_
          rintro e w3 ⟨rfl, hb3⟩
          have B3 : Hid _ := chain hb2 hb3
          clear H1 x2 hb2 hb3
          go_wp2_with fail
          refine Calls.mono (C1.out _ (OW.out _ B3.out).2 B3.out) ?_
          rintro e w4 ⟨rfl, rfl⟩
          obtain ⟨o4, b4⟩ := OW.out _ B3.out
          obtain ⟨v', W2, r1, F5⟩ := P1.out w4 o4 b4.size
          have R1 : Hid _ := r1
          have J : Hid _ := (show _ ∧ _ from ⟨F5.out.1, b4.trans F5.out.2⟩)
          clear C1 OW B3 P1 o4 b4 r1 F5
          go_wp2_with (at_builtin; refine Go.Lib.wpList_append_run _ rfl _ _ _ _ rfl _ _ rfl rfl _ _ R1.out ?_)
          go_roundw
          case rel => exact ⟨j + 1, A ++ [m[j]], by omega, by rw [List.length_append, List.length_singleton]; omega, by go_num, E1.out, J.out⟩
          case measure => simp [intOf]; omega
      · rw [decide_eq_false hin] at H1
        have E1 : Hid _ := Y2 (fun z => hin z.1)
        clear hX hP I Y1 Y2 P1 hin l16 C1
        go_wp2_with fail
        refine Calls.mono A1.out ?_
        rintro e w2 ⟨rfl, hb2⟩
        have x2 := CU.out w2 (OW.out _ hb2).2
        clear A1 t1
        go_wp2_with fail
        refine Calls.mono (H1.out _ (OW.out _ hb2).2) ?_
        rintro e w3 ⟨rfl, hb3⟩
        have J : Hid _ := OW.out _ (chain hb2 hb3)
        clear H1 x2 hb2 hb3 OW
        go_wp2
        go_roundw
        case rel => exact ⟨j + 1, A, by omega, by omega, by go_num, E1.out, J.out⟩
        case measure => simp [intOf]; omega
    · obtain rfl : j = n := by omega
      have g1 : ¬ (j : Int) < (j : Int) := by omega
      have EA : A = Rr := by
        have := I.out.1
        rw [List.drop_of_length_le (by rw [HN.out]; exact Nat.le_refl _), aks, List.append_nil] at this
        exact this
      subst EA
      obtain ⟨a', c', rfl, F5⟩ := FIN.out _ _ I.out.2.1 I.out.2.2
      clear I FIN
      go_wp2
      go_ret
      first
      | exact ⟨a', c', rfl, F5.out⟩
      | exact ⟨a', ⟨c', rfl⟩, F5.out⟩
end Go.Proofs.YtjpaodepnacimaaGreatDoor
namespace Go.Proofs.YtjpaodepnacimaaGreatDoor
open Go.RowKit Go.Proofs.Fd Go.Proofs.Dk Go.Proofs.Lg Go.Proofs.Bx
set_option maxRecDepth 20000
theorem xstick_any (w wa : World) (p : Nat) (F : Nat → Prop) (s : St) (q : Nat) (v : Value) (x : Lo) (b quota : Nat) (vs : List Value) (bx : Bxs) (a : Option Addr) (n c : Nat) (hg : x.g < 2147483647) (k : Hid (Py w wa p F s q v x b quota vs bx)) :
    Calls Tryz.prog 45 #[.pointer (some ⟨b, 0, none⟩), .slice a n c] wa fun e w' => e = .returned (.bool false) ∧ w' = wa := by
  have GE : Hid _ := lgeneration_any q p _ _ _ v x.ts _ _ [] wa k.out.lz.hd_.hf
  have c0 := k.out.bk.c 0 _ rfl
  have g : ¬ (x.g : Int) = 2147483647 := by omega
  obtain ⟨z, hz⟩ : ∃ z : Int, (x.g : Int) = z := ⟨_, rfl⟩
  rw [hz] at GE g
  clear k hz hg
  go_enter Tryz.func45, Tryz.ntmps45
  go_wp2_with fail
  refine Calls.mono GE.out ?_
  rintro e w2 ⟨rfl, rfl⟩
  clear GE
  go_wp2
  go_ret
  exact ⟨rfl, rfl⟩
theorem aks_sub : ∀ (m : List Bs) (l : List Sl), ∀ i ∈ aks l m, i ∈ m
  | [], _, _, h => h
  | a :: m, l, i, h => by
    rw [aks] at h
    by_cases c : a ∈ ids l
    · rw [if_pos c] at h
      rcases List.mem_cons.1 h with h | h
      · rw [h]; exact List.mem_cons_self ..
      · exact List.mem_cons_of_mem _ (aks_sub m _ i h)
    · rw [if_neg c] at h
      exact List.mem_cons_of_mem _ (aks_sub m _ i h)
set_option maxHeartbeats 8000000 in
theorem xackB_any (w : World) (p q b quota : Nat) (s : St) (x : Lo) (bx : Bxs) (F : Nat → Prop) (v : Value) (vs : List Value) (u : Int) (a : Option Addr) (n c : Nat) (m : List Bs) (hn : m.length = n) (hnb : n ≤ 10000000000000) (hg : x.g < 2147483647) (gb : Gx bx) (hm : manyX bx 64 ≤ 30000) (hl : s.l.length + 60000 ≤ 1000000) (hk : Hid (Kh w)) (wa : World) (tx : Hid (TxAt wa a m)) (k : Hid (Py w wa p F s q v x b quota vs bx)) :
    Calls Tryz.prog 23 #[.pointer (some ⟨b, 0, none⟩), .int .i64 u, .slice a n c] wa fun e w' => e = .returned (.tuple #[.int .i64 ((akX s x bx u m).1 : Int), .int .i64 (akX s x bx u m).2.1.1.1]) ∧ PyP w wa (FB F q v b vs) p q b quota (akX s x bx u m).2.1.1.2 (akX s x bx u m).2.1.2 (akX s x bx u m).2.2 w' := by
  have US : Hid _ := xuser_any u wa
  have HN : Hid (m.length = n) := hn
  have ID : Hid (∀ W (i : Bs), Calls Tryz.prog 38 #[.string (st i)] W fun e w' => e = .returned (.bool (okI i)) ∧ Below W.heap.size W w') := fun W i => xid_any (st i) W
  have STAY : Hid (∀ W, Below wa.heap.size wa W → PyP w wa (FB F q v b vs) p q b quota s x bx W) := fun W hb => k.out.start.later hb
  have TXL : Hid (∀ W, Below wa.heap.size wa W → TxAt W a m) := fun W hb => tx.out.later hb
  obtain ⟨R, hR⟩ : ∃ R, akX s x bx u m = R := ⟨_, rfl⟩
  have HR : Hid (akX s x bx u m = R) := hR
  rw [hR]
  cases hU : noU u with
  | true =>
    unfold akX at hR
    rw [if_pos hU] at hR
    rw [hU] at US
    have FF : Hid _ := STAY.out wa (Below.refl _ _)
    have ER : Hid _ := hR
    clear hR HR k hU STAY ID TXL tx hn
    go_enter Tryz.func23, Tryz.ntmps23
    go_wp2_with fail
    refine Calls.mono US.out ?_
    rintro e w2 ⟨rfl, rfl⟩
    clear US
    go_wp2
    go_ret2
    exact ⟨by rw [← ER.out]; rfl, by rw [← ER.out]; exact FF.out⟩
  | false =>
    obtain ⟨u, rfl, hu⟩ := noU_nat hU
    rw [hU] at US
    have hlu : (bx u).length ≤ 30000 := by have := manyX_at 64 bx u hu; omega
    have BAD : Hid (∀ j (hj : j < m.length), okI m[j] = false → R = (0, (((3, s), x), bx))) := fun j hj hh => by
      rw [← HR.out]
      unfold akX
      rw [if_neg (by rw [hU]; simp), if_pos (List.any_eq_true.2 ⟨m[j], List.getElem_mem hj, by rw [hh]; rfl⟩)]
    have GOOD : Hid ((∀ j (hj : j < m.length), okI m[j] = true) → R = (if 256 < m.length then (0, (((2, s), x), bx)) else if aks (bx u) m = [] then (0, (((0, s), x), bx)) else (if (wrX s x bx (upB bx u (rms (bx u) m)) ((aks (bx u) m).map (ackR u))).1.1.1 = 0 then (aks (bx u) m).length else 0, wrX s x bx (upB bx u (rms (bx u) m)) ((aks (bx u) m).map (ackR u))))) := fun hh => by
      rw [← HR.out]
      unfold akX
      rw [if_neg (by rw [hU]; simp), if_neg (fun z => by
        obtain ⟨i, h1, h2⟩ := List.any_eq_true.1 z
        obtain ⟨j, hj, e⟩ := List.mem_iff_getElem.1 h1
        have := hh j hj
        rw [e] at this
        rw [this] at h2
        cases h2), Int.toNat_natCast]
    have AK : Hid (∀ W, Below wa.heap.size wa W → (∀ j (hj : j < m.length), okI m[j] = true) → n ≤ 256 → Calls Tryz.prog 44 #[.pointer (some ⟨b, 0, none⟩), .int .i64 (u : Int), .slice a n c] W fun e w' => ∃ a' c', e = .returned (.slice a' (aks (bx u) m).length c') ∧ Hid (TxAt w' a' ((aks (bx u) m).map (ackR u)) ∧ (∀ y, a' = some y → W.heap.size ≤ y.block) ∧ Below W.heap.size W w')) := fun W hb hh h2 =>
      (xacks_any w W p F s q v x b quota vs bx u hu gb hlu a n c m hn h2 (fun i hi => by
        obtain ⟨j, hj, e⟩ := List.mem_iff_getElem.1 hi
        rw [← e]
        exact okI_len (hh j hj)) (TXL.out W hb) (k.out.later hb)).mono fun _ _ ⟨a', c', e1, e2⟩ => ⟨a', c', e1, e2⟩
    have WS : Hid (∀ W a n c, Below wa.heap.size wa W → Calls Tryz.prog 45 #[.pointer (some ⟨b, 0, none⟩), .slice a n c] W fun e w' => e = .returned (.bool false) ∧ w' = W) := fun W a n c hb => xstick_any w W p F s q v x b quota vs bx a n c hg (k.out.later hb)
    have gc : Gx (upB bx u (rms (bx u) m)) := (Gm.rms (n := manyX bx 64) m ⟨gb, Nat.le_refl _⟩ hu).g
    have hmc : manyX (upB bx u (rms (bx u) m)) 64 ≤ 50000 := by
      have := (Gm.rms (n := manyX bx 64) m ⟨gb, Nat.le_refl _⟩ hu).m
      omega
    have WR : Hid (∀ W W2 a' c', Below wa.heap.size wa W → Below W.heap.size W W2 → (∀ j (hj : j < m.length), okI m[j] = true) → n ≤ 256 → TxAt W2 a' ((aks (bx u) m).map (ackR u)) → (∀ y, a' = some y → W.heap.size ≤ y.block) → Calls Tryz.prog 41 #[.pointer (some ⟨b, 0, none⟩), .slice a' (aks (bx u) m).length c'] W2 fun e w' => e = .returned (.int .i64 (wrX s x bx (upB bx u (rms (bx u) m)) ((aks (bx u) m).map (ackR u))).1.1.1) ∧ Hid (PyP w wa (FB F q v b vs) p q b quota (wrX s x bx (upB bx u (rms (bx u) m)) ((aks (bx u) m).map (ackR u))).1.1.2 (wrX s x bx (upB bx u (rms (bx u) m)) ((aks (bx u) m).map (ackR u))).1.2 (wrX s x bx (upB bx u (rms (bx u) m)) ((aks (bx u) m).map (ackR u))).2 w')) := fun W W2 a' c' hb hb2 hh h2 t2 hnew => by
      have h16 : ∀ i ∈ m, i.length = 16 := fun i hi => by
        obtain ⟨j, hj, e⟩ := List.mem_iff_getElem.1 hi
        rw [← e]
        exact okI_len (hh j hj)
      have hal := (aks_len m (bx u)).1
      have hb3 := chain hb hb2
      have hws := hb.size
      refine (xwrite_any w p q b quota s x bx (upB bx u (rms (bx u) m)) F v vs a' (aks (bx u) m).length c' ((aks (bx u) m).map (ackR u)) (by rw [List.length_map]) (by omega) (fun r hr => ?_) (aks_tk m bx u hu h16) (fun z => ?_) gc hmc hl hk W2 (k.out.later hb3) t2 (fun y e h0 => ⟨t2.lt y e h0, fun cc => ?_⟩)).mono fun _ w' ⟨e1, e2⟩ => ⟨e1, e2.trans (Nx.refl _ _) (Bf.of hb3)⟩
      · obtain ⟨i, hi, rfl⟩ := List.mem_map.1 hr
        have hi2 := aks_sub m (bx u) i hi
        rw [ackR_len (h16 i hi2)]
        exact ⟨by decide, by decide⟩
      · by_cases hz : z < 64
        · have := manyX_at 64 bx z hz; omega
        · rw [gb.u z (by omega)]; simp
      · have := hnew y e
        have := (k.out.lz.fh cc).1
        omega
    clear hR HR k hU tx hn gb gc hmc hm hl hk hg hlu
    go_enter Tryz.func23, Tryz.ntmps23
    go_wp2_with fail
    refine Calls.mono US.out ?_
    rintro e w2 ⟨rfl, hw2⟩
    subst hw2
    clear US
    go_wp2_with fail
    go_loopw [17] (fun i wx => ∃ j : Nat, j ≤ n ∧ i = .int .i64 (j : Int) ∧ Hid ((∀ o (ho : o < m.length), o < j → okI m[o] = true) ∧ Below w2.heap.size w2 wx)) (fun i _ => n - (intOf i).toNat)
    case atStart => exact ⟨0, Nat.zero_le _, rfl, fun _ _ z => absurd z (Nat.not_lt_zero _), Below.refl _ _⟩
    case round =>
      obtain ⟨j, hj, rfl, I⟩ := hrel
      by_cases hlt : j < n
      · have hjl : j < m.length := by rw [HN.out]; exact hlt
        have g1 : (j : Int) < (n : Int) := by omega
        obtain ⟨b1, o1, rfl, t1⟩ := (TXL.out _ I.out.2) j hjl
        have I1 : Hid _ := ID.out wr m[j]
        have BD := BAD.out j hjl
        unfold sv at t1
        obtain ⟨X, hX⟩ : ∃ X, st m[j] = X := ⟨_, rfl⟩
        rw [hX] at t1 I1
        clear hX
        cases ho : okI m[j] with
        | false =>
          have ER : Hid _ := BD ho
          rw [ho] at I1
          have IB : Hid _ := I.out.2
          clear ho BD I WR AK GOOD BAD WS
          go_wp2_with fail
          refine Calls.mono I1.out ?_
          rintro e w3 ⟨rfl, hb3⟩
          have FF : Hid _ := STAY.out _ (chain IB.out hb3)
          clear I1 t1 STAY IB hb3
          go_wp2
          go_ret2
          exact ⟨by rw [ER.out]; rfl, by rw [ER.out]; exact FF.out⟩
        | true =>
          rw [ho] at I1
          have IB : Hid _ := I.out.2
          have IG : Hid (∀ o (ho : o < m.length), o < j + 1 → okI m[o] = true) := fun o h1 h2 => by
            by_cases e : o = j
            · subst e; exact ho
            · exact I.out.1 o h1 (by omega)
          clear ho BD I
          go_wp2_with fail
          refine Calls.mono I1.out ?_
          rintro e w3 ⟨rfl, hb3⟩
          have B3 : Hid _ := chain IB.out hb3
          clear I1 t1 IB hb3
          go_wp2
          go_roundw
          case rel => exact ⟨j + 1, by omega, by go_num, IG.out, B3.out⟩
          case measure => simp [intOf]; omega
      · obtain rfl : j = n := by omega
        have g1 : ¬ (j : Int) < (j : Int) := by omega
        have ALL : ∀ o (ho : o < m.length), okI m[o] = true := fun o h1 => I.out.1 o h1 (by have := HN.out; omega)
        have ER0 := GOOD.out ALL
        have IB : Hid _ := I.out.2
        by_cases h256 : 256 < j
        · rw [if_pos (by rw [HN.out]; exact h256)] at ER0
          have g2 : (256 : Int) < (j : Int) := by omega
          have ER : Hid _ := ER0
          have FF : Hid _ := STAY.out _ IB.out
          clear ER0 ALL I WR AK GOOD BAD WS STAY IB
          go_wp2
          go_ret2
          exact ⟨by rw [ER.out]; rfl, by rw [ER.out]; exact FF.out⟩
        · rw [if_neg (by rw [HN.out]; exact h256)] at ER0
          have g2 : ¬ (256 : Int) < (j : Int) := by omega
          have A1 : Hid _ := AK.out _ IB.out ALL (by omega)
          have W1 : Hid _ := fun W2 a' c' hb t hnew => WR.out wr W2 a' c' IB.out hb ALL (by omega) t hnew
          obtain ⟨N, hN⟩ : ∃ N, (aks (bx u) m).length = N := ⟨_, rfl⟩
          have hNz : aks (bx u) m = [] ↔ N = 0 := by rw [← hN]; exact List.length_eq_zero_iff.symm
          rw [hN] at A1 W1 ER0
          obtain ⟨Wx, hWx⟩ : ∃ Z, wrX s x bx (upB bx u (rms (bx u) m)) ((aks (bx u) m).map (ackR u)) = Z := ⟨_, rfl⟩
          rw [hWx] at W1 ER0
          clear hN hWx ALL I WR AK GOOD BAD h256
          by_cases h0 : N = 0
          · rw [if_pos (hNz.2 h0)] at ER0
            have ER : Hid _ := ER0
            subst h0
            clear ER0 hNz W1 WS
            go_wp2_with fail
            refine Calls.mono A1.out ?_
            rintro e w3 ⟨a', c', rfl, H3⟩
            have FF : Hid _ := STAY.out _ (chain IB.out H3.out.2.2)
            clear A1 H3 STAY IB
            go_wp2
            go_ret2
            exact ⟨by rw [ER.out]; rfl, by rw [ER.out]; exact FF.out⟩
          · rw [if_neg (fun z => h0 (hNz.1 z))] at ER0
            have g3 : ¬ (N : Int) = 0 := by omega
            clear hNz h0 STAY
            go_wp2_with fail
            refine Calls.mono A1.out ?_
            rintro e w3 ⟨a', c', rfl, H3⟩
            have S1 : Hid _ := WS.out w3 a' N c' (chain IB.out H3.out.2.2)
            have W2 : Hid _ := W1.out w3 a' c' H3.out.2.2 H3.out.1 H3.out.2.1
            clear A1 H3 WS W1 IB
            go_wp2_with fail
            refine Calls.mono S1.out ?_
            rintro e w4 ⟨rfl, hw4⟩
            subst hw4
            clear S1
            go_wp2_with fail
            refine Calls.mono W2.out ?_
            rintro e w5 ⟨rfl, H5⟩
            clear W2
            by_cases hz : Wx.1.1.1 = 0
            · rw [if_pos hz] at ER0
              have ER : Hid _ := ER0
              have EZ : Hid (Wx.1.1.1 = 0) := hz
              obtain ⟨y, hy⟩ : ∃ y, Wx.1.1.1 = y := ⟨_, rfl⟩
              rw [hy] at hz ⊢
              subst hz
              clear ER0
              go_wp2
              go_ret2
              exact ⟨by rw [ER.out, EZ.out]; rfl, by rw [ER.out]; exact H5.out⟩
            · rw [if_neg hz] at ER0
              have ER : Hid _ := ER0
              obtain ⟨y, hy⟩ : ∃ y, Wx.1.1.1 = y := ⟨_, rfl⟩
              have EY : Hid (Wx.1.1.1 = y) := hy
              rw [hy] at hz ⊢
              clear ER0 hy
              go_wp2
              go_ret2
              exact ⟨by rw [ER.out, EY.out]; rfl, by rw [ER.out]; exact H5.out⟩
end Go.Proofs.YtjpaodepnacimaaGreatDoor
