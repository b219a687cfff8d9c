/- Parts: LhD, LrL, LrM, LrN, LzA. -/
import Derived.Test.YtjpaodepnacimaaGreatDoorZbG21
import Derived.Test.YtjpaodepnacimaaGreatDoorZbG20
namespace Go.Proofs.YtjpaodepnacimaaGreatDoor
open Go.RowKit Go.Proofs.Fd Go.Proofs.Dk Go.Proofs.Lg
set_option maxRecDepth 20000
theorem may_bad {t : Bs} {l : List Bs} (h : may t ≠ 0) : mays (t :: l) = may t := if_pos h
theorem may_next {t : Bs} {l : List Bs} (h : may t = 0) : mays (t :: l) = mays l := if_neg (fun c => c h)
theorem sns_take (l : List Bs) (k : Nat) (hk : k < l.length) : sns (l.take (k + 1)) = sns (l.take k) + sn l[k] := by
  have : ∀ (l : List Bs) (t : Bs), sns (l ++ [t]) = sns l + sn t := fun l t => by
    induction l with
    | nil => simp [sns]
    | cons x l ih => rw [List.cons_append, sns, ih, sns]; omega
  rw [List.take_succ_eq_append_getElem hk, this]
theorem sns_bound (l : List Bs) (k : Nat) (h : ∀ t ∈ l, t.length ≤ 2000) : sns (l.take k) ≤ 100 * k := by
  induction k with
  | zero => simp [sns]
  | succ k ih =>
    by_cases hk : k < l.length
    · rw [sns_take l k hk]
      have : sn l[k] ≤ 100 := by
        have := h _ (List.getElem_mem hk)
        unfold sn
        omega
      omega
    · rw [List.take_of_length_le (by omega)] at ih ⊢
      omega
theorem mays_prefix : ∀ (l : List Bs) (k : Nat), (∀ i (hi : i < l.length), i < k → may l[i] = 0) → mays l = mays (l.drop k)
  | [], k, _ => by rw [List.drop_nil]
  | t :: l, 0, _ => rfl
  | t :: l, k + 1, h => by
    rw [may_next (show may t = 0 from h 0 (by simp) (by omega)), List.drop_succ_cons]
    exact mays_prefix l k (fun i hi hk => h (i + 1) (by simpa using hi) (by omega))
def cmR (s : St) (fr2 mn g : Nat) (l : List Bs) : Int × St := if mays l ≠ 0 then (mays l, s) else if mn - 1 < sns l then (151, s) else if 2147483647 ≤ g then (2, s) else bgn s fr2 mn (g + 1) l
def CmP (w va : World) (p : Nat) (F : Nat → Prop) (q fr fr2 mn g : Nat) (v : Value) (ts : List Bs) (tk : Nat) (m : Bs) (l : List Bs) (y : Int × St) (w' : World) : Prop :=
  ∃ F' v', Nx2 va F q v F' v' ∧ Bf (FH F q v) va w' ∧ (y.1 = 0 ∧ HD w w' p F' y.2 q fr2 mn (g + 1) v' l (tkn 1 l) (mks (hm (g + 1)) l) [] ∨ y.1 ≠ 0 ∧ HD w w' p F' y.2 q fr mn g v' ts tk m [])
theorem mays_all : ∀ {l : List Bs}, mays l = 0 → ∀ t ∈ l, 1 ≤ t.length ∧ t.length ≤ 2000
  | [], _, t, h => by cases h
  | x :: l, h, t, ht => by
    by_cases hx : may x = 0
    · rw [may_next hx] at h
      rcases List.mem_cons.1 ht with rfl | ht
      · exact may_ok hx
      · exact mays_all h t ht
    · rw [may_bad hx] at h
      exact absurd h hx
set_option maxHeartbeats 4000000 in
theorem lcompact_any (w va : World) (p : Nat) (F : Nat → Prop) (s : St) (q fr mn g : Nat) (v : Value) (ts : List Bs) (tk : Nat) (m : Bs) (a : Option Addr) (n c : Nat) (l : List Bs) (hn : l.length = n) (hn63 : n ≤ 10000000000000) (h2 : 2 * mn ≤ s.n) (hmn : 2 ≤ mn) (hgm : g ≤ 2147483647) (hfr : fr = 0 ∨ fr = mn) (hl : s.l.length + 2000 ≤ 1000000) (hk : Hid (Kh w)) (h : Hid (HD w va p F s q fr mn g v ts tk m [])) (hx : Hid (TxAt va a l)) (ha : Hid (Ap a l F)) :
    Calls Tryz.prog 71 #[.pointer (some ⟨q, 0, none⟩), .slice a n c] va fun e w' => e = .returned (.int .i64 (cmR s (mn - fr) mn g l).1) ∧ CmP w va p F q fr (mn - fr) mn g v ts tk m l (cmR s (mn - fr) mn g l) w' := by
  have HN : Hid (l.length = n) := hn
  have hs2 := h.out.dl.at_.1.n2
  have STAY : Hid (∀ x : Int, x ≠ 0 → CmP w va p F q fr (mn - fr) mn g v ts tk m l (x, s) va) := fun x hx => ⟨F, v, Nx2.refl _ _ _ _, Bf.refl _ _, .inr ⟨hx, h.out⟩⟩
  obtain ⟨fr2, hfr2⟩ : ∃ fr2, mn - fr = fr2 := ⟨_, rfl⟩
  rw [hfr2] at STAY ⊢
  have HFR2 : Hid (mn - fr = fr2) := hfr2
  clear hfr2
  obtain ⟨r, hr⟩ : ∃ r, cmR s fr2 mn g l = r := ⟨_, rfl⟩
  have HR : Hid (cmR s fr2 mn g l = r) := hr
  rw [hr]
  clear hr hn
  go_enter Tryz.func71, Tryz.ntmps71
  go_wp2
  go_loopw [5, 13] (fun sm i wr => ∃ k : Nat, k ≤ n ∧ i = .int .i64 (k : Int) ∧ sm = .int .i64 (sns (l.take k) : Int) ∧ va = wr ∧ Hid (∀ j (hj : j < l.length), j < k → may l[j] = 0)) (fun _ i _ => n - (intOf i).toNat)
  case atStart => exact ⟨0, Nat.zero_le _, rfl, rfl, rfl, fun _ _ h => absurd h (Nat.not_lt_zero _)⟩
  case round =>
    obtain ⟨k, hkn, rfl, rfl, rfl, J⟩ := hrel
    by_cases hlt : k < n
    · have hkl : k < l.length := by rw [HN.out]; exact hlt
      have g1 : (k : Int) < (n : Int) := by omega
      obtain ⟨b, o, rfl, c0⟩ := hx.out k hkl
      have ES := sns_take l k hkl
      have EM := mays_prefix l k J.out
      rw [List.drop_eq_getElem_cons hkl] at EM
      have JJ : Hid (may l[k] = 0 → ∀ j (hj : j < l.length), j < k + 1 → may l[j] = 0) := fun h0 j hj hjk => by
        by_cases e : j = k
        · subst e; exact h0
        · exact J.out j hj (by omega)
      have SB : sns (l.take k) ≤ 100 * k := by
        have hb := sns_bound (l.take k) k (fun t ht => by
          obtain ⟨j, hj, rfl⟩ := List.getElem_of_mem ht
          rw [List.getElem_take]
          rw [List.length_take] at hj
          exact (may_ok (J.out j (by omega) (by omega))).2)
        rw [List.take_take, Nat.min_self] at hb
        exact hb
      have CH : Hid (Calls Tryz.prog 89 #[.string (st l[k])] va fun e w' => e = .returned (.int .i64 (may l[k])) ∧ w' = va) := lcheck_any (st l[k]) va
      unfold sv at c0
      by_cases h0 : may l[k] = 0
      · have hb := may_ok h0
        have SO : Hid (Calls Tryz.prog 90 #[.string (st l[k])] va fun e w' => e = .returned (.int .i64 (sn l[k] : Int)) ∧ w' = va) := lsectorsOf_any l[k] (by omega) va
        have hsn : sn l[k] ≤ 100 := by unfold sn; omega
        have JN : Hid _ := JJ.out h0
        rw [h0] at CH
        have HES : Hid (sns (l.take (k + 1)) = sns (l.take k) + sn l[k]) := ES
        have y1 : IntKind.i64.wrap ((sns (l.take k) : Int) + (sn l[k] : Int)) = (sns (l.take k) : Int) + (sn l[k] : Int) := by rw [IntKind.wrap_i64]; omega
        obtain ⟨z, hz⟩ : ∃ z, sn l[k] = z := ⟨_, rfl⟩
        obtain ⟨u, hu⟩ : ∃ u, sns (l.take k) = u := ⟨_, rfl⟩
        obtain ⟨T, hT⟩ : ∃ T, st l[k] = T := ⟨_, rfl⟩
        rw [hz] at SO HES y1
        rw [hu] at HES y1 ⊢
        rw [hT] at CH SO c0
        clear hz hu hT ES EM SB JJ J h0 hb hsn STAY h hx ha HR hl h2 hmn hfr hs2
        go_wp2_with fail
        refine Calls.mono CH.out ?_
        rintro e w1 ⟨rfl, rfl⟩
        go_wp2_with fail
        refine Calls.mono SO.out ?_
        rintro e w2 ⟨rfl, rfl⟩
        go_wp2
        go_roundw
        case rel => exact ⟨k + 1, by omega, rfl, by rw [HES.out]; simp, by first | rfl | trivial, JN.out⟩
        case measure => simp [intOf]; omega
      · rw [may_bad h0] at EM
        have ER : Hid (r = (may l[k], s)) := by
          show r = _
          rw [← HR.out, cmR, if_pos (by rw [EM]; exact h0), EM]
        have FF : Hid _ := STAY.out _ h0
        obtain ⟨x, hxx⟩ : ∃ x, may l[k] = x := ⟨_, rfl⟩
        rw [hxx] at CH ER FF h0
        obtain ⟨T, hT⟩ : ∃ T, st l[k] = T := ⟨_, rfl⟩
        rw [hT] at CH c0
        clear hT hxx ES EM SB JJ J STAY h hx ha HR hl h2 hmn hfr hs2
        go_wp2_with fail
        refine Calls.mono CH.out ?_
        rintro e w1 ⟨rfl, rfl⟩
        go_wp2
        go_ret
        exact ⟨by rw [ER.out]; rfl, by rw [ER.out]; exact FF.out⟩
    · obtain rfl : k = n := by omega
      have g1 : ¬ (k : Int) < (k : Int) := by omega
      have e0 : mays l = 0 := by
        rw [mays_prefix l k J.out, List.drop_of_length_le (by rw [HN.out]; exact Nat.le_refl _)]
        rfl
      have e1 : l.take k = l := List.take_of_length_le (by rw [HN.out]; exact Nat.le_refl _)
      rw [e1]
      have k2 := h.out.hf.bk.c 2 _ rfl
      have HR1 := HR.out
      rw [cmR, if_neg (by rw [e0]; simp)] at HR1
      have ym : IntKind.i64.wrap ((mn : Int) - 1) = (mn : Int) - 1 := by rw [IntKind.wrap_i64]; omega
      by_cases h3 : mn - 1 < sns l
      · rw [if_pos h3] at HR1
        have ER : Hid (r = (151, s)) := HR1.symm
        have FF : Hid _ := STAY.out 151 (by decide)
        have g3 : (mn : Int) - 1 < (sns l : Int) := by omega
        obtain ⟨sm, hsm⟩ : ∃ sm : Int, (sns l : Int) = sm := ⟨_, rfl⟩
        rw [hsm] at g3 ⊢
        clear hsm HR1 STAY h hx ha HR hl J e0 e1
        go_wp2
        go_ret
        exact ⟨by rw [ER.out]; rfl, by rw [ER.out]; exact FF.out⟩
      · rw [if_neg h3] at HR1
        have g3 : ¬ (mn : Int) - 1 < (sns l : Int) := by omega
        have k3 := h.out.hf.bk.c 3 _ rfl
        by_cases h4 : 2147483647 ≤ g
        · rw [if_pos h4] at HR1
          have ER : Hid (r = (2, s)) := HR1.symm
          have FF : Hid _ := STAY.out 2 (by decide)
          have g4 : (g : Int) = 2147483647 := by omega
          obtain ⟨sm, hsm⟩ : ∃ sm : Int, (sns l : Int) = sm := ⟨_, rfl⟩
          rw [hsm] at g3 ⊢
          obtain ⟨gi, hgi⟩ : ∃ gi : Int, (g : Int) = gi := ⟨_, rfl⟩
          rw [hgi] at k3 g4
          clear hsm HR1 STAY h hx ha HR hl J e0 e1 h4 hgi hgm
          subst g4
          go_wp2
          go_ret
          exact ⟨by rw [ER.out]; rfl, by rw [ER.out]; exact FF.out⟩
        · rw [if_neg h4] at HR1
          have hfr2 := HFR2.out
          have hf2 : fr2 + mn ≤ s.n := by rcases hfr with rfl | rfl <;> omega
          have hf3 : fr ≤ mn := by rcases hfr with rfl | rfl <;> omega
          have htk : tkn 1 l ≤ mn := by rw [tkn_sns]; omega
          have OT : Hid (∀ w, Calls Tryz.prog 64 #[.agg #[.pointer (some ⟨p, 0, none⟩), .int .i64 (fr : Int), .int .i64 (mn : Int)]] w fun e w' => e = .returned (.agg #[.pointer (some ⟨p, 0, none⟩), .int .i64 (fr2 : Int), .int .i64 (mn : Int)]) ∧ Below w.heap.size w w') := fun w => by
            have := lother_any w p fr mn hf3 (by omega)
            rw [hfr2] at this
            exact this
          have BG : Hid (∀ V, Below va.heap.size va V → Calls Tryz.prog 65 #[.agg #[.pointer (some ⟨p, 0, none⟩), .int .i64 (fr2 : Int), .int .i64 (mn : Int)], .int .i64 ((g : Int) + 1), .slice a k c] V fun e w' => ∃ pp i1 i2 i3 xa xn xc i5 s6, e = .returned (.tuple #[.agg #[.pointer pp, .int .i64 i1, .int .i64 i2, .int .i64 i3, .slice xa xn xc, .int .i64 i5, .string s6], .int .i64 r.1]) ∧ (r.1 = 0 → pp = some ⟨p, 0, none⟩ ∧ i1 = (fr2 : Int) ∧ i2 = (mn : Int) ∧ i3 = ((g + 1 : Nat) : Int) ∧ i5 = (tkn 1 l : Int) ∧ s6 = st (mks (hm (g + 1)) l)) ∧ Bn7 w V p F r.2 (if r.1 = 0 then l else []) xa xn xc w') := fun V hb => by
            have := lbegin_any w V p F s fr2 mn (g + 1) a k c l (by omega) hf2 HN.out (fun t ht => (mays_all e0 t ht).2) htk (by omega) hk (h.out.dl.later hb) (hx.out.later hb) ha
            rw [HR1] at this
            refine this.mono fun e w' ⟨F2, d1, d2, d3, hres⟩ => ?_
            rcases hres with ⟨h0, v2, rfl, r2, n2⟩ | ⟨h0, rfl⟩
            · obtain ⟨ya, yn, yc, rfl⟩ := owns_sliceS r2
              refine ⟨_, _, _, _, ya, yn, yc, _, _, by rw [h0]; rfl, fun _ => ⟨rfl, rfl, rfl, rfl, rfl, rfl⟩, F2, d1, d2, d3, ?_, n2⟩
              rw [if_pos h0]
              exact r2
            · refine ⟨_, _, _, _, none, 0, 0, _, _, rfl, fun c => absurd c h0, F2, d1, d2, d3, ?_, nofun⟩
              rw [if_neg h0]
              exact owns_nilS _
          have e5 : (((g + 1 : Nat) : Int)) = (g : Int) + 1 := by omega
          have c0 := h.out.hf.bk.c 0 _ rfl
          have c1 := h.out.hf.bk.c 1 _ rfl
          have HW : Hid (w.heap.size ≤ va.heap.size) := h.out.dl.below.size
          have HFF : Hid (∀ y, F y → y < va.heap.size) := fun y c => h.out.dl.at_.lt c
          have HQ : Hid (¬ F q ∧ q < va.heap.size) := ⟨(h.out.ap q (.inl rfl)).1, h.out.hf.bk.lt⟩
          have HGG : Hid (∃ gi : Int, (g : Int) = gi) := ⟨_, rfl⟩
          obtain ⟨gi, hgi⟩ := HGG.out
          have g4 : ¬ gi = 2147483647 := by omega
          have y1 : IntKind.i64.wrap (gi + 1) = gi + 1 := by rw [IntKind.wrap_i64]; omega
          rw [hgi] at k3 BG
          have HG : Hid (gi + 1 = ((g + 1 : Nat) : Int)) := by
            show gi + 1 = _
            omega
          obtain ⟨x, hxx⟩ : ∃ x, r.1 = x := ⟨_, rfl⟩
          have HX : Hid (r.1 = x) := hxx
          rw [hxx] at BG
          obtain ⟨sm, hsm⟩ : ∃ sm : Int, (sns l : Int) = sm := ⟨_, rfl⟩
          rw [hsm] at g3 ⊢
          clear hsm hgi HR1 STAY hx ha HR hl J e0 e1 h4 h3 hfr hfr2 hf2 hf3 htk e5 hxx HGG
          go_upto_region 14 with fail
          refine compact_region w p F r.2 (if x = 0 then l else []) q fr fr2 mn gi x va a k c (fun pp i1 i2 i3 i5 s6 => x = 0 → pp = some ⟨p, 0, none⟩ ∧ i1 = (fr2 : Int) ∧ i2 = (mn : Int) ∧ i3 = ((g + 1 : Nat) : Int) ∧ i5 = (tkn 1 l : Int) ∧ s6 = st (mks (hm (g + 1)) l)) HW HFF HQ y1 c0 c1 k2 k3 OT BG _ _ _ _ _ _ _ _ _ _ _ _ _ _ _ _ _ _ _ _ _ _ _ _ _ _ _ _ _ _ _ _ _ _ _ _ _ _ _ ?_
          intro H pp i1 i2 i3 xa xn xc i5 s6 wx u42 u43 u44 u45 u46 u47 u48 u49 u50 u51 u52 u53 u54 u55 u56 u57 u58 hE hC
          have HC : Hid _ := hC
          obtain ⟨⟨F2, d1, d2, d3, r2, n2⟩, bk, nH⟩ := id hC
          have K2 : Hid (HD w wx p F2 r.2 q fr mn g v ts tk m []) := h.out.disk d1 d2 d3
          have D3 : Hid (Bf F va wx ∧ Nx va F F2) := ⟨d3, d2⟩
          clear d1 d2 d3 OT BG c0 c1 k2 k3 hC
          by_cases h0 : x = 0
          · obtain ⟨rfl, rfl, rfl, rfl, rfl, rfl⟩ := hE h0
            subst h0
            have rr : OwnsS wx (.slice xa xn xc) l := r2
            have NQ : (Value.slice xa xn xc).ownBlock ≠ some q := fun e => by
              have := (n2 q e).1
              have := HQ.out.2
              omega
            have FF : Hid (CmP w va p F q fr fr2 mn g v ts tk m l r (wx.setCells q 0 (hc p fr2 mn (g + 1) (.slice xa xn xc) (tkn 1 l) (mks (hm (g + 1)) l) []))) := by
              have hbf : Bf (fun y => y = q) wx (wx.setCells q 0 (hc p fr2 mn (g + 1) (.slice xa xn xc) (tkn 1 l) (mks (hm (g + 1)) l) [])) := Bf.sets (fun y => y = q) q rfl _ 0 wx
              refine ⟨F2, .slice xa xn xc, ⟨D3.out.2, fun y e => ?_⟩, ?_, .inl ⟨HX.out, ⟨K2.out.dl.sets (K2.out.ap q (.inl rfl)).1 (K2.out.ap q (.inl rfl)).2 _, ⟨K2.out.hf.bk.put _ rfl, ownsRow_same rr (fun y e => setCells_other wx q 0 _ y (fun d => NQ (by rw [e, d]))), NQ⟩, fun y e => ?_⟩⟩⟩
              · rcases e with e | e
                · exact .inl (.inl e)
                · exact .inr (n2 y e).1
              · exact (D3.out.1.wide fun y e => .inl e).trans (Nx.refl _ _) (hbf.wide fun y e => .inr (.inl e))
              · rcases e with e | e
                · rw [e]
                  exact K2.out.ap q (.inl rfl)
                · exact ⟨(n2 y e).2, Nat.le_trans HW.out (n2 y e).1⟩
            have c0 := K2.out.hf.bk.c 0 _ rfl
            have c1 := K2.out.hf.bk.c 1 _ rfl
            have c2 := K2.out.hf.bk.c 2 _ rfl
            have c3 := K2.out.hf.bk.c 3 _ rfl
            have c4 := K2.out.hf.bk.c 4 _ rfl
            have c5 := K2.out.hf.bk.c 5 _ rfl
            have c6 := K2.out.hf.bk.c 6 _ rfl
            have cf := K2.out.hf.bk.f
            have z0 := bk.c 0 _ rfl
            have z1 := bk.c 1 _ rfl
            have z2 := bk.c 2 _ rfl
            have z3 := bk.c 3 _ rfl
            have z4 := bk.c 4 _ rfl
            have z5 := bk.c 5 _ rfl
            have z6 := bk.c 6 _ rfl
            have hqH : q ≠ H := fun e => by have := HQ.out.2; omega
            obtain ⟨gg, hgg⟩ : ∃ gg : Int, ((g + 1 : Nat) : Int) = gg := ⟨_, rfl⟩
            obtain ⟨t1, ht1⟩ : ∃ t1 : Int, ((tkn 1 l : Nat) : Int) = t1 := ⟨_, rfl⟩
            unfold hc sv at FF
            rw [hgg, ht1] at FF
            rw [hgg] at z3
            rw [ht1] at z5
            clear K2 D3 HC bk r2 n2 rr NQ HFF HQ hgg ht1 h
            go_wp2
            go_ret
            exact ⟨by rw [HX.out]; rfl, FF.out⟩
          · have FF : Hid (CmP w va p F q fr fr2 mn g v ts tk m l r wx) := ⟨F2, v, ⟨D3.out.2, Nx.refl _ _⟩, D3.out.1.wide fun y e => .inl e, .inr ⟨by rw [HX.out]; exact h0, K2.out⟩⟩
            clear K2 D3 HC bk r2 n2 HFF HQ h hE
            go_wp2
            go_ret
            exact ⟨by rw [HX.out]; rfl, FF.out⟩
end Go.Proofs.YtjpaodepnacimaaGreatDoor
namespace Go.Proofs.YtjpaodepnacimaaGreatDoor
open Go.RowKit Go.Proofs.Fd Go.Proofs.Dk Go.Proofs.Lg
set_option maxRecDepth 20000
theorem pts_n : ∀ (l : List Bs) (s : St) (k tk : Nat) (a : Bs), (pts s k tk a l).2.n = s.n
  | [], _, _, _, _ => rfl
  | t :: l, s, k, tk, a => by
    rw [pts]
    by_cases h : (wrb s (k + tk) (rcd a t)).1 = 0
    · rw [thn_ok h]
      exact (pts_n l _ _ _ _).trans (wrb_n s _ _)
    · rw [thn_no h]
      exact wrb_n s _ _
theorem thn_n {z : Int × St} {f : St → Int × St} {N : Nat} (h : z.2.n = N) (hf : ∀ s, s.n = N → (f s).2.n = N) : (thn z f).2.n = N := by
  by_cases h0 : z.1 = 0
  · rw [thn_ok h0]; exact hf _ h
  · rw [thn_no h0]; exact h
theorem bgn_n (s : St) (k H g : Nat) (ts : List Bs) : (bgn s k H g ts).2.n = s.n := by
  unfold bgn
  exact thn_n (cln_n s k H) fun s1 h1 => thn_n ((pts_n ts s1 _ _ _).trans h1) fun s2 h2 => thn_n ((syS_n s2).trans h2) fun s3 h3 => thn_n ((wrb_n s3 _ _).trans h3) fun s4 h4 => (syS_n s4).trans h4
def RcS (q d h g : Nat) (w' : World) : Prop := w'.cell? ⟨q, 0, none⟩ = some (.pointer (some ⟨d, 0, none⟩)) ∧ w'.cell? ⟨q, 1, none⟩ = some (.int .i64 (h : Int)) ∧ w'.cell? ⟨q, 2, none⟩ = some (.int .i64 (g : Int))
theorem Rf.rcs {w : World} {q d h g : Nat} {v : Value} {ts : List Bs} {tk : Nat} {m : Bs} (k : Rf w q d h g v ts tk m) : RcS q d h g w := ⟨k.bk.c 0 _ rfl, k.bk.c 1 _ rfl, k.bk.c 2 _ rfl⟩
end Go.Proofs.YtjpaodepnacimaaGreatDoor
namespace Go.Proofs.YtjpaodepnacimaaGreatDoor
open Go.RowKit Go.Proofs.Fd Go.Proofs.Dk Go.Proofs.Lg
set_option maxRecDepth 20000
def user (s : St) : Nat × Nat := if genr (s.sh 0) < genr (s.sh (s.n / 2)) then (1, genr (s.sh (s.n / 2))) else (0, genr (s.sh 0))
theorem Rf.grow {w : World} {q d h g : Nat} {v : Value} {ts : List Bs} {tk : Nat} {m : Bs} (k : Rf w q d h g v ts tk m) {w' : World} {v' : Value} {us : List Bs} (r : w.grownBy w' v.ownBlock) (o : OwnsS w' v' us) (hv : v'.ownBlock = v.ownBlock ∨ v'.ownBlock = some w.heap.size) (m' : Bs) (tk' : Nat) :
    Rf (((w'.setCell ⟨q, 3, none⟩ v').setCell ⟨q, 4, none⟩ (sv m')).setCell ⟨q, 5, none⟩ (.int .i64 (tk' : Int))) q d h g v' us tk' m' ∧ Bf (HFt q v) w (((w'.setCell ⟨q, 3, none⟩ v').setCell ⟨q, 4, none⟩ (sv m')).setCell ⟨q, 5, none⟩ (.int .i64 (tk' : Int))) ∧ Nx w (HFt q v) (HFt q v') := by
  have hq : w'.heap[q]? = w.heap[q]? := r.block q k.bk.lt (fun e => k.qv e.symm)
  have nq : v'.ownBlock ≠ some q := fun c => by
    rcases hv with e | e
    · exact k.qv (e.symm.trans c)
    · rw [e] at c
      injection c with c
      have := k.bk.lt
      omega
  have b1 := (((k.bk.same hq).set 3 (show 3 < 6 by decide) v').set 4 (show 4 < 6 by decide) (sv m')).set 5 (show 5 < 6 by decide) (.int .i64 (tk' : Int))
  have s1 : ∀ (W : World) (i : Nat) (y : Value), OwnsS W v' us → OwnsS (W.setCell ⟨q, i, none⟩ y) v' us := fun W i y ho => ownsRow_same ho (fun x e => Below.heap_setCell W ⟨q, i, none⟩ y x (fun c => nq (by rw [e, c])))
  refine ⟨⟨b1, s1 _ _ _ (s1 _ _ _ (s1 _ _ _ o)), nq⟩, bf_set (bf_set (bf_set (Bf.grown r fun g e => .inl (.inr e)) (.inl rfl)) (.inl rfl)) (.inl rfl), fun y hy => ?_⟩
  rcases hy with e | e
  · exact .inl (.inl e)
  · rcases hv with h2 | h2
    · exact .inl (.inr (h2.symm.trans e))
    · rw [h2] at e
      injection e with e
      exact .inr (by omega)
theorem Rb.grow {w : World} {d : Nat} {G : Nat → Prop} {wr : World} {G' : Nat → Prop} {s : St} {q h g : Nat} {v : Value} {ts : List Bs} {tk : Nat} {m : Bs} (k : Rb w d G wr G' s q h g v ts tk m) {w' : World} {v' : Value} {us : List Bs} (r : wr.grownBy w' v.ownBlock) (o : OwnsS w' v' us) (hv : v'.ownBlock = v.ownBlock ∨ v'.ownBlock = some wr.heap.size) (m' : Bs) (tk' : Nat) :
    Rb w d G (((w'.setCell ⟨q, 3, none⟩ v').setCell ⟨q, 4, none⟩ (sv m')).setCell ⟨q, 5, none⟩ (.int .i64 (tk' : Int))) G' s q h g v' us tk' m' := by
  obtain ⟨z1, z2, z3⟩ := k.rd.rf.grow r o hv m' tk'
  refine k.put ⟨k.rd.at_.other z2 (fun y hy c => k.rd.ap y c hy), z1, fun y hy => ?_⟩ (Nx.refl _ _) z3 (z2.wide fun y e => .inr e)
  rcases z3 y hy with e | e
  · exact k.rd.ap y e
  · intro c
    have := k.rd.at_.lt c
    omega
end Go.Proofs.YtjpaodepnacimaaGreatDoor
namespace Go.Proofs.YtjpaodepnacimaaGreatDoor
open Go.RowKit Go.Proofs.Fd Go.Proofs.Dk Go.Proofs.Lg
set_option maxRecDepth 20000
end Go.Proofs.YtjpaodepnacimaaGreatDoor
namespace Go.Proofs.YtjpaodepnacimaaGreatDoor
open Go.RowKit Go.Proofs.Fd Go.Proofs.Dk Go.Proofs.Lg
set_option maxRecDepth 20000
theorem bgn_len (s : St) (k H g : Nat) (ts : List Bs) : (bgn s k H g ts).2.l.length ≤ s.l.length + H + sns ts + 1 := by
  unfold bgn
  have c := cln_len s k H
  by_cases h1 : (cln s k H).1 = 0
  · rw [thn_ok h1]
    have p := pts_len ts (cln s k H).2 k 1 (hm g)
    by_cases h2 : (pts (cln s k H).2 k 1 (hm g) ts).1 = 0
    · rw [thn_ok h2]
      have q := syS_len (pts (cln s k H).2 k 1 (hm g) ts).2
      by_cases h3 : syE (pts (cln s k H).2 k 1 (hm g) ts).2 = 0
      · rw [thn_ok h3]
        have r := wrb_len (syS (pts (cln s k H).2 k 1 (hm g) ts).2) k (hd g)
        rw [hd_len] at r
        by_cases h4 : (wrb (syS (pts (cln s k H).2 k 1 (hm g) ts).2) k (hd g)).1 = 0
        · rw [thn_ok h4]
          have t := syS_len (wrb (syS (pts (cln s k H).2 k 1 (hm g) ts).2) k (hd g)).2
          show (syS _).l.length ≤ _
          omega
        · rw [thn_no h4]; omega
      · rw [thn_no h3]
        show (syS _).l.length ≤ _
        omega
    · rw [thn_no h2]; omega
  · rw [thn_no h1]; omega
theorem app_len (s : St) (x : Lo) (t : Bs) : (app s x t).1.2.l.length ≤ s.l.length + 40 ∧ (app s x t).1.2.n = s.n := by
  unfold app
  by_cases h1 : may t ≠ 0
  · rw [if_pos h1]; exact ⟨Nat.le_add_right _ _, rfl⟩
  · rw [if_neg h1]
    by_cases h2 : s.n / 2 < x.tk + sn t
    · rw [if_pos h2]; exact ⟨Nat.le_add_right _ _, rfl⟩
    · rw [if_neg h2]
      have r := wrb_len s (x.h * (s.n / 2) + x.tk) (rcd x.mr t)
      rw [rcd_len] at r
      have hok := may_ok (by simpa using h1)
      have hsn : sn t ≤ 40 := by unfold sn; omega
      exact ⟨by show (wrb _ _ _).2.l.length ≤ _; omega, wrb_n _ _ _⟩
theorem cmp_len (s : St) (x : Lo) (ts : List Bs) : (cmp s x ts).1.2.l.length ≤ s.l.length + s.n + 1 ∧ (cmp s x ts).1.2.n = s.n := by
  unfold cmp
  by_cases h1 : mays ts ≠ 0
  · rw [if_pos h1]; exact ⟨by show s.l.length ≤ _; omega, rfl⟩
  · rw [if_neg h1]
    by_cases h2 : s.n / 2 - 1 < sns ts
    · rw [if_pos h2]; exact ⟨by show s.l.length ≤ _; omega, rfl⟩
    · rw [if_neg h2]
      by_cases h3 : 2147483647 ≤ x.g
      · rw [if_pos h3]; exact ⟨by show s.l.length ≤ _; omega, rfl⟩
      · rw [if_neg h3]
        have := bgn_len s ((1 - x.h) * (s.n / 2)) (s.n / 2) (x.g + 1) ts
        exact ⟨by show (bgn _ _ _ _ _).2.l.length ≤ _; omega, bgn_n _ _ _ _ _⟩
theorem rben4 (n : Nat) : ben n 4 = [UInt8.ofNat (n / 16777216), UInt8.ofNat (n / 65536), UInt8.ofNat (n / 256), UInt8.ofNat n] := by
  show [UInt8.ofNat (n / 2 ^ 24), UInt8.ofNat (n / 2 ^ 16), UInt8.ofNat (n / 2 ^ 8), UInt8.ofNat (n / 2 ^ 0)] = _
  rw [show n / 2 ^ 0 = n by simp]
structure Lz (w wr : World) (p : Nat) (F : Nat → Prop) (s : St) (q : Nat) (v : Value) (x : Lo) : Prop where
  hd_ : HD w wr p F s q (x.h * (s.n / 2)) (s.n / 2) x.g v x.ts x.tk x.mr []
  h1 : x.h ≤ 1
  n4 : 4 ≤ s.n
  n2 : s.n ≤ 1024
  tk : x.tk ≤ s.n / 2
  ok : ∀ t ∈ x.ts, 1 ≤ t.length ∧ t.length ≤ 2000
  g : x.g ≤ 2147483647
section
variable {w wr : World} {p : Nat} {F : Nat → Prop} {s : St} {q : Nat} {v : Value} {x : Lo}
theorem Lz.later (h : Lz w wr p F s q v x) {w' : World} (hb : Below wr.heap.size wr w') : Lz w w' p F s q v x := ⟨h.hd_.later hb, h.h1, h.n4, h.n2, h.tk, h.ok, h.g⟩
theorem Lz.tlen (h : Lz w wr p F s q v x) : x.ts.length ≤ 512 := by
  have h1 := tkn_ge_len x.ts
  have h2 : tkn 1 x.ts ≤ s.n / 2 := h.tk
  have h3 := h.n2
  omega
theorem Lz.fh (h : Lz w wr p F s q v x) {y : Nat} (hy : FH F q v y) : y < wr.heap.size ∧ w.heap.size ≤ y := by
  rcases hy with e | e
  · exact ⟨h.hd_.dl.at_.lt e, h.hd_.dl.new y e⟩
  · exact ⟨h.hd_.hf.lt e, (h.hd_.ap y e).2⟩
theorem Lz.other (h : Lz w wr p F s q v x) {w' : World} {G : Nat → Prop} (hb : Bf G wr w') (hG : ∀ y, FH F q v y → ¬ G y) (hw : ∀ y, G y → w.heap.size ≤ y) : Lz w w' p F s q v x :=
  ⟨⟨⟨h.hd_.dl.at_.other hb (fun y hy => hG y (.inl hy)), h.hd_.dl.new, h.hd_.dl.below.trans (hb.below hw h.hd_.dl.below.size)⟩, h.hd_.hf.bf hb (fun y hy => hG y (.inr hy)), h.hd_.ap⟩, h.h1, h.n4, h.n2, h.tk, h.ok, h.g⟩
theorem Lz.fr (h : Lz w wr p F s q v x) : x.h * (s.n / 2) ≤ 512 := by
  have := h.n2
  rcases (by have := h.h1; omega : x.h = 0 ∨ x.h = 1) with e | e
  · rw [e, Nat.zero_mul]; omega
  · rw [e, Nat.one_mul]; omega
end
def LzP (w wr : World) (p : Nat) (F : Nat → Prop) (q : Nat) (v : Value) (s : St) (x : Lo) (w' : World) : Prop := ∃ F' v', Lz w w' p F' s q v' x ∧ Nx2 wr F q v F' v' ∧ Bf (FH F q v) wr w'
theorem lzappend_any (w wr : World) (p : Nat) (F : Nat → Prop) (s : St) (q : Nat) (v : Value) (x : Lo) (X : ByteArray) (hl : s.l.length + 100 ≤ 1000000) (hk : Kh w) (h : Lz w wr p F s q v x) :
    Calls Tryz.prog 52 #[.pointer (some ⟨q, 0, none⟩), .string X] wr fun e w' => e = .returned (.int .i64 (app s x X.data.toList).1.1) ∧ LzP w wr p F q v (app s x X.data.toList).1.2 (app s x X.data.toList).2 w' := by
  have hn2 := h.n2
  have hfr := h.fr
  have e1 : (app s x X.data.toList).1 = apR s (x.h * (s.n / 2)) (s.n / 2) x.tk x.mr X.data.toList := by
    unfold app apR
    by_cases h1 : may X.data.toList ≠ 0
    · rw [if_pos h1, if_pos h1]
    · rw [if_neg h1, if_neg h1]
      by_cases h2 : s.n / 2 < x.tk + sn X.data.toList
      · rw [if_pos h2, if_pos h2]
      · rw [if_neg h2, if_neg h2]
  have hlen := app_len s x X.data.toList
  refine (lappend_any w wr p F s q (x.h * (s.n / 2)) (s.n / 2) x.g v x.ts x.tk x.mr X (mks_len _ _ rfl) (by have := h.tlen; omega) h.tk (by omega) (by omega) hl hk h.hd_).mono ?_
  rintro e w' ⟨he, F', v', n1, b1, hh⟩
  rw [e1]
  refine ⟨he, F', v', ?_, n1, b1⟩
  rw [e1] at hlen
  obtain ⟨t, ht⟩ : ∃ t, X.data.toList = t := ⟨_, rfl⟩
  rw [ht] at e1 hh hlen ⊢
  have hsn : (apR s (x.h * (s.n / 2)) (s.n / 2) x.tk x.mr t).2.n = s.n := hlen.2
  rcases hh with ⟨c0, hh⟩ | ⟨c0, hh⟩
  · have h1 : may t = 0 := by
      by_cases c : may t = 0
      · exact c
      · exfalso
        unfold apR at c0
        rw [if_pos c] at c0
        exact c c0
    have h2 : ¬ s.n / 2 < x.tk + sn t := fun c => by
      unfold apR at c0
      rw [if_neg (by rw [h1]; simp), if_pos c] at c0
      cases c0
    have e2 : (app s x t).2 = ⟨x.h, x.g, x.ts ++ [t]⟩ := by
      have c0' : (wrb s (x.h * (s.n / 2) + x.tk) (rcd x.mr t)).1 = 0 := by
        unfold apR at c0
        rw [if_neg (by rw [h1]; simp), if_neg h2] at c0
        exact c0
      unfold app
      rw [if_neg (by rw [h1]; simp), if_neg h2]
      show (if (wrb s (x.h * (s.n / 2) + x.tk) (rcd x.mr t)).1 = 0 then _ else _) = _
      rw [if_pos c0']
    have et : (⟨x.h, x.g, x.ts ++ [t]⟩ : Lo).tk = x.tk + sn t := tkn_app x.ts 1 _
    have em : (⟨x.h, x.g, x.ts ++ [t]⟩ : Lo).mr = rmk x.mr t := mks_app x.ts (hm x.g) _
    rw [e2]
    refine ⟨?_, h.h1, by rw [hsn]; exact h.n4, by rw [hsn]; exact h.n2, by rw [et, hsn]; omega, fun u hu => ?_, h.g⟩
    · rw [et, em, hsn]
      exact hh
    · rcases List.mem_append.1 hu with hu | hu
      · exact h.ok u hu
      · rw [List.mem_singleton] at hu
        subst hu
        exact may_ok h1
  · have e2 : (app s x t).2 = x := by
      unfold app
      by_cases h1 : may t ≠ 0
      · rw [if_pos h1]
      · rw [if_neg h1]
        by_cases h2 : s.n / 2 < x.tk + sn t
        · rw [if_pos h2]
        · rw [if_neg h2]
          have c0' : (wrb s (x.h * (s.n / 2) + x.tk) (rcd x.mr t)).1 ≠ 0 := by
            unfold apR at c0
            rw [if_neg h1, if_neg h2] at c0
            exact c0
          show (if (wrb s (x.h * (s.n / 2) + x.tk) (rcd x.mr t)).1 = 0 then _ else _) = _
          rw [if_neg c0']
    rw [e2]
    exact ⟨by rw [hsn]; exact hh, h.h1, by rw [hsn]; exact h.n4, by rw [hsn]; exact h.n2, by rw [hsn]; exact h.tk, h.ok, h.g⟩
theorem lzcompact_any (w wr : World) (p : Nat) (F : Nat → Prop) (s : St) (q : Nat) (v : Value) (x : Lo) (a : Option Addr) (n c : Nat) (us : List Bs) (hn : us.length = n) (hnb : n ≤ 10000000000000) (hl : s.l.length + 4000 ≤ 1000000) (hk : Kh w) (h : Lz w wr p F s q v x) (tx : TxAt wr a us) (ap : Ap a us F) :
    Calls Tryz.prog 71 #[.pointer (some ⟨q, 0, none⟩), .slice a n c] wr fun e w' => e = .returned (.int .i64 (cmp s x us).1.1) ∧ LzP w wr p F q v (cmp s x us).1.2 (cmp s x us).2 w' := by
  have hn2 := h.n2
  have hn4 := h.n4
  have h01 : x.h = 0 ∨ x.h = 1 := by have := h.h1; omega
  have e2 : s.n / 2 - x.h * (s.n / 2) = (1 - x.h) * (s.n / 2) := by
    rcases h01 with e | e
    · rw [e, Nat.zero_mul, Nat.sub_zero, Nat.sub_zero, Nat.one_mul]
    · rw [e, Nat.one_mul, Nat.sub_self, Nat.sub_self, Nat.zero_mul]
  have e1 : (cmp s x us).1 = cmR s ((1 - x.h) * (s.n / 2)) (s.n / 2) x.g us := by
    unfold cmp cmR
    by_cases h1 : mays us ≠ 0
    · rw [if_pos h1, if_pos h1]
    · rw [if_neg h1, if_neg h1]
      by_cases h2 : s.n / 2 - 1 < sns us
      · rw [if_pos h2, if_pos h2]
      · rw [if_neg h2, if_neg h2]
        by_cases h3 : 2147483647 ≤ x.g
        · rw [if_pos h3, if_pos h3]
        · rw [if_neg h3, if_neg h3]
  have hlen := cmp_len s x us
  refine (lcompact_any w wr p F s q (x.h * (s.n / 2)) (s.n / 2) x.g v x.ts x.tk x.mr a n c us hn (by omega) (by omega) (by omega) h.g (by rcases h01 with e | e; exact .inl (by rw [e, Nat.zero_mul]); exact .inr (by rw [e, Nat.one_mul])) (by omega) hk h.hd_ tx ap).mono ?_
  rintro e w' ⟨he, F', v', n1, b1, hh⟩
  rw [e2, ← e1] at he hh
  refine ⟨he, F', v', ?_, n1, b1⟩
  have hsn : (cmp s x us).1.2.n = s.n := hlen.2
  rcases hh with ⟨c0, hh⟩ | ⟨c0, hh⟩
  · have h1 : ¬ mays us ≠ 0 := fun c => by
      unfold cmp at c0
      rw [if_pos c] at c0
      exact c c0
    have h2 : ¬ s.n / 2 - 1 < sns us := fun c => by
      unfold cmp at c0
      rw [if_neg h1, if_pos c] at c0
      cases c0
    have h3 : ¬ 2147483647 ≤ x.g := fun c => by
      unfold cmp at c0
      rw [if_neg h1, if_neg h2, if_pos c] at c0
      cases c0
    have e3 : (cmp s x us).2 = ⟨1 - x.h, x.g + 1, us⟩ := by
      have c0' : (bgn s ((1 - x.h) * (s.n / 2)) (s.n / 2) (x.g + 1) us).1 = 0 := by
        unfold cmp at c0
        rw [if_neg h1, if_neg h2, if_neg h3] at c0
        exact c0
      unfold cmp
      rw [if_neg h1, if_neg h2, if_neg h3]
      show (if (bgn s ((1 - x.h) * (s.n / 2)) (s.n / 2) (x.g + 1) us).1 = 0 then _ else _) = _
      rw [if_pos c0']
    rw [e3]
    refine ⟨by rw [hsn]; exact hh, by show 1 - x.h ≤ 1; omega, by rw [hsn]; exact h.n4, by rw [hsn]; exact h.n2, ?_, mays_all (by simpa using h1), by show x.g + 1 ≤ _; omega⟩
    rw [hsn]
    show tkn 1 us ≤ _
    rw [tkn_sns]
    omega
  · have e3 : (cmp s x us).2 = x := by
      unfold cmp
      by_cases h1 : mays us ≠ 0
      · rw [if_pos h1]
      · rw [if_neg h1]
        by_cases h2 : s.n / 2 - 1 < sns us
        · rw [if_pos h2]
        · rw [if_neg h2]
          by_cases h3 : 2147483647 ≤ x.g
          · rw [if_pos h3]
          · rw [if_neg h3]
            have c0' : (bgn s ((1 - x.h) * (s.n / 2)) (s.n / 2) (x.g + 1) us).1 ≠ 0 := by
              unfold cmp at c0
              rw [if_neg h1, if_neg h2, if_neg h3] at c0
              exact c0
            show (if (bgn s ((1 - x.h) * (s.n / 2)) (s.n / 2) (x.g + 1) us).1 = 0 then _ else _) = _
            rw [if_neg c0']
    rw [e3]
    exact ⟨by rw [hsn]; exact hh, h.h1, by rw [hsn]; exact h.n4, by rw [hsn]; exact h.n2, by rw [hsn]; exact h.tk, h.ok, h.g⟩
theorem lzsync_any (w wr : World) (p : Nat) (F : Nat → Prop) (s : St) (q : Nat) (v : Value) (x : Lo) (hl : s.l.length ≤ 1000000) (h : Lz w wr p F s q v x) :
    Calls Tryz.prog 54 #[.pointer (some ⟨q, 0, none⟩)] wr fun e w' => e = .returned (.int .i64 (syE s)) ∧ LzP w wr p F q v (syS s) x w' := by
  refine (lsyncl_any w wr p F s q _ _ x.g v x.ts x.tk x.mr [] hl h.hd_).mono ?_
  rintro e w' ⟨he, F', d1, d2, d3⟩
  have hn := syS_n s
  exact ⟨he, F', v, ⟨by rw [hn]; exact h.hd_.disk d1 d2 d3, h.h1, by rw [hn]; exact h.n4, by rw [hn]; exact h.n2, by rw [hn]; exact h.tk, h.ok, h.g⟩, ⟨d2, Nx.refl _ _⟩, d3.wide fun _ c => .inl c⟩
theorem lopen_all (w w0 : World) (p : Nat) (F0 : Nat → Prop) (s : St) (hl : s.l.length + 2000 ≤ 1000000) (hk : Hid (Kh w)) (D : Hid (Dl w w0 p F0 s)) :
    Calls Tryz.prog 35 #[.pointer (some ⟨p, 0, none⟩)] w0 fun e w' => OpP w w0 p F0 (s.n / 2) (opn s).1 (opn s).2 e w' := by
  by_cases h : s.n / 2 < 2
  · have e : opn s = ((4, s), ⟨0, 0, []⟩) := by unfold opn; rw [if_pos h]
    rw [e]
    refine (lopen_small w w0 p F0 s h D).mono ?_
    rintro e w' ⟨he, rfl⟩
    exact ⟨F0, D.out, Nx.refl _ _, Bf.refl _ _, .inr ⟨(show (4 : Int) ≠ 0 by decide), he⟩⟩
  · exact lopen_any w w0 p F0 s (by omega) hl hk D
theorem opn_ok {s : St} (h : (opn s).1.1 = 0) (hOk : Ok s) : 4 ≤ s.n ∧ (opn s).2.h ≤ 1 ∧ (opn s).1.2.n = s.n ∧ (opn s).2.tk ≤ s.n / 2 ∧ (opn s).2.g ≤ 2147483647 ∧ ∀ t ∈ (opn s).2.ts, 1 ≤ t.length ∧ t.length ≤ 2000 := by
  have og := opn_le s
  unfold opn at h og ⊢
  by_cases h1 : s.n / 2 < 2
  · rw [if_pos h1] at h; cases h
  · rw [if_neg h1] at h og ⊢
    by_cases h2 : s.down = true
    · rw [if_pos h2] at h; cases h
    · rw [if_neg h2] at h og ⊢
      by_cases h3 : (use s).2 = 0
      · rw [if_pos h3] at og ⊢
        exact ⟨by omega, by show (0 : Nat) ≤ 1; decide, bgn_n _ _ _ _ _, by show 1 ≤ s.n / 2; omega, og, nofun⟩
      · rw [if_neg h3] at og ⊢
        have hl : ((hb s ((use s).1 * (s.n / 2)) (s.n / 2)).drop 64).length = 64 * (s.n / 2 - 1) := by rw [List.length_drop, hb_len hOk]; omega
        have hfit := scan_fits.scan_le 0 [] (s.n / 2) (s.n / 2 - 1) ((hb s ((use s).1 * (s.n / 2)) (s.n / 2)).drop 64) (hm (use s).2) 1 hl
        refine ⟨by omega, ?_, cln_n _ _ _, ?_, og, fun t ht => scan_fits.scan_ok _ _ _ t ht⟩
        · show (use s).1 ≤ 1
          unfold use
          split
          · exact Nat.le_refl 1
          · exact Nat.zero_le 1
        · show tkn 1 (recs s _ _ _) ≤ s.n / 2
          unfold recs
          omega
end Go.Proofs.YtjpaodepnacimaaGreatDoor
