/- A log is compacted. -/
import Derived.Test.YtdcimnmebgkmjaaDoorLhC
namespace Go.Proofs.YtdcimnmebgkmjaaDoor
open Go.RowKit Go.Proofs.Fd Go.Proofs.Dk Go.Proofs.Lg
set_option maxRecDepth 20000

theorem may_bad {t : Bs} {l : List Bs} (h : may t ≠ 0) : mays (t :: l) = may t := if_pos h
theorem may_next {t : Bs} {l : List Bs} (h : may t = 0) : mays (t :: l) = mays l := if_neg (fun c => c h)
/-- Texts as they come in: of any length. -/
theorem sns_take (l : List Bs) (k : Nat) (hk : k < l.length) : sns (l.take (k + 1)) = sns (l.take k) + sn l[k] := by
  have : ∀ (l : List Bs) (t : Bs), sns (l ++ [t]) = sns l + sn t := fun l t => by
    induction l with
    | nil => simp [sns]
    | cons x l ih => rw [List.cons_append, sns, ih, sns]; omega
  rw [List.take_succ_eq_append_getElem hk, this]
theorem sns_bound (l : List Bs) (k : Nat) (h : ∀ t ∈ l, t.length ≤ 2000) : sns (l.take k) ≤ 100 * k := by
  induction k with
  | zero => simp [sns]
  | succ k ih =>
    by_cases hk : k < l.length
    · rw [sns_take l k hk]
      have : sn l[k] ≤ 100 := by
        have := h _ (List.getElem_mem hk)
        unfold sn
        omega
      omega
    · rw [List.take_of_length_le (by omega)] at ih ⊢
      omega
/-- The loop over the texts, up to the first one that may not be. -/
theorem mays_prefix : ∀ (l : List Bs) (k : Nat), (∀ i (hi : i < l.length), i < k → may l[i] = 0) → mays l = mays (l.drop k)
  | [], k, _ => by rw [List.drop_nil]
  | t :: l, 0, _ => rfl
  | t :: l, k + 1, h => by
    rw [may_next (show may t = 0 from h 0 (by simp) (by omega)), List.drop_succ_cons]
    exact mays_prefix l k (fun i hi hk => h (i + 1) (by simpa using hi) (by omega))
/-- What Compact does to the disk. -/
def cmR (s : St) (fr2 mn g : Nat) (l : List Bs) : Int × St := if mays l ≠ 0 then (mays l, s) else if mn - 1 < sns l then (151, s) else if 2147483647 ≤ g then (2, s) else bgn s fr2 mn (g + 1) l
/-- What it leaves. -/
def CmP (w va : World) (p : Nat) (F : Nat → Prop) (q fr fr2 mn g : Nat) (v : Value) (ts : List Bs) (tk : Nat) (m : Bs) (l : List Bs) (y : Int × St) (w' : World) : Prop :=
  ∃ F' v', Nx2 va F q v F' v' ∧ Bf (FH F q v) va w' ∧ (y.1 = 0 ∧ HD w w' p F' y.2 q fr2 mn (g + 1) v' l (tkn 1 l) (mks (hm (g + 1)) l) [] ∨ y.1 ≠ 0 ∧ HD w w' p F' y.2 q fr mn g v' ts tk m [])
theorem mays_all : ∀ {l : List Bs}, mays l = 0 → ∀ t ∈ l, 1 ≤ t.length ∧ t.length ≤ 2000
  | [], _, t, h => by cases h
  | x :: l, h, t, ht => by
    by_cases hx : may x = 0
    · rw [may_next hx] at h
      rcases List.mem_cons.1 ht with rfl | ht
      · exact may_ok hx
      · exact mays_all h t ht
    · rw [may_bad hx] at h
      exact absurd h hx
set_option maxHeartbeats 4000000 in
theorem lcompact_any (w va : World) (p : Nat) (F : Nat → Prop) (s : St) (q fr mn g : Nat) (v : Value) (ts : List Bs) (tk : Nat) (m : Bs) (a : Option Addr) (n c : Nat) (l : List Bs) (hn : l.length = n) (hn63 : n ≤ 10000000000000) (h2 : 2 * mn ≤ s.n) (hmn : 2 ≤ mn) (hgm : g ≤ 2147483647) (hfr : fr = 0 ∨ fr = mn) (hl : s.l.length + 2000 ≤ 1000000) (hk : Hid (Kh w)) (h : Hid (HD w va p F s q fr mn g v ts tk m [])) (hx : Hid (TxAt va a l)) (ha : Hid (Ap a l F)) :
    Calls Tryd.prog 13 #[.pointer (some ⟨q, 0, none⟩), .slice a n c] va fun e w' => e = .returned (.int .i64 (cmR s (mn - fr) mn g l).1) ∧ CmP w va p F q fr (mn - fr) mn g v ts tk m l (cmR s (mn - fr) mn g l) w' := by
  have HN : Hid (l.length = n) := hn
  have hs2 := h.out.dl.at_.1.n2
  have STAY : Hid (∀ x : Int, x ≠ 0 → CmP w va p F q fr (mn - fr) mn g v ts tk m l (x, s) va) := fun x hx => ⟨F, v, Nx2.refl _ _ _ _, Bf.refl _ _, .inr ⟨hx, h.out⟩⟩
  obtain ⟨fr2, hfr2⟩ : ∃ fr2, mn - fr = fr2 := ⟨_, rfl⟩
  rw [hfr2] at STAY ⊢
  have HFR2 : Hid (mn - fr = fr2) := hfr2
  clear hfr2
  obtain ⟨r, hr⟩ : ∃ r, cmR s fr2 mn g l = r := ⟨_, rfl⟩
  have HR : Hid (cmR s fr2 mn g l = r) := hr
  rw [hr]
  clear hr hn
  go_enter Tryd.func13, Tryd.ntmps13
  go_wp2
  go_loopw [5, 13] (fun sm i wr => ∃ k : Nat, k ≤ n ∧ i = .int .i64 (k : Int) ∧ sm = .int .i64 (sns (l.take k) : Int) ∧ va = wr ∧ Hid (∀ j (hj : j < l.length), j < k → may l[j] = 0)) (fun _ i _ => n - (intOf i).toNat)
  case atStart => exact ⟨0, Nat.zero_le _, rfl, rfl, rfl, fun _ _ h => absurd h (Nat.not_lt_zero _)⟩
  case round =>
    obtain ⟨k, hkn, rfl, rfl, rfl, J⟩ := hrel
    by_cases hlt : k < n
    · have hkl : k < l.length := by rw [HN.out]; exact hlt
      have g1 : (k : Int) < (n : Int) := by omega
      obtain ⟨b, o, rfl, c0⟩ := hx.out k hkl
      have ES := sns_take l k hkl
      have EM := mays_prefix l k J.out
      rw [List.drop_eq_getElem_cons hkl] at EM
      have JJ : Hid (may l[k] = 0 → ∀ j (hj : j < l.length), j < k + 1 → may l[j] = 0) := fun h0 j hj hjk => by
        by_cases e : j = k
        · subst e; exact h0
        · exact J.out j hj (by omega)
      have SB : sns (l.take k) ≤ 100 * k := by
        have hb := sns_bound (l.take k) k (fun t ht => by
          obtain ⟨j, hj, rfl⟩ := List.getElem_of_mem ht
          rw [List.getElem_take]
          rw [List.length_take] at hj
          exact (may_ok (J.out j (by omega) (by omega))).2)
        rw [List.take_take, Nat.min_self] at hb
        exact hb
      have CH : Hid (Calls Tryd.prog 33 #[.string (st l[k])] va fun e w' => e = .returned (.int .i64 (may l[k])) ∧ w' = va) := lcheck_any (st l[k]) va
      unfold sv at c0
      by_cases h0 : may l[k] = 0
      · have hb := may_ok h0
        have SO : Hid (Calls Tryd.prog 34 #[.string (st l[k])] va fun e w' => e = .returned (.int .i64 (sn l[k] : Int)) ∧ w' = va) := lsectorsOf_any l[k] (by omega) va
        have hsn : sn l[k] ≤ 100 := by unfold sn; omega
        have JN : Hid _ := JJ.out h0
        rw [h0] at CH
        have HES : Hid (sns (l.take (k + 1)) = sns (l.take k) + sn l[k]) := ES
        have y1 : IntKind.i64.wrap ((sns (l.take k) : Int) + (sn l[k] : Int)) = (sns (l.take k) : Int) + (sn l[k] : Int) := by rw [IntKind.wrap_i64]; omega
        obtain ⟨z, hz⟩ : ∃ z, sn l[k] = z := ⟨_, rfl⟩
        obtain ⟨u, hu⟩ : ∃ u, sns (l.take k) = u := ⟨_, rfl⟩
        obtain ⟨T, hT⟩ : ∃ T, st l[k] = T := ⟨_, rfl⟩
        rw [hz] at SO HES y1
        rw [hu] at HES y1 ⊢
        rw [hT] at CH SO c0
        clear hz hu hT ES EM SB JJ J h0 hb hsn STAY h hx ha HR hl h2 hmn hfr hs2
        go_wp2_with fail
        refine Calls.mono CH.out ?_
        rintro e w1 ⟨rfl, rfl⟩
        go_wp2_with fail
        refine Calls.mono SO.out ?_
        rintro e w2 ⟨rfl, rfl⟩
        go_wp2
        go_roundw
        case rel => exact ⟨k + 1, by omega, rfl, by rw [HES.out]; simp, by first | rfl | trivial, JN.out⟩
        case measure => simp [intOf]; omega
      · rw [may_bad h0] at EM
        have ER : Hid (r = (may l[k], s)) := by
          show r = _
          rw [← HR.out, cmR, if_pos (by rw [EM]; exact h0), EM]
        have FF : Hid _ := STAY.out _ h0
        obtain ⟨x, hxx⟩ : ∃ x, may l[k] = x := ⟨_, rfl⟩
        rw [hxx] at CH ER FF h0
        obtain ⟨T, hT⟩ : ∃ T, st l[k] = T := ⟨_, rfl⟩
        rw [hT] at CH c0
        clear hT hxx ES EM SB JJ J STAY h hx ha HR hl h2 hmn hfr hs2
        go_wp2_with fail
        refine Calls.mono CH.out ?_
        rintro e w1 ⟨rfl, rfl⟩
        go_wp2
        go_ret
        exact ⟨by rw [ER.out]; rfl, by rw [ER.out]; exact FF.out⟩
    · obtain rfl : k = n := by omega
      have g1 : ¬ (k : Int) < (k : Int) := by omega
      have e0 : mays l = 0 := by
        rw [mays_prefix l k J.out, List.drop_of_length_le (by rw [HN.out]; exact Nat.le_refl _)]
        rfl
      have e1 : l.take k = l := List.take_of_length_le (by rw [HN.out]; exact Nat.le_refl _)
      rw [e1]
      have k2 := h.out.hf.bk.c 2 _ rfl
      have HR1 := HR.out
      rw [cmR, if_neg (by rw [e0]; simp)] at HR1
      have ym : IntKind.i64.wrap ((mn : Int) - 1) = (mn : Int) - 1 := by rw [IntKind.wrap_i64]; omega
      by_cases h3 : mn - 1 < sns l
      · rw [if_pos h3] at HR1
        have ER : Hid (r = (151, s)) := HR1.symm
        have FF : Hid _ := STAY.out 151 (by decide)
        have g3 : (mn : Int) - 1 < (sns l : Int) := by omega
        obtain ⟨sm, hsm⟩ : ∃ sm : Int, (sns l : Int) = sm := ⟨_, rfl⟩
        rw [hsm] at g3 ⊢
        clear hsm HR1 STAY h hx ha HR hl J e0 e1
        go_wp2
        go_ret
        exact ⟨by rw [ER.out]; rfl, by rw [ER.out]; exact FF.out⟩
      · rw [if_neg h3] at HR1
        have g3 : ¬ (mn : Int) - 1 < (sns l : Int) := by omega
        have k3 := h.out.hf.bk.c 3 _ rfl
        by_cases h4 : 2147483647 ≤ g
        · rw [if_pos h4] at HR1
          have ER : Hid (r = (2, s)) := HR1.symm
          have FF : Hid _ := STAY.out 2 (by decide)
          have g4 : (g : Int) = 2147483647 := by omega
          obtain ⟨sm, hsm⟩ : ∃ sm : Int, (sns l : Int) = sm := ⟨_, rfl⟩
          rw [hsm] at g3 ⊢
          obtain ⟨gi, hgi⟩ : ∃ gi : Int, (g : Int) = gi := ⟨_, rfl⟩
          rw [hgi] at k3 g4
          clear hsm HR1 STAY h hx ha HR hl J e0 e1 h4 hgi hgm
          subst g4
          go_wp2
          go_ret
          exact ⟨by rw [ER.out]; rfl, by rw [ER.out]; exact FF.out⟩
        · rw [if_neg h4] at HR1
          have hfr2 := HFR2.out
          have hf2 : fr2 + mn ≤ s.n := by rcases hfr with rfl | rfl <;> omega
          have hf3 : fr ≤ mn := by rcases hfr with rfl | rfl <;> omega
          have htk : tkn 1 l ≤ mn := by rw [tkn_sns]; omega
          have OT : Hid (∀ w, Calls Tryd.prog 30 #[.agg #[.pointer (some ⟨p, 0, none⟩), .int .i64 (fr : Int), .int .i64 (mn : Int)]] w fun e w' => e = .returned (.agg #[.pointer (some ⟨p, 0, none⟩), .int .i64 (fr2 : Int), .int .i64 (mn : Int)]) ∧ Below w.heap.size w w') := fun w => by
            have := lother_any w p fr mn hf3 (by omega)
            rw [hfr2] at this
            exact this
          have BG : Hid (∀ V, Below va.heap.size va V → Calls Tryd.prog 31 #[.agg #[.pointer (some ⟨p, 0, none⟩), .int .i64 (fr2 : Int), .int .i64 (mn : Int)], .int .i64 ((g : Int) + 1), .slice a k c] V fun e w' => ∃ pp i1 i2 i3 xa xn xc i5 s6, e = .returned (.tuple #[.agg #[.pointer pp, .int .i64 i1, .int .i64 i2, .int .i64 i3, .slice xa xn xc, .int .i64 i5, .string s6], .int .i64 r.1]) ∧ (r.1 = 0 → pp = some ⟨p, 0, none⟩ ∧ i1 = (fr2 : Int) ∧ i2 = (mn : Int) ∧ i3 = ((g + 1 : Nat) : Int) ∧ i5 = (tkn 1 l : Int) ∧ s6 = st (mks (hm (g + 1)) l)) ∧ Bn7 w V p F r.2 (if r.1 = 0 then l else []) xa xn xc w') := fun V hb => by
            have := lbegin_any w V p F s fr2 mn (g + 1) a k c l (by omega) hf2 HN.out (fun t ht => (mays_all e0 t ht).2) htk (by omega) hk (h.out.dl.later hb) (hx.out.later hb) ha
            rw [HR1] at this
            refine this.mono fun e w' ⟨F2, d1, d2, d3, hres⟩ => ?_
            rcases hres with ⟨h0, v2, rfl, r2, n2⟩ | ⟨h0, rfl⟩
            · obtain ⟨ya, yn, yc, rfl⟩ := owns_sliceS r2
              refine ⟨_, _, _, _, ya, yn, yc, _, _, by rw [h0]; rfl, fun _ => ⟨rfl, rfl, rfl, rfl, rfl, rfl⟩, F2, d1, d2, d3, ?_, n2⟩
              rw [if_pos h0]
              exact r2
            · refine ⟨_, _, _, _, none, 0, 0, _, _, rfl, fun c => absurd c h0, F2, d1, d2, d3, ?_, nofun⟩
              rw [if_neg h0]
              exact owns_nilS _
          have e5 : (((g + 1 : Nat) : Int)) = (g : Int) + 1 := by omega
          have c0 := h.out.hf.bk.c 0 _ rfl
          have c1 := h.out.hf.bk.c 1 _ rfl
          have HW : Hid (w.heap.size ≤ va.heap.size) := h.out.dl.below.size
          have HFF : Hid (∀ y, F y → y < va.heap.size) := fun y c => h.out.dl.at_.lt c
          have HQ : Hid (¬ F q ∧ q < va.heap.size) := ⟨(h.out.ap q (.inl rfl)).1, h.out.hf.bk.lt⟩
          have HGG : Hid (∃ gi : Int, (g : Int) = gi) := ⟨_, rfl⟩
          obtain ⟨gi, hgi⟩ := HGG.out
          have g4 : ¬ gi = 2147483647 := by omega
          have y1 : IntKind.i64.wrap (gi + 1) = gi + 1 := by rw [IntKind.wrap_i64]; omega
          rw [hgi] at k3 BG
          have HG : Hid (gi + 1 = ((g + 1 : Nat) : Int)) := by
            show gi + 1 = _
            omega
          obtain ⟨x, hxx⟩ : ∃ x, r.1 = x := ⟨_, rfl⟩
          have HX : Hid (r.1 = x) := hxx
          rw [hxx] at BG
          obtain ⟨sm, hsm⟩ : ∃ sm : Int, (sns l : Int) = sm := ⟨_, rfl⟩
          rw [hsm] at g3 ⊢
          clear hsm hgi HR1 STAY hx ha HR hl J e0 e1 h4 h3 hfr hfr2 hf2 hf3 htk e5 hxx HGG
          go_upto_region 14 with fail
          refine compact_region w p F r.2 (if x = 0 then l else []) q fr fr2 mn gi x va a k c (fun pp i1 i2 i3 i5 s6 => x = 0 → pp = some ⟨p, 0, none⟩ ∧ i1 = (fr2 : Int) ∧ i2 = (mn : Int) ∧ i3 = ((g + 1 : Nat) : Int) ∧ i5 = (tkn 1 l : Int) ∧ s6 = st (mks (hm (g + 1)) l)) HW HFF HQ y1 c0 c1 k2 k3 OT BG _ _ _ _ _ _ _ _ _ _ _ _ _ _ _ _ _ _ _ _ _ _ _ _ _ _ _ _ _ _ _ _ _ _ _ _ _ _ _ ?_
          intro H pp i1 i2 i3 xa xn xc i5 s6 wx u42 u43 u44 u45 u46 u47 u48 u49 u50 u51 u52 u53 u54 u55 u56 u57 u58 hE hC
          have HC : Hid _ := hC
          obtain ⟨⟨F2, d1, d2, d3, r2, n2⟩, bk, nH⟩ := id hC
          have K2 : Hid (HD w wx p F2 r.2 q fr mn g v ts tk m []) := h.out.disk d1 d2 d3
          have D3 : Hid (Bf F va wx ∧ Nx va F F2) := ⟨d3, d2⟩
          clear d1 d2 d3 OT BG c0 c1 k2 k3 hC
          by_cases h0 : x = 0
          · obtain ⟨rfl, rfl, rfl, rfl, rfl, rfl⟩ := hE h0
            subst h0
            have rr : OwnsS wx (.slice xa xn xc) l := r2
            have NQ : (Value.slice xa xn xc).ownBlock ≠ some q := fun e => by
              have := (n2 q e).1
              have := HQ.out.2
              omega
            have FF : Hid (CmP w va p F q fr fr2 mn g v ts tk m l r (wx.setCells q 0 (hc p fr2 mn (g + 1) (.slice xa xn xc) (tkn 1 l) (mks (hm (g + 1)) l) []))) := by
              have hbf : Bf (fun y => y = q) wx (wx.setCells q 0 (hc p fr2 mn (g + 1) (.slice xa xn xc) (tkn 1 l) (mks (hm (g + 1)) l) [])) := Bf.sets (fun y => y = q) q rfl _ 0 wx
              refine ⟨F2, .slice xa xn xc, ⟨D3.out.2, fun y e => ?_⟩, ?_, .inl ⟨HX.out, ⟨K2.out.dl.sets (K2.out.ap q (.inl rfl)).1 (K2.out.ap q (.inl rfl)).2 _, ⟨K2.out.hf.bk.put _ rfl, ownsRow_same rr (fun y e => setCells_other wx q 0 _ y (fun d => NQ (by rw [e, d]))), NQ⟩, fun y e => ?_⟩⟩⟩
              · rcases e with e | e
                · exact .inl (.inl e)
                · exact .inr (n2 y e).1
              · exact (D3.out.1.wide fun y e => .inl e).trans (Nx.refl _ _) (hbf.wide fun y e => .inr (.inl e))
              · rcases e with e | e
                · rw [e]
                  exact K2.out.ap q (.inl rfl)
                · exact ⟨(n2 y e).2, Nat.le_trans HW.out (n2 y e).1⟩
            have c0 := K2.out.hf.bk.c 0 _ rfl
            have c1 := K2.out.hf.bk.c 1 _ rfl
            have c2 := K2.out.hf.bk.c 2 _ rfl
            have c3 := K2.out.hf.bk.c 3 _ rfl
            have c4 := K2.out.hf.bk.c 4 _ rfl
            have c5 := K2.out.hf.bk.c 5 _ rfl
            have c6 := K2.out.hf.bk.c 6 _ rfl
            have cf := K2.out.hf.bk.f
            have z0 := bk.c 0 _ rfl
            have z1 := bk.c 1 _ rfl
            have z2 := bk.c 2 _ rfl
            have z3 := bk.c 3 _ rfl
            have z4 := bk.c 4 _ rfl
            have z5 := bk.c 5 _ rfl
            have z6 := bk.c 6 _ rfl
            have hqH : q ≠ H := fun e => by have := HQ.out.2; omega
            obtain ⟨gg, hgg⟩ : ∃ gg : Int, ((g + 1 : Nat) : Int) = gg := ⟨_, rfl⟩
            obtain ⟨t1, ht1⟩ : ∃ t1 : Int, ((tkn 1 l : Nat) : Int) = t1 := ⟨_, rfl⟩
            unfold hc sv at FF
            rw [hgg, ht1] at FF
            rw [hgg] at z3
            rw [ht1] at z5
            clear K2 D3 HC bk r2 n2 rr NQ HFF HQ hgg ht1 h
            go_wp2
            go_ret
            exact ⟨by rw [HX.out]; rfl, FF.out⟩
          · have FF : Hid (CmP w va p F q fr fr2 mn g v ts tk m l r wx) := ⟨F2, v, ⟨D3.out.2, Nx.refl _ _⟩, D3.out.1.wide fun y e => .inl e, .inr ⟨by rw [HX.out]; exact h0, K2.out⟩⟩
            clear K2 D3 HC bk r2 n2 HFF HQ h hE
            go_wp2
            go_ret
            exact ⟨by rw [HX.out]; rfl, FF.out⟩
end Go.Proofs.YtdcimnmebgkmjaaDoor
