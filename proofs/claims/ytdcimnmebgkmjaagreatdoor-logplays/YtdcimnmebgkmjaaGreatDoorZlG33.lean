/- The document's log is opened: the walk. -/
import Derived.Test.YtdcimnmebgkmjaaGreatDoorZlG32
namespace Go.Proofs.YtdcimnmebgkmjaaGreatDoor
open Go.RowKit Go.Proofs.Fd Go.Proofs.Dk Go.Proofs.Lg
set_option maxRecDepth 20000
theorem rd_sh {s : St} (hd : s.down = false) {k : Nat} (hk : k < s.n) : rdV s (k : Int) = s.sh k ∧ rch s (k : Int) = 0 := by
  have h : rch s (k : Int) = 0 := by
    unfold rch
    rw [if_neg (by rw [hd]; decide), if_neg (by omega)]
  exact ⟨by unfold rdV; rw [if_pos h, Int.toNat_natCast], h⟩
theorem opl_next {w : World} {d : Nat} {G : Nat → Prop} {s : St} {q A B : Nat} {kT : List Bs} {b : Bs} {wr : World} {ts : List Bs} {m : Bs} {fu j : Nat} {t : Bs} (em : m = mks (hm B) ts) (ek : kT = ts ++ scan fu b m) (hj : j < fu) (hb : b.length = 64 * j) (ht : tkn 1 ts + j = s.n / 2) (hr : rof b m = some t)
    {v' : Value} (k : Rb w d G wr G s q A B v' (ts ++ [t]) (tkn 1 ts + sn t) (rmk m t)) : OpL w d G s q A B kT (b.drop (64 * sn t)) wr ∧ sn t ≤ j := by
  have hl := (rof_le hr).1
  have hsn := sn_pos t
  refine ⟨⟨v', ts ++ [t], rmk m t, fu - 1, j - sn t, by rw [tkn_app]; exact k, by rw [em, mks_app], ?_, by omega, by rw [List.length_drop]; omega, by rw [tkn_app]; omega⟩, by omega⟩
  rw [ek, scan_some (by omega) hr, List.append_assoc]
  rfl
set_option maxHeartbeats 8000000 in
theorem ropen_any (w : World) (d : Nat) (G : Nat → Prop) (s : St) (hn : s.n ≤ 1024) (hl : s.l.length + 5000 ≤ 1000000) (D : Hid (DAt w d G s)) :
    Calls Tryz.prog 26 #[.pointer (some ⟨d, 0, none⟩)] w fun e w' => OpR w d G (opnr s).1 (opnr s).2 e w' := by
  have HA : Hid (∀ W, Below w.heap.size w W → Calls Tryz.prog 64 #[.pointer (some ⟨d, 0, none⟩)] W fun e w' => e = .returned (.int .i64 ((s.n / 2 : Nat) : Int)) ∧ w' = W) := fun W hb => rhalf_any d G s W (D.out.later hb) (by omega)
  have RD : Hid (∀ W (k : Int), Below w.heap.size w W → Calls Tryz.prog 19 #[.pointer (some ⟨d, 0, none⟩), .int .i64 k] W fun e w' => e = .returned (.tuple #[sv (rdV s k), .int .i64 (rch s k)]) ∧ w' = W) := fun W k hb => rread_any d G s k W (D.out.later hb) (by omega)
  have hOk : Ok s := D.out.1
  obtain ⟨r, hr⟩ : ∃ r, opnr s = r := ⟨_, rfl⟩
  rw [hr]
  unfold opnr at hr
  obtain ⟨H, hH⟩ : ∃ H, s.n / 2 = H := ⟨_, rfl⟩
  rw [hH] at HA hr
  have DD : Hid (∀ W, Below w.heap.size w W → Dw w d G W G s) := fun W hb => ⟨D.out.later hb, Nx.refl _ _, Bf.of hb⟩
  by_cases h2 : H < 2
  · rw [if_pos h2] at hr
    have g1 : (H : Int) < 2 := by omega
    have FF : Hid (OpR w d G r.1 r.2 (.returned (.tuple #[.pointer none, .int .i64 4])) w) := opr_no hr.symm (by decide) (DD.out w (Below.refl _ _))
    clear hr D RD DD hOk
    go_enter Tryz.func26, Tryz.ntmps26
    go_wp2_with fail
    refine Calls.mono (HA.out _ (Below.refl _ _)) ?_
    rintro e w1 ⟨rfl, rfl⟩
    go_wp2
    go_ret2
    exact FF.out
  · rw [if_neg h2] at hr
    have g1 : ¬ (H : Int) < 2 := by omega
    by_cases hdn : s.down = true
    · rw [if_pos hdn] at hr
      have FF : Hid (OpR w d G r.1 r.2 (.returned (.tuple #[.pointer none, .int .i64 150])) w) := opr_no hr.symm (by decide) (DD.out w (Below.refl _ _))
      have R0 : Hid (Calls Tryz.prog 19 #[.pointer (some ⟨d, 0, none⟩), .int .i64 0] w fun e w' => e = .returned (.tuple #[.string ⟨#[]⟩, .int .i64 150]) ∧ w' = w) := by
        have e1 : rch s 0 = 150 := by unfold rch; rw [if_pos hdn]
        have e2 : rdV s 0 = [] := by unfold rdV; rw [if_neg (by rw [e1]; decide)]
        have := RD.out w 0 (Below.refl _ _)
        rw [e1, e2] at this
        exact this
      clear hr D RD DD hOk hdn
      go_enter Tryz.func26, Tryz.ntmps26
      go_wp2_with fail
      refine Calls.mono (HA.out _ (Below.refl _ _)) ?_
      rintro e w1 ⟨rfl, rfl⟩
      go_wp2
      go_loopw [4, 5, 6] (fun x4 x5 i wr => x4 = .int .i64 0 ∧ x5 = .int .i64 0 ∧ i = .int .i64 0 ∧ w1 = wr) (fun _ _ _ _ => 0)
      case atStart => exact ⟨rfl, rfl, rfl, rfl⟩
      case round =>
        obtain ⟨rfl, rfl, rfl, rfl⟩ := hrel
        go_wp2_with fail
        refine Calls.mono (HA.out _ (Below.refl _ _)) ?_
        rintro e w2 ⟨rfl, rfl⟩
        go_wp2_with fail
        refine Calls.mono R0.out ?_
        rintro e w3 ⟨rfl, rfl⟩
        go_wp2
        go_ret2
        exact FF.out
    · rw [if_neg hdn] at hr
      have hdn' : s.down = false := by cases h : s.down <;> simp_all
      have hHn : H < s.n := by omega
      have e0 := rd_sh hdn' (k := 0) (by omega)
      have eH := rd_sh hdn' (k := H) hHn
      have l0 : (s.sh 0).length = 64 := hOk.sh64 0
      have lH : (s.sh H).length = 64 := hOk.sh64 H
      have R0 : Hid (∀ W, Below w.heap.size w W → Calls Tryz.prog 19 #[.pointer (some ⟨d, 0, none⟩), .int .i64 0] W fun e w' => e = .returned (.tuple #[.string (st (s.sh 0)), .int .i64 0]) ∧ w' = W) := fun W hb => by
        have := RD.out W ((0 : Nat) : Int) hb
        rw [e0.1, e0.2] at this
        exact this
      have RH : Hid (∀ W, Below w.heap.size w W → Calls Tryz.prog 19 #[.pointer (some ⟨d, 0, none⟩), .int .i64 (H : Int)] W fun e w' => e = .returned (.tuple #[.string (st (s.sh H)), .int .i64 0]) ∧ w' = W) := fun W hb => by
        have := RD.out W ((H : Nat) : Int) hb
        rw [eH.1, eH.2] at this
        exact this
      have G0 : Hid (∀ W, Calls Tryz.prog 65 #[.string (st (s.sh 0))] W fun e w' => e = .returned (.int .i64 (genr (s.sh 0) : Int)) ∧ Below W.heap.size W w') := fun W => rgen_any (s.sh 0) l0 W
      have GH : Hid (∀ W, Calls Tryz.prog 65 #[.string (st (s.sh H))] W fun e w' => e = .returned (.int .i64 (genr (s.sh H) : Int)) ∧ Below W.heap.size W w') := fun W => rgen_any (s.sh H) lH W
      have hu : user s = if genr (s.sh 0) < genr (s.sh H) then (1, genr (s.sh H)) else (0, genr (s.sh 0)) := by unfold user; rw [hH]
      obtain ⟨S0, hS0⟩ : ∃ x, st (s.sh 0) = x := ⟨_, rfl⟩
      obtain ⟨SH, hSH⟩ : ∃ x, st (s.sh H) = x := ⟨_, rfl⟩
      obtain ⟨ga, hga⟩ : ∃ x, genr (s.sh 0) = x := ⟨_, rfl⟩
      obtain ⟨gb, hgb⟩ : ∃ x, genr (s.sh H) = x := ⟨_, rfl⟩
      rw [hS0] at R0 G0
      rw [hSH] at RH GH
      rw [hga] at G0 hu
      rw [hgb] at GH hu
      obtain ⟨⟨A, B⟩, hAB⟩ : ∃ x, user s = x := ⟨_, rfl⟩
      rw [hAB] at hr hu
      have HU : Hid ((A, B) = if ga < gb then (1, gb) else (0, ga)) := hu
      have HR : Hid ((if B = 0 then (bgn s 0 H 1 [], ⟨0, 1, []⟩) else (cln s (A * H + tkn 1 (recs s (A * H) H B)) (H - tkn 1 (recs s (A * H) H B)), (⟨A, B, recs s (A * H) H B⟩ : Lo))) = r) := hr
      have HOK : Hid (Ok s) := hOk
      clear hS0 hSH hga hgb hAB hu hr RD e0 eH l0 lH hOk hdn
      go_enter Tryz.func26, Tryz.ntmps26
      go_wp2_with fail
      refine Calls.mono (HA.out _ (Below.refl _ _)) ?_
      rintro e w1 ⟨rfl, rfl⟩
      go_wp2
      go_loopw [4, 5, 6] (fun x4 x5 i wr => Hid (Below w1.heap.size w1 wr) ∧ (x4 = .int .i64 0 ∧ x5 = .int .i64 0 ∧ i = .int .i64 0 ∨ x4 = .int .i64 (ga : Int) ∧ x5 = .int .i64 0 ∧ i = .int .i64 1 ∨ x4 = .int .i64 (B : Int) ∧ x5 = .int .i64 (A : Int) ∧ i = .int .i64 2)) (fun _ _ i _ => 2 - (intOf i).toNat)
      case atStart => exact ⟨Below.refl _ _, .inl ⟨rfl, rfl, rfl⟩⟩
      case round =>
        obtain ⟨J, ⟨rfl, rfl, rfl⟩ | ⟨rfl, rfl, rfl⟩ | ⟨rfl, rfl, rfl⟩⟩ := hrel
        · go_wp2_with fail
          refine Calls.mono (HA.out _ J.out) ?_
          rintro e w2 ⟨rfl, rfl⟩
          go_wp2_with fail
          refine Calls.mono (R0.out _ J.out) ?_
          rintro e w3 ⟨rfl, rfl⟩
          go_wp2_with fail
          refine Calls.mono (G0.out _) ?_
          rintro e w4 ⟨rfl, hb⟩
          have J4 : Hid (Below w1.heap.size w1 w4) := chain J.out hb
          clear hb J
          by_cases hg : 0 < ga
          · have g2 : (0 : Int) < (ga : Int) := by omega
            go_wp2_with fail
            refine Calls.mono (G0.out _) ?_
            rintro e w5 ⟨rfl, hb⟩
            have J5 : Hid (Below w1.heap.size w1 w5) := chain J4.out hb
            clear hb J4
            go_wp2
            go_roundw
            case rel => exact ⟨J5.out, .inr (.inl ⟨rfl, rfl, rfl⟩)⟩
            case measure => simp [intOf]
          · obtain rfl : ga = 0 := by omega
            go_wp2
            go_roundw
            case rel => exact ⟨J4.out, .inr (.inl ⟨rfl, rfl, rfl⟩)⟩
            case measure => simp [intOf]
        · go_wp2_with fail
          refine Calls.mono (HA.out _ J.out) ?_
          rintro e w2 ⟨rfl, rfl⟩
          go_wp2_with fail
          refine Calls.mono (RH.out _ J.out) ?_
          rintro e w3 ⟨rfl, rfl⟩
          go_wp2_with fail
          refine Calls.mono (GH.out _) ?_
          rintro e w4 ⟨rfl, hb⟩
          have J4 : Hid (Below w1.heap.size w1 w4) := chain J.out hb
          clear hb J
          by_cases hg : ga < gb
          · have g2 : (ga : Int) < (gb : Int) := by omega
            have HU2 := HU.out
            rw [if_pos hg] at HU2
            injection HU2 with a1 a2
            go_wp2_with fail
            refine Calls.mono (GH.out _) ?_
            rintro e w5 ⟨rfl, hb⟩
            have J5 : Hid (Below w1.heap.size w1 w5) := chain J4.out hb
            have HA1 : Hid (A = 1) := a1
            have HB1 : Hid (B = gb) := a2
            clear hb J4 a1 a2
            go_wp2
            go_roundw
            case rel => exact ⟨J5.out, .inr (.inr ⟨by rw [HB1.out], by rw [HA1.out]; rfl, rfl⟩)⟩
            case measure => simp [intOf]
          · have g2 : ¬ (ga : Int) < (gb : Int) := by omega
            have HU2 := HU.out
            rw [if_neg hg] at HU2
            injection HU2 with a1 a2
            have HA1 : Hid (A = 0) := a1
            have HB1 : Hid (B = ga) := a2
            clear a1 a2
            go_wp2
            go_roundw
            case rel => exact ⟨J4.out, .inr (.inr ⟨by rw [HB1.out], by rw [HA1.out]; rfl, rfl⟩)⟩
            case measure => simp [intOf]
        · clear R0 RH G0 GH
          have hA : A ≤ 1 := by
            have := HU.out
            by_cases hg : ga < gb
            · rw [if_pos hg] at this
              injection this with a1 a2
              omega
            · rw [if_neg hg] at this
              injection this with a1 a2
              omega
          clear HU
          by_cases hB : B = 0
          · have HR2 := HR.out
            rw [if_pos hB] at HR2
            have g3 : (B : Int) = 0 := by omega
            obtain ⟨⟨yx, ys⟩, hy⟩ : ∃ y, bgn s 0 H 1 [] = y := ⟨_, rfl⟩
            rw [hy] at HR2
            have hbn : ys.n = s.n := by have := bgn_n s 0 H 1 []; rw [hy] at this; exact this
            have BG : Hid (Calls Tryz.prog 66 #[.pointer (some ⟨d, 0, none⟩), .int .i64 0, .int .i64 1, .slice none 0 0] wr fun e w' => BgR wr d G 0 1 [] (yx, ys) e w') := by
              have := rbegin_any wr d G s 0 1 none 0 0 [] rfl nofun (by show 1 + 0 ≤ s.n / 2; omega) (by omega) hn hdn' (by omega) (D.out.later J.out) (TxAt.nil _ _) (fun x e => by cases e)
              rw [hH, Nat.zero_mul, hy] at this
              exact this
            have ER : Hid (r = ((yx, ys), ⟨0, 1, []⟩)) := HR2.symm
            have DWC : Hid (∀ w2 G', Dw wr d G w2 G' ys → Dw w1 d G w2 G' ys) := fun w2 G' k => ⟨k.at_, fun y hy => (k.nx y hy).imp id (fun z => Nat.le_trans J.out.size z), (Bf.of J.out).trans (Nx.refl _ _) k.bf⟩
            have HSZ : Hid (w1.heap.size ≤ wr.heap.size) := J.out.size
            clear HR HR2 D J DD HA HOK hy
            go_wp2_with fail
            refine Calls.mono BG.out ?_
            rintro e w2 ⟨pv, G2, rfl, dw, hz⟩
            have DW2 : Hid _ := DWC.out w2 G2 dw
            have HZ : Hid _ := hz
            clear BG DWC dw hz
            by_cases h0 : yx = 0
            · obtain ⟨q, v, rfl, rb⟩ := HZ.out h0
              have FF : Hid (OpR w1 d G r.1 r.2 (.returned (.tuple #[.pointer (some ⟨q, 0, none⟩), .int .i64 0])) w2) := by
                subst h0
                exact opr_ok ER.out DW2.out ⟨rb.rd, by decide, by rw [hbn]; omega, by rw [hbn]; exact hn, by rw [hbn]; show 1 ≤ s.n / 2; omega, nofun⟩ (fun z hz => Nat.le_trans HSZ.out (rb.new z hz))
              subst h0
              clear HZ rb DW2 ER HSZ
              go_wp2
              go_ret2
              exact FF.out
            · have FF : Hid (OpR w1 d G r.1 r.2 (.returned (.tuple #[.pointer none, .int .i64 yx])) w2) := opr_no ER.out h0 DW2.out
              clear HZ DW2 ER HSZ
              go_wp2
              go_ret2
              exact FF.out
          · have g3 : ¬ (B : Int) = 0 := by omega
            have HR2 := HR.out
            rw [if_neg hB] at HR2
            obtain ⟨kT, hkT⟩ : ∃ x, recs s (A * H) H B = x := ⟨_, rfl⟩
            rw [hkT] at HR2
            have KT : Hid (recs s (A * H) H B = kT) := hkT
            clear hkT HR
            have ER : Hid (r = (cln s (A * H + tkn 1 kT) (H - tkn 1 kT), ⟨A, B, kT⟩)) := HR2.symm
            have HOKS : Hid (∀ u ∈ kT, 1 ≤ u.length ∧ u.length ≤ 2000) := fun u hu => by
              rw [← KT.out, recs] at hu
              exact scan_fits.scan_ok H _ _ u hu
            have PL : Hid (∀ W, Calls Tryz.prog 68 #[.int .i64 (B : Int)] W fun e w' => e = .returned (.string (st (hf B))) ∧ Below W.heap.size W w') := fun W => rplain_any B W
            have MK : Hid (∀ W, Calls Tryz.prog 67 #[.string (st (hf B))] W fun e w' => e = .returned (.string (st (hm B))) ∧ Below W.heap.size W w') := fun W => rmark_any (hf B) (by rw [hf_len]; decide) W
            have NEW : Hid (∀ (W : World), Below w1.heap.size w1 W → Rb w1 d G (W.alloc (.cells #[.pointer (some ⟨d, 0, none⟩), .int .i64 (A : Int), .int .i64 (B : Int), .slice none 0 0, .string (st (hm B)), .int .i64 1] 77)) G s W.heap.size A B (.slice none 0 0) [] 1 (hm B)) := fun W hb => rb_new (DD.out W hb) A B (hm B)
            have RE : Hid (∀ W, DAt W d G s → Calls Tryz.prog 69 #[.pointer (some ⟨d, 0, none⟩), .int .i64 (A : Int), .int .i64 1] W fun e w' => e = .returned (.string (st (hb s (A * H + 1) (H - 1)))) ∧ w' = W) := fun W k => by
              have := rhb_any W d G s A 1 hA hn (by omega) hdn' (by omega) k
              rw [hH] at this
              exact this
            obtain ⟨P0, hP0⟩ : ∃ x, st (hf B) = x := ⟨_, rfl⟩
            obtain ⟨P1, hP1⟩ : ∃ x, st (hm B) = x := ⟨_, rfl⟩
            rw [hP0] at PL MK
            rw [hP1] at MK NEW
            clear hP0 hP1 HR2 DD D HA
            go_wp2_with fail
            refine Calls.mono (PL.out _) ?_
            rintro e w2 ⟨rfl, hb⟩
            have J2 : Hid (Below w1.heap.size w1 w2) := chain J.out hb
            clear hb J PL
            go_wp2_with fail
            refine Calls.mono (MK.out _) ?_
            rintro e w3 ⟨rfl, hb⟩
            have J3 : Hid _ := NEW.out w3 (chain J2.out hb)
            clear hb J2 MK NEW
            obtain ⟨q, hq⟩ : ∃ q, w3.heap.size = q := ⟨_, rfl⟩
            rw [hq] at J3
            have lb : (hb s (A * H + 1) (H - 1)).length = 64 * (H - 1) := hb_len HOK.out _ _
            have J4 : Hid (OpL w1 d G s q A B kT (hb s (A * H + 1) (H - 1)) (w3.alloc (.cells #[.pointer (some ⟨d, 0, none⟩), .int .i64 (A : Int), .int .i64 (B : Int), .slice none 0 0, .string P1, .int .i64 1] 77))) := by
              refine ⟨_, [], hm B, H, H - 1, J3.out, rfl, ?_, by omega, lb, by show 1 + (H - 1) = s.n / 2; omega⟩
              rw [← KT.out, List.nil_append, recs]
              congr 1
              have e1 : hb s (A * H) H = hb s (A * H) 1 ++ hb s (A * H + 1) (H - 1) := by rw [← hb_app, show 1 + (H - 1) = H by omega]
              rw [e1, List.drop_left' (by rw [hb_len HOK.out])]
            have RE4 : Hid _ := RE.out _ J3.out.rd.at_
            have hXs : (st (hb s (A * H + 1) (H - 1))).size ≤ 65536 := by rw [st_size, lb]; omega
            obtain ⟨bb, hbb⟩ : ∃ x, hb s (A * H + 1) (H - 1) = x := ⟨_, rfl⟩
            rw [hbb] at J4 RE4 hXs
            obtain ⟨X0, hX0⟩ : ∃ x, st bb = x := ⟨_, rfl⟩
            have HX0 : Hid (st bb = X0) := hX0
            rw [hX0] at RE4
            clear RE J3 lb hbb hX0 KT
            go_wp2_with fail
            refine Calls.mono RE4.out ?_
            rintro e w5 ⟨rfl, rfl⟩
            clear RE4
            go_wp2
            obtain ⟨W0, hW0⟩ : ∃ W0, w3.alloc (.cells #[.pointer (some ⟨d, 0, none⟩), .int .i64 (A : Int), .int .i64 (B : Int), .slice none 0 0, .string P1, .int .i64 1] 77) = W0 := ⟨_, rfl⟩
            rw [hW0] at J4 ⊢
            clear hW0 hq
            go_loopw [12] (fun x wr => ∃ b : Bs, x = .string (st b) ∧ Hid (OpL w1 d G s q A B kT b wr)) (fun x _ => match x with | .string X => X.size | _ => 0)
            case atStart => exact ⟨bb, by rw [HX0.out], J4.out⟩
            case round =>
              obtain ⟨b, rfl, I⟩ := hrel
              clear J4 HX0 hXs
              obtain ⟨v, ts, m, fu, j, rb, em, ek, hj, hbl, htk⟩ := I.out
              have RB : Hid (Rb w1 d G wr G s q A B v ts (tkn 1 ts) m) := rb
              have EM : Hid (m = mks (hm B) ts) := em
              have EK : Hid (kT = ts ++ scan fu b m) := ek
              have hml : m.length = 16 := by rw [em]; exact mks_len _ _ rfl
              have FO : Hid (Calls Tryz.prog 70 #[.pointer (some ⟨q, 0, none⟩), .string (st b)] wr fun e w' => FoundR b m e ∧ Below wr.heap.size wr w') := rfound_any q d A B v ts (tkn 1 ts) m b wr hml (by omega) (by omega) rb.rd.rf
              obtain ⟨X, hX⟩ : ∃ x, st b = x := ⟨_, rfl⟩
              have HX : Hid (st b = X) := hX
              have hXs : X.size = b.length := by rw [← hX, st_size]
              rw [hX] at FO ⊢
              clear rb em ek I hX
              go_wp2_with fail
              refine Calls.mono FO.out ?_
              rintro e w4 ⟨⟨t, ok, rfl, hro⟩, hb⟩
              have R4 : Hid _ := RB.out.later hb
              clear FO hb RB
              by_cases hok : ok = true
              · subst hok
                have ro : rof b m = some t := by
                  rcases hro with ⟨-, c⟩ | ⟨c, -⟩
                  · exact c
                  · cases c
                have hrl := rof_le ro
                have RO : Hid (rof b m = some t) := ro
                have RC : Hid (Calls Tryz.prog 71 #[.string (st m), .string (st t)] w4 fun e w' => e = .returned (.tuple #[.string (st (rcd m t)), .string (st (rmk m t))]) ∧ Below w4.heap.size w4 w') := rrecord_any m t hml hrl.2.2 w4
                have hsz : (st (rcd m t)).size = 64 * sn t := by rw [st_size, rcd_len]
                have hex : X.extract (st (rcd m t)).size X.size = st (b.drop (64 * sn t)) := by
                  rw [hsz, ← HX.out, st_cut, st_size, List.take_of_length_le (Nat.le_refl _)]
                have c4 := R4.out.rd.rf.bk.c 4 _ rfl
                unfold sv at c4 ⊢
                have HT : Hid (Value.string (st t) = sv t) := (rfl : Value.string (st t) = sv t)
                have HM : Hid (Value.string (st (rmk m t)) = sv (rmk m t)) := (rfl : Value.string (st (rmk m t)) = sv (rmk m t))
                obtain ⟨T, hT⟩ : ∃ x, st t = x := ⟨_, rfl⟩
                obtain ⟨M, hM⟩ : ∃ x, st m = x := ⟨_, rfl⟩
                obtain ⟨Z, hZ⟩ : ∃ x, st (rcd m t) = x := ⟨_, rfl⟩
                obtain ⟨K, hK⟩ : ∃ x, st (rmk m t) = x := ⟨_, rfl⟩
                obtain ⟨Y, hY⟩ : ∃ x, st (b.drop (64 * sn t)) = x := ⟨_, rfl⟩
                have HY : Hid (st (b.drop (64 * sn t)) = Y) := hY
                rw [hT, hM, hZ, hK] at RC
                rw [hM] at c4
                rw [hZ] at hsz hex
                rw [hY] at hex
                rw [hT] at HT ⊢
                rw [hK] at HM
                have lz : Z.size ≤ X.size := by omega
                have lz2 : (Z.size : Int) ≤ (X.size : Int) := by omega
                obtain ⟨z, hz⟩ : ∃ z, sn t = z := ⟨_, rfl⟩
                rw [hz] at hsz hrl
                have hsnp := sn_pos t
                rw [hz] at hsnp
                have g5 : (Z.size : Int) / 64 = (z : Int) := by omega
                have y1 : IntKind.i64.wrap (z : Int) = (z : Int) := by rw [IntKind.wrap_i64]; omega
                have y2 : IntKind.i64.wrap ((tkn 1 ts : Int) + (z : Int)) = ((tkn 1 ts + z : Nat) : Int) := by rw [IntKind.wrap_i64]; omega
                have HSZ : Hid (Y.size < X.size) := by
                  show Y.size < X.size
                  rw [← HY.out, st_size, List.length_drop, hz, hXs]
                  omega
                have HZS : Hid (sn t = z) := hz
                clear hT hM hZ hK hY hz hro ro hsz hXs
                go_wp2_with fail
                refine Calls.mono RC.out ?_
                rintro e w6 ⟨rfl, hb⟩
                have R6 : Hid _ := R4.out.later hb
                clear hb R4 RC c4
                have R7 : Hid _ := R6.out.later (nb w6 (.cells #[.string T] 9))
                have tl : ts.length ≤ 1000000 := by
                  have := tkn_ge_len ts
                  omega
                obtain ⟨v7, w7, r1, r2, r3, r4⟩ := app_str (w6.alloc (.cells #[.string T] 9)) 37 v ts R7.out.rd.rf.row tl t w6.heap.size (by rw [World.cell?_alloc_new]; exact congrArg some HT.out)
                obtain ⟨xa, xn, xc, rfl⟩ := owns_sliceS r2
                have hq7 : w7.heap[q]? = (w6.alloc (.cells #[.string T] 9)).heap[q]? := r3.block q R7.out.rd.rf.bk.lt (fun e => R7.out.rd.rf.qv e.symm)
                have B7 := R7.out.rd.rf.bk.same hq7
                have d3 := B7.c 3 _ rfl
                have d4 := B7.c 4 _ rfl
                have d5 := B7.c 5 _ rfl
                have df := B7.f
                have c3 := R6.out.rd.rf.bk.c 3 _ rfl
                obtain ⟨ya, yn, yc, rfl⟩ := owns_sliceS R6.out.rd.rf.row
                have G8 : Hid _ := R7.out.grow r3 r2 r4 (rmk m t) (tkn 1 ts + z)
                obtain ⟨y, hy⟩ : ∃ y : Int, ((tkn 1 ts + z : Nat) : Int) = y := ⟨_, rfl⟩
                rw [← HM.out, hy] at G8
                rw [hy] at y2
                have FI : Hid (OpL w1 d G s q A B kT (b.drop (64 * sn t)) (((w7.setCell ⟨q, 3, none⟩ (.slice xa xn xc)).setCell ⟨q, 4, none⟩ (.string K)).setCell ⟨q, 5, none⟩ (.int .i64 y))) := by
                  have G9 := G8.out
                  rw [← HZS.out] at G9
                  exact (opl_next EM.out EK.out hj hbl (by rw [htk]) RO.out G9).1
                have R1 : Hid _ := r1
                unfold sv at d4
                obtain ⟨M4, hM4⟩ : ∃ x, st m = x := ⟨_, rfl⟩
                rw [hM4] at d4
                obtain ⟨t5, ht5⟩ : ∃ x : Int, (tkn 1 ts : Int) = x := ⟨_, rfl⟩
                rw [ht5] at d5 y2
                clear R6 R7 r1 r2 r3 r4 hq7 B7 G8 hy hM4 ht5 EM EK RO HM HT ER hrl
                go_wp2_with (first | (at_builtin; refine Go.Lib.wpList_append_run _ rfl _ _ _ _ rfl _ _ rfl rfl _ _ R1.out ?_))
                go_roundw
                case rel => exact ⟨b.drop (64 * sn t), by rw [HY.out], FI.out⟩
                case measure => exact HSZ.out
              · have hok' : ok = false := by cases ok <;> simp_all
                subst hok'
                have ro : rof b m = none := by
                  rcases hro with ⟨c, -⟩ | ⟨-, c⟩
                  · cases c
                  · exact c
                have ekt : kT = ts := by rw [EK.out, scan_none ro, List.append_nil]
                subst ekt
                have hT1 : tkn 1 kT ≤ H := by omega
                have c5 := R4.out.rd.rf.bk.c 5 _ rfl
                have CN : Hid (Calls Tryz.prog 72 #[.pointer (some ⟨d, 0, none⟩), .int .i64 (A : Int), .int .i64 (tkn 1 kT : Int)] w4 fun e w' => e = .returned (.int .i64 (cln s (A * H + tkn 1 kT) (H - tkn 1 kT)).1) ∧ ∃ G', Rb w1 d G w' G' (cln s (A * H + tkn 1 kT) (H - tkn 1 kT)).2 q A B v kT (tkn 1 kT) m) := by
                  have := rclean_any w4 d G s A (tkn 1 kT) hA hn (by omega) hdn' (by omega) R4.out.rd.at_
                  rw [hH] at this
                  exact this.mono fun _ _ ⟨e1, e2⟩ => ⟨e1, R4.out.ds e2⟩
                have hcn := cln_n s (A * H + tkn 1 kT) (H - tkn 1 kT)
                have hsc : ∀ u ∈ kT, 1 ≤ u.length ∧ u.length ≤ 2000 := fun u hu => HOKS.out u hu
                obtain ⟨⟨cx, cs⟩, hc⟩ : ∃ z, cln s (A * H + tkn 1 kT) (H - tkn 1 kT) = z := ⟨_, rfl⟩
                rw [hc] at CN ER hcn
                have hcn' : cs.n = s.n := hcn
                obtain ⟨tz, htz⟩ : ∃ z : Int, (tkn 1 kT : Int) = z := ⟨_, rfl⟩
                rw [htz] at CN c5
                have FIN : Hid (∀ w' G', Rb w1 d G w' G' cs q A B v kT (tkn 1 kT) m → cx = 0 → OpR w1 d G r.1 r.2 (.returned (.tuple #[.pointer (some ⟨q, 0, none⟩), .int .i64 0])) w') := fun w' G' k h0 => by
                  have ER2 := ER.out
                  rw [h0] at ER2
                  refine opr_ok ER2 k.dw ⟨?_, hA, by rw [hcn']; omega, by rw [hcn']; exact hn, by rw [hcn']; show tkn 1 kT ≤ s.n / 2; omega, hsc⟩ k.new
                  have e2 : (⟨A, B, kT⟩ : Lo).mr = m := EM.out.symm
                  have e3 : (⟨A, B, kT⟩ : Lo).tk = tkn 1 kT := rfl
                  rw [e2, e3]
                  exact k.rd
                have FNO : Hid (∀ w' G', Rb w1 d G w' G' cs q A B v kT (tkn 1 kT) m → cx ≠ 0 → OpR w1 d G r.1 r.2 (.returned (.tuple #[.pointer none, .int .i64 cx])) w') := fun w' G' k h0 => opr_no ER.out h0 k.dw
                clear hro ro EK hc htz HX hXs hcn R4
                unfold sv
                obtain ⟨T0, hT0⟩ : ∃ x, st t = x := ⟨_, rfl⟩
                rw [hT0]
                clear hT0
                go_wp2_with fail
                refine Calls.mono CN.out ?_
                rintro e w6 ⟨rfl, G6, r6⟩
                have R6 : Hid _ := r6
                clear CN r6 c5
                by_cases h0 : cx = 0
                · have FF : Hid _ := FIN.out w6 G6 R6.out h0
                  subst h0
                  clear FIN FNO R6
                  go_wp2
                  go_ret2
                  exact FF.out
                · have FF : Hid _ := FNO.out w6 G6 R6.out h0
                  clear FIN FNO R6
                  go_wp2
                  go_ret2
                  exact FF.out
end Go.Proofs.YtdcimnmebgkmjaaGreatDoor
