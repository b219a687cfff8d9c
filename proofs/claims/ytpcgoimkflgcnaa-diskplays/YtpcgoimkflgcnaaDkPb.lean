/- DiskPlays. -/
import Derived.Test.YtpcgoimkflgcnaaDkPa
import Derived.Deep.CutBlock
namespace Go.Proofs.Ytpcgoimkflgcnaa
open Go.RowKit Go.Proofs.Fd Go.Proofs.Dk
set_option maxRecDepth 20000

set_option maxHeartbeats 1000000 in
theorem plays_no (n0 : Int) (h : n0 < 1 ∨ 1024 < n0) (a : Option Addr) (len cap : Nat) (w : World) :
    Calls Try.prog 3 #[.int .i64 n0, .slice a len cap] w fun e w' => e = .returned (.bool true) ∧ Below w.heap.size w w' := by
  have N1 : Hid _ := new_no n0 h w
  have N2 : Hid _ := rnew_no n0 h w
  have WK : Hid (∀ w, _) := works_any
  clear h
  go_enter Try.func3, Try.ntmps3
  go_wp2_with fail
  refine Calls.mono N1.out ?_
  rintro e w1 ⟨rfl, hw⟩
  subst hw
  clear N1
  go_wp2_with fail
  refine Calls.mono N2.out ?_
  rintro e w2 ⟨rfl, hw⟩
  subst hw
  clear N2
  go_wp2_with fail
  refine Calls.mono (WK.out _) ?_
  rintro e w3 ⟨rfl, hb⟩
  have FF : Hid _ := hb
  clear hb WK
  go_wp2_with fail
  go_loopw [9] (fun i wr => i = .int .i64 0 ∧ w3 = wr) (fun i wr => 0)
  case atStart => exact ⟨rfl, rfl⟩
  case round =>
    obtain ⟨rfl, hw⟩ := hrel
    subst hw
    go_wp2
    go_ret
    exact ⟨rfl, FF.out⟩
set_option maxHeartbeats 8000000 in
theorem DiskPlays_walk (n0 : Int) (a : Option Addr) (L : List Ac) (len cap : Nat) (hn : L.length = len) (w : World) (h : Hid (ActAt w a L)) (hL : Hid (∀ x ∈ L, x.L w)) :
    Calls Try.prog 3 #[.int .i64 n0, .slice a len cap] w fun e w' => e = .returned (.bool true) ∧ Below w.heap.size w w' := by
  by_cases hn0 : n0 < 1 ∨ 1024 < n0
  · exact plays_no n0 hn0 a len cap w
  obtain ⟨n, rfl⟩ : ∃ n : Nat, n0 = (n : Int) := ⟨n0.toNat, by omega⟩
  have h1 : 1 ≤ n := by omega
  have h2 : n ≤ 1024 := by omega
  have HN : Hid (L.length = len) := hn
  have NW : Hid _ := newL w w n h1 h2 (Below.refl _ _)
  have RW : Hid (∀ w, _) := rnew_any n h1 h2
  have WK : Hid (∀ w, _) := works_any
  clear hn hn0 h1 h2
  go_enter Try.func3, Try.ntmps3
  go_wp2_with fail
  refine Calls.mono NW.out ?_
  rintro e w1 ⟨p, F, rfl, I1, -, -⟩
  have J1 : Hid _ := I1
  clear NW I1
  go_wp2_with fail
  refine Calls.mono (RW.out _) ?_
  rintro e w2 ⟨d, G, rfl, k1, k2, k3⟩
  have J2 : Hid (Bo w w2 p d F G (St.init n) (St.init n)) := ⟨J1.out.later k3, k1, fun g hg c => by
    have := J1.out.at_.lt hg
    have := k2 g c
    omega, fun g hg => Nat.le_trans J1.out.below.size (k2 g hg)⟩
  clear J1 k1 k2 k3 RW
  go_wp2_with fail
  refine Calls.mono (WK.out _) ?_
  rintro e w3 ⟨rfl, hb3⟩
  have J3 : Hid _ := J2.out.later hb3
  clear J2 hb3 WK
  go_wp2_with fail
  go_loopw [9] (fun i wr => ∃ (k : Nat) (F G : Nat → Prop) (s : St), k ≤ len ∧ k ≤ 100 ∧ i = .int .i64 (k : Int) ∧ Hid (Bo w wr p d F G s s ∧ s.l.length ≤ k)) (fun i wr => 100 - (intOf i).toNat)
  case atStart => exact ⟨0, F, G, St.init n, Nat.zero_le _, Nat.zero_le _, rfl, J3.out, Nat.le_refl _⟩
  case round =>
    obtain ⟨k, F, G, s, hk, hk2, rfl, I⟩ := hrel
    clear J3
    by_cases hlt : k < len
    · by_cases h100 : k < 100
      · have g1 : (k : Int) < (len : Int) := by omega
        have g2 : (k : Int) < 100 := by omega
        have hkl : k < L.length := by have := HN.out; omega
        obtain ⟨b, o, rfl, c0, c1, c2, c3, c4⟩ := (h.out.later I.out.1.dl.below) k hkl
        have HR := hL.out L[k] (List.getElem_mem hkl)
        obtain ⟨x, hx⟩ : ∃ x, L[k] = x := ⟨_, rfl⟩
        rw [hx] at c0 c1 c2 c3 c4 HR
        have HR' : Hid _ := HR
        obtain ⟨xk, xn, xt, xr, pa, pn, pc, ps⟩ := x
        simp only at c0 c1 c2 c3 c4
        clear hx HR
        have J1 : Hid (Bx w (wr.alloc (.cells #[.int .i64 xk, .int .i64 xn, .string xt, .bool xr, .slice pa pn pc] 33)) p d F G s s wr.heap.size (.int .i64 xn) (.slice pa pn pc)) := ⟨I.out.1.later ((Below.refl _ _).alloc (Nat.le_refl _) _), fun c => Nat.lt_irrefl _ (I.out.1.dl.at_.lt c), fun c => Nat.lt_irrefl _ (I.out.1.da.lt c), by simp [go_sem], by simp [go_sem]⟩
        have HM : Hid (s.l.length ≤ k) := I.out.2
        obtain ⟨m, hm5, -, AM'⟩ := among_is xk 5 (by decide) (by decide)
        have AM : Hid _ := AM'
        clear AM' I
        go_upto_region 9 with fail
        obtain ⟨B, hB⟩ : ∃ B, wr.heap.size = B := ⟨_, rfl⟩
        have b0 : (wr.alloc (.cells #[.int .i64 xk, .int .i64 xn, .string xt, .bool xr, .slice pa pn pc] 33)).cell? ⟨B, 0, none⟩ = some (.int .i64 xk) := by rw [← hB]; simp [go_sem]
        have b2 : (wr.alloc (.cells #[.int .i64 xk, .int .i64 xn, .string xt, .bool xr, .slice pa pn pc] 33)).cell? ⟨B, 2, none⟩ = some (.string xt) := by rw [← hB]; simp [go_sem]
        have b3 : (wr.alloc (.cells #[.int .i64 xk, .int .i64 xn, .string xt, .bool xr, .slice pa pn pc] 33)).cell? ⟨B, 3, none⟩ = some (.bool xr) := by rw [← hB]; simp [go_sem]
        rw [hB] at J1 ⊢
        obtain ⟨W, hW⟩ : ∃ W, wr.alloc (.cells #[.int .i64 xk, .int .i64 xn, .string xt, .bool xr, .slice pa pn pc] 33) = W := ⟨_, rfl⟩
        rw [hW] at J1 b0 b2 b3 ⊢
        clear hW hB c0 c1 c2 c3 c4
        go_upto_block 2 with (go_at_call 11; refine Calls.mono (AM.out _) ?_; rintro e w10 ⟨rfl, rfl⟩)
        go_cut [11, 12, 13, 14, 15, 16, 82, 102, 126, 133] (fun _ _ _ _ _ _ _ _ _ _ wx => ∃ (F G : Nat → Prop) (t : St), Hid (Bo w wx p d F G t t ∧ t.l.length ≤ k + 1))
        case first =>
          have HL : Hid (s.l.length ≤ 1000000) := by have := HM.out; exact (show s.l.length ≤ 1000000 by omega)
          have c1 := J1.out.c1
          clear AM b0
          obtain rfl | rfl | rfl | rfl | rfl : m = 0 ∨ m = 1 ∨ m = 2 ∨ m = 3 ∨ m = 4 := by omega
          · have WR : ∀ tx : ByteArray, ∃ (e1 : Int) (t : St), t.l.length ≤ k + 1 ∧ Hid (∀ (W : World) (F G : Nat → Prop) (u : St), Hid (Bx w W p d F G s u B (.int .i64 xn) (.slice pa pn pc)) → Calls Try.prog 13 #[.pointer (some ⟨p, 0, none⟩), .int .i64 xn, .string tx] W fun e w' => e = .returned (.int .i64 e1) ∧ ∃ F', Hid (Bx w w' p d F' G t u B (.int .i64 xn) (.slice pa pn pc)))
                ∧ Hid (∀ (W : World) (F G : Nat → Prop) (u : St), Hid (Bx w W p d F G u s B (.int .i64 xn) (.slice pa pn pc)) → Calls Try.prog 14 #[.pointer (some ⟨d, 0, none⟩), .int .i64 xn, .string tx] W fun e w' => e = .returned (.int .i64 e1) ∧ ∃ G', Hid (Bx w w' p d F G' u t B (.int .i64 xn) (.slice pa pn pc))) := fun tx =>
              ⟨wrE s xn tx.data.toList, wrS s xn tx.data.toList, by have := wr_len s xn tx.data.toList; have := HM.out; omega, fun W F G u hW => (writeL w W p F s xn tx HL.out hW.out.bo.dl).mono fun _ _ ⟨h0, F', h1, h2, h3⟩ => ⟨h0, F', hW.out.one h1 h2 h3⟩,
                fun W F G u hW => (rwrite_any d G s xn tx W hW.out.bo.da HL.out).mono fun _ _ ⟨h0, G', h1, h2, h3⟩ => ⟨h0, G', hW.out.two h1 h2 h3⟩⟩
            cases xr
            · have SX : Hid (∀ w, _) := sector_any xt
              obtain ⟨e1, t, KM', C1, C2⟩ := WR (st (sec xt.data.toList))
              have KM : Hid (t.l.length ≤ k + 1) := KM'
              obtain ⟨tx, htx⟩ : ∃ tx, st (sec xt.data.toList) = tx := ⟨_, rfl⟩
              have SX' : Hid (∀ w, Calls Try.prog 12 #[.string xt] w fun e w' => e = .returned (.string tx) ∧ Below w.heap.size w w') := by rw [← htx]; exact SX.out
              rw [htx] at C1 C2
              have FIN : Hid (∀ (W : World) (F G : Nat → Prop), Hid (Bx w W p d F G t t B (.int .i64 xn) (.slice pa pn pc)) → ∃ (F G : Nat → Prop) (t : St), Hid (Bo w W p d F G t t ∧ t.l.length ≤ k + 1)) := fun W F G hW => ⟨F, G, t, hW.out.bo, KM.out⟩
              clear SX htx WR KM' KM HL HM HR'
              go_wp2_with fail
              refine Calls.mono (SX'.out _) ?_
              rintro e w11 ⟨rfl, hb11⟩
              have JD : Hid (Bx w w11.drew p d F G s s B (.int .i64 xn) (.slice pa pn pc)) := J1.out.later (chain hb11 (Below.refl _ _).drew)
              have c10 := JD.out.c1
              clear J1 hb11 SX' b2 b3 c1
              go_wp2_with fail
              go_region_held3 (fun w' => w'.cell? ⟨B, 1, none⟩ = some (.int .i64 xn)) (first | exact c10 | assumption | exact c1_of (by assumption)) (first | (go_at_call 13; refine Calls.mono (C1.out _ _ _ _ (by assumption)) ?_; rintro e w12 ⟨rfl, F12, J12⟩) | (go_at_call 14; refine Calls.mono (C2.out _ _ _ _ (by assumption)) ?_; rintro e w13 ⟨rfl, G13, J13⟩))
              all_goals (go_wp2; go_meet)
              all_goals (exact FIN.out _ _ _ (by assumption))
            · obtain ⟨e1, t, KM', C1, C2⟩ := WR xt
              have KM : Hid (t.l.length ≤ k + 1) := KM'
              have FIN : Hid (∀ (W : World) (F G : Nat → Prop), Hid (Bx w W p d F G t t B (.int .i64 xn) (.slice pa pn pc)) → ∃ (F G : Nat → Prop) (t : St), Hid (Bo w W p d F G t t ∧ t.l.length ≤ k + 1)) := fun W F G hW => ⟨F, G, t, hW.out.bo, KM.out⟩
              have JD : Hid (Bx w w10.drew p d F G s s B (.int .i64 xn) (.slice pa pn pc)) := J1.out.later (Below.refl _ _).drew
              have c10 := JD.out.c1
              clear WR KM' KM HL HM HR' J1 c1
              go_wp2_with fail
              go_region_held3 (fun w' => w'.cell? ⟨B, 1, none⟩ = some (.int .i64 xn)) (first | exact c10 | assumption | exact c1_of (by assumption)) (first | (go_at_call 13; refine Calls.mono (C1.out _ _ _ _ (by assumption)) ?_; rintro e w12 ⟨rfl, F12, J12⟩) | (go_at_call 14; refine Calls.mono (C2.out _ _ _ _ (by assumption)) ?_; rintro e w13 ⟨rfl, G13, J13⟩))
              all_goals (go_wp2; go_meet)
              all_goals (exact FIN.out _ _ _ (by assumption))
          · have R1 := readL w w10 p F s xn J1.out.bo.dl
            have R2 := rread_any d G s xn w10 J1.out.bo.da HL.out
            obtain ⟨tx, htx⟩ : ∃ tx, sv (rdV s xn) = .string tx := ⟨_, rfl⟩
            obtain ⟨e1, he1⟩ : ∃ e1, rch s xn = e1 := ⟨_, rfl⟩
            rw [htx, he1] at R1 R2
            have R1' : Hid _ := R1
            have R2' : Hid _ := R2
            have FIN : Hid (∃ (F G : Nat → Prop) (t : St), Hid (Bo w w10 p d F G t t ∧ t.l.length ≤ k + 1)) := ⟨F, G, s, J1.out.bo, Nat.le_succ_of_le HM.out⟩
            clear R1 R2 htx he1 HL HM HR' J1 b2 b3
            go_wp2_with fail
            refine Calls.mono R1'.out ?_
            rintro e w11 ⟨rfl, hw11⟩
            subst hw11
            go_wp2_with fail
            refine Calls.mono R2'.out ?_
            rintro e w12 ⟨rfl, hw12⟩
            subst hw12
            clear R1' R2'
            go_wp2
            go_meet
            case rel => exact FIN.out
          · have S1 := syncL w w10 p F s HL.out J1.out.bo.dl
            have S2 : Hid (∀ W, DAt W d G s → _) := fun W hW => rsync_any d G s W hW HL.out
            have KM : Hid ((syS s).l.length ≤ k + 1) := Nat.le_succ_of_le (Nat.le_trans (sy_len s) HM.out)
            obtain ⟨e1, he1⟩ : ∃ e1, syE s = e1 := ⟨_, rfl⟩
            obtain ⟨t, ht⟩ : ∃ t, syS s = t := ⟨_, rfl⟩
            rw [he1, ht] at S1 S2
            rw [ht] at KM
            have S1' : Hid _ := S1
            clear S1 he1 ht HL HM HR' b2 b3 c1
            go_wp2_with fail
            refine Calls.mono S1'.out ?_
            rintro e w11 ⟨rfl, F', k1, k2, k3⟩
            have J11 : Hid (Bo w w11 p d F' G t s) := J1.out.bo.one k1 k2 k3
            clear J1 k1 k2 k3 S1'
            go_wp2_with fail
            refine Calls.mono (S2.out _ J11.out.da) ?_
            rintro e w12 ⟨rfl, G', k1, k2, k3⟩
            have J12 : Hid (Bo w w12 p d F' G' t t) := J11.out.two k1 k2 k3
            clear J11 k1 k2 k3 S2
            go_wp2
            go_meet
            case rel => exact ⟨F', G', t, J12.out, KM.out⟩
          · have KM : Hid ((fuS s xn).l.length ≤ k + 1) := by rw [fu_len]; exact Nat.le_succ_of_le HM.out
            obtain ⟨e1, he1⟩ : ∃ e1, fuE s xn = e1 := ⟨_, rfl⟩
            have C1 : Hid (∀ (W : World) (F G : Nat → Prop) (u : St), Hid (Bx w W p d F G s u B (.int .i64 xn) (.slice pa pn pc)) → Calls Try.prog 19 #[.pointer (some ⟨p, 0, none⟩), .int .i64 xn] W fun e w' => e = .returned (.int .i64 e1) ∧ ∃ F', Hid (Bx w w' p d F' G (fuS s xn) u B (.int .i64 xn) (.slice pa pn pc))) := fun W F G u hW => by
              have := fuseL w W p F s xn hW.out.bo.dl
              rw [he1] at this
              exact this.mono fun _ _ ⟨h0, F', h1, h2, h3⟩ => ⟨h0, F', hW.out.one h1 h2 h3⟩
            have C2 : Hid (∀ (W : World) (F G : Nat → Prop) (u : St), Hid (Bx w W p d F G u s B (.int .i64 xn) (.slice pa pn pc)) → Calls Try.prog 20 #[.pointer (some ⟨d, 0, none⟩), .int .i64 xn] W fun e w' => e = .returned (.int .i64 e1) ∧ ∃ G', Hid (Bx w w' p d F G' u (fuS s xn) B (.int .i64 xn) (.slice pa pn pc))) := fun W F G u hW => by
              have := rfuse_any d G s xn W hW.out.bo.da
              rw [he1] at this
              exact this.mono fun _ _ ⟨h0, G', h1, h2, h3⟩ => ⟨h0, G', hW.out.two h1 h2 h3⟩
            obtain ⟨t, ht⟩ : ∃ t, fuS s xn = t := ⟨_, rfl⟩
            rw [ht] at C1 C2 KM
            have FIN : Hid (∀ (W : World) (F G : Nat → Prop), Hid (Bx w W p d F G t t B (.int .i64 xn) (.slice pa pn pc)) → ∃ (F G : Nat → Prop) (t : St), Hid (Bo w W p d F G t t ∧ t.l.length ≤ k + 1)) := fun W F G hW => ⟨F, G, t, hW.out.bo, KM.out⟩
            have JD : Hid (Bx w w10.drew p d F G s s B (.int .i64 xn) (.slice pa pn pc)) := J1.out.later (Below.refl _ _).drew
            have c10 := JD.out.c1
            clear KM HL HM HR' J1 c1 b2 b3 he1 ht
            go_wp2_with fail
            go_region_held3 (fun w' => w'.cell? ⟨B, 1, none⟩ = some (.int .i64 xn)) (first | exact c10 | assumption | exact c1_of (by assumption)) (first | (go_at_call 19; refine Calls.mono (C1.out _ _ _ _ (by assumption)) ?_; rintro e w12 ⟨rfl, F12, J12⟩) | (go_at_call 20; refine Calls.mono (C2.out _ _ _ _ (by assumption)) ?_; rintro e w13 ⟨rfl, G13, J13⟩))
            all_goals (go_wp2; go_meet)
            all_goals (exact FIN.out _ _ _ (by assumption))
          · have c4 := J1.out.c4
            have LE := lend_any pa ps pn pc HR'.out.len HR'.out.nil HR'.out.sz w10 (HR'.out.at_.later J1.out.bo.dl.below)
            have LE' : Hid _ := LE
            clear LE b2 b3 c1
            go_wp2_with fail
            refine Calls.mono LE'.out ?_
            rintro e w11 ⟨g, gc, rfl, q1, q2, q3, q4⟩
            have JD : Hid (By w w11.drew p d F G s s B (.int .i64 xn) (.slice pa pn pc) g (ps ++ [-77])) := by
              have hg : g < w11.heap.size := World.block_lt_of_cell? _ _ (q1 0 (by simp)).1
              refine ⟨J1.out.later (chain q4 (Below.refl _ _).drew), fun c => ?_, fun c => ?_, hg, q1.later (Below.refl _ _).drew⟩
              · have := J1.out.bo.dl.at_.lt c
                omega
              · have := J1.out.bo.da.lt c
                omega
            have QC : Hid (pn + 1 ≤ gc) := q2
            have KM : Hid ((crS s ps).l.length ≤ k + 1) := Nat.zero_le _
            have C1 : Hid (∀ (W : World) (F G : Nat → Prop) (u : St), Hid (By w W p d F G s u B (.int .i64 xn) (.slice pa pn pc) g (ps ++ [-77])) → Calls Try.prog 22 #[.pointer (some ⟨p, 0, none⟩), .slice (some ⟨g, 0, none⟩) pn gc] W fun e w' => e = .returned (.int .i64 0) ∧ ∃ F', Hid (By w w' p d F' G (crS s ps) u B (.int .i64 xn) (.slice pa pn pc) g (ps ++ [-77]))) := fun W F G u hW =>
              (crashL w W p F s (some ⟨g, 0, none⟩) pn gc ps HR'.out.len HL.out hW.out.row.front (fun x e _ => by
                injection e with e
                subst e
                exact hW.out.o1) hW.out.bx.bo.dl).mono fun _ _ ⟨h0, F', h1, h2, h3⟩ => ⟨h0, F', hW.out.one h1 h2 h3⟩
            have C2 : Hid (∀ (W : World) (F G : Nat → Prop) (u : St), Hid (By w W p d F G u s B (.int .i64 xn) (.slice pa pn pc) g (ps ++ [-77])) → Calls Try.prog 23 #[.pointer (some ⟨d, 0, none⟩), .slice pa pn pc] W fun e w' => e = .returned (.int .i64 0) ∧ ∃ G', Hid (By w w' p d F G' u (crS s ps) B (.int .i64 xn) (.slice pa pn pc) g (ps ++ [-77]))) := fun W F G u hW =>
              (rcrash_any d G s pa pn pc ps HR'.out.len W hW.out.bx.bo.da HL.out (HR'.out.at_.later hW.out.bx.bo.dl.below) (fun x e h0 c => absurd (HR'.out.at_.old x e h0) (Nat.not_lt.2 (hW.out.bx.bo.nG _ c)))).mono fun _ _ ⟨h0, G', h1, h2, h3⟩ => ⟨h0, G', hW.out.two h1 h2 h3⟩
            obtain ⟨t, ht⟩ : ∃ t, crS s ps = t := ⟨_, rfl⟩
            rw [ht] at C1 C2 KM
            have C3 : Hid (∀ (W : World) (F G : Nat → Prop), Hid (By w W p d F G t t B (.int .i64 xn) (.slice pa pn pc) g (ps ++ [-77])) → Calls Try.prog 24 #[.slice (some ⟨g, 0, none⟩) pn gc, .slice pa pn pc] W fun e w' => e = .returned (.bool true) ∧ Hid (By w w' p d F G t t B (.int .i64 xn) (.slice pa pn pc) g (ps ++ [-77]))) := fun W F G hW =>
              (kept_any g pa ps pn gc pc HR'.out.len (by have := HR'.out.sz; simp only at this; omega) QC.out W hW.out.row (HR'.out.at_.later hW.out.bx.bo.dl.below)).mono fun _ _ ⟨h0, h1⟩ => ⟨h0, hW.out.later h1⟩
            have FIN : Hid (∀ (W : World) (F G : Nat → Prop), Hid (By w W p d F G t t B (.int .i64 xn) (.slice pa pn pc) g (ps ++ [-77])) → ∃ (F G : Nat → Prop) (t : St), Hid (Bo w W p d F G t t ∧ t.l.length ≤ k + 1)) := fun W F G hW => ⟨F, G, t, hW.out.bx.bo, KM.out⟩
            have c10 := JD.out.bx.c4
            clear KM HL HM HR' J1 c4 ht q1 q2 q3 q4 QC LE'
            go_wp2_with fail
            go_region_held3 (fun w' => w'.cell? ⟨B, 4, none⟩ = some (.slice pa pn pc)) (first | exact c10 | assumption | exact c4_of (by assumption)) (first | (go_at_call 22; refine Calls.mono (C1.out _ _ _ _ (by assumption)) ?_; rintro e w12 ⟨rfl, F12, J12⟩) | (go_at_call 23; refine Calls.mono (C2.out _ _ _ _ (by assumption)) ?_; rintro e w13 ⟨rfl, G13, J13⟩) | (go_at_call 24; refine Calls.mono (C3.out _ _ _ (by assumption)) ?_; rintro e w14 ⟨rfl, J14⟩))
            all_goals (go_wp2; go_meet)
            all_goals (exact FIN.out _ _ _ (by assumption))
        case rest =>
          obtain ⟨F, G, t, J⟩ := hcut
          clear J1 b0 b2 b3 AM HM HR'
          have N1 : Hid (∀ W, Hid (KAt W p F t) → Calls Try.prog 25 #[.pointer (some ⟨p, 0, none⟩)] W fun e w' => e = .returned (.int .i64 (t.n : Int)) ∧ w' = W) := fun W hW => size_any p F t W hW.out
          have N2 : Hid (∀ W, Hid (KAt W p F t) → Calls Try.prog 26 #[.pointer (some ⟨p, 0, none⟩)] W fun e w' => e = .returned (.int .i64 (t.l.length : Int)) ∧ w' = W) := fun W hW => waits_any p F t W hW.out
          obtain ⟨va, vc, d1, d4⟩ : ∃ va vc, wc.cell? ⟨d, 1, none⟩ = some (.slice va t.l.length vc) ∧ wc.cell? ⟨d, 4, none⟩ = some (.int .i64 (t.n : Int)) := by
            obtain ⟨-, sg, sc, v, -, hr⟩ := J.out.1.da
            obtain ⟨va, vc, rfl⟩ := ownsD_slice hr.row
            exact ⟨va, vc, hr.c1, hr.c4⟩
          have d2 : Hid (KAt wc.drew p F t) := J.out.1.dl.at_.later (Below.refl _ _).drew
          have J21 : Hid (Bo w wc.drew p d F G t t ∧ t.l.length ≤ k + 1) := ⟨J.out.1.later (Below.refl _ _).drew, J.out.2⟩
          obtain ⟨q, hq⟩ : ∃ q : Nat, t.l.length = q := ⟨_, rfl⟩
          obtain ⟨n2, hn2⟩ : ∃ n2 : Nat, t.n = n2 := ⟨_, rfl⟩
          rw [hq] at d1 N2 J21
          rw [hn2] at d4 N1
          have HQ : Hid (t.l.length = q) := hq
          clear hq hn2 J
          go_wp2_with fail
          go_region_held3 (fun w' => w'.cell? ⟨d, 1, none⟩ = some (.slice va q vc) ∧ w'.cell? ⟨d, 4, none⟩ = some (.int .i64 (n2 : Int)) ∧ Hid (KAt w' p F t) ∧ wc.drew = w') (first | exact ⟨d1, d4, d2, rfl⟩ | assumption) (first | (go_at_call 25; refine Calls.mono (N1.out _ (by first | assumption | (rename_i hS; exact hS.2.2.1))) ?_; rintro e w9 ⟨rfl, rfl⟩) | (go_at_call 26; refine Calls.mono (N2.out _ (by first | assumption | (rename_i hS; exact hS.2.2.1))) ?_; rintro e w9 ⟨rfl, rfl⟩))
          clear d1 d2 d4 N1 N2
          go_wp2
          go_roundw
          case rel => exact ⟨k + 1, F, G, t, by omega, by omega, by go_num, J21.out.1, by rw [HQ.out]; exact J21.out.2⟩
          case measure => simp [intOf]; omega
      · obtain rfl : k = 100 := by omega
        have g1 : ((100 : Nat) : Int) < (len : Int) := by omega
        have FF : Hid (Below w.heap.size w wr) := I.out.1.dl.below
        clear I
        go_wp2
        go_ret
        exact ⟨rfl, FF.out⟩
    · obtain rfl : k = len := by omega
      have FF : Hid (Below w.heap.size w wr) := I.out.1.dl.below
      clear I
      go_wp2
      go_ret
      exact ⟨rfl, FF.out⟩
end Go.Proofs.Ytpcgoimkflgcnaa
