/- Parts: LrJ, LgX. -/
import Derived.Test.YtdcimnmebgkmjaaGreatDoorZlG22
import Derived.Test.YtdcimnmebgkmjaaGreatDoorZlG26
namespace Go.Proofs.YtdcimnmebgkmjaaGreatDoor
open Go.RowKit Go.Proofs.Fd Go.Proofs.Dk Go.Proofs.Lg
set_option maxRecDepth 20000
theorem syS_n (s : St) : (syS s).n = s.n := by
  unfold syS
  split
  · rfl
  · split <;> rfl
theorem wrs_n : ∀ (bs : List Bs) (s : St) (k : Nat), (wrs s k bs).2.n = s.n
  | [], _, _ => rfl
  | b :: bs, s, k => by
    rw [wrs]
    by_cases h : wrE s (k : Int) b = 0
    · rw [thn_ok h]
      exact (wrs_n bs _ _).trans (wrS_n s _ b)
    · rw [thn_no h]
      exact wrS_n s _ b
theorem wrb_n (s : St) (k : Nat) (b : Bs) : (wrb s k b).2.n = s.n := wrs_n _ s k
theorem cls_n : ∀ (m : Nat) (s : St) (k : Nat) (d : Bool), (cls s k m d).2.n = s.n
  | 0, s, k, d => by
    rw [cls]
    split
    · exact syS_n s
    · rfl
  | m + 1, s, k, d => by
    rw [cls]
    split
    · exact cls_n m s _ d
    · by_cases h : wrE s (k : Int) (zr 64) = 0
      · rw [thn_ok h]
        exact (cls_n m _ _ true).trans (wrS_n s _ _)
      · rw [thn_no h]
        exact wrS_n s _ _
theorem cln_n (s : St) (k m : Nat) : (cln s k m).2.n = s.n := by
  unfold cln
  split
  · rfl
  · exact cls_n m s k false
structure Rb (w : World) (d : Nat) (G : Nat → Prop) (wr : World) (G' : Nat → Prop) (s : St) (q h g : Nat) (v : Value) (ts : List Bs) (tk : Nat) (m : Bs) : Prop where
  rd : Rd wr d G' s q h g v ts tk m
  nx : Nx w G G'
  bf : Bf G w wr
  new : ∀ z, HFt q v z → w.heap.size ≤ z
section
variable {w : World} {d : Nat} {G : Nat → Prop} {wr : World} {G' : Nat → Prop} {s : St} {q h g : Nat} {v : Value} {ts : List Bs} {tk : Nat} {m : Bs}
theorem Rb.later (k : Rb w d G wr G' s q h g v ts tk m) {w' : World} (hb : Below wr.heap.size wr w') : Rb w d G w' G' s q h g v ts tk m := ⟨k.rd.later hb, k.nx, k.bf.later hb, k.new⟩
theorem Rb.ds (k : Rb w d G wr G' s q h g v ts tk m) {w' : World} {s' : St} (x : DSt wr d G' s' w') : ∃ G'', Rb w d G w' G'' s' q h g v ts tk m := by
  obtain ⟨G2, x1, x2, x3⟩ := x
  exact ⟨G2, k.rd.disk x1 x2 x3, k.nx.trans x2 k.bf.size, k.bf.trans k.nx x3, k.new⟩
theorem Rb.put (k : Rb w d G wr G' s q h g v ts tk m) {w' : World} {G2 : Nat → Prop} {s' : St} {v' : Value} {ts' : List Bs} {tk' : Nat} {m' : Bs} (x : Rd w' d G2 s' q h g v' ts' tk' m') (n1 : Nx wr G' G2) (n2 : Nx wr (HFt q v) (HFt q v')) (b : Bf (FQ G' q v) wr w') : Rb w d G w' G2 s' q h g v' ts' tk' m' := by
  have hs := k.bf.size
  refine ⟨x, k.nx.trans n1 hs, k.bf.trans (fun y hy => ?_) b, fun z hz => ?_⟩
  · rcases hy with e | e
    · exact k.nx y e
    · exact .inr (k.new y e)
  · rcases n2 z hz with e | e
    · exact k.new z e
    · omega
theorem Rb.dw (k : Rb w d G wr G' s q h g v ts tk m) : Dw w d G wr G' s := ⟨k.rd.at_, k.nx, k.bf⟩
end
def BgR (w : World) (d : Nat) (G : Nat → Prop) (h g : Nat) (ts : List Bs) (y : Int × St) (e : Ending) (w' : World) : Prop :=
  ∃ pv G', e = .returned (.tuple #[pv, .int .i64 y.1]) ∧ Dw w d G w' G' y.2 ∧ (y.1 = 0 → ∃ q v, pv = .pointer (some ⟨q, 0, none⟩) ∧ Rb w d G w' G' y.2 q h g v ts (tkn 1 ts) (mks (hm g) ts))
theorem bgr_no {w : World} {d : Nat} {G : Nat → Prop} {h g : Nat} {ts : List Bs} {y : Int × St} {x : Int} {s' : St} {G' : Nat → Prop} {w' : World} {pv : Value} (hy : y = (x, s')) (hx : x ≠ 0) (k : Dw w d G w' G' s') : BgR w d G h g ts y (.returned (.tuple #[pv, .int .i64 x])) w' := by
  subst hy
  exact ⟨pv, G', rfl, k, fun c => absurd c hx⟩
theorem rb_new {w wr : World} {d : Nat} {G G' : Nat → Prop} {s : St} (k : Dw w d G wr G' s) (h g : Nat) (m : Bs) :
    Rb w d G (wr.alloc (.cells #[.pointer (some ⟨d, 0, none⟩), .int .i64 (h : Int), .int .i64 (g : Int), .slice none 0 0, sv m, .int .i64 ((1 : Nat) : Int)] 77)) G' s wr.heap.size h g (.slice none 0 0) [] 1 m := by
  refine ⟨⟨k.at_.later (nb _ _), ⟨Blk.new wr (rc d h g (.slice none 0 0) m 1) _ (by simp), owns_nilS _, fun c => by cases c⟩, fun x hx => ?_⟩, k.nx, k.bf.later (nb _ _), fun z hz => ?_⟩
  · rcases hx with rfl | e
    · exact fun c => Nat.lt_irrefl _ (k.at_.lt c)
    · cases e
  · rcases hz with rfl | e
    · exact k.bf.size
    · cases e
def BgL (w : World) (d : Nat) (G : Nat → Prop) (q h g H : Nat) (ts : List Bs) (L N : Nat) (y : Int × St) (k : Nat) (wr : World) : Prop :=
  ∃ G' s' v', Rb w d G wr G' s' q h g v' (ts.take k) (tkn 1 (ts.take k)) (mks (hm g) (ts.take k)) ∧ s'.n = N ∧ s'.l.length ≤ L + tkn 1 (ts.take k) ∧ y = thn (pts s' (h * H) (tkn 1 (ts.take k)) (mks (hm g) (ts.take k)) (ts.drop k)) (k2 (h * H) g)
theorem bgl_step {w : World} {d : Nat} {G : Nat → Prop} {q h g H : Nat} {ts : List Bs} {L N : Nat} {y : Int × St} {k : Nat} {wr : World} (b : BgL w d G q h g H ts L N y k wr) (hk : k < ts.length) (ht : ts[k].length ≤ 2000) (h1 : h ≤ 1) (hN : N / 2 = H) (hN2 : N ≤ 1024) (htk : tkn 1 ts ≤ 1024) (hts : ts.length ≤ 1000) (hL : L + 1200 ≤ 1000000) :
    Calls Tryz.prog 77 #[.pointer (some ⟨q, 0, none⟩), sv ts[k]] wr fun e w' => ∃ x, e = .returned (.int .i64 x) ∧ (x = 0 ∧ BgL w d G q h g H ts L N y (k + 1) w' ∨ x ≠ 0 ∧ ∃ G' s', y = (x, s') ∧ Dw w d G w' G' s') := by
  obtain ⟨G', s', v', r, hn, hl, hy⟩ := b
  have hm1 := tkn_mono ts k
  have hd : ts.drop k = ts[k] :: ts.drop (k + 1) := List.drop_eq_getElem_cons hk
  rw [hd, pts] at hy
  refine (rput_any d G' s' q h g v' (ts.take k) (tkn 1 (ts.take k)) (mks (hm g) (ts.take k)) ts[k] wr (mks_len _ _ rfl) ht h1 (by omega) (by omega) (by rw [List.length_take]; omega) (by omega) r.rd).mono ?_
  rintro e w' ⟨he, G2, v2, hc, n1, n2, b2⟩
  rw [hn, hN] at he hc
  have hwl := wrb_len s' (h * H + tkn 1 (ts.take k)) (rcd (mks (hm g) (ts.take k)) ts[k])
  have hwn := wrb_n s' (h * H + tkn 1 (ts.take k)) (rcd (mks (hm g) (ts.take k)) ts[k])
  rw [rcd_len, show 64 * sn ts[k] / 64 = sn ts[k] by omega] at hwl
  refine ⟨_, he, ?_⟩
  have hput : ∀ {s2 : St} {ts' : List Bs} {tk' : Nat} {m' : Bs}, Rd w' d G2 s2 q h g v2 ts' tk' m' → Rb w d G w' G2 s2 q h g v2 ts' tk' m' := fun x => r.put x n1 n2 b2
  obtain ⟨⟨x, s2⟩, hxx⟩ : ∃ z, wrb s' (h * H + tkn 1 (ts.take k)) (rcd (mks (hm g) (ts.take k)) ts[k]) = z := ⟨_, rfl⟩
  rw [hxx] at hc hy hwl hwn ⊢
  rcases hc with ⟨c0, c1⟩ | ⟨c0, c1⟩
  · refine .inl ⟨c0, G2, s2, v2, ?_, hwn.trans hn, ?_, ?_⟩
    · rw [List.take_succ_eq_append_getElem hk, tkn_app, mks_app]
      exact hput c1
    · rw [tkn_take ts k hk]
      have : s2.l.length ≤ s'.l.length + sn ts[k] := hwl
      omega
    · rw [hy, thn_ok c0, tkn_take ts k hk, mks_take _ ts k hk]
  · refine .inr ⟨c0, G2, s2, ?_, (hput c1).dw⟩
    rw [hy, thn_no c0, thn_no c0]
set_option maxHeartbeats 2000000 in
theorem rbegin_any (w : World) (d : Nat) (G : Nat → Prop) (s : St) (h g : Nat) (a : Option Addr) (k c : Nat) (ts : List Bs) (hk : ts.length = k) (hok : ∀ t ∈ ts, t.length ≤ 2000) (hsn : 1 + sns ts ≤ s.n / 2) (h1 : h ≤ 1) (hn : s.n ≤ 1024) (hdn : s.down = false) (hl : s.l.length + 4000 ≤ 1000000) (D : Hid (DAt w d G s)) (tx : Hid (TxAt w a ts)) (ap : Hid (Ap a ts G)) :
    Calls Tryz.prog 66 #[.pointer (some ⟨d, 0, none⟩), .int .i64 (h : Int), .int .i64 (g : Int), .slice a k c] w fun e w' => BgR w d G h g ts (bgn s (h * (s.n / 2)) (s.n / 2) g ts) e w' := by
  have hs1 := sns_len ts
  have CL : Hid (Calls Tryz.prog 72 #[.pointer (some ⟨d, 0, none⟩), .int .i64 (h : Int), .int .i64 0] w fun e w' => e = .returned (.int .i64 (cln s (h * (s.n / 2)) (s.n / 2)).1) ∧ DSt w d G (cln s (h * (s.n / 2)) (s.n / 2)).2 w') := rclean_any w d G s h 0 h1 hn (Nat.zero_le _) hdn (by omega) D
  have cl := cln_len s (h * (s.n / 2)) (s.n / 2)
  have cn := cln_n s (h * (s.n / 2)) (s.n / 2)
  have htk : tkn 1 ts ≤ 512 := by rw [tkn_sns]; omega
  obtain ⟨y, hy⟩ : ∃ y, bgn s (h * (s.n / 2)) (s.n / 2) g ts = y := ⟨_, rfl⟩
  rw [hy]
  rw [bgn_k1] at hy
  obtain ⟨N, hN⟩ : ∃ N, s.n = N := ⟨_, rfl⟩
  rw [hN] at CL cl cn hy hsn hn
  obtain ⟨H, hH⟩ : ∃ H, N / 2 = H := ⟨_, rfl⟩
  rw [hH] at CL cl cn hy hsn
  obtain ⟨⟨c1, s1⟩, hc1⟩ : ∃ z, cln s (h * H) H = z := ⟨_, rfl⟩
  rw [hc1] at CL cl cn hy
  have cl' : s1.l.length ≤ s.l.length + H := cl
  have cn' : s1.n = N := cn
  have HY : Hid (thn (c1, s1) (k1 (h * H) g ts) = y) := hy
  have PL : Hid (∀ W, Calls Tryz.prog 68 #[.int .i64 (g : Int)] W fun e w' => e = .returned (.string (st (hf g))) ∧ Below W.heap.size W w') := fun W => rplain_any g W
  have MK : Hid (∀ W, Calls Tryz.prog 67 #[.string (st (hf g))] W fun e w' => e = .returned (.string (st (hm g))) ∧ Below W.heap.size W w') := fun W => rmark_any (hf g) (by rw [hf_len]; decide) W
  have HF : Hid (∀ W, Calls Tryz.prog 102 #[.int .i64 (g : Int)] W fun e w' => e = .returned (.string (st (hd g))) ∧ Below W.heap.size W w') := fun W => rhead_any g W
  have HK : Hid (ts.length = k) := hk
  have HO : Hid (∀ t ∈ ts, t.length ≤ 2000) := hok
  have HTK : Hid (tkn 1 ts ≤ 512) := htk
  have NEW : Hid (∀ (W : World) (G' : Nat → Prop), Dw w d G W G' s1 → Rb w d G (W.alloc (.cells #[.pointer (some ⟨d, 0, none⟩), .int .i64 (h : Int), .int .i64 (g : Int), .slice none 0 0, .string (st (hm g)), .int .i64 1] 77)) G' s1 W.heap.size h g (.slice none 0 0) [] 1 (hm g)) := fun W G' x => rb_new x h g (hm g)
  obtain ⟨P0, hP0⟩ : ∃ x, st (hf g) = x := ⟨_, rfl⟩
  obtain ⟨P1, hP1⟩ : ∃ x, st (hm g) = x := ⟨_, rfl⟩
  obtain ⟨P2, hP2⟩ : ∃ x, st (hd g) = x := ⟨_, rfl⟩
  rw [hP0] at PL MK
  rw [hP1] at MK NEW
  rw [hP2] at HF
  have HP2 : Hid (st (hd g) = P2) := hP2
  clear hP0 hP1 hP2 hy hc1 cl cn hk hok htk D hdn
  go_enter Tryz.func66, Tryz.ntmps66
  go_wp2_with fail
  refine Calls.mono CL.out ?_
  rintro e w1 ⟨rfl, G1, d1, n1, b1⟩
  have J1 : Hid (Dw w d G w1 G1 s1) := ⟨d1, n1, b1⟩
  clear d1 n1 b1 CL
  by_cases h0 : c1 = 0
  · subst h0
    have HY1 : Hid (k1 (h * H) g ts s1 = y) := by have := HY.out; rw [thn_ok rfl] at this; exact this
    clear HY
    go_wp2_with fail
    refine Calls.mono (PL.out _) ?_
    rintro e w2 ⟨rfl, hb2⟩
    have J2 : Hid _ := J1.out.later hb2
    clear hb2 J1 PL
    go_wp2_with fail
    refine Calls.mono (MK.out _) ?_
    rintro e w3 ⟨rfl, hb3⟩
    have J3 : Hid _ := NEW.out w3 G1 (J2.out.later hb3)
    clear hb3 J2 MK NEW
    obtain ⟨q, hq⟩ : ∃ q, w3.heap.size = q := ⟨_, rfl⟩
    rw [hq] at J3
    have J4 : Hid (BgL w d G q h g H ts s1.l.length N y 0 (w3.alloc (.cells #[.pointer (some ⟨d, 0, none⟩), .int .i64 (h : Int), .int .i64 (g : Int), .slice none 0 0, .string P1, .int .i64 1] 77))) := ⟨G1, s1, _, J3.out, cn', Nat.le_add_right _ _, HY1.out.symm⟩
    clear J3 HY1
    go_wp2
    obtain ⟨W0, hW0⟩ : ∃ W0, w3.alloc (.cells #[.pointer (some ⟨d, 0, none⟩), .int .i64 (h : Int), .int .i64 (g : Int), .slice none 0 0, .string P1, .int .i64 1] 77) = W0 := ⟨_, rfl⟩
    rw [hW0] at J4 ⊢
    clear hW0 hq
    go_loopw [12] (fun i wr => ∃ j : Nat, j ≤ k ∧ i = .int .i64 (j : Int) ∧ Hid (BgL w d G q h g H ts s1.l.length N y j wr)) (fun i _ => k - (intOf i).toNat)
    case atStart => exact ⟨0, Nat.zero_le _, rfl, J4.out⟩
    case round =>
      obtain ⟨j, hj, rfl, J⟩ := hrel
      clear J4
      by_cases hlt : j < k
      · have g1 : (j : Int) < (k : Int) := by omega
        have hjl : j < ts.length := by rw [HK.out]; exact hlt
        have TX2 : TxAt wr a ts := by
          obtain ⟨G', s', v', r, -⟩ := J.out
          exact tx.out.bf r.bf ap.out
        obtain ⟨b3, o3, rfl, c3⟩ := TX2 j hjl
        have PU : Hid _ := bgl_step J.out hjl (HO.out _ (List.getElem_mem hjl)) h1 hH hn (by have := HTK.out; omega) (by have := HK.out; omega) (by omega)
        unfold sv at PU c3
        obtain ⟨T, hT⟩ : ∃ T, st ts[j] = T := ⟨_, rfl⟩
        rw [hT] at PU c3
        clear hT TX2 J
        go_wp2_with fail
        refine Calls.mono PU.out ?_
        rintro e w4 ⟨x, rfl, hx⟩
        clear PU c3
        by_cases hx0 : x = 0
        · have K : Hid (BgL w d G q h g H ts s1.l.length N y (j + 1) w4) := by
            rcases hx with ⟨-, z⟩ | ⟨z, -⟩
            · exact z
            · exact absurd hx0 z
          subst hx0
          clear hx
          go_wp2
          go_roundw
          case rel => exact ⟨j + 1, by omega, rfl, K.out⟩
          case measure => simp [intOf]; omega
        · have K : Hid (∃ G' s', y = (x, s') ∧ Dw w d G w4 G' s') := by
            rcases hx with ⟨z, -⟩ | ⟨-, z⟩
            · exact absurd z hx0
            · exact z
          clear hx
          go_wp2
          go_ret2
          obtain ⟨G', s', z1, z2⟩ := K.out
          exact bgr_no z1 hx0 z2
      · have g1 : ¬ (j : Int) < (k : Int) := by omega
        have hjk : ts.length ≤ j := by rw [HK.out]; omega
        obtain ⟨G5, s5, v5, r5, n5, l5, y5⟩ := J.out
        rw [List.take_of_length_le hjk] at r5 l5 y5
        rw [List.drop_of_length_le hjk, pts, thn_ok rfl] at y5
        have J5 : Hid (Rb w d G wr G5 s5 q h g v5 ts (tkn 1 ts) (mks (hm g) ts)) := r5
        have L5 : s5.l.length + 1000 ≤ 1000000 := by have := HTK.out; omega
        have Y5 : Hid (y = k2 (h * H) g s5) := y5
        have SY : Hid (Calls Tryz.prog 37 #[.pointer (some ⟨d, 0, none⟩)] wr fun e w' => e = .returned (.int .i64 (syE s5)) ∧ ∃ G', Rb w d G w' G' (syS s5) q h g v5 ts (tkn 1 ts) (mks (hm g) ts)) := (rsync_any d G5 s5 wr r5.rd.at_ (by omega)).mono fun _ _ ⟨e1, e2⟩ => ⟨e1, J5.out.ds e2⟩
        clear J r5 y5 l5 HO tx ap
        obtain ⟨x6, hx6⟩ : ∃ x, syE s5 = x := ⟨_, rfl⟩
        have L6 : (syS s5).l.length + 1000 ≤ 1000000 := by have := syS_len s5; omega
        have n6 : (syS s5).n = N := (syS_n s5).trans n5
        have Y6 : Hid (y = thn (x6, syS s5) (k3 (h * H) g)) := by rw [← hx6]; exact Y5.out
        rw [hx6] at SY
        obtain ⟨s6, hs6⟩ : ∃ x, syS s5 = x := ⟨_, rfl⟩
        rw [hs6] at SY L6 n6 Y6
        clear hx6 hs6 Y5 J5 L5 n5
        go_wp2_with fail
        refine Calls.mono SY.out ?_
        rintro e w6 ⟨rfl, G6, r6⟩
        have J6 : Hid _ := r6
        clear r6 SY
        by_cases hx0 : x6 = 0
        · subst hx0
          have Y7 : Hid (y = k3 (h * H) g s6) := by have := Y6.out; rw [thn_ok rfl] at this; exact this
          have HA : Hid (Calls Tryz.prog 64 #[.pointer (some ⟨d, 0, none⟩)] w6 fun e w' => e = .returned (.int .i64 (H : Int)) ∧ w' = w6) := by
            have := rhalf_any d G6 s6 w6 J6.out.rd.at_ (by omega)
            rw [n6, hH] at this
            exact this
          have hhH : h * H ≤ 1024 := by
            rcases (by omega : h = 0 ∨ h = 1) with e | e
            · rw [e, Nat.zero_mul]; omega
            · rw [e, Nat.one_mul]; omega
          have y1 : IntKind.i64.wrap ((h : Int) * (H : Int)) = ((h * H : Nat) : Int) := by rw [IntKind.wrap_i64, ← Int.natCast_mul]; omega
          have WR : Hid (∀ W, Below w6.heap.size w6 W → Calls Tryz.prog 35 #[.pointer (some ⟨d, 0, none⟩), .int .i64 ((h * H : Nat) : Int), .string P2] W fun e w' => e = .returned (.int .i64 (wrE s6 ((h * H : Nat) : Int) (hd g))) ∧ ∃ G', Rb w d G w' G' (wrS s6 ((h * H : Nat) : Int) (hd g)) q h g v5 ts (tkn 1 ts) (mks (hm g) ts)) := fun W hb => by
            have := rwrite_any d G6 s6 ((h * H : Nat) : Int) P2 W (J6.out.later hb).rd.at_ (by omega)
            rw [← HP2.out, st_data] at this
            rw [← HP2.out]
            exact this.mono fun _ _ ⟨e1, e2⟩ => ⟨e1, (J6.out.later hb).ds e2⟩
          have L7 : (wrS s6 ((h * H : Nat) : Int) (hd g)).l.length + 900 ≤ 1000000 := by have := wrS_len s6 ((h * H : Nat) : Int) (hd g); omega
          have Y8 : Hid (y = thn (wrE s6 ((h * H : Nat) : Int) (hd g), wrS s6 ((h * H : Nat) : Int) (hd g)) k4) := by rw [← wrb_one s6 (h * H) (hd g) (hd_len g)]; exact Y7.out
          obtain ⟨x7, hx7⟩ : ∃ x, wrE s6 ((h * H : Nat) : Int) (hd g) = x := ⟨_, rfl⟩
          obtain ⟨s7, hs7⟩ : ∃ x, wrS s6 ((h * H : Nat) : Int) (hd g) = x := ⟨_, rfl⟩
          rw [hx7, hs7] at WR Y8
          rw [hs7] at L7
          obtain ⟨z1, hz1⟩ : ∃ z : Int, ((h * H : Nat) : Int) = z := ⟨_, rfl⟩
          rw [hz1] at y1 WR
          clear hx7 hs7 hz1 Y6 Y7 J6 L6 hhH
          go_wp2_with fail
          refine Calls.mono HA.out ?_
          rintro e w7 ⟨rfl, rfl⟩
          clear HA
          go_wp2_with fail
          refine Calls.mono (HF.out _) ?_
          rintro e w8 ⟨rfl, hb8⟩
          have WR8 : Hid _ := WR.out w8 hb8
          clear hb8 WR HF
          go_wp2_with fail
          refine Calls.mono WR8.out ?_
          rintro e w9 ⟨rfl, G9, r9⟩
          have J9 : Hid _ := r9
          clear r9 WR8
          by_cases hx0 : x7 = 0
          · subst hx0
            have Y9 : Hid (y = (syE s7, syS s7)) := by have := Y8.out; rw [thn_ok rfl, k4_eq] at this; exact this
            have SY : Hid (Calls Tryz.prog 37 #[.pointer (some ⟨d, 0, none⟩)] w9 fun e w' => e = .returned (.int .i64 (syE s7)) ∧ ∃ G', Rb w d G w' G' (syS s7) q h g v5 ts (tkn 1 ts) (mks (hm g) ts)) := (rsync_any d G9 s7 w9 J9.out.rd.at_ (by omega)).mono fun _ _ ⟨e1, e2⟩ => ⟨e1, J9.out.ds e2⟩
            obtain ⟨x8, hx8⟩ : ∃ x, syE s7 = x := ⟨_, rfl⟩
            rw [hx8] at SY Y9
            clear hx8 Y8 J9
            go_wp2_with fail
            refine Calls.mono SY.out ?_
            rintro e w10 ⟨rfl, G10, r10⟩
            have J10 : Hid _ := r10
            clear r10 SY
            go_wp2
            go_ret2
            refine ⟨_, G10, by rw [Y9.out]; rfl, by rw [Y9.out]; exact J10.out.dw, fun _ => ⟨q, v5, rfl, by rw [Y9.out]; exact J10.out⟩⟩
          · have Y9 : Hid (y = (x7, s7)) := by have := Y8.out; rw [thn_no hx0] at this; exact this
            go_wp2
            go_ret2
            exact bgr_no Y9.out hx0 J9.out.dw
        · have Y7 : Hid (y = (x6, s6)) := by have := Y6.out; rw [thn_no hx0] at this; exact this
          go_wp2
          go_ret2
          exact bgr_no Y7.out hx0 J6.out.dw
  · have Y1 : Hid (y = (c1, s1)) := by have := HY.out; rw [thn_no h0] at this; exact this.symm
    clear HY
    go_wp2
    go_ret2
    exact bgr_no Y1.out h0 J1.out
end Go.Proofs.YtdcimnmebgkmjaaGreatDoor
namespace Go.Proofs.YtdcimnmebgkmjaaGreatDoor
open Go.RowKit Go.Proofs.Fd Go.Proofs.Dk Go.Proofs.Lg
set_option maxRecDepth 20000
def BnP (w va : World) (p : Nat) (F : Nat → Prop) (fr mn g : Nat) (l : List Bs) (y : Int × St) (e : Ending) (w' : World) : Prop :=
  ∃ F', Dl w w' p F' y.2 ∧ Nx va F F' ∧ Bf F va w' ∧
    (y.1 = 0 ∧ (∃ v, e = .returned (.tuple #[hv p fr mn g v (tkn 1 l) (mks (hm g) l), .int .i64 0]) ∧ OwnsS w' v l ∧ ∀ x, v.ownBlock = some x → va.heap.size ≤ x ∧ ¬ F' x) ∨ y.1 ≠ 0 ∧ e = .returned (.tuple #[.agg hz0.toArray, .int .i64 y.1]))
theorem blk_at (w : World) (cs : List Value) (ty : TypeId) (hn : cs ≠ []) (k : Nat) (hk : w.heap.size = k) : Blk (w.alloc (.cells cs.toArray ty)) k cs := by
  subst hk
  exact Blk.new w cs ty hn
theorem size1 (w : World) (o : Obj) : (w.alloc o).heap.size = w.heap.size + 1 := by simp
theorem begin_at (w va : World) (p : Nat) (F : Nat → Prop) (s : St) (fr mn g : Nat) (a : Option Addr) (n c : Nat) (l : List Bs) (y : Int × St) (h : Dl w va p F s) (hx : TxAt va a l) (ha : Ap a l F) (hl : s.l.length + 2 * mn + 300 ≤ 1000000) (hy : y = thn (cln s fr mn) (k1 fr g l)) (t1 t2 t3 t4 : TypeId) :
    BgP w va p F fr mn g a n c l (va.heap.size + 1 + 1) (va.heap.size + 1 + 1 + 1) (va.heap.size + 1) s.n y 0 ((((va.alloc (.cells #[.pointer (some ⟨p, 0, none⟩), .int .i64 (fr : Int), .int .i64 (mn : Int)] t1)).alloc (.cells hz0.toArray t2)).alloc (.cells (hc p fr mn g (.slice none 0 0) 0 [] [.slice a n c]).toArray t3)).alloc (.cells (fsv (va.heap.size + 1 + 1) p fr mn).toArray t4)) := by
  obtain ⟨v1, e1⟩ : ∃ v1, va.alloc (.cells #[.pointer (some ⟨p, 0, none⟩), .int .i64 (fr : Int), .int .i64 (mn : Int)] t1) = v1 := ⟨_, rfl⟩
  have b1 : Below va.heap.size va v1 := by rw [← e1]; exact nb _ _
  have s1 : v1.heap.size = va.heap.size + 1 := by rw [← e1]; exact size1 _ _
  rw [e1]
  obtain ⟨v2, e2⟩ : ∃ v2, v1.alloc (.cells hz0.toArray t2) = v2 := ⟨_, rfl⟩
  have b2 : Below v1.heap.size v1 v2 := by rw [← e2]; exact nb _ _
  have s2 : v2.heap.size = va.heap.size + 1 + 1 := by rw [← e2, size1, s1]
  have r2 : Blk v2 (va.heap.size + 1) hz0 := by rw [← e2]; exact blk_at v1 hz0 t2 (by simp) _ s1
  rw [e2]
  obtain ⟨v3, e3⟩ : ∃ v3, v2.alloc (.cells (hc p fr mn g (.slice none 0 0) 0 [] [.slice a n c]).toArray t3) = v3 := ⟨_, rfl⟩
  have b3 : Below v2.heap.size v2 v3 := by rw [← e3]; exact nb _ _
  have s3 : v3.heap.size = va.heap.size + 1 + 1 + 1 := by rw [← e3, size1, s2]
  have r3 : Blk v3 (va.heap.size + 1 + 1) (hc p fr mn g (.slice none 0 0) 0 [] [.slice a n c]) := by rw [← e3]; exact blk_at v2 _ t3 (by simp) _ s2
  rw [e3]
  obtain ⟨v4, e4⟩ : ∃ v4, v3.alloc (.cells (fsv (va.heap.size + 1 + 1) p fr mn).toArray t4) = v4 := ⟨_, rfl⟩
  have b4 : Below v3.heap.size v3 v4 := by rw [← e4]; exact nb _ _
  have r4 : Blk v4 (va.heap.size + 1 + 1 + 1) (fsv (va.heap.size + 1 + 1) p fr mn) := by rw [← e4]; exact blk_at v3 _ t4 (by simp [fsv]) _ s3
  rw [e4]
  clear e1 e2 e3 e4
  have bb : Below va.heap.size va v4 := chain (chain (chain b1 b2) b3) b4
  have lt : ∀ x, F x → x < va.heap.size := fun x e => h.at_.lt e
  have hh : ∀ x, HFt (va.heap.size + 1 + 1) (.slice none 0 0) x → x = va.heap.size + 1 + 1 := fun x e => by
    rcases e with e | e
    · exact e
    · cases e
  refine ⟨F, s, .slice none 0 0, [], 0, [], ⟨⟨h.later bb, ⟨r3.later b4, owns_nilS _, nofun⟩, fun x e => ?_⟩, Nx.refl _ _, Bf.of bb, r4, (r2.later b3).later b4, hx.later bb, fun x e h0 d => ?_, by omega, by omega, by omega, by omega, by omega, fun e => ?_, fun e => ?_, nofun, nofun, nofun⟩, fun c => absurd c (by decide), rfl, rfl, rfl, hl, hy⟩
  · have := hh x e
    subst this
    exact ⟨fun d => by have := lt _ d; omega, by have := h.below.size; omega⟩
  · rcases d with d | d
    · exact ha x e h0 d
    · have h3 := hh _ d
      have := hx.lt x e h0
      omega
  · have := lt _ e
    omega
  · have := lt _ e
    omega
set_option maxHeartbeats 4000000 in
theorem lbegin_any (w va : World) (p : Nat) (F : Nat → Prop) (s : St) (fr mn g : Nat) (a : Option Addr) (n c : Nat) (l : List Bs) (h1 : 1 ≤ mn) (h2 : fr + mn ≤ s.n) (hn : l.length = n) (ht : ∀ t ∈ l, t.length ≤ 2000) (hs : tkn 1 l ≤ mn) (hl : s.l.length + 2 * mn + 300 ≤ 1000000) (hk : Hid (Kh w)) (h : Hid (Dl w va p F s)) (hx : Hid (TxAt va a l)) (ha : Hid (Ap a l F)) :
    Calls Tryz.prog 56 #[plc p fr mn, .int .i64 (g : Int), .slice a n c] va fun e w' => BnP w va p F fr mn g l (bgn s fr mn g l) e w' := by
  have hB := h.out.at_.1.n2
  have BS := begin_steps w va p F fr mn g a n c l (va.heap.size + 1 + 1) (va.heap.size + 1 + 1 + 1) (va.heap.size + 1) s.n (bgn s fr mn g l) h1 h2 hB hn ht hs hk.out
  have HL : Hid (s.l.length + 2 * mn + 300 ≤ 1000000) := hl
  have H9 : Hid (w.heap.size ≤ va.heap.size) := h.out.below.size
  obtain ⟨y, hy⟩ : ∃ y, bgn s fr mn g l = y := ⟨_, rfl⟩
  have HY : Hid (y = thn (cln s fr mn) (k1 fr g l)) := hy.symm.trans (bgn_k1 s fr mn g l)
  rw [hy] at BS ⊢
  have BS' : Hid _ := BS
  clear BS hy hn ht hs h1 h2 hB hl
  unfold plc
  go_enter Tryz.func56, Tryz.ntmps56
  go_wp2_with fail
  refine Calls.mono (BS'.out _ (begin_at w va p F s fr mn g a n c l y h.out hx.out ha.out HL.out HY.out _ _ _ _)) ?_
  rintro e w1 ⟨x, rfl, hst⟩
  by_cases h0 : x = 0
  · subst h0
    have J : Hid (BgP w va p F fr mn g a n c l (va.heap.size + 1 + 1) (va.heap.size + 1 + 1 + 1) (va.heap.size + 1) s.n y 5 w1) := by
      rcases hst with ⟨-, k⟩ | ⟨k, -⟩
      · exact k
      · exact absurd rfl k
    clear hst BS' h hx ha HY HL
    obtain ⟨F', s', v', ts', tk', m', hq, hf, hy⟩ := J.out
    obtain ⟨e1, e2, e3⟩ := hf (by decide)
    rw [e1, e2, e3] at hq
    have HQ : Hid (Bq w va p F fr mn g a n c l _ _ _ w1 F' s' v' l _ _) := hq
    have HY : Hid (y = (0, s')) := hy
    clear hq hf hy J e1 e2 e3
    obtain ⟨xa, xn, xc, rfl⟩ := owns_sliceS HQ.out.hd.hf.row
    obtain ⟨tk, htk⟩ : ∃ tk, tkn 1 l = tk := ⟨_, rfl⟩
    obtain ⟨m, hmm⟩ : ∃ m, mks (hm g) l = m := ⟨_, rfl⟩
    have HTM : Hid (tkn 1 l = tk ∧ mks (hm g) l = m) := ⟨htk, hmm⟩
    rw [htk, hmm] at HQ
    clear htk hmm
    have k0 := HQ.out.hd.hf.bk.c 0 _ rfl
    have k1 := HQ.out.hd.hf.bk.c 1 _ rfl
    have k2 := HQ.out.hd.hf.bk.c 2 _ rfl
    have k3 := HQ.out.hd.hf.bk.c 3 _ rfl
    have k4 := HQ.out.hd.hf.bk.c 4 _ rfl
    have k5 := HQ.out.hd.hf.bk.c 5 _ rfl
    have k6 := HQ.out.hd.hf.bk.c 6 _ rfl
    have z0 := HQ.out.br.c 0 _ rfl
    have z1 := HQ.out.br.c 1 _ rfl
    have z2 := HQ.out.br.c 2 _ rfl
    have z3 := HQ.out.br.c 3 _ rfl
    have z4 := HQ.out.br.c 4 _ rfl
    have z5 := HQ.out.br.c 5 _ rfl
    have z6 := HQ.out.br.c 6 _ rfl
    have zf := HQ.out.br.f
    have hne := HQ.out.qR
    have FI : Hid (Blk (w1.setCells (va.heap.size + 1) 0 (hc p fr mn g (.slice xa xn xc) tk m [])) (va.heap.size + 1) (hc p fr mn g (.slice xa xn xc) tk m []) ∧ BnP w va p F fr mn g l y (.returned (.tuple #[hv p fr mn g (.slice xa xn xc) tk m, .int .i64 0])) (w1.setCells (va.heap.size + 1) 0 (hc p fr mn g (.slice xa xn xc) tk m []))) := by
      have ho : ∀ x, x ≠ va.heap.size + 1 → (w1.setCells (va.heap.size + 1) 0 (hc p fr mn g (.slice xa xn xc) tk m [])).heap[x]? = w1.heap[x]? := fun x e => setCells_other w1 _ 0 _ x e
      have hbf : Bf (fun x => x = va.heap.size + 1) w1 (w1.setCells (va.heap.size + 1) 0 (hc p fr mn g (.slice xa xn xc) tk m [])) := Bf.sets (fun x => x = va.heap.size + 1) _ rfl _ _ _
      refine ⟨HQ.out.br.put _ rfl, F', ?_, HQ.out.nx, ?_, .inl ⟨by rw [HY.out], .slice xa xn xc, by rw [HTM.out.1, HTM.out.2], ?_, fun x e => ⟨HQ.out.nv x e, (HQ.out.hd.ap x (.inr e)).1⟩⟩⟩
      · rw [HY.out]
        exact ⟨HQ.out.hd.dl.at_.other hbf (fun x e d => HQ.out.fR (by rw [← d]; exact e)), HQ.out.hd.dl.new, below_sets (by have := HQ.out.bf.size; have := HQ.out.hd.dl.below.size; have := HQ.out.nR; have h9 := H9.out; omega) _ 0 HQ.out.hd.dl.below⟩
      · exact HQ.out.bf.trans (fun x e => .inr (by rw [e]; exact Nat.le_succ _)) hbf
      · exact ownsRow_same HQ.out.hd.hf.row (fun x e => ho x (fun d => HQ.out.vR (by rw [e, d])))
    clear HQ HY HTM
    go_wp2
    refine bodyPost_ret (v := .tuple #[hv p fr mn g (.slice xa xn xc) tk m, .int .i64 0]) ?_ rfl FI.out.2
    exact res_c2 Tryz.results56 _ _ (va.heap.size + 1) _ _ (by kernel_rfl) (by kernel_rfl) (run_loadVar_mid _ (va.heap.size + 1) 0 104 (hc p fr mn g (.slice xa xn xc) tk m []) _ FI.out.1.r Tryz.underlying104 rfl (by kernel_rfl))
  · have J : Hid (BgE w va p F (va.heap.size + 1) y x w1) := by
      rcases hst with ⟨k, -⟩ | ⟨-, k⟩
      · exact absurd k h0
      · exact k
    clear hst BS' h hx ha HY HL
    obtain ⟨F', hr0⟩ : ∃ F', Dl w w1 p F' y.2 ∧ Nx va F F' ∧ Bf F va w1 ∧ Blk w1 (va.heap.size + 1) hz0 ∧ ¬ F' (va.heap.size + 1) := J.out.2
    have hr : Dl w w1 p F' y.2 ∧ Nx va F F' ∧ Bf F va w1 ∧ Blk w1 (va.heap.size + 1) hz0 := ⟨hr0.1, hr0.2.1, hr0.2.2.1, hr0.2.2.2.1⟩
    have FR : Hid (¬ F' (va.heap.size + 1)) := hr0.2.2.2.2
    clear hr0
    have z0 := hr.2.2.2.c 0 _ rfl
    have z1 := hr.2.2.2.c 1 _ rfl
    have z2 := hr.2.2.2.c 2 _ rfl
    have z3 := hr.2.2.2.c 3 _ rfl
    have z4 := hr.2.2.2.c 4 _ rfl
    have z5 := hr.2.2.2.c 5 _ rfl
    have z6 := hr.2.2.2.c 6 _ rfl
    have zf := hr.2.2.2.f
    have FI : Hid (Blk (w1.setCells (va.heap.size + 1) 0 hz0) (va.heap.size + 1) hz0 ∧ BnP w va p F fr mn g l y (.returned (.tuple #[.agg hz0.toArray, .int .i64 x])) (w1.setCells (va.heap.size + 1) 0 hz0)) := by
      have hbf : Bf (fun x => x = va.heap.size + 1) w1 (w1.setCells (va.heap.size + 1) 0 hz0) := Bf.sets (fun x => x = va.heap.size + 1) _ rfl _ _ _
      have hR : ¬ F' (va.heap.size + 1) := FR.out
      refine ⟨hr.2.2.2.put _ rfl, F', ?_, hr.2.1, ?_, .inr ⟨by rw [J.out.1]; exact h0, by rw [J.out.1]⟩⟩
      · exact ⟨hr.1.at_.other hbf (fun x e d => hR (by rw [← d]; exact e)), hr.1.new, below_sets (by have h9 := H9.out; omega) _ 0 hr.1.below⟩
      · exact hr.2.2.1.trans (fun x e => .inr (by rw [e]; exact Nat.le_succ _)) hbf
    clear hr J
    go_wp2
    refine bodyPost_ret (v := .tuple #[.agg hz0.toArray, .int .i64 x]) ?_ rfl FI.out.2
    exact res_c2 Tryz.results56 _ _ (va.heap.size + 1) _ _ (by kernel_rfl) (by kernel_rfl) (run_loadVar_mid _ (va.heap.size + 1) 0 104 hz0 _ FI.out.1.r Tryz.underlying104 rfl (by kernel_rfl))
end Go.Proofs.YtdcimnmebgkmjaaGreatDoor
