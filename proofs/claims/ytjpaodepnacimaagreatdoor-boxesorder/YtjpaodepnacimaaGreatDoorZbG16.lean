/- The half that lies at a place: its records, one behind the other. -/
import Derived.Test.YtjpaodepnacimaaGreatDoorZbG15
namespace Go.Proofs.YtjpaodepnacimaaGreatDoor
open Go.RowKit Go.Proofs.Fd Go.Proofs.Dk Go.Proofs.Lg
set_option maxRecDepth 20000
structure Fi (va : World) (p fr mn g : Nat) (q c : Nat) (v : Value) (ts : List Bs) (tk : Nat) (m : Bs) (wr : World) : Prop where
  hf : Hf wr q p fr mn g v ts tk m []
  bk : Blk wr c hz0
  bl : Below va.heap.size va wr
  nq : va.heap.size ≤ q
  nc : va.heap.size ≤ c
  qc : c ≠ q
  vc : v.ownBlock ≠ some c
  nv : ∀ x, v.ownBlock = some x → va.heap.size ≤ x
section
variable {va : World} {p fr mn g q c : Nat} {v : Value} {ts : List Bs} {tk : Nat} {m : Bs} {wr : World}
theorem Fi.later (h : Fi va p fr mn g q c v ts tk m wr) {w' : World} (hb : Below wr.heap.size wr w') : Fi va p fr mn g q c v ts tk m w' := ⟨h.hf.later hb, h.bk.later hb, chain h.bl hb, h.nq, h.nc, h.qc, h.vc, h.nv⟩
theorem Fi.half (h : Fi va p fr mn g q c v ts tk m wr) {w' : World} {v' : Value} {ts' : List Bs} {tk' : Nat} {m' : Bs} (k : Hf w' q p fr mn g v' ts' tk' m' []) (hb : Bf (HFt q v) wr w') (hx : Nx wr (HFt q v) (HFt q v')) : Fi va p fr mn g q c v' ts' tk' m' w' := by
  have ca : ¬ HFt q v c := fun e => by
    rcases e with e | e
    · exact h.qc e
    · exact h.vc e
  refine ⟨k, h.bk.bf hb ca, h.bl.trans (hb.below (fun x e => ?_) h.bl.size), h.nq, h.nc, h.qc, fun e => ?_, fun x e => ?_⟩
  · rcases e with rfl | e
    · exact h.nq
    · exact h.nv x e
  · rcases hx c (.inr e) with d | d
    · exact ca d
    · have := h.bk.lt
      omega
  · rcases hx x (.inr e) with d | d
    · rcases d with rfl | d
      · exact h.nq
      · exact h.nv x d
    · exact Nat.le_trans h.bl.size d
end
theorem scan_none {m : Nat} {b a : Bs} (h : rof b a = none) : scan m b a = [] := by
  cases m with
  | zero => rfl
  | succ m => rw [scan, h]
theorem scan_some {m : Nat} {b a t : Bs} (hm : 1 ≤ m) (h : rof b a = some t) : scan m b a = t :: scan (m - 1) (b.drop (64 * sn t)) (rmk a t) := by
  obtain ⟨k, rfl⟩ : ∃ k, m = k + 1 := ⟨m - 1, by omega⟩
  rw [scan, h]
  rfl
theorem tkn_ge_len (ts : List Bs) : 1 + ts.length ≤ tkn 1 ts := by
  rw [tkn_sns]
  have := sns_len ts
  omega
theorem fi_ret {va : World} {p fr mn g q c : Nat} {v : Value} {ts : List Bs} {tk : Nat} {m : Bs} {wr : World} (h : Fi va p fr mn g q c v ts tk m wr) : Blk (wr.setCells c 0 (hc p fr mn g v tk m [])) c (hc p fr mn g v tk m []) ∧ Below va.heap.size va (wr.setCells c 0 (hc p fr mn g v tk m [])) ∧ OwnsS (wr.setCells c 0 (hc p fr mn g v tk m [])) v ts :=
  ⟨h.bk.put _ rfl, below_sets h.nc _ 0 h.bl, ownsRow_same h.hf.row (fun x e => setCells_other wr c 0 _ x (fun d => h.vc (by rw [e, d])))⟩
def toFind (q mn : Nat) (w : World) : Nat := mn - (intOf ((w.cell? ⟨q, 5, none⟩).getD undef)).toNat
theorem toFind_hf {w : World} {q p fr mn g : Nat} {v : Value} {ts : List Bs} {tk : Nat} {m : Bs} {more : List Value} (h : Hf w q p fr mn g v ts tk m more) : toFind q mn w = mn - tk := by
  unfold toFind
  rw [h.bk.c 5 _ rfl]
  rfl
theorem cut_from (X : ByteArray) (i : Nat) (x : Int) (hx : x = (i : Int)) (h2 : i ≤ X.size) (w : World) : (Instr.slice 9 (.string X) (some (.int .i64 x)) none none).run Tryz.prog w = .ok (.string (X.extract i X.size)) w := by
  subst hx
  have h6 : (i : Int) ≤ (X.size : Int) := by omega
  simp [Instr.slice, Instr.sliceBounds, Instr.sliceBound, asIntOf, run_underlying Tryz.underlying9, h2]
def FdP (va : World) (p : Nat) (s : St) (fr mn : Nat) (e : Ending) (w' : World) : Prop := ∃ v, e = .returned (.tuple #[hv p fr mn (gen (hb s fr mn)) v (fK s fr mn) (fM s fr mn), .int .i64 0]) ∧ OwnsS w' v (fT s fr mn) ∧ (∀ x, v.ownBlock = some x → va.heap.size ≤ x) ∧ Below va.heap.size va w'
set_option maxHeartbeats 4000000 in
theorem lfind_up (w va : World) (p : Nat) (F : Nat → Prop) (s : St) (fr mn : Nat) (h1 : 1 ≤ mn) (h2 : fr + mn ≤ s.n) (hd : s.down = false) (hk : Hid (Kh w)) (h : Hid (Dl w va p F s)) :
    Calls Tryz.prog 100 #[plc p fr mn] va fun e w' => FdP va p s fr mn e w' := by
  have OK := h.out.at_.1
  have hn := OK.n2
  have e2 : rdA s fr mn = .tuple #[.string (st (hb s fr mn)), .int .i64 0] := if_neg (by rw [hd]; simp)
  have RD : Hid (∀ W, Below va.heap.size va W → Calls Tryz.prog 104 #[.agg #[.pointer (some ⟨p, 0, none⟩), .int .i64 (fr : Int), .int .i64 (mn : Int)]] W fun e w' => e = .returned (.tuple #[.string (st (hb s fr mn)), .int .i64 0]) ∧ Below W.heap.size W w') := fun W hb => by
    have := lread_any w W p F s fr mn h1 h2 (h.out.later hb)
    rw [e2] at this
    exact this
  have HL : Hid ((hb s fr mn).length = 64 * mn) := hb_len OK fr mn
  have KH : Hid (∀ W, Below va.heap.size va W → Kh W) := fun W hb => hk.out.later (chain h.out.below hb)
  have GN : Hid (∀ W, Kh W → Calls Tryz.prog 129 #[.string (st (hb s fr mn))] W fun e w' => e = .returned (.int .i64 (gen (hb s fr mn) : Int)) ∧ Below W.heap.size W w') := fun W k => lgen_any _ (by rw [HL.out]; omega) W k
  have J0 : Hid (Blk (va.alloc (.cells #[.pointer (some ⟨p, 0, none⟩), .int .i64 (fr : Int), .int .i64 (mn : Int)] 128)) va.heap.size [.pointer (some ⟨p, 0, none⟩), .int .i64 (fr : Int), .int .i64 (mn : Int)]) := Blk.new va _ _ (by simp)
  have I0 : Hid (Blk ((va.alloc (.cells #[.pointer (some ⟨p, 0, none⟩), .int .i64 (fr : Int), .int .i64 (mn : Int)] 128)).alloc (.cells hz0.toArray 130)) va.heap.size [.pointer (some ⟨p, 0, none⟩), .int .i64 (fr : Int), .int .i64 (mn : Int)] ∧ Blk ((va.alloc (.cells #[.pointer (some ⟨p, 0, none⟩), .int .i64 (fr : Int), .int .i64 (mn : Int)] 128)).alloc (.cells hz0.toArray 130)) (va.heap.size + 1) hz0 ∧ Below va.heap.size va ((va.alloc (.cells #[.pointer (some ⟨p, 0, none⟩), .int .i64 (fr : Int), .int .i64 (mn : Int)] 128)).alloc (.cells hz0.toArray 130))) := ⟨J0.out.later (nb _ _), blk_two va _ hz0 _ (by simp), chain (nb _ _) (nb _ _)⟩
  have gm : mn ≤ 1024 := by omega
  have gf : fr ≤ 1024 := by omega
  unfold FdP
  have ER : Hid (∀ g, g = gen (hb s fr mn) → g ≠ 0 → fT s fr mn = scan mn ((hb s fr mn).drop 64) (hm g) ∧ fK s fr mn = tkn 1 (fT s fr mn) ∧ fM s fr mn = mks (hm g) (fT s fr mn)) := fun g e h0 => by
    subst e
    exact ⟨by rw [fT, if_neg h0]; rfl, by rw [fK, if_neg h0], by rw [fM, if_neg h0]⟩
  have EZ : Hid (gen (hb s fr mn) = 0 → fT s fr mn = [] ∧ fK s fr mn = 0 ∧ fM s fr mn = []) := fun e => ⟨by rw [fT, if_pos e], by rw [fK, if_pos e], by rw [fM, if_pos e]⟩
  obtain ⟨b, hbb⟩ : ∃ b, hb s fr mn = b := ⟨_, rfl⟩
  rw [hbb] at RD HL GN ER EZ ⊢
  obtain ⟨g, hg⟩ : ∃ g, gen b = g := ⟨_, rfl⟩
  rw [hg] at GN EZ ⊢
  have EG := ER.out g hg.symm
  have EG2 : Hid (g ≠ 0 → _) := EG
  obtain ⟨kT, hkT⟩ : ∃ kT, fT s fr mn = kT := ⟨_, rfl⟩
  obtain ⟨kK, hkK⟩ : ∃ kK, fK s fr mn = kK := ⟨_, rfl⟩
  obtain ⟨kM, hkM⟩ : ∃ kM, fM s fr mn = kM := ⟨_, rfl⟩
  rw [hkT, hkK, hkM] at EG2 EZ ⊢
  have H1 : Hid (1 ≤ mn) := h1
  clear e2 h hd h1 h2 OK J0 hk EG ER hbb hg hkT hkK hkM
  unfold plc
  go_enter Tryz.func100, Tryz.ntmps100
  go_wp2_with fail
  refine Calls.mono (RD.out _ I0.out.2.2) ?_
  rintro e w1 ⟨rfl, hb⟩
  have I1 : Hid (Blk w1 va.heap.size [.pointer (some ⟨p, 0, none⟩), .int .i64 (fr : Int), .int .i64 (mn : Int)] ∧ Blk w1 (va.heap.size + 1) hz0 ∧ Below va.heap.size va w1) := ⟨I0.out.1.later hb, I0.out.2.1.later hb, chain I0.out.2.2 hb⟩
  clear hb I0 RD
  obtain ⟨X, hX⟩ : ∃ X, st b = X := ⟨_, rfl⟩
  have HX : Hid (st b = X) := hX
  rw [hX] at GN ⊢
  clear hX
  have k0 := I1.out.1.c 0 _ rfl
  have k1 := I1.out.1.c 1 _ rfl
  have k2 := I1.out.1.c 2 _ rfl
  have IA : Hid (Blk (w1.alloc (.cells hz0.toArray 130)).drew w1.heap.size hz0 ∧ Below va.heap.size va (w1.alloc (.cells hz0.toArray 130)).drew ∧ Below w1.heap.size w1 (w1.alloc (.cells hz0.toArray 130)).drew) := ⟨(Blk.new w1 hz0 _ (by simp)).drew, (chain I1.out.2.2 (nb _ _)).drew, (nb _ _).drew⟩
  have G1 : Hid (Calls Tryz.prog 129 #[.string X] w1.drew fun e w' => e = .returned (.int .i64 (g : Int)) ∧ Below w1.heap.size w1 w') := (GN.out w1.drew (KH.out _ (I1.out.2.2.drew))).mono fun _ _ ⟨he, hb⟩ => ⟨he, chain (Below.refl _ _).drew hb⟩
  have G2 : Hid (Calls Tryz.prog 129 #[.string X] (w1.alloc (.cells hz0.toArray 130)).drew fun e w' => e = .returned (.int .i64 (g : Int)) ∧ Below w1.heap.size w1 w' ∧ Blk w' w1.heap.size hz0) := (GN.out _ (KH.out _ IA.out.2.1)).mono fun _ _ ⟨he, hb⟩ => ⟨he, chain IA.out.2.2 hb, IA.out.1.later hb⟩
  clear GN IA
  have a0 := cell_alloc (o := (.cells #[.pointer none, .int .i64 0, .int .i64 0, .int .i64 0, .slice none 0 0, .int .i64 0, .string ⟨#[]⟩] 130)) k0
  have a1 := cell_alloc (o := (.cells #[.pointer none, .int .i64 0, .int .i64 0, .int .i64 0, .slice none 0 0, .int .i64 0, .string ⟨#[]⟩] 130)) k1
  have a2 := cell_alloc (o := (.cells #[.pointer none, .int .i64 0, .int .i64 0, .int .i64 0, .slice none 0 0, .int .i64 0, .string ⟨#[]⟩] 130)) k2
  have FA : Hid (∀ w2, Below w1.heap.size w1 w2 → Hid (Fi va p fr mn g w2.heap.size (va.heap.size + 1) (.slice none 0 0) [] 0 [] (w2.alloc (.cells #[.pointer (some ⟨p, 0, none⟩), .int .i64 (fr : Int), .int .i64 (mn : Int), .int .i64 (g : Int), .slice none 0 0, .int .i64 0, .string ⟨#[]⟩] 130)))) := fun w2 hb => by
    have h1 := I1.out.2.1.lt
    have h2 := hb.size
    exact ⟨⟨Blk.new w2 (hc p fr mn g (.slice none 0 0) 0 [] []) _ (by simp), owns_nilS _, nofun⟩, (I1.out.2.1.later hb).later (nb _ _), chain (chain I1.out.2.2 hb) (nb _ _), by omega, Nat.le_succ _, by omega, nofun, nofun⟩
  have FB : Hid (∀ w2, Below w1.heap.size w1 w2 → Blk w2 w1.heap.size hz0 → Hid (Fi va p fr mn g w1.heap.size (va.heap.size + 1) (.slice none 0 0) [] 0 [] (((((((w2.setCell ⟨w1.heap.size, 0, none⟩ (.pointer (some ⟨p, 0, none⟩))).setCell ⟨w1.heap.size, 1, none⟩ (.int .i64 (fr : Int))).setCell ⟨w1.heap.size, 2, none⟩ (.int .i64 (mn : Int))).setCell ⟨w1.heap.size, 3, none⟩ (.int .i64 (g : Int))).setCell ⟨w1.heap.size, 4, none⟩ (.slice none 0 0)).setCell ⟨w1.heap.size, 5, none⟩ (.int .i64 0)).setCell ⟨w1.heap.size, 6, none⟩ (.string ⟨#[]⟩)))) := fun w2 hb bk => by
    have h1 := I1.out.2.1.lt
    have h2 := I1.out.2.2.size
    show Fi va p fr mn g w1.heap.size (va.heap.size + 1) (.slice none 0 0) [] 0 [] (w2.setCells w1.heap.size 0 (hc p fr mn g (.slice none 0 0) 0 [] []))
    exact ⟨⟨bk.put _ rfl, owns_nilS _, nofun⟩, (I1.out.2.1.later hb).same (setCells_other _ _ _ _ _ (by omega)), below_sets (by omega) _ 0 (chain I1.out.2.2 hb), h2, Nat.le_succ _, by omega, nofun, nofun⟩
  go_upto_region 4 with fail
  go_cut [6] (fun s6 wx => ∃ q, s6 = .pointer (some ⟨q, 0, none⟩) ∧ Hid (Fi va p fr mn g q (va.heap.size + 1) (.slice none 0 0) [] 0 [] wx))
  case first =>
    clear I1
    go_wp2_with fail
    go_region_with (first | (go_at_call 129; with_reducible refine Calls.mono G1.out ?_; rintro e w2 ⟨rfl, hb2⟩; have q0 := cell_later hb2 k0; have q1 := cell_later hb2 k1; have q2 := cell_later hb2 k2; have b0 := cell_alloc (o := (.cells #[.pointer none, .int .i64 0, .int .i64 0, .int .i64 0, .slice none 0 0, .int .i64 0, .string ⟨#[]⟩] 130)) q0; have b1 := cell_alloc (o := (.cells #[.pointer none, .int .i64 0, .int .i64 0, .int .i64 0, .slice none 0 0, .int .i64 0, .string ⟨#[]⟩] 130)) q1; have b2 := cell_alloc (o := (.cells #[.pointer none, .int .i64 0, .int .i64 0, .int .i64 0, .slice none 0 0, .int .i64 0, .string ⟨#[]⟩] 130)) q2) | (go_at_call 129; with_reducible refine Calls.mono G2.out ?_; rintro e w2 ⟨rfl, hb2, bk2⟩; have q0 := cell_later hb2 k0; have q1 := cell_later hb2 k1; have q2 := cell_later hb2 k2; have z0 := bk2.c 0 _ rfl; have z1 := bk2.c 1 _ rfl; have z2 := bk2.c 2 _ rfl; have z3 := bk2.c 3 _ rfl; have z4 := bk2.c 4 _ rfl; have z5 := bk2.c 5 _ rfl; have z6 := bk2.c 6 _ rfl; have zf := bk2.f))
    all_goals (go_wp2; go_meet)
    all_goals first
      | (refine ⟨w2.heap.size, rfl, ?_⟩; have FA' := FA.out w2 (by assumption); clear FA FB; with_reducible exact FA')
      | (refine ⟨w1.heap.size, rfl, ?_⟩; have FB' := FB.out w2 (by assumption) (by assumption); clear FA FB; with_reducible exact FB')
  case rest =>
    obtain ⟨q, rfl, I2⟩ := hcut
    clear I1 FA FB k0 k1 k2 a0 a1 a2 G1 G2
    have k3 := I2.out.hf.bk.c 3 _ rfl
    by_cases h0 : g = 0
    · subst h0
      have k0 := I2.out.hf.bk.c 0 _ rfl
      have k1 := I2.out.hf.bk.c 1 _ rfl
      have k2 := I2.out.hf.bk.c 2 _ rfl
      have k4 := I2.out.hf.bk.c 4 _ rfl
      have k5 := I2.out.hf.bk.c 5 _ rfl
      have k6 := I2.out.hf.bk.c 6 _ rfl
      have z0 := I2.out.bk.c 0 _ rfl
      have z1 := I2.out.bk.c 1 _ rfl
      have z2 := I2.out.bk.c 2 _ rfl
      have z3 := I2.out.bk.c 3 _ rfl
      have z4 := I2.out.bk.c 4 _ rfl
      have z5 := I2.out.bk.c 5 _ rfl
      have z6 := I2.out.bk.c 6 _ rfl
      have zf := I2.out.bk.f
      have FI : Hid _ := fi_ret I2.out
      have hne := I2.out.qc
      clear I2 EG2
      go_wp2
      refine bodyPost_ret (v := .tuple #[hv p fr mn 0 (.slice none 0 0) 0 [], .int .i64 0]) ?_ rfl ⟨.slice none 0 0, ?_, ?_, nofun, FI.out.2.1⟩
      · exact res_c2 Tryz.results100 _ _ (va.heap.size + 1) _ _ (by kernel_rfl) (by kernel_rfl) (run_loadVar_mid _ (va.heap.size + 1) 0 130 (hc p fr mn 0 (.slice none 0 0) 0 [] []) _ FI.out.1.r Tryz.underlying130 rfl (by kernel_rfl))
      · obtain ⟨-, rfl, rfl⟩ := EZ.out (by first | rfl | trivial)
        rfl
      · obtain ⟨rfl, -, -⟩ := EZ.out (by first | rfl | trivial)
        exact FI.out.2.2
    · have hg0 : ¬ (g : Int) = 0 := by omega
      have C1 : Hid _ := lgoOn_any q p fr mn g (.slice none 0 0) [] 0 [] [] wc (KH.out wc I2.out.bl) I2.out.hf
      have EG := EG2.out h0
      have HT : Hid (kT = scan mn (b.drop 64) (hm g)) := EG.1
      have HKM : Hid (kK = tkn 1 kT ∧ kM = mks (hm g) kT) := EG.2
      clear EG EG2 EZ
      go_wp2_with fail
      refine Calls.mono C1.out ?_
      rintro e w3 ⟨rfl, h3, hb3⟩
      have I3 : Hid (Fi va p fr mn g q (va.heap.size + 1) (.slice none 0 0) [] 1 (hm g) w3) := I2.out.half h3 (hb3.wide fun x e => .inl e) (Nx.refl _ _)
      clear h3 hb3 I2 C1 k3
      go_wp2
      go_loopw [] (fun wr => ∃ (v : Value) (ts : List Bs), Hid (Fi va p fr mn g q (va.heap.size + 1) v ts (tkn 1 ts) (mks (hm g) ts) wr ∧ kT = ts ++ scan (mn - ts.length) (b.drop (64 * tkn 1 ts)) (mks (hm g) ts) ∧ tkn 1 ts ≤ mn)) (fun wr => toFind q mn wr)
      case atStart => exact ⟨.slice none 0 0, [], I3.out, HT.out, H1.out⟩
      case round =>
        obtain ⟨v, ts, I⟩ := hrel
        clear I3
        obtain ⟨tk, htk⟩ : ∃ tk, tkn 1 ts = tk := ⟨_, rfl⟩
        obtain ⟨m, hmm⟩ : ∃ m, mks (hm g) ts = m := ⟨_, rfl⟩
        have hm16 : m.length = 16 := by rw [← hmm]; exact mks_len ts _ rfl
        have hln := tkn_ge_len ts
        have hla := tkn_app ts 1
        have hma := mks_app ts (hm g)
        rw [htk] at I hln hla
        rw [hmm] at I hma
        have hts : ts.length < mn := by have := I.out.2.2; omega
        have htm : tk ≤ mn := I.out.2.2
        have HLA : Hid (∀ t, tkn 1 (ts ++ [t]) = tk + sn t) := hla
        have HMA : Hid (∀ t, mks (hm g) (ts ++ [t]) = rmk m t) := hma
        have HTK : Hid (tkn 1 ts = tk ∧ mks (hm g) ts = m) := ⟨htk, hmm⟩
        have HXS : Hid (X.size = 64 * mn) := by
          show X.size = _
          rw [← HX.out, st_size, HL.out]
        have RC : Hid (∀ W, Kh W → Calls Tryz.prog 131 #[.string (st (b.drop (64 * tk))), .string (st m)] W fun e w' => e = .returned (rofV (b.drop (64 * tk)) m) ∧ Below W.heap.size W w') := fun W k => lrecordOf_any (b.drop (64 * tk)) m hm16 W k
        have SLI : ∀ W, (Instr.slice 9 (.string X) (some (.int .i64 ((tk : Int) * 64))) none none).run Tryz.prog W = .ok (.string (st (b.drop (64 * tk)))) W := fun W => by
          have e1 : X.extract (64 * tk) X.size = st (b.drop (64 * tk)) := by
            rw [HXS.out, ← HX.out, st_cut, List.take_of_length_le (by rw [HL.out]; omega)]
          rw [← e1]
          exact cut_from X (64 * tk) _ (by omega) (by rw [HXS.out]; omega) W
        have y1 : IntKind.i64.wrap ((tk : Int) * 64) = (tk : Int) * 64 := by rw [IntKind.wrap_i64]; omega
        obtain ⟨R1, R2, ok, hR⟩ : ∃ R1 R2 ok, rofV (b.drop (64 * tk)) m = .tuple #[.agg #[.string R1, .string R2], .bool ok] := by
          unfold rofV
          split
          · exact ⟨_, _, _, rfl⟩
          · exact ⟨_, _, _, rfl⟩
        rw [hR] at RC
        have HR : Hid (rofV (b.drop (64 * tk)) m = .tuple #[.agg #[.string R1, .string R2], .bool ok]) := hR
        have IM : Hid (toFind q mn wr = mn - tk) := toFind_hf I.out.1.hf
        clear htk hmm hln hla hma hR HX
        have k5 := I.out.1.hf.bk.c 5 _ rfl
        have k6 := I.out.1.hf.bk.c 6 _ rfl
        unfold sv at k6
        obtain ⟨A, hA⟩ : ∃ A, st m = A := ⟨_, rfl⟩
        obtain ⟨Y, hY⟩ : ∃ Y, st (b.drop (64 * tk)) = Y := ⟨_, rfl⟩
        rw [hA] at RC k6
        rw [hY] at RC SLI
        clear hA hY
        have IA : Hid (Blk (wr.alloc (.cells #[.string ⟨#[]⟩, .string ⟨#[]⟩] 176)).drew wr.heap.size [.string ⟨#[]⟩, .string ⟨#[]⟩] ∧ Below wr.heap.size wr (wr.alloc (.cells #[.string ⟨#[]⟩, .string ⟨#[]⟩] 176)).drew) := ⟨(Blk.new wr _ _ (by simp)).drew, (nb _ _).drew⟩
        have G1 : Hid (Calls Tryz.prog 131 #[.string Y, .string A] wr.drew fun e w' => e = .returned (.tuple #[.agg #[.string R1, .string R2], .bool ok]) ∧ Below wr.heap.size wr w') := (RC.out wr.drew (KH.out _ (I.out.1.bl.drew))).mono fun _ _ ⟨he, hb⟩ => ⟨he, chain (Below.refl _ _).drew hb⟩
        have G2 : Hid (Calls Tryz.prog 131 #[.string Y, .string A] (wr.alloc (.cells #[.string ⟨#[]⟩, .string ⟨#[]⟩] 176)).drew fun e w' => e = .returned (.tuple #[.agg #[.string R1, .string R2], .bool ok]) ∧ Below wr.heap.size wr w' ∧ Blk w' wr.heap.size [.string ⟨#[]⟩, .string ⟨#[]⟩]) := (RC.out _ (KH.out _ (chain I.out.1.bl IA.out.2))).mono fun _ _ ⟨he, hb⟩ => ⟨he, chain IA.out.2 hb, IA.out.1.later hb⟩
        have a5 := cell_alloc (o := (.cells #[.string ⟨#[]⟩, .string ⟨#[]⟩] 176)) k5
        have a6 := cell_alloc (o := (.cells #[.string ⟨#[]⟩, .string ⟨#[]⟩] 176)) k6
        have FA : Hid (∀ w2, Below wr.heap.size wr w2 → Hid (Fi va p fr mn g q (va.heap.size + 1) v ts tk m (w2.alloc (.cells #[.string R1, .string R2] 176)) ∧ Blk (w2.alloc (.cells #[.string R1, .string R2] 176)) w2.heap.size [.string R1, .string R2])) := fun w2 hb => ⟨(I.out.1.later hb).later (nb _ _), Blk.new w2 [.string R1, .string R2] _ (by simp)⟩
        have FB : Hid (∀ w2, Below wr.heap.size wr w2 → Blk w2 wr.heap.size [.string ⟨#[]⟩, .string ⟨#[]⟩] → Hid (Fi va p fr mn g q (va.heap.size + 1) v ts tk m ((w2.setCell ⟨wr.heap.size, 0, none⟩ (.string R1)).setCell ⟨wr.heap.size, 1, none⟩ (.string R2)) ∧ Blk ((w2.setCell ⟨wr.heap.size, 0, none⟩ (.string R1)).setCell ⟨wr.heap.size, 1, none⟩ (.string R2)) wr.heap.size [.string R1, .string R2])) := fun w2 hb bk =>
          ⟨I.out.1.later (below_sets (Nat.le_refl _) [.string R1, .string R2] 0 hb), bk.put [.string R1, .string R2] rfl⟩
        clear IA RC
        go_upto_region 8 with fail
        go_cut [7, 8] (fun s7 s8 wx => ∃ B, s7 = .pointer (some ⟨B, 0, none⟩) ∧ s8 = .bool ok ∧ Hid (Fi va p fr mn g q (va.heap.size + 1) v ts tk m wx ∧ Blk wx B [.string R1, .string R2]))
        case first =>
          clear I
          go_wp2_with fail
          go_region_with (first | (go_at_call 131; with_reducible refine Calls.mono G1.out ?_; rintro e w2 ⟨rfl, hb2⟩; have q5 := cell_later hb2 k5; have q6 := cell_later hb2 k6; have b5 := cell_alloc (o := (.cells #[.string ⟨#[]⟩, .string ⟨#[]⟩] 176)) q5; have b6 := cell_alloc (o := (.cells #[.string ⟨#[]⟩, .string ⟨#[]⟩] 176)) q6) | (go_at_call 131; with_reducible refine Calls.mono G2.out ?_; rintro e w2 ⟨rfl, hb2, bk2⟩; have q5 := cell_later hb2 k5; have q6 := cell_later hb2 k6; have z0 := bk2.c 0 _ rfl; have z1 := bk2.c 1 _ rfl; have zf := bk2.f))
          all_goals (go_wp2; go_meet)
          all_goals first
            | (refine ⟨w2.heap.size, rfl, rfl, ?_⟩; have FA' := FA.out w2 (by assumption); clear FA FB; with_reducible exact FA')
            | (refine ⟨wr.heap.size, rfl, rfl, ?_⟩; have FB' := FB.out w2 (by assumption) (by assumption); clear FA FB; with_reducible exact FB')
        case rest =>
          obtain ⟨B, rfl, rfl, J⟩ := hcut
          obtain ⟨xa, xn, xc, rfl⟩ := owns_sliceS J.out.1.hf.row
          have IK : Hid (kT = ts ++ scan (mn - ts.length) (b.drop (64 * tk)) m) := I.out.2.1
          clear I FA FB G1 G2 a5 a6 k5 k6 SLI y1
          have HR' := HR.out
          unfold rofV at HR'
          cases hro : rof (b.drop (64 * tk)) m with
          | none =>
            rw [hro] at HR'
            injection HR' with HR'
            injection HR' with HR'
            injection HR' with e1 e2
            injection e2 with e2 e3
            injection e2 with e2
            subst e2
            have EK : Hid (kT = ts ∧ kK = tk ∧ kM = m) := by
              have h1 : kT = ts := by rw [IK.out, scan_none hro, List.append_nil]
              exact ⟨h1, by rw [HKM.out.1, h1]; exact HTK.out.1, by rw [HKM.out.2, h1]; exact HTK.out.2⟩
            have k0 := J.out.1.hf.bk.c 0 _ rfl
            have k1 := J.out.1.hf.bk.c 1 _ rfl
            have k2 := J.out.1.hf.bk.c 2 _ rfl
            have k3 := J.out.1.hf.bk.c 3 _ rfl
            have k4 := J.out.1.hf.bk.c 4 _ rfl
            have k5 := J.out.1.hf.bk.c 5 _ rfl
            have k6 := J.out.1.hf.bk.c 6 _ rfl
            have z0 := J.out.1.bk.c 0 _ rfl
            have z1 := J.out.1.bk.c 1 _ rfl
            have z2 := J.out.1.bk.c 2 _ rfl
            have z3 := J.out.1.bk.c 3 _ rfl
            have z4 := J.out.1.bk.c 4 _ rfl
            have z5 := J.out.1.bk.c 5 _ rfl
            have z6 := J.out.1.bk.c 6 _ rfl
            have zf := J.out.1.bk.f
            have FI : Hid _ := fi_ret J.out.1
            have NV : Hid _ := J.out.1.nv
            have hne := J.out.1.qc
            clear J HR e1 e3 IK hro
            go_wp2
            refine bodyPost_ret (v := .tuple #[hv p fr mn g (.slice xa xn xc) tk m, .int .i64 0]) ?_ rfl ⟨.slice xa xn xc, ?_, ?_, NV.out, FI.out.2.1⟩
            · exact res_c2 Tryz.results100 _ _ (va.heap.size + 1) _ _ (by kernel_rfl) (by kernel_rfl) (run_loadVar_mid _ (va.heap.size + 1) 0 130 (hc p fr mn g (.slice xa xn xc) tk m []) _ FI.out.1.r Tryz.underlying130 rfl (by kernel_rfl))
            · obtain ⟨-, rfl, rfl⟩ := EK.out
              rfl
            · obtain ⟨rfl, -, -⟩ := EK.out
              exact FI.out.2.2
          | some t =>
            rw [hro] at HR'
            injection HR' with HR'
            injection HR' with HR'
            injection HR' with e1 e2
            injection e2 with e2 e3
            injection e2 with e2
            subst e2
            injection e1 with e1
            injection e1 with e1
            injection e1 with e1 e4
            injection e4 with e4 e5
            injection e1 with e1
            injection e4 with e4
            have hrl := rof_le hro
            have hdl : 64 * sn t ≤ 64 * mn - 64 * tk := by
              have := hrl.1
              rw [List.length_drop, HL.out] at this
              exact this
            have HS : Hid _ := lhas_any q p fr mn g (.slice xa xn xc) ts tk m [] (rmk m t) t hrl.2.2 (by omega) (by omega) wc J.out.1.hf
            unfold rv sv at HS
            rw [e1, e4] at HS
            have r0 := J.out.2.c 0 _ rfl
            have r1 := J.out.2.c 1 _ rfl
            have EK : Hid (kT = (ts ++ [t]) ++ scan (mn - (ts ++ [t]).length) (b.drop (64 * (tk + sn t))) (rmk m t)) := by
              show kT = _
              rw [IK.out, scan_some (by omega) hro, List.length_append, List.length_singleton, List.drop_drop, show 64 * tk + 64 * sn t = 64 * (tk + sn t) by omega, show mn - ts.length - 1 = mn - (ts.length + 1) by omega, List.append_assoc, List.singleton_append]
            have MS : Hid (toFind q mn wr = mn - tk) := IM.out
            clear HR e1 e4 e3 e5 IK hro hrl
            have hsn := sn_pos t
            go_wp2_with fail
            refine Calls.mono HS.out ?_
            rintro e w5 ⟨rfl, v5, h5, hb5, hx5⟩
            have I5 : Hid (Fi va p fr mn g q (va.heap.size + 1) v5 (ts ++ [t]) (tk + sn t) (rmk m t) w5) := J.out.1.half h5 hb5 hx5
            have M5 : Hid (toFind q mn w5 = mn - (tk + sn t)) := toFind_hf h5
            clear h5 hb5 hx5 HS J r0 r1
            go_wp2
            go_roundw
            case rel => exact ⟨v5, ts ++ [t], by rw [HLA.out, HMA.out]; exact ⟨I5.out, EK.out, by omega⟩⟩
            case measure => rw [MS.out, M5.out]; omega
end Go.Proofs.YtjpaodepnacimaaGreatDoor
