/- A log that is there is opened. -/
import Derived.Test.YtdcimnmebgkmjaaDoorLgY
namespace Go.Proofs.YtdcimnmebgkmjaaDoor
open Go.RowKit Go.Proofs.Fd Go.Proofs.Dk Go.Proofs.Lg
set_option maxRecDepth 20000

theorem scan_le2 : ∀ (m d : Nat) (b a : Bs) (k : Nat), b.length = 64 * d → tkn k (scan m b a) ≤ k + d
  | 0, _, _, _, _, _ => Nat.le_add_right _ _
  | m + 1, d, b, a, k, hb => by
    rw [scan]
    split
    · exact Nat.le_add_right _ _
    · rename_i t ht
      have hl := rof_le ht
      rw [tkn]
      have := scan_le2 m (d - sn t) (b.drop (64 * sn t)) (rmk a t) (k + sn t) (by rw [List.length_drop]; omega)
      omega
theorem recs_fit {s : St} (h : Ok s) (k H g : Nat) (hH : 1 ≤ H) : tkn 1 (recs s k H g) ≤ H := by
  have := scan_le2 H (H - 1) ((hb s k H).drop 64) (hm g) 1 (by rw [List.length_drop, hb_len h]; omega)
  unfold recs
  omega
set_option maxHeartbeats 4000000 in
theorem lopen_old (w va : World) (p : Nat) (F : Nat → Prop) (s : St) (hn : 2 ≤ s.n / 2) (hd : s.down = false) (hu : (use s).2 ≠ 0) (hl : s.l.length + 2000 ≤ 1000000) (hk : Hid (Kh w)) (h : Hid (Dl w va p F s)) :
    Calls Tryd.prog 9 #[.pointer (some ⟨p, 0, none⟩)] va fun e w' => OpP w va p F (s.n / 2) (cln s ((use s).1 * (s.n / 2) + tkn 1 (recs s ((use s).1 * (s.n / 2)) (s.n / 2) (use s).2)) (s.n / 2 - tkn 1 (recs s ((use s).1 * (s.n / 2)) (s.n / 2) (use s).2))) ⟨(use s).1, (use s).2, recs s ((use s).1 * (s.n / 2)) (s.n / 2) (use s).2⟩ e w' := by
  have SZ : Hid _ := size_any p F s va h.out.at_
  have hn2 := h.out.at_.1.n2
  have HN : Hid (2 * (s.n / 2) ≤ s.n) := (show 2 * (s.n / 2) ≤ s.n by omega)
  have RF := recs_fit h.out.at_.1 ((use s).1 * (s.n / 2)) (s.n / 2) (use s).2 (by omega)
  have HU : us s (s.n / 2) 2 = some ((use s).1 * (s.n / 2)) ∧ gen (hb s ((use s).1 * (s.n / 2)) (s.n / 2)) = (use s).2 ∧ (use s).1 ≤ 1 := by
    rcases us_use s with ⟨-, e⟩ | ⟨e, -, e2, e3⟩
    · exact absurd e hu
    · exact ⟨e, e2, e3⟩
  obtain ⟨mn, hmn⟩ : ∃ mn, s.n / 2 = mn := ⟨_, rfl⟩
  obtain ⟨hh, hhh⟩ : ∃ hh, (use s).1 = hh := ⟨_, rfl⟩
  obtain ⟨g, hg⟩ : ∃ g, (use s).2 = g := ⟨_, rfl⟩
  rw [hmn, hhh, hg] at HU
  rw [hmn, hhh, hg] at RF
  rw [hmn] at HN hn
  rw [hmn, hhh, hg]
  rw [hg] at hu
  obtain ⟨fr, hfr⟩ : ∃ fr, hh * mn = fr := ⟨_, rfl⟩
  rw [hfr] at HU RF ⊢
  have h2 : fr + mn ≤ s.n := by
    have := HN.out
    rcases (by have := HU.2.2; omega : hh = 0 ∨ hh = 1) with rfl | rfl
    · rw [Nat.zero_mul] at hfr
      omega
    · rw [Nat.one_mul] at hfr
      omega
  have eT : fT s fr mn = recs s fr mn g := by rw [fT, HU.2.1, if_neg hu]
  have eK : fK s fr mn = tkn 1 (recs s fr mn g) := by rw [fK, HU.2.1, if_neg hu, eT]
  have eM : fM s fr mn = mks (hm g) (recs s fr mn g) := by rw [fM, HU.2.1, if_neg hu, eT]
  obtain ⟨tl, htl⟩ : ∃ tl, recs s fr mn g = tl := ⟨_, rfl⟩
  obtain ⟨tk, htk⟩ : ∃ tk, tkn 1 tl = tk := ⟨_, rfl⟩
  obtain ⟨m, hmm⟩ : ∃ m, mks (hm g) tl = m := ⟨_, rfl⟩
  rw [htl] at eT eK eM RF ⊢
  rw [htk] at eK RF ⊢
  rw [hmm] at eM
  have IU : Hid (∀ V P, Below va.heap.size va V → Blk V P (pl6 p mn) → Calls Tryd.prog 29 #[.slice (some ⟨P, 0, none⟩) 2 2] V fun e w' => ∃ xa xn xc, e = .returned (.tuple #[.agg #[.pointer (some ⟨p, 0, none⟩), .int .i64 (fr : Int), .int .i64 (mn : Int), .int .i64 (g : Int), .slice xa xn xc, .int .i64 (tk : Int), .string (st m)], .int .i64 0]) ∧ OwnsS w' (.slice xa xn xc) tl ∧ (∀ y, (Value.slice xa xn xc).ownBlock = some y → V.heap.size ≤ y) ∧ Below V.heap.size V w') := fun V P hbv bk =>
    (linUse_up w V p F s mn P (by omega) HN.out hd hk (h.out.later hbv) bk).mono fun _ _ ⟨v, he, r, nv, hbl⟩ => by
      rw [HU.1] at he r
      have r' : OwnsS _ v (fT s fr mn) := r
      rw [eT] at r'
      obtain ⟨xa, xn, xc, rfl⟩ := owns_sliceS r'
      refine ⟨xa, xn, xc, ?_, r', nv, hbl⟩
      rw [he]
      show Ending.returned (.tuple #[.agg (hc p fr mn (gen (hb s fr mn)) (.slice xa xn xc) (fK s fr mn) (fM s fr mn) []).toArray, _]) = _
      rw [HU.2.1, eK, eM]
      rfl
  have OT : Hid (∀ w, Calls Tryd.prog 30 #[.agg #[.pointer (some ⟨p, 0, none⟩), .int .i64 0, .int .i64 (mn : Int)]] w fun e w' => e = .returned (.agg #[.pointer (some ⟨p, 0, none⟩), .int .i64 (mn : Int), .int .i64 (mn : Int)]) ∧ Below w.heap.size w w') := fun w => lother_any w p 0 mn (Nat.zero_le _) (by omega)
  have HW : Hid (Below va.heap.size va (va.alloc (.cells #[.pointer (some ⟨p, 0, none⟩), .int .i64 0, .int .i64 (mn : Int)] 55)) ∧ Blk (va.alloc (.cells #[.pointer (some ⟨p, 0, none⟩), .int .i64 0, .int .i64 (mn : Int)] 55)) va.heap.size [.pointer (some ⟨p, 0, none⟩), .int .i64 0, .int .i64 (mn : Int)] ∧ va.heap.size ≤ va.heap.size) := ⟨nb _ _, Blk.new va _ _ (by simp), Nat.le_refl _⟩
  have HWV : Hid (w.heap.size ≤ va.heap.size) := h.out.below.size
  have NFF : Hid (∀ x, F x → x < va.heap.size) := fun x c => h.out.at_.lt c
  have CL : Hid (∀ V H xa xn xc, Oi va p mn (some ⟨p, 0, none⟩) (fr : Int) (mn : Int) (g : Int) (tk : Int) (st m) tl va.heap.size H xa xn xc V → HD w V p F s H fr mn g (.slice xa xn xc) tl tk m [] ∧ Calls Tryd.prog 32 #[.pointer (some ⟨H, 0, none⟩)] V fun e w' => e = .returned (.int .i64 (cln s (fr + tk) (mn - tk)).1) ∧ Ds w V p F (cln s (fr + tk) (mn - tk)).2 w') := fun V H xa xn xc I => by
    have hd1 : HD w V p F s H fr mn g (.slice xa xn xc) tl tk m [] := by
      refine ⟨h.out.later I.bl, ⟨I.bk, I.row, I.vH⟩, fun x e => ?_⟩
      have hx : va.heap.size ≤ x := by
        rcases e with e | e
        · rw [e]; exact I.nH
        · exact I.nv x e
      exact ⟨fun c => by have := NFF.out x c; omega, Nat.le_trans HWV.out hx⟩
    exact ⟨hd1, lclean_any w V p F s H fr mn g (.slice xa xn xc) tl tk m [] (by omega) h2 RF (by omega) hd1⟩
  have EX : Hid (∀ z, OpP w va p F mn z ⟨hh, g, tl⟩ = OpP w va p F mn z ⟨hh, g, tl⟩) := fun _ => rfl
  have HFR : Hid (hh * mn = fr ∧ tkn 1 tl = tk ∧ mks (hm g) tl = m) := ⟨hfr, htk, hmm⟩
  obtain ⟨y, hy⟩ : ∃ y, cln s (fr + tk) (mn - tk) = y := ⟨_, rfl⟩
  rw [hy] at CL ⊢
  have gg : ¬ (g : Int) = 0 := by omega
  obtain ⟨n, hnn⟩ : ∃ n, s.n = n := ⟨_, rfl⟩
  rw [hnn] at SZ hmn hn2
  have y1 : (n : Int) / 2 = (mn : Int) := by omega
  have y2 : IntKind.i64.wrap (mn : Int) = (mn : Int) := by rw [IntKind.wrap_i64]; omega
  have y3 : ¬ (mn : Int) < 2 := by omega
  clear h hnn hmn hd hn HN HU hy hu hl hk hhh hg hfr htl htk hmm eT eK eM RF h2 EX
  go_enter Tryd.func9, Tryd.ntmps9
  go_wp2_with fail
  refine Calls.mono SZ.out ?_
  rintro e w1 ⟨rfl, rfl⟩
  go_upto_region 7 with fail
  refine open_region p mn (some ⟨p, 0, none⟩) (fr : Int) (mn : Int) (g : Int) (tk : Int) (st m) tl 0 w1 _ w1.heap.size HW OT IU _ _ _ _ _ _ _ _ _ _ _ ?_
  intro H xa xn xc wx u18 u19 u20 u21 u22 u23 u24 u25 I
  have J : Hid _ := I
  have k3 := I.bk.c 3 _ rfl
  have CC := CL.out wx H xa xn xc I
  have HH : Hid _ := CC.1
  have CD : Hid _ := CC.2
  clear I IU OT HW SZ CL CC
  go_wp2_with fail
  refine Calls.mono CD.out ?_
  rintro e w2 ⟨rfl, F2, d1, d2, d3⟩
  have K2 : Hid (HD w w2 p F2 y.2 H fr mn g (.slice xa xn xc) tl tk m []) := HH.out.disk d1 d2 d3
  have BF : Hid (Bf F w1 w2 ∧ Nx w1 F F2) := ⟨(Bf.of (F := F) J.out.bl).trans (Nx.refl _ _) d3, (Nx.refl w1 F).trans d2 J.out.bl.size⟩
  have NV : Hid _ := J.out.nv
  clear d1 d2 d3 J HH CD k3
  obtain ⟨x, hx⟩ : ∃ x, y.1 = x := ⟨_, rfl⟩
  have HX : Hid (y.1 = x) := hx
  rw [hx]
  clear hx
  by_cases h0 : x = 0
  · subst h0
    have k0 := K2.out.hf.bk.c 0 _ rfl
    have k1 := K2.out.hf.bk.c 1 _ rfl
    have k2 := K2.out.hf.bk.c 2 _ rfl
    have k3 := K2.out.hf.bk.c 3 _ rfl
    have k4 := K2.out.hf.bk.c 4 _ rfl
    have k5 := K2.out.hf.bk.c 5 _ rfl
    have k6 := K2.out.hf.bk.c 6 _ rfl
    have FF : Hid (OpP w w1 p F mn y ⟨hh, g, tl⟩ (.returned (.tuple #[.pointer (some ⟨w2.heap.size, 0, none⟩), .int .i64 0])) (w2.alloc (.cells #[.pointer (some ⟨p, 0, none⟩), .int .i64 (fr : Int), .int .i64 (mn : Int), .int .i64 (g : Int), .slice xa xn xc, .int .i64 (tk : Int), .string (st m)] 63))) := by
      have hb := box_log (va := w1) (fr := fr) (mn := mn) (g := g) (tk := tk) (m := m) 63 K2.out.dl K2.out.hf.row (fun z e => ⟨NV.out z e, (K2.out.ap z (.inr e)).1⟩) HWV.out BF.out.1.size
      refine ⟨F2, hb.1.dl, BF.out.2, BF.out.1.later (nb _ _), .inl ⟨HX.out, w2.heap.size, .slice xa xn xc, rfl, ?_, hb.2⟩⟩
      have e8 : (⟨hh, g, tl⟩ : Lo).h * mn = fr := HFR.out.1
      have e9 : (⟨hh, g, tl⟩ : Lo).tk = tk := HFR.out.2.1
      have e10 : (⟨hh, g, tl⟩ : Lo).mr = m := HFR.out.2.2
      rw [e8, e9, e10]
      exact hb.1
    unfold sv at k6
    clear K2 BF NV HX
    go_wp2
    go_ret2
    exact FF.out
  · have FF : Hid (OpP w w1 p F mn y ⟨hh, g, tl⟩ (.returned (.tuple #[.pointer none, .int .i64 x])) w2) := ⟨F2, K2.out.dl, BF.out.2, BF.out.1, .inr ⟨by rw [HX.out]; exact h0, by rw [HX.out]⟩⟩
    clear K2 BF NV HX
    go_wp2
    go_ret2
    exact FF.out
/-- Open, on a disk that has room for a log. -/
theorem lopen_any (w va : World) (p : Nat) (F : Nat → Prop) (s : St) (hn : 2 ≤ s.n / 2) (hl : s.l.length + 2000 ≤ 1000000) (hk : Hid (Kh w)) (h : Hid (Dl w va p F s)) :
    Calls Tryd.prog 9 #[.pointer (some ⟨p, 0, none⟩)] va fun e w' => OpP w va p F (s.n / 2) (opn s).1 (opn s).2 e w' := by
  unfold opn
  rw [if_neg (by omega)]
  by_cases hd : s.down = true
  · rw [if_pos hd]
    exact (lopen_down w va p F s hn hd h).mono fun _ _ ⟨he, hb⟩ => ⟨F, h.out.later hb, Nx.refl _ _, Bf.of hb, .inr ⟨by show (150 : Int) ≠ 0; decide, he⟩⟩
  · rw [if_neg hd]
    by_cases hu : (use s).2 = 0
    · rw [if_pos hu]
      exact lopen_new w va p F s hn (by simpa using hd) hu hl hk h
    · rw [if_neg hu]
      exact lopen_old w va p F s hn (by simpa using hd) hu hl hk h
end Go.Proofs.YtdcimnmebgkmjaaDoor
