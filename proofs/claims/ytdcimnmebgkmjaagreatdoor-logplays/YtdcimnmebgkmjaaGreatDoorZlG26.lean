/- Parts: LgE, LgJ, LrB. -/
import Derived.Test.YtdcimnmebgkmjaaGreatDoorZlG25
import Derived.Test.YtdcimnmebgkmjaaGreatDoorZlG19
namespace Go.Proofs.YtdcimnmebgkmjaaGreatDoor
open Go.RowKit Go.Proofs.Fd Go.Proofs.Dk Go.Proofs.Lg
set_option maxRecDepth 20000
theorem keepE {wa wb : World} {q : Nat} {x0 x1 x2 x3 : Value} (hb : Below wa.heap.size wa wb) (h : wa.cell? ⟨q, 0, none⟩ = some x0 ∧ wa.cell? ⟨q, 1, none⟩ = some x1 ∧ wa.cell? ⟨q, 2, none⟩ = some x2 ∧ wa.cell? ⟨q, 3, none⟩ = some x3) :
    wb.cell? ⟨q, 0, none⟩ = some x0 ∧ wb.cell? ⟨q, 1, none⟩ = some x1 ∧ wb.cell? ⟨q, 2, none⟩ = some x2 ∧ wb.cell? ⟨q, 3, none⟩ = some x3 := ⟨cell_later hb h.1, cell_later hb h.2.1, cell_later hb h.2.2.1, cell_later hb h.2.2.2⟩
theorem keepEd {w wa wb : World} {p : Nat} {F : Nat → Prop} {s : St} {q : Nat} {x0 x1 x2 x3 : Value} (hq : ¬ F q) (hd : Ds w wa p F s wb) (h : wa.cell? ⟨q, 0, none⟩ = some x0 ∧ wa.cell? ⟨q, 1, none⟩ = some x1 ∧ wa.cell? ⟨q, 2, none⟩ = some x2 ∧ wa.cell? ⟨q, 3, none⟩ = some x3) :
    wb.cell? ⟨q, 0, none⟩ = some x0 ∧ wb.cell? ⟨q, 1, none⟩ = some x1 ∧ wb.cell? ⟨q, 2, none⟩ = some x2 ∧ wb.cell? ⟨q, 3, none⟩ = some x3 := by
  obtain ⟨F', -, -, hb⟩ := hd
  exact ⟨hb.cell h.1 hq, hb.cell h.2.1 hq, hb.cell h.2.2.1 hq, hb.cell h.2.2.2 hq⟩
set_option maxHeartbeats 2000000 in
theorem lcrown_any (w va : World) (p : Nat) (F : Nat → Prop) (s : St) (q fr mn g : Nat) (v : Value) (ts : List Bs) (tk : Nat) (m : Bs) (more : List Value) (hz : fr ≤ 4000) (hl : s.l.length + 1 ≤ 1000000) (hk : Hid (Kh w)) (h : Hid (HD w va p F s q fr mn g v ts tk m more)) :
    Calls Tryz.prog 93 #[.pointer (some ⟨q, 0, none⟩)] va fun e w' => e = .returned (.int .i64 (wrb s fr (hd g)).1) ∧ Ds w va p F (wrb s fr (hd g)).2 w' := by
  have HH : Hid (∀ W, Kh W → Calls Tryz.prog 117 #[.int .i64 (g : Int)] W fun e w' => e = .returned (.string (st (hd g))) ∧ Below W.heap.size W w') := fun W k => lhead_any g W k
  have WR : Hid (∀ W, Dl w W p F s → Calls Tryz.prog 96 #[.agg #[.pointer (some ⟨p, 0, none⟩), .int .i64 (fr : Int), .int .i64 (mn : Int)], .int .i64 0, .string (st (hd g))] W fun e w' => e = .returned (.int .i64 (wrb s fr (hd g)).1) ∧ Ds w W p F (wrb s fr (hd g)).2 w') := fun W k => lwrite_any w W p F s fr 0 mn (hd g) 1 (hd_len g) (by decide) (by omega) (by omega) k
  have c0 := h.out.hf.bk.c 0 _ rfl
  have c1 := h.out.hf.bk.c 1 _ rfl
  have c2 := h.out.hf.bk.c 2 _ rfl
  have c3 := h.out.hf.bk.c 3 _ rfl
  have NQ : Hid (¬ F q) := (h.out.ap q (.inl rfl)).1
  have KK : Hid (∀ W, Below va.drew.heap.size va.drew W → Dl w W p F s) := fun W hb => (h.out.dl.later (Below.refl _ _).drew).later hb
  have KD : Hid (Kh va.drew) := hk.out.later (h.out.dl.below.drew)
  have HF : Hid (∀ W W', Below va.drew.heap.size va.drew W → Ds w W p F (wrb s fr (hd g)).2 W' → Ds w va p F (wrb s fr (hd g)).2 W') := fun W W' hb ⟨F', k1, k2, k3⟩ => by
    have b0 : Below va.heap.size va W := chain (Below.refl _ _).drew hb
    exact ⟨F', k1, (Nx.refl va F).trans k2 b0.size, (Bf.of b0).trans (Nx.refl _ _) k3⟩
  obtain ⟨y, hy⟩ : ∃ y, wrb s fr (hd g) = y := ⟨_, rfl⟩
  obtain ⟨x, hx⟩ : ∃ x, y.1 = x := ⟨_, rfl⟩
  rw [hy] at WR HF ⊢
  rw [hx] at WR ⊢
  obtain ⟨X, hX⟩ : ∃ X, st (hd g) = X := ⟨_, rfl⟩
  rw [hX] at HH WR
  clear hy hx hX h hk hl
  go_enter Tryz.func93, Tryz.ntmps93
  go_wp2_with fail
  go_region_held3 (fun w' => w'.cell? ⟨q, 0, none⟩ = some (.pointer (some ⟨p, 0, none⟩)) ∧ w'.cell? ⟨q, 1, none⟩ = some (.int .i64 (fr : Int)) ∧ w'.cell? ⟨q, 2, none⟩ = some (.int .i64 (mn : Int)) ∧ w'.cell? ⟨q, 3, none⟩ = some (.int .i64 (g : Int))) (first | exact ⟨c0, c1, c2, c3⟩ | assumption | exact keepE (by assumption) (by assumption) | exact keepEd NQ.out (by assumption) (by assumption)) (first | (go_at_call 117; refine Calls.mono (HH.out _ KD.out) ?_; rintro e w3 ⟨rfl, hb3⟩) | (go_at_call 96; refine Calls.mono (WR.out _ (KK.out _ (by assumption))) ?_; rintro e w4 ⟨rfl, hd4⟩))
  have FF : Hid (Ds w va p F y.2 w4) := HF.out w3 w4 hb3 hd4
  clear hd4 hb3 KK KD HF WR HH
  go_wp2
  go_ret
  exact ⟨rfl, FF.out⟩
theorem cls_len : ∀ (m : Nat) (s : St) (k : Nat) (d : Bool), (cls s k m d).2.l.length ≤ s.l.length + m
  | 0, s, k, d => by
    rw [cls]
    split
    · show (syS s).l.length ≤ _
      unfold syS
      split
      · omega
      · split
        · show s.l.length ≤ _
          omega
        · exact Nat.zero_le _
    · exact Nat.le_refl _
  | m + 1, s, k, d => by
    rw [cls]
    split
    · have := cls_len m s (k + 1) d
      omega
    · have h1 := wrS_len s (k : Int) (zr 64)
      by_cases h : wrE s (k : Int) (zr 64) = 0
      · rw [thn_ok h]
        have := cls_len m (wrS s (k : Int) (zr 64)) (k + 1) true
        exact Nat.le_trans this (by omega)
      · rw [thn_no h]
        exact Nat.le_trans h1 (by omega)
theorem cln_len (s : St) (k m : Nat) : (cln s k m).2.l.length ≤ s.l.length + m := by
  rw [cln]
  split
  · exact Nat.le_add_right _ _
  · exact cls_len m s k false
theorem pts_len : ∀ (l : List Bs) (s : St) (k tk : Nat) (a : Bs), (pts s k tk a l).2.l.length ≤ s.l.length + sns l
  | [], _, _, _, _ => Nat.le_refl _
  | t :: l, s, k, tk, a => by
    rw [pts, sns]
    have h1 := wrb_len s (k + tk) (rcd a t)
    rw [rcd_len, show 64 * sn t / 64 = sn t by omega] at h1
    by_cases h : (wrb s (k + tk) (rcd a t)).1 = 0
    · rw [thn_ok h]
      have := pts_len l (wrb s (k + tk) (rcd a t)).2 k (tk + sn t) (rmk a t)
      omega
    · rw [thn_no h]
      omega
theorem syS_len (s : St) : (syS s).l.length ≤ s.l.length := by
  unfold syS
  split
  · omega
  · split
    · exact Nat.le_refl _
    · exact Nat.zero_le _
end Go.Proofs.YtdcimnmebgkmjaaGreatDoor
namespace Go.Proofs.YtdcimnmebgkmjaaGreatDoor
open Go.RowKit Go.Proofs.Fd Go.Proofs.Dk Go.Proofs.Lg
set_option maxRecDepth 20000
structure Bq (w va : World) (p : Nat) (F : Nat → Prop) (fr mn g : Nat) (a : Option Addr) (n c : Nat) (l : List Bs) (q C R : Nat) (wr : World) (F' : Nat → Prop) (s' : St) (v' : Value) (ts' : List Bs) (tk' : Nat) (m' : Bs) : Prop where
  hd : HD w wr p F' s' q fr mn g v' ts' tk' m' [.slice a n c]
  nx : Nx va F F'
  bf : Bf F va wr
  bc : Blk wr C (fsv q p fr mn)
  br : Blk wr R hz0
  tx : TxAt wr a l
  ap : Ap a l (FH F' q v')
  nq : va.heap.size ≤ q
  nC : va.heap.size ≤ C
  nR : va.heap.size ≤ R
  qC : C ≠ q
  qR : R ≠ q
  fC : ¬ F' C
  fR : ¬ F' R
  vC : v'.ownBlock ≠ some C
  vR : v'.ownBlock ≠ some R
  nv : ∀ x, v'.ownBlock = some x → va.heap.size ≤ x
section
variable {w va : World} {p : Nat} {F : Nat → Prop} {fr mn g : Nat} {a : Option Addr} {n c : Nat} {l : List Bs} {q C R : Nat} {wr : World} {F' : Nat → Prop} {s' : St} {v' : Value} {ts' : List Bs} {tk' : Nat} {m' : Bs}
theorem Bq.disk (h : Bq w va p F fr mn g a n c l q C R wr F' s' v' ts' tk' m') {w' : World} {F2 : Nat → Prop} {s2 : St} (k : Dl w w' p F2 s2) (hx : Nx wr F' F2) (hb : Bf F' wr w') : Bq w va p F fr mn g a n c l q C R w' F2 s2 v' ts' tk' m' :=
  ⟨h.hd.disk k hx hb, h.nx.trans hx h.bf.size, h.bf.trans h.nx hb, h.bc.bf hb h.fC, h.br.bf hb h.fR, h.tx.bf (hb.wide fun _ e => .inl e) h.ap, h.ap.nx h.tx (FH.left hx), h.nq, h.nC, h.nR, h.qC, h.qR, hx.apart h.fC h.bc.lt, hx.apart h.fR h.br.lt, h.vC, h.vR, h.nv⟩
theorem Bq.fill (h : Bq w va p F fr mn g a n c l q C R wr F' s' v' ts' tk' m') {w' : World} {F2 : Nat → Prop} {s2 : St} {v2 : Value} {ts2 : List Bs} {tk2 : Nat} {m2 : Bs} (k : HD w w' p F2 s2 q fr mn g v2 ts2 tk2 m2 [.slice a n c]) (hx2 : Nx2 wr F' q v' F2 v2) (hb : Bf (FH F' q v') wr w') : Bq w va p F fr mn g a n c l q C R w' F2 s2 v2 ts2 tk2 m2 := by
  have hx := hx2.fh
  have cC : ¬ FH F' q v' C := fun e => by
    rcases e with e | e | e
    · exact h.fC e
    · exact h.qC e
    · exact h.vC e
  have cR : ¬ FH F' q v' R := fun e => by
    rcases e with e | e | e
    · exact h.fR e
    · exact h.qR e
    · exact h.vR e
  have hs := h.bf.size
  have dC := hx.apart cC h.bc.lt
  have dR := hx.apart cR h.br.lt
  have nn : ∀ x, FH F' q v' x → F x ∨ va.heap.size ≤ x := fun x e => by
    rcases e with e | e | e
    · exact h.nx x e
    · exact .inr (by rw [e]; exact h.nq)
    · exact .inr (h.nv x e)
  refine ⟨k, fun x e => ?_, ?_, h.bc.bf hb cC, h.br.bf hb cR, h.tx.bf hb h.ap, h.ap.nx h.tx hx, h.nq, h.nC, h.nR, h.qC, h.qR, fun e => dC (.inl e), fun e => dR (.inl e), fun e => dC (.inr (.inr e)), fun e => dR (.inr (.inr e)), fun x e => ?_⟩
  · rcases hx x (.inl e) with d | d
    · exact nn x d
    · exact .inr (by omega)
  · exact h.bf.trans (fun x e => nn x e) hb
  · rcases hx2.2 x (.inr e) with d | d
    · rcases d with d | d
      · rw [d]; exact h.nq
      · exact h.nv x d
    · omega
end
def k4 (s : St) : Int × St := thn (syE s, syS s) fun s5 => (0, s5)
def k3 (fr g : Nat) (s : St) : Int × St := thn (wrb s fr (hd g)) k4
def k2 (fr g : Nat) (s : St) : Int × St := thn (syE s, syS s) (k3 fr g)
def k1 (fr g : Nat) (l : List Bs) (s : St) : Int × St := thn (pts s fr 1 (hm g) l) (k2 fr g)
theorem k4_eq (s : St) : k4 s = (syE s, syS s) := by
  unfold k4
  by_cases h : syE s = 0
  · rw [thn_ok h, h]
  · rw [thn_no h]
theorem bgn_k1 (s : St) (fr mn g : Nat) (l : List Bs) : bgn s fr mn g l = thn (cln s fr mn) (k1 fr g l) := by
  have e : k4 = fun s => (syE s, syS s) := funext k4_eq
  unfold bgn k1 k2 k3
  rw [e]
def BgE (w va : World) (p : Nat) (F : Nat → Prop) (R : Nat) (y : Int × St) (x : Int) (w' : World) : Prop := y.1 = x ∧ ∃ F', Dl w w' p F' y.2 ∧ Nx va F F' ∧ Bf F va w' ∧ Blk w' R hz0 ∧ ¬ F' R
def BgP (w va : World) (p : Nat) (F : Nat → Prop) (fr mn g : Nat) (a : Option Addr) (n c : Nat) (l : List Bs) (q C R : Nat) (B : Nat) (y : Int × St) (k : Nat) (wr : World) : Prop :=
  ∃ F' s' v' ts' tk' m', Bq w va p F fr mn g a n c l q C R wr F' s' v' ts' tk' m' ∧ (2 ≤ k → ts' = l ∧ tk' = tkn 1 l ∧ m' = mks (hm g) l) ∧
    match k with
    | 0 => ts' = [] ∧ tk' = 0 ∧ s'.n = B ∧ s'.l.length + 2 * mn + 300 ≤ 1000000 ∧ y = thn (cln s' fr mn) (k1 fr g l)
    | 1 => ts' = [] ∧ s'.l.length + mn + 300 ≤ 1000000 ∧ y = k1 fr g l s'
    | 2 => s'.l.length + 300 ≤ 1000000 ∧ y = k2 fr g s'
    | 3 => s'.l.length + 300 ≤ 1000000 ∧ y = k3 fr g s'
    | 4 => s'.l.length + 200 ≤ 1000000 ∧ y = k4 s'
    | _ => y = (0, s')
theorem step_ds {w va : World} {p : Nat} {F : Nat → Prop} {fr mn g : Nat} {a : Option Addr} {n c : Nat} {l : List Bs} {q C R : Nat} {wr : World} {F' : Nat → Prop} {s' : St} {v' : Value} {ts' : List Bs} {tk' : Nat} {m' : Bs} {y z : Int × St} {kk : St → Int × St} {P : World → Prop}
    (h : Bq w va p F fr mn g a n c l q C R wr F' s' v' ts' tk' m') (hy : y = thn z kk) (hP : ∀ w' F2, Bq w va p F fr mn g a n c l q C R w' F2 z.2 v' ts' tk' m' → y = kk z.2 → P w') {f : Nat} {args : Array Value} (hc : Calls Tryz.prog f args wr fun e w' => e = .returned (.int .i64 z.1) ∧ Ds w wr p F' z.2 w') :
    Calls Tryz.prog f args wr fun e w' => StepP P (BgE w va p F R y) e w' :=
  hc.mono fun e w' ⟨he, F2, d1, d2, d3⟩ => by
    have k := h.disk d1 d2 d3
    refine ⟨z.1, he, ?_⟩
    by_cases h0 : z.1 = 0
    · exact .inl ⟨h0, hP w' F2 k (hy.trans (thn_ok h0))⟩
    · have e1 : y = z := hy.trans (thn_no h0)
      exact .inr ⟨h0, by rw [e1], F2, by rw [e1]; exact k.hd.dl, k.nx, k.bf, k.br, k.fR⟩
theorem begin_steps (w va : World) (p : Nat) (F : Nat → Prop) (fr mn g : Nat) (a : Option Addr) (n c : Nat) (l : List Bs) (q C R B : Nat) (y : Int × St) (h1 : 1 ≤ mn) (h2 : fr + mn ≤ B) (hB : B ≤ 1024) (hn : l.length = n) (ht : ∀ t ∈ l, t.length ≤ 2000) (hs : tkn 1 l ≤ mn) (hk : Kh w) (v0 : World) (h : BgP w va p F fr mn g a n c l q C R B y 0 v0) :
    Calls Tryz.prog 91 #[.slice (some ⟨C, 0, none⟩) 5 5] v0 fun e w' => StepP (BgP w va p F fr mn g a n c l q C R B y 5) (BgE w va p F R y) e w' := by
  have hsn : 1 + sns l ≤ mn := by rw [← tkn_sns]; exact hs
  refine linOrder_any q p fr mn C (BgP w va p F fr mn g a n c l q C R B y) (BgE w va p F R y) ?_ ?_ ?_ ?_ ?_ ?_ v0 h
  · rintro k wr - ⟨F', s', v', ts', tk', m', hq, -, -⟩
    exact hq.bc
  · rintro wr ⟨F', s', v', ts', tk', m', hq, -, rfl, rfl, hb, hl, hy⟩
    refine step_ds hq hy (fun w' F2 k e => ⟨F2, _, v', [], 0, m', k, fun c => absurd c (by decide), rfl, ?_, e⟩) (lclean_any w wr p F' s' q fr mn g v' [] 0 m' _ h1 (by omega) (Nat.zero_le _) (by omega) hq.hd)
    have := cln_len s' fr mn
    omega
  · rintro wr ⟨F', s', v', ts', tk', m', hq, -, rfl, hl, hy⟩
    refine (lfill_any w wr p F' s' q fr mn g v' tk' m' a n c l hn ht hs (by omega) (by omega) hk hq.hd hq.tx hq.ap).mono ?_
    rintro e w' ⟨he, F2, v2, ts2, tk2, m2, x1, x2, x3, x4⟩
    have k := hq.fill x3 x1 x2
    refine ⟨_, he, ?_⟩
    by_cases h0 : (pts s' fr 1 (hm g) l).1 = 0
    · refine .inl ⟨h0, F2, _, v2, ts2, tk2, m2, k, fun _ => x4 h0, ?_, hy.trans (thn_ok h0)⟩
      have := pts_len l s' fr 1 (hm g)
      omega
    · have e1 : y = pts s' fr 1 (hm g) l := hy.trans (thn_no h0)
      exact .inr ⟨h0, by rw [e1], F2, by rw [e1]; exact k.hd.dl, k.nx, k.bf, k.br, k.fR⟩
  · rintro wr ⟨F', s', v', ts', tk', m', hq, hf, hl, hy⟩
    refine step_ds hq hy (fun w' F2 k e => ⟨F2, _, v', ts', tk', m', k, fun _ => hf (Nat.le_refl _), ?_, e⟩) (lsync_any w wr p F' s' fr mn (by omega) hq.hd.dl)
    have := syS_len s'
    show (syS s').l.length + 300 ≤ _
    omega
  · rintro wr ⟨F', s', v', ts', tk', m', hq, hf, hl, hy⟩
    refine step_ds hq hy (fun w' F2 k e => ⟨F2, _, v', ts', tk', m', k, fun _ => hf (by decide), ?_, e⟩) (lcrown_any w wr p F' s' q fr mn g v' ts' tk' m' _ (by omega) (by omega) hk hq.hd)
    have := wrb_len s' fr (hd g)
    rw [hd_len] at this
    omega
  · rintro wr ⟨F', s', v', ts', tk', m', hq, hf, hl, hy⟩
    exact step_ds hq hy (fun w' F2 k e => ⟨F2, _, v', ts', tk', m', k, fun _ => hf (by decide), e⟩) (lsync_any w wr p F' s' fr mn (by omega) hq.hd.dl)
end Go.Proofs.YtdcimnmebgkmjaaGreatDoor
namespace Go.Proofs.YtdcimnmebgkmjaaGreatDoor
open Go.RowKit Go.Proofs.Fd Go.Proofs.Dk Go.Proofs.Lg
set_option maxRecDepth 20000
theorem rhead_any (g : Nat) (w : World) : Calls Tryz.prog 102 #[.int .i64 (g : Int)] w fun e w' => e = .returned (sv (hd g)) ∧ Below w.heap.size w w' := by
  have PL : Hid (∀ w, _) := rplain_any g
  have MK : Hid (∀ w, Calls Tryz.prog 67 #[sv (hf g)] w fun e w' => e = .returned (sv (hm g)) ∧ Below w.heap.size w w') := rmark_any (hf g) (by rw [hf_len]; decide)
  have ZR : Hid (∀ w, Calls Tryz.prog 104 #[.int .i64 40] w fun e w' => e = .returned (sv (zr 40)) ∧ Below w.heap.size w w') := rzeros_any 40 (by decide)
  have h1 : (st (hf g)).size = 8 := by rw [st_size, hf_len]
  have h2 : (st (hm g)).size = 16 := by rw [st_size, hm, mk_len]
  have h3 : (st (zr 40)).size = 40 := by rw [st_size, zr_len]
  have HP : Hid (st (hf g) ++ st (hm g) ++ st (zr 40) = st (hd g)) := by
    show st (hf g) ++ st (hm g) ++ st (zr 40) = st (hd g)
    have e : (hf g ++ hm g).length = 24 := by rw [List.length_append, hf_len, hm, mk_len]
    rw [st_app, st_app, hd, pdd, e]
  unfold sv at *
  obtain ⟨X, hX⟩ : ∃ X, st (hf g) = X := ⟨_, rfl⟩
  obtain ⟨Y, hY⟩ : ∃ Y, st (hm g) = Y := ⟨_, rfl⟩
  obtain ⟨Z, hZ⟩ : ∃ Z, st (zr 40) = Z := ⟨_, rfl⟩
  rw [hX] at PL MK h1 HP
  rw [hY] at MK h2 HP
  rw [hZ] at ZR h3 HP
  clear hX hY hZ
  go_enter Tryz.func102, Tryz.ntmps102
  go_wp2_with fail
  refine Calls.mono (PL.out _) ?_
  rintro e w1 ⟨rfl, hb⟩
  have B1 : Hid _ := hb
  clear hb
  go_wp2_with fail
  refine Calls.mono (PL.out _) ?_
  rintro e w2 ⟨rfl, hb⟩
  have B2 : Hid _ := chain B1.out hb
  clear hb B1
  go_wp2_with fail
  refine Calls.mono (MK.out _) ?_
  rintro e w3 ⟨rfl, hb⟩
  have B3 : Hid _ := chain B2.out hb
  clear hb B2
  go_wp2_with fail
  refine Calls.mono (ZR.out _) ?_
  rintro e w4 ⟨rfl, hb⟩
  have B4 : Hid _ := chain B3.out hb
  clear hb B3
  go_wp2
  go_ret
  exact ⟨by rw [← HP.out]; rfl, B4.out⟩
def genr (b : Bs) : Nat := if nm ((b.drop 4).take 4) < 1 ∨ 2147483647 < nm ((b.drop 4).take 4) ∨ ¬ b = hd (nm ((b.drop 4).take 4)) then 0 else nm ((b.drop 4).take 4)
theorem four (b : Bs) (h : 8 ≤ b.length) : nm ((b.drop 4).take 4) = ((b[4].toNat * 256 + b[5].toNat) * 256 + b[6].toNat) * 256 + b[7].toNat := by
  have e : (b.drop 4).take 4 = [b[4], b[5], b[6], b[7]] := by
    apply List.ext_getElem
    · simp; omega
    · intro i h1 h2
      have : i < 4 := by simpa using h2
      rcases (by omega : i = 0 ∨ i = 1 ∨ i = 2 ∨ i = 3) with rfl | rfl | rfl | rfl <;> simp
  rw [e, nm]
  simp
set_option maxHeartbeats 8000000 in
theorem rgen_any (b : Bs) (h1 : b.length = 64) (w : World) : Calls Tryz.prog 65 #[sv b] w fun e w' => e = .returned (.int .i64 (genr b : Int)) ∧ Below w.heap.size w w' := by
  have hs : (st b).size = 64 := by rw [st_size, h1]
  have h4 := four b (by omega)
  have G0 : Hid (genr b = if nm ((b.drop 4).take 4) < 1 ∨ 2147483647 < nm ((b.drop 4).take 4) ∨ ¬ b = hd (nm ((b.drop 4).take 4)) then 0 else nm ((b.drop 4).take 4)) := rfl
  obtain ⟨n, hn⟩ : ∃ n, nm ((b.drop 4).take 4) = n := ⟨_, rfl⟩
  rw [hn] at h4 G0
  have k0 := (b[4]'(by omega)).toNat_lt
  have k1 := (b[5]'(by omega)).toNat_lt
  have k2 := (b[6]'(by omega)).toNat_lt
  have k3 := (b[7]'(by omega)).toNat_lt
  obtain ⟨X, hX⟩ : ∃ X, st b = X := ⟨_, rfl⟩
  have HX : Hid (st b = X) := hX
  unfold sv
  rw [hX] at hs ⊢
  have x4 : X[4]'(by omega) = b[4]'(by omega) := by subst hX; rfl
  have x5 : X[5]'(by omega) = b[5]'(by omega) := by subst hX; rfl
  have x6 : X[6]'(by omega) = b[6]'(by omega) := by subst hX; rfl
  have x7 : X[7]'(by omega) = b[7]'(by omega) := by subst hX; rfl
  obtain ⟨c4, q4⟩ : ∃ c, b[4]'(by omega) = c := ⟨_, rfl⟩
  obtain ⟨c5, q5⟩ : ∃ c, b[5]'(by omega) = c := ⟨_, rfl⟩
  obtain ⟨c6, q6⟩ : ∃ c, b[6]'(by omega) = c := ⟨_, rfl⟩
  obtain ⟨c7, q7⟩ : ∃ c, b[7]'(by omega) = c := ⟨_, rfl⟩
  rw [q4] at x4 k0 h4
  rw [q5] at x5 k1 h4
  rw [q6] at x6 k2 h4
  rw [q7] at x7 k3 h4
  have t4 : IntKind.i64.wrap (c4.toNat : Int) = (c4.toNat : Int) := by rw [IntKind.wrap_i64]; omega
  have t5 : IntKind.i64.wrap (c5.toNat : Int) = (c5.toNat : Int) := by rw [IntKind.wrap_i64]; omega
  have t6 : IntKind.i64.wrap (c6.toNat : Int) = (c6.toNat : Int) := by rw [IntKind.wrap_i64]; omega
  have t7 : IntKind.i64.wrap (c7.toNat : Int) = (c7.toNat : Int) := by rw [IntKind.wrap_i64]; omega
  have p4 : IntKind.i64.wrap ((c4.toNat : Int) * 16777216) = (c4.toNat : Int) * 16777216 := by rw [IntKind.wrap_i64]; omega
  have p5 : IntKind.i64.wrap ((c5.toNat : Int) * 65536) = (c5.toNat : Int) * 65536 := by rw [IntKind.wrap_i64]; omega
  have p6 : IntKind.i64.wrap ((c6.toNat : Int) * 256) = (c6.toNat : Int) * 256 := by rw [IntKind.wrap_i64]; omega
  have v5 : IntKind.i64.wrap ((c4.toNat : Int) * 16777216 + (c5.toNat : Int) * 65536) = (c4.toNat : Int) * 16777216 + (c5.toNat : Int) * 65536 := by rw [IntKind.wrap_i64]; omega
  have v6 : IntKind.i64.wrap ((c4.toNat : Int) * 16777216 + (c5.toNat : Int) * 65536 + (c6.toNat : Int) * 256) = (c4.toNat : Int) * 16777216 + (c5.toNat : Int) * 65536 + (c6.toNat : Int) * 256 := by rw [IntKind.wrap_i64]; omega
  have v7 : IntKind.i64.wrap ((c4.toNat : Int) * 16777216 + (c5.toNat : Int) * 65536 + (c6.toNat : Int) * 256 + (c7.toNat : Int)) = (n : Int) := by rw [IntKind.wrap_i64]; omega
  have HD : Hid (∀ w, Calls Tryz.prog 102 #[.int .i64 (n : Int)] w fun e w' => e = .returned (sv (hd n)) ∧ Below w.heap.size w w') := rhead_any n
  clear hn hX q4 q5 q6 q7 h4 k0 k1 k2 k3
  go_enter Tryz.func65, Tryz.ntmps65
  go_upto_region 1 with fail
  go_cut [3] (fun s3 wx => s3 = .int .i64 (n : Int) ∧ Hid (Below w.heap.size w wx))
  case first =>
    clear HD G0 HX
    go_wp2_with fail
    go_region_with fail
    all_goals (go_wp2; go_meet)
    all_goals first
      | exact ⟨rfl, (Below.refl _ _).drew⟩
      | exact ⟨rfl, Below.refl _ _⟩
  case rest =>
    obtain ⟨rfl, BW⟩ := hcut
    clear t4 t5 t6 t7 p4 p5 p6 v5 v6 v7 x4 x5 x6 x7
    by_cases a1 : n < 1
    · have g1 : (n : Int) < 1 := by omega
      have E0 : Hid (genr b = 0) := by rw [G0.out, if_pos (.inl a1)]; rfl
      clear G0 HD HX
      go_wp2
      go_ret
      exact ⟨by rw [E0.out]; rfl, BW.out⟩
    · have g1 : ¬ (n : Int) < 1 := by omega
      by_cases a2 : 2147483647 < n
      · have g2 : (2147483647 : Int) < (n : Int) := by omega
        have E0 : Hid (genr b = 0) := by rw [G0.out, if_pos (.inr (.inl a2))]; rfl
        clear G0 HD HX
        go_wp2
        go_ret
        exact ⟨by rw [E0.out]; rfl, BW.out⟩
      · have g2 : ¬ (2147483647 : Int) < (n : Int) := by omega
        by_cases a3 : b = hd n
        · have E0 : Hid (genr b = n) := by rw [G0.out, if_neg (by rintro (h | h | h); exact a1 h; exact a2 h; exact h a3)]; rfl
          have HD2 : Hid (∀ w, Calls Tryz.prog 102 #[.int .i64 (n : Int)] w fun e w' => e = .returned (.string X) ∧ Below w.heap.size w w') := by
            have := HD.out
            rw [← a3] at this
            rw [← HX.out]
            exact this
          clear G0 HD HX a3
          go_wp2_with fail
          refine Calls.mono (HD2.out _) ?_
          rintro e w1 ⟨rfl, hb⟩
          have B1 : Hid _ := chain BW.out hb
          clear hb
          go_wp2
          go_ret
          exact ⟨by rw [E0.out]; rfl, B1.out⟩
        · have E0 : Hid (genr b = 0) := by rw [G0.out, if_pos (.inr (.inr a3))]; rfl
          obtain ⟨Y, hY⟩ : ∃ Y, st (hd n) = Y := ⟨_, rfl⟩
          have NE : (X.toList == Y.toList) = false := by
            rw [beq_eq_false_iff_ne]
            intro c
            rw [ByteArray.toList_eq, ByteArray.toList_eq, ← HX.out, ← hY, st_data, st_data] at c
            exact a3 c
          unfold sv at HD
          rw [hY] at HD
          clear G0 HX a3 hY
          go_wp2_with fail
          refine Calls.mono (HD.out _) ?_
          rintro e w1 ⟨rfl, hb⟩
          have B1 : Hid _ := chain BW.out hb
          clear hb
          go_wp2
          go_ret
          exact ⟨by rw [E0.out]; rfl, B1.out⟩
end Go.Proofs.YtdcimnmebgkmjaaGreatDoor
