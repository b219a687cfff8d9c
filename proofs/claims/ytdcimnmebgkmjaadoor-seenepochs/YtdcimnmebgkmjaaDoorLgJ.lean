/- A half is begun: one step behind the other. -/
import Derived.Test.YtdcimnmebgkmjaaDoorLgE
namespace Go.Proofs.YtdcimnmebgkmjaaDoor
open Go.RowKit Go.Proofs.Fd Go.Proofs.Dk Go.Proofs.Lg
set_option maxRecDepth 20000

/-- What stands while a half is begun: the half at q, the steps at C, the answer's block R. -/
structure Bq (w va : World) (p : Nat) (F : Nat → Prop) (fr mn g : Nat) (a : Option Addr) (n c : Nat) (l : List Bs) (q C R : Nat) (wr : World) (F' : Nat → Prop) (s' : St) (v' : Value) (ts' : List Bs) (tk' : Nat) (m' : Bs) : Prop where
  hd : HD w wr p F' s' q fr mn g v' ts' tk' m' [.slice a n c]
  nx : Nx va F F'
  bf : Bf F va wr
  bc : Blk wr C (fsv q p fr mn)
  br : Blk wr R hz0
  tx : TxAt wr a l
  ap : Ap a l (FH F' q v')
  nq : va.heap.size ≤ q
  nC : va.heap.size ≤ C
  nR : va.heap.size ≤ R
  qC : C ≠ q
  qR : R ≠ q
  fC : ¬ F' C
  fR : ¬ F' R
  vC : v'.ownBlock ≠ some C
  vR : v'.ownBlock ≠ some R
  nv : ∀ x, v'.ownBlock = some x → va.heap.size ≤ x
section
variable {w va : World} {p : Nat} {F : Nat → Prop} {fr mn g : Nat} {a : Option Addr} {n c : Nat} {l : List Bs} {q C R : Nat} {wr : World} {F' : Nat → Prop} {s' : St} {v' : Value} {ts' : List Bs} {tk' : Nat} {m' : Bs}
theorem Bq.disk (h : Bq w va p F fr mn g a n c l q C R wr F' s' v' ts' tk' m') {w' : World} {F2 : Nat → Prop} {s2 : St} (k : Dl w w' p F2 s2) (hx : Nx wr F' F2) (hb : Bf F' wr w') : Bq w va p F fr mn g a n c l q C R w' F2 s2 v' ts' tk' m' :=
  ⟨h.hd.disk k hx hb, h.nx.trans hx h.bf.size, h.bf.trans h.nx hb, h.bc.bf hb h.fC, h.br.bf hb h.fR, h.tx.bf (hb.wide fun _ e => .inl e) h.ap, h.ap.nx h.tx (FH.left hx), h.nq, h.nC, h.nR, h.qC, h.qR, hx.apart h.fC h.bc.lt, hx.apart h.fR h.br.lt, h.vC, h.vR, h.nv⟩
theorem Bq.fill (h : Bq w va p F fr mn g a n c l q C R wr F' s' v' ts' tk' m') {w' : World} {F2 : Nat → Prop} {s2 : St} {v2 : Value} {ts2 : List Bs} {tk2 : Nat} {m2 : Bs} (k : HD w w' p F2 s2 q fr mn g v2 ts2 tk2 m2 [.slice a n c]) (hx2 : Nx2 wr F' q v' F2 v2) (hb : Bf (FH F' q v') wr w') : Bq w va p F fr mn g a n c l q C R w' F2 s2 v2 ts2 tk2 m2 := by
  have hx := hx2.fh
  have cC : ¬ FH F' q v' C := fun e => by
    rcases e with e | e | e
    · exact h.fC e
    · exact h.qC e
    · exact h.vC e
  have cR : ¬ FH F' q v' R := fun e => by
    rcases e with e | e | e
    · exact h.fR e
    · exact h.qR e
    · exact h.vR e
  have hs := h.bf.size
  have dC := hx.apart cC h.bc.lt
  have dR := hx.apart cR h.br.lt
  have nn : ∀ x, FH F' q v' x → F x ∨ va.heap.size ≤ x := fun x e => by
    rcases e with e | e | e
    · exact h.nx x e
    · exact .inr (by rw [e]; exact h.nq)
    · exact .inr (h.nv x e)
  refine ⟨k, fun x e => ?_, ?_, h.bc.bf hb cC, h.br.bf hb cR, h.tx.bf hb h.ap, h.ap.nx h.tx hx, h.nq, h.nC, h.nR, h.qC, h.qR, fun e => dC (.inl e), fun e => dR (.inl e), fun e => dC (.inr (.inr e)), fun e => dR (.inr (.inr e)), fun x e => ?_⟩
  · rcases hx x (.inl e) with d | d
    · exact nn x d
    · exact .inr (by omega)
  · exact h.bf.trans (fun x e => nn x e) hb
  · rcases hx2.2 x (.inr e) with d | d
    · rcases d with d | d
      · rw [d]; exact h.nq
      · exact h.nv x d
    · omega
end
/-- What is still to be done, behind the first so many steps. -/
def k4 (s : St) : Int × St := thn (syE s, syS s) fun s5 => (0, s5)
def k3 (fr g : Nat) (s : St) : Int × St := thn (wrb s fr (hd g)) k4
def k2 (fr g : Nat) (s : St) : Int × St := thn (syE s, syS s) (k3 fr g)
def k1 (fr g : Nat) (l : List Bs) (s : St) : Int × St := thn (pts s fr 1 (hm g) l) (k2 fr g)
theorem k4_eq (s : St) : k4 s = (syE s, syS s) := by
  unfold k4
  by_cases h : syE s = 0
  · rw [thn_ok h, h]
  · rw [thn_no h]
theorem bgn_k1 (s : St) (fr mn g : Nat) (l : List Bs) : bgn s fr mn g l = thn (cln s fr mn) (k1 fr g l) := by
  have e : k4 = fun s => (syE s, syS s) := funext k4_eq
  unfold bgn k1 k2 k3
  rw [e]
/-- What ends a beginning. -/
def BgE (w va : World) (p : Nat) (F : Nat → Prop) (R : Nat) (y : Int × St) (x : Int) (w' : World) : Prop := y.1 = x ∧ ∃ F', Dl w w' p F' y.2 ∧ Nx va F F' ∧ Bf F va w' ∧ Blk w' R hz0 ∧ ¬ F' R
/-- How far it is. -/
def BgP (w va : World) (p : Nat) (F : Nat → Prop) (fr mn g : Nat) (a : Option Addr) (n c : Nat) (l : List Bs) (q C R : Nat) (B : Nat) (y : Int × St) (k : Nat) (wr : World) : Prop :=
  ∃ F' s' v' ts' tk' m', Bq w va p F fr mn g a n c l q C R wr F' s' v' ts' tk' m' ∧ (2 ≤ k → ts' = l ∧ tk' = tkn 1 l ∧ m' = mks (hm g) l) ∧
    match k with
    | 0 => ts' = [] ∧ tk' = 0 ∧ s'.n = B ∧ s'.l.length + 2 * mn + 300 ≤ 1000000 ∧ y = thn (cln s' fr mn) (k1 fr g l)
    | 1 => ts' = [] ∧ s'.l.length + mn + 300 ≤ 1000000 ∧ y = k1 fr g l s'
    | 2 => s'.l.length + 300 ≤ 1000000 ∧ y = k2 fr g s'
    | 3 => s'.l.length + 300 ≤ 1000000 ∧ y = k3 fr g s'
    | 4 => s'.l.length + 200 ≤ 1000000 ∧ y = k4 s'
    | _ => y = (0, s')
theorem step_ds {w va : World} {p : Nat} {F : Nat → Prop} {fr mn g : Nat} {a : Option Addr} {n c : Nat} {l : List Bs} {q C R : Nat} {wr : World} {F' : Nat → Prop} {s' : St} {v' : Value} {ts' : List Bs} {tk' : Nat} {m' : Bs} {y z : Int × St} {kk : St → Int × St} {P : World → Prop}
    (h : Bq w va p F fr mn g a n c l q C R wr F' s' v' ts' tk' m') (hy : y = thn z kk) (hP : ∀ w' F2, Bq w va p F fr mn g a n c l q C R w' F2 z.2 v' ts' tk' m' → y = kk z.2 → P w') {f : Nat} {args : Array Value} (hc : Calls Tryd.prog f args wr fun e w' => e = .returned (.int .i64 z.1) ∧ Ds w wr p F' z.2 w') :
    Calls Tryd.prog f args wr fun e w' => StepP P (BgE w va p F R y) e w' :=
  hc.mono fun e w' ⟨he, F2, d1, d2, d3⟩ => by
    have k := h.disk d1 d2 d3
    refine ⟨z.1, he, ?_⟩
    by_cases h0 : z.1 = 0
    · exact .inl ⟨h0, hP w' F2 k (hy.trans (thn_ok h0))⟩
    · have e1 : y = z := hy.trans (thn_no h0)
      exact .inr ⟨h0, by rw [e1], F2, by rw [e1]; exact k.hd.dl, k.nx, k.bf, k.br, k.fR⟩
theorem begin_steps (w va : World) (p : Nat) (F : Nat → Prop) (fr mn g : Nat) (a : Option Addr) (n c : Nat) (l : List Bs) (q C R B : Nat) (y : Int × St) (h1 : 1 ≤ mn) (h2 : fr + mn ≤ B) (hB : B ≤ 1024) (hn : l.length = n) (ht : ∀ t ∈ l, t.length ≤ 2000) (hs : tkn 1 l ≤ mn) (hk : Kh w) (v0 : World) (h : BgP w va p F fr mn g a n c l q C R B y 0 v0) :
    Calls Tryd.prog 47 #[.slice (some ⟨C, 0, none⟩) 5 5] v0 fun e w' => StepP (BgP w va p F fr mn g a n c l q C R B y 5) (BgE w va p F R y) e w' := by
  have hsn : 1 + sns l ≤ mn := by rw [← tkn_sns]; exact hs
  refine linOrder_any q p fr mn C (BgP w va p F fr mn g a n c l q C R B y) (BgE w va p F R y) ?_ ?_ ?_ ?_ ?_ ?_ v0 h
  · rintro k wr - ⟨F', s', v', ts', tk', m', hq, -, -⟩
    exact hq.bc
  · rintro wr ⟨F', s', v', ts', tk', m', hq, -, rfl, rfl, hb, hl, hy⟩
    refine step_ds hq hy (fun w' F2 k e => ⟨F2, _, v', [], 0, m', k, fun c => absurd c (by decide), rfl, ?_, e⟩) (lclean_any w wr p F' s' q fr mn g v' [] 0 m' _ h1 (by omega) (Nat.zero_le _) (by omega) hq.hd)
    have := cln_len s' fr mn
    omega
  · rintro wr ⟨F', s', v', ts', tk', m', hq, -, rfl, hl, hy⟩
    refine (lfill_any w wr p F' s' q fr mn g v' tk' m' a n c l hn ht hs (by omega) (by omega) hk hq.hd hq.tx hq.ap).mono ?_
    rintro e w' ⟨he, F2, v2, ts2, tk2, m2, x1, x2, x3, x4⟩
    have k := hq.fill x3 x1 x2
    refine ⟨_, he, ?_⟩
    by_cases h0 : (pts s' fr 1 (hm g) l).1 = 0
    · refine .inl ⟨h0, F2, _, v2, ts2, tk2, m2, k, fun _ => x4 h0, ?_, hy.trans (thn_ok h0)⟩
      have := pts_len l s' fr 1 (hm g)
      omega
    · have e1 : y = pts s' fr 1 (hm g) l := hy.trans (thn_no h0)
      exact .inr ⟨h0, by rw [e1], F2, by rw [e1]; exact k.hd.dl, k.nx, k.bf, k.br, k.fR⟩
  · rintro wr ⟨F', s', v', ts', tk', m', hq, hf, hl, hy⟩
    refine step_ds hq hy (fun w' F2 k e => ⟨F2, _, v', ts', tk', m', k, fun _ => hf (Nat.le_refl _), ?_, e⟩) (lsync_any w wr p F' s' fr mn (by omega) hq.hd.dl)
    have := syS_len s'
    show (syS s').l.length + 300 ≤ _
    omega
  · rintro wr ⟨F', s', v', ts', tk', m', hq, hf, hl, hy⟩
    refine step_ds hq hy (fun w' F2 k e => ⟨F2, _, v', ts', tk', m', k, fun _ => hf (by decide), ?_, e⟩) (lcrown_any w wr p F' s' q fr mn g v' ts' tk' m' _ (by omega) (by omega) hk hq.hd)
    have := wrb_len s' fr (hd g)
    rw [hd_len] at this
    omega
  · rintro wr ⟨F', s', v', ts', tk', m', hq, hf, hl, hy⟩
    exact step_ds hq hy (fun w' F2 k e => ⟨F2, _, v', ts', tk', m', k, fun _ => hf (by decide), e⟩) (lsync_any w wr p F' s' fr mn (by omega) hq.hd.dl)
end Go.Proofs.YtdcimnmebgkmjaaDoor
