/- Parts: LgJ, LrB, LrJ, LgX. -/
import Derived.Test.YtjpaodepnacimaaGreatDoorZbG17
import Derived.Test.YtjpaodepnacimaaGreatDoorZbG14
namespace Go.Proofs.YtjpaodepnacimaaGreatDoor
open Go.RowKit Go.Proofs.Fd Go.Proofs.Dk Go.Proofs.Lg
set_option maxRecDepth 20000
structure Bq (w va : World) (p : Nat) (F : Nat → Prop) (fr mn g : Nat) (a : Option Addr) (n c : Nat) (l : List Bs) (q C R : Nat) (wr : World) (F' : Nat → Prop) (s' : St) (v' : Value) (ts' : List Bs) (tk' : Nat) (m' : Bs) : Prop where
  hd : HD w wr p F' s' q fr mn g v' ts' tk' m' [.slice a n c]
  nx : Nx va F F'
  bf : Bf F va wr
  bc : Blk wr C (fsv q p fr mn)
  br : Blk wr R hz0
  tx : TxAt wr a l
  ap : Ap a l (FH F' q v')
  nq : va.heap.size ≤ q
  nC : va.heap.size ≤ C
  nR : va.heap.size ≤ R
  qC : C ≠ q
  qR : R ≠ q
  fC : ¬ F' C
  fR : ¬ F' R
  vC : v'.ownBlock ≠ some C
  vR : v'.ownBlock ≠ some R
  nv : ∀ x, v'.ownBlock = some x → va.heap.size ≤ x
section
variable {w va : World} {p : Nat} {F : Nat → Prop} {fr mn g : Nat} {a : Option Addr} {n c : Nat} {l : List Bs} {q C R : Nat} {wr : World} {F' : Nat → Prop} {s' : St} {v' : Value} {ts' : List Bs} {tk' : Nat} {m' : Bs}
theorem Bq.disk (h : Bq w va p F fr mn g a n c l q C R wr F' s' v' ts' tk' m') {w' : World} {F2 : Nat → Prop} {s2 : St} (k : Dl w w' p F2 s2) (hx : Nx wr F' F2) (hb : Bf F' wr w') : Bq w va p F fr mn g a n c l q C R w' F2 s2 v' ts' tk' m' :=
  ⟨h.hd.disk k hx hb, h.nx.trans hx h.bf.size, h.bf.trans h.nx hb, h.bc.bf hb h.fC, h.br.bf hb h.fR, h.tx.bf (hb.wide fun _ e => .inl e) h.ap, h.ap.nx h.tx (FH.left hx), h.nq, h.nC, h.nR, h.qC, h.qR, hx.apart h.fC h.bc.lt, hx.apart h.fR h.br.lt, h.vC, h.vR, h.nv⟩
theorem Bq.fill (h : Bq w va p F fr mn g a n c l q C R wr F' s' v' ts' tk' m') {w' : World} {F2 : Nat → Prop} {s2 : St} {v2 : Value} {ts2 : List Bs} {tk2 : Nat} {m2 : Bs} (k : HD w w' p F2 s2 q fr mn g v2 ts2 tk2 m2 [.slice a n c]) (hx2 : Nx2 wr F' q v' F2 v2) (hb : Bf (FH F' q v') wr w') : Bq w va p F fr mn g a n c l q C R w' F2 s2 v2 ts2 tk2 m2 := by
  have hx := hx2.fh
  have cC : ¬ FH F' q v' C := fun e => by
    rcases e with e | e | e
    · exact h.fC e
    · exact h.qC e
    · exact h.vC e
  have cR : ¬ FH F' q v' R := fun e => by
    rcases e with e | e | e
    · exact h.fR e
    · exact h.qR e
    · exact h.vR e
  have hs := h.bf.size
  have dC := hx.apart cC h.bc.lt
  have dR := hx.apart cR h.br.lt
  have nn : ∀ x, FH F' q v' x → F x ∨ va.heap.size ≤ x := fun x e => by
    rcases e with e | e | e
    · exact h.nx x e
    · exact .inr (by rw [e]; exact h.nq)
    · exact .inr (h.nv x e)
  refine ⟨k, fun x e => ?_, ?_, h.bc.bf hb cC, h.br.bf hb cR, h.tx.bf hb h.ap, h.ap.nx h.tx hx, h.nq, h.nC, h.nR, h.qC, h.qR, fun e => dC (.inl e), fun e => dR (.inl e), fun e => dC (.inr (.inr e)), fun e => dR (.inr (.inr e)), fun x e => ?_⟩
  · rcases hx x (.inl e) with d | d
    · exact nn x d
    · exact .inr (by omega)
  · exact h.bf.trans (fun x e => nn x e) hb
  · rcases hx2.2 x (.inr e) with d | d
    · rcases d with d | d
      · rw [d]; exact h.nq
      · exact h.nv x d
    · omega
end
def k4 (s : St) : Int × St := thn (syE s, syS s) fun s5 => (0, s5)
def k3 (fr g : Nat) (s : St) : Int × St := thn (wrb s fr (hd g)) k4
def k2 (fr g : Nat) (s : St) : Int × St := thn (syE s, syS s) (k3 fr g)
def k1 (fr g : Nat) (l : List Bs) (s : St) : Int × St := thn (pts s fr 1 (hm g) l) (k2 fr g)
theorem k4_eq (s : St) : k4 s = (syE s, syS s) := by
  unfold k4
  by_cases h : syE s = 0
  · rw [thn_ok h, h]
  · rw [thn_no h]
theorem bgn_k1 (s : St) (fr mn g : Nat) (l : List Bs) : bgn s fr mn g l = thn (cln s fr mn) (k1 fr g l) := by
  have e : k4 = fun s => (syE s, syS s) := funext k4_eq
  unfold bgn k1 k2 k3
  rw [e]
def BgE (w va : World) (p : Nat) (F : Nat → Prop) (R : Nat) (y : Int × St) (x : Int) (w' : World) : Prop := y.1 = x ∧ ∃ F', Dl w w' p F' y.2 ∧ Nx va F F' ∧ Bf F va w' ∧ Blk w' R hz0 ∧ ¬ F' R
def BgP (w va : World) (p : Nat) (F : Nat → Prop) (fr mn g : Nat) (a : Option Addr) (n c : Nat) (l : List Bs) (q C R : Nat) (B : Nat) (y : Int × St) (k : Nat) (wr : World) : Prop :=
  ∃ F' s' v' ts' tk' m', Bq w va p F fr mn g a n c l q C R wr F' s' v' ts' tk' m' ∧ (2 ≤ k → ts' = l ∧ tk' = tkn 1 l ∧ m' = mks (hm g) l) ∧
    match k with
    | 0 => ts' = [] ∧ tk' = 0 ∧ s'.n = B ∧ s'.l.length + 2 * mn + 300 ≤ 1000000 ∧ y = thn (cln s' fr mn) (k1 fr g l)
    | 1 => ts' = [] ∧ s'.l.length + mn + 300 ≤ 1000000 ∧ y = k1 fr g l s'
    | 2 => s'.l.length + 300 ≤ 1000000 ∧ y = k2 fr g s'
    | 3 => s'.l.length + 300 ≤ 1000000 ∧ y = k3 fr g s'
    | 4 => s'.l.length + 200 ≤ 1000000 ∧ y = k4 s'
    | _ => y = (0, s')
theorem step_ds {w va : World} {p : Nat} {F : Nat → Prop} {fr mn g : Nat} {a : Option Addr} {n c : Nat} {l : List Bs} {q C R : Nat} {wr : World} {F' : Nat → Prop} {s' : St} {v' : Value} {ts' : List Bs} {tk' : Nat} {m' : Bs} {y z : Int × St} {kk : St → Int × St} {P : World → Prop}
    (h : Bq w va p F fr mn g a n c l q C R wr F' s' v' ts' tk' m') (hy : y = thn z kk) (hP : ∀ w' F2, Bq w va p F fr mn g a n c l q C R w' F2 z.2 v' ts' tk' m' → y = kk z.2 → P w') {f : Nat} {args : Array Value} (hc : Calls Tryz.prog f args wr fun e w' => e = .returned (.int .i64 z.1) ∧ Ds w wr p F' z.2 w') :
    Calls Tryz.prog f args wr fun e w' => StepP P (BgE w va p F R y) e w' :=
  hc.mono fun e w' ⟨he, F2, d1, d2, d3⟩ => by
    have k := h.disk d1 d2 d3
    refine ⟨z.1, he, ?_⟩
    by_cases h0 : z.1 = 0
    · exact .inl ⟨h0, hP w' F2 k (hy.trans (thn_ok h0))⟩
    · have e1 : y = z := hy.trans (thn_no h0)
      exact .inr ⟨h0, by rw [e1], F2, by rw [e1]; exact k.hd.dl, k.nx, k.bf, k.br, k.fR⟩
theorem begin_steps (w va : World) (p : Nat) (F : Nat → Prop) (fr mn g : Nat) (a : Option Addr) (n c : Nat) (l : List Bs) (q C R B : Nat) (y : Int × St) (h1 : 1 ≤ mn) (h2 : fr + mn ≤ B) (hB : B ≤ 1024) (hn : l.length = n) (ht : ∀ t ∈ l, t.length ≤ 2000) (hs : tkn 1 l ≤ mn) (hk : Kh w) (v0 : World) (h : BgP w va p F fr mn g a n c l q C R B y 0 v0) :
    Calls Tryz.prog 101 #[.slice (some ⟨C, 0, none⟩) 5 5] v0 fun e w' => StepP (BgP w va p F fr mn g a n c l q C R B y 5) (BgE w va p F R y) e w' := by
  have hsn : 1 + sns l ≤ mn := by rw [← tkn_sns]; exact hs
  refine linOrder_any q p fr mn C (BgP w va p F fr mn g a n c l q C R B y) (BgE w va p F R y) ?_ ?_ ?_ ?_ ?_ ?_ v0 h
  · rintro k wr - ⟨F', s', v', ts', tk', m', hq, -, -⟩
    exact hq.bc
  · rintro wr ⟨F', s', v', ts', tk', m', hq, -, rfl, rfl, hb, hl, hy⟩
    refine step_ds hq hy (fun w' F2 k e => ⟨F2, _, v', [], 0, m', k, fun c => absurd c (by decide), rfl, ?_, e⟩) (lclean_any w wr p F' s' q fr mn g v' [] 0 m' _ h1 (by omega) (Nat.zero_le _) (by omega) hq.hd)
    have := cln_len s' fr mn
    omega
  · rintro wr ⟨F', s', v', ts', tk', m', hq, -, rfl, hl, hy⟩
    refine (lfill_any w wr p F' s' q fr mn g v' tk' m' a n c l hn ht hs (by omega) (by omega) hk hq.hd hq.tx hq.ap).mono ?_
    rintro e w' ⟨he, F2, v2, ts2, tk2, m2, x1, x2, x3, x4⟩
    have k := hq.fill x3 x1 x2
    refine ⟨_, he, ?_⟩
    by_cases h0 : (pts s' fr 1 (hm g) l).1 = 0
    · refine .inl ⟨h0, F2, _, v2, ts2, tk2, m2, k, fun _ => x4 h0, ?_, hy.trans (thn_ok h0)⟩
      have := pts_len l s' fr 1 (hm g)
      omega
    · have e1 : y = pts s' fr 1 (hm g) l := hy.trans (thn_no h0)
      exact .inr ⟨h0, by rw [e1], F2, by rw [e1]; exact k.hd.dl, k.nx, k.bf, k.br, k.fR⟩
  · rintro wr ⟨F', s', v', ts', tk', m', hq, hf, hl, hy⟩
    refine step_ds hq hy (fun w' F2 k e => ⟨F2, _, v', ts', tk', m', k, fun _ => hf (Nat.le_refl _), ?_, e⟩) (lsync_any w wr p F' s' fr mn (by omega) hq.hd.dl)
    have := syS_len s'
    show (syS s').l.length + 300 ≤ _
    omega
  · rintro wr ⟨F', s', v', ts', tk', m', hq, hf, hl, hy⟩
    refine step_ds hq hy (fun w' F2 k e => ⟨F2, _, v', ts', tk', m', k, fun _ => hf (by decide), ?_, e⟩) (lcrown_any w wr p F' s' q fr mn g v' ts' tk' m' _ (by omega) (by omega) hk hq.hd)
    have := wrb_len s' fr (hd g)
    rw [hd_len] at this
    omega
  · rintro wr ⟨F', s', v', ts', tk', m', hq, hf, hl, hy⟩
    exact step_ds hq hy (fun w' F2 k e => ⟨F2, _, v', ts', tk', m', k, fun _ => hf (by decide), e⟩) (lsync_any w wr p F' s' fr mn (by omega) hq.hd.dl)
end Go.Proofs.YtjpaodepnacimaaGreatDoor
namespace Go.Proofs.YtjpaodepnacimaaGreatDoor
open Go.RowKit Go.Proofs.Fd Go.Proofs.Dk Go.Proofs.Lg
set_option maxRecDepth 20000
def genr (b : Bs) : Nat := if nm ((b.drop 4).take 4) < 1 ∨ 2147483647 < nm ((b.drop 4).take 4) ∨ ¬ b = hd (nm ((b.drop 4).take 4)) then 0 else nm ((b.drop 4).take 4)
theorem four (b : Bs) (h : 8 ≤ b.length) : nm ((b.drop 4).take 4) = ((b[4].toNat * 256 + b[5].toNat) * 256 + b[6].toNat) * 256 + b[7].toNat := by
  have e : (b.drop 4).take 4 = [b[4], b[5], b[6], b[7]] := by
    apply List.ext_getElem
    · simp; omega
    · intro i h1 h2
      have : i < 4 := by simpa using h2
      rcases (by omega : i = 0 ∨ i = 1 ∨ i = 2 ∨ i = 3) with rfl | rfl | rfl | rfl <;> simp
  rw [e, nm]
  simp
end Go.Proofs.YtjpaodepnacimaaGreatDoor
namespace Go.Proofs.YtjpaodepnacimaaGreatDoor
open Go.RowKit Go.Proofs.Fd Go.Proofs.Dk Go.Proofs.Lg
set_option maxRecDepth 20000
theorem syS_n (s : St) : (syS s).n = s.n := by
  unfold syS
  split
  · rfl
  · split <;> rfl
theorem wrs_n : ∀ (bs : List Bs) (s : St) (k : Nat), (wrs s k bs).2.n = s.n
  | [], _, _ => rfl
  | b :: bs, s, k => by
    rw [wrs]
    by_cases h : wrE s (k : Int) b = 0
    · rw [thn_ok h]
      exact (wrs_n bs _ _).trans (wrS_n s _ b)
    · rw [thn_no h]
      exact wrS_n s _ b
theorem wrb_n (s : St) (k : Nat) (b : Bs) : (wrb s k b).2.n = s.n := wrs_n _ s k
theorem cls_n : ∀ (m : Nat) (s : St) (k : Nat) (d : Bool), (cls s k m d).2.n = s.n
  | 0, s, k, d => by
    rw [cls]
    split
    · exact syS_n s
    · rfl
  | m + 1, s, k, d => by
    rw [cls]
    split
    · exact cls_n m s _ d
    · by_cases h : wrE s (k : Int) (zr 64) = 0
      · rw [thn_ok h]
        exact (cls_n m _ _ true).trans (wrS_n s _ _)
      · rw [thn_no h]
        exact wrS_n s _ _
theorem cln_n (s : St) (k m : Nat) : (cln s k m).2.n = s.n := by
  unfold cln
  split
  · rfl
  · exact cls_n m s k false
structure Rb (w : World) (d : Nat) (G : Nat → Prop) (wr : World) (G' : Nat → Prop) (s : St) (q h g : Nat) (v : Value) (ts : List Bs) (tk : Nat) (m : Bs) : Prop where
  rd : Rd wr d G' s q h g v ts tk m
  nx : Nx w G G'
  bf : Bf G w wr
  new : ∀ z, HFt q v z → w.heap.size ≤ z
section
variable {w : World} {d : Nat} {G : Nat → Prop} {wr : World} {G' : Nat → Prop} {s : St} {q h g : Nat} {v : Value} {ts : List Bs} {tk : Nat} {m : Bs}
theorem Rb.later (k : Rb w d G wr G' s q h g v ts tk m) {w' : World} (hb : Below wr.heap.size wr w') : Rb w d G w' G' s q h g v ts tk m := ⟨k.rd.later hb, k.nx, k.bf.later hb, k.new⟩
theorem Rb.ds (k : Rb w d G wr G' s q h g v ts tk m) {w' : World} {s' : St} (x : DSt wr d G' s' w') : ∃ G'', Rb w d G w' G'' s' q h g v ts tk m := by
  obtain ⟨G2, x1, x2, x3⟩ := x
  exact ⟨G2, k.rd.disk x1 x2 x3, k.nx.trans x2 k.bf.size, k.bf.trans k.nx x3, k.new⟩
theorem Rb.put (k : Rb w d G wr G' s q h g v ts tk m) {w' : World} {G2 : Nat → Prop} {s' : St} {v' : Value} {ts' : List Bs} {tk' : Nat} {m' : Bs} (x : Rd w' d G2 s' q h g v' ts' tk' m') (n1 : Nx wr G' G2) (n2 : Nx wr (HFt q v) (HFt q v')) (b : Bf (FQ G' q v) wr w') : Rb w d G w' G2 s' q h g v' ts' tk' m' := by
  have hs := k.bf.size
  refine ⟨x, k.nx.trans n1 hs, k.bf.trans (fun y hy => ?_) b, fun z hz => ?_⟩
  · rcases hy with e | e
    · exact k.nx y e
    · exact .inr (k.new y e)
  · rcases n2 z hz with e | e
    · exact k.new z e
    · omega
end
end Go.Proofs.YtjpaodepnacimaaGreatDoor
namespace Go.Proofs.YtjpaodepnacimaaGreatDoor
open Go.RowKit Go.Proofs.Fd Go.Proofs.Dk Go.Proofs.Lg
set_option maxRecDepth 20000
def BnP (w va : World) (p : Nat) (F : Nat → Prop) (fr mn g : Nat) (l : List Bs) (y : Int × St) (e : Ending) (w' : World) : Prop :=
  ∃ F', Dl w w' p F' y.2 ∧ Nx va F F' ∧ Bf F va w' ∧
    (y.1 = 0 ∧ (∃ v, e = .returned (.tuple #[hv p fr mn g v (tkn 1 l) (mks (hm g) l), .int .i64 0]) ∧ OwnsS w' v l ∧ ∀ x, v.ownBlock = some x → va.heap.size ≤ x ∧ ¬ F' x) ∨ y.1 ≠ 0 ∧ e = .returned (.tuple #[.agg hz0.toArray, .int .i64 y.1]))
theorem blk_at (w : World) (cs : List Value) (ty : TypeId) (hn : cs ≠ []) (k : Nat) (hk : w.heap.size = k) : Blk (w.alloc (.cells cs.toArray ty)) k cs := by
  subst hk
  exact Blk.new w cs ty hn
theorem size1 (w : World) (o : Obj) : (w.alloc o).heap.size = w.heap.size + 1 := by simp
theorem begin_at (w va : World) (p : Nat) (F : Nat → Prop) (s : St) (fr mn g : Nat) (a : Option Addr) (n c : Nat) (l : List Bs) (y : Int × St) (h : Dl w va p F s) (hx : TxAt va a l) (ha : Ap a l F) (hl : s.l.length + 2 * mn + 300 ≤ 1000000) (hy : y = thn (cln s fr mn) (k1 fr g l)) (t1 t2 t3 t4 : TypeId) :
    BgP w va p F fr mn g a n c l (va.heap.size + 1 + 1) (va.heap.size + 1 + 1 + 1) (va.heap.size + 1) s.n y 0 ((((va.alloc (.cells #[.pointer (some ⟨p, 0, none⟩), .int .i64 (fr : Int), .int .i64 (mn : Int)] t1)).alloc (.cells hz0.toArray t2)).alloc (.cells (hc p fr mn g (.slice none 0 0) 0 [] [.slice a n c]).toArray t3)).alloc (.cells (fsv (va.heap.size + 1 + 1) p fr mn).toArray t4)) := by
  obtain ⟨v1, e1⟩ : ∃ v1, va.alloc (.cells #[.pointer (some ⟨p, 0, none⟩), .int .i64 (fr : Int), .int .i64 (mn : Int)] t1) = v1 := ⟨_, rfl⟩
  have b1 : Below va.heap.size va v1 := by rw [← e1]; exact nb _ _
  have s1 : v1.heap.size = va.heap.size + 1 := by rw [← e1]; exact size1 _ _
  rw [e1]
  obtain ⟨v2, e2⟩ : ∃ v2, v1.alloc (.cells hz0.toArray t2) = v2 := ⟨_, rfl⟩
  have b2 : Below v1.heap.size v1 v2 := by rw [← e2]; exact nb _ _
  have s2 : v2.heap.size = va.heap.size + 1 + 1 := by rw [← e2, size1, s1]
  have r2 : Blk v2 (va.heap.size + 1) hz0 := by rw [← e2]; exact blk_at v1 hz0 t2 (by simp) _ s1
  rw [e2]
  obtain ⟨v3, e3⟩ : ∃ v3, v2.alloc (.cells (hc p fr mn g (.slice none 0 0) 0 [] [.slice a n c]).toArray t3) = v3 := ⟨_, rfl⟩
  have b3 : Below v2.heap.size v2 v3 := by rw [← e3]; exact nb _ _
  have s3 : v3.heap.size = va.heap.size + 1 + 1 + 1 := by rw [← e3, size1, s2]
  have r3 : Blk v3 (va.heap.size + 1 + 1) (hc p fr mn g (.slice none 0 0) 0 [] [.slice a n c]) := by rw [← e3]; exact blk_at v2 _ t3 (by simp) _ s2
  rw [e3]
  obtain ⟨v4, e4⟩ : ∃ v4, v3.alloc (.cells (fsv (va.heap.size + 1 + 1) p fr mn).toArray t4) = v4 := ⟨_, rfl⟩
  have b4 : Below v3.heap.size v3 v4 := by rw [← e4]; exact nb _ _
  have r4 : Blk v4 (va.heap.size + 1 + 1 + 1) (fsv (va.heap.size + 1 + 1) p fr mn) := by rw [← e4]; exact blk_at v3 _ t4 (by simp [fsv]) _ s3
  rw [e4]
  clear e1 e2 e3 e4
  have bb : Below va.heap.size va v4 := chain (chain (chain b1 b2) b3) b4
  have lt : ∀ x, F x → x < va.heap.size := fun x e => h.at_.lt e
  have hh : ∀ x, HFt (va.heap.size + 1 + 1) (.slice none 0 0) x → x = va.heap.size + 1 + 1 := fun x e => by
    rcases e with e | e
    · exact e
    · cases e
  refine ⟨F, s, .slice none 0 0, [], 0, [], ⟨⟨h.later bb, ⟨r3.later b4, owns_nilS _, nofun⟩, fun x e => ?_⟩, Nx.refl _ _, Bf.of bb, r4, (r2.later b3).later b4, hx.later bb, fun x e h0 d => ?_, by omega, by omega, by omega, by omega, by omega, fun e => ?_, fun e => ?_, nofun, nofun, nofun⟩, fun c => absurd c (by decide), rfl, rfl, rfl, hl, hy⟩
  · have := hh x e
    subst this
    exact ⟨fun d => by have := lt _ d; omega, by have := h.below.size; omega⟩
  · rcases d with d | d
    · exact ha x e h0 d
    · have h3 := hh _ d
      have := hx.lt x e h0
      omega
  · have := lt _ e
    omega
  · have := lt _ e
    omega
set_option maxHeartbeats 4000000 in
theorem lbegin_any (w va : World) (p : Nat) (F : Nat → Prop) (s : St) (fr mn g : Nat) (a : Option Addr) (n c : Nat) (l : List Bs) (h1 : 1 ≤ mn) (h2 : fr + mn ≤ s.n) (hn : l.length = n) (ht : ∀ t ∈ l, t.length ≤ 2000) (hs : tkn 1 l ≤ mn) (hl : s.l.length + 2 * mn + 300 ≤ 1000000) (hk : Hid (Kh w)) (h : Hid (Dl w va p F s)) (hx : Hid (TxAt va a l)) (ha : Hid (Ap a l F)) :
    Calls Tryz.prog 65 #[plc p fr mn, .int .i64 (g : Int), .slice a n c] va fun e w' => BnP w va p F fr mn g l (bgn s fr mn g l) e w' := by
  have hB := h.out.at_.1.n2
  have BS := begin_steps w va p F fr mn g a n c l (va.heap.size + 1 + 1) (va.heap.size + 1 + 1 + 1) (va.heap.size + 1) s.n (bgn s fr mn g l) h1 h2 hB hn ht hs hk.out
  have HL : Hid (s.l.length + 2 * mn + 300 ≤ 1000000) := hl
  have H9 : Hid (w.heap.size ≤ va.heap.size) := h.out.below.size
  obtain ⟨y, hy⟩ : ∃ y, bgn s fr mn g l = y := ⟨_, rfl⟩
  have HY : Hid (y = thn (cln s fr mn) (k1 fr g l)) := hy.symm.trans (bgn_k1 s fr mn g l)
  rw [hy] at BS ⊢
  have BS' : Hid _ := BS
  clear BS hy hn ht hs h1 h2 hB hl
  unfold plc
  go_enter Tryz.func65, Tryz.ntmps65
  go_wp2_with fail
  refine Calls.mono (BS'.out _ (begin_at w va p F s fr mn g a n c l y h.out hx.out ha.out HL.out HY.out _ _ _ _)) ?_
  rintro e w1 ⟨x, rfl, hst⟩
  by_cases h0 : x = 0
  · subst h0
    have J : Hid (BgP w va p F fr mn g a n c l (va.heap.size + 1 + 1) (va.heap.size + 1 + 1 + 1) (va.heap.size + 1) s.n y 5 w1) := by
      rcases hst with ⟨-, k⟩ | ⟨k, -⟩
      · exact k
      · exact absurd rfl k
    clear hst BS' h hx ha HY HL
    obtain ⟨F', s', v', ts', tk', m', hq, hf, hy⟩ := J.out
    obtain ⟨e1, e2, e3⟩ := hf (by decide)
    rw [e1, e2, e3] at hq
    have HQ : Hid (Bq w va p F fr mn g a n c l _ _ _ w1 F' s' v' l _ _) := hq
    have HY : Hid (y = (0, s')) := hy
    clear hq hf hy J e1 e2 e3
    obtain ⟨xa, xn, xc, rfl⟩ := owns_sliceS HQ.out.hd.hf.row
    obtain ⟨tk, htk⟩ : ∃ tk, tkn 1 l = tk := ⟨_, rfl⟩
    obtain ⟨m, hmm⟩ : ∃ m, mks (hm g) l = m := ⟨_, rfl⟩
    have HTM : Hid (tkn 1 l = tk ∧ mks (hm g) l = m) := ⟨htk, hmm⟩
    rw [htk, hmm] at HQ
    clear htk hmm
    have k0 := HQ.out.hd.hf.bk.c 0 _ rfl
    have k1 := HQ.out.hd.hf.bk.c 1 _ rfl
    have k2 := HQ.out.hd.hf.bk.c 2 _ rfl
    have k3 := HQ.out.hd.hf.bk.c 3 _ rfl
    have k4 := HQ.out.hd.hf.bk.c 4 _ rfl
    have k5 := HQ.out.hd.hf.bk.c 5 _ rfl
    have k6 := HQ.out.hd.hf.bk.c 6 _ rfl
    have z0 := HQ.out.br.c 0 _ rfl
    have z1 := HQ.out.br.c 1 _ rfl
    have z2 := HQ.out.br.c 2 _ rfl
    have z3 := HQ.out.br.c 3 _ rfl
    have z4 := HQ.out.br.c 4 _ rfl
    have z5 := HQ.out.br.c 5 _ rfl
    have z6 := HQ.out.br.c 6 _ rfl
    have zf := HQ.out.br.f
    have hne := HQ.out.qR
    have FI : Hid (Blk (w1.setCells (va.heap.size + 1) 0 (hc p fr mn g (.slice xa xn xc) tk m [])) (va.heap.size + 1) (hc p fr mn g (.slice xa xn xc) tk m []) ∧ BnP w va p F fr mn g l y (.returned (.tuple #[hv p fr mn g (.slice xa xn xc) tk m, .int .i64 0])) (w1.setCells (va.heap.size + 1) 0 (hc p fr mn g (.slice xa xn xc) tk m []))) := by
      have ho : ∀ x, x ≠ va.heap.size + 1 → (w1.setCells (va.heap.size + 1) 0 (hc p fr mn g (.slice xa xn xc) tk m [])).heap[x]? = w1.heap[x]? := fun x e => setCells_other w1 _ 0 _ x e
      have hbf : Bf (fun x => x = va.heap.size + 1) w1 (w1.setCells (va.heap.size + 1) 0 (hc p fr mn g (.slice xa xn xc) tk m [])) := Bf.sets (fun x => x = va.heap.size + 1) _ rfl _ _ _
      refine ⟨HQ.out.br.put _ rfl, F', ?_, HQ.out.nx, ?_, .inl ⟨by rw [HY.out], .slice xa xn xc, by rw [HTM.out.1, HTM.out.2], ?_, fun x e => ⟨HQ.out.nv x e, (HQ.out.hd.ap x (.inr e)).1⟩⟩⟩
      · rw [HY.out]
        exact ⟨HQ.out.hd.dl.at_.other hbf (fun x e d => HQ.out.fR (by rw [← d]; exact e)), HQ.out.hd.dl.new, below_sets (by have := HQ.out.bf.size; have := HQ.out.hd.dl.below.size; have := HQ.out.nR; have h9 := H9.out; omega) _ 0 HQ.out.hd.dl.below⟩
      · exact HQ.out.bf.trans (fun x e => .inr (by rw [e]; exact Nat.le_succ _)) hbf
      · exact ownsRow_same HQ.out.hd.hf.row (fun x e => ho x (fun d => HQ.out.vR (by rw [e, d])))
    clear HQ HY HTM
    go_wp2
    refine bodyPost_ret (v := .tuple #[hv p fr mn g (.slice xa xn xc) tk m, .int .i64 0]) ?_ rfl FI.out.2
    exact res_c2 Tryz.results65 _ _ (va.heap.size + 1) _ _ (by kernel_rfl) (by kernel_rfl) (run_loadVar_mid _ (va.heap.size + 1) 0 130 (hc p fr mn g (.slice xa xn xc) tk m []) _ FI.out.1.r Tryz.underlying130 rfl (by kernel_rfl))
  · have J : Hid (BgE w va p F (va.heap.size + 1) y x w1) := by
      rcases hst with ⟨k, -⟩ | ⟨-, k⟩
      · exact absurd k h0
      · exact k
    clear hst BS' h hx ha HY HL
    obtain ⟨F', hr0⟩ : ∃ F', Dl w w1 p F' y.2 ∧ Nx va F F' ∧ Bf F va w1 ∧ Blk w1 (va.heap.size + 1) hz0 ∧ ¬ F' (va.heap.size + 1) := J.out.2
    have hr : Dl w w1 p F' y.2 ∧ Nx va F F' ∧ Bf F va w1 ∧ Blk w1 (va.heap.size + 1) hz0 := ⟨hr0.1, hr0.2.1, hr0.2.2.1, hr0.2.2.2.1⟩
    have FR : Hid (¬ F' (va.heap.size + 1)) := hr0.2.2.2.2
    clear hr0
    have z0 := hr.2.2.2.c 0 _ rfl
    have z1 := hr.2.2.2.c 1 _ rfl
    have z2 := hr.2.2.2.c 2 _ rfl
    have z3 := hr.2.2.2.c 3 _ rfl
    have z4 := hr.2.2.2.c 4 _ rfl
    have z5 := hr.2.2.2.c 5 _ rfl
    have z6 := hr.2.2.2.c 6 _ rfl
    have zf := hr.2.2.2.f
    have FI : Hid (Blk (w1.setCells (va.heap.size + 1) 0 hz0) (va.heap.size + 1) hz0 ∧ BnP w va p F fr mn g l y (.returned (.tuple #[.agg hz0.toArray, .int .i64 x])) (w1.setCells (va.heap.size + 1) 0 hz0)) := by
      have hbf : Bf (fun x => x = va.heap.size + 1) w1 (w1.setCells (va.heap.size + 1) 0 hz0) := Bf.sets (fun x => x = va.heap.size + 1) _ rfl _ _ _
      have hR : ¬ F' (va.heap.size + 1) := FR.out
      refine ⟨hr.2.2.2.put _ rfl, F', ?_, hr.2.1, ?_, .inr ⟨by rw [J.out.1]; exact h0, by rw [J.out.1]⟩⟩
      · exact ⟨hr.1.at_.other hbf (fun x e d => hR (by rw [← d]; exact e)), hr.1.new, below_sets (by have h9 := H9.out; omega) _ 0 hr.1.below⟩
      · exact hr.2.2.1.trans (fun x e => .inr (by rw [e]; exact Nat.le_succ _)) hbf
    clear hr J
    go_wp2
    refine bodyPost_ret (v := .tuple #[.agg hz0.toArray, .int .i64 x]) ?_ rfl FI.out.2
    exact res_c2 Tryz.results65 _ _ (va.heap.size + 1) _ _ (by kernel_rfl) (by kernel_rfl) (run_loadVar_mid _ (va.heap.size + 1) 0 130 hz0 _ FI.out.1.r Tryz.underlying130 rfl (by kernel_rfl))
end Go.Proofs.YtjpaodepnacimaaGreatDoor
