/- Parts: SyG, SyH. -/
import Derived.Test.YtageoeogofeckaaGreatDoorZtG31
namespace Go.Proofs.YtageoeogofeckaaGreatDoor
open Go.RowKit Go.Proofs.Fd Go.Proofs.Dk Go.Proofs.Lg
set_option maxRecDepth 20000
def PL (w w2 : World) (p : Nat) (s : St) (o : Option Lo) (pl : Option Addr) (Ft : Nat → Prop) : Prop :=
  match o with
  | none => pl = none ∧ Dl w w2 p Ft s
  | some x => ∃ q F v, pl = some ⟨q, 0, none⟩ ∧ Lz w w2 p F s q v x ∧ Ft = FH F q v
def RL (w2 : World) (d : Nat) (s : St) (o : Option Lo) (kl : Option Addr) (Gt : Nat → Prop) : Prop :=
  match o with
  | none => kl = none ∧ DAt w2 d Gt s
  | some x => ∃ q G v, kl = some ⟨q, 0, none⟩ ∧ Rl w2 d G s q v x ∧ Gt = FQ G q v
section
variable {w w2 : World} {p d : Nat} {s : St} {o : Option Lo} {pl kl : Option Addr} {Ft Gt : Nat → Prop}
theorem PL.other (h : PL w w2 p s o pl Ft) {K : Nat → Prop} {w3 : World} (hb : Bf K w2 w3) (hK : ∀ z, Ft z → ¬ K z) (hw : ∀ z, K z → w.heap.size ≤ z) : PL w w3 p s o pl Ft := by
  match o, h with
  | none, ⟨e, k⟩ => exact ⟨e, ⟨k.at_.other hb hK, k.new, k.below.trans (hb.below hw k.below.size)⟩⟩
  | some x, ⟨q, F, v, e, k, eF⟩ =>
    subst eF
    exact ⟨q, F, v, e, k.other hb hK hw, rfl⟩
theorem PL.lt (h : PL w w2 p s o pl Ft) {z : Nat} (hz : Ft z) : z < w2.heap.size := by
  match o, h with
  | none, ⟨e, k⟩ => exact k.at_.lt hz
  | some x, ⟨q, F, v, e, k, eF⟩ =>
    subst eF
    exact (k.fh hz).1
theorem PL.dl (h : PL w w2 p s o pl Ft) : ∃ F, Dl w w2 p F s ∧ ∀ z, F z → Ft z := by
  match o, h with
  | none, ⟨e, k⟩ => exact ⟨Ft, k, fun _ => id⟩
  | some x, ⟨q, F, v, e, k, eF⟩ =>
    subst eF
    exact ⟨F, k.hd_.dl, fun z hz => .inl hz⟩
theorem RL.other (h : RL w2 d s o kl Gt) {K : Nat → Prop} {w3 : World} (hb : Bf K w2 w3) (hK : ∀ z, Gt z → ¬ K z) : RL w3 d s o kl Gt := by
  match o, h with
  | none, ⟨e, k⟩ => exact ⟨e, k.other hb hK⟩
  | some x, ⟨q, G, v, e, k, eF⟩ =>
    subst eF
    exact ⟨q, G, v, e, k.other hb hK, rfl⟩
theorem RL.lt (h : RL w2 d s o kl Gt) {z : Nat} (hz : Gt z) : z < w2.heap.size := by
  match o, h with
  | none, ⟨e, k⟩ => exact k.lt hz
  | some x, ⟨q, G, v, e, k, eF⟩ =>
    subst eF
    exact k.fq hz
theorem RL.at_ (h : RL w2 d s o kl Gt) : ∃ G, DAt w2 d G s ∧ ∀ z, G z → Gt z := by
  match o, h with
  | none, ⟨e, k⟩ => exact ⟨Gt, k, fun _ => id⟩
  | some x, ⟨q, G, v, e, k, eF⟩ =>
    subst eF
    exact ⟨G, k.rd.at_, fun z hz => .inl hz⟩
end
structure L2 (w wr : World) (B : Nat) (most : Int) (p d : Nat) (sP : St) (oP : Option Lo) (sR : St) (oR : Option Lo) (ps pk pl kl : Option Addr) (Ft Gt : Nat → Prop) : Prop where
  bk : Blk wr B (btc most p d (.pointer ps) (.pointer pk))
  pp : PL w wr p sP oP pl Ft
  rp : RL wr d sR oR kl Gt
  fg : ∀ z, Ft z → ¬ Gt z
  fb : ¬ Ft B
  gb : ¬ Gt B
  nF : ∀ z, Ft z → w.heap.size ≤ z
  nG : ∀ z, Gt z → w.heap.size ≤ z
  nB : w.heap.size ≤ B
  sz : w.heap.size ≤ wr.heap.size
def Lx (w w0 : World) (U0 : Nat → Prop) (wr : World) (B : Nat) (most : Int) (p d : Nat) (sP : St) (oP : Option Lo) (sR : St) (oR : Option Lo) (ps pk pl kl : Option Addr) : Prop := ∃ Ft Gt, L2 w wr B most p d sP oP sR oR ps pk pl kl Ft Gt ∧ Nx w0 U0 (UU Ft Gt B) ∧ Bf U0 w0 wr
section
variable {w w0 : World} {U0 : Nat → Prop} {wr : World} {B : Nat} {most : Int} {p d : Nat} {sP sR : St} {oP oR : Option Lo} {ps pk pl kl : Option Addr} {Ft Gt : Nat → Prop}
theorem L2.later (h : L2 w wr B most p d sP oP sR oR ps pk pl kl Ft Gt) {w1 : World} (hb : Below wr.heap.size wr w1) : L2 w w1 B most p d sP oP sR oR ps pk pl kl Ft Gt :=
  ⟨h.bk.later hb, h.pp.other (K := fun _ => False) (Bf.of hb) (fun _ _ => id) (fun _ c => c.elim), h.rp.other (K := fun _ => False) (Bf.of hb) (fun _ _ => id), h.fg, h.fb, h.gb, h.nF, h.nG, h.nB, Nat.le_trans h.sz hb.size⟩
theorem L2.prog (h : L2 w wr B most p d sP oP sR oR ps pk pl kl Ft Gt) {w1 : World} {s' : St} {o' : Option Lo} {pl' : Option Addr} {Ft' : Nat → Prop} (k : PL w w1 p s' o' pl' Ft') (n : Nx wr Ft Ft') (f : Bf Ft wr w1) : L2 w w1 B most p d s' o' sR oR ps pk pl' kl Ft' Gt := by
  refine ⟨h.bk.bf f h.fb, k, h.rp.other f (fun z hz c => h.fg z c hz), fun z hz c => ?_, fun c => ?_, h.gb, fun z hz => ?_, h.nG, h.nB, Nat.le_trans h.sz f.size⟩
  · rcases n z hz with e | e
    · exact h.fg z e c
    · have := h.rp.lt c
      omega
  · rcases n B c with e | e
    · exact h.fb e
    · have := h.bk.lt
      omega
  · rcases n z hz with e | e
    · exact h.nF z e
    · have := h.sz
      omega
theorem L2.ref (h : L2 w wr B most p d sP oP sR oR ps pk pl kl Ft Gt) {w1 : World} {s' : St} {o' : Option Lo} {kl' : Option Addr} {Gt' : Nat → Prop} (k : RL w1 d s' o' kl' Gt') (n : Nx wr Gt Gt') (f : Bf Gt wr w1) : L2 w w1 B most p d sP oP s' o' ps pk pl kl' Ft Gt' := by
  refine ⟨h.bk.bf f h.gb, h.pp.other f h.fg h.nG, k, fun z hz c => ?_, h.fb, fun c => ?_, h.nF, fun z hz => ?_, h.nB, Nat.le_trans h.sz f.size⟩
  · rcases n z c with e | e
    · exact h.fg z hz e
    · have := h.pp.lt hz
      omega
  · rcases n B c with e | e
    · exact h.gb e
    · have := h.bk.lt
      omega
  · rcases n z hz with e | e
    · exact h.nG z e
    · have := h.sz
      omega
theorem Lx.later (h : Lx w w0 U0 wr B most p d sP oP sR oR ps pk pl kl) {w1 : World} (hb : Below wr.heap.size wr w1) : Lx w w0 U0 w1 B most p d sP oP sR oR ps pk pl kl := by
  obtain ⟨Ft, Gt, k, nn, ff⟩ := h
  exact ⟨Ft, Gt, k.later hb, nn, ff.later hb⟩
theorem Lx.sx (h : Lx w w0 U0 wr B most p d sP oP sR oR ps pk pl kl) : Sx2 w w0 U0 wr B most p d sP sR ps pk := by
  obtain ⟨Ft, Gt, k, nn, ff⟩ := h
  obtain ⟨F, dl, hF⟩ := k.pp.dl
  obtain ⟨G, at_, hG⟩ := k.rp.at_
  exact ⟨F, G, ⟨k.bk, dl, at_, fun z hz c => k.fg z (hF z hz) (hG z c), fun c => k.fb (hF B c), fun c => k.gb (hG B c), fun z hz => k.nG z (hG z hz), k.nB⟩, UU.less nn hF hG, ff⟩
theorem Sx2.lx (h : Sx2 w w0 U0 wr B most p d sP sR ps pk) : Lx w w0 U0 wr B most p d sP none sR none ps pk none none := by
  obtain ⟨F, G, k, nn, ff⟩ := h
  exact ⟨F, G, ⟨k.bk, ⟨rfl, k.dl⟩, ⟨rfl, k.at_⟩, k.fg, k.fb, k.gb, k.dl.new, k.nG, k.nB, k.dl.below.size⟩, nn, ff⟩
end
def oLo (o : (Int × St) × Lo) : Option Lo := if o.1.1 = 0 then some o.2 else none
theorem flopenP_any (w w0 : World) (U0 : Nat → Prop) (wr : World) (B : Nat) (most : Int) (p d : Nat) (sP sR : St) (oR : Option Lo) (ps pk kl : Option Addr) (hn : sP.n ≤ 1024) (hl : sP.l.length + 2000 ≤ 1000000) (hk : Kh w) (h : Lx w w0 U0 wr B most p d sP none sR oR ps pk none kl) :
    Calls Tryz.prog 31 #[.pointer (some ⟨p, 0, none⟩)] wr fun e w1 => ∃ pl, e = .returned (.tuple #[.pointer pl, .int .i64 (opn sP).1.1]) ∧ Lx w w0 U0 w1 B most p d (opn sP).1.2 (oLo (opn sP)) sR oR ps pk pl kl ∧ (oLo (opn sP) = none ↔ pl = none) := by
  obtain ⟨Ft, Gt, k, nn, ff⟩ := h
  have k0 := k
  obtain ⟨-, dl⟩ := k.pp
  refine (lopen_all w wr p Ft sP hl hk dl).mono ?_
  rintro e w1 ⟨F', d1, d2, d3, hres⟩
  have ok := fun h => opn_ok (s := sP) h dl.at_.1
  rcases hres with ⟨h0, q, v, he, hd, hnew⟩ | ⟨h0, he⟩
  · obtain ⟨o4, oh, on, otk, ook⟩ := ok h0
    have e2 : oLo (opn sP) = some (opn sP).2 := if_pos h0
    rw [e2, h0]
    have nF : Nx wr Ft (FH F' q v) := fun z hz => by
      rcases hz with c | c
      · exact d2 z c
      · exact .inr (hnew z c)
    exact ⟨some ⟨q, 0, none⟩, he, ⟨FH F' q v, Gt, k0.prog (o' := some (opn sP).2) ⟨q, F', v, rfl, ⟨by rw [on]; exact hd, oh, by rw [on]; exact o4, by rw [on]; exact hn, by rw [on]; exact otk, ook⟩, rfl⟩ nF d3, UU.prog nn ff nF d3⟩, ⟨(fun c => by cases c), (fun c => by cases c)⟩⟩
  · have e2 : oLo (opn sP) = none := if_neg h0
    rw [e2]
    exact ⟨none, he, ⟨F', Gt, k0.prog (o' := none) ⟨rfl, d1⟩ d2 d3, UU.prog nn ff d2 d3⟩, ⟨fun _ => rfl, fun _ => rfl⟩⟩
theorem flopenR_any (w w0 : World) (U0 : Nat → Prop) (wr : World) (B : Nat) (most : Int) (p d : Nat) (sP sR : St) (oP : Option Lo) (ps pk pl : Option Addr) (hn : sR.n ≤ 1024) (hl : sR.l.length + 5000 ≤ 1000000) (hh : Hh sR) (h : Lx w w0 U0 wr B most p d sP oP sR none ps pk pl none) :
    Calls Tryz.prog 39 #[.pointer (some ⟨d, 0, none⟩)] wr fun e w1 => ∃ kl, e = .returned (.tuple #[.pointer kl, .int .i64 (opn sR).1.1]) ∧ Lx w w0 U0 w1 B most p d sP oP (opn sR).1.2 (oLo (opn sR)) ps pk pl kl ∧ (oLo (opn sR) = none ↔ kl = none) := by
  obtain ⟨Ft, Gt, k, nn, ff⟩ := h
  have k0 := k
  obtain ⟨-, at_⟩ := k.rp
  have hs : opnr sR = opn sR := opn_same at_.1 hh
  refine (ropen_any wr d Gt sR hn hl at_).mono ?_
  rw [hs]
  rintro e w1 ⟨pv, G', he, dw, hno, hok⟩
  by_cases h0 : (opn sR).1.1 = 0
  · obtain ⟨q, v, rfl, rl, hnew⟩ := hok h0
    have e2 : oLo (opn sR) = some (opn sR).2 := if_pos h0
    rw [e2]
    have nG : Nx wr Gt (FQ G' q v) := fun z hz => by
      rcases hz with c | c
      · exact dw.nx z c
      · exact .inr (hnew z c)
    exact ⟨some ⟨q, 0, none⟩, he, ⟨Ft, FQ G' q v, k0.ref (o' := some (opn sR).2) ⟨q, G', v, rfl, rl, rfl⟩ nG dw.bf, UU.ref nn ff nG dw.bf⟩, ⟨(fun c => by cases c), (fun c => by cases c)⟩⟩
  · obtain rfl := hno h0
    have e2 : oLo (opn sR) = none := if_neg h0
    rw [e2]
    exact ⟨none, he, ⟨Ft, G', k0.ref (o' := none) ⟨rfl, dw.at_⟩ dw.nx dw.bf, UU.ref nn ff dw.nx dw.bf⟩, ⟨fun _ => rfl, fun _ => rfl⟩⟩
theorem flappP_any (w w0 : World) (U0 : Nat → Prop) (wr : World) (B : Nat) (most : Int) (p d : Nat) (sP sR : St) (x : Lo) (oR : Option Lo) (ps pk pl kl : Option Addr) (X : ByteArray) (hl : sP.l.length + 100 ≤ 1000000) (hk : Kh w) (h : Lx w w0 U0 wr B most p d sP (some x) sR oR ps pk pl kl) :
    Calls Tryz.prog 42 #[.pointer pl, .string X] wr fun e w1 => e = .returned (.int .i64 (app sP x X.data.toList).1.1) ∧ Lx w w0 U0 w1 B most p d (app sP x X.data.toList).1.2 (some (app sP x X.data.toList).2) sR oR ps pk pl kl := by
  obtain ⟨Ft, Gt, k, nn, ff⟩ := h
  have k0 := k
  obtain ⟨q, F, v, rfl, z, rfl⟩ := k.pp
  refine (lzappend_any w wr p F sP q v x X hl hk z).mono ?_
  rintro e w1 ⟨he, F', v', z', n, f⟩
  exact ⟨he, _, Gt, k0.prog (o' := some (app sP x X.data.toList).2) ⟨q, F', v', rfl, z', rfl⟩ n.fh f, UU.prog nn ff n.fh f⟩
theorem flappR_any (w w0 : World) (U0 : Nat → Prop) (wr : World) (B : Nat) (most : Int) (p d : Nat) (sP sR : St) (x : Lo) (oP : Option Lo) (ps pk pl kl : Option Addr) (X : ByteArray) (hl : sR.l.length + 100 ≤ 1000000) (h : Lx w w0 U0 wr B most p d sP oP sR (some x) ps pk pl kl) :
    Calls Tryz.prog 43 #[.pointer kl, .string X] wr fun e w1 => e = .returned (.int .i64 (app sR x X.data.toList).1.1) ∧ Lx w w0 U0 w1 B most p d sP oP (app sR x X.data.toList).1.2 (some (app sR x X.data.toList).2) ps pk pl kl := by
  obtain ⟨Ft, Gt, k, nn, ff⟩ := h
  have k0 := k
  obtain ⟨q, G, v, rfl, z, rfl⟩ := k.rp
  refine (rappend_any wr d G sR q v x X hl z).mono ?_
  rintro e w1 ⟨he, G', v', z', n1, n2, f⟩
  have nG : Nx wr (FQ G q v) (FQ G' q v') := fun y hy => by
    rcases hy with c | c
    · rcases n1 y c with e | e
      · exact .inl (.inl e)
      · exact .inr e
    · rcases n2 y c with e | e
      · exact .inl (.inr e)
      · exact .inr e
  exact ⟨he, Ft, _, k0.ref (o' := some (app sR x X.data.toList).2) ⟨q, G', v', rfl, z', rfl⟩ nG f, UU.ref nn ff nG f⟩
theorem flsyncP_any (w w0 : World) (U0 : Nat → Prop) (wr : World) (B : Nat) (most : Int) (p d : Nat) (sP sR : St) (x : Lo) (oR : Option Lo) (ps pk pl kl : Option Addr) (hl : sP.l.length ≤ 1000000) (h : Lx w w0 U0 wr B most p d sP (some x) sR oR ps pk pl kl) :
    Calls Tryz.prog 44 #[.pointer pl] wr fun e w1 => e = .returned (.int .i64 (syE sP)) ∧ Lx w w0 U0 w1 B most p d (syS sP) (some x) sR oR ps pk pl kl := by
  obtain ⟨Ft, Gt, k, nn, ff⟩ := h
  have k0 := k
  obtain ⟨q, F, v, rfl, z, rfl⟩ := k.pp
  refine (lzsync_any w wr p F sP q v x hl z).mono ?_
  rintro e w1 ⟨he, F', v', z', n, f⟩
  exact ⟨he, _, Gt, k0.prog (o' := some x) ⟨q, F', v', rfl, z', rfl⟩ n.fh f, UU.prog nn ff n.fh f⟩
theorem flsyncR_any (w w0 : World) (U0 : Nat → Prop) (wr : World) (B : Nat) (most : Int) (p d : Nat) (sP sR : St) (x : Lo) (oP : Option Lo) (ps pk pl kl : Option Addr) (hl : sR.l.length ≤ 1000000) (h : Lx w w0 U0 wr B most p d sP oP sR (some x) ps pk pl kl) :
    Calls Tryz.prog 45 #[.pointer (some ⟨d, 0, none⟩)] wr fun e w1 => e = .returned (.int .i64 (syE sR)) ∧ Lx w w0 U0 w1 B most p d sP oP (syS sR) (some x) ps pk pl kl := by
  obtain ⟨Ft, Gt, k, nn, ff⟩ := h
  have k0 := k
  obtain ⟨q, G, v, rfl, z, rfl⟩ := k.rp
  refine (rsync_any d G sR wr z.rd.at_ hl).mono ?_
  rintro e w1 ⟨he, G', y1, y2, y3⟩
  have hn := syS_n sR
  have nG : Nx wr (FQ G q v) (FQ G' q v) := fun y hy => by
    rcases hy with c | c
    · rcases y2 y c with e | e
      · exact .inl (.inl e)
      · exact .inr e
    · exact .inl (.inr c)
  have fG : Bf (FQ G q v) wr w1 := y3.wide fun _ c => .inl c
  exact ⟨he, Ft, _, k0.ref (o' := some x) ⟨q, G', v, rfl, ⟨z.rd.disk y1 y2 y3, z.h1, by rw [hn]; exact z.n4, by rw [hn]; exact z.n2, by rw [hn]; exact z.tk, z.ok⟩, rfl⟩ nG fG, UU.ref nn ff nG fG⟩
end Go.Proofs.YtageoeogofeckaaGreatDoor
namespace Go.Proofs.YtageoeogofeckaaGreatDoor
open Go.RowKit Go.Proofs.Fd Go.Proofs.Dk Go.Proofs.Lg
set_option maxRecDepth 20000
def F4 (B A p d : Nat) (X P : Value) (w' : World) : Prop := w'.cell? ⟨B, 1, none⟩ = some (.pointer (some ⟨p, 0, none⟩)) ∧ w'.cell? ⟨B, 2, none⟩ = some (.pointer (some ⟨d, 0, none⟩)) ∧ w'.cell? ⟨A, 2, none⟩ = some X ∧ w'.cell? ⟨A, 3, none⟩ = some P
theorem F4.later {B A p d : Nat} {X P : Value} {w w' : World} (h : F4 B A p d X P w) (hb : Below w.heap.size w w') : F4 B A p d X P w' := ⟨cell_later hb h.1, cell_later hb h.2.1, cell_later hb h.2.2.1, cell_later hb h.2.2.2⟩
theorem F4.drew {B A p d : Nat} {X P : Value} {w : World} (h : F4 B A p d X P w) : F4 B A p d X P w.drew := h.later (Below.refl _ _).drew
theorem Sx2.f4 {w w0 : World} {U0 : Nat → Prop} {wr : World} {B A : Nat} {most : Int} {p d : Nat} {sP sR : St} {ps pk : Option Addr} {X P : Value} (h : Sx2 w w0 U0 wr B most p d sP sR ps pk) (hU : ¬ U0 A) (h2 : w0.cell? ⟨A, 2, none⟩ = some X) (h3 : w0.cell? ⟨A, 3, none⟩ = some P) : F4 B A p d X P wr := by
  obtain ⟨F, G, k, nn, ff⟩ := h
  exact ⟨k.bk.c 1 _ rfl, k.bk.c 2 _ rfl, ff.cell h2 hU, ff.cell h3 hU⟩
def opf7_0 : Oper := { dst := some 49, op := Go.Op.move (Go.Operand.tmp 5), type := 71, pos := "law.go:51", after := #[], guard := none }
def opf7_1 : Oper := { dst := some 50, op := Go.Op.binOp Go.BinOp.neq 71 (Go.Operand.tmp 49) (Go.Operand.const (Go.Value.pointer none)) 71, type := 4, pos := "law.go:51", after := #[{ on := 0, ground := Go.Ground.data }], guard := none }
def opf7_2 : Oper := { dst := some 51, op := Go.Op.move (Go.Operand.tmp 50), type := 4, pos := "law.go:51", after := #[{ on := 1, ground := Go.Ground.data }], guard := none }
def opf7_3 : Oper := { dst := some 52, op := Go.Op.move (Go.Operand.tmp 7), type := 45, pos := "law.go:51", after := #[{ on := 2, ground := Go.Ground.guard }], guard := some (2, true) }
def opf7_4 : Oper := { dst := some 53, op := Go.Op.binOp Go.BinOp.neq 45 (Go.Operand.tmp 52) (Go.Operand.const (Go.Value.pointer none)) 45, type := 4, pos := "law.go:51", after := #[{ on := 3, ground := Go.Ground.data }, { on := 2, ground := Go.Ground.guard }], guard := some (2, true) }
def opf7_5 : Oper := { dst := some 54, op := Go.Op.pick (Go.Operand.tmp 51) (Go.Operand.tmp 53) (Go.Operand.const (Go.Value.bool false)), type := 4, pos := "law.go:51", after := #[{ on := 2, ground := Go.Ground.data }, { on := 4, ground := Go.Ground.data }], guard := none }
def opf7_6 : Oper := { dst := some 55, op := Go.Op.move (Go.Operand.tmp 54), type := 4, pos := "law.go:51", after := #[{ on := 5, ground := Go.Ground.data }, { on := 2, ground := Go.Ground.chain }], guard := none }
def opf7_7 : Oper := { dst := some 56, op := Go.Op.move (Go.Operand.tmp 5), type := 71, pos := "law.go:51", after := #[{ on := 6, ground := Go.Ground.guard }], guard := some (6, true) }
def opf7_8 : Oper := { dst := some 57, op := Go.Op.fieldAddr 39 (Go.Operand.tmp 3) 2, type := 0, pos := "law.go:51", after := #[{ on := 6, ground := Go.Ground.guard }], guard := some (6, true) }
def opf7_9 : Oper := { dst := some 58, op := Go.Op.load 9 (Go.Operand.tmp 57), type := 9, pos := "law.go:51", after := #[{ on := 8, ground := Go.Ground.data }, { on := 6, ground := Go.Ground.guard }], guard := some (6, true) }
def opf7_10 : Oper := { dst := some 59, op := Go.Op.call { callee := Go.Callee.value (Go.Operand.func 42), args := #[Go.Operand.tmp 56, Go.Operand.tmp 58], argTypes := #[71, 9] }, type := 24, pos := "law.go:51", after := #[{ on := 7, ground := Go.Ground.data }, { on := 9, ground := Go.Ground.data }, { on := 6, ground := Go.Ground.chain }, { on := 6, ground := Go.Ground.guard }], guard := some (6, true) }
def opf7_11 : Oper := { dst := some 60, op := Go.Op.move (Go.Operand.tmp 7), type := 45, pos := "law.go:51", after := #[{ on := 6, ground := Go.Ground.guard }], guard := some (6, true) }
def opf7_12 : Oper := { dst := some 61, op := Go.Op.fieldAddr 39 (Go.Operand.tmp 3) 2, type := 0, pos := "law.go:51", after := #[{ on := 6, ground := Go.Ground.guard }], guard := some (6, true) }
def opf7_13 : Oper := { dst := some 62, op := Go.Op.load 9 (Go.Operand.tmp 61), type := 9, pos := "law.go:51", after := #[{ on := 12, ground := Go.Ground.data }, { on := 6, ground := Go.Ground.guard }], guard := some (6, true) }
def opf7_14 : Oper := { dst := some 63, op := Go.Op.call { callee := Go.Callee.value (Go.Operand.func 43), args := #[Go.Operand.tmp 60, Go.Operand.tmp 62], argTypes := #[45, 9] }, type := 24, pos := "law.go:51", after := #[{ on := 11, ground := Go.Ground.data }, { on := 13, ground := Go.Ground.data }, { on := 10, ground := Go.Ground.chain }, { on := 6, ground := Go.Ground.guard }], guard := some (6, true) }
def opf7_15 : Oper := { dst := some 64, op := Go.Op.binOp Go.BinOp.neq 24 (Go.Operand.tmp 59) (Go.Operand.tmp 63) 24, type := 4, pos := "law.go:51", after := #[{ on := 10, ground := Go.Ground.data }, { on := 14, ground := Go.Ground.data }, { on := 6, ground := Go.Ground.guard }], guard := some (6, true) }
def opf7_16 : Oper := { dst := some 65, op := Go.Op.move (Go.Operand.tmp 64), type := 4, pos := "law.go:51", after := #[{ on := 15, ground := Go.Ground.data }, { on := 14, ground := Go.Ground.chain }, { on := 6, ground := Go.Ground.guard }], guard := some (6, true) }
def opf7_17 : Oper := { dst := some 66, op := Go.Op.move (Go.Operand.tmp 5), type := 71, pos := "law.go:51", after := #[{ on := 16, ground := Go.Ground.guard }], guard := some (16, false) }
def opf7_18 : Oper := { dst := some 67, op := Go.Op.call { callee := Go.Callee.value (Go.Operand.func 44), args := #[Go.Operand.tmp 66], argTypes := #[71] }, type := 24, pos := "law.go:51", after := #[{ on := 17, ground := Go.Ground.data }, { on := 16, ground := Go.Ground.chain }, { on := 16, ground := Go.Ground.guard }], guard := some (16, false) }
def opf7_19 : Oper := { dst := some 68, op := Go.Op.move (Go.Operand.tmp 0), type := 31, pos := "law.go:51", after := #[{ on := 16, ground := Go.Ground.guard }], guard := some (16, false) }
def opf7_20 : Oper := { dst := some 69, op := Go.Op.nilCheck (Go.Operand.tmp 68), type := 0, pos := "law.go:51", after := #[{ on := 19, ground := Go.Ground.data }, { on := 16, ground := Go.Ground.guard }], guard := some (16, false) }
def opf7_21 : Oper := { dst := some 70, op := Go.Op.fieldAddr 35 (Go.Operand.tmp 69) 2, type := 0, pos := "law.go:51", after := #[{ on := 20, ground := Go.Ground.data }, { on := 16, ground := Go.Ground.guard }], guard := some (16, false) }
def opf7_22 : Oper := { dst := some 71, op := Go.Op.load 27 (Go.Operand.tmp 70), type := 27, pos := "law.go:51", after := #[{ on := 21, ground := Go.Ground.data }, { on := 16, ground := Go.Ground.guard }], guard := some (16, false) }
def opf7_23 : Oper := { dst := some 72, op := Go.Op.call { callee := Go.Callee.value (Go.Operand.func 45), args := #[Go.Operand.tmp 71], argTypes := #[27] }, type := 24, pos := "law.go:51", after := #[{ on := 22, ground := Go.Ground.data }, { on := 18, ground := Go.Ground.chain }, { on := 16, ground := Go.Ground.guard }], guard := some (16, false) }
def opf7_24 : Oper := { dst := some 73, op := Go.Op.binOp Go.BinOp.neq 24 (Go.Operand.tmp 67) (Go.Operand.tmp 72) 24, type := 4, pos := "law.go:51", after := #[{ on := 18, ground := Go.Ground.data }, { on := 23, ground := Go.Ground.data }, { on := 16, ground := Go.Ground.guard }], guard := some (16, false) }
def opf7_25 : Oper := { dst := some 74, op := Go.Op.pick (Go.Operand.tmp 65) (Go.Operand.const (Go.Value.bool true)) (Go.Operand.tmp 73), type := 4, pos := "law.go:51", after := #[{ on := 16, ground := Go.Ground.data }, { on := 24, ground := Go.Ground.data }, { on := 6, ground := Go.Ground.guard }], guard := some (6, true) }
def opf7_26 : Oper := { dst := some 75, op := Go.Op.pick (Go.Operand.tmp 55) (Go.Operand.tmp 74) (Go.Operand.const (Go.Value.bool false)), type := 4, pos := "law.go:51", after := #[{ on := 6, ground := Go.Ground.data }, { on := 25, ground := Go.Ground.data }], guard := none }
set_option maxHeartbeats 4000000 in
theorem foreign_core (B A p d : Nat) (ak an : Int) (X : ByteArray) (pa : Option Addr) (pn pc : Nat) (z ya ys : Int) (PO : World → Prop)
    (Q0 Q1 Q2 : World → Prop) (Q3 : Option Addr → World → Prop) (Q4 Q5 Q6 Q7 Q8 : Option Addr → Option Addr → World → Prop) (wr : World) (hA : wr.heap.size = A)
    (D0 : Hid (∀ W, Q0 W → Q0 W.drew)) (D1 : Hid (∀ W, Q1 W → Q1 W.drew)) (D4 : Hid (∀ a b W, Q4 a b W → Q4 a b W.drew))
    (K0 : Hid (Q0 (wr.alloc (.cells #[.int .i64 ak, .int .i64 an, .string X, .slice pa pn pc] 39)) ∧ F4 B A p d (.string X) (.slice pa pn pc) (wr.alloc (.cells #[.int .i64 ak, .int .i64 an, .string X, .slice pa pn pc] 39))))
    (C1 : Hid (∀ W, Q0 W → Calls Tryz.prog 23 #[.pointer (some ⟨p, 0, none⟩), .slice pa pn pc] W fun e w1 => e = .returned (.int .i64 0) ∧ F4 B A p d (.string X) (.slice pa pn pc) w1 ∧ Hid (Q1 w1)))
    (C2 : Hid (∀ W, Q1 W → Calls Tryz.prog 24 #[.pointer (some ⟨d, 0, none⟩), .slice pa pn pc] W fun e w1 => e = .returned (.int .i64 0) ∧ F4 B A p d (.string X) (.slice pa pn pc) w1 ∧ Hid (Q2 w1)))
    (O1 : Hid (∀ W, Q2 W → Calls Tryz.prog 31 #[.pointer (some ⟨p, 0, none⟩)] W fun e w1 => ∃ pl, e = .returned (.tuple #[.pointer pl, .int .i64 z]) ∧ F4 B A p d (.string X) (.slice pa pn pc) w1 ∧ Hid (Q3 pl w1 ∧ (z = 0 ↔ pl ≠ none))))
    (O2 : Hid (∀ W pl, Q3 pl W → Calls Tryz.prog 39 #[.pointer (some ⟨d, 0, none⟩)] W fun e w1 => ∃ kl, e = .returned (.tuple #[.pointer kl, .int .i64 z]) ∧ F4 B A p d (.string X) (.slice pa pn pc) w1 ∧ Hid (Q4 pl kl w1 ∧ (z = 0 ↔ kl ≠ none))))
    (A1 : Hid (∀ W a b, z = 0 → Q4 (some a) (some b) W → Calls Tryz.prog 42 #[.pointer (some a), .string X] W fun e w1 => e = .returned (.int .i64 ya) ∧ F4 B A p d (.string X) (.slice pa pn pc) w1 ∧ Hid (Q5 (some a) (some b) w1)))
    (A2 : Hid (∀ W a b, z = 0 → Q5 (some a) (some b) W → Calls Tryz.prog 43 #[.pointer (some b), .string X] W fun e w1 => e = .returned (.int .i64 ya) ∧ F4 B A p d (.string X) (.slice pa pn pc) w1 ∧ Hid (Q6 (some a) (some b) w1)))
    (S1 : Hid (∀ W a b, z = 0 → Q6 (some a) (some b) W → Calls Tryz.prog 44 #[.pointer (some a)] W fun e w1 => e = .returned (.int .i64 ys) ∧ F4 B A p d (.string X) (.slice pa pn pc) w1 ∧ Hid (Q7 (some a) (some b) w1)))
    (S2 : Hid (∀ W a b, z = 0 → Q7 (some a) (some b) W → Calls Tryz.prog 45 #[.pointer (some ⟨d, 0, none⟩)] W fun e w1 => e = .returned (.int .i64 ys) ∧ F4 B A p d (.string X) (.slice pa pn pc) w1 ∧ Hid (Q8 (some a) (some b) w1)))
    (P1 : Hid (∀ W a b, z = 0 → Q8 (some a) (some b) W → Calls Tryz.prog 7 #[.pointer (some ⟨B, 0, none⟩)] W fun e w1 => e = .returned (.bool true) ∧ PO w1))
    (P2 : Hid (∀ W, z ≠ 0 → Q4 none none W → Calls Tryz.prog 7 #[.pointer (some ⟨B, 0, none⟩)] W fun e w1 => e = .returned (.bool true) ∧ PO w1)) :
    Calls Tryz.prog 25 #[.pointer (some ⟨B, 0, none⟩), .agg #[.int .i64 ak, .int .i64 an, .string X, .slice pa pn pc]] wr fun e w' => e = .returned (.bool true) ∧ PO w' := by
  obtain ⟨W1, hW1⟩ : ∃ W, wr.alloc (.cells #[.int .i64 ak, .int .i64 an, .string X, .slice pa pn pc] 39) = W := ⟨_, rfl⟩
  rw [hW1] at K0
  have K0d : Hid (Q0 W1.drew) := D0.out _ K0.out.1
  have f0 : F4 B A p d (.string X) (.slice pa pn pc) W1.drew := K0.out.2.drew
  clear K0 D0
  go_enter Tryz.func25, Tryz.ntmps25
  go_upto_region 1 with fail
  clear hA hW1
  go_region_held3 (fun w' => w'.cell? ⟨B, 1, none⟩ = some (.pointer (some ⟨p, 0, none⟩)) ∧ w'.cell? ⟨B, 2, none⟩ = some (.pointer (some ⟨d, 0, none⟩)) ∧ w'.cell? ⟨A, 2, none⟩ = some (.string X) ∧ w'.cell? ⟨A, 3, none⟩ = some (.slice pa pn pc)) (first | exact f0 | assumption) (first | (go_at_call 23; refine Calls.mono (C1.out _ K0d.out) ?_; rintro e w2 ⟨rfl, f2, K2⟩))
  have K2d : Hid (Q1 w2.drew) := D1.out _ K2.out
  have f2d := f2.drew
  clear C1 K0d f0 K2 f2 D1
  go_wp2_with fail
  go_region_held3 (fun w' => w'.cell? ⟨B, 1, none⟩ = some (.pointer (some ⟨p, 0, none⟩)) ∧ w'.cell? ⟨B, 2, none⟩ = some (.pointer (some ⟨d, 0, none⟩)) ∧ w'.cell? ⟨A, 2, none⟩ = some (.string X) ∧ w'.cell? ⟨A, 3, none⟩ = some (.slice pa pn pc)) (first | exact f2d | assumption) (first | (go_at_call 24; refine Calls.mono (C2.out _ K2d.out) ?_; rintro e w3 ⟨rfl, f3, K3⟩))
  clear C2 K2d f2d
  obtain ⟨b1, b2, a2, a3⟩ := f3
  go_wp2_with fail
  refine Calls.mono (O1.out _ K3.out) ?_
  rintro e w4 ⟨pl, rfl, f4, K4⟩
  clear O1 K3 b1 b2 a2 a3
  obtain ⟨b1, b2, a2, a3⟩ := f4
  go_wp2_with fail
  refine Calls.mono (O2.out _ _ K4.out.1) ?_
  rintro e w5 ⟨kl, rfl, f5, K5⟩
  have I1 : Hid (z = 0 ↔ pl ≠ none) := K4.out.2
  clear O2 K4 b1 b2 a2 a3
  have f5d := f5.drew
  by_cases hz : z = 0
  · obtain ⟨c1, rfl⟩ : ∃ a, pl = some a := by
      cases pl with
      | none => exact absurd rfl (I1.out.1 hz)
      | some a => exact ⟨a, rfl⟩
    obtain ⟨c2, rfl⟩ : ∃ a, kl = some a := by
      cases kl with
      | none => exact absurd rfl (K5.out.2.1 hz)
      | some a => exact ⟨a, rfl⟩
    have K5d : Hid (Q4 (some c1) (some c2) w5.drew) := D4.out _ _ _ K5.out.1
    have A1' : Hid _ := fun W => A1.out W c1 c2 hz
    have A2' : Hid _ := fun W => A2.out W c1 c2 hz
    have S1' : Hid _ := fun W => S1.out W c1 c2 hz
    have S2' : Hid _ := fun W => S2.out W c1 c2 hz
    have P1' : Hid _ := fun W => P1.out W c1 c2 hz
    subst hz
    clear I1 K5 A1 A2 S1 S2 P1 P2 D4 f5
    go_wp2_with fail
    go_region_held3 (fun w' => w'.cell? ⟨B, 1, none⟩ = some (.pointer (some ⟨p, 0, none⟩)) ∧ w'.cell? ⟨B, 2, none⟩ = some (.pointer (some ⟨d, 0, none⟩)) ∧ w'.cell? ⟨A, 2, none⟩ = some (.string X) ∧ w'.cell? ⟨A, 3, none⟩ = some (.slice pa pn pc)) (first | exact f5d | assumption) (first | (go_at_call 42; refine Calls.mono (A1'.out _ K5d.out) ?_; rintro e w6 ⟨rfl, f6, K6⟩) | (go_at_call 43; refine Calls.mono (A2'.out _ K6.out) ?_; rintro e w7 ⟨rfl, f7, K7⟩) | (go_at_call 44; refine Calls.mono (S1'.out _ K7.out) ?_; rintro e w8 ⟨rfl, f8, K8⟩) | (go_at_call 45; refine Calls.mono (S2'.out _ K8.out) ?_; rintro e w9 ⟨rfl, f9, K9⟩))
    have P9 : Hid _ := P1'.out _ K9.out
    clear A1' A2' S1' S2' P1' K5d K6 K7 K8 K9 f5d f6 f7 f8 f9
    go_wp2_with fail
    refine Calls.mono P9.out ?_
    rintro e w10 ⟨rfl, h10⟩
    have FF : Hid _ := h10
    clear h10 P9
    go_wp2
    go_ret
    exact ⟨rfl, FF.out⟩
  · obtain rfl : pl = none := by
      cases pl with
      | none => rfl
      | some a => exact absurd (I1.out.2 (by simp)) hz
    obtain rfl : kl = none := by
      cases kl with
      | none => rfl
      | some a => exact absurd (K5.out.2.2 (by simp)) hz
    have P9 : Hid _ := P2.out _ hz (D4.out _ _ _ K5.out.1)
    clear I1 K5 A1 A2 S1 S2 P1 P2 D4 f5 hz
    go_wp2_with fail
    refine wp_region_noPanic ?_
    refine wp_region_held_drew (S := fun _ => True) (by kernel_rfl) (trivial) (fun hHeld => ?_)
    refine wpAnyH_take (i := 0) (oi := opf7_0) (v := ?_) rfl (by kernel_rfl) (by kernel_rfl) (by kernel_rfl) (fun _ _ _ h => h) (Or.inl ⟨by rfl, ?_⟩) (by assumption) ?_
    rotate_left
    · intro w' hSw
      clear hSw
      unfold opf7_0
      first
      | (go_simp; done)
      | (go_simp; with_reducible rfl)
    simp only [opf7_0, Act.put, List.setIfInBounds_toArray, List.set_cons_zero, List.set_cons_succ]
    refine wpAnyH_take (i := 1) (oi := opf7_1) (v := ?_) rfl (by kernel_rfl) (by kernel_rfl) (by kernel_rfl) (fun _ _ _ h => h) (Or.inl ⟨by rfl, ?_⟩) (by assumption) ?_
    rotate_left
    · intro w' hSw
      clear hSw
      unfold opf7_1
      first
      | (go_simp; done)
      | (go_simp; with_reducible rfl)
    simp only [opf7_1, Act.put, List.setIfInBounds_toArray, List.set_cons_zero, List.set_cons_succ]
    refine wpAnyH_take (i := 2) (oi := opf7_2) (v := ?_) rfl (by kernel_rfl) (by kernel_rfl) (by kernel_rfl) (fun _ _ _ h => h) (Or.inl ⟨by rfl, ?_⟩) (by assumption) ?_
    rotate_left
    · intro w' hSw
      clear hSw
      unfold opf7_2
      first
      | (go_simp; done)
      | (go_simp; with_reducible rfl)
    simp only [opf7_2, Act.put, List.setIfInBounds_toArray, List.set_cons_zero, List.set_cons_succ]
    refine wpAnyH_take (i := 3) (oi := opf7_3) (v := undef) rfl (by kernel_rfl) (by kernel_rfl) (by kernel_rfl) (fun _ _ _ h => h) (Or.inr ⟨by rfl, rfl⟩) (by assumption) ?_
    simp only [opf7_3, Act.put, List.setIfInBounds_toArray, List.set_cons_zero, List.set_cons_succ]
    refine wpAnyH_take (i := 4) (oi := opf7_4) (v := undef) rfl (by kernel_rfl) (by kernel_rfl) (by kernel_rfl) (fun _ _ _ h => h) (Or.inr ⟨by rfl, rfl⟩) (by assumption) ?_
    simp only [opf7_4, Act.put, List.setIfInBounds_toArray, List.set_cons_zero, List.set_cons_succ]
    refine wpAnyH_take (i := 5) (oi := opf7_5) (v := ?_) rfl (by kernel_rfl) (by kernel_rfl) (by kernel_rfl) (fun _ _ _ h => h) (Or.inl ⟨by rfl, ?_⟩) (by assumption) ?_
    rotate_left
    · intro w' hSw
      clear hSw
      unfold opf7_5
      first
      | (go_simp; done)
      | (go_simp; with_reducible rfl)
    simp only [opf7_5, Act.put, List.setIfInBounds_toArray, List.set_cons_zero, List.set_cons_succ]
    refine wpAnyH_take (i := 6) (oi := opf7_6) (v := ?_) rfl (by kernel_rfl) (by kernel_rfl) (by kernel_rfl) (fun _ _ _ h => h) (Or.inl ⟨by rfl, ?_⟩) (by assumption) ?_
    rotate_left
    · intro w' hSw
      clear hSw
      unfold opf7_6
      first
      | (go_simp; done)
      | (go_simp; with_reducible rfl)
    simp only [opf7_6, Act.put, List.setIfInBounds_toArray, List.set_cons_zero, List.set_cons_succ]
    refine wpAnyH_take (i := 7) (oi := opf7_7) (v := undef) rfl (by kernel_rfl) (by kernel_rfl) (by kernel_rfl) (fun _ _ _ h => h) (Or.inr ⟨by rfl, rfl⟩) (by assumption) ?_
    simp only [opf7_7, Act.put, List.setIfInBounds_toArray, List.set_cons_zero, List.set_cons_succ]
    refine wpAnyH_take (i := 8) (oi := opf7_8) (v := undef) rfl (by kernel_rfl) (by kernel_rfl) (by kernel_rfl) (fun _ _ _ h => h) (Or.inr ⟨by rfl, rfl⟩) (by assumption) ?_
    simp only [opf7_8, Act.put, List.setIfInBounds_toArray, List.set_cons_zero, List.set_cons_succ]
    refine wpAnyH_take (i := 9) (oi := opf7_9) (v := undef) rfl (by kernel_rfl) (by kernel_rfl) (by kernel_rfl) (fun _ _ _ h => h) (Or.inr ⟨by rfl, rfl⟩) (by assumption) ?_
    simp only [opf7_9, Act.put, List.setIfInBounds_toArray, List.set_cons_zero, List.set_cons_succ]
    refine wpAnyH_take (i := 10) (oi := opf7_10) (v := undef) rfl (by kernel_rfl) (by kernel_rfl) (by kernel_rfl) (fun _ _ _ h => h) (Or.inr ⟨by rfl, rfl⟩) (by assumption) ?_
    simp only [opf7_10, Act.put, List.setIfInBounds_toArray, List.set_cons_zero, List.set_cons_succ]
    refine wpAnyH_take (i := 11) (oi := opf7_11) (v := undef) rfl (by kernel_rfl) (by kernel_rfl) (by kernel_rfl) (fun _ _ _ h => h) (Or.inr ⟨by rfl, rfl⟩) (by assumption) ?_
    simp only [opf7_11, Act.put, List.setIfInBounds_toArray, List.set_cons_zero, List.set_cons_succ]
    refine wpAnyH_take (i := 12) (oi := opf7_12) (v := undef) rfl (by kernel_rfl) (by kernel_rfl) (by kernel_rfl) (fun _ _ _ h => h) (Or.inr ⟨by rfl, rfl⟩) (by assumption) ?_
    simp only [opf7_12, Act.put, List.setIfInBounds_toArray, List.set_cons_zero, List.set_cons_succ]
    refine wpAnyH_take (i := 13) (oi := opf7_13) (v := undef) rfl (by kernel_rfl) (by kernel_rfl) (by kernel_rfl) (fun _ _ _ h => h) (Or.inr ⟨by rfl, rfl⟩) (by assumption) ?_
    simp only [opf7_13, Act.put, List.setIfInBounds_toArray, List.set_cons_zero, List.set_cons_succ]
    refine wpAnyH_take (i := 14) (oi := opf7_14) (v := undef) rfl (by kernel_rfl) (by kernel_rfl) (by kernel_rfl) (fun _ _ _ h => h) (Or.inr ⟨by rfl, rfl⟩) (by assumption) ?_
    simp only [opf7_14, Act.put, List.setIfInBounds_toArray, List.set_cons_zero, List.set_cons_succ]
    refine wpAnyH_take (i := 15) (oi := opf7_15) (v := undef) rfl (by kernel_rfl) (by kernel_rfl) (by kernel_rfl) (fun _ _ _ h => h) (Or.inr ⟨by rfl, rfl⟩) (by assumption) ?_
    simp only [opf7_15, Act.put, List.setIfInBounds_toArray, List.set_cons_zero, List.set_cons_succ]
    refine wpAnyH_take (i := 16) (oi := opf7_16) (v := undef) rfl (by kernel_rfl) (by kernel_rfl) (by kernel_rfl) (fun _ _ _ h => h) (Or.inr ⟨by rfl, rfl⟩) (by assumption) ?_
    simp only [opf7_16, Act.put, List.setIfInBounds_toArray, List.set_cons_zero, List.set_cons_succ]
    refine wpAnyH_take (i := 17) (oi := opf7_17) (v := undef) rfl (by kernel_rfl) (by kernel_rfl) (by kernel_rfl) (fun _ _ _ h => h) (Or.inr ⟨by rfl, rfl⟩) (by assumption) ?_
    simp only [opf7_17, Act.put, List.setIfInBounds_toArray, List.set_cons_zero, List.set_cons_succ]
    refine wpAnyH_take (i := 18) (oi := opf7_18) (v := undef) rfl (by kernel_rfl) (by kernel_rfl) (by kernel_rfl) (fun _ _ _ h => h) (Or.inr ⟨by rfl, rfl⟩) (by assumption) ?_
    simp only [opf7_18, Act.put, List.setIfInBounds_toArray, List.set_cons_zero, List.set_cons_succ]
    refine wpAnyH_take (i := 19) (oi := opf7_19) (v := undef) rfl (by kernel_rfl) (by kernel_rfl) (by kernel_rfl) (fun _ _ _ h => h) (Or.inr ⟨by rfl, rfl⟩) (by assumption) ?_
    simp only [opf7_19, Act.put, List.setIfInBounds_toArray, List.set_cons_zero, List.set_cons_succ]
    refine wpAnyH_take (i := 20) (oi := opf7_20) (v := undef) rfl (by kernel_rfl) (by kernel_rfl) (by kernel_rfl) (fun _ _ _ h => h) (Or.inr ⟨by rfl, rfl⟩) (by assumption) ?_
    simp only [opf7_20, Act.put, List.setIfInBounds_toArray, List.set_cons_zero, List.set_cons_succ]
    refine wpAnyH_take (i := 21) (oi := opf7_21) (v := undef) rfl (by kernel_rfl) (by kernel_rfl) (by kernel_rfl) (fun _ _ _ h => h) (Or.inr ⟨by rfl, rfl⟩) (by assumption) ?_
    simp only [opf7_21, Act.put, List.setIfInBounds_toArray, List.set_cons_zero, List.set_cons_succ]
    refine wpAnyH_take (i := 22) (oi := opf7_22) (v := undef) rfl (by kernel_rfl) (by kernel_rfl) (by kernel_rfl) (fun _ _ _ h => h) (Or.inr ⟨by rfl, rfl⟩) (by assumption) ?_
    simp only [opf7_22, Act.put, List.setIfInBounds_toArray, List.set_cons_zero, List.set_cons_succ]
    refine wpAnyH_take (i := 23) (oi := opf7_23) (v := undef) rfl (by kernel_rfl) (by kernel_rfl) (by kernel_rfl) (fun _ _ _ h => h) (Or.inr ⟨by rfl, rfl⟩) (by assumption) ?_
    simp only [opf7_23, Act.put, List.setIfInBounds_toArray, List.set_cons_zero, List.set_cons_succ]
    refine wpAnyH_take (i := 24) (oi := opf7_24) (v := undef) rfl (by kernel_rfl) (by kernel_rfl) (by kernel_rfl) (fun _ _ _ h => h) (Or.inr ⟨by rfl, rfl⟩) (by assumption) ?_
    simp only [opf7_24, Act.put, List.setIfInBounds_toArray, List.set_cons_zero, List.set_cons_succ]
    refine wpAnyH_take (i := 25) (oi := opf7_25) (v := undef) rfl (by kernel_rfl) (by kernel_rfl) (by kernel_rfl) (fun _ _ _ h => h) (Or.inr ⟨by rfl, rfl⟩) (by assumption) ?_
    simp only [opf7_25, Act.put, List.setIfInBounds_toArray, List.set_cons_zero, List.set_cons_succ]
    refine wpAnyH_take (i := 26) (oi := opf7_26) (v := ?_) rfl (by kernel_rfl) (by kernel_rfl) (by kernel_rfl) (fun _ _ _ h => h) (Or.inl ⟨by rfl, ?_⟩) (by assumption) ?_
    rotate_left
    · intro w' hSw
      clear hSw
      unfold opf7_26
      first
      | (go_simp; done)
      | (go_simp; with_reducible rfl)
    simp only [opf7_26, Act.put, List.setIfInBounds_toArray, List.set_cons_zero, List.set_cons_succ]
    refine wpAnyH_done (by kernel_rfl) ?_ _
    refine NoPanic.normal ?_
    go_wp2_with fail
    refine Calls.mono P9.out ?_
    rintro e w10 ⟨rfl, h10⟩
    have FF : Hid _ := h10
    clear h10 P9
    go_wp2
    go_ret
    exact ⟨rfl, FF.out⟩
end Go.Proofs.YtageoeogofeckaaGreatDoor
