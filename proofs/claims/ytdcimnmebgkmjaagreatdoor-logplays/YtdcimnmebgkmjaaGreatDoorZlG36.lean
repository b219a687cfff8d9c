/- Parts: LpA, LhE. -/
import Derived.Test.YtdcimnmebgkmjaaGreatDoorZlG34
import Derived.Test.YtdcimnmebgkmjaaGreatDoorZlG35
import Derived.Test.YtdcimnmebgkmjaaGreatDoorZlG32
namespace Go.Proofs.YtdcimnmebgkmjaaGreatDoor
open Go.RowKit Go.Proofs.Fd Go.Proofs.Dk Go.Proofs.Lg
set_option maxRecDepth 20000
def UU (F G : Nat → Prop) (B : Nat) (z : Nat) : Prop := F z ∨ G z ∨ z = B
theorem UU.prog {w0 wr w1 : World} {U0 F G F' : Nat → Prop} {B : Nat} (hn : Nx w0 U0 (UU F G B)) (hf : Bf U0 w0 wr) (n : Nx wr F F') (f : Bf F wr w1) : Nx w0 U0 (UU F' G B) ∧ Bf U0 w0 w1 := by
  have hs := hf.size
  refine ⟨fun z hz => ?_, hf.trans hn (f.wide fun z e => .inl e)⟩
  rcases hz with c | c
  · rcases n z c with e | e
    · exact hn z (.inl e)
    · exact .inr (by omega)
  · exact hn z (.inr c)
theorem UU.ref {w0 wr w1 : World} {U0 F G G' : Nat → Prop} {B : Nat} (hn : Nx w0 U0 (UU F G B)) (hf : Bf U0 w0 wr) (n : Nx wr G G') (f : Bf G wr w1) : Nx w0 U0 (UU F G' B) ∧ Bf U0 w0 w1 := by
  have hs := hf.size
  refine ⟨fun z hz => ?_, hf.trans hn (f.wide fun z e => .inr (.inl e))⟩
  rcases hz with c | c | c
  · exact hn z (.inl c)
  · rcases n z c with e | e
    · exact hn z (.inr (.inl e))
    · exact .inr (by omega)
  · exact hn z (.inr (.inr c))
theorem UU.less {w0 : World} {U0 F G F' G' : Nat → Prop} {B : Nat} (hn : Nx w0 U0 (UU F G B)) (h1 : ∀ z, F' z → F z) (h2 : ∀ z, G' z → G z) : Nx w0 U0 (UU F' G' B) := fun z hz => by
  rcases hz with c | c | c
  · exact hn z (.inl (h1 z c))
  · exact hn z (.inr (.inl (h2 z c)))
  · exact hn z (.inr (.inr c))
def PL (w w2 : World) (p : Nat) (s : St) (o : Option Lo) (pl : Option Addr) (Ft : Nat → Prop) : Prop :=
  match o with
  | none => pl = none ∧ Dl w w2 p Ft s
  | some x => ∃ q F v, pl = some ⟨q, 0, none⟩ ∧ Lz w w2 p F s q v x ∧ Ft = FH F q v
def RL (w2 : World) (d : Nat) (s : St) (o : Option Lo) (kl : Option Addr) (Gt : Nat → Prop) : Prop :=
  match o with
  | none => kl = none ∧ DAt w2 d Gt s
  | some x => ∃ q G v, kl = some ⟨q, 0, none⟩ ∧ Rl w2 d G s q v x ∧ Gt = FQ G q v
section
variable {w w2 : World} {p d : Nat} {s : St} {o : Option Lo} {pl kl : Option Addr} {Ft Gt : Nat → Prop}
theorem PL.other (h : PL w w2 p s o pl Ft) {K : Nat → Prop} {w3 : World} (hb : Bf K w2 w3) (hK : ∀ z, Ft z → ¬ K z) (hw : ∀ z, K z → w.heap.size ≤ z) : PL w w3 p s o pl Ft := by
  match o, h with
  | none, ⟨e, k⟩ => exact ⟨e, ⟨k.at_.other hb hK, k.new, k.below.trans (hb.below hw k.below.size)⟩⟩
  | some x, ⟨q, F, v, e, k, eF⟩ =>
    subst eF
    exact ⟨q, F, v, e, k.other hb hK hw, rfl⟩
theorem PL.lt (h : PL w w2 p s o pl Ft) {z : Nat} (hz : Ft z) : z < w2.heap.size := by
  match o, h with
  | none, ⟨e, k⟩ => exact k.at_.lt hz
  | some x, ⟨q, F, v, e, k, eF⟩ =>
    subst eF
    exact (k.fh hz).1
theorem PL.dl (h : PL w w2 p s o pl Ft) : ∃ F, Dl w w2 p F s ∧ ∀ z, F z → Ft z := by
  match o, h with
  | none, ⟨e, k⟩ => exact ⟨Ft, k, fun _ => id⟩
  | some x, ⟨q, F, v, e, k, eF⟩ =>
    subst eF
    exact ⟨F, k.hd_.dl, fun z hz => .inl hz⟩
theorem RL.other (h : RL w2 d s o kl Gt) {K : Nat → Prop} {w3 : World} (hb : Bf K w2 w3) (hK : ∀ z, Gt z → ¬ K z) : RL w3 d s o kl Gt := by
  match o, h with
  | none, ⟨e, k⟩ => exact ⟨e, k.other hb hK⟩
  | some x, ⟨q, G, v, e, k, eF⟩ =>
    subst eF
    exact ⟨q, G, v, e, k.other hb hK, rfl⟩
theorem RL.lt (h : RL w2 d s o kl Gt) {z : Nat} (hz : Gt z) : z < w2.heap.size := by
  match o, h with
  | none, ⟨e, k⟩ => exact k.lt hz
  | some x, ⟨q, G, v, e, k, eF⟩ =>
    subst eF
    exact k.fq hz
theorem RL.at_ (h : RL w2 d s o kl Gt) : ∃ G, DAt w2 d G s ∧ ∀ z, G z → Gt z := by
  match o, h with
  | none, ⟨e, k⟩ => exact ⟨Gt, k, fun _ => id⟩
  | some x, ⟨q, G, v, e, k, eF⟩ =>
    subst eF
    exact ⟨G, k.rd.at_, fun z hz => .inl hz⟩
end
structure G2 (w wr : World) (B : Nat) (cs : List Value) (p d : Nat) (sP : St) (oP : Option Lo) (sR : St) (oR : Option Lo) (pl kl : Option Addr) (Ft Gt : Nat → Prop) : Prop where
  bk : Blk wr B cs
  pp : PL w wr p sP oP pl Ft
  rp : RL wr d sR oR kl Gt
  fg : ∀ z, Ft z → ¬ Gt z
  fb : ¬ Ft B
  gb : ¬ Gt B
  nF : ∀ z, Ft z → w.heap.size ≤ z
  nG : ∀ z, Gt z → w.heap.size ≤ z
  nB : w.heap.size ≤ B
  sz : w.heap.size ≤ wr.heap.size
def Gx (w w0 : World) (U0 : Nat → Prop) (wr : World) (B : Nat) (cs : List Value) (p d : Nat) (sP : St) (oP : Option Lo) (sR : St) (oR : Option Lo) (pl kl : Option Addr) : Prop := ∃ Ft Gt, G2 w wr B cs p d sP oP sR oR pl kl Ft Gt ∧ Nx w0 U0 (UU Ft Gt B) ∧ Bf U0 w0 wr
section
variable {w w0 : World} {U0 : Nat → Prop} {wr : World} {B : Nat} {cs : List Value} {p d : Nat} {sP sR : St} {oP oR : Option Lo} {pl kl : Option Addr} {Ft Gt : Nat → Prop}
theorem G2.later (h : G2 w wr B cs p d sP oP sR oR pl kl Ft Gt) {w1 : World} (hb : Below wr.heap.size wr w1) : G2 w w1 B cs p d sP oP sR oR pl kl Ft Gt :=
  ⟨h.bk.later hb, h.pp.other (K := fun _ => False) (Bf.of hb) (fun _ _ => id) (fun _ c => c.elim), h.rp.other (K := fun _ => False) (Bf.of hb) (fun _ _ => id), h.fg, h.fb, h.gb, h.nF, h.nG, h.nB, Nat.le_trans h.sz hb.size⟩
theorem G2.prog (h : G2 w wr B cs p d sP oP sR oR pl kl Ft Gt) {w1 : World} {s' : St} {o' : Option Lo} {pl' : Option Addr} {Ft' : Nat → Prop} (k : PL w w1 p s' o' pl' Ft') (n : Nx wr Ft Ft') (f : Bf Ft wr w1) : G2 w w1 B cs p d s' o' sR oR pl' kl Ft' Gt := by
  refine ⟨h.bk.bf f h.fb, k, h.rp.other f (fun z hz c => h.fg z c hz), fun z hz c => ?_, fun c => ?_, h.gb, fun z hz => ?_, h.nG, h.nB, Nat.le_trans h.sz f.size⟩
  · rcases n z hz with e | e
    · exact h.fg z e c
    · have := h.rp.lt c
      omega
  · rcases n B c with e | e
    · exact h.fb e
    · have := h.bk.lt
      omega
  · rcases n z hz with e | e
    · exact h.nF z e
    · have := h.sz
      omega
theorem G2.ref (h : G2 w wr B cs p d sP oP sR oR pl kl Ft Gt) {w1 : World} {s' : St} {o' : Option Lo} {kl' : Option Addr} {Gt' : Nat → Prop} (k : RL w1 d s' o' kl' Gt') (n : Nx wr Gt Gt') (f : Bf Gt wr w1) : G2 w w1 B cs p d sP oP s' o' pl kl' Ft Gt' := by
  refine ⟨h.bk.bf f h.gb, h.pp.other f h.fg h.nG, k, fun z hz c => ?_, h.fb, fun c => ?_, h.nF, fun z hz => ?_, h.nB, Nat.le_trans h.sz f.size⟩
  · rcases n z c with e | e
    · exact h.fg z hz e
    · have := h.pp.lt hz
      omega
  · rcases n B c with e | e
    · exact h.gb e
    · have := h.bk.lt
      omega
  · rcases n z hz with e | e
    · exact h.nG z e
    · have := h.sz
      omega
theorem Gx.later (h : Gx w w0 U0 wr B cs p d sP oP sR oR pl kl) {w1 : World} (hb : Below wr.heap.size wr w1) : Gx w w0 U0 w1 B cs p d sP oP sR oR pl kl := by
  obtain ⟨Ft, Gt, k, nn, ff⟩ := h
  exact ⟨Ft, Gt, k.later hb, nn, ff.later hb⟩
theorem Gx.drop (h : Gx w w0 U0 wr B cs p d sP oP sR oR pl kl) : Gx w w0 U0 wr B cs p d sP none sR none none none := by
  obtain ⟨Ft, Gt, k, nn, ff⟩ := h
  obtain ⟨F, dl, hF⟩ := k.pp.dl
  obtain ⟨G, at_, hG⟩ := k.rp.at_
  exact ⟨F, G, ⟨k.bk, ⟨rfl, dl⟩, ⟨rfl, at_⟩, fun z hz c => k.fg z (hF z hz) (hG z c), fun c => k.fb (hF B c), fun c => k.gb (hG B c), fun z hz => k.nF z (hF z hz), fun z hz => k.nG z (hG z hz), k.nB, k.sz⟩, UU.less nn hF hG, ff⟩
theorem Gx.blk (h : Gx w w0 U0 wr B cs p d sP oP sR oR pl kl) : Blk wr B cs := by
  obtain ⟨Ft, Gt, k, nn, ff⟩ := h
  exact k.bk
theorem Gx.oks (h : Gx w w0 U0 wr B cs p d sP oP sR oR pl kl) : Ok sP ∧ Ok sR := by
  obtain ⟨Ft, Gt, k, nn, ff⟩ := h
  obtain ⟨F, dl, hF⟩ := k.pp.dl
  obtain ⟨G, at_, hG⟩ := k.rp.at_
  exact ⟨dl.at_.1, at_.1⟩
theorem Gx.below (h : Gx w w0 U0 wr B cs p d sP oP sR oR pl kl) : Below w.heap.size w wr := by
  obtain ⟨Ft, Gt, k, nn, ff⟩ := h
  obtain ⟨F, dl, hF⟩ := k.pp.dl
  exact dl.below
theorem Gx.set (h : Gx w w0 U0 wr B cs p d sP oP sR oR pl kl) (i : Nat) (hi : i < cs.length) (v : Value) (hU : U0 B) : Gx w w0 U0 (wr.setCell ⟨B, i, none⟩ v) B (cs.set i v) p d sP oP sR oR pl kl := by
  obtain ⟨Ft, Gt, k, nn, ff⟩ := h
  have f2 : Bf (fun z => z = B) wr (wr.setCell ⟨B, i, none⟩ v) := Bf.set (fun z => z = B) wr B i v rfl
  refine ⟨Ft, Gt, ⟨k.bk.set i hi v, k.pp.other f2 (fun z hz e => k.fb (by rw [← e]; exact hz)) (fun z e => by rw [e]; exact k.nB), k.rp.other f2 (fun z hz e => k.gb (by rw [← e]; exact hz)), k.fg, k.fb, k.gb, k.nF, k.nG, k.nB, Nat.le_trans k.sz f2.size⟩, nn, ?_⟩
  exact ff.trans (fun z e => .inl (by rw [e]; exact hU)) f2
end
def oLo (o : (Int × St) × Lo) : Option Lo := if o.1.1 = 0 then some o.2 else none
theorem flopenP_any (w w0 : World) (U0 : Nat → Prop) (wr : World) (B : Nat) (cs : List Value) (p d : Nat) (sP sR : St) (oR : Option Lo) (kl : Option Addr) (hn : sP.n ≤ 1024) (hl : sP.l.length + 2000 ≤ 1000000) (hk : Kh w) (h : Gx w w0 U0 wr B cs p d sP none sR oR none kl) :
    Calls Tryz.prog 20 #[.pointer (some ⟨p, 0, none⟩)] wr fun e w1 => ∃ pl, e = .returned (.tuple #[.pointer pl, .int .i64 (opn sP).1.1]) ∧ Gx w w0 U0 w1 B cs p d (opn sP).1.2 (oLo (opn sP)) sR oR pl kl ∧ (oLo (opn sP) = none ↔ pl = none) := by
  obtain ⟨Ft, Gt, k, nn, ff⟩ := h
  have k0 := k
  obtain ⟨-, dl⟩ := k.pp
  refine (lopen_all w wr p Ft sP hl hk dl).mono ?_
  rintro e w1 ⟨F', d1, d2, d3, hres⟩
  have ok := fun h => opn_ok (s := sP) h dl.at_.1
  rcases hres with ⟨h0, q, v, he, hd, hnew⟩ | ⟨h0, he⟩
  · obtain ⟨o4, oh, on, otk, og, ook⟩ := ok h0
    have e2 : oLo (opn sP) = some (opn sP).2 := if_pos h0
    rw [e2, h0]
    have nF : Nx wr Ft (FH F' q v) := fun z hz => by
      rcases hz with c | c
      · exact d2 z c
      · exact .inr (hnew z c)
    exact ⟨some ⟨q, 0, none⟩, he, ⟨FH F' q v, Gt, k0.prog (o' := some (opn sP).2) ⟨q, F', v, rfl, ⟨by rw [on]; exact hd, oh, by rw [on]; exact o4, by rw [on]; exact hn, by rw [on]; exact otk, ook, og⟩, rfl⟩ nF d3, UU.prog nn ff nF d3⟩, ⟨(fun c => by cases c), (fun c => by cases c)⟩⟩
  · have e2 : oLo (opn sP) = none := if_neg h0
    rw [e2]
    exact ⟨none, he, ⟨F', Gt, k0.prog (o' := none) ⟨rfl, d1⟩ d2 d3, UU.prog nn ff d2 d3⟩, ⟨fun _ => rfl, fun _ => rfl⟩⟩
theorem flopenR_any (w w0 : World) (U0 : Nat → Prop) (wr : World) (B : Nat) (cs : List Value) (p d : Nat) (sP sR : St) (oP : Option Lo) (pl : Option Addr) (hn : sR.n ≤ 1024) (hl : sR.l.length + 5000 ≤ 1000000) (h : Gx w w0 U0 wr B cs p d sP oP sR none pl none) :
    Calls Tryz.prog 26 #[.pointer (some ⟨d, 0, none⟩)] wr fun e w1 => ∃ kl, e = .returned (.tuple #[.pointer kl, .int .i64 (opn sR).1.1]) ∧ Gx w w0 U0 w1 B cs p d sP oP (opn sR).1.2 (oLo (opn sR)) pl kl ∧ (oLo (opn sR) = none ↔ kl = none) := by
  obtain ⟨Ft, Gt, k, nn, ff⟩ := h
  have k0 := k
  obtain ⟨-, at_⟩ := k.rp
  have hs : opnr sR = opn sR := opn_same at_.1
  refine (ropen_any wr d Gt sR hn hl at_).mono ?_
  rw [hs]
  rintro e w1 ⟨pv, G', he, dw, hno, hok⟩
  by_cases h0 : (opn sR).1.1 = 0
  · obtain ⟨q, v, rfl, rl, hnew⟩ := hok h0
    have e2 : oLo (opn sR) = some (opn sR).2 := if_pos h0
    rw [e2]
    have nG : Nx wr Gt (FQ G' q v) := fun z hz => by
      rcases hz with c | c
      · exact dw.nx z c
      · exact .inr (hnew z c)
    exact ⟨some ⟨q, 0, none⟩, he, ⟨Ft, FQ G' q v, k0.ref (o' := some (opn sR).2) ⟨q, G', v, rfl, rl, rfl⟩ nG dw.bf, UU.ref nn ff nG dw.bf⟩, ⟨(fun c => by cases c), (fun c => by cases c)⟩⟩
  · obtain rfl := hno h0
    have e2 : oLo (opn sR) = none := if_neg h0
    rw [e2]
    exact ⟨none, he, ⟨Ft, G', k0.ref (o' := none) ⟨rfl, dw.at_⟩ dw.nx dw.bf, UU.ref nn ff dw.nx dw.bf⟩, ⟨fun _ => rfl, fun _ => rfl⟩⟩
theorem flappP_any (w w0 : World) (U0 : Nat → Prop) (wr : World) (B : Nat) (cs : List Value) (p d : Nat) (sP sR : St) (x : Lo) (oR : Option Lo) (pl kl : Option Addr) (X : ByteArray) (hl : sP.l.length + 100 ≤ 1000000) (hk : Kh w) (h : Gx w w0 U0 wr B cs p d sP (some x) sR oR pl kl) :
    Calls Tryz.prog 21 #[.pointer pl, .string X] wr fun e w1 => e = .returned (.int .i64 (app sP x X.data.toList).1.1) ∧ Gx w w0 U0 w1 B cs p d (app sP x X.data.toList).1.2 (some (app sP x X.data.toList).2) sR oR pl kl := by
  obtain ⟨Ft, Gt, k, nn, ff⟩ := h
  have k0 := k
  obtain ⟨q, F, v, rfl, z, rfl⟩ := k.pp
  refine (lzappend_any w wr p F sP q v x X hl hk z).mono ?_
  rintro e w1 ⟨he, F', v', z', n, f⟩
  exact ⟨he, _, Gt, k0.prog (o' := some (app sP x X.data.toList).2) ⟨q, F', v', rfl, z', rfl⟩ n.fh f, UU.prog nn ff n.fh f⟩
theorem flappR_any (w w0 : World) (U0 : Nat → Prop) (wr : World) (B : Nat) (cs : List Value) (p d : Nat) (sP sR : St) (x : Lo) (oP : Option Lo) (pl kl : Option Addr) (X : ByteArray) (hl : sR.l.length + 100 ≤ 1000000) (h : Gx w w0 U0 wr B cs p d sP oP sR (some x) pl kl) :
    Calls Tryz.prog 36 #[.pointer kl, .string X] wr fun e w1 => e = .returned (.int .i64 (app sR x X.data.toList).1.1) ∧ Gx w w0 U0 w1 B cs p d sP oP (app sR x X.data.toList).1.2 (some (app sR x X.data.toList).2) pl kl := by
  obtain ⟨Ft, Gt, k, nn, ff⟩ := h
  have k0 := k
  obtain ⟨q, G, v, rfl, z, rfl⟩ := k.rp
  refine (rappend_any wr d G sR q v x X hl z).mono ?_
  rintro e w1 ⟨he, G', v', z', n1, n2, f⟩
  have nG : Nx wr (FQ G q v) (FQ G' q v') := fun y hy => by
    rcases hy with c | c
    · rcases n1 y c with e | e
      · exact .inl (.inl e)
      · exact .inr e
    · rcases n2 y c with e | e
      · exact .inl (.inr e)
      · exact .inr e
  exact ⟨he, Ft, _, k0.ref (o' := some (app sR x X.data.toList).2) ⟨q, G', v', rfl, z', rfl⟩ nG f, UU.ref nn ff nG f⟩
theorem flsyncP_any (w w0 : World) (U0 : Nat → Prop) (wr : World) (B : Nat) (cs : List Value) (p d : Nat) (sP sR : St) (x : Lo) (oR : Option Lo) (pl kl : Option Addr) (hl : sP.l.length ≤ 1000000) (h : Gx w w0 U0 wr B cs p d sP (some x) sR oR pl kl) :
    Calls Tryz.prog 22 #[.pointer pl] wr fun e w1 => e = .returned (.int .i64 (syE sP)) ∧ Gx w w0 U0 w1 B cs p d (syS sP) (some x) sR oR pl kl := by
  obtain ⟨Ft, Gt, k, nn, ff⟩ := h
  have k0 := k
  obtain ⟨q, F, v, rfl, z, rfl⟩ := k.pp
  refine (lzsync_any w wr p F sP q v x hl z).mono ?_
  rintro e w1 ⟨he, F', v', z', n, f⟩
  exact ⟨he, _, Gt, k0.prog (o' := some x) ⟨q, F', v', rfl, z', rfl⟩ n.fh f, UU.prog nn ff n.fh f⟩
theorem flsyncR_any (w w0 : World) (U0 : Nat → Prop) (wr : World) (B : Nat) (cs : List Value) (p d : Nat) (sP sR : St) (x : Lo) (oP : Option Lo) (pl kl : Option Addr) (hl : sR.l.length ≤ 1000000) (h : Gx w w0 U0 wr B cs p d sP oP sR (some x) pl kl) :
    Calls Tryz.prog 37 #[.pointer (some ⟨d, 0, none⟩)] wr fun e w1 => e = .returned (.int .i64 (syE sR)) ∧ Gx w w0 U0 w1 B cs p d sP oP (syS sR) (some x) pl kl := by
  obtain ⟨Ft, Gt, k, nn, ff⟩ := h
  have k0 := k
  obtain ⟨q, G, v, rfl, z, rfl⟩ := k.rp
  refine (rsync_any d G sR wr z.rd.at_ hl).mono ?_
  rintro e w1 ⟨he, G', y1, y2, y3⟩
  have hn := syS_n sR
  have nG : Nx wr (FQ G q v) (FQ G' q v) := fun y hy => by
    rcases hy with c | c
    · rcases y2 y c with e | e
      · exact .inl (.inl e)
      · exact .inr e
    · exact .inl (.inr c)
  have fG : Bf (FQ G q v) wr w1 := y3.wide fun _ c => .inl c
  exact ⟨he, Ft, _, k0.ref (o' := some x) ⟨q, G', v, rfl, ⟨z.rd.disk y1 y2 y3, z.h1, by rw [hn]; exact z.n4, by rw [hn]; exact z.n2, by rw [hn]; exact z.tk, z.ok⟩, rfl⟩ nG fG, UU.ref nn ff nG fG⟩
theorem Gx.n2P {w w0 : World} {U0 : Nat → Prop} {wr : World} {B : Nat} {cs : List Value} {p d : Nat} {sP sR : St} {x : Lo} {oR : Option Lo} {pl kl : Option Addr} (h : Gx w w0 U0 wr B cs p d sP (some x) sR oR pl kl) : ∃ q F v, pl = some ⟨q, 0, none⟩ ∧ Lz w wr p F sP q v x := by
  obtain ⟨Ft, Gt, k, nn, ff⟩ := h
  obtain ⟨q, F, v, e, z, -⟩ := k.pp
  exact ⟨q, F, v, e, z⟩
theorem fuS_n (s : St) (n : Int) : (fuS s n).n = s.n := (kp_fuse s n).n
theorem gfuseP_any (w w0 : World) (U0 : Nat → Prop) (wr : World) (B : Nat) (cs : List Value) (p d : Nat) (sP : St) (oP : Option Lo) (sR : St) (oR : Option Lo) (pl kl : Option Addr) (n : Int) (h : Gx w w0 U0 wr B cs p d sP oP sR oR pl kl) :
    Calls Tryz.prog 31 #[.pointer (some ⟨p, 0, none⟩), .int .i64 n] wr fun e w1 => e = .returned (.int .i64 (fuE sP n)) ∧ Gx w w0 U0 w1 B cs p d (fuS sP n) oP sR oR pl kl := by
  obtain ⟨Ft, Gt, k, nn, ff⟩ := h
  have k0 := k
  match oP, k, k0 with
  | none, k, k0 =>
    obtain ⟨rfl, dl⟩ := k.pp
    exact (fuseL w wr p Ft sP n dl).mono fun _ w1 ⟨e1, F', d1, d2, d3⟩ => ⟨e1, F', Gt, k0.prog (o' := none) ⟨rfl, d1⟩ d2 d3, UU.prog nn ff d2 d3⟩
  | some x, k, k0 =>
    obtain ⟨q, F, v, rfl, z, rfl⟩ := k.pp
    refine (fuseL w wr p F sP n z.hd_.dl).mono ?_
    rintro e w1 ⟨e1, F', d1, d2, d3⟩
    have hn := fuS_n sP n
    have nF : Nx wr (FH F q v) (FH F' q v) := Nx2.fh ⟨d2, Nx.refl _ _⟩
    have fF : Bf (FH F q v) wr w1 := d3.wide fun _ c => .inl c
    exact ⟨e1, _, Gt, k0.prog (o' := some x) ⟨q, F', v, rfl, ⟨by rw [hn]; exact z.hd_.disk d1 d2 d3, z.h1, by rw [hn]; exact z.n4, by rw [hn]; exact z.n2, by rw [hn]; exact z.tk, z.ok, z.g⟩, rfl⟩ nF fF, UU.prog nn ff nF fF⟩
theorem gfuseR_any (w w0 : World) (U0 : Nat → Prop) (wr : World) (B : Nat) (cs : List Value) (p d : Nat) (sP : St) (oP : Option Lo) (sR : St) (oR : Option Lo) (pl kl : Option Addr) (n : Int) (h : Gx w w0 U0 wr B cs p d sP oP sR oR pl kl) :
    Calls Tryz.prog 32 #[.pointer (some ⟨d, 0, none⟩), .int .i64 n] wr fun e w1 => e = .returned (.int .i64 (fuE sR n)) ∧ Gx w w0 U0 w1 B cs p d sP oP (fuS sR n) oR pl kl := by
  obtain ⟨Ft, Gt, k, nn, ff⟩ := h
  have k0 := k
  match oR, k, k0 with
  | none, k, k0 =>
    obtain ⟨rfl, at_⟩ := k.rp
    exact (rfuse_any d Gt sR n wr at_).mono fun _ w1 ⟨e1, G', d1, d2, d3⟩ => ⟨e1, Ft, G', k0.ref (o' := none) ⟨rfl, d1⟩ d2 d3, UU.ref nn ff d2 d3⟩
  | some x, k, k0 =>
    obtain ⟨q, G, v, rfl, z, rfl⟩ := k.rp
    refine (rfuse_any d G sR n wr z.rd.at_).mono ?_
    rintro e w1 ⟨e1, G', d1, d2, d3⟩
    have hn := fuS_n sR n
    have nG : Nx wr (FQ G q v) (FQ G' q v) := fun y hy => by
      rcases hy with c | c
      · rcases d2 y c with e | e
        · exact .inl (.inl e)
        · exact .inr e
      · exact .inl (.inr c)
    have fG : Bf (FQ G q v) wr w1 := d3.wide fun _ c => .inl c
    exact ⟨e1, Ft, _, k0.ref (o' := some x) ⟨q, G', v, rfl, ⟨z.rd.disk d1 d2 d3, z.h1, by rw [hn]; exact z.n4, by rw [hn]; exact z.n2, by rw [hn]; exact z.tk, z.ok⟩, rfl⟩ nG fG, UU.ref nn ff nG fG⟩
theorem Gx.start {w w0 : World} {U0 : Nat → Prop} {wr : World} {B : Nat} {cs : List Value} {p d : Nat} {sP sR : St} {oP oR : Option Lo} {pl kl : Option Addr} (h : Gx w w0 U0 wr B cs p d sP oP sR oR pl kl) {w1 : World} (hb : Below wr.heap.size wr w1) : ∃ U, U B ∧ (∀ z, U z → z < wr.heap.size ∧ w.heap.size ≤ z) ∧ Gx w w1 U w1 B cs p d sP oP sR oR pl kl := by
  obtain ⟨Ft, Gt, k, nn, ff⟩ := h
  refine ⟨UU Ft Gt B, .inr (.inr rfl), fun z c => ?_, Ft, Gt, k.later hb, Nx.refl _ _, Bf.refl _ _⟩
  rcases c with c | c | c
  · exact ⟨k.pp.lt c, k.nF z c⟩
  · exact ⟨k.rp.lt c, k.nG z c⟩
  · rw [c]
    exact ⟨k.bk.lt, k.nB⟩
theorem Gx.bf {w w0 : World} {U0 : Nat → Prop} {wr : World} {B : Nat} {cs : List Value} {p d : Nat} {sP sR : St} {oP oR : Option Lo} {pl kl : Option Addr} (h : Gx w w0 U0 wr B cs p d sP oP sR oR pl kl) : Bf U0 w0 wr := by
  obtain ⟨Ft, Gt, k, nn, ff⟩ := h
  exact ff
theorem Gx.down {w w0 : World} {U0 : Nat → Prop} {wr : World} {B : Nat} {cs : List Value} {p d : Nat} {sP sR : St} {oP oR : Option Lo} {pl kl : Option Addr} (h : Gx w w0 U0 wr B cs p d sP oP sR oR pl kl) : wr.cell? ⟨d, 3, none⟩ = some (.bool sR.down) ∧ wr.cell? ⟨d, 4, none⟩ = some (.int .i64 (sR.n : Int)) := by
  obtain ⟨Ft, Gt, k, nn, ff⟩ := h
  obtain ⟨G, at_, hG⟩ := k.rp.at_
  obtain ⟨-, sg, sc, v, -, hr⟩ := at_
  exact ⟨hr.c3, hr.c4⟩
section
variable {w w0 : World} {U0 : Nat → Prop} {wr : World} {pa : Option Addr} {l : List Int}
theorem ints_bf (hp : IntAt w0 pa l) (hlt : ∀ x, pa = some x → 0 < l.length → x.block < w0.heap.size ∧ ¬ U0 x.block) (ff : Bf U0 w0 wr) : IntAt wr pa l := fun i hi => by
  obtain ⟨b, o, e, c⟩ := hp i hi
  exact ⟨b, o, e, ff.cell c (hlt _ e (by omega)).2⟩
end
theorem gcrashP_any (w w0 : World) (U0 : Nat → Prop) (wr : World) (B : Nat) (cs : List Value) (p d : Nat) (sP sR : St) (oR : Option Lo) (kl : Option Addr) (pa : Option Addr) (pn pc : Nat) (l : List Int) (hpn : l.length = pn) (hl : sP.l.length ≤ 1000000) (hp : IntAt w0 pa l) (hlt : ∀ x, pa = some x → 0 < l.length → x.block < w0.heap.size ∧ ¬ U0 x.block) (h : Gx w w0 U0 wr B cs p d sP none sR oR none kl) :
    Calls Tryz.prog 23 #[.pointer (some ⟨p, 0, none⟩), .slice pa pn pc] wr fun e w1 => e = .returned (.int .i64 0) ∧ Gx w w0 U0 w1 B cs p d (crS sP l) none sR oR none kl := by
  obtain ⟨Ft, Gt, k, nn, ff⟩ := h
  have k0 := k
  obtain ⟨-, dl⟩ := k.pp
  refine (crashL w wr p Ft sP pa pn pc l hpn hl (ints_bf hp hlt ff) (fun x e h0 c => ?_) dl).mono fun _ w1 ⟨e1, F', d1, d2, d3⟩ => ⟨e1, F', Gt, k0.prog (o' := none) ⟨rfl, d1⟩ d2 d3, UU.prog nn ff d2 d3⟩
  have hx := hlt x e h0
  rcases nn _ (.inl c) with c2 | c2
  · exact hx.2 c2
  · omega
theorem gcrashR_any (w w0 : World) (U0 : Nat → Prop) (wr : World) (B : Nat) (cs : List Value) (p d : Nat) (sP sR : St) (oP : Option Lo) (pl : Option Addr) (pa : Option Addr) (pn pc : Nat) (l : List Int) (hpn : l.length = pn) (hl : sR.l.length ≤ 1000000) (hp : IntAt w0 pa l) (hlt : ∀ x, pa = some x → 0 < l.length → x.block < w0.heap.size ∧ ¬ U0 x.block) (h : Gx w w0 U0 wr B cs p d sP oP sR none pl none) :
    Calls Tryz.prog 46 #[.pointer (some ⟨d, 0, none⟩), .slice pa pn pc] wr fun e w1 => e = .returned (.int .i64 0) ∧ Gx w w0 U0 w1 B cs p d sP oP (crS sR l) none pl none := by
  obtain ⟨Ft, Gt, k, nn, ff⟩ := h
  have k0 := k
  obtain ⟨-, at_⟩ := k.rp
  refine (rcrash_any d Gt sR pa pn pc l hpn wr at_ hl (ints_bf hp hlt ff) (fun x e h0 c => ?_)).mono fun _ w1 ⟨e1, G', d1, d2, d3⟩ => ⟨e1, Ft, G', k0.ref (o' := none) ⟨rfl, d1⟩ d2 d3, UU.ref nn ff d2 d3⟩
  have hx := hlt x e h0
  rcases nn _ (.inr (.inl c)) with c2 | c2
  · exact hx.2 c2
  · omega
theorem gwriteP_any (w w0 : World) (U0 : Nat → Prop) (wr : World) (B : Nat) (cs : List Value) (p d : Nat) (sP sR : St) (oR : Option Lo) (kl : Option Addr) (k : Int) (t : ByteArray) (hl : sP.l.length ≤ 1000000) (h : Gx w w0 U0 wr B cs p d sP none sR oR none kl) :
    Calls Tryz.prog 34 #[.pointer (some ⟨p, 0, none⟩), .int .i64 k, .string t] wr fun e w1 => e = .returned (.int .i64 (wrE sP k t.data.toList)) ∧ Gx w w0 U0 w1 B cs p d (wrS sP k t.data.toList) none sR oR none kl := by
  obtain ⟨Ft, Gt, z, nn, ff⟩ := h
  have k0 := z
  obtain ⟨-, dl⟩ := z.pp
  exact (writeL w wr p Ft sP k t hl dl).mono fun _ w1 ⟨e1, F', d1, d2, d3⟩ => ⟨e1, F', Gt, k0.prog (o' := none) ⟨rfl, d1⟩ d2 d3, UU.prog nn ff d2 d3⟩
theorem gwriteR_any (w w0 : World) (U0 : Nat → Prop) (wr : World) (B : Nat) (cs : List Value) (p d : Nat) (sP sR : St) (oP : Option Lo) (pl : Option Addr) (k : Int) (t : ByteArray) (hl : sR.l.length ≤ 1000000) (h : Gx w w0 U0 wr B cs p d sP oP sR none pl none) :
    Calls Tryz.prog 35 #[.pointer (some ⟨d, 0, none⟩), .int .i64 k, .string t] wr fun e w1 => e = .returned (.int .i64 (wrE sR k t.data.toList)) ∧ Gx w w0 U0 w1 B cs p d sP oP (wrS sR k t.data.toList) none pl none := by
  obtain ⟨Ft, Gt, z, nn, ff⟩ := h
  have k0 := z
  obtain ⟨-, at_⟩ := z.rp
  exact (rwrite_any d Gt sR k t wr at_ hl).mono fun _ w1 ⟨e1, G', d1, d2, d3⟩ => ⟨e1, Ft, G', k0.ref (o' := none) ⟨rfl, d1⟩ d2 d3, UU.ref nn ff d2 d3⟩
theorem greadP_any (w w0 : World) (U0 : Nat → Prop) (wr : World) (B : Nat) (cs : List Value) (p d : Nat) (sP sR : St) (oP oR : Option Lo) (pl kl : Option Addr) (k : Int) (h : Gx w w0 U0 wr B cs p d sP oP sR oR pl kl) :
    Calls Tryz.prog 18 #[.pointer (some ⟨p, 0, none⟩), .int .i64 k] wr fun e w1 => e = .returned (.tuple #[sv (rdV sP k), .int .i64 (rch sP k)]) ∧ w1 = wr := by
  obtain ⟨Ft, Gt, z, nn, ff⟩ := h
  obtain ⟨F, dl, hF⟩ := z.pp.dl
  exact readL w wr p F sP k dl
theorem greadR_any (w w0 : World) (U0 : Nat → Prop) (wr : World) (B : Nat) (cs : List Value) (p d : Nat) (sP sR : St) (oP oR : Option Lo) (pl kl : Option Addr) (k : Int) (hl : sR.l.length ≤ 1000000) (h : Gx w w0 U0 wr B cs p d sP oP sR oR pl kl) :
    Calls Tryz.prog 19 #[.pointer (some ⟨d, 0, none⟩), .int .i64 k] wr fun e w1 => e = .returned (.tuple #[sv (rdV sR k), .int .i64 (rch sR k)]) ∧ w1 = wr := by
  obtain ⟨Ft, Gt, z, nn, ff⟩ := h
  obtain ⟨G, at_, hG⟩ := z.rp.at_
  exact rread_any d G sR k wr at_ hl
theorem gcompP_any (w w0 : World) (U0 : Nat → Prop) (wr : World) (B : Nat) (cs : List Value) (p d : Nat) (sP sR : St) (x : Lo) (oR : Option Lo) (pl kl : Option Addr) (a : Option Addr) (n c : Nat) (us : List Bs) (hn : us.length = n) (hnb : n ≤ 10000000000000) (hl : sP.l.length + 4000 ≤ 1000000) (hk : Kh w) (tx : TxAt w0 a us) (hlt : ∀ x, a = some x → 0 < us.length → x.block < w0.heap.size ∧ ¬ U0 x.block) (h : Gx w w0 U0 wr B cs p d sP (some x) sR oR pl kl) :
    Calls Tryz.prog 38 #[.pointer pl, .slice a n c] wr fun e w1 => e = .returned (.int .i64 (cmp sP x us).1.1) ∧ Gx w w0 U0 w1 B cs p d (cmp sP x us).1.2 (some (cmp sP x us).2) sR oR pl kl := by
  obtain ⟨Ft, Gt, k, nn, ff⟩ := h
  have k0 := k
  obtain ⟨q, F, v, rfl, z, rfl⟩ := k.pp
  have tw : TxAt wr a us := fun i hi => by
    obtain ⟨b, o, e, cc⟩ := tx i hi
    exact ⟨b, o, e, ff.cell cc (hlt _ e (by omega)).2⟩
  have ap : Ap a us F := fun y e h0 cc => by
    have hx := hlt y e h0
    rcases nn _ (.inl (.inl cc)) with c2 | c2
    · exact hx.2 c2
    · omega
  refine (lzcompact_any w wr p F sP q v x a n c us hn hnb hl hk z tw ap).mono ?_
  rintro e w1 ⟨he, F', v', z', n1, f⟩
  exact ⟨he, _, Gt, k0.prog (o' := some (cmp sP x us).2) ⟨q, F', v', rfl, z', rfl⟩ n1.fh f, UU.prog nn ff n1.fh f⟩
theorem gcompR_any (w w0 : World) (U0 : Nat → Prop) (wr : World) (B : Nat) (cs : List Value) (p d : Nat) (sP sR : St) (x : Lo) (oP : Option Lo) (pl kl : Option Addr) (a : Option Addr) (n c : Nat) (us : List Bs) (hn : us.length = n) (hnb : n ≤ 10000000000000) (hdn : sR.down = false) (hl : sR.l.length + 4000 ≤ 1000000) (tx : TxAt w0 a us) (hlt : ∀ x, a = some x → 0 < us.length → x.block < w0.heap.size ∧ ¬ U0 x.block) (h : Gx w w0 U0 wr B cs p d sP oP sR (some x) pl kl) :
    Calls Tryz.prog 39 #[.pointer kl, .slice a n c] wr fun e w1 => e = .returned (.int .i64 (cmp sR x us).1.1) ∧ Gx w w0 U0 w1 B cs p d sP oP (cmp sR x us).1.2 (some (cmp sR x us).2) pl kl := by
  obtain ⟨Ft, Gt, k, nn, ff⟩ := h
  have k0 := k
  obtain ⟨q, G, v, rfl, z, rfl⟩ := k.rp
  have tw : TxAt wr a us := fun i hi => by
    obtain ⟨b, o, e, cc⟩ := tx i hi
    exact ⟨b, o, e, ff.cell cc (hlt _ e (by omega)).2⟩
  have ap : Ap a us G := fun y e h0 cc => by
    have hx := hlt y e h0
    rcases nn _ (.inr (.inl (.inl cc))) with c2 | c2
    · exact hx.2 c2
    · omega
  refine (rcompact_any wr d G sR q v x a n c us hn hnb hdn hl z tw ap).mono ?_
  rintro e w1 ⟨he, G', v', z', n1, n2, f⟩
  have nG : Nx wr (FQ G q v) (FQ G' q v') := fun y hy => by
    rcases hy with c | c
    · rcases n1 y c with e | e
      · exact .inl (.inl e)
      · exact .inr e
    · rcases n2 y c with e | e
      · exact .inl (.inr e)
      · exact .inr e
  exact ⟨he, Ft, _, k0.ref (o' := some (cmp sR x us).2) ⟨q, G', v', rfl, z', rfl⟩ nG f, UU.ref nn ff nG f⟩
end Go.Proofs.YtdcimnmebgkmjaaGreatDoor
namespace Go.Proofs.YtdcimnmebgkmjaaGreatDoor
open Go.RowKit Go.Proofs.Fd Go.Proofs.Dk Go.Proofs.Lg
set_option maxRecDepth 20000
theorem bgf_head (k H g : Nat) (r : Bs) (f : Nat → Bs) : bgf k H (hd g ++ r) f k = hd g := by
  have hl : 0 < (hd g ++ r).length / 64 := by rw [List.length_append, hd_len]; omega
  have := bgf_in (k := k) (H := H) (b := hd g ++ r) f hl
  rw [Nat.add_zero] at this
  rw [this]
  obtain ⟨m, hm⟩ : ∃ m, (hd g ++ r).length / 64 = m + 1 := ⟨(hd g ++ r).length / 64 - 1, by omega⟩
  simp only [hm]
  show (hd g ++ r).take 64 = hd g
  rw [List.take_left' (hd_len g)]
structure Lu (w wr : World) (p : Nat) (F : Nat → Prop) (n : Nat) (f : Nat → Bs) (l : List Wt) (q : Nat) (v : Value) (x : Lo) : Prop where
  hd_ : HD w wr p F (up n f l) q (x.h * (n / 2)) (n / 2) x.g v x.ts x.tk x.mr []
  h1 : x.h ≤ 1
  n4 : 4 ≤ n
  n2 : n ≤ 1024
  tk : x.tk ≤ n / 2
  ok : ∀ t ∈ x.ts, 1 ≤ t.length ∧ t.length ≤ 2000
  sh : lay f l (x.h * (n / 2)) = hd x.g
  g1 : 1 ≤ x.g
  g2 : x.g ≤ 1000000
  ln : l.length ≤ x.tk
section
variable {w wr : World} {p : Nat} {F : Nat → Prop} {n : Nat} {f : Nat → Bs} {l : List Wt} {q : Nat} {v : Value} {x : Lo}
theorem Lu.later (h : Lu w wr p F n f l q v x) {w' : World} (hb : Below wr.heap.size wr w') : Lu w w' p F n f l q v x := ⟨h.hd_.later hb, h.h1, h.n4, h.n2, h.tk, h.ok, h.sh, h.g1, h.g2, h.ln⟩
theorem Lu.other (h : Lu w wr p F n f l q v x) {w' : World} {G : Nat → Prop} (hb : Bf G wr w') (hG : ∀ y, FH F q v y → ¬ G y) (hw : ∀ y, G y → w.heap.size ≤ y) : Lu w w' p F n f l q v x :=
  ⟨⟨⟨h.hd_.dl.at_.other hb (fun y hy => hG y (.inl hy)), h.hd_.dl.new, h.hd_.dl.below.trans (hb.below hw h.hd_.dl.below.size)⟩, h.hd_.hf.bf hb (fun y hy => hG y (.inr hy)), h.hd_.ap⟩, h.h1, h.n4, h.n2, h.tk, h.ok, h.sh, h.g1, h.g2, h.ln⟩
theorem Lu.fh (h : Lu w wr p F n f l q v x) {y : Nat} (hy : FH F q v y) : y < wr.heap.size ∧ w.heap.size ≤ y := by
  rcases hy with e | e
  · exact ⟨h.hd_.dl.at_.lt e, h.hd_.dl.new y e⟩
  · exact ⟨h.hd_.hf.lt e, (h.hd_.ap y e).2⟩
theorem Lu.tlen (h : Lu w wr p F n f l q v x) : x.ts.length ≤ 512 := by
  have h1 := tkn_ge_len x.ts
  have h2 : tkn 1 x.ts ≤ n / 2 := h.tk
  have h3 := h.n2
  omega
theorem Lu.fr (h : Lu w wr p F n f l q v x) : x.h * (n / 2) + n / 2 ≤ n := by
  rcases (by have := h.h1; omega : x.h = 0 ∨ x.h = 1) with e | e
  · rw [e, Nat.zero_mul]; omega
  · rw [e, Nat.one_mul]; omega
end
theorem recordsU (w wr : World) (p : Nat) (F : Nat → Prop) (n : Nat) (f : Nat → Bs) (l : List Wt) (q : Nat) (v : Value) (x : Lo) (h : Lu w wr p F n f l q v x) :
    Calls Tryz.prog 24 #[.pointer (some ⟨q, 0, none⟩)] wr fun e w' => ∃ a c, e = .returned (.slice a x.ts.length c) ∧ TxAt w' a x.ts ∧ Below wr.heap.size wr w' :=
  (lrecords_any q p _ (n / 2) x.g v x.ts x.tk x.mr [] wr (by have := h.tlen; omega) (fun t ht => (h.ok t ht).2) h.hd_.hf).mono fun _ _ ⟨u, he, hr, hb⟩ => by
    obtain ⟨a, c, rfl, tx, -⟩ := owns_tx rfl hr
    exact ⟨a, c, he, tx, hb⟩
theorem generationU (w wr : World) (p : Nat) (F : Nat → Prop) (n : Nat) (f : Nat → Bs) (l : List Wt) (q : Nat) (v : Value) (x : Lo) (h : Lu w wr p F n f l q v x) :
    Calls Tryz.prog 25 #[.pointer (some ⟨q, 0, none⟩)] wr fun e w' => e = .returned (.int .i64 (x.g : Int)) ∧ w' = wr := lgeneration_any q p _ (n / 2) x.g v x.ts x.tk x.mr [] wr h.hd_.hf
theorem openU_new (w wr : World) (p : Nat) (F : Nat → Prop) (n : Nat) (hn4 : 4 ≤ n) (hn2 : n ≤ 1024) (hk : Kh w) (h : Dl w wr p F (up n zs [])) :
    Calls Tryz.prog 20 #[.pointer (some ⟨p, 0, none⟩)] wr fun e w' => ∃ q v F', e = .returned (.tuple #[.pointer (some ⟨q, 0, none⟩), .int .i64 0]) ∧ Lu w w' p F' n (bgf 0 (n / 2) (hd 1 ++ rcs (hm 1) []) zs) [] q v ⟨0, 1, []⟩ ∧ Bf F wr w' ∧ Nx wr F F' ∧ ∀ z, HFt q v z → wr.heap.size ≤ z := by
  have eo := opn_blank (n := n) zs (fun _ => rfl) (by omega)
  refine (lopen_any w wr p F (up n zs []) (by show 2 ≤ n / 2; omega) (by show 0 + 2000 ≤ 1000000; decide) hk h).mono ?_
  rintro e w' ⟨F', d1, d2, d3, hres⟩
  rw [eo] at d1 hres
  rcases hres with ⟨-, q, v, he, hh, nn⟩ | ⟨c, -⟩
  · refine ⟨q, v, F', he, ⟨hh, by decide, hn4, hn2, by show 1 ≤ n / 2; omega, nofun, ?_, by decide, by decide, Nat.zero_le _⟩, d3, d2, nn⟩
    show bgf 0 (n / 2) _ zs (0 * (n / 2)) = hd 1
    rw [Nat.zero_mul]
    exact bgf_head _ _ _ _ _
  · exact absurd rfl c
end Go.Proofs.YtdcimnmebgkmjaaGreatDoor
