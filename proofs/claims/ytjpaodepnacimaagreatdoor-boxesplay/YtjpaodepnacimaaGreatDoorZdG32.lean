/- Parts: SyE,SyF,SyG,YsC,YsD,BpX. -/
import Derived.Test.YtjpaodepnacimaaGreatDoorZdG31
import Derived.Test.YtjpaodepnacimaaGreatDoorZdG29
namespace Go.Proofs.YtjpaodepnacimaaGreatDoor
open Go.RowKit Go.Proofs.Fd Go.Proofs.Dk Go.Proofs.Lg
set_option maxRecDepth 20000
theorem fuS_n (s:St) (n:Int):(fuS s n).n=s.n:=(kp_fuse s n).n
structure S2 (w wr:World) (B:Nat) (most:Int) (p d:Nat) (F G:Nat→Prop) (sP sR:St) (sv kv:Value):Prop where
 bk:Blk wr B (btc most p d sv kv)
 dl:Dl w wr p F sP
 at_:DAt wr d G sR
 fg:∀z,F z→¬G z
 fb:¬F B
 gb:¬G B
 nG:∀z,G z→w.heap.size≤z
 nB:w.heap.size≤B
def Sx2 (w w0:World) (U0:Nat→Prop) (wr:World) (B:Nat) (most:Int) (p d:Nat) (sP sR:St) (ps pk:Option Addr):Prop:=∃F G,S2 w wr B most p d F G sP sR (.pointer ps) (.pointer pk)∧Nx w0 U0 (UU F G B)∧Bf U0 w0 wr
theorem PP.dl {w w2:World} {p:Nat} {most:Int} {s:St} {o:Option (Lo×Ey)} {pv:Option Addr} {Ft:Nat→Prop} (h:PP w w2 p most s o pv Ft):∃F,Dl w w2 p F s∧∀z,F z→Ft z:=by
 match o,h with
 | none,⟨e,k⟩=>exact⟨Ft,k,fun _=>id⟩
 | some (x,y),⟨q,b,F,v,va,vh,e,k,eF⟩ =>
  subst eF
  exact⟨F,k.lz.hd_.dl,fun z hz => .inl (.inl hz)⟩
theorem Sx2.sd {w w0:World} {U0:Nat→Prop} {wr:World} {B:Nat} {most:Int} {p d:Nat} {s:St} {ps pk:Option Addr} (h:Sx2 w w0 U0 wr B most p d s s ps pk):∃F G,Sd w wr B most p d F G s (.pointer ps) (.pointer pk)∧Nx w0 U0 (UU F G B)∧Bf U0 w0 wr:=by
 obtain⟨F,G,k,nn,ff⟩:=h
 exact⟨F,G,⟨k.bk,k.dl,k.at_,k.fg,k.fb,k.gb,k.nG,k.nB⟩,nn,ff⟩
theorem Sx2.later {w w0:World} {U0:Nat→Prop} {wr:World} {B:Nat} {most:Int} {p d:Nat} {sP sR:St} {ps pk:Option Addr} (h:Sx2 w w0 U0 wr B most p d sP sR ps pk) {w1:World} (hb:Below wr.heap.size wr w1):Sx2 w w0 U0 w1 B most p d sP sR ps pk:=by
 obtain⟨F,G,k,nn,ff⟩:=h
 exact⟨F,G,⟨k.bk.later hb,k.dl.later hb,k.at_.later hb,k.fg,k.fb,k.gb,k.nG,k.nB⟩,nn,ff.later hb⟩
theorem S2.prog {w w0:World} {U0:Nat→Prop} {wr:World} {B:Nat} {most:Int} {p d:Nat} {F G:Nat→Prop} {sP sR s':St} {ps pk:Option Addr} (k:S2 w wr B most p d F G sP sR (.pointer ps) (.pointer pk)) {w1:World} (z:Ds w wr p F s' w1) (nn:Nx w0 U0 (UU F G B)) (ff:Bf U0 w0 wr):Sx2 w w0 U0 w1 B most p d s' sR ps pk:=by
 obtain⟨F',d1,n,f⟩:=z
 refine⟨F',G,⟨k.bk.bf f k.fb,d1,k.at_.other f (fun z hz c=>k.fg z c hz),fun z hz c => ?_,fun c => ?_,k.gb,k.nG,k.nB⟩,UU.prog nn ff n f⟩
 ·rcases n z hz with e|e
  ·exact k.fg z e c
  ·have:=k.at_.lt c
   omega
 ·rcases n B c with e|e
  ·exact k.fb e
  ·have:=k.bk.lt
   omega
theorem S2.ref {w w0:World} {U0:Nat→Prop} {wr:World} {B:Nat} {most:Int} {p d:Nat} {F G:Nat→Prop} {sP sR s':St} {ps pk:Option Addr} (k:S2 w wr B most p d F G sP sR (.pointer ps) (.pointer pk)) {w1:World} (z:DSt wr d G s' w1) (nn:Nx w0 U0 (UU F G B)) (ff:Bf U0 w0 wr):Sx2 w w0 U0 w1 B most p d sP s' ps pk:=by
 obtain⟨G',d1,n,f⟩:=z
 have hs:=k.dl.below.size
 refine⟨F,G',⟨k.bk.bf f k.gb,⟨k.dl.at_.other f k.fg,k.dl.new,k.dl.below.trans (f.below k.nG hs)⟩,d1,fun z hz c => ?_,k.fb,fun c => ?_,fun z hz => ?_,k.nB⟩,UU.ref nn ff n f⟩
 ·rcases n z c with e|e
  ·exact k.fg z hz e
  ·have:=k.dl.at_.lt hz
   omega
 ·rcases n B c with e|e
  ·exact k.gb e
  ·have:=k.bk.lt
   omega
 ·rcases n z hz with e|e
  ·exact k.nG z e
  ·omega
theorem bcrashP_any (w w0:World) (U0:Nat→Prop) (wr:World) (B:Nat) (most:Int) (p d:Nat) (sP sR:St) (ps pk:Option Addr) (pa:Option Addr) (pn pc:Nat) (l:List Int) (hpn:l.length=pn) (hl:sP.l.length≤1000000) (hp:IntAt w pa l) (hlt:∀x,pa=some x→0 < l.length→x.block < w.heap.size) (h:Sx2 w w0 U0 wr B most p d sP sR ps pk) :
  Calls Tryz.prog 50 #[.pointer (some ⟨p,0,none⟩),.slice pa pn pc] wr fun e w1=>e = .returned (.int .i64 0)∧Sx2 w w0 U0 w1 B most p d (crS sP l) sR ps pk:=by
 obtain⟨F,G,k,nn,ff⟩:=h
 have hp':IntAt wr pa l:=fun i hi=>by
  obtain⟨b,o,e,c⟩:=hp i hi
  exact⟨b,o,e,cell_later k.dl.below c⟩
 refine (crashL w wr p F sP pa pn pc l hpn hl hp' (fun x e h0 c => ?_) k.dl).mono fun _ w1 ⟨e1,z⟩=>⟨e1,k.prog z nn ff⟩
 have:=hlt x e h0
 have:=k.dl.new x.block c
 omega
theorem bcrashR_any (w w0:World) (U0:Nat→Prop) (wr:World) (B:Nat) (most:Int) (p d:Nat) (sP sR:St) (ps pk:Option Addr) (pa:Option Addr) (pn pc:Nat) (l:List Int) (hpn:l.length=pn) (hl:sR.l.length≤1000000) (hp:IntAt w pa l) (hlt:∀x,pa=some x→0 < l.length→x.block < w.heap.size) (h:Sx2 w w0 U0 wr B most p d sP sR ps pk) :
  Calls Tryz.prog 51 #[.pointer (some ⟨d,0,none⟩),.slice pa pn pc] wr fun e w1=>e = .returned (.int .i64 0)∧Sx2 w w0 U0 w1 B most p d sP (crS sR l) ps pk:=by
 obtain⟨F,G,k,nn,ff⟩:=h
 have hp':IntAt wr pa l:=fun i hi=>by
  obtain⟨b,o,e,c⟩:=hp i hi
  exact⟨b,o,e,cell_later k.dl.below c⟩
 refine (rcrash_any d G sR pa pn pc l hpn wr k.at_ hl hp' (fun x e h0 c => ?_)).mono fun _ w1 ⟨e1,z⟩=>⟨e1,k.ref z nn ff⟩
 have:=hlt x e h0
 have:=k.nG x.block c
 omega
section
variable (w w0:World) (U0:Nat→Prop) (wr:World) (B:Nat) (most:Int) (p d:Nat) (sP:St) (sR:St) (x:Lo) (y:Ey) (oP oR:Option (Lo×Ey)) (pv pk:Option Addr)
end
def PL (w w2:World) (p:Nat) (s:St) (o:Option Lo) (pl:Option Addr) (Ft:Nat→Prop):Prop :=
 match o with
 | none=>pl=none∧Dl w w2 p Ft s
 | some x=>∃q F v,pl=some ⟨q,0,none⟩∧Lz w w2 p F s q v x∧Ft=FH F q v
def RL (w2:World) (d:Nat) (s:St) (o:Option Lo) (kl:Option Addr) (Gt:Nat→Prop):Prop :=
 match o with
 | none=>kl=none∧DAt w2 d Gt s
 | some x=>∃q G v,kl=some ⟨q,0,none⟩∧Rl w2 d G s q v x∧Gt=FQ G q v
section
variable {w w2:World} {p d:Nat} {s:St} {o:Option Lo} {pl kl:Option Addr} {Ft Gt:Nat→Prop}
theorem PL.other (h:PL w w2 p s o pl Ft) {K:Nat→Prop} {w3:World} (hb:Bf K w2 w3) (hK:∀z,Ft z→¬K z) (hw:∀z,K z→w.heap.size≤z):PL w w3 p s o pl Ft:=by
 match o,h with
 | none,⟨e,k⟩=>exact⟨e,⟨k.at_.other hb hK,k.new,k.below.trans (hb.below hw k.below.size)⟩⟩
 | some x,⟨q,F,v,e,k,eF⟩ =>
  subst eF
  exact⟨q,F,v,e,k.other hb hK hw,rfl⟩
theorem PL.lt (h:PL w w2 p s o pl Ft) {z:Nat} (hz:Ft z):z < w2.heap.size:=by
 match o,h with
 | none,⟨e,k⟩=>exact k.at_.lt hz
 | some x,⟨q,F,v,e,k,eF⟩ =>
  subst eF
  exact (k.fh hz).1
theorem PL.dl (h:PL w w2 p s o pl Ft):∃F,Dl w w2 p F s∧∀z,F z→Ft z:=by
 match o,h with
 | none,⟨e,k⟩=>exact⟨Ft,k,fun _=>id⟩
 | some x,⟨q,F,v,e,k,eF⟩ =>
  subst eF
  exact⟨F,k.hd_.dl,fun z hz => .inl hz⟩
theorem RL.other (h:RL w2 d s o kl Gt) {K:Nat→Prop} {w3:World} (hb:Bf K w2 w3) (hK:∀z,Gt z→¬K z):RL w3 d s o kl Gt:=by
 match o,h with
 | none,⟨e,k⟩=>exact⟨e,k.other hb hK⟩
 | some x,⟨q,G,v,e,k,eF⟩ =>
  subst eF
  exact⟨q,G,v,e,k.other hb hK,rfl⟩
theorem RL.lt (h:RL w2 d s o kl Gt) {z:Nat} (hz:Gt z):z < w2.heap.size:=by
 match o,h with
 | none,⟨e,k⟩=>exact k.lt hz
 | some x,⟨q,G,v,e,k,eF⟩ =>
  subst eF
  exact k.fq hz
theorem RL.at_ (h:RL w2 d s o kl Gt):∃G,DAt w2 d G s∧∀z,G z→Gt z:=by
 match o,h with
 | none,⟨e,k⟩=>exact⟨Gt,k,fun _=>id⟩
 | some x,⟨q,G,v,e,k,eF⟩ =>
  subst eF
  exact⟨G,k.rd.at_,fun z hz => .inl hz⟩
end
structure L2 (w wr:World) (B:Nat) (most:Int) (p d:Nat) (sP:St) (oP:Option Lo) (sR:St) (oR:Option Lo) (ps pk pl kl:Option Addr) (Ft Gt:Nat→Prop):Prop where
 bk:Blk wr B (btc most p d (.pointer ps) (.pointer pk))
 pp:PL w wr p sP oP pl Ft
 rp:RL wr d sR oR kl Gt
 fg:∀z,Ft z→¬Gt z
 fb:¬Ft B
 gb:¬Gt B
 nF:∀z,Ft z→w.heap.size≤z
 nG:∀z,Gt z→w.heap.size≤z
 nB:w.heap.size≤B
 sz:w.heap.size≤wr.heap.size
def Lx (w w0:World) (U0:Nat→Prop) (wr:World) (B:Nat) (most:Int) (p d:Nat) (sP:St) (oP:Option Lo) (sR:St) (oR:Option Lo) (ps pk pl kl:Option Addr):Prop:=∃Ft Gt,L2 w wr B most p d sP oP sR oR ps pk pl kl Ft Gt∧Nx w0 U0 (UU Ft Gt B)∧Bf U0 w0 wr
section
variable {w w0:World} {U0:Nat→Prop} {wr:World} {B:Nat} {most:Int} {p d:Nat} {sP sR:St} {oP oR:Option Lo} {ps pk pl kl:Option Addr} {Ft Gt:Nat→Prop}
theorem L2.later (h:L2 w wr B most p d sP oP sR oR ps pk pl kl Ft Gt) {w1:World} (hb:Below wr.heap.size wr w1):L2 w w1 B most p d sP oP sR oR ps pk pl kl Ft Gt :=
 ⟨h.bk.later hb,h.pp.other (K:=fun _=>False) (Bf.of hb) (fun _ _=>id) (fun _ c=>c.elim),h.rp.other (K:=fun _=>False) (Bf.of hb) (fun _ _=>id),h.fg,h.fb,h.gb,h.nF,h.nG,h.nB,Nat.le_trans h.sz hb.size⟩
theorem L2.prog (h:L2 w wr B most p d sP oP sR oR ps pk pl kl Ft Gt) {w1:World} {s':St} {o':Option Lo} {pl':Option Addr} {Ft':Nat→Prop} (k:PL w w1 p s' o' pl' Ft') (n:Nx wr Ft Ft') (f:Bf Ft wr w1):L2 w w1 B most p d s' o' sR oR ps pk pl' kl Ft' Gt:=by
 refine⟨h.bk.bf f h.fb,k,h.rp.other f (fun z hz c=>h.fg z c hz),fun z hz c => ?_,fun c => ?_,h.gb,fun z hz => ?_,h.nG,h.nB,Nat.le_trans h.sz f.size⟩
 ·rcases n z hz with e|e
  ·exact h.fg z e c
  ·have:=h.rp.lt c
   omega
 ·rcases n B c with e|e
  ·exact h.fb e
  ·have:=h.bk.lt
   omega
 ·rcases n z hz with e|e
  ·exact h.nF z e
  ·have:=h.sz
   omega
theorem L2.ref (h:L2 w wr B most p d sP oP sR oR ps pk pl kl Ft Gt) {w1:World} {s':St} {o':Option Lo} {kl':Option Addr} {Gt':Nat→Prop} (k:RL w1 d s' o' kl' Gt') (n:Nx wr Gt Gt') (f:Bf Gt wr w1):L2 w w1 B most p d sP oP s' o' ps pk pl kl' Ft Gt':=by
 refine⟨h.bk.bf f h.gb,h.pp.other f h.fg h.nG,k,fun z hz c => ?_,h.fb,fun c => ?_,h.nF,fun z hz => ?_,h.nB,Nat.le_trans h.sz f.size⟩
 ·rcases n z c with e|e
  ·exact h.fg z hz e
  ·have:=h.pp.lt hz
   omega
 ·rcases n B c with e|e
  ·exact h.gb e
  ·have:=h.bk.lt
   omega
 ·rcases n z hz with e|e
  ·exact h.nG z e
  ·have:=h.sz
   omega
theorem Lx.later (h:Lx w w0 U0 wr B most p d sP oP sR oR ps pk pl kl) {w1:World} (hb:Below wr.heap.size wr w1):Lx w w0 U0 w1 B most p d sP oP sR oR ps pk pl kl:=by
 obtain⟨Ft,Gt,k,nn,ff⟩:=h
 exact⟨Ft,Gt,k.later hb,nn,ff.later hb⟩
theorem Lx.sx (h:Lx w w0 U0 wr B most p d sP oP sR oR ps pk pl kl):Sx2 w w0 U0 wr B most p d sP sR ps pk:=by
 obtain⟨Ft,Gt,k,nn,ff⟩:=h
 obtain⟨F,dl,hF⟩:=k.pp.dl
 obtain⟨G,at_,hG⟩:=k.rp.at_
 exact⟨F,G,⟨k.bk,dl,at_,fun z hz c=>k.fg z (hF z hz) (hG z c),fun c=>k.fb (hF B c),fun c=>k.gb (hG B c),fun z hz=>k.nG z (hG z hz),k.nB⟩,UU.less nn hF hG,ff⟩
theorem Sx2.lx (h:Sx2 w w0 U0 wr B most p d sP sR ps pk):Lx w w0 U0 wr B most p d sP none sR none ps pk none none:=by
 obtain⟨F,G,k,nn,ff⟩:=h
 exact⟨F,G,⟨k.bk,⟨rfl,k.dl⟩,⟨rfl,k.at_⟩,k.fg,k.fb,k.gb,k.dl.new,k.nG,k.nB,k.dl.below.size⟩,nn,ff⟩
end
def oLo (o:(Int×St)×Lo):Option Lo:=if o.1.1=0 then some o.2 else none
theorem flopenP_any (w w0:World) (U0:Nat→Prop) (wr:World) (B:Nat) (most:Int) (p d:Nat) (sP sR:St) (oR:Option Lo) (ps pk kl:Option Addr) (hn:sP.n≤1024) (hl:sP.l.length+2000≤1000000) (hk:Kh w) (h:Lx w w0 U0 wr B most p d sP none sR oR ps pk none kl) :
  Calls Tryz.prog 35 #[.pointer (some ⟨p,0,none⟩)] wr fun e w1=>∃pl,e = .returned (.tuple #[.pointer pl,.int .i64 (opn sP).1.1])∧Lx w w0 U0 w1 B most p d (opn sP).1.2 (oLo (opn sP)) sR oR ps pk pl kl∧(oLo (opn sP)=none↔pl=none):=by
 obtain⟨Ft,Gt,k,nn,ff⟩:=h
 have k0:=k
 obtain⟨-,dl⟩:=k.pp
 refine (lopen_all w wr p Ft sP hl hk dl).mono ?_
 rintro e w1 ⟨F',d1,d2,d3,hres⟩
 have ok:=fun h=>opn_ok (s:=sP) h dl.at_.1
 rcases hres with ⟨h0,q,v,he,hd,hnew⟩|⟨h0,he⟩
 ·obtain⟨o4,oh,on,otk,og,ook⟩:=ok h0
  have e2:oLo (opn sP)=some (opn sP).2:=if_pos h0
  rw[e2,h0]
  have nF:Nx wr Ft (FH F' q v):=fun z hz=>by
   rcases hz with c|c
   ·exact d2 z c
   ·exact .inr (hnew z c)
  exact⟨some ⟨q,0,none⟩,he,⟨FH F' q v,Gt,k0.prog (o':=some (opn sP).2) ⟨q,F',v,rfl,⟨by rw[on];exact hd,oh,by rw[on];exact o4,by rw[on];exact hn,by rw[on];exact otk,ook,og⟩,rfl⟩ nF d3,UU.prog nn ff nF d3⟩,⟨(fun c=>by cases c),(fun c=>by cases c)⟩⟩
 ·have e2:oLo (opn sP)=none:=if_neg h0
  rw[e2]
  exact⟨none,he,⟨F',Gt,k0.prog (o':=none) ⟨rfl,d1⟩ d2 d3,UU.prog nn ff d2 d3⟩,⟨fun _=>rfl,fun _=>rfl⟩⟩
theorem flopenR_any (w w0:World) (U0:Nat→Prop) (wr:World) (B:Nat) (most:Int) (p d:Nat) (sP sR:St) (oP:Option Lo) (ps pk pl:Option Addr) (hn:sR.n≤1024) (hl:sR.l.length+5000≤1000000) (_hh:Hh sR) (h:Lx w w0 U0 wr B most p d sP oP sR none ps pk pl none) :
  Calls Tryz.prog 46 #[.pointer (some ⟨d,0,none⟩)] wr fun e w1=>∃kl,e = .returned (.tuple #[.pointer kl,.int .i64 (opn sR).1.1])∧Lx w w0 U0 w1 B most p d sP oP (opn sR).1.2 (oLo (opn sR)) ps pk pl kl∧(oLo (opn sR)=none↔kl=none):=by
 obtain⟨Ft,Gt,k,nn,ff⟩:=h
 have k0:=k
 obtain⟨-,at_⟩:=k.rp
 have hs:opnr sR=opn sR:=opn_same at_.1
 refine (ropen_any wr d Gt sR hn hl at_).mono ?_
 rw[hs]
 rintro e w1 ⟨pv,G',he,dw,hno,hok⟩
 by_cases h0:(opn sR).1.1=0
 ·obtain⟨q,v,rfl,rl,hnew⟩:=hok h0
  have e2:oLo (opn sR)=some (opn sR).2:=if_pos h0
  rw[e2]
  have nG:Nx wr Gt (FQ G' q v):=fun z hz=>by
   rcases hz with c|c
   ·exact dw.nx z c
   ·exact .inr (hnew z c)
  exact⟨some ⟨q,0,none⟩,he,⟨Ft,FQ G' q v,k0.ref (o':=some (opn sR).2) ⟨q,G',v,rfl,rl,rfl⟩ nG dw.bf,UU.ref nn ff nG dw.bf⟩,⟨(fun c=>by cases c),(fun c=>by cases c)⟩⟩
 ·obtain rfl:=hno h0
  have e2:oLo (opn sR)=none:=if_neg h0
  rw[e2]
  exact⟨none,he,⟨Ft,G',k0.ref (o':=none) ⟨rfl,dw.at_⟩ dw.nx dw.bf,UU.ref nn ff dw.nx dw.bf⟩,⟨fun _=>rfl,fun _=>rfl⟩⟩
theorem flappP_any (w w0:World) (U0:Nat→Prop) (wr:World) (B:Nat) (most:Int) (p d:Nat) (sP sR:St) (x:Lo) (oR:Option Lo) (ps pk pl kl:Option Addr) (X:ByteArray) (hl:sP.l.length+100≤1000000) (hk:Kh w) (h:Lx w w0 U0 wr B most p d sP (some x) sR oR ps pk pl kl) :
  Calls Tryz.prog 52 #[.pointer pl,.string X] wr fun e w1=>e = .returned (.int .i64 (app sP x X.data.toList).1.1)∧Lx w w0 U0 w1 B most p d (app sP x X.data.toList).1.2 (some (app sP x X.data.toList).2) sR oR ps pk pl kl:=by
 obtain⟨Ft,Gt,k,nn,ff⟩:=h
 have k0:=k
 obtain⟨q,F,v,rfl,z,rfl⟩:=k.pp
 refine (lzappend_any w wr p F sP q v x X hl hk z).mono ?_
 rintro e w1 ⟨he,F',v',z',n,f⟩
 exact⟨he,_,Gt,k0.prog (o':=some (app sP x X.data.toList).2) ⟨q,F',v',rfl,z',rfl⟩ n.fh f,UU.prog nn ff n.fh f⟩
theorem flappR_any (w w0:World) (U0:Nat→Prop) (wr:World) (B:Nat) (most:Int) (p d:Nat) (sP sR:St) (x:Lo) (oP:Option Lo) (ps pk pl kl:Option Addr) (X:ByteArray) (hl:sR.l.length+100≤1000000) (h:Lx w w0 U0 wr B most p d sP oP sR (some x) ps pk pl kl) :
  Calls Tryz.prog 53 #[.pointer kl,.string X] wr fun e w1=>e = .returned (.int .i64 (app sR x X.data.toList).1.1)∧Lx w w0 U0 w1 B most p d sP oP (app sR x X.data.toList).1.2 (some (app sR x X.data.toList).2) ps pk pl kl:=by
 obtain⟨Ft,Gt,k,nn,ff⟩:=h
 have k0:=k
 obtain⟨q,G,v,rfl,z,rfl⟩:=k.rp
 refine (rappend_any wr d G sR q v x X hl z).mono ?_
 rintro e w1 ⟨he,G',v',z',n1,n2,f⟩
 have nG:Nx wr (FQ G q v) (FQ G' q v'):=fun y hy=>by
  rcases hy with c|c
  ·rcases n1 y c with e|e
   ·exact .inl (.inl e)
   ·exact .inr e
  ·rcases n2 y c with e|e
   ·exact .inl (.inr e)
   ·exact .inr e
 exact⟨he,Ft,_,k0.ref (o':=some (app sR x X.data.toList).2) ⟨q,G',v',rfl,z',rfl⟩ nG f,UU.ref nn ff nG f⟩
theorem flsyncP_any (w w0:World) (U0:Nat→Prop) (wr:World) (B:Nat) (most:Int) (p d:Nat) (sP sR:St) (x:Lo) (oR:Option Lo) (ps pk pl kl:Option Addr) (hl:sP.l.length≤1000000) (h:Lx w w0 U0 wr B most p d sP (some x) sR oR ps pk pl kl) :
  Calls Tryz.prog 54 #[.pointer pl] wr fun e w1=>e = .returned (.int .i64 (syE sP))∧Lx w w0 U0 w1 B most p d (syS sP) (some x) sR oR ps pk pl kl:=by
 obtain⟨Ft,Gt,k,nn,ff⟩:=h
 have k0:=k
 obtain⟨q,F,v,rfl,z,rfl⟩:=k.pp
 refine (lzsync_any w wr p F sP q v x hl z).mono ?_
 rintro e w1 ⟨he,F',v',z',n,f⟩
 exact⟨he,_,Gt,k0.prog (o':=some x) ⟨q,F',v',rfl,z',rfl⟩ n.fh f,UU.prog nn ff n.fh f⟩
theorem flsyncR_any (w w0:World) (U0:Nat→Prop) (wr:World) (B:Nat) (most:Int) (p d:Nat) (sP sR:St) (x:Lo) (oP:Option Lo) (ps pk pl kl:Option Addr) (hl:sR.l.length≤1000000) (h:Lx w w0 U0 wr B most p d sP oP sR (some x) ps pk pl kl) :
  Calls Tryz.prog 55 #[.pointer (some ⟨d,0,none⟩)] wr fun e w1=>e = .returned (.int .i64 (syE sR))∧Lx w w0 U0 w1 B most p d sP oP (syS sR) (some x) ps pk pl kl:=by
 obtain⟨Ft,Gt,k,nn,ff⟩:=h
 have k0:=k
 obtain⟨q,G,v,rfl,z,rfl⟩:=k.rp
 refine (rsync_any d G sR wr z.rd.at_ hl).mono ?_
 rintro e w1 ⟨he,G',y1,y2,y3⟩
 have hn:=syS_n sR
 have nG:Nx wr (FQ G q v) (FQ G' q v):=fun y hy=>by
  rcases hy with c|c
  ·rcases y2 y c with e|e
   ·exact .inl (.inl e)
   ·exact .inr e
  ·exact .inl (.inr c)
 have fG:Bf (FQ G q v) wr w1:=y3.wide fun _ c => .inl c
 exact⟨he,Ft,_,k0.ref (o':=some x) ⟨q,G',v,rfl,⟨z.rd.disk y1 y2 y3,z.h1,by rw[hn];exact z.n4,by rw[hn];exact z.n2,by rw[hn];exact z.tk,z.ok⟩,rfl⟩ nG fG,UU.ref nn ff nG fG⟩
end Go.Proofs.YtjpaodepnacimaaGreatDoor
namespace Go.Proofs.YtjpaodepnacimaaGreatDoor
open Go.RowKit Go.Proofs.Fd Go.Proofs.Dk Go.Proofs.Lg Go.Proofs.Bx
set_option maxRecDepth 20000
abbrev Oe:=Option (Lo×List En)
def PPY (w w2:World) (p:Nat) (most:Int) (s:St) (o:Oe) (pv:Option Addr) (Ft:Nat→Prop):Prop :=
 match o with
 | none=>pv=none∧Dl w w2 p Ft s
 | some (x,E)=>∃q b F v vs,pv=some ⟨b,0,none⟩∧Py w w2 p F s q v x b most.toNat vs (ofE E)∧Ft=FB F q v b vs
def RPY (w2:World) (d:Nat) (most:Int) (s:St) (o:Oe) (pk:Option Addr) (Gt:Nat→Prop):Prop :=
 match o with
 | none=>pk=none∧DAt w2 d Gt s
 | some (x,E)=>∃q b G v u,pk=some ⟨b,0,none⟩∧Yz w2 d G s q v x b most.toNat u E∧Gt=FZ G q v b u
theorem Py.other {w wr:World} {p:Nat} {F:Nat→Prop} {s:St} {q:Nat} {v:Value} {x:Lo} {b quota:Nat} {vs:List Value} {bx:Bxs} (k:Py w wr p F s q v x b quota vs bx) {K:Nat→Prop} {w3:World} (hb:Bf K wr w3) (hK:∀z,FB F q v b vs z→¬K z) (hw:∀z,K z→w.heap.size≤z):Py w w3 p F s q v x b quota vs bx :=
 ⟨k.lz.other hb (fun z hz=>hK z (.inl hz)) hw,k.bk.bf hb (hK b (.inr (.inl rfl))),k.bv.bf hb (fun z hz=>hK z (.inr (.inr hz))),k.ap,k.nb⟩
theorem Yz.other {w1:World} {d:Nat} {G:Nat→Prop} {s:St} {q:Nat} {v:Value} {x:Lo} {b quota:Nat} {u:Value} {E:List En} (k:Yz w1 d G s q v x b quota u E) {K:Nat→Prop} {w3:World} (hb:Bf K w1 w3) (hK:∀z,FZ G q v b u z→¬K z):Yz w3 d G s q v x b quota u E :=
 ⟨k.rl.other hb (fun z hz=>hK z (.inl hz)),k.rs.bf hb (fun z hz=>hK z (.inr hz)),k.ap⟩
theorem PPY.other {w w2:World} {p:Nat} {most:Int} {s:St} {o:Oe} {pv:Option Addr} {Ft:Nat→Prop} (h:PPY w w2 p most s o pv Ft) {K:Nat→Prop} {w3:World} (hb:Bf K w2 w3) (hK:∀z,Ft z→¬K z) (hw:∀z,K z→w.heap.size≤z):PPY w w3 p most s o pv Ft:=by
 match o,h with
 | none,⟨e,k⟩=>exact⟨e,⟨k.at_.other hb hK,k.new,k.below.trans (hb.below hw k.below.size)⟩⟩
 | some (x,E),⟨q,b,F,v,vs,e,k,eF⟩ =>
  subst eF
  exact⟨q,b,F,v,vs,e,k.other hb hK hw,rfl⟩
theorem PPY.lt {w w2:World} {p:Nat} {most:Int} {s:St} {o:Oe} {pv:Option Addr} {Ft:Nat→Prop} (h:PPY w w2 p most s o pv Ft) {z:Nat} (hz:Ft z):z < w2.heap.size:=by
 match o,h with
 | none,⟨e,k⟩=>exact k.at_.lt hz
 | some (x,E),⟨q,b,F,v,vs,e,k,eF⟩ =>
  subst eF
  exact (k.lt hz).1
theorem PPY.new {w w2:World} {p:Nat} {most:Int} {s:St} {o:Oe} {pv:Option Addr} {Ft:Nat→Prop} (h:PPY w w2 p most s o pv Ft) {z:Nat} (hz:Ft z):w.heap.size≤z:=by
 match o,h with
 | none,⟨e,k⟩=>exact k.new z hz
 | some (x,E),⟨q,b,F,v,vs,e,k,eF⟩ =>
  subst eF
  exact (k.lt hz).2
theorem RPY.other {w2:World} {d:Nat} {most:Int} {s:St} {o:Oe} {pk:Option Addr} {Gt:Nat→Prop} (h:RPY w2 d most s o pk Gt) {K:Nat→Prop} {w3:World} (hb:Bf K w2 w3) (hK:∀z,Gt z→¬K z):RPY w3 d most s o pk Gt:=by
 match o,h with
 | none,⟨e,k⟩=>exact⟨e,k.other hb hK⟩
 | some (x,E),⟨q,b,G,v,u,e,k,eF⟩ =>
  subst eF
  exact⟨q,b,G,v,u,e,k.other hb hK,rfl⟩
theorem RPY.lt {w2:World} {d:Nat} {most:Int} {s:St} {o:Oe} {pk:Option Addr} {Gt:Nat→Prop} (h:RPY w2 d most s o pk Gt) {z:Nat} (hz:Gt z):z < w2.heap.size:=by
 match o,h with
 | none,⟨e,k⟩=>exact k.lt hz
 | some (x,E),⟨q,b,G,v,u,e,k,eF⟩ =>
  subst eF
  exact k.lt hz
structure BtY (w wr:World) (B:Nat) (most:Int) (p d:Nat) (s:St) (o:Oe) (pv pk:Option Addr) (Ft Gt:Nat→Prop):Prop where
 bk:Blk wr B (btc most p d (.pointer pv) (.pointer pk))
 pp:PPY w wr p most s o pv Ft
 rp:RPY wr d most s o pk Gt
 fg:∀z,Ft z→¬Gt z
 fb:¬Ft B
 gb:¬Gt B
 nF:∀z,Ft z→w.heap.size≤z
 nG:∀z,Gt z→w.heap.size≤z
 nB:w.heap.size≤B
def BoY (w wr:World) (B:Nat) (most:Int) (p d:Nat) (s:St) (o:Oe):Prop:=∃pv pk Ft Gt,BtY w wr B most p d s o pv pk Ft Gt
theorem BtY.bo {w wr:World} {B:Nat} {most:Int} {p d:Nat} {s:St} {o:Oe} {pv pk:Option Addr} {Ft Gt:Nat→Prop} (h:BtY w wr B most p d s o pv pk Ft Gt):BoY w wr B most p d s o:=⟨pv,pk,Ft,Gt,h⟩
theorem BtY.later {w wr:World} {B:Nat} {most:Int} {p d:Nat} {s:St} {o:Oe} {pv pk:Option Addr} {Ft Gt:Nat→Prop} (h:BtY w wr B most p d s o pv pk Ft Gt) {w1:World} (hb:Below wr.heap.size wr w1):BtY w w1 B most p d s o pv pk Ft Gt :=
 ⟨h.bk.later hb,h.pp.other (K:=fun _=>False) (Bf.of hb) (fun _ _=>id) (fun _ c=>c.elim),h.rp.other (K:=fun _=>False) (Bf.of hb) (fun _ _=>id),h.fg,h.fb,h.gb,h.nF,h.nG,h.nB⟩
theorem BoY.later {w wr:World} {B:Nat} {most:Int} {p d:Nat} {s:St} {o:Oe} (h:BoY w wr B most p d s o) {w1:World} (hb:Below wr.heap.size wr w1):BoY w w1 B most p d s o:=by
 obtain⟨pv,pk,Ft,Gt,k⟩:=h
 exact⟨pv,pk,Ft,Gt,k.later hb⟩
def M1Y (w wr:World) (B:Nat) (most:Int) (p d:Nat) (F G:Nat→Prop) (s:St) (r:(Int×St)×Option (Lo×List En)) (pv:Option Addr) (w1:World):Prop :=
 ∃Ft,PPY w w1 p most r.1.2 r.2 pv Ft∧DAt w1 d G s∧(∀z,Ft z→¬G z)∧¬Ft B∧(∀z,Ft z→w.heap.size≤z)∧Bf F wr w1
theorem bpoY_any (w wr:World) (B:Nat) (most:Int) (p d:Nat) (F G:Nat→Prop) (s:St) (sv kv:Value) (hn:s.n≤1024) (hl:s.l.length+5000≤1000000) (hk:Kh w) (h:Sd w wr B most p d F G s sv kv) :
  Calls Tryz.prog 15 #[.pointer (some ⟨p,0,none⟩),.int .i64 most] wr fun e w1=>∃pv,e = .returned (.tuple #[.pointer pv,.int .i64 (opEn most s (opn s)).1.1])∧Blk w1 B (btc most p d sv kv)∧M1Y w wr B most p d F G s (opEn most s (opn s)) pv w1∧((opEn most s (opn s)).2=none↔pv=none):=by
 refine (xopen_any w wr p F s most hn hl hk h.dl).mono ?_
 intro e w1 hp
 obtain⟨r1,r2⟩:=opEn_of most s (opn s)
 obtain⟨r,hr⟩:∃r,opEn most s (opn s)=r:=⟨_,rfl⟩
 rw[hr] at r1 r2 ⊢
 obtain⟨rX,hrX⟩:∃r,opX most s (opn s)=r:=⟨_,rfl⟩
 rw[hrX] at r1 r2 hp
 obtain⟨⟨z,s'⟩,o⟩:=r
 obtain⟨zX,oX⟩:=rX
 simp only at r1 r2
 subst r1
 subst r2
 have apart:∀{Ft:Nat→Prop},Nx wr F Ft→(∀z,Ft z→¬G z)∧¬Ft B:=fun n=>by
  refine⟨fun z hz c => ?_,fun c => ?_⟩
  ·rcases n z hz with e|e
   ·exact h.fg z e c
   ·have:=h.at_.lt c
    omega
  ·rcases n B c with e|e
   ·exact h.fb e
   ·have:=h.bk.lt
    omega
 match o,hp with
 | none,⟨he,F',k1,k2,k3⟩ =>
  exact⟨none,he,h.bk.bf k3 h.fb,⟨F',⟨rfl,k1⟩,h.at_.other k3 (fun z hz c=>h.fg z c hz),(apart k2).1,(apart k2).2,k1.new,k3⟩,⟨fun _=>rfl,fun _=>rfl⟩⟩
 | some (x,E),⟨q,b,he,h0,F',v,vs,k1,k2,k3⟩ =>
  have h0':z=0:=h0
  subst h0'
  exact⟨some ⟨b,0,none⟩,he,h.bk.bf k3 h.fb,⟨_,⟨q,b,F',v,vs,rfl,k1,rfl⟩,h.at_.other k3 (fun z hz c=>h.fg z c hz),(apart k2).1,(apart k2).2,fun z hz=>(k1.lt hz).2,k3⟩,⟨(fun c=>by cases c),(fun c=>by cases c)⟩⟩
theorem broY_any (w wr:World) (B:Nat) (most:Int) (p d:Nat) (G:Nat→Prop) (s:St) (pv:Option Addr) (kv:Value) (hn:s.n≤1024) (hl:s.l.length+5000≤1000000) (nG:∀z,G z→w.heap.size≤z) (nB:w.heap.size≤B) (gb:¬G B) (bk:Blk wr B (btc most p d (.pointer pv) kv)) (Ft:Nat→Prop) (pp:PPY w wr p most (opEn most s (opn s)).1.2 (opEn most s (opn s)).2 pv Ft) (at_:DAt wr d G s) (fg:∀z,Ft z→¬G z) (fb:¬Ft B) (nF:∀z,Ft z→w.heap.size≤z) (hw:w.heap.size≤wr.heap.size) :
  Calls Tryz.prog 24 #[.pointer (some ⟨d,0,none⟩),.int .i64 most] wr fun e w1=>∃pk,e = .returned (.tuple #[.pointer pk,.int .i64 (opEn most s (opn s)).1.1])∧Blk w1 B (btc most p d (.pointer pv) kv)∧(∃Gt,∀w2,Blk w2 B (btc most p d (.pointer pv) (.pointer pk))→Bf (fun z=>z=B) w1 w2→BtY w w2 B most p d (opEn most s (opn s)).1.2 (opEn most s (opn s)).2 pv pk Ft Gt)∧((opEn most s (opn s)).2=none↔pk=none):=by
 have hs:opnr s=opn s:=opn_same at_.1
 refine (ybopen_any wr d G s most hn hl at_).mono ?_
 intro e w1 hp
 rw[hs] at hp
 obtain⟨r,hr⟩:∃r,opEn most s (opn s)=r:=⟨_,rfl⟩
 rw[hr] at hp pp ⊢
 obtain⟨⟨z,s'⟩,o⟩:=r
 have fin:∀(Gt:Nat→Prop) (pk:Option Addr),Nx wr G Gt→Bf G wr w1→RPY w1 d most s' o pk Gt→∀w2,Blk w2 B (btc most p d (.pointer pv) (.pointer pk))→Bf (fun z=>z=B) w1 w2→BtY w w2 B most p d s' o pv pk Ft Gt:=fun Gt pk n f rp w2 b2 f2=>by
  have gB:¬Gt B:=fun c=>by
   rcases n B c with e|e
   ·exact gb e
   ·have:=bk.lt
    omega
  have gF:∀z,Ft z→¬Gt z:=fun z hz c=>by
   rcases n z c with e|e
   ·exact fg z hz e
   ·have:=pp.lt hz
    omega
  refine⟨b2,(pp.other f fg nG).other f2 (fun z hz e=>fb (by rw[←e];exact hz)) (fun z e=>by rw[e];exact nB),rp.other f2 (fun z hz e=>gB (by rw[←e];exact hz)),gF,fb,gB,nF,fun z hz => ?_,nB⟩
  rcases n z hz with e|e
  ·exact nG z e
  ·omega
 match o,hp,fin with
 | none,⟨he,G',k⟩,fin =>
  exact⟨none,he,bk.bf k.bf gb,⟨G',fin G' none k.nx k.bf ⟨rfl,k.at_⟩⟩,⟨fun _=>rfl,fun _=>rfl⟩⟩
 | some (x,y),⟨q,b,he,h0,G',v,u,k1,k2,k3⟩,fin =>
  have h0':z=0:=h0
  subst h0'
  exact⟨some ⟨b,0,none⟩,he,bk.bf k3 gb,⟨_,fin _ _ k2 k3 ⟨q,b,G',v,u,rfl,k1,rfl⟩⟩,⟨(fun c=>by cases c),(fun c=>by cases c)⟩⟩
set_option maxHeartbeats 4000000 in
theorem bopenY_any (w wr:World) (B:Nat) (most:Int) (p d:Nat) (F G:Nat→Prop) (s:St) (ps pk:Option Addr) (hn:s.n≤1024) (hl:s.l.length+5000≤1000000) (hk:Hid (Kh w)) (h:Hid (Sd w wr B most p d F G s (.pointer ps) (.pointer pk))) :
  Calls Tryz.prog 8 #[.pointer (some ⟨B,0,none⟩)] wr fun e w'=>e = .returned (.bool true)∧BoY w w' B most p d (opEn most s (opn s)).1.2 (opEn most s (opn s)).2:=by
 have HD:Hid (Sd w wr.drew B most p d F G s (.pointer ps) (.pointer pk)):=h.out.later (Below.refl _ _).drew
 have P1:Hid (Calls Tryz.prog 15 #[.pointer (some ⟨p,0,none⟩),.int .i64 most] wr.drew fun e w1=>∃pv,e = .returned (.tuple #[.pointer pv,.int .i64 (opEn most s (opn s)).1.1])∧B3 B most p d w1∧w1.cell? ⟨B,3,none⟩=some (.pointer ps)∧(∀o,w1.frozen? ⟨B,o,none⟩=false)∧Hid (Blk w1 B (btc most p d (.pointer ps) (.pointer pk))∧M1Y w wr.drew B most p d F G s (opEn most s (opn s)) pv w1∧((opEn most s (opn s)).2=none↔pv=none))) :=
  (bpoY_any w wr.drew B most p d F G s _ _ hn hl hk.out HD.out).mono fun _ w1 ⟨pv,e1,e2,e3,e4⟩=>⟨pv,e1,e2.b3,e2.c 3 _ rfl,e2.f,e2,e3,e4⟩
 have P2:Hid (∀(W:World) (pv:Option Addr),Blk W B (btc most p d (.pointer ps) (.pointer pk))→M1Y w wr.drew B most p d F G s (opEn most s (opn s)) pv W→Calls Tryz.prog 24 #[.pointer (some ⟨d,0,none⟩),.int .i64 most] (W.setCell ⟨B,3,none⟩ (.pointer pv)).drew fun e w1=>∃kk,e = .returned (.tuple #[.pointer kk,.int .i64 (opEn most s (opn s)).1.1])∧B3 B most p d w1∧w1.cell? ⟨B,4,none⟩=some (.pointer pk)∧(∀o,w1.frozen? ⟨B,o,none⟩=false)∧Hid ((∃Ft Gt,BtY w (w1.setCell ⟨B,4,none⟩ (.pointer kk)) B most p d (opEn most s (opn s)).1.2 (opEn most s (opn s)).2 pv kk Ft Gt)∧((opEn most s (opn s)).2=none↔kk=none))):=fun W pv bW ⟨Ft,pp,at_,fg,fb,nF,f1⟩=>by
  have f2:Bf (fun z=>z=B) W (W.setCell ⟨B,3,none⟩ (.pointer pv)).drew:=(Bf.set (fun z=>z=B) W B 3 (.pointer pv) rfl).later (Below.refl _ _).drew
  have b2:Blk (W.setCell ⟨B,3,none⟩ (.pointer pv)).drew B (btc most p d (.pointer pv) (.pointer pk)):=(bW.set 3 (show 3 < 5 by decide) (.pointer pv)).drew
  have hS:=HD.out
  have hw:w.heap.size≤W.heap.size:=Nat.le_trans hS.dl.below.size f1.size
  refine (broY_any w (W.setCell ⟨B,3,none⟩ (.pointer pv)).drew B most p d G s pv (.pointer pk) hn hl hS.nG hS.nB hS.gb b2 Ft (pp.other f2 (fun z hz e=>fb (by rw[←e];exact hz)) (fun z e=>by rw[e];exact hS.nB)) (at_.other f2 (fun z hz e=>hS.gb (by rw[←e];exact hz))) fg fb nF (Nat.le_trans hw f2.size)).mono ?_
  rintro e w1 ⟨kk,e1,e2,⟨Gt,e3⟩,e4⟩
  exact⟨kk,e1,e2.b3,e2.c 4 _ rfl,e2.f,⟨Ft,Gt,e3 _ (e2.set 4 (show 4 < 5 by decide) _) (Bf.set (fun z=>z=B) w1 B 4 _ rfl)⟩,e4⟩
 have S0:B3 B most p d wr:=h.out.bk.b3
 obtain⟨r,hr⟩:∃r,opEn most s (opn s)=r:=⟨_,rfl⟩
 rw[hr] at P1 P2 ⊢
 obtain⟨z,hz⟩:∃z,r.1.1=z:=⟨_,rfl⟩
 rw[hz] at P1 P2
 clear hr hz h HD
 go_enter Tryz.func8, Tryz.ntmps8
 go_wp2_with fail
 go_region_held3 (fun w'=>w'.cell? ⟨B,0,none⟩=some (.int .i64 most)∧w'.cell? ⟨B,1,none⟩=some (.pointer (some ⟨p,0,none⟩))∧w'.cell? ⟨B,2,none⟩=some (.pointer (some ⟨d,0,none⟩))) (first|exact S0|assumption|exact B3.set hS1 3 (by decide) _|exact hS1) (first|(go_at_call 15;refine Calls.mono P1.out ?_;rintro e w1 ⟨pv,rfl,hS1,c31,cf1,H1⟩))
 have Q2:Hid _:=P2.out w1 pv H1.out.1 H1.out.2.1
 have I1:Hid (r.2=none↔pv=none):=H1.out.2.2
 have S1:B3 B most p d (w1.setCell ⟨B,3,none⟩ (.pointer pv)):=B3.set hS1 3 (by decide) _
 clear P1 P2 H1 S0 hS1 c31 cf1
 go_wp2_with fail
 obtain⟨W2,hW2⟩:∃W2,w1.setCell ⟨B,3,none⟩ (.pointer pv)=W2:=⟨_,rfl⟩
 rw[hW2] at Q2 S1 ⊢
 clear hW2
 go_region_held3 (fun w'=>w'.cell? ⟨B,0,none⟩=some (.int .i64 most)∧w'.cell? ⟨B,1,none⟩=some (.pointer (some ⟨p,0,none⟩))∧w'.cell? ⟨B,2,none⟩=some (.pointer (some ⟨d,0,none⟩))) (first|exact S1|assumption|exact B3.set hS2 4 (by decide) _|exact hS2) (first|(go_at_call 24;refine Calls.mono Q2.out ?_;rintro e w3 ⟨kk,rfl,hS2,c42,cf2,H2⟩))
 have I2:Hid (r.2=none↔kk=none):=H2.out.2
 have K2:Hid (∃Ft Gt,BtY w (w3.setCell ⟨B,4,none⟩ (.pointer kk)) B most p d r.1.2 r.2 pv kk Ft Gt):=H2.out.1
 clear Q2 H2 S1 hS2 c42 cf2
 obtain⟨W4,hW4⟩:∃W4,w3.setCell ⟨B,4,none⟩ (.pointer kk)=W4:=⟨_,rfl⟩
 rw[hW4] at K2
 have CC:W4.cell? ⟨B,3,none⟩=some (.pointer pv)∧W4.cell? ⟨B,4,none⟩=some (.pointer kk):=by
  obtain⟨Ft,Gt,k⟩:=K2.out
  exact⟨k.bk.c 3 _ rfl,k.bk.c 4 _ rfl⟩
 have FF:Hid (BoY w W4.drew B most p d r.1.2 r.2):=by
  obtain⟨Ft,Gt,k⟩:=K2.out
  exact k.bo.later (Below.refl _ _).drew
 obtain⟨c3,c4⟩:=CC
 go_wp2_with fail
 rw[hW4]
 clear hW4 K2
 by_cases ho:r.2=none
 ·obtain rfl:=I1.out.1 ho
  obtain rfl:=I2.out.1 ho
  clear I1 I2
  go_region_held3 (fun w'=>w'.cell? ⟨B,3,none⟩=some (.pointer none)∧w'.cell? ⟨B,4,none⟩=some (.pointer none)) (first|exact⟨c3,c4⟩|assumption) (fail)
  go_wp2
  go_ret
  exact⟨rfl,FF.out⟩
 ·obtain⟨a1,rfl⟩:∃a,pv=some a:=by
   cases pv with
   | none=>exact absurd (I1.out.2 rfl) ho
   | some a=>exact⟨a,rfl⟩
  obtain⟨a2,rfl⟩:∃a,kk=some a:=by
   cases kk with
   | none=>exact absurd (I2.out.2 rfl) ho
   | some a=>exact⟨a,rfl⟩
  clear I1 I2
  go_region_held3 (fun w'=>w'.cell? ⟨B,3,none⟩=some (.pointer (some a1))∧w'.cell? ⟨B,4,none⟩=some (.pointer (some a2))) (first|exact⟨c3,c4⟩|assumption) (fail)
  go_wp2
  go_ret
  exact⟨rfl,FF.out⟩
structure B2Y (w wr:World) (B:Nat) (most:Int) (p d:Nat) (sP:St) (oP:Oe) (sR:St) (oR:Oe) (pv pk:Option Addr) (Ft Gt:Nat→Prop):Prop where
 bk:Blk wr B (btc most p d (.pointer pv) (.pointer pk))
 pp:PPY w wr p most sP oP pv Ft
 rp:RPY wr d most sR oR pk Gt
 fg:∀z,Ft z→¬Gt z
 fb:¬Ft B
 gb:¬Gt B
 nF:∀z,Ft z→w.heap.size≤z
 nG:∀z,Gt z→w.heap.size≤z
 nB:w.heap.size≤B
 sz:w.heap.size≤wr.heap.size
theorem PPY.size {w w2:World} {p:Nat} {most:Int} {s:St} {o:Oe} {pv:Option Addr} {Ft:Nat→Prop} (h:PPY w w2 p most s o pv Ft):Below w.heap.size w w2:=by
 match o,h with
 | none,⟨e,k⟩=>exact k.below
 | some (x,y),⟨q,b,F,v,vs,e,k,eF⟩=>exact k.lz.hd_.dl.below
theorem BtY.b2 {w wr:World} {B:Nat} {most:Int} {p d:Nat} {s:St} {o:Oe} {pv pk:Option Addr} {Ft Gt:Nat→Prop} (h:BtY w wr B most p d s o pv pk Ft Gt):B2Y w wr B most p d s o s o pv pk Ft Gt:=⟨h.bk,h.pp,h.rp,h.fg,h.fb,h.gb,h.nF,h.nG,h.nB,h.pp.size.size⟩
section
variable {w wr:World} {B:Nat} {most:Int} {p d:Nat} {sP sR:St} {oP oR:Oe} {pv pk:Option Addr} {Ft Gt:Nat→Prop}
theorem B2Y.bt {s:St} {o:Oe} (h:B2Y w wr B most p d s o s o pv pk Ft Gt):BtY w wr B most p d s o pv pk Ft Gt:=⟨h.bk,h.pp,h.rp,h.fg,h.fb,h.gb,h.nF,h.nG,h.nB⟩
theorem B2Y.later (h:B2Y w wr B most p d sP oP sR oR pv pk Ft Gt) {w1:World} (hb:Below wr.heap.size wr w1):B2Y w w1 B most p d sP oP sR oR pv pk Ft Gt :=
 ⟨h.bk.later hb,h.pp.other (K:=fun _=>False) (Bf.of hb) (fun _ _=>id) (fun _ c=>c.elim),h.rp.other (K:=fun _=>False) (Bf.of hb) (fun _ _=>id),h.fg,h.fb,h.gb,h.nF,h.nG,h.nB,Nat.le_trans h.sz hb.size⟩
theorem B2Y.prog (h:B2Y w wr B most p d sP oP sR oR pv pk Ft Gt) {w1:World} {s':St} {o':Oe} {Ft':Nat→Prop} (k:PPY w w1 p most s' o' pv Ft') (n:Nx wr Ft Ft') (f:Bf Ft wr w1):B2Y w w1 B most p d s' o' sR oR pv pk Ft' Gt:=by
 refine⟨h.bk.bf f h.fb,k,h.rp.other f (fun z hz c=>h.fg z c hz),fun z hz c => ?_,fun c => ?_,h.gb,fun z hz => ?_,h.nG,h.nB,Nat.le_trans h.sz f.size⟩
 ·rcases n z hz with e|e
  ·exact h.fg z e c
  ·have:=h.rp.lt c
   omega
 ·rcases n B c with e|e
  ·exact h.fb e
  ·have:=h.bk.lt
   omega
 ·rcases n z hz with e|e
  ·exact h.nF z e
  ·have:=h.sz
   omega
theorem B2Y.ref (h:B2Y w wr B most p d sP oP sR oR pv pk Ft Gt) {w1:World} {s':St} {o':Oe} {Gt':Nat→Prop} (k:RPY w1 d most s' o' pk Gt') (n:Nx wr Gt Gt') (f:Bf Gt wr w1):B2Y w w1 B most p d sP oP s' o' pv pk Ft Gt':=by
 refine⟨h.bk.bf f h.gb,h.pp.other f h.fg h.nG,k,fun z hz c => ?_,h.fb,fun c => ?_,h.nF,fun z hz => ?_,h.nB,Nat.le_trans h.sz f.size⟩
 ·rcases n z c with e|e
  ·exact h.fg z hz e
  ·have:=h.pp.lt hz
   omega
 ·rcases n B c with e|e
  ·exact h.gb e
  ·have:=h.bk.lt
   omega
 ·rcases n z hz with e|e
  ·exact h.nG z e
  ·have:=h.sz
   omega
end
def BxY (w w0:World) (U0:Nat→Prop) (wr:World) (B:Nat) (most:Int) (p d:Nat) (sP:St) (oP:Oe) (sR:St) (oR:Oe) (pv pk:Option Addr):Prop:=∃Ft Gt,B2Y w wr B most p d sP oP sR oR pv pk Ft Gt∧Nx w0 U0 (UU Ft Gt B)∧Bf U0 w0 wr
theorem BxY.later {w w0:World} {U0:Nat→Prop} {wr:World} {B:Nat} {most:Int} {p d:Nat} {sP sR:St} {oP oR:Oe} {pv pk:Option Addr} (h:BxY w w0 U0 wr B most p d sP oP sR oR pv pk) {w1:World} (hb:Below wr.heap.size wr w1):BxY w w0 U0 w1 B most p d sP oP sR oR pv pk:=by
 obtain⟨Ft,Gt,k,n,f⟩:=h
 exact⟨Ft,Gt,k.later hb,n,f.later hb⟩
theorem BxY.pz {w w0:World} {U0:Nat→Prop} {wr:World} {B:Nat} {most:Int} {p d:Nat} {sP sR:St} {x:Lo} {y:List En} {oR:Oe} {pv pk:Option Addr} (h:BxY w w0 U0 wr B most p d sP (some (x,y)) sR oR pv pk):∃q b Ft,pv=some ⟨b,0,none⟩∧PyP w wr Ft p q b most.toNat sP x (ofE y) wr∧∀{w1:World} {s':St} {x':Lo} {y':List En},PyP w wr Ft p q b most.toNat s' x' (ofE y') w1→BxY w w0 U0 w1 B most p d s' (some (x',y')) sR oR pv pk:=by
 obtain⟨Ft,Gt,k,nn,ff⟩:=h
 have k0:=k
 obtain⟨q,b,F,v,vs,rfl,z,rfl⟩:=k.pp
 refine⟨q,b,_,rfl,⟨F,v,vs,z,Nx.refl _ _,Bf.refl _ _⟩,fun {w1 s' x' y'} hp => ?_⟩
 obtain⟨F',v',vs',z',n,f⟩:=hp
 exact⟨_,Gt,k0.prog (o':=some (x',y')) ⟨q,b,F',v',vs',rfl,z',rfl⟩ n f,UU.prog nn ff n f⟩
theorem BxY.rz {w w0:World} {U0:Nat→Prop} {wr:World} {B:Nat} {most:Int} {p d:Nat} {sP sR:St} {x:Lo} {y:List En} {oP:Oe} {pv pk:Option Addr} (h:BxY w w0 U0 wr B most p d sP oP sR (some (x,y)) pv pk):∃q b Gt,pk=some ⟨b,0,none⟩∧YzP wr Gt d q b most.toNat sR x y wr∧∀{w1:World} {s':St} {x':Lo} {y':List En},YzP wr Gt d q b most.toNat s' x' y' w1→BxY w w0 U0 w1 B most p d sP oP s' (some (x',y')) pv pk:=by
 obtain⟨Ft,Gt,k,nn,ff⟩:=h
 have k0:=k
 obtain⟨q,b,G,v,u,rfl,z,rfl⟩:=k.rp
 refine⟨q,b,_,rfl,⟨G,v,u,z,Nx.refl _ _,Bf.refl _ _⟩,fun {w1 s' x' y'} hp => ?_⟩
 obtain⟨G',v',u',z',n,f⟩:=hp
 exact⟨Ft,_,k0.ref (o':=some (x',y')) ⟨q,b,G',v',u',rfl,z',rfl⟩ n f,UU.ref nn ff n f⟩
theorem bfuPY_any (w w0:World) (U0:Nat→Prop) (wr:World) (B:Nat) (most:Int) (p d:Nat) (sP:St) (oP:Oe) (sR:St) (oR:Oe) (pv pk:Option Addr) (n:Int) (h:BxY w w0 U0 wr B most p d sP oP sR oR pv pk) :
  Calls Tryz.prog 48 #[.pointer (some ⟨p,0,none⟩),.int .i64 n] wr fun e w1=>e = .returned (.int .i64 (fuE sP n))∧BxY w w0 U0 w1 B most p d (fuS sP n) oP sR oR pv pk:=by
 match oP,h with
 | none,⟨Ft,Gt,k,nn,ff⟩ =>
  have k0:=k
  obtain⟨rfl,dl⟩:=k.pp
  exact (fuseL w wr p Ft sP n dl).mono fun _ w1 ⟨e1,F',d1,d2,d3⟩=>⟨e1,F',Gt,k0.prog (o':=none) ⟨rfl,d1⟩ d2 d3,UU.prog nn ff d2 d3⟩
 | some (x,y),h =>
  obtain⟨q,b,Ft,rfl,hp,back⟩:=h.pz
  obtain⟨F,v,vs,z,n1,f1⟩:=hp
  refine (fuseL w wr p F sP n z.lz.hd_.dl).mono ?_
  rintro e w1 ⟨e1,F',d1,d2,d3⟩
  have hn:=fuS_n sP n
  exact⟨e1,back (z.log ⟨F',v,⟨by rw[hn];exact z.lz.hd_.disk d1 d2 d3,z.lz.h1,by rw[hn];exact z.lz.n4,by rw[hn];exact z.lz.n2,by rw[hn];exact z.lz.tk,z.lz.ok,z.lz.g⟩,⟨d2,Nx.refl _ _⟩,d3.wide fun _ c => .inl c⟩ n1 f1)⟩
theorem bfuRY_any (w w0:World) (U0:Nat→Prop) (wr:World) (B:Nat) (most:Int) (p d:Nat) (sP:St) (oP:Oe) (sR:St) (oR:Oe) (pv pk:Option Addr) (n:Int) (h:BxY w w0 U0 wr B most p d sP oP sR oR pv pk) :
  Calls Tryz.prog 49 #[.pointer (some ⟨d,0,none⟩),.int .i64 n] wr fun e w1=>e = .returned (.int .i64 (fuE sR n))∧BxY w w0 U0 w1 B most p d sP oP (fuS sR n) oR pv pk:=by
 match oR,h with
 | none,⟨Ft,Gt,k,nn,ff⟩ =>
  have k0:=k
  obtain⟨rfl,at_⟩:=k.rp
  exact (rfuse_any d Gt sR n wr at_).mono fun _ w1 ⟨e1,G',d1,d2,d3⟩=>⟨e1,Ft,G',k0.ref (o':=none) ⟨rfl,d1⟩ d2 d3,UU.ref nn ff d2 d3⟩
 | some (x,y),h =>
  obtain⟨q,b,Gt,rfl,hp,back⟩:=h.rz
  obtain⟨G,v,u,z,n1,f1⟩:=hp
  refine (rfuse_any d G sR n wr z.rl.rd.at_).mono ?_
  rintro e w1 ⟨e1,G',d1,d2,d3⟩
  have hn:=fuS_n sR n
  exact⟨e1,back ((z.log ⟨G',v,⟨z.rl.rd.disk d1 d2 d3,z.rl.h1,by rw[hn];exact z.rl.n4,by rw[hn];exact z.rl.n2,by rw[hn];exact z.rl.tk,z.rl.ok⟩,d2,Nx.refl _ _,d3.wide fun _ c => .inl c⟩).yzp.trans n1 f1)⟩
theorem PPY.dl {w w2:World} {p:Nat} {most:Int} {s:St} {o:Oe} {pv:Option Addr} {Ft:Nat→Prop} (h:PPY w w2 p most s o pv Ft):∃F,Dl w w2 p F s∧∀z,F z→Ft z:=by
 match o,h with
 | none,⟨e,k⟩=>exact⟨Ft,k,fun _=>id⟩
 | some (x,y),⟨q,b,F,v,vs,e,k,eF⟩ =>
  subst eF
  exact⟨F,k.lz.hd_.dl,fun z hz => .inl (.inl hz)⟩
theorem RPY.at_ {w2:World} {d:Nat} {most:Int} {s:St} {o:Oe} {pk:Option Addr} {Gt:Nat→Prop} (h:RPY w2 d most s o pk Gt):∃G,DAt w2 d G s∧∀z,G z→Gt z:=by
 match o,h with
 | none,⟨e,k⟩=>exact⟨Gt,k,fun _=>id⟩
 | some (x,y),⟨q,b,G,v,u,e,k,eF⟩ =>
  subst eF
  exact⟨G,k.rl.rd.at_,fun z hz => .inl (.inl hz)⟩
theorem BxY.sx {w w0:World} {U0:Nat→Prop} {wr:World} {B:Nat} {most:Int} {p d:Nat} {sP sR:St} {oP oR:Oe} {pv pk:Option Addr} (h:BxY w w0 U0 wr B most p d sP oP sR oR pv pk):Sx2 w w0 U0 wr B most p d sP sR pv pk:=by
 obtain⟨Ft,Gt,k,nn,ff⟩:=h
 obtain⟨F,dl,hF⟩:=k.pp.dl
 obtain⟨G,at_,hG⟩:=k.rp.at_
 exact⟨F,G,⟨k.bk,dl,at_,fun z hz c=>k.fg z (hF z hz) (hG z c),fun c=>k.fb (hF B c),fun c=>k.gb (hG B c),fun z hz=>k.nG z (hG z hz),k.nB⟩,UU.less nn hF hG,ff⟩
def Qx (w:World) (p q b quota n k:Nat) (bx:Bxs) (W:World):Prop:=∃s x F v vs,Py w W p F s q v x b quota vs bx∧Up n s∧x.h≤1∧x.tk≤k∧x.g≤1∧s.l.length≤12000*k
theorem Qx.later {w:World} {p q b quota n k:Nat} {bx:Bxs} {W W':World} (h:Qx w p q b quota n k bx W) (hb:Below W.heap.size W W'):Qx w p q b quota n k bx W':=by
 obtain⟨s,x,F,v,vs,py,r⟩:=h
 exact⟨s,x,F,v,vs,py.later hb,r⟩
theorem Py.below {w wr:World} {p:Nat} {F:Nat→Prop} {s:St} {q:Nat} {v:Value} {x:Lo} {b quota:Nat} {vs:List Value} {bx:Bxs} (k:Py w wr p F s q v x b quota vs bx):Below w.heap.size w wr:=k.lz.hd_.dl.below
theorem Qx.below {w:World} {p q b quota n k:Nat} {bx:Bxs} {W:World} (h:Qx w p q b quota n k bx W):Below w.heap.size w W:=by
 obtain⟨s,x,F,v,vs,py,r⟩:=h
 exact py.below
theorem up_n {n:Nat} {s:St} (h:Up n s):s.n=n:=by
 obtain⟨f,l,rfl⟩:=h
 rfl
theorem qx_put (w:World) (p q b quota n k m:Nat) (bx:Bxs) (W:World) (u:Nat) (i t:Bs) (hk:Hid (Kh w)) (h:Qx w p q b quota n k bx W) (gm:Gm m bx) (hm:m≤30000) (hu:u < 64) (hi:okI i=true) (ht:t.length≤28) (hx:i ∉ ids (bx u)) (hq:(bx u).length < quota) (hr:1+k≤n / 2) (h4:4≤n) (hn:n≤1024) (hk2:k≤20) :
  Calls Tryz.prog 21 #[.pointer (some ⟨b,0,none⟩),.int .i64 (u:Int),.string (st i),.string (st t)] W fun e w'=>e = .returned (.int .i64 0)∧Qx w p q b quota n (k+1) (upB bx u (bx u++[(i,t)])) w':=by
 obtain⟨s,x,F,v,vs,py,us,hh,htk,hg,hl⟩:=h
 have hu':noU (u:Int)=false:=by unfold noU;simp;omega
 have hrl:(putR u i t).length=18+t.length:=by
  have:=okI_len hi
  show (i++t).length+1+1=_
  rw[List.length_append]
  omega
 have hsn:sn (putR u i t)=1:=sn_small (by rw[hrl];omega)
 have e1:puX quota s x bx (u:Int) i t=wrX s x bx (upB bx u (bx u++[(i,t)])) [putR u i t]:=by
  unfold puX
  rw[if_neg (by rw[hu'];decide),if_neg (by rw[hi];decide),if_neg (by omega),Int.toNat_natCast,if_neg hx,if_neg (by omega)]
 obtain⟨a1,a2,a3,a4⟩:=wrX_ok us hh (r:=putR u i t) (putR_may (okI_len hi) (by omega)) (by rw[hsn];omega) bx (upB bx u (bx u++[(i,t)]))
 have kp:=(kp_puX (q:=quota) (s:=s) hh (by rw[up_n us];exact h4) bx (u:Int) i t).1.l
 have hs:s.n=n:=up_n us
 refine (xputB_any w p q b quota s x bx F v vs (u:Int) (st i) (st t) gm.g (Nat.le_trans gm.m hm) (by omega) hk W py).mono ?_
 rintro e w' ⟨he,hp⟩
 rw[st_data,st_data] at he hp
 rw[e1] at he hp kp
 rw[a1] at he
 rw[a4] at hp
 obtain⟨F',v',vs',py',-,-⟩:=hp
 refine⟨he,_,_,F',v',vs',py',a2,by rw[a3];exact hh,?_,by rw[a3];exact hg,by omega⟩
 rw[a3]
 show tkn 1 (x.ts++[putR u i t])≤_
 rw[tkn_app,hsn]
 have:tkn 1 x.ts≤k:=htk
 omega
theorem qx_there (w:World) (p q b quota n k m:Nat) (bx:Bxs) (W:World) (u:Nat) (i t:Bs) (hk:Hid (Kh w)) (h:Qx w p q b quota n k bx W) (gm:Gm m bx) (hm:m≤30000) (hu:u < 64) (hi:okI i=true) (ht:t.length≤28) (hx:i∈ids (bx u)) (hk2:k≤20) :
  Calls Tryz.prog 21 #[.pointer (some ⟨b,0,none⟩),.int .i64 (u:Int),.string (st i),.string (st t)] W fun e w'=>e = .returned (.int .i64 6)∧Qx w p q b quota n k bx w':=by
 obtain⟨s,x,F,v,vs,py,us,hh,htk,hg,hl⟩:=h
 have hu':noU (u:Int)=false:=by unfold noU;simp;omega
 have e1:puX quota s x bx (u:Int) i t=(((6,s),x),bx):=by
  unfold puX
  rw[if_neg (by rw[hu'];decide),if_neg (by rw[hi];decide),if_neg (by omega),Int.toNat_natCast,if_pos hx]
 refine (xputB_any w p q b quota s x bx F v vs (u:Int) (st i) (st t) gm.g (Nat.le_trans gm.m hm) (by omega) hk W py).mono ?_
 rintro e w' ⟨he,hp⟩
 rw[st_data,st_data,e1] at he hp
 obtain⟨F',v',vs',py',-,-⟩:=hp
 exact⟨he,_,_,F',v',vs',py',us,hh,htk,hg,hl⟩
theorem len_next {a b n k:Nat} (h:a≤b+(n+10300)) (hl:b≤12000*k) (hn:n≤1024):a≤12000*(k+1):=by
 rw[Nat.mul_add,Nat.mul_one]
 exact Nat.le_trans h (Nat.add_le_add hl (Nat.le_trans (Nat.add_le_add_right hn 10300) (Nat.le_of_ble_eq_true rfl)))
theorem qx_ack (w:World) (p q b quota n k m:Nat) (bx:Bxs) (W0 W:World) (u:Nat) (i t:Bs) (a:Option Addr) (c:Nat) (hk:Hid (Kh w)) (h0:Qx w p q b quota n k bx W0) (hbl:Below W0.heap.size W0 W) (gm:Gm m bx) (hm:m≤30000) (hu:u < 64) (hi:okI i=true) (hb:bx u=[(i,t)]) (tx:TxAt W a [i]) (hr:1+k≤n / 2) (h4:4≤n) (hn:n≤1024) (hk2:k≤20) :
  Calls Tryz.prog 23 #[.pointer (some ⟨b,0,none⟩),.int .i64 (u:Int),.slice a 1 c] W fun e w'=>e = .returned (.tuple #[.int .i64 1,.int .i64 0])∧Qx w p q b quota n (k+1) (upB bx u []) w'∧Bf (fun z=>z < W0.heap.size) W w':=by
 obtain⟨s,x,F,v,vs,py0,us,hh,htk,hg,hl⟩:=h0
 have py:=py0.later hbl
 have hu':noU (u:Int)=false:=by unfold noU;simp;omega
 have hmem:i∈ids (bx u):=by rw[hb];exact List.mem_cons_self ..
 have ea:aks (bx u) [i]=[i]:=by rw[aks,if_pos hmem,aks]
 have er:rms (bx u) [i]=[]:=by rw[hb,rms,rms,rmL,if_pos rfl]
 have hsn:sn (ackR u i)=1:=sn_small (by rw[ackR_len (okI_len hi)];omega)
 have W1:=wrX_ok us hh (r:=ackR u i) (ackR_may (okI_len hi)) (by rw[hsn];omega) bx (upB bx u [])
 obtain⟨R,hR⟩:∃R,wrX s x bx (upB bx u []) [ackR u i]=R:=⟨_,rfl⟩
 rw[hR] at W1
 obtain⟨a1,a2,a3,a4⟩:=W1
 have e1:akX s x bx (u:Int) [i]=(1,R):=by
  unfold akX
  rw[if_neg (by rw[hu'];decide),if_neg (by simp[hi]),if_neg (by simp),Int.toNat_natCast,ea,if_neg (by simp),er]
  simp only[List.map_cons,List.map_nil,hR,a1,List.length_singleton,if_true]
 have kp:=(kp_akX (s:=s) hh (by rw[up_n us];exact h4) bx (u:Int) [i]).1.l
 have hs:s.n=n:=up_n us
 refine (xackB_any w p q b quota s x bx F v vs (u:Int) a 1 c [i] rfl (by omega) (by omega) gm.g (Nat.le_trans gm.m hm) (by omega) hk W tx py).mono ?_
 rintro e w' ⟨he,hp⟩
 rw[e1] at he hp kp
 simp only at he hp kp
 rw[a1] at he
 rw[a3,a4] at hp
 obtain⟨F',v',vs',py',-,bf⟩:=hp
 have kp':R.1.1.2.l.length≤s.l.length+(s.n+10300):=kp
 rw[hs] at kp'
 have hl2:R.1.1.2.l.length≤12000*(k+1):=len_next kp' hl hn
 refine⟨he,⟨_,_,F',v',vs',py',a2,hh,?_,hg,hl2⟩,bf.wide fun z hz=>(py0.lt hz).1⟩
 show tkn 1 (x.ts++[ackR u i])≤_
 rw[tkn_app,hsn]
 have:tkn 1 x.ts≤k:=htk
 omega
theorem qx_first (w:World) (p q b quota n k m:Nat) (bx:Bxs) (W:World) (u z:Nat) (h:Qx w p q b quota n k bx W) (gm:Gm m bx) (hm:m≤30000) (hu:u < 64) (hz:z≤256) (hl:(bx u).length≤z) :
  Calls Tryz.prog 22 #[.pointer (some ⟨b,0,none⟩),.int .i64 (u:Int),.int .i64 (z:Int)] W fun e w'=>∃a c,e = .returned (.tuple #[.slice a (bx u).length c,.int .i64 0])∧Sli w' a (bx u).length c (bx u)∧Below W.heap.size W w'∧∀y,a=some y→W.heap.size≤y.block:=by
 obtain⟨s,x,F,v,vs,py,r⟩:=h
 have hu':noU (u:Int)=false:=by unfold noU;simp;omega
 have e1:fiX bx (u:Int) (z:Int)=(0,bx u):=by
  unfold fiX
  rw[if_neg (by rw[hu'];simp;omega),Int.toNat_natCast,Int.toNat_natCast,List.take_of_length_le hl]
 refine (xfirst_any w p q b quota s x bx F v vs (u:Int) (z:Int) gm.g (Nat.le_trans gm.m hm) W py).mono ?_
 rintro e w' ⟨y,he,ho,hb⟩
 rw[e1] at he ho
 obtain⟨a,c,rfl,sl,hn⟩:=owns_sl rfl ho
 exact⟨a,c,he,sl,hb,hn⟩
theorem qx_new (w w0:World) (p:Nat) (F0:Nat→Prop) (n quota:Nat) (h4:4≤n) (hn:n≤1024) (hq:1≤quota) (hq2:quota≤256) (hk:Hid (Kh w)) (D:Dl w w0 p F0 (up n zs [])) :
  Calls Tryz.prog 15 #[.pointer (some ⟨p,0,none⟩),.int .i64 (quota:Int)] w0 fun e w'=>∃q b,e = .returned (.tuple #[.pointer (some ⟨b,0,none⟩),.int .i64 0])∧Qx w p q b quota n 1 (fun _=>[]) w':=by
 have eo:=opn_blank (n:=n) zs (fun _=>rfl) (by omega)
 have ex:opX (quota:Int) (up n zs []) (opn (up n zs []))=((0,(opn (up n zs [])).1.2),some ((opn (up n zs [])).2,fun _=>[])):=by
  unfold opX
  rw[if_neg (by omega),eo]
  rfl
 refine (xopen_any w w0 p F0 (up n zs []) (quota:Int) (by show n≤1024;exact hn) (by show 0+5000≤1000000;decide) hk D).mono ?_
 intro e w' h
 rw[ex] at h
 obtain⟨q,b,he,-,F,v,vs,py,-,-⟩:=h
 rw[eo] at py
 rw[Int.toNat_natCast] at py
 exact⟨q,b,he,_,_,F,v,vs,py,⟨_,_,rfl⟩,by show (0:Nat)≤1;decide,by show tkn 1 []≤1;decide,by show (1:Nat)≤1;decide,by show 0≤_;exact Nat.zero_le _⟩
set_option maxHeartbeats 4000000 in
theorem lxworks_any (w:World) (hk:Hid (Kh w)):Calls Tryz.prog 7 #[] w fun e w'=>e = .returned (.bool true)∧Below w.heap.size w w':=by
 have NW:Hid _:=newL w w 40 (by decide) (by decide) (Below.refl _ _)
 have OP:Hid (∀p F W,Dl w W p F (up 40 zs [])→Calls Tryz.prog 15 #[.pointer (some ⟨p,0,none⟩),.int .i64 4] W fun e w'=>∃q b,e = .returned (.tuple #[.pointer (some ⟨b,0,none⟩),.int .i64 0])∧Qx w p q b 4 40 1 (fun _=>[]) w'):=fun p F W d=>qx_new w W p F 40 4 (by decide) (by decide) (by decide) (by decide) hk d
 obtain⟨AMm,AMl,AMi,AMc⟩:=xamong_is 0 20 (by decide) (by decide)
 have e0:AMm=0:=AMi 0 rfl (by decide)
 subst e0
 have ID:Hid (∀W,Calls Tryz.prog 16 #[.int .i64 0] W fun e w'=>e = .returned (.string (st (xid 0)))∧Below W.heap.size W w'):=fun W=>lxid_any 0 (by decide) 0 AMc W
 obtain⟨B1,hB1⟩:∃B,upB (fun _=>[]) 1 [(xid 0,[104,105])]=B:=⟨_,rfl⟩
 have b11:B1 1=[(xid 0,[104,105])]:=by rw[←hB1,upB_same]
 have G1:Gm 1 B1:=by
  have:=Gm.nil.put (u:=1) (i:=xid 0) (t:=[104,105]) (by decide) (xid_ok 0) (by decide) (by show _ ∉ [];simp)
  rw[←hB1]
  exact this
 have G2:Gm 1 (upB B1 1 []):=by
  have:=G1.rms (u:=1) [xid 0] (by decide)
  rw[b11] at this
  have e:rms [(xid 0,[104,105])] [xid 0]=[]:=by rw[rms,rms,rmL,if_pos rfl]
  rw[e] at this
  exact this
 have P1:Hid (∀p q b W,Qx w p q b 4 40 1 (fun _=>[]) W→Calls Tryz.prog 21 #[.pointer (some ⟨b,0,none⟩),.int .i64 1,.string (st (xid 0)),.string ⟨#[104,105]⟩] W fun e w'=>e = .returned (.int .i64 0)∧Qx w p q b 4 40 2 B1 w'):=fun p q b W h=>by
  rw[←hB1]
  exact qx_put w p q b 4 40 1 0 (fun _=>[]) W 1 (xid 0) [104,105] hk h Gm.nil (by decide) (by decide) (xid_ok 0) (by decide) (by show _ ∉ [];simp) (by show 0 < 4;decide) (by decide) (by decide) (by decide) (by decide)
 have P2:Hid (∀p q b W,Qx w p q b 4 40 2 B1 W→Calls Tryz.prog 21 #[.pointer (some ⟨b,0,none⟩),.int .i64 1,.string (st (xid 0)),.string ⟨#[104,111]⟩] W fun e w'=>e = .returned (.int .i64 6)∧Qx w p q b 4 40 2 B1 w'):=fun p q b W h =>
  qx_there w p q b 4 40 2 1 B1 W 1 (xid 0) [104,111] hk h G1 (by decide) (by decide) (xid_ok 0) (by decide) (by rw[b11];exact List.mem_cons_self ..) (by decide)
 have F1:Hid (∀p q b W,Qx w p q b 4 40 2 B1 W→Calls Tryz.prog 22 #[.pointer (some ⟨b,0,none⟩),.int .i64 1,.int .i64 4] W fun e w'=>∃g o c,e = .returned (.tuple #[.slice (some ⟨g,o,none⟩) 1 c,.int .i64 0])∧w'.cell? ⟨g,o+1,none⟩=some (.string ⟨#[104,105]⟩)∧Below W.heap.size W w'∧W.heap.size≤g):=fun p q b W h=>by
  have:=qx_first w p q b 4 40 2 1 B1 W 1 4 h G1 (by decide) (by decide) (by decide) (by rw[b11];decide)
  rw[b11] at this
  refine this.mono ?_
  rintro e w' ⟨a,c,he,sl,hb,hn⟩
  obtain⟨g,o,rfl,-,c1⟩:=sl.at_ 0 (by decide)
  exact⟨g,o,c,he,c1,hb,hn _ rfl⟩
 have A1:Hid (∀p q b W0 W a c,Qx w p q b 4 40 2 B1 W0→Below W0.heap.size W0 W→TxAt W a [xid 0]→Calls Tryz.prog 23 #[.pointer (some ⟨b,0,none⟩),.int .i64 1,.slice a 1 c] W fun e w'=>e = .returned (.tuple #[.int .i64 1,.int .i64 0])∧Qx w p q b 4 40 3 (upB B1 1 []) w'∧Bf (fun z=>z < W0.heap.size) W w'):=fun p q b W0 W a c h hb tx =>
  qx_ack w p q b 4 40 2 1 B1 W0 W 1 (xid 0) [104,105] a c hk h hb G1 (by decide) (by decide) (xid_ok 0) b11 tx (by decide) (by decide) (by decide) (by decide)
 have F2:Hid (∀p q b W,Qx w p q b 4 40 3 (upB B1 1 []) W→Calls Tryz.prog 22 #[.pointer (some ⟨b,0,none⟩),.int .i64 1,.int .i64 4] W fun e w'=>∃a c,e = .returned (.tuple #[.slice a 0 c,.int .i64 0])∧Below W.heap.size W w'):=fun p q b W h=>by
  have:=qx_first w p q b 4 40 3 1 (upB B1 1 []) W 1 4 h G2 (by decide) (by decide) (by decide) (by rw[upB_same];decide)
  rw[upB_same] at this
  exact this.mono fun e w' ⟨a,c,he,_,hb,_⟩=>⟨a,c,he,hb⟩
 clear hk G1 G2 b11 hB1 AMl AMi AMc
 obtain⟨I,hI⟩:∃I,st (xid 0)=I:=⟨_,rfl⟩
 rw[hI] at ID P1 P2
 have TX:Hid (∀W:World,TxAt (W.alloc (.cells #[.string I] 9)) (some ⟨W.heap.size,0,none⟩) [xid 0]):=fun W i hi=>by
  obtain rfl:i=0:=by simpa using hi
  exact⟨W.heap.size,0,rfl,by rw[World.cell?_alloc_new];show some (Value.string I)=some (sv (xid 0));rw[←hI]⟩
 clear hI
 go_enter Tryz.func7, Tryz.ntmps7
 go_wp2_with fail
 refine Calls.mono NW.out ?_
 rintro e w1 ⟨p,F,rfl,I1,-,-⟩
 have J1:Hid (Dl w w1 p F (up 40 zs [])):=I1
 clear NW I1
 go_wp2_with fail
 refine Calls.mono (OP.out p F w1 J1.out) ?_
 rintro e w2 ⟨q,b,rfl,s2⟩
 have J2:Hid _:=s2
 clear OP J1 s2
 go_wp2_with fail
 refine Calls.mono (ID.out _) ?_
 rintro e w3 ⟨rfl,hb3⟩
 have J3:Hid _:=Qx.later J2.out hb3
 clear J2 hb3
 go_wp2_with fail
 refine Calls.mono (P1.out p q b _ J3.out) ?_
 rintro e w4 ⟨rfl,s4⟩
 have J4:Hid _:=s4
 clear P1 J3 s4
 go_wp2_with fail
 refine Calls.mono (ID.out _) ?_
 rintro e w5 ⟨rfl,hb5⟩
 have J5:Hid _:=Qx.later J4.out hb5
 clear J4 hb5
 go_wp2_with fail
 refine Calls.mono (P2.out p q b _ J5.out) ?_
 rintro e w6 ⟨rfl,s6⟩
 have J6:Hid _:=s6
 clear P2 J5 s6
 go_wp2_with fail
 refine Calls.mono (F1.out p q b _ J6.out) ?_
 rintro e w7 ⟨g,o,c,rfl,c7,hb7,hg⟩
 have B7:Hid _:=hb7
 have HG:Hid _:=hg
 have C7:Hid _:=c7
 clear F1 hb7 hg c7
 go_wp2_with fail
 refine Calls.mono (ID.out _) ?_
 rintro e w8 ⟨rfl,hb8⟩
 have A8:Hid _:=A1.out p q b w6 (w8.alloc (.cells #[.string I] 9)) (some ⟨w8.heap.size,0,none⟩) 1 J6.out (chain B7.out (chain hb8 (nb _ _))) (TX.out w8)
 have C8:Hid _:=cell_alloc (o := .cells #[.string I] 9) (cell_later hb8 C7.out)
 clear A1 TX ID hb8 J6 B7 C7
 go_wp2_with fail
 refine Calls.mono A8.out ?_
 rintro e w9 ⟨rfl,s9,bf9⟩
 have J9:Hid _:=s9
 have C9:Hid _:=bf9.cell C8.out (by have:=HG.out;show ¬g < _;omega)
 clear A8 C8 s9 bf9 HG
 go_wp2_with fail
 refine Calls.mono (F2.out p q b _ J9.out) ?_
 rintro e w10 ⟨a10,c10,rfl,hb10⟩
 have c11:=cell_later hb10 C9.out
 have BB:Hid (Below w.heap.size w w10):=chain (Qx.below J9.out) hb10
 clear F2 J9 C9 hb10
 go_wp2
 go_ret
 exact⟨rfl,BB.out⟩
end Go.Proofs.YtjpaodepnacimaaGreatDoor
