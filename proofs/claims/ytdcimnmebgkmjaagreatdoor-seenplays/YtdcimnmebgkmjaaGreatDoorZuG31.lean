/- Parts: SyC,SyD,SyE,SyF,SyG. -/
import Derived.Test.YtdcimnmebgkmjaaGreatDoorZuG30
namespace Go.Proofs.YtdcimnmebgkmjaaGreatDoor
open Go.RowKit Go.Proofs.Fd Go.Proofs.Dk Go.Proofs.Lg
set_option maxRecDepth 20000
abbrev btc (most:Int) (p d:Nat) (sv kv:Value):List Value:=[.int .i64 most,.pointer (some ⟨p,0,none⟩),.pointer (some ⟨d,0,none⟩),sv,kv]
structure Sd (w wr:World) (B:Nat) (most:Int) (p d:Nat) (F G:Nat→Prop) (s:St) (sv kv:Value):Prop where
 bk:Blk wr B (btc most p d sv kv)
 dl:Dl w wr p F s
 at_:DAt wr d G s
 fg:∀z,F z→¬G z
 fb:¬F B
 gb:¬G B
 nG:∀z,G z→w.heap.size≤z
 nB:w.heap.size≤B
structure Sb (w wr:World) (B:Nat) (most:Int) (p d:Nat) (s:St) (x:Lo) (y:Ey) (F:Nat→Prop) (q:Nat) (v:Value) (b:Nat) (va vh:Value) (G:Nat→Prop) (q':Nat) (v':Value) (b':Nat) (u:Value):Prop where
 bk:Blk wr B (btc most p d (.pointer (some ⟨b,0,none⟩)) (.pointer (some ⟨b',0,none⟩)))
 pz:Pz w wr p F s q v x b most.toNat va vh y
 rz:Rz wr d G s q' v' x b' most.toNat y.1 u y.2.1 y.2.2
 fg:∀z,FP F q v b va vh z→¬FZ G q' v' b' u z
 fb:¬FP F q v b va vh B
 gb:¬FZ G q' v' b' u B
 nG:∀z,FZ G q' v' b' u z→w.heap.size≤z
 nB:w.heap.size≤B
def Bo (w wr:World) (B:Nat) (most:Int) (p d:Nat) (s:St) (o:Option (Lo×Ey)):Prop :=
 match o with
 | none=>∃F G,Sd w wr B most p d F G s (.pointer none) (.pointer none)
 | some (x,y)=>∃F q v b va vh G q' v' b' u,Sb w wr B most p d s x y F q v b va vh G q' v' b' u
theorem Bo.sd {w wr:World} {B:Nat} {most:Int} {p d:Nat} {s:St} {o:Option (Lo×Ey)} (h:Bo w wr B most p d s o):∃F G ps pk,Sd w wr B most p d F G s (.pointer ps) (.pointer pk):=by
 match o,h with
 | none,⟨F,G,k⟩=>exact⟨F,G,_,_,k⟩
 | some (x,y),⟨F,q,v,b,va,vh,G,q',v',b',u,k⟩=>exact⟨F,G,_,_,k.bk,k.pz.lz.hd_.dl,k.rz.rl.rd.at_,fun z hz c=>k.fg z (.inl (.inl hz)) (.inl (.inl c)),fun c=>k.fb (.inl (.inl c)),fun c=>k.gb (.inl (.inl c)),fun z hz=>k.nG z (.inl (.inl hz)),k.nB⟩
theorem Sd.later {w wr:World} {B:Nat} {most:Int} {p d:Nat} {F G:Nat→Prop} {s:St} {sv kv:Value} (h:Sd w wr B most p d F G s sv kv) {w':World} (hb:Below wr.heap.size wr w'):Sd w w' B most p d F G s sv kv:=⟨h.bk.later hb,h.dl.later hb,h.at_.later hb,h.fg,h.fb,h.gb,h.nG,h.nB⟩
theorem Bo.later {w wr:World} {B:Nat} {most:Int} {p d:Nat} {s:St} {o:Option (Lo×Ey)} (h:Bo w wr B most p d s o) {w':World} (hb:Below wr.heap.size wr w'):Bo w w' B most p d s o:=by
 match o,h with
 | none,⟨F,G,k⟩=>exact⟨F,G,k.later hb⟩
 | some (x,y),⟨F,q,v,b,va,vh,G,q',v',b',u,k⟩=>exact⟨F,q,v,b,va,vh,G,q',v',b',u,k.bk.later hb,⟨k.pz.lz.later hb,k.pz.es.later hb,k.pz.ap⟩,⟨k.rz.rl.later hb,k.rz.rs.later hb,k.rz.ap⟩,k.fg,k.fb,k.gb,k.nG,k.nB⟩
def PP (w w2:World) (p:Nat) (most:Int) (s:St) (o:Option (Lo×Ey)) (pv:Option Addr) (Ft:Nat→Prop):Prop :=
 match o with
 | none=>pv=none∧Dl w w2 p Ft s
 | some (x,y)=>∃q b F v va vh,pv=some ⟨b,0,none⟩∧Pz w w2 p F s q v x b most.toNat va vh y∧Ft=FP F q v b va vh
def RP (w2:World) (d:Nat) (most:Int) (s:St) (o:Option (Lo×Ey)) (pk:Option Addr) (Gt:Nat→Prop):Prop :=
 match o with
 | none=>pk=none∧DAt w2 d Gt s
 | some (x,y)=>∃q b G v u,pk=some ⟨b,0,none⟩∧Rz w2 d G s q v x b most.toNat y.1 u y.2.1 y.2.2∧Gt=FZ G q v b u
theorem PP.other {w w2:World} {p:Nat} {most:Int} {s:St} {o:Option (Lo×Ey)} {pv:Option Addr} {Ft:Nat→Prop} (h:PP w w2 p most s o pv Ft) {K:Nat→Prop} {w3:World} (hb:Bf K w2 w3) (hK:∀z,Ft z→¬K z) (hw:∀z,K z→w.heap.size≤z):PP w w3 p most s o pv Ft:=by
 match o,h with
 | none,⟨e,k⟩=>exact⟨e,⟨k.at_.other hb hK,k.new,k.below.trans (hb.below hw k.below.size)⟩⟩
 | some (x,y),⟨q,b,F,v,va,vh,e,k,eF⟩ =>
  subst eF
  exact⟨q,b,F,v,va,vh,e,⟨k.lz.other hb (fun z hz=>hK z (.inl hz)) hw,k.es.bf hb (fun z hz=>hK z (.inr hz)),k.ap⟩,rfl⟩
theorem PP.lt {w w2:World} {p:Nat} {most:Int} {s:St} {o:Option (Lo×Ey)} {pv:Option Addr} {Ft:Nat→Prop} (h:PP w w2 p most s o pv Ft) {z:Nat} (hz:Ft z):z < w2.heap.size:=by
 match o,h with
 | none,⟨e,k⟩=>exact k.at_.lt hz
 | some (x,y),⟨q,b,F,v,va,vh,e,k,eF⟩ =>
  subst eF
  rcases hz with c|c
  ·exact (k.lz.fh c).1
  ·exact k.es.lt c
theorem RP.other {w2:World} {d:Nat} {most:Int} {s:St} {o:Option (Lo×Ey)} {pk:Option Addr} {Gt:Nat→Prop} (h:RP w2 d most s o pk Gt) {K:Nat→Prop} {w3:World} (hb:Bf K w2 w3) (hK:∀z,Gt z→¬K z):RP w3 d most s o pk Gt:=by
 match o,h with
 | none,⟨e,k⟩=>exact⟨e,k.other hb hK⟩
 | some (x,y),⟨q,b,G,v,u,e,k,eF⟩ =>
  subst eF
  exact⟨q,b,G,v,u,e,⟨k.rl.other hb (fun z hz=>hK z (.inl hz)),k.rs.bf hb (fun z hz=>hK z (.inr hz)),k.ap⟩,rfl⟩
theorem RP.lt {w2:World} {d:Nat} {most:Int} {s:St} {o:Option (Lo×Ey)} {pk:Option Addr} {Gt:Nat→Prop} (h:RP w2 d most s o pk Gt) {z:Nat} (hz:Gt z):z < w2.heap.size:=by
 match o,h with
 | none,⟨e,k⟩=>exact k.lt hz
 | some (x,y),⟨q,b,G,v,u,e,k,eF⟩ =>
  subst eF
  rcases hz with c|c
  ·exact k.rl.fq c
  ·exact k.rs.lt c
structure Bt (w wr:World) (B:Nat) (most:Int) (p d:Nat) (s:St) (o:Option (Lo×Ey)) (pv pk:Option Addr) (Ft Gt:Nat→Prop):Prop where
 bk:Blk wr B (btc most p d (.pointer pv) (.pointer pk))
 pp:PP w wr p most s o pv Ft
 rp:RP wr d most s o pk Gt
 fg:∀z,Ft z→¬Gt z
 fb:¬Ft B
 gb:¬Gt B
 nF:∀z,Ft z→w.heap.size≤z
 nG:∀z,Gt z→w.heap.size≤z
 nB:w.heap.size≤B
theorem Bt.bo {w wr:World} {B:Nat} {most:Int} {p d:Nat} {s:St} {o:Option (Lo×Ey)} {pv pk:Option Addr} {Ft Gt:Nat→Prop} (h:Bt w wr B most p d s o pv pk Ft Gt):Bo w wr B most p d s o:=by
 match o,h with
 | none,h =>
  obtain⟨rfl,k1⟩:=h.pp
  obtain⟨rfl,k2⟩:=h.rp
  exact⟨Ft,Gt,h.bk,k1,k2,h.fg,h.fb,h.gb,h.nG,h.nB⟩
 | some (x,y),h =>
  obtain⟨q,b,F,v,va,vh,rfl,k1,rfl⟩:=h.pp
  obtain⟨q',b',G,v',u,rfl,k2,rfl⟩:=h.rp
  exact⟨F,q,v,b,va,vh,G,q',v',b',u,h.bk,k1,k2,h.fg,h.fb,h.gb,h.nG,h.nB⟩
def M1 (w wr:World) (B:Nat) (most:Int) (p d:Nat) (F G:Nat→Prop) (s:St) (r:(Int×St)×Option (Lo×Ey)) (pv:Option Addr) (w1:World):Prop :=
 ∃Ft,PP w w1 p most r.1.2 r.2 pv Ft∧DAt w1 d G s∧(∀z,Ft z→¬G z)∧¬Ft B∧(∀z,Ft z→w.heap.size≤z)∧Bf F wr w1
theorem bpo_any (TC:TakeC) (w wr:World) (B:Nat) (most:Int) (p d:Nat) (F G:Nat→Prop) (s:St) (sv kv:Value) (hn:s.n≤1024) (hl:s.l.length+5000≤1000000) (hk:Kh w) (h:Sd w wr B most p d F G s sv kv) :
  Calls Tryz.prog 40 #[.pointer (some ⟨p,0,none⟩),.int .i64 most] wr fun e w1=>∃pv,e = .returned (.tuple #[.pointer pv,.int .i64 (opz most s (opn s)).1.1])∧Blk w1 B (btc most p d sv kv)∧M1 w wr B most p d F G s (opz most s (opn s)) pv w1∧((opz most s (opn s)).2=none↔pv=none):=by
 refine (pzopen_any TC w wr p F s most hn hl hk h.dl).mono ?_
 intro e w1 hp
 obtain⟨r,hr⟩:∃r,opz most s (opn s)=r:=⟨_,rfl⟩
 rw[hr] at hp ⊢
 obtain⟨⟨z,s'⟩,o⟩:=r
 have apart:∀{Ft:Nat→Prop},Nx wr F Ft→(∀z,Ft z→¬G z)∧¬Ft B:=fun n=>by
  refine⟨fun z hz c => ?_,fun c => ?_⟩
  ·rcases n z hz with e|e
   ·exact h.fg z e c
   ·have:=h.at_.lt c
    omega
  ·rcases n B c with e|e
   ·exact h.fb e
   ·have:=h.bk.lt
    omega
 match o,hp with
 | none,⟨he,F',k1,k2,k3⟩ =>
  exact⟨none,he,h.bk.bf k3 h.fb,⟨F',⟨rfl,k1⟩,h.at_.other k3 (fun z hz c=>h.fg z c hz),(apart k2).1,(apart k2).2,k1.new,k3⟩,⟨fun _=>rfl,fun _=>rfl⟩⟩
 | some (x,y),⟨q,b,he,h0,F',v,va,vh,k1,k2,k3⟩ =>
  have h0':z=0:=h0
  subst h0'
  refine⟨some ⟨b,0,none⟩,he,h.bk.bf k3 h.fb,⟨_,⟨q,b,F',v,va,vh,rfl,k1,rfl⟩,h.at_.other k3 (fun z hz c=>h.fg z c hz),(apart k2).1,(apart k2).2,fun z hz => ?_,k3⟩,⟨(fun c=>by cases c),(fun c=>by cases c)⟩⟩
  rcases hz with c|c
  ·exact (k1.lz.fh c).2
  ·exact (k1.ap z c).2
theorem bro_any (w wr:World) (B:Nat) (most:Int) (p d:Nat) (G:Nat→Prop) (s:St) (pv:Option Addr) (kv:Value) (hn:s.n≤1024) (hl:s.l.length+5000≤1000000) (_hh:Hh s) (nG:∀z,G z→w.heap.size≤z) (nB:w.heap.size≤B) (gb:¬G B) (bk:Blk wr B (btc most p d (.pointer pv) kv)) (Ft:Nat→Prop) (pp:PP w wr p most (opz most s (opn s)).1.2 (opz most s (opn s)).2 pv Ft) (at_:DAt wr d G s) (fg:∀z,Ft z→¬G z) (fb:¬Ft B) (nF:∀z,Ft z→w.heap.size≤z) (hw:w.heap.size≤wr.heap.size) :
  Calls Tryz.prog 44 #[.pointer (some ⟨d,0,none⟩),.int .i64 most] wr fun e w1=>∃pk,e = .returned (.tuple #[.pointer pk,.int .i64 (opz most s (opn s)).1.1])∧Blk w1 B (btc most p d (.pointer pv) kv)∧(∃Gt,∀w2,Blk w2 B (btc most p d (.pointer pv) (.pointer pk))→Bf (fun z=>z=B) w1 w2→Bt w w2 B most p d (opz most s (opn s)).1.2 (opz most s (opn s)).2 pv pk Ft Gt)∧((opz most s (opn s)).2=none↔pk=none):=by
 have hs:opnr s=opn s:=opn_same at_.1
 refine (rzopen_any wr d G s most hn hl at_).mono ?_
 intro e w1 hp
 rw[hs] at hp
 obtain⟨r,hr⟩:∃r,opz most s (opn s)=r:=⟨_,rfl⟩
 rw[hr] at hp pp ⊢
 obtain⟨⟨z,s'⟩,o⟩:=r
 have fin:∀(Gt:Nat→Prop) (pk:Option Addr),Nx wr G Gt→Bf G wr w1→RP w1 d most s' o pk Gt→∀w2,Blk w2 B (btc most p d (.pointer pv) (.pointer pk))→Bf (fun z=>z=B) w1 w2→Bt w w2 B most p d s' o pv pk Ft Gt:=fun Gt pk n f rp w2 b2 f2=>by
  have gB:¬Gt B:=fun c=>by
   rcases n B c with e|e
   ·exact gb e
   ·have:=bk.lt
    omega
  have gF:∀z,Ft z→¬Gt z:=fun z hz c=>by
   rcases n z c with e|e
   ·exact fg z hz e
   ·have:=pp.lt hz
    omega
  refine⟨b2,(pp.other f fg nG).other f2 (fun z hz e=>fb (by rw[←e];exact hz)) (fun z e=>by rw[e];exact nB),rp.other f2 (fun z hz e=>gB (by rw[←e];exact hz)),gF,fb,gB,nF,fun z hz => ?_,nB⟩
  rcases n z hz with e|e
  ·exact nG z e
  ·omega
 match o,hp,fin with
 | none,⟨he,G',k⟩,fin =>
  exact⟨none,he,bk.bf k.bf gb,⟨G',fin G' none k.nx k.bf ⟨rfl,k.at_⟩⟩,⟨fun _=>rfl,fun _=>rfl⟩⟩
 | some (x,y),⟨q,b,he,h0,G',v,u,k1,k2,k3⟩,fin =>
  have h0':z=0:=h0
  subst h0'
  exact⟨some ⟨b,0,none⟩,he,bk.bf k3 gb,⟨_,fin _ _ k2 k3 ⟨q,b,G',v,u,rfl,k1,rfl⟩⟩,⟨(fun c=>by cases c),(fun c=>by cases c)⟩⟩
def B3 (B:Nat) (most:Int) (p d:Nat) (w':World):Prop:=w'.cell? ⟨B,0,none⟩=some (.int .i64 most)∧w'.cell? ⟨B,1,none⟩=some (.pointer (some ⟨p,0,none⟩))∧w'.cell? ⟨B,2,none⟩=some (.pointer (some ⟨d,0,none⟩))
theorem Blk.b3 {w:World} {B:Nat} {most:Int} {p d:Nat} {sv kv:Value} (h:Blk w B (btc most p d sv kv)):B3 B most p d w:=⟨h.c 0 _ rfl,h.c 1 _ rfl,h.c 2 _ rfl⟩
theorem B3.set {w:World} {B:Nat} {most:Int} {p d:Nat} (h:B3 B most p d w) (i:Nat) (hi:3≤i) (u:Value):B3 B most p d (w.setCell ⟨B,i,none⟩ u):=by
 have ne:∀j,j < 3→(⟨B,i,none⟩:Addr)≠⟨B,j,none⟩:=fun j hj e=>by injection e with e1 e2 e3;omega
 exact⟨by rw[World.cell?_setCell_other _ _ _ _ (ne 0 (by decide))];exact h.1,by rw[World.cell?_setCell_other _ _ _ _ (ne 1 (by decide))];exact h.2.1,by rw[World.cell?_setCell_other _ _ _ _ (ne 2 (by decide))];exact h.2.2⟩
set_option maxHeartbeats 4000000 in
theorem bopen_any (TC:TakeC) (w wr:World) (B:Nat) (most:Int) (p d:Nat) (F G:Nat→Prop) (s:St) (ps pk:Option Addr) (hn:s.n≤1024) (hl:s.l.length+5000≤1000000) (hh:Hh s) (hk:Hid (Kh w)) (h:Hid (Sd w wr B most p d F G s (.pointer ps) (.pointer pk))) :
  Calls Tryz.prog 12 #[.pointer (some ⟨B,0,none⟩)] wr fun e w'=>e = .returned (.bool true)∧Bo w w' B most p d (opz most s (opn s)).1.2 (opz most s (opn s)).2:=by
 have HD:Hid (Sd w wr.drew B most p d F G s (.pointer ps) (.pointer pk)):=h.out.later (Below.refl _ _).drew
 have P1:Hid (Calls Tryz.prog 40 #[.pointer (some ⟨p,0,none⟩),.int .i64 most] wr.drew fun e w1=>∃pv,e = .returned (.tuple #[.pointer pv,.int .i64 (opz most s (opn s)).1.1])∧B3 B most p d w1∧w1.cell? ⟨B,3,none⟩=some (.pointer ps)∧(∀o,w1.frozen? ⟨B,o,none⟩=false)∧Hid (Blk w1 B (btc most p d (.pointer ps) (.pointer pk))∧M1 w wr.drew B most p d F G s (opz most s (opn s)) pv w1∧((opz most s (opn s)).2=none↔pv=none))) :=
  (bpo_any TC w wr.drew B most p d F G s _ _ hn hl hk.out HD.out).mono fun _ w1 ⟨pv,e1,e2,e3,e4⟩=>⟨pv,e1,e2.b3,e2.c 3 _ rfl,e2.f,e2,e3,e4⟩
 have P2:Hid (∀(W:World) (pv:Option Addr),Blk W B (btc most p d (.pointer ps) (.pointer pk))→M1 w wr.drew B most p d F G s (opz most s (opn s)) pv W→Calls Tryz.prog 44 #[.pointer (some ⟨d,0,none⟩),.int .i64 most] (W.setCell ⟨B,3,none⟩ (.pointer pv)).drew fun e w1=>∃kk,e = .returned (.tuple #[.pointer kk,.int .i64 (opz most s (opn s)).1.1])∧B3 B most p d w1∧w1.cell? ⟨B,4,none⟩=some (.pointer pk)∧(∀o,w1.frozen? ⟨B,o,none⟩=false)∧Hid ((∃Ft Gt,Bt w (w1.setCell ⟨B,4,none⟩ (.pointer kk)) B most p d (opz most s (opn s)).1.2 (opz most s (opn s)).2 pv kk Ft Gt)∧((opz most s (opn s)).2=none↔kk=none))):=fun W pv bW ⟨Ft,pp,at_,fg,fb,nF,f1⟩=>by
  have f2:Bf (fun z=>z=B) W (W.setCell ⟨B,3,none⟩ (.pointer pv)).drew:=(Bf.set (fun z=>z=B) W B 3 (.pointer pv) rfl).later (Below.refl _ _).drew
  have b2:Blk (W.setCell ⟨B,3,none⟩ (.pointer pv)).drew B (btc most p d (.pointer pv) (.pointer pk)):=(bW.set 3 (show 3 < 5 by decide) (.pointer pv)).drew
  have hS:=HD.out
  have hw:w.heap.size≤W.heap.size:=Nat.le_trans hS.dl.below.size f1.size
  refine (bro_any w (W.setCell ⟨B,3,none⟩ (.pointer pv)).drew B most p d G s pv (.pointer pk) hn hl hh hS.nG hS.nB hS.gb b2 Ft (pp.other f2 (fun z hz e=>fb (by rw[←e];exact hz)) (fun z e=>by rw[e];exact hS.nB)) (at_.other f2 (fun z hz e=>hS.gb (by rw[←e];exact hz))) fg fb nF (Nat.le_trans hw f2.size)).mono ?_
  rintro e w1 ⟨kk,e1,e2,⟨Gt,e3⟩,e4⟩
  exact⟨kk,e1,e2.b3,e2.c 4 _ rfl,e2.f,⟨Ft,Gt,e3 _ (e2.set 4 (show 4 < 5 by decide) _) (Bf.set (fun z=>z=B) w1 B 4 _ rfl)⟩,e4⟩
 have S0:B3 B most p d wr:=h.out.bk.b3
 obtain⟨r,hr⟩:∃r,opz most s (opn s)=r:=⟨_,rfl⟩
 rw[hr] at P1 P2 ⊢
 obtain⟨z,hz⟩:∃z,r.1.1=z:=⟨_,rfl⟩
 rw[hz] at P1 P2
 clear hr hz h HD hh
 go_enter Tryz.func12, Tryz.ntmps12
 go_wp2_with fail
 go_region_held3 (fun w'=>w'.cell? ⟨B,0,none⟩=some (.int .i64 most)∧w'.cell? ⟨B,1,none⟩=some (.pointer (some ⟨p,0,none⟩))∧w'.cell? ⟨B,2,none⟩=some (.pointer (some ⟨d,0,none⟩))) (first|exact S0|assumption|exact B3.set hS1 3 (by decide) _|exact hS1) (first|(go_at_call 40;refine Calls.mono P1.out ?_;rintro e w1 ⟨pv,rfl,hS1,c31,cf1,H1⟩))
 have Q2:Hid _:=P2.out w1 pv H1.out.1 H1.out.2.1
 have I1:Hid (r.2=none↔pv=none):=H1.out.2.2
 have S1:B3 B most p d (w1.setCell ⟨B,3,none⟩ (.pointer pv)):=B3.set hS1 3 (by decide) _
 clear P1 P2 H1 S0 hS1 c31 cf1
 go_wp2_with fail
 obtain⟨W2,hW2⟩:∃W2,w1.setCell ⟨B,3,none⟩ (.pointer pv)=W2:=⟨_,rfl⟩
 rw[hW2] at Q2 S1 ⊢
 clear hW2
 go_region_held3 (fun w'=>w'.cell? ⟨B,0,none⟩=some (.int .i64 most)∧w'.cell? ⟨B,1,none⟩=some (.pointer (some ⟨p,0,none⟩))∧w'.cell? ⟨B,2,none⟩=some (.pointer (some ⟨d,0,none⟩))) (first|exact S1|assumption|exact B3.set hS2 4 (by decide) _|exact hS2) (first|(go_at_call 44;refine Calls.mono Q2.out ?_;rintro e w3 ⟨kk,rfl,hS2,c42,cf2,H2⟩))
 have I2:Hid (r.2=none↔kk=none):=H2.out.2
 have K2:Hid (∃Ft Gt,Bt w (w3.setCell ⟨B,4,none⟩ (.pointer kk)) B most p d r.1.2 r.2 pv kk Ft Gt):=H2.out.1
 clear Q2 H2 S1 hS2 c42 cf2
 obtain⟨W4,hW4⟩:∃W4,w3.setCell ⟨B,4,none⟩ (.pointer kk)=W4:=⟨_,rfl⟩
 rw[hW4] at K2
 have CC:W4.cell? ⟨B,3,none⟩=some (.pointer pv)∧W4.cell? ⟨B,4,none⟩=some (.pointer kk):=by
  obtain⟨Ft,Gt,k⟩:=K2.out
  exact⟨k.bk.c 3 _ rfl,k.bk.c 4 _ rfl⟩
 have FF:Hid (Bo w W4.drew B most p d r.1.2 r.2):=by
  obtain⟨Ft,Gt,k⟩:=K2.out
  exact k.bo.later (Below.refl _ _).drew
 obtain⟨c3,c4⟩:=CC
 go_wp2_with fail
 rw[hW4]
 clear hW4 K2
 by_cases ho:r.2=none
 ·obtain rfl:=I1.out.1 ho
  obtain rfl:=I2.out.1 ho
  clear I1 I2
  go_region_held3 (fun w'=>w'.cell? ⟨B,3,none⟩=some (.pointer none)∧w'.cell? ⟨B,4,none⟩=some (.pointer none)) (first|exact⟨c3,c4⟩|assumption) (fail)
  go_wp2
  go_ret
  exact⟨rfl,FF.out⟩
 ·obtain⟨a1,rfl⟩:∃a,pv=some a:=by
   cases pv with
   | none=>exact absurd (I1.out.2 rfl) ho
   | some a=>exact⟨a,rfl⟩
  obtain⟨a2,rfl⟩:∃a,kk=some a:=by
   cases kk with
   | none=>exact absurd (I2.out.2 rfl) ho
   | some a=>exact⟨a,rfl⟩
  clear I1 I2
  go_region_held3 (fun w'=>w'.cell? ⟨B,3,none⟩=some (.pointer (some a1))∧w'.cell? ⟨B,4,none⟩=some (.pointer (some a2))) (first|exact⟨c3,c4⟩|assumption) (fail)
  go_wp2
  go_ret
  exact⟨rfl,FF.out⟩
end Go.Proofs.YtdcimnmebgkmjaaGreatDoor
namespace Go.Proofs.YtdcimnmebgkmjaaGreatDoor
open Go.RowKit Go.Proofs.Fd Go.Proofs.Dk Go.Proofs.Lg
set_option maxRecDepth 20000
structure B2 (w wr:World) (B:Nat) (most:Int) (p d:Nat) (sP:St) (oP:Option (Lo×Ey)) (sR:St) (oR:Option (Lo×Ey)) (pv pk:Option Addr) (Ft Gt:Nat→Prop):Prop where
 bk:Blk wr B (btc most p d (.pointer pv) (.pointer pk))
 pp:PP w wr p most sP oP pv Ft
 rp:RP wr d most sR oR pk Gt
 fg:∀z,Ft z→¬Gt z
 fb:¬Ft B
 gb:¬Gt B
 nF:∀z,Ft z→w.heap.size≤z
 nG:∀z,Gt z→w.heap.size≤z
 nB:w.heap.size≤B
 sz:w.heap.size≤wr.heap.size
theorem PP.size {w w2:World} {p:Nat} {most:Int} {s:St} {o:Option (Lo×Ey)} {pv:Option Addr} {Ft:Nat→Prop} (h:PP w w2 p most s o pv Ft):Below w.heap.size w w2:=by
 match o,h with
 | none,⟨e,k⟩=>exact k.below
 | some (x,y),⟨q,b,F,v,va,vh,e,k,eF⟩=>exact k.lz.hd_.dl.below
theorem Bt.b2 {w wr:World} {B:Nat} {most:Int} {p d:Nat} {s:St} {o:Option (Lo×Ey)} {pv pk:Option Addr} {Ft Gt:Nat→Prop} (h:Bt w wr B most p d s o pv pk Ft Gt):B2 w wr B most p d s o s o pv pk Ft Gt:=⟨h.bk,h.pp,h.rp,h.fg,h.fb,h.gb,h.nF,h.nG,h.nB,h.pp.size.size⟩
section
variable {w wr:World} {B:Nat} {most:Int} {p d:Nat} {sP sR:St} {oP oR:Option (Lo×Ey)} {pv pk:Option Addr} {Ft Gt:Nat→Prop}
theorem B2.bt {s:St} {o:Option (Lo×Ey)} (h:B2 w wr B most p d s o s o pv pk Ft Gt):Bt w wr B most p d s o pv pk Ft Gt:=⟨h.bk,h.pp,h.rp,h.fg,h.fb,h.gb,h.nF,h.nG,h.nB⟩
theorem B2.later (h:B2 w wr B most p d sP oP sR oR pv pk Ft Gt) {w1:World} (hb:Below wr.heap.size wr w1):B2 w w1 B most p d sP oP sR oR pv pk Ft Gt :=
 ⟨h.bk.later hb,h.pp.other (K:=fun _=>False) (Bf.of hb) (fun _ _=>id) (fun _ c=>c.elim),h.rp.other (K:=fun _=>False) (Bf.of hb) (fun _ _=>id),h.fg,h.fb,h.gb,h.nF,h.nG,h.nB,Nat.le_trans h.sz hb.size⟩
theorem B2.prog (h:B2 w wr B most p d sP oP sR oR pv pk Ft Gt) {w1:World} {s':St} {o':Option (Lo×Ey)} {Ft':Nat→Prop} (k:PP w w1 p most s' o' pv Ft') (n:Nx wr Ft Ft') (f:Bf Ft wr w1):B2 w w1 B most p d s' o' sR oR pv pk Ft' Gt:=by
 refine⟨h.bk.bf f h.fb,k,h.rp.other f (fun z hz c=>h.fg z c hz),fun z hz c => ?_,fun c => ?_,h.gb,fun z hz => ?_,h.nG,h.nB,Nat.le_trans h.sz f.size⟩
 ·rcases n z hz with e|e
  ·exact h.fg z e c
  ·have:=h.rp.lt c
   omega
 ·rcases n B c with e|e
  ·exact h.fb e
  ·have:=h.bk.lt
   omega
 ·rcases n z hz with e|e
  ·exact h.nF z e
  ·have:=h.sz
   omega
theorem B2.ref (h:B2 w wr B most p d sP oP sR oR pv pk Ft Gt) {w1:World} {s':St} {o':Option (Lo×Ey)} {Gt':Nat→Prop} (k:RP w1 d most s' o' pk Gt') (n:Nx wr Gt Gt') (f:Bf Gt wr w1):B2 w w1 B most p d sP oP s' o' pv pk Ft Gt':=by
 refine⟨h.bk.bf f h.gb,h.pp.other f h.fg h.nG,k,fun z hz c => ?_,h.fb,fun c => ?_,h.nF,fun z hz => ?_,h.nB,Nat.le_trans h.sz f.size⟩
 ·rcases n z c with e|e
  ·exact h.fg z hz e
  ·have:=h.pp.lt hz
   omega
 ·rcases n B c with e|e
  ·exact h.gb e
  ·have:=h.bk.lt
   omega
 ·rcases n z hz with e|e
  ·exact h.nG z e
  ·have:=h.sz
   omega
end
def UU (F G:Nat→Prop) (B:Nat) (z:Nat):Prop:=F z∨G z∨z=B
theorem UU.prog {w0 wr w1:World} {U0 F G F':Nat→Prop} {B:Nat} (hn:Nx w0 U0 (UU F G B)) (hf:Bf U0 w0 wr) (n:Nx wr F F') (f:Bf F wr w1):Nx w0 U0 (UU F' G B)∧Bf U0 w0 w1:=by
 have hs:=hf.size
 refine⟨fun z hz => ?_,hf.trans hn (f.wide fun z e => .inl e)⟩
 rcases hz with c|c
 ·rcases n z c with e|e
  ·exact hn z (.inl e)
  ·exact .inr (by omega)
 ·exact hn z (.inr c)
theorem UU.ref {w0 wr w1:World} {U0 F G G':Nat→Prop} {B:Nat} (hn:Nx w0 U0 (UU F G B)) (hf:Bf U0 w0 wr) (n:Nx wr G G') (f:Bf G wr w1):Nx w0 U0 (UU F G' B)∧Bf U0 w0 w1:=by
 have hs:=hf.size
 refine⟨fun z hz => ?_,hf.trans hn (f.wide fun z e => .inr (.inl e))⟩
 rcases hz with c|c|c
 ·exact hn z (.inl c)
 ·rcases n z c with e|e
  ·exact hn z (.inr (.inl e))
  ·exact .inr (by omega)
 ·exact hn z (.inr (.inr c))
theorem UU.less {w0:World} {U0 F G F' G':Nat→Prop} {B:Nat} (hn:Nx w0 U0 (UU F G B)) (h1:∀z,F' z→F z) (h2:∀z,G' z→G z):Nx w0 U0 (UU F' G' B):=fun z hz=>by
 rcases hz with c|c|c
 ·exact hn z (.inl (h1 z c))
 ·exact hn z (.inr (.inl (h2 z c)))
 ·exact hn z (.inr (.inr c))
def Bx2 (w w0:World) (U0:Nat→Prop) (wr:World) (B:Nat) (most:Int) (p d:Nat) (sP:St) (oP:Option (Lo×Ey)) (sR:St) (oR:Option (Lo×Ey)) (pv pk:Option Addr):Prop:=∃Ft Gt,B2 w wr B most p d sP oP sR oR pv pk Ft Gt∧Nx w0 U0 (UU Ft Gt B)∧Bf U0 w0 wr
theorem Bx2.later {w w0:World} {U0:Nat→Prop} {wr:World} {B:Nat} {most:Int} {p d:Nat} {sP sR:St} {oP oR:Option (Lo×Ey)} {pv pk:Option Addr} (h:Bx2 w w0 U0 wr B most p d sP oP sR oR pv pk) {w1:World} (hb:Below wr.heap.size wr w1):Bx2 w w0 U0 w1 B most p d sP oP sR oR pv pk:=by
 obtain⟨Ft,Gt,k,n,f⟩:=h
 exact⟨Ft,Gt,k.later hb,n,f.later hb⟩
theorem Bx2.pz {w w0:World} {U0:Nat→Prop} {wr:World} {B:Nat} {most:Int} {p d:Nat} {sP sR:St} {x:Lo} {y:Ey} {oR:Option (Lo×Ey)} {pv pk:Option Addr} (h:Bx2 w w0 U0 wr B most p d sP (some (x,y)) sR oR pv pk):∃q b Ft,pv=some ⟨b,0,none⟩∧PzP w wr Ft p q b most.toNat sP x y wr∧∀{w1:World} {s':St} {x':Lo} {y':Ey},PzP w wr Ft p q b most.toNat s' x' y' w1→Bx2 w w0 U0 w1 B most p d s' (some (x',y')) sR oR pv pk:=by
 obtain⟨Ft,Gt,k,nn,ff⟩:=h
 have k0:=k
 obtain⟨q,b,F,v,va,vh,rfl,z,rfl⟩:=k.pp
 refine⟨q,b,_,rfl,⟨F,v,va,vh,z,Nx.refl _ _,Bf.refl _ _⟩,fun {w1 s' x' y'} hp => ?_⟩
 obtain⟨F',v',va',vh',z',n,f⟩:=hp
 exact⟨_,Gt,k0.prog (o':=some (x',y')) ⟨q,b,F',v',va',vh',rfl,z',rfl⟩ n f,UU.prog nn ff n f⟩
theorem Bx2.rz {w w0:World} {U0:Nat→Prop} {wr:World} {B:Nat} {most:Int} {p d:Nat} {sP sR:St} {x:Lo} {y:Ey} {oP:Option (Lo×Ey)} {pv pk:Option Addr} (h:Bx2 w w0 U0 wr B most p d sP oP sR (some (x,y)) pv pk):∃q b Gt,pk=some ⟨b,0,none⟩∧RzY wr Gt d q b most.toNat sR x y wr∧∀{w1:World} {s':St} {x':Lo} {y':Ey},RzY wr Gt d q b most.toNat s' x' y' w1→Bx2 w w0 U0 w1 B most p d sP oP s' (some (x',y')) pv pk:=by
 obtain⟨Ft,Gt,k,nn,ff⟩:=h
 have k0:=k
 obtain⟨q,b,G,v,u,rfl,z,rfl⟩:=k.rp
 refine⟨q,b,_,rfl,⟨G,v,u,z,Nx.refl _ _,Bf.refl _ _⟩,fun {w1 s' x' y'} hp => ?_⟩
 obtain⟨G',v',u',z',n,f⟩:=hp
 exact⟨Ft,_,k0.ref (o':=some (x',y')) ⟨q,b,G',v',u',rfl,z',rfl⟩ n f,UU.ref nn ff n f⟩
end Go.Proofs.YtdcimnmebgkmjaaGreatDoor
namespace Go.Proofs.YtdcimnmebgkmjaaGreatDoor
open Go.RowKit Go.Proofs.Fd Go.Proofs.Dk Go.Proofs.Lg
set_option maxRecDepth 20000
theorem fuS_n (s:St) (n:Int):(fuS s n).n=s.n:=(kp_fuse s n).n
theorem bfuseP_any (w w0:World) (U0:Nat→Prop) (wr:World) (B:Nat) (most:Int) (p d:Nat) (sP:St) (oP:Option (Lo×Ey)) (sR:St) (oR:Option (Lo×Ey)) (pv pk:Option Addr) (n:Int) (h:Bx2 w w0 U0 wr B most p d sP oP sR oR pv pk) :
  Calls Tryz.prog 31 #[.pointer (some ⟨p,0,none⟩),.int .i64 n] wr fun e w1=>e = .returned (.int .i64 (fuE sP n))∧Bx2 w w0 U0 w1 B most p d (fuS sP n) oP sR oR pv pk:=by
 match oP,h with
 | none,⟨Ft,Gt,k,nn,ff⟩ =>
  have k0:=k
  obtain⟨rfl,dl⟩:=k.pp
  exact (fuseL w wr p Ft sP n dl).mono fun _ w1 ⟨e1,F',d1,d2,d3⟩=>⟨e1,F',Gt,k0.prog (o':=none) ⟨rfl,d1⟩ d2 d3,UU.prog nn ff d2 d3⟩
 | some (x,y),h =>
  obtain⟨q,b,Ft,rfl,hp,back⟩:=h.pz
  obtain⟨F,v,va,vh,z,n1,f1⟩:=hp
  refine (fuseL w wr p F sP n z.lz.hd_.dl).mono ?_
  rintro e w1 ⟨e1,F',d1,d2,d3⟩
  have hn:=fuS_n sP n
  exact⟨e1,back (z.log ⟨F',v,⟨by rw[hn];exact z.lz.hd_.disk d1 d2 d3,z.lz.h1,by rw[hn];exact z.lz.n4,by rw[hn];exact z.lz.n2,by rw[hn];exact z.lz.tk,z.lz.ok,z.lz.g⟩,⟨d2,Nx.refl _ _⟩,d3.wide fun _ c => .inl c⟩ n1 f1)⟩
theorem bfuseR_any (w w0:World) (U0:Nat→Prop) (wr:World) (B:Nat) (most:Int) (p d:Nat) (sP:St) (oP:Option (Lo×Ey)) (sR:St) (oR:Option (Lo×Ey)) (pv pk:Option Addr) (n:Int) (h:Bx2 w w0 U0 wr B most p d sP oP sR oR pv pk) :
  Calls Tryz.prog 32 #[.pointer (some ⟨d,0,none⟩),.int .i64 n] wr fun e w1=>e = .returned (.int .i64 (fuE sR n))∧Bx2 w w0 U0 w1 B most p d sP oP (fuS sR n) oR pv pk:=by
 match oR,h with
 | none,⟨Ft,Gt,k,nn,ff⟩ =>
  have k0:=k
  obtain⟨rfl,at_⟩:=k.rp
  exact (rfuse_any d Gt sR n wr at_).mono fun _ w1 ⟨e1,G',d1,d2,d3⟩=>⟨e1,Ft,G',k0.ref (o':=none) ⟨rfl,d1⟩ d2 d3,UU.ref nn ff d2 d3⟩
 | some (x,y),h =>
  obtain⟨q,b,Gt,rfl,hp,back⟩:=h.rz
  obtain⟨G,v,u,z,n1,f1⟩:=hp
  refine (rfuse_any d G sR n wr z.rl.rd.at_).mono ?_
  rintro e w1 ⟨e1,G',d1,d2,d3⟩
  have hn:=fuS_n sR n
  exact⟨e1,back (z.log ⟨G',v,⟨z.rl.rd.disk d1 d2 d3,z.rl.h1,by rw[hn];exact z.rl.n4,by rw[hn];exact z.rl.n2,by rw[hn];exact z.rl.tk,z.rl.ok⟩,d2,Nx.refl _ _,d3.wide fun _ c => .inl c⟩ n1 f1)⟩
structure S2 (w wr:World) (B:Nat) (most:Int) (p d:Nat) (F G:Nat→Prop) (sP sR:St) (sv kv:Value):Prop where
 bk:Blk wr B (btc most p d sv kv)
 dl:Dl w wr p F sP
 at_:DAt wr d G sR
 fg:∀z,F z→¬G z
 fb:¬F B
 gb:¬G B
 nG:∀z,G z→w.heap.size≤z
 nB:w.heap.size≤B
def Sx2 (w w0:World) (U0:Nat→Prop) (wr:World) (B:Nat) (most:Int) (p d:Nat) (sP sR:St) (ps pk:Option Addr):Prop:=∃F G,S2 w wr B most p d F G sP sR (.pointer ps) (.pointer pk)∧Nx w0 U0 (UU F G B)∧Bf U0 w0 wr
theorem PP.dl {w w2:World} {p:Nat} {most:Int} {s:St} {o:Option (Lo×Ey)} {pv:Option Addr} {Ft:Nat→Prop} (h:PP w w2 p most s o pv Ft):∃F,Dl w w2 p F s∧∀z,F z→Ft z:=by
 match o,h with
 | none,⟨e,k⟩=>exact⟨Ft,k,fun _=>id⟩
 | some (x,y),⟨q,b,F,v,va,vh,e,k,eF⟩ =>
  subst eF
  exact⟨F,k.lz.hd_.dl,fun z hz => .inl (.inl hz)⟩
theorem RP.at_ {w2:World} {d:Nat} {most:Int} {s:St} {o:Option (Lo×Ey)} {pk:Option Addr} {Gt:Nat→Prop} (h:RP w2 d most s o pk Gt):∃G,DAt w2 d G s∧∀z,G z→Gt z:=by
 match o,h with
 | none,⟨e,k⟩=>exact⟨Gt,k,fun _=>id⟩
 | some (x,y),⟨q,b,G,v,u,e,k,eF⟩ =>
  subst eF
  exact⟨G,k.rl.rd.at_,fun z hz => .inl (.inl hz)⟩
theorem Bx2.sx {w w0:World} {U0:Nat→Prop} {wr:World} {B:Nat} {most:Int} {p d:Nat} {sP sR:St} {oP oR:Option (Lo×Ey)} {pv pk:Option Addr} (h:Bx2 w w0 U0 wr B most p d sP oP sR oR pv pk):Sx2 w w0 U0 wr B most p d sP sR pv pk:=by
 obtain⟨Ft,Gt,k,nn,ff⟩:=h
 obtain⟨F,dl,hF⟩:=k.pp.dl
 obtain⟨G,at_,hG⟩:=k.rp.at_
 exact⟨F,G,⟨k.bk,dl,at_,fun z hz c=>k.fg z (hF z hz) (hG z c),fun c=>k.fb (hF B c),fun c=>k.gb (hG B c),fun z hz=>k.nG z (hG z hz),k.nB⟩,UU.less nn hF hG,ff⟩
theorem Sx2.sd {w w0:World} {U0:Nat→Prop} {wr:World} {B:Nat} {most:Int} {p d:Nat} {s:St} {ps pk:Option Addr} (h:Sx2 w w0 U0 wr B most p d s s ps pk):∃F G,Sd w wr B most p d F G s (.pointer ps) (.pointer pk)∧Nx w0 U0 (UU F G B)∧Bf U0 w0 wr:=by
 obtain⟨F,G,k,nn,ff⟩:=h
 exact⟨F,G,⟨k.bk,k.dl,k.at_,k.fg,k.fb,k.gb,k.nG,k.nB⟩,nn,ff⟩
theorem Sx2.later {w w0:World} {U0:Nat→Prop} {wr:World} {B:Nat} {most:Int} {p d:Nat} {sP sR:St} {ps pk:Option Addr} (h:Sx2 w w0 U0 wr B most p d sP sR ps pk) {w1:World} (hb:Below wr.heap.size wr w1):Sx2 w w0 U0 w1 B most p d sP sR ps pk:=by
 obtain⟨F,G,k,nn,ff⟩:=h
 exact⟨F,G,⟨k.bk.later hb,k.dl.later hb,k.at_.later hb,k.fg,k.fb,k.gb,k.nG,k.nB⟩,nn,ff.later hb⟩
theorem S2.prog {w w0:World} {U0:Nat→Prop} {wr:World} {B:Nat} {most:Int} {p d:Nat} {F G:Nat→Prop} {sP sR s':St} {ps pk:Option Addr} (k:S2 w wr B most p d F G sP sR (.pointer ps) (.pointer pk)) {w1:World} (z:Ds w wr p F s' w1) (nn:Nx w0 U0 (UU F G B)) (ff:Bf U0 w0 wr):Sx2 w w0 U0 w1 B most p d s' sR ps pk:=by
 obtain⟨F',d1,n,f⟩:=z
 refine⟨F',G,⟨k.bk.bf f k.fb,d1,k.at_.other f (fun z hz c=>k.fg z c hz),fun z hz c => ?_,fun c => ?_,k.gb,k.nG,k.nB⟩,UU.prog nn ff n f⟩
 ·rcases n z hz with e|e
  ·exact k.fg z e c
  ·have:=k.at_.lt c
   omega
 ·rcases n B c with e|e
  ·exact k.fb e
  ·have:=k.bk.lt
   omega
theorem S2.ref {w w0:World} {U0:Nat→Prop} {wr:World} {B:Nat} {most:Int} {p d:Nat} {F G:Nat→Prop} {sP sR s':St} {ps pk:Option Addr} (k:S2 w wr B most p d F G sP sR (.pointer ps) (.pointer pk)) {w1:World} (z:DSt wr d G s' w1) (nn:Nx w0 U0 (UU F G B)) (ff:Bf U0 w0 wr):Sx2 w w0 U0 w1 B most p d sP s' ps pk:=by
 obtain⟨G',d1,n,f⟩:=z
 have hs:=k.dl.below.size
 refine⟨F,G',⟨k.bk.bf f k.gb,⟨k.dl.at_.other f k.fg,k.dl.new,k.dl.below.trans (f.below k.nG hs)⟩,d1,fun z hz c => ?_,k.fb,fun c => ?_,fun z hz => ?_,k.nB⟩,UU.ref nn ff n f⟩
 ·rcases n z c with e|e
  ·exact k.fg z hz e
  ·have:=k.dl.at_.lt hz
   omega
 ·rcases n B c with e|e
  ·exact k.gb e
  ·have:=k.bk.lt
   omega
 ·rcases n z hz with e|e
  ·exact k.nG z e
  ·omega
theorem bcrashP_any (w w0:World) (U0:Nat→Prop) (wr:World) (B:Nat) (most:Int) (p d:Nat) (sP sR:St) (ps pk:Option Addr) (pa:Option Addr) (pn pc:Nat) (l:List Int) (hpn:l.length=pn) (hl:sP.l.length≤1000000) (hp:IntAt w pa l) (hlt:∀x,pa=some x→0 < l.length→x.block < w.heap.size) (h:Sx2 w w0 U0 wr B most p d sP sR ps pk) :
  Calls Tryz.prog 23 #[.pointer (some ⟨p,0,none⟩),.slice pa pn pc] wr fun e w1=>e = .returned (.int .i64 0)∧Sx2 w w0 U0 w1 B most p d (crS sP l) sR ps pk:=by
 obtain⟨F,G,k,nn,ff⟩:=h
 have hp':IntAt wr pa l:=fun i hi=>by
  obtain⟨b,o,e,c⟩:=hp i hi
  exact⟨b,o,e,cell_later k.dl.below c⟩
 refine (crashL w wr p F sP pa pn pc l hpn hl hp' (fun x e h0 c => ?_) k.dl).mono fun _ w1 ⟨e1,z⟩=>⟨e1,k.prog z nn ff⟩
 have:=hlt x e h0
 have:=k.dl.new x.block c
 omega
theorem bcrashR_any (w w0:World) (U0:Nat→Prop) (wr:World) (B:Nat) (most:Int) (p d:Nat) (sP sR:St) (ps pk:Option Addr) (pa:Option Addr) (pn pc:Nat) (l:List Int) (hpn:l.length=pn) (hl:sR.l.length≤1000000) (hp:IntAt w pa l) (hlt:∀x,pa=some x→0 < l.length→x.block < w.heap.size) (h:Sx2 w w0 U0 wr B most p d sP sR ps pk) :
  Calls Tryz.prog 46 #[.pointer (some ⟨d,0,none⟩),.slice pa pn pc] wr fun e w1=>e = .returned (.int .i64 0)∧Sx2 w w0 U0 w1 B most p d sP (crS sR l) ps pk:=by
 obtain⟨F,G,k,nn,ff⟩:=h
 have hp':IntAt wr pa l:=fun i hi=>by
  obtain⟨b,o,e,c⟩:=hp i hi
  exact⟨b,o,e,cell_later k.dl.below c⟩
 refine (rcrash_any d G sR pa pn pc l hpn wr k.at_ hl hp' (fun x e h0 c => ?_)).mono fun _ w1 ⟨e1,z⟩=>⟨e1,k.ref z nn ff⟩
 have:=hlt x e h0
 have:=k.nG x.block c
 omega
end Go.Proofs.YtdcimnmebgkmjaaGreatDoor
namespace Go.Proofs.YtdcimnmebgkmjaaGreatDoor
open Go.RowKit Go.Proofs.Fd Go.Proofs.Dk Go.Proofs.Lg
set_option maxRecDepth 20000
section
variable (w w0:World) (U0:Nat→Prop) (wr:World) (B:Nat) (most:Int) (p d:Nat) (sP:St) (sR:St) (x:Lo) (y:Ey) (oP oR:Option (Lo×Ey)) (pv pk:Option Addr)
theorem baddP_any (TC:TakeC) (hk:Kh w) (X:ByteArray) (hy:Gd y) (hl:sP.l.length+6000≤1000000) (h:Bx2 w w0 U0 wr B most p d sP (some (x,y)) sR oR pv pk) :
  Calls Tryz.prog 41 #[.pointer pv,.string X] wr fun e w1=>e = .returned (.int .i64 (adp most.toNat sP x y X.data.toList).1.1.1)∧Bx2 w w0 U0 w1 B most p d (adp most.toNat sP x y X.data.toList).1.1.2 (some ((adp most.toNat sP x y X.data.toList).1.2,(adp most.toNat sP x y X.data.toList).2)) sR oR pv pk:=by
 obtain⟨q,b,Ft,rfl,hp,back⟩:=h.pz
 exact (pzadd_any TC w wr Ft p q b most.toNat sP x y hy hl hk X wr hp).mono fun _ w1 ⟨e1,e2⟩=>⟨e1,back e2⟩
theorem brotP_any (TC:TakeC) (hk:Kh w) (hy:Gd y) (hl:sP.l.length+6000≤1000000) (h:Bx2 w w0 U0 wr B most p d sP (some (x,y)) sR oR pv pk) :
  Calls Tryz.prog 42 #[.pointer pv] wr fun e w1=>e = .returned (.int .i64 (rop sP x y).1.1.1)∧Bx2 w w0 U0 w1 B most p d (rop sP x y).1.1.2 (some ((rop sP x y).1.2,(rop sP x y).2)) sR oR pv pk:=by
 obtain⟨q,b,Ft,rfl,hp,back⟩:=h.pz
 exact (pzrot_any TC w wr Ft p q b most.toNat sP x y hy hl hk wr hp).mono fun _ w1 ⟨e1,e2⟩=>⟨e1,back e2⟩
theorem bhasP_any (X:ByteArray) (hy:Gd y) (h:Bx2 w w0 U0 wr B most p d sP (some (x,y)) sR oR pv pk) :
  Calls Tryz.prog 43 #[.pointer pv,.string X] wr fun e w1=>e = .returned (.bool (decide (X.data.toList∈y.2.1++y.2.2)))∧w1=wr:=by
 obtain⟨q,b,Ft,rfl,hp,-⟩:=h.pz
 exact pzhas_any w wr Ft p q b most.toNat sP x y hy X wr hp
theorem bepochP_any (h:Bx2 w w0 U0 wr B most p d sP (some (x,y)) sR oR pv pk) :
  Calls Tryz.prog 14 #[.pointer pv] wr fun e w1=>e = .returned (.int .i64 (y.1:Int))∧w1=wr:=by
 obtain⟨q,b,Ft,rfl,hp,-⟩:=h.pz
 exact pzepoch_any w wr Ft p q b most.toNat sP x y wr hp
theorem btagsP_any (hy:Gd y) (h:Bx2 w w0 U0 wr B most p d sP (some (x,y)) sR oR pv pk) :
  Calls Tryz.prog 16 #[.pointer pv] wr fun e w1=>∃a c,e = .returned (.slice a (y.2.1++y.2.2).length c)∧TxAt w1 a (y.2.1++y.2.2)∧Below wr.heap.size wr w1:=by
 obtain⟨q,b,Ft,rfl,hp,-⟩:=h.pz
 exact pztags_any w wr Ft p q b most.toNat sP x y hy wr hp
theorem baddR_any (X:ByteArray) (hm:most.toNat≤4096) (hy:Gd y) (hdn:sR.down=false) (hl:sR.l.length+6000≤1000000) (h:Bx2 w w0 U0 wr B most p d sP oP sR (some (x,y)) pv pk) :
  Calls Tryz.prog 48 #[.pointer pk,.string X] wr fun e w1=>e = .returned (.int .i64 (adp most.toNat sR x y X.data.toList).1.1.1)∧Bx2 w w0 U0 w1 B most p d sP oP (adp most.toNat sR x y X.data.toList).1.1.2 (some ((adp most.toNat sR x y X.data.toList).1.2,(adp most.toNat sR x y X.data.toList).2)) pv pk:=by
 obtain⟨q,b,Gt,rfl,hp,back⟩:=h.rz
 exact (rzadd_any wr Gt d q b most.toNat hm sR x y hy hdn hl X wr hp).mono fun _ w1 ⟨e1,e2⟩=>⟨e1,back e2⟩
theorem brotR_any (hy:Gd y) (hdn:sR.down=false) (hl:sR.l.length+6000≤1000000) (h:Bx2 w w0 U0 wr B most p d sP oP sR (some (x,y)) pv pk) :
  Calls Tryz.prog 49 #[.pointer pk] wr fun e w1=>e = .returned (.int .i64 (rop sR x y).1.1.1)∧Bx2 w w0 U0 w1 B most p d sP oP (rop sR x y).1.1.2 (some ((rop sR x y).1.2,(rop sR x y).2)) pv pk:=by
 obtain⟨q,b,Gt,rfl,hp,back⟩:=h.rz
 exact (rzrot_any wr Gt d q b most.toNat sR x y hy hdn hl wr hp).mono fun _ w1 ⟨e1,e2⟩=>⟨e1,back e2⟩
theorem bhasR_any (X:ByteArray) (hy:Gd y) (h:Bx2 w w0 U0 wr B most p d sP oP sR (some (x,y)) pv pk) :
  Calls Tryz.prog 50 #[.pointer pk,.string X] wr fun e w1=>e = .returned (.bool (decide (X.data.toList∈y.2.1++y.2.2)))∧w1=wr:=by
 obtain⟨q,b,Gt,rfl,hp,-⟩:=h.rz
 exact rzhas_any wr Gt d q b most.toNat sR x y hy X wr hp
theorem btagsR_any (hy:Gd y) (h:Bx2 w w0 U0 wr B most p d sP oP sR (some (x,y)) pv pk) :
  Calls Tryz.prog 17 #[.pointer pk] wr fun e w1=>∃a c,e = .returned (.slice a (y.2.1++y.2.2).length c)∧TxAt w1 a (y.2.1++y.2.2)∧Below wr.heap.size wr w1:=by
 obtain⟨q,b,Gt,rfl,⟨G,v,u,z,-,-⟩,-⟩:=h.rz
 have:=rstags_any b q most.toNat y.1 u _ (by rw[hads_len];have:=hy.n;omega) wr z.rs
 rw[hads_fst] at this
 exact this
end
end Go.Proofs.YtdcimnmebgkmjaaGreatDoor
namespace Go.Proofs.YtdcimnmebgkmjaaGreatDoor
open Go.RowKit Go.Proofs.Fd Go.Proofs.Dk Go.Proofs.Lg
set_option maxRecDepth 20000
def PL (w w2:World) (p:Nat) (s:St) (o:Option Lo) (pl:Option Addr) (Ft:Nat→Prop):Prop :=
 match o with
 | none=>pl=none∧Dl w w2 p Ft s
 | some x=>∃q F v,pl=some ⟨q,0,none⟩∧Lz w w2 p F s q v x∧Ft=FH F q v
def RL (w2:World) (d:Nat) (s:St) (o:Option Lo) (kl:Option Addr) (Gt:Nat→Prop):Prop :=
 match o with
 | none=>kl=none∧DAt w2 d Gt s
 | some x=>∃q G v,kl=some ⟨q,0,none⟩∧Rl w2 d G s q v x∧Gt=FQ G q v
section
variable {w w2:World} {p d:Nat} {s:St} {o:Option Lo} {pl kl:Option Addr} {Ft Gt:Nat→Prop}
theorem PL.other (h:PL w w2 p s o pl Ft) {K:Nat→Prop} {w3:World} (hb:Bf K w2 w3) (hK:∀z,Ft z→¬K z) (hw:∀z,K z→w.heap.size≤z):PL w w3 p s o pl Ft:=by
 match o,h with
 | none,⟨e,k⟩=>exact⟨e,⟨k.at_.other hb hK,k.new,k.below.trans (hb.below hw k.below.size)⟩⟩
 | some x,⟨q,F,v,e,k,eF⟩ =>
  subst eF
  exact⟨q,F,v,e,k.other hb hK hw,rfl⟩
theorem PL.lt (h:PL w w2 p s o pl Ft) {z:Nat} (hz:Ft z):z < w2.heap.size:=by
 match o,h with
 | none,⟨e,k⟩=>exact k.at_.lt hz
 | some x,⟨q,F,v,e,k,eF⟩ =>
  subst eF
  exact (k.fh hz).1
theorem PL.dl (h:PL w w2 p s o pl Ft):∃F,Dl w w2 p F s∧∀z,F z→Ft z:=by
 match o,h with
 | none,⟨e,k⟩=>exact⟨Ft,k,fun _=>id⟩
 | some x,⟨q,F,v,e,k,eF⟩ =>
  subst eF
  exact⟨F,k.hd_.dl,fun z hz => .inl hz⟩
theorem RL.other (h:RL w2 d s o kl Gt) {K:Nat→Prop} {w3:World} (hb:Bf K w2 w3) (hK:∀z,Gt z→¬K z):RL w3 d s o kl Gt:=by
 match o,h with
 | none,⟨e,k⟩=>exact⟨e,k.other hb hK⟩
 | some x,⟨q,G,v,e,k,eF⟩ =>
  subst eF
  exact⟨q,G,v,e,k.other hb hK,rfl⟩
theorem RL.lt (h:RL w2 d s o kl Gt) {z:Nat} (hz:Gt z):z < w2.heap.size:=by
 match o,h with
 | none,⟨e,k⟩=>exact k.lt hz
 | some x,⟨q,G,v,e,k,eF⟩ =>
  subst eF
  exact k.fq hz
theorem RL.at_ (h:RL w2 d s o kl Gt):∃G,DAt w2 d G s∧∀z,G z→Gt z:=by
 match o,h with
 | none,⟨e,k⟩=>exact⟨Gt,k,fun _=>id⟩
 | some x,⟨q,G,v,e,k,eF⟩ =>
  subst eF
  exact⟨G,k.rd.at_,fun z hz => .inl hz⟩
end
structure L2 (w wr:World) (B:Nat) (most:Int) (p d:Nat) (sP:St) (oP:Option Lo) (sR:St) (oR:Option Lo) (ps pk pl kl:Option Addr) (Ft Gt:Nat→Prop):Prop where
 bk:Blk wr B (btc most p d (.pointer ps) (.pointer pk))
 pp:PL w wr p sP oP pl Ft
 rp:RL wr d sR oR kl Gt
 fg:∀z,Ft z→¬Gt z
 fb:¬Ft B
 gb:¬Gt B
 nF:∀z,Ft z→w.heap.size≤z
 nG:∀z,Gt z→w.heap.size≤z
 nB:w.heap.size≤B
 sz:w.heap.size≤wr.heap.size
def Lx (w w0:World) (U0:Nat→Prop) (wr:World) (B:Nat) (most:Int) (p d:Nat) (sP:St) (oP:Option Lo) (sR:St) (oR:Option Lo) (ps pk pl kl:Option Addr):Prop:=∃Ft Gt,L2 w wr B most p d sP oP sR oR ps pk pl kl Ft Gt∧Nx w0 U0 (UU Ft Gt B)∧Bf U0 w0 wr
section
variable {w w0:World} {U0:Nat→Prop} {wr:World} {B:Nat} {most:Int} {p d:Nat} {sP sR:St} {oP oR:Option Lo} {ps pk pl kl:Option Addr} {Ft Gt:Nat→Prop}
theorem L2.later (h:L2 w wr B most p d sP oP sR oR ps pk pl kl Ft Gt) {w1:World} (hb:Below wr.heap.size wr w1):L2 w w1 B most p d sP oP sR oR ps pk pl kl Ft Gt :=
 ⟨h.bk.later hb,h.pp.other (K:=fun _=>False) (Bf.of hb) (fun _ _=>id) (fun _ c=>c.elim),h.rp.other (K:=fun _=>False) (Bf.of hb) (fun _ _=>id),h.fg,h.fb,h.gb,h.nF,h.nG,h.nB,Nat.le_trans h.sz hb.size⟩
theorem L2.prog (h:L2 w wr B most p d sP oP sR oR ps pk pl kl Ft Gt) {w1:World} {s':St} {o':Option Lo} {pl':Option Addr} {Ft':Nat→Prop} (k:PL w w1 p s' o' pl' Ft') (n:Nx wr Ft Ft') (f:Bf Ft wr w1):L2 w w1 B most p d s' o' sR oR ps pk pl' kl Ft' Gt:=by
 refine⟨h.bk.bf f h.fb,k,h.rp.other f (fun z hz c=>h.fg z c hz),fun z hz c => ?_,fun c => ?_,h.gb,fun z hz => ?_,h.nG,h.nB,Nat.le_trans h.sz f.size⟩
 ·rcases n z hz with e|e
  ·exact h.fg z e c
  ·have:=h.rp.lt c
   omega
 ·rcases n B c with e|e
  ·exact h.fb e
  ·have:=h.bk.lt
   omega
 ·rcases n z hz with e|e
  ·exact h.nF z e
  ·have:=h.sz
   omega
theorem L2.ref (h:L2 w wr B most p d sP oP sR oR ps pk pl kl Ft Gt) {w1:World} {s':St} {o':Option Lo} {kl':Option Addr} {Gt':Nat→Prop} (k:RL w1 d s' o' kl' Gt') (n:Nx wr Gt Gt') (f:Bf Gt wr w1):L2 w w1 B most p d sP oP s' o' ps pk pl kl' Ft Gt':=by
 refine⟨h.bk.bf f h.gb,h.pp.other f h.fg h.nG,k,fun z hz c => ?_,h.fb,fun c => ?_,h.nF,fun z hz => ?_,h.nB,Nat.le_trans h.sz f.size⟩
 ·rcases n z c with e|e
  ·exact h.fg z hz e
  ·have:=h.pp.lt hz
   omega
 ·rcases n B c with e|e
  ·exact h.gb e
  ·have:=h.bk.lt
   omega
 ·rcases n z hz with e|e
  ·exact h.nG z e
  ·have:=h.sz
   omega
theorem Lx.later (h:Lx w w0 U0 wr B most p d sP oP sR oR ps pk pl kl) {w1:World} (hb:Below wr.heap.size wr w1):Lx w w0 U0 w1 B most p d sP oP sR oR ps pk pl kl:=by
 obtain⟨Ft,Gt,k,nn,ff⟩:=h
 exact⟨Ft,Gt,k.later hb,nn,ff.later hb⟩
theorem Lx.sx (h:Lx w w0 U0 wr B most p d sP oP sR oR ps pk pl kl):Sx2 w w0 U0 wr B most p d sP sR ps pk:=by
 obtain⟨Ft,Gt,k,nn,ff⟩:=h
 obtain⟨F,dl,hF⟩:=k.pp.dl
 obtain⟨G,at_,hG⟩:=k.rp.at_
 exact⟨F,G,⟨k.bk,dl,at_,fun z hz c=>k.fg z (hF z hz) (hG z c),fun c=>k.fb (hF B c),fun c=>k.gb (hG B c),fun z hz=>k.nG z (hG z hz),k.nB⟩,UU.less nn hF hG,ff⟩
theorem Sx2.lx (h:Sx2 w w0 U0 wr B most p d sP sR ps pk):Lx w w0 U0 wr B most p d sP none sR none ps pk none none:=by
 obtain⟨F,G,k,nn,ff⟩:=h
 exact⟨F,G,⟨k.bk,⟨rfl,k.dl⟩,⟨rfl,k.at_⟩,k.fg,k.fb,k.gb,k.dl.new,k.nG,k.nB,k.dl.below.size⟩,nn,ff⟩
end
def oLo (o:(Int×St)×Lo):Option Lo:=if o.1.1=0 then some o.2 else none
theorem flopenP_any (w w0:World) (U0:Nat→Prop) (wr:World) (B:Nat) (most:Int) (p d:Nat) (sP sR:St) (oR:Option Lo) (ps pk kl:Option Addr) (hn:sP.n≤1024) (hl:sP.l.length+2000≤1000000) (hk:Kh w) (h:Lx w w0 U0 wr B most p d sP none sR oR ps pk none kl) :
  Calls Tryz.prog 20 #[.pointer (some ⟨p,0,none⟩)] wr fun e w1=>∃pl,e = .returned (.tuple #[.pointer pl,.int .i64 (opn sP).1.1])∧Lx w w0 U0 w1 B most p d (opn sP).1.2 (oLo (opn sP)) sR oR ps pk pl kl∧(oLo (opn sP)=none↔pl=none):=by
 obtain⟨Ft,Gt,k,nn,ff⟩:=h
 have k0:=k
 obtain⟨-,dl⟩:=k.pp
 refine (lopen_all w wr p Ft sP hl hk dl).mono ?_
 rintro e w1 ⟨F',d1,d2,d3,hres⟩
 have ok:=fun h=>opn_ok (s:=sP) h dl.at_.1
 rcases hres with ⟨h0,q,v,he,hd,hnew⟩|⟨h0,he⟩
 ·obtain⟨o4,oh,on,otk,og,ook⟩:=ok h0
  have e2:oLo (opn sP)=some (opn sP).2:=if_pos h0
  rw[e2,h0]
  have nF:Nx wr Ft (FH F' q v):=fun z hz=>by
   rcases hz with c|c
   ·exact d2 z c
   ·exact .inr (hnew z c)
  exact⟨some ⟨q,0,none⟩,he,⟨FH F' q v,Gt,k0.prog (o':=some (opn sP).2) ⟨q,F',v,rfl,⟨by rw[on];exact hd,oh,by rw[on];exact o4,by rw[on];exact hn,by rw[on];exact otk,ook,og⟩,rfl⟩ nF d3,UU.prog nn ff nF d3⟩,⟨(fun c=>by cases c),(fun c=>by cases c)⟩⟩
 ·have e2:oLo (opn sP)=none:=if_neg h0
  rw[e2]
  exact⟨none,he,⟨F',Gt,k0.prog (o':=none) ⟨rfl,d1⟩ d2 d3,UU.prog nn ff d2 d3⟩,⟨fun _=>rfl,fun _=>rfl⟩⟩
theorem flopenR_any (w w0:World) (U0:Nat→Prop) (wr:World) (B:Nat) (most:Int) (p d:Nat) (sP sR:St) (oP:Option Lo) (ps pk pl:Option Addr) (hn:sR.n≤1024) (hl:sR.l.length+5000≤1000000) (_hh:Hh sR) (h:Lx w w0 U0 wr B most p d sP oP sR none ps pk pl none) :
  Calls Tryz.prog 26 #[.pointer (some ⟨d,0,none⟩)] wr fun e w1=>∃kl,e = .returned (.tuple #[.pointer kl,.int .i64 (opn sR).1.1])∧Lx w w0 U0 w1 B most p d sP oP (opn sR).1.2 (oLo (opn sR)) ps pk pl kl∧(oLo (opn sR)=none↔kl=none):=by
 obtain⟨Ft,Gt,k,nn,ff⟩:=h
 have k0:=k
 obtain⟨-,at_⟩:=k.rp
 have hs:opnr sR=opn sR:=opn_same at_.1
 refine (ropen_any wr d Gt sR hn hl at_).mono ?_
 rw[hs]
 rintro e w1 ⟨pv,G',he,dw,hno,hok⟩
 by_cases h0:(opn sR).1.1=0
 ·obtain⟨q,v,rfl,rl,hnew⟩:=hok h0
  have e2:oLo (opn sR)=some (opn sR).2:=if_pos h0
  rw[e2]
  have nG:Nx wr Gt (FQ G' q v):=fun z hz=>by
   rcases hz with c|c
   ·exact dw.nx z c
   ·exact .inr (hnew z c)
  exact⟨some ⟨q,0,none⟩,he,⟨Ft,FQ G' q v,k0.ref (o':=some (opn sR).2) ⟨q,G',v,rfl,rl,rfl⟩ nG dw.bf,UU.ref nn ff nG dw.bf⟩,⟨(fun c=>by cases c),(fun c=>by cases c)⟩⟩
 ·obtain rfl:=hno h0
  have e2:oLo (opn sR)=none:=if_neg h0
  rw[e2]
  exact⟨none,he,⟨Ft,G',k0.ref (o':=none) ⟨rfl,dw.at_⟩ dw.nx dw.bf,UU.ref nn ff dw.nx dw.bf⟩,⟨fun _=>rfl,fun _=>rfl⟩⟩
theorem flappP_any (w w0:World) (U0:Nat→Prop) (wr:World) (B:Nat) (most:Int) (p d:Nat) (sP sR:St) (x:Lo) (oR:Option Lo) (ps pk pl kl:Option Addr) (X:ByteArray) (hl:sP.l.length+100≤1000000) (hk:Kh w) (h:Lx w w0 U0 wr B most p d sP (some x) sR oR ps pk pl kl) :
  Calls Tryz.prog 21 #[.pointer pl,.string X] wr fun e w1=>e = .returned (.int .i64 (app sP x X.data.toList).1.1)∧Lx w w0 U0 w1 B most p d (app sP x X.data.toList).1.2 (some (app sP x X.data.toList).2) sR oR ps pk pl kl:=by
 obtain⟨Ft,Gt,k,nn,ff⟩:=h
 have k0:=k
 obtain⟨q,F,v,rfl,z,rfl⟩:=k.pp
 refine (lzappend_any w wr p F sP q v x X hl hk z).mono ?_
 rintro e w1 ⟨he,F',v',z',n,f⟩
 exact⟨he,_,Gt,k0.prog (o':=some (app sP x X.data.toList).2) ⟨q,F',v',rfl,z',rfl⟩ n.fh f,UU.prog nn ff n.fh f⟩
theorem flappR_any (w w0:World) (U0:Nat→Prop) (wr:World) (B:Nat) (most:Int) (p d:Nat) (sP sR:St) (x:Lo) (oP:Option Lo) (ps pk pl kl:Option Addr) (X:ByteArray) (hl:sR.l.length+100≤1000000) (h:Lx w w0 U0 wr B most p d sP oP sR (some x) ps pk pl kl) :
  Calls Tryz.prog 36 #[.pointer kl,.string X] wr fun e w1=>e = .returned (.int .i64 (app sR x X.data.toList).1.1)∧Lx w w0 U0 w1 B most p d sP oP (app sR x X.data.toList).1.2 (some (app sR x X.data.toList).2) ps pk pl kl:=by
 obtain⟨Ft,Gt,k,nn,ff⟩:=h
 have k0:=k
 obtain⟨q,G,v,rfl,z,rfl⟩:=k.rp
 refine (rappend_any wr d G sR q v x X hl z).mono ?_
 rintro e w1 ⟨he,G',v',z',n1,n2,f⟩
 have nG:Nx wr (FQ G q v) (FQ G' q v'):=fun y hy=>by
  rcases hy with c|c
  ·rcases n1 y c with e|e
   ·exact .inl (.inl e)
   ·exact .inr e
  ·rcases n2 y c with e|e
   ·exact .inl (.inr e)
   ·exact .inr e
 exact⟨he,Ft,_,k0.ref (o':=some (app sR x X.data.toList).2) ⟨q,G',v',rfl,z',rfl⟩ nG f,UU.ref nn ff nG f⟩
theorem flsyncP_any (w w0:World) (U0:Nat→Prop) (wr:World) (B:Nat) (most:Int) (p d:Nat) (sP sR:St) (x:Lo) (oR:Option Lo) (ps pk pl kl:Option Addr) (hl:sP.l.length≤1000000) (h:Lx w w0 U0 wr B most p d sP (some x) sR oR ps pk pl kl) :
  Calls Tryz.prog 22 #[.pointer pl] wr fun e w1=>e = .returned (.int .i64 (syE sP))∧Lx w w0 U0 w1 B most p d (syS sP) (some x) sR oR ps pk pl kl:=by
 obtain⟨Ft,Gt,k,nn,ff⟩:=h
 have k0:=k
 obtain⟨q,F,v,rfl,z,rfl⟩:=k.pp
 refine (lzsync_any w wr p F sP q v x hl z).mono ?_
 rintro e w1 ⟨he,F',v',z',n,f⟩
 exact⟨he,_,Gt,k0.prog (o':=some x) ⟨q,F',v',rfl,z',rfl⟩ n.fh f,UU.prog nn ff n.fh f⟩
theorem flsyncR_any (w w0:World) (U0:Nat→Prop) (wr:World) (B:Nat) (most:Int) (p d:Nat) (sP sR:St) (x:Lo) (oP:Option Lo) (ps pk pl kl:Option Addr) (hl:sR.l.length≤1000000) (h:Lx w w0 U0 wr B most p d sP oP sR (some x) ps pk pl kl) :
  Calls Tryz.prog 37 #[.pointer (some ⟨d,0,none⟩)] wr fun e w1=>e = .returned (.int .i64 (syE sR))∧Lx w w0 U0 w1 B most p d sP oP (syS sR) (some x) ps pk pl kl:=by
 obtain⟨Ft,Gt,k,nn,ff⟩:=h
 have k0:=k
 obtain⟨q,G,v,rfl,z,rfl⟩:=k.rp
 refine (rsync_any d G sR wr z.rd.at_ hl).mono ?_
 rintro e w1 ⟨he,G',y1,y2,y3⟩
 have hn:=syS_n sR
 have nG:Nx wr (FQ G q v) (FQ G' q v):=fun y hy=>by
  rcases hy with c|c
  ·rcases y2 y c with e|e
   ·exact .inl (.inl e)
   ·exact .inr e
  ·exact .inl (.inr c)
 have fG:Bf (FQ G q v) wr w1:=y3.wide fun _ c => .inl c
 exact⟨he,Ft,_,k0.ref (o':=some x) ⟨q,G',v,rfl,⟨z.rd.disk y1 y2 y3,z.h1,by rw[hn];exact z.n4,by rw[hn];exact z.n2,by rw[hn];exact z.tk,z.ok⟩,rfl⟩ nG fG,UU.ref nn ff nG fG⟩
end Go.Proofs.YtdcimnmebgkmjaaGreatDoor
