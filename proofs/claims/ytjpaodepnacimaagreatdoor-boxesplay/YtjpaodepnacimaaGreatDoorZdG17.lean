/- Parts: LgE,LgJ,LrB,LrJ,LgX. -/
import Derived.Test.YtjpaodepnacimaaGreatDoorZdG16
import Derived.Test.YtjpaodepnacimaaGreatDoorZdG12
import Derived.Test.YtjpaodepnacimaaGreatDoorZdG14
namespace Go.Proofs.YtjpaodepnacimaaGreatDoor
open Go.RowKit Go.Proofs.Fd Go.Proofs.Dk Go.Proofs.Lg
set_option maxRecDepth 20000
theorem keepE {wa wb:World} {q:Nat} {x0 x1 x2 x3:Value} (hb:Below wa.heap.size wa wb) (h:wa.cell? ⟨q,0,none⟩=some x0∧wa.cell? ⟨q,1,none⟩=some x1∧wa.cell? ⟨q,2,none⟩=some x2∧wa.cell? ⟨q,3,none⟩=some x3) :
  wb.cell? ⟨q,0,none⟩=some x0∧wb.cell? ⟨q,1,none⟩=some x1∧wb.cell? ⟨q,2,none⟩=some x2∧wb.cell? ⟨q,3,none⟩=some x3:=⟨cell_later hb h.1,cell_later hb h.2.1,cell_later hb h.2.2.1,cell_later hb h.2.2.2⟩
theorem keepEd {w wa wb:World} {p:Nat} {F:Nat→Prop} {s:St} {q:Nat} {x0 x1 x2 x3:Value} (hq:¬F q) (hd:Ds w wa p F s wb) (h:wa.cell? ⟨q,0,none⟩=some x0∧wa.cell? ⟨q,1,none⟩=some x1∧wa.cell? ⟨q,2,none⟩=some x2∧wa.cell? ⟨q,3,none⟩=some x3) :
  wb.cell? ⟨q,0,none⟩=some x0∧wb.cell? ⟨q,1,none⟩=some x1∧wb.cell? ⟨q,2,none⟩=some x2∧wb.cell? ⟨q,3,none⟩=some x3:=by
 obtain⟨F',-,-,hb⟩:=hd
 exact⟨hb.cell h.1 hq,hb.cell h.2.1 hq,hb.cell h.2.2.1 hq,hb.cell h.2.2.2 hq⟩
set_option maxHeartbeats 2000000 in
theorem lcrown_any (w va:World) (p:Nat) (F:Nat→Prop) (s:St) (q fr mn g:Nat) (v:Value) (ts:List Bs) (tk:Nat) (m:Bs) (more:List Value) (hz:fr≤4000) (hl:s.l.length+1≤1000000) (hk:Hid (Kh w)) (h:Hid (HD w va p F s q fr mn g v ts tk m more)) :
  Calls Tryz.prog 103 #[.pointer (some ⟨q,0,none⟩)] va fun e w'=>e = .returned (.int .i64 (wrb s fr (hd g)).1)∧Ds w va p F (wrb s fr (hd g)).2 w':=by
 have HH:Hid (∀W,Kh W→Calls Tryz.prog 132 #[.int .i64 (g:Int)] W fun e w'=>e = .returned (.string (st (hd g)))∧Below W.heap.size W w'):=fun W k=>lhead_any g W k
 have WR:Hid (∀W,Dl w W p F s→Calls Tryz.prog 106 #[.agg #[.pointer (some ⟨p,0,none⟩),.int .i64 (fr:Int),.int .i64 (mn:Int)],.int .i64 0,.string (st (hd g))] W fun e w'=>e = .returned (.int .i64 (wrb s fr (hd g)).1)∧Ds w W p F (wrb s fr (hd g)).2 w'):=fun W k=>lwrite_any w W p F s fr 0 mn (hd g) 1 (hd_len g) (by decide) (by omega) (by omega) k
 have c0:=h.out.hf.bk.c 0 _ rfl
 have c1:=h.out.hf.bk.c 1 _ rfl
 have c2:=h.out.hf.bk.c 2 _ rfl
 have c3:=h.out.hf.bk.c 3 _ rfl
 have NQ:Hid (¬F q):=(h.out.ap q (.inl rfl)).1
 have KK:Hid (∀W,Below va.drew.heap.size va.drew W→Dl w W p F s):=fun W hb=>(h.out.dl.later (Below.refl _ _).drew).later hb
 have KD:Hid (Kh va.drew):=hk.out.later (h.out.dl.below.drew)
 have HF:Hid (∀W W',Below va.drew.heap.size va.drew W→Ds w W p F (wrb s fr (hd g)).2 W'→Ds w va p F (wrb s fr (hd g)).2 W'):=fun W W' hb ⟨F',k1,k2,k3⟩=>by
  have b0:Below va.heap.size va W:=chain (Below.refl _ _).drew hb
  exact⟨F',k1,(Nx.refl va F).trans k2 b0.size,(Bf.of b0).trans (Nx.refl _ _) k3⟩
 obtain⟨y,hy⟩:∃y,wrb s fr (hd g)=y:=⟨_,rfl⟩
 obtain⟨x,hx⟩:∃x,y.1=x:=⟨_,rfl⟩
 rw[hy] at WR HF ⊢
 rw[hx] at WR ⊢
 obtain⟨X,hX⟩:∃X,st (hd g)=X:=⟨_,rfl⟩
 rw[hX] at HH WR
 clear hy hx hX h hk hl
 go_enter Tryz.func103, Tryz.ntmps103
 go_wp2_with fail
 go_region_held3 (fun w'=>w'.cell? ⟨q,0,none⟩=some (.pointer (some ⟨p,0,none⟩))∧w'.cell? ⟨q,1,none⟩=some (.int .i64 (fr:Int))∧w'.cell? ⟨q,2,none⟩=some (.int .i64 (mn:Int))∧w'.cell? ⟨q,3,none⟩=some (.int .i64 (g:Int))) (first|exact⟨c0,c1,c2,c3⟩|assumption|exact keepE (by assumption) (by assumption)|exact keepEd NQ.out (by assumption) (by assumption)) (first|(go_at_call 132;refine Calls.mono (HH.out _ KD.out) ?_;rintro e w3 ⟨rfl,hb3⟩)|(go_at_call 106;refine Calls.mono (WR.out _ (KK.out _ (by assumption))) ?_;rintro e w4 ⟨rfl,hd4⟩))
 have FF:Hid (Ds w va p F y.2 w4):=HF.out w3 w4 hb3 hd4
 clear hd4 hb3 KK KD HF WR HH
 go_wp2
 go_ret
 exact⟨rfl,FF.out⟩
theorem cls_len:∀(m:Nat) (s:St) (k:Nat) (d:Bool),(cls s k m d).2.l.length≤s.l.length+m
 | 0,s,k,d=>by
  rw[cls]
  split
  ·show (syS s).l.length≤_
   unfold syS
   split
   ·omega
   ·split
    ·show s.l.length≤_
     omega
    ·exact Nat.zero_le _
  ·exact Nat.le_refl _
 | m+1,s,k,d=>by
  rw[cls]
  split
  ·have:=cls_len m s (k+1) d
   omega
  ·have h1:=wrS_len s (k:Int) (zr 64)
   by_cases h:wrE s (k:Int) (zr 64)=0
   ·rw[thn_ok h]
    have:=cls_len m (wrS s (k:Int) (zr 64)) (k+1) true
    exact Nat.le_trans this (by omega)
   ·rw[thn_no h]
    exact Nat.le_trans h1 (by omega)
theorem cln_len (s:St) (k m:Nat):(cln s k m).2.l.length≤s.l.length+m:=by
 rw[cln]
 split
 ·exact Nat.le_add_right _ _
 ·exact cls_len m s k false
theorem pts_len:∀(l:List Bs) (s:St) (k tk:Nat) (a:Bs),(pts s k tk a l).2.l.length≤s.l.length+sns l
 | [],_,_,_,_=>Nat.le_refl _
 | t::l,s,k,tk,a=>by
  rw[pts,sns]
  have h1:=wrb_len s (k+tk) (rcd a t)
  rw[rcd_len,show 64*sn t / 64=sn t by omega] at h1
  by_cases h:(wrb s (k+tk) (rcd a t)).1=0
  ·rw[thn_ok h]
   have:=pts_len l (wrb s (k+tk) (rcd a t)).2 k (tk+sn t) (rmk a t)
   omega
  ·rw[thn_no h]
   omega
theorem syS_len (s:St):(syS s).l.length≤s.l.length:=by
 unfold syS
 split
 ·omega
 ·split
  ·exact Nat.le_refl _
  ·exact Nat.zero_le _
structure Bq (w va:World) (p:Nat) (F:Nat→Prop) (fr mn g:Nat) (a:Option Addr) (n c:Nat) (l:List Bs) (q C R:Nat) (wr:World) (F':Nat→Prop) (s':St) (v':Value) (ts':List Bs) (tk':Nat) (m':Bs):Prop where
 hd:HD w wr p F' s' q fr mn g v' ts' tk' m' [.slice a n c]
 nx:Nx va F F'
 bf:Bf F va wr
 bc:Blk wr C (fsv q p fr mn)
 br:Blk wr R hz0
 tx:TxAt wr a l
 ap:Ap a l (FH F' q v')
 nq:va.heap.size≤q
 nC:va.heap.size≤C
 nR:va.heap.size≤R
 qC:C≠q
 qR:R≠q
 fC:¬F' C
 fR:¬F' R
 vC:v'.ownBlock≠some C
 vR:v'.ownBlock≠some R
 nv:∀x,v'.ownBlock=some x→va.heap.size≤x
section
variable {w va:World} {p:Nat} {F:Nat→Prop} {fr mn g:Nat} {a:Option Addr} {n c:Nat} {l:List Bs} {q C R:Nat} {wr:World} {F':Nat→Prop} {s':St} {v':Value} {ts':List Bs} {tk':Nat} {m':Bs}
theorem Bq.disk (h:Bq w va p F fr mn g a n c l q C R wr F' s' v' ts' tk' m') {w':World} {F2:Nat→Prop} {s2:St} (k:Dl w w' p F2 s2) (hx:Nx wr F' F2) (hb:Bf F' wr w'):Bq w va p F fr mn g a n c l q C R w' F2 s2 v' ts' tk' m' :=
 ⟨h.hd.disk k hx hb,h.nx.trans hx h.bf.size,h.bf.trans h.nx hb,h.bc.bf hb h.fC,h.br.bf hb h.fR,h.tx.bf (hb.wide fun _ e => .inl e) h.ap,h.ap.nx h.tx (FH.left hx),h.nq,h.nC,h.nR,h.qC,h.qR,hx.apart h.fC h.bc.lt,hx.apart h.fR h.br.lt,h.vC,h.vR,h.nv⟩
theorem Bq.fill (h:Bq w va p F fr mn g a n c l q C R wr F' s' v' ts' tk' m') {w':World} {F2:Nat→Prop} {s2:St} {v2:Value} {ts2:List Bs} {tk2:Nat} {m2:Bs} (k:HD w w' p F2 s2 q fr mn g v2 ts2 tk2 m2 [.slice a n c]) (hx2:Nx2 wr F' q v' F2 v2) (hb:Bf (FH F' q v') wr w'):Bq w va p F fr mn g a n c l q C R w' F2 s2 v2 ts2 tk2 m2:=by
 have hx:=hx2.fh
 have cC:¬FH F' q v' C:=fun e=>by
  rcases e with e|e|e
  ·exact h.fC e
  ·exact h.qC e
  ·exact h.vC e
 have cR:¬FH F' q v' R:=fun e=>by
  rcases e with e|e|e
  ·exact h.fR e
  ·exact h.qR e
  ·exact h.vR e
 have hs:=h.bf.size
 have dC:=hx.apart cC h.bc.lt
 have dR:=hx.apart cR h.br.lt
 have nn:∀x,FH F' q v' x→F x∨va.heap.size≤x:=fun x e=>by
  rcases e with e|e|e
  ·exact h.nx x e
  ·exact .inr (by rw[e];exact h.nq)
  ·exact .inr (h.nv x e)
 refine⟨k,fun x e => ?_,?_,h.bc.bf hb cC,h.br.bf hb cR,h.tx.bf hb h.ap,h.ap.nx h.tx hx,h.nq,h.nC,h.nR,h.qC,h.qR,fun e=>dC (.inl e),fun e=>dR (.inl e),fun e=>dC (.inr (.inr e)),fun e=>dR (.inr (.inr e)),fun x e => ?_⟩
 ·rcases hx x (.inl e) with d|d
  ·exact nn x d
  ·exact .inr (by omega)
 ·exact h.bf.trans (fun x e=>nn x e) hb
 ·rcases hx2.2 x (.inr e) with d|d
  ·rcases d with d|d
   ·rw[d];exact h.nq
   ·exact h.nv x d
  ·omega
end
def k4 (s:St):Int×St:=thn (syE s,syS s) fun s5=>(0,s5)
def k3 (fr g:Nat) (s:St):Int×St:=thn (wrb s fr (hd g)) k4
def k2 (fr g:Nat) (s:St):Int×St:=thn (syE s,syS s) (k3 fr g)
def k1 (fr g:Nat) (l:List Bs) (s:St):Int×St:=thn (pts s fr 1 (hm g) l) (k2 fr g)
theorem k4_eq (s:St):k4 s=(syE s,syS s):=by
 unfold k4
 by_cases h:syE s=0
 ·rw[thn_ok h,h]
 ·rw[thn_no h]
theorem bgn_k1 (s:St) (fr mn g:Nat) (l:List Bs):bgn s fr mn g l=thn (cln s fr mn) (k1 fr g l):=by
 have e:k4=fun s=>(syE s,syS s):=funext k4_eq
 unfold bgn k1 k2 k3
 rw[e]
def BgE (w va:World) (p:Nat) (F:Nat→Prop) (R:Nat) (y:Int×St) (x:Int) (w':World):Prop:=y.1=x∧∃F',Dl w w' p F' y.2∧Nx va F F'∧Bf F va w'∧Blk w' R hz0∧¬F' R
def BgP (w va:World) (p:Nat) (F:Nat→Prop) (fr mn g:Nat) (a:Option Addr) (n c:Nat) (l:List Bs) (q C R:Nat) (B:Nat) (y:Int×St) (k:Nat) (wr:World):Prop :=
 ∃F' s' v' ts' tk' m',Bq w va p F fr mn g a n c l q C R wr F' s' v' ts' tk' m'∧(2≤k→ts'=l∧tk'=tkn 1 l∧m'=mks (hm g) l) ∧
  match k with
  | 0=>ts'=[]∧tk'=0∧s'.n=B∧s'.l.length+2*mn+300≤1000000∧y=thn (cln s' fr mn) (k1 fr g l)
  | 1=>ts'=[]∧s'.l.length+mn+300≤1000000∧y=k1 fr g l s'
  | 2=>s'.l.length+300≤1000000∧y=k2 fr g s'
  | 3=>s'.l.length+300≤1000000∧y=k3 fr g s'
  | 4=>s'.l.length+200≤1000000∧y=k4 s'
  | _=>y=(0,s')
theorem step_ds {w va:World} {p:Nat} {F:Nat→Prop} {fr mn g:Nat} {a:Option Addr} {n c:Nat} {l:List Bs} {q C R:Nat} {wr:World} {F':Nat→Prop} {s':St} {v':Value} {ts':List Bs} {tk':Nat} {m':Bs} {y z:Int×St} {kk:St→Int×St} {P:World→Prop}
  (h:Bq w va p F fr mn g a n c l q C R wr F' s' v' ts' tk' m') (hy:y=thn z kk) (hP:∀w' F2,Bq w va p F fr mn g a n c l q C R w' F2 z.2 v' ts' tk' m'→y=kk z.2→P w') {f:Nat} {args:Array Value} (hc:Calls Tryz.prog f args wr fun e w'=>e = .returned (.int .i64 z.1)∧Ds w wr p F' z.2 w') :
  Calls Tryz.prog f args wr fun e w'=>StepP P (BgE w va p F R y) e w' :=
 hc.mono fun e w' ⟨he,F2,d1,d2,d3⟩=>by
  have k:=h.disk d1 d2 d3
  refine⟨z.1,he,?_⟩
  by_cases h0:z.1=0
  ·exact .inl ⟨h0,hP w' F2 k (hy.trans (thn_ok h0))⟩
  ·have e1:y=z:=hy.trans (thn_no h0)
   exact .inr ⟨h0,by rw[e1],F2,by rw[e1];exact k.hd.dl,k.nx,k.bf,k.br,k.fR⟩
theorem begin_steps (w va:World) (p:Nat) (F:Nat→Prop) (fr mn g:Nat) (a:Option Addr) (n c:Nat) (l:List Bs) (q C R B:Nat) (y:Int×St) (h1:1≤mn) (h2:fr+mn≤B) (hB:B≤1024) (hn:l.length=n) (ht:∀t∈l,t.length≤2000) (hs:tkn 1 l≤mn) (hk:Kh w) (v0:World) (h:BgP w va p F fr mn g a n c l q C R B y 0 v0) :
  Calls Tryz.prog 101 #[.slice (some ⟨C,0,none⟩) 5 5] v0 fun e w'=>StepP (BgP w va p F fr mn g a n c l q C R B y 5) (BgE w va p F R y) e w':=by
 have hsn:1+sns l≤mn:=by rw[←tkn_sns];exact hs
 refine linOrder_any q p fr mn C (BgP w va p F fr mn g a n c l q C R B y) (BgE w va p F R y) ?_ ?_ ?_ ?_ ?_ ?_ v0 h
 ·rintro k wr - ⟨F',s',v',ts',tk',m',hq,-,-⟩
  exact hq.bc
 ·rintro wr ⟨F',s',v',ts',tk',m',hq,-,rfl,rfl,hb,hl,hy⟩
  refine step_ds hq hy (fun w' F2 k e=>⟨F2,_,v',[],0,m',k,fun c=>absurd c (by decide),rfl,?_,e⟩) (lclean_any w wr p F' s' q fr mn g v' [] 0 m' _ h1 (by omega) (Nat.zero_le _) (by omega) hq.hd)
  have:=cln_len s' fr mn
  omega
 ·rintro wr ⟨F',s',v',ts',tk',m',hq,-,rfl,hl,hy⟩
  refine (lfill_any w wr p F' s' q fr mn g v' tk' m' a n c l hn ht hs (by omega) (by omega) hk hq.hd hq.tx hq.ap).mono ?_
  rintro e w' ⟨he,F2,v2,ts2,tk2,m2,x1,x2,x3,x4⟩
  have k:=hq.fill x3 x1 x2
  refine⟨_,he,?_⟩
  by_cases h0:(pts s' fr 1 (hm g) l).1=0
  ·refine .inl ⟨h0,F2,_,v2,ts2,tk2,m2,k,fun _=>x4 h0,?_,hy.trans (thn_ok h0)⟩
   have:=pts_len l s' fr 1 (hm g)
   omega
  ·have e1:y=pts s' fr 1 (hm g) l:=hy.trans (thn_no h0)
   exact .inr ⟨h0,by rw[e1],F2,by rw[e1];exact k.hd.dl,k.nx,k.bf,k.br,k.fR⟩
 ·rintro wr ⟨F',s',v',ts',tk',m',hq,hf,hl,hy⟩
  refine step_ds hq hy (fun w' F2 k e=>⟨F2,_,v',ts',tk',m',k,fun _=>hf (Nat.le_refl _),?_,e⟩) (lsync_any w wr p F' s' fr mn (by omega) hq.hd.dl)
  have:=syS_len s'
  show (syS s').l.length+300≤_
  omega
 ·rintro wr ⟨F',s',v',ts',tk',m',hq,hf,hl,hy⟩
  refine step_ds hq hy (fun w' F2 k e=>⟨F2,_,v',ts',tk',m',k,fun _=>hf (by decide),?_,e⟩) (lcrown_any w wr p F' s' q fr mn g v' ts' tk' m' _ (by omega) (by omega) hk hq.hd)
  have:=wrb_len s' fr (hd g)
  rw[hd_len] at this
  omega
 ·rintro wr ⟨F',s',v',ts',tk',m',hq,hf,hl,hy⟩
  exact step_ds hq hy (fun w' F2 k e=>⟨F2,_,v',ts',tk',m',k,fun _=>hf (by decide),e⟩) (lsync_any w wr p F' s' fr mn (by omega) hq.hd.dl)
theorem rhead_any (g:Nat) (w:World):Calls Tryz.prog 120 #[.int .i64 (g:Int)] w fun e w'=>e = .returned (sv (hd g))∧Below w.heap.size w w':=by
 have PL:Hid (∀w,_):=rplain_any g
 have MK:Hid (∀w,Calls Tryz.prog 82 #[sv (hf g)] w fun e w'=>e = .returned (sv (hm g))∧Below w.heap.size w w'):=rmark_any (hf g) (by rw[hf_len];decide)
 have ZR:Hid (∀w,Calls Tryz.prog 123 #[.int .i64 40] w fun e w'=>e = .returned (sv (zr 40))∧Below w.heap.size w w'):=rzeros_any 40 (by decide)
 have h1:(st (hf g)).size=8:=by rw[st_size,hf_len]
 have h2:(st (hm g)).size=16:=by rw[st_size,hm,mk_len]
 have h3:(st (zr 40)).size=40:=by rw[st_size,zr_len]
 have HP:Hid (st (hf g)++st (hm g)++st (zr 40)=st (hd g)):=by
  show st (hf g)++st (hm g)++st (zr 40)=st (hd g)
  have e:(hf g++hm g).length=24:=by rw[List.length_append,hf_len,hm,mk_len]
  rw[st_app,st_app,hd,pdd,e]
 unfold sv at *
 obtain⟨X,hX⟩:∃X,st (hf g)=X:=⟨_,rfl⟩
 obtain⟨Y,hY⟩:∃Y,st (hm g)=Y:=⟨_,rfl⟩
 obtain⟨Z,hZ⟩:∃Z,st (zr 40)=Z:=⟨_,rfl⟩
 rw[hX] at PL MK h1 HP
 rw[hY] at MK h2 HP
 rw[hZ] at ZR h3 HP
 clear hX hY hZ
 go_enter Tryz.func120, Tryz.ntmps120
 go_wp2_with fail
 refine Calls.mono (PL.out _) ?_
 rintro e w1 ⟨rfl,hb⟩
 have B1:Hid _:=hb
 clear hb
 go_wp2_with fail
 refine Calls.mono (PL.out _) ?_
 rintro e w2 ⟨rfl,hb⟩
 have B2:Hid _:=chain B1.out hb
 clear hb B1
 go_wp2_with fail
 refine Calls.mono (MK.out _) ?_
 rintro e w3 ⟨rfl,hb⟩
 have B3:Hid _:=chain B2.out hb
 clear hb B2
 go_wp2_with fail
 refine Calls.mono (ZR.out _) ?_
 rintro e w4 ⟨rfl,hb⟩
 have B4:Hid _:=chain B3.out hb
 clear hb B3
 go_wp2
 go_ret
 exact⟨by rw[←HP.out];rfl,B4.out⟩
def genr (b:Bs):Nat:=if nm ((b.drop 4).take 4) < 1∨2147483647 < nm ((b.drop 4).take 4)∨¬b=hd (nm ((b.drop 4).take 4)) then 0 else nm ((b.drop 4).take 4)
theorem four (b:Bs) (h:8≤b.length):nm ((b.drop 4).take 4)=((b[4].toNat*256+b[5].toNat)*256+b[6].toNat)*256+b[7].toNat:=by
 have e:(b.drop 4).take 4=[b[4],b[5],b[6],b[7]]:=by
  apply List.ext_getElem
  ·simp;omega
  ·intro i h1 h2
   have:i < 4:=by simpa using h2
   rcases (by omega:i=0∨i=1∨i=2∨i=3) with rfl|rfl|rfl|rfl <;> simp
 rw[e,nm]
 simp
set_option maxHeartbeats 8000000 in
theorem rgen_any (b:Bs) (h1:b.length=64) (w:World):Calls Tryz.prog 80 #[sv b] w fun e w'=>e = .returned (.int .i64 (genr b:Int))∧Below w.heap.size w w':=by
 have hs:(st b).size=64:=by rw[st_size,h1]
 have h4:=four b (by omega)
 have G0:Hid (genr b=if nm ((b.drop 4).take 4) < 1∨2147483647 < nm ((b.drop 4).take 4)∨¬b=hd (nm ((b.drop 4).take 4)) then 0 else nm ((b.drop 4).take 4)):=rfl
 obtain⟨n,hn⟩:∃n,nm ((b.drop 4).take 4)=n:=⟨_,rfl⟩
 rw[hn] at h4 G0
 have k0:=(b[4]'(by omega)).toNat_lt
 have k1:=(b[5]'(by omega)).toNat_lt
 have k2:=(b[6]'(by omega)).toNat_lt
 have k3:=(b[7]'(by omega)).toNat_lt
 obtain⟨X,hX⟩:∃X,st b=X:=⟨_,rfl⟩
 have HX:Hid (st b=X):=hX
 unfold sv
 rw[hX] at hs ⊢
 have x4:X[4]'(by omega)=b[4]'(by omega):=by subst hX;rfl
 have x5:X[5]'(by omega)=b[5]'(by omega):=by subst hX;rfl
 have x6:X[6]'(by omega)=b[6]'(by omega):=by subst hX;rfl
 have x7:X[7]'(by omega)=b[7]'(by omega):=by subst hX;rfl
 obtain⟨c4,q4⟩:∃c,b[4]'(by omega)=c:=⟨_,rfl⟩
 obtain⟨c5,q5⟩:∃c,b[5]'(by omega)=c:=⟨_,rfl⟩
 obtain⟨c6,q6⟩:∃c,b[6]'(by omega)=c:=⟨_,rfl⟩
 obtain⟨c7,q7⟩:∃c,b[7]'(by omega)=c:=⟨_,rfl⟩
 rw[q4] at x4 k0 h4
 rw[q5] at x5 k1 h4
 rw[q6] at x6 k2 h4
 rw[q7] at x7 k3 h4
 have t4:IntKind.i64.wrap (c4.toNat:Int)=(c4.toNat:Int):=by rw[IntKind.wrap_i64];omega
 have t5:IntKind.i64.wrap (c5.toNat:Int)=(c5.toNat:Int):=by rw[IntKind.wrap_i64];omega
 have t6:IntKind.i64.wrap (c6.toNat:Int)=(c6.toNat:Int):=by rw[IntKind.wrap_i64];omega
 have t7:IntKind.i64.wrap (c7.toNat:Int)=(c7.toNat:Int):=by rw[IntKind.wrap_i64];omega
 have p4:IntKind.i64.wrap ((c4.toNat:Int)*16777216)=(c4.toNat:Int)*16777216:=by rw[IntKind.wrap_i64];omega
 have p5:IntKind.i64.wrap ((c5.toNat:Int)*65536)=(c5.toNat:Int)*65536:=by rw[IntKind.wrap_i64];omega
 have p6:IntKind.i64.wrap ((c6.toNat:Int)*256)=(c6.toNat:Int)*256:=by rw[IntKind.wrap_i64];omega
 have v5:IntKind.i64.wrap ((c4.toNat:Int)*16777216+(c5.toNat:Int)*65536)=(c4.toNat:Int)*16777216+(c5.toNat:Int)*65536:=by rw[IntKind.wrap_i64];omega
 have v6:IntKind.i64.wrap ((c4.toNat:Int)*16777216+(c5.toNat:Int)*65536+(c6.toNat:Int)*256)=(c4.toNat:Int)*16777216+(c5.toNat:Int)*65536+(c6.toNat:Int)*256:=by rw[IntKind.wrap_i64];omega
 have v7:IntKind.i64.wrap ((c4.toNat:Int)*16777216+(c5.toNat:Int)*65536+(c6.toNat:Int)*256+(c7.toNat:Int))=(n:Int):=by rw[IntKind.wrap_i64];omega
 have HD:Hid (∀w,Calls Tryz.prog 120 #[.int .i64 (n:Int)] w fun e w'=>e = .returned (sv (hd n))∧Below w.heap.size w w'):=rhead_any n
 clear hn hX q4 q5 q6 q7 h4 k0 k1 k2 k3
 go_enter Tryz.func80, Tryz.ntmps80
 go_upto_region 1 with fail
 go_cut [3] (fun s3 wx=>s3 = .int .i64 (n:Int)∧Hid (Below w.heap.size w wx))
 case first =>
  clear HD G0 HX
  go_wp2_with fail
  go_region_with fail
  all_goals (go_wp2;go_meet)
  all_goals first
   | exact⟨rfl,(Below.refl _ _).drew⟩
   | exact⟨rfl,Below.refl _ _⟩
 case rest =>
  obtain⟨rfl,BW⟩:=hcut
  clear t4 t5 t6 t7 p4 p5 p6 v5 v6 v7 x4 x5 x6 x7
  by_cases a1:n < 1
  ·have g1:(n:Int) < 1:=by omega
   have E0:Hid (genr b=0):=by rw[G0.out,if_pos (.inl a1)];rfl
   clear G0 HD HX
   go_wp2
   go_ret
   exact⟨by rw[E0.out];rfl,BW.out⟩
  ·have g1:¬(n:Int) < 1:=by omega
   by_cases a2:2147483647 < n
   ·have g2:(2147483647:Int) < (n:Int):=by omega
    have E0:Hid (genr b=0):=by rw[G0.out,if_pos (.inr (.inl a2))];rfl
    clear G0 HD HX
    go_wp2
    go_ret
    exact⟨by rw[E0.out];rfl,BW.out⟩
   ·have g2:¬(2147483647:Int) < (n:Int):=by omega
    by_cases a3:b=hd n
    ·have E0:Hid (genr b=n):=by rw[G0.out,if_neg (by rintro (h|h|h);exact a1 h;exact a2 h;exact h a3)];rfl
     have HD2:Hid (∀w,Calls Tryz.prog 120 #[.int .i64 (n:Int)] w fun e w'=>e = .returned (.string X)∧Below w.heap.size w w'):=by
      have:=HD.out
      rw[←a3] at this
      rw[←HX.out]
      exact this
     clear G0 HD HX a3
     go_wp2_with fail
     refine Calls.mono (HD2.out _) ?_
     rintro e w1 ⟨rfl,hb⟩
     have B1:Hid _:=chain BW.out hb
     clear hb
     go_wp2
     go_ret
     exact⟨by rw[E0.out];rfl,B1.out⟩
    ·have E0:Hid (genr b=0):=by rw[G0.out,if_pos (.inr (.inr a3))];rfl
     obtain⟨Y,hY⟩:∃Y,st (hd n)=Y:=⟨_,rfl⟩
     have NE:(X.toList == Y.toList)=false:=by
      rw[beq_eq_false_iff_ne]
      intro c
      rw[ByteArray.toList_eq,ByteArray.toList_eq,←HX.out,←hY,st_data,st_data] at c
      exact a3 c
     unfold sv at HD
     rw[hY] at HD
     clear G0 HX a3 hY
     go_wp2_with fail
     refine Calls.mono (HD.out _) ?_
     rintro e w1 ⟨rfl,hb⟩
     have B1:Hid _:=chain BW.out hb
     clear hb
     go_wp2
     go_ret
     exact⟨by rw[E0.out];rfl,B1.out⟩
theorem syS_n (s:St):(syS s).n=s.n:=by
 unfold syS
 split
 ·rfl
 ·split <;> rfl
theorem wrs_n:∀(bs:List Bs) (s:St) (k:Nat),(wrs s k bs).2.n=s.n
 | [],_,_=>rfl
 | b::bs,s,k=>by
  rw[wrs]
  by_cases h:wrE s (k:Int) b=0
  ·rw[thn_ok h]
   exact (wrs_n bs _ _).trans (wrS_n s _ b)
  ·rw[thn_no h]
   exact wrS_n s _ b
theorem wrb_n (s:St) (k:Nat) (b:Bs):(wrb s k b).2.n=s.n:=wrs_n _ s k
theorem cls_n:∀(m:Nat) (s:St) (k:Nat) (d:Bool),(cls s k m d).2.n=s.n
 | 0,s,k,d=>by
  rw[cls]
  split
  ·exact syS_n s
  ·rfl
 | m+1,s,k,d=>by
  rw[cls]
  split
  ·exact cls_n m s _ d
  ·by_cases h:wrE s (k:Int) (zr 64)=0
   ·rw[thn_ok h]
    exact (cls_n m _ _ true).trans (wrS_n s _ _)
   ·rw[thn_no h]
    exact wrS_n s _ _
theorem cln_n (s:St) (k m:Nat):(cln s k m).2.n=s.n:=by
 unfold cln
 split
 ·rfl
 ·exact cls_n m s k false
structure Rb (w:World) (d:Nat) (G:Nat→Prop) (wr:World) (G':Nat→Prop) (s:St) (q h g:Nat) (v:Value) (ts:List Bs) (tk:Nat) (m:Bs):Prop where
 rd:Rd wr d G' s q h g v ts tk m
 nx:Nx w G G'
 bf:Bf G w wr
 new:∀z,HFt q v z→w.heap.size≤z
section
variable {w:World} {d:Nat} {G:Nat→Prop} {wr:World} {G':Nat→Prop} {s:St} {q h g:Nat} {v:Value} {ts:List Bs} {tk:Nat} {m:Bs}
theorem Rb.later (k:Rb w d G wr G' s q h g v ts tk m) {w':World} (hb:Below wr.heap.size wr w'):Rb w d G w' G' s q h g v ts tk m:=⟨k.rd.later hb,k.nx,k.bf.later hb,k.new⟩
theorem Rb.ds (k:Rb w d G wr G' s q h g v ts tk m) {w':World} {s':St} (x:DSt wr d G' s' w'):∃G'',Rb w d G w' G'' s' q h g v ts tk m:=by
 obtain⟨G2,x1,x2,x3⟩:=x
 exact⟨G2,k.rd.disk x1 x2 x3,k.nx.trans x2 k.bf.size,k.bf.trans k.nx x3,k.new⟩
theorem Rb.put (k:Rb w d G wr G' s q h g v ts tk m) {w':World} {G2:Nat→Prop} {s':St} {v':Value} {ts':List Bs} {tk':Nat} {m':Bs} (x:Rd w' d G2 s' q h g v' ts' tk' m') (n1:Nx wr G' G2) (n2:Nx wr (HFt q v) (HFt q v')) (b:Bf (FQ G' q v) wr w'):Rb w d G w' G2 s' q h g v' ts' tk' m':=by
 have hs:=k.bf.size
 refine⟨x,k.nx.trans n1 hs,k.bf.trans (fun y hy => ?_) b,fun z hz => ?_⟩
 ·rcases hy with e|e
  ·exact k.nx y e
  ·exact .inr (k.new y e)
 ·rcases n2 z hz with e|e
  ·exact k.new z e
  ·omega
theorem Rb.dw (k:Rb w d G wr G' s q h g v ts tk m):Dw w d G wr G' s:=⟨k.rd.at_,k.nx,k.bf⟩
end
def BgR (w:World) (d:Nat) (G:Nat→Prop) (h g:Nat) (ts:List Bs) (y:Int×St) (e:Ending) (w':World):Prop :=
 ∃pv G',e = .returned (.tuple #[pv,.int .i64 y.1])∧Dw w d G w' G' y.2∧(y.1=0→∃q v,pv = .pointer (some ⟨q,0,none⟩)∧Rb w d G w' G' y.2 q h g v ts (tkn 1 ts) (mks (hm g) ts))
theorem bgr_no {w:World} {d:Nat} {G:Nat→Prop} {h g:Nat} {ts:List Bs} {y:Int×St} {x:Int} {s':St} {G':Nat→Prop} {w':World} {pv:Value} (hy:y=(x,s')) (hx:x≠0) (k:Dw w d G w' G' s'):BgR w d G h g ts y (.returned (.tuple #[pv,.int .i64 x])) w':=by
 subst hy
 exact⟨pv,G',rfl,k,fun c=>absurd c hx⟩
theorem rb_new {w wr:World} {d:Nat} {G G':Nat→Prop} {s:St} (k:Dw w d G wr G' s) (h g:Nat) (m:Bs) :
  Rb w d G (wr.alloc (.cells #[.pointer (some ⟨d,0,none⟩),.int .i64 (h:Int),.int .i64 (g:Int),.slice none 0 0,sv m,.int .i64 ((1:Nat):Int)] 113)) G' s wr.heap.size h g (.slice none 0 0) [] 1 m:=by
 refine⟨⟨k.at_.later (nb _ _),⟨Blk.new wr (rc d h g (.slice none 0 0) m 1) _ (by simp),owns_nilS _,fun c=>by cases c⟩,fun x hx => ?_⟩,k.nx,k.bf.later (nb _ _),fun z hz => ?_⟩
 ·rcases hx with rfl|e
  ·exact fun c=>Nat.lt_irrefl _ (k.at_.lt c)
  ·cases e
 ·rcases hz with rfl|e
  ·exact k.bf.size
  ·cases e
def BgL (w:World) (d:Nat) (G:Nat→Prop) (q h g H:Nat) (ts:List Bs) (L N:Nat) (y:Int×St) (k:Nat) (wr:World):Prop :=
 ∃G' s' v',Rb w d G wr G' s' q h g v' (ts.take k) (tkn 1 (ts.take k)) (mks (hm g) (ts.take k))∧s'.n=N∧s'.l.length≤L+tkn 1 (ts.take k)∧y=thn (pts s' (h*H) (tkn 1 (ts.take k)) (mks (hm g) (ts.take k)) (ts.drop k)) (k2 (h*H) g)
theorem bgl_step {w:World} {d:Nat} {G:Nat→Prop} {q h g H:Nat} {ts:List Bs} {L N:Nat} {y:Int×St} {k:Nat} {wr:World} (b:BgL w d G q h g H ts L N y k wr) (hk:k < ts.length) (ht:ts[k].length≤2000) (h1:h≤1) (hN:N / 2=H) (hN2:N≤1024) (htk:tkn 1 ts≤1024) (hts:ts.length≤1000) (hL:L+1200≤1000000) :
  Calls Tryz.prog 95 #[.pointer (some ⟨q,0,none⟩),sv ts[k]] wr fun e w'=>∃x,e = .returned (.int .i64 x)∧(x=0∧BgL w d G q h g H ts L N y (k+1) w'∨x≠0∧∃G' s',y=(x,s')∧Dw w d G w' G' s'):=by
 obtain⟨G',s',v',r,hn,hl,hy⟩:=b
 have hm1:=tkn_mono ts k
 have hd:ts.drop k=ts[k]::ts.drop (k+1):=List.drop_eq_getElem_cons hk
 rw[hd,pts] at hy
 refine (rput_any d G' s' q h g v' (ts.take k) (tkn 1 (ts.take k)) (mks (hm g) (ts.take k)) ts[k] wr (mks_len _ _ rfl) ht h1 (by omega) (by omega) (by rw[List.length_take];omega) (by omega) r.rd).mono ?_
 rintro e w' ⟨he,G2,v2,hc,n1,n2,b2⟩
 rw[hn,hN] at he hc
 have hwl:=wrb_len s' (h*H+tkn 1 (ts.take k)) (rcd (mks (hm g) (ts.take k)) ts[k])
 have hwn:=wrb_n s' (h*H+tkn 1 (ts.take k)) (rcd (mks (hm g) (ts.take k)) ts[k])
 rw[rcd_len,show 64*sn ts[k] / 64=sn ts[k] by omega] at hwl
 refine⟨_,he,?_⟩
 have hput:∀{s2:St} {ts':List Bs} {tk':Nat} {m':Bs},Rd w' d G2 s2 q h g v2 ts' tk' m'→Rb w d G w' G2 s2 q h g v2 ts' tk' m':=fun x=>r.put x n1 n2 b2
 obtain⟨⟨x,s2⟩,hxx⟩:∃z,wrb s' (h*H+tkn 1 (ts.take k)) (rcd (mks (hm g) (ts.take k)) ts[k])=z:=⟨_,rfl⟩
 rw[hxx] at hc hy hwl hwn ⊢
 rcases hc with ⟨c0,c1⟩|⟨c0,c1⟩
 ·refine .inl ⟨c0,G2,s2,v2,?_,hwn.trans hn,?_,?_⟩
  ·rw[List.take_succ_eq_append_getElem hk,tkn_app,mks_app]
   exact hput c1
  ·rw[tkn_take ts k hk]
   have:s2.l.length≤s'.l.length+sn ts[k]:=hwl
   omega
  ·rw[hy,thn_ok c0,tkn_take ts k hk,mks_take _ ts k hk]
 ·refine .inr ⟨c0,G2,s2,?_,(hput c1).dw⟩
  rw[hy,thn_no c0,thn_no c0]
set_option maxHeartbeats 2000000 in
theorem rbegin_any (w:World) (d:Nat) (G:Nat→Prop) (s:St) (h g:Nat) (a:Option Addr) (k c:Nat) (ts:List Bs) (hk:ts.length=k) (hok:∀t∈ts,t.length≤2000) (hsn:1+sns ts≤s.n / 2) (h1:h≤1) (hn:s.n≤1024) (hdn:s.down=false) (hl:s.l.length+4000≤1000000) (D:Hid (DAt w d G s)) (tx:Hid (TxAt w a ts)) (ap:Hid (Ap a ts G)) :
  Calls Tryz.prog 81 #[.pointer (some ⟨d,0,none⟩),.int .i64 (h:Int),.int .i64 (g:Int),.slice a k c] w fun e w'=>BgR w d G h g ts (bgn s (h*(s.n / 2)) (s.n / 2) g ts) e w':=by
 have hs1:=sns_len ts
 have CL:Hid (Calls Tryz.prog 87 #[.pointer (some ⟨d,0,none⟩),.int .i64 (h:Int),.int .i64 0] w fun e w'=>e = .returned (.int .i64 (cln s (h*(s.n / 2)) (s.n / 2)).1)∧DSt w d G (cln s (h*(s.n / 2)) (s.n / 2)).2 w'):=rclean_any w d G s h 0 h1 hn (Nat.zero_le _) hdn (by omega) D
 have cl:=cln_len s (h*(s.n / 2)) (s.n / 2)
 have cn:=cln_n s (h*(s.n / 2)) (s.n / 2)
 have htk:tkn 1 ts≤512:=by rw[tkn_sns];omega
 obtain⟨y,hy⟩:∃y,bgn s (h*(s.n / 2)) (s.n / 2) g ts=y:=⟨_,rfl⟩
 rw[hy]
 rw[bgn_k1] at hy
 obtain⟨N,hN⟩:∃N,s.n=N:=⟨_,rfl⟩
 rw[hN] at CL cl cn hy hsn hn
 obtain⟨H,hH⟩:∃H,N / 2=H:=⟨_,rfl⟩
 rw[hH] at CL cl cn hy hsn
 obtain⟨⟨c1,s1⟩,hc1⟩:∃z,cln s (h*H) H=z:=⟨_,rfl⟩
 rw[hc1] at CL cl cn hy
 have cl':s1.l.length≤s.l.length+H:=cl
 have cn':s1.n=N:=cn
 have HY:Hid (thn (c1,s1) (k1 (h*H) g ts)=y):=hy
 have PL:Hid (∀W,Calls Tryz.prog 83 #[.int .i64 (g:Int)] W fun e w'=>e = .returned (.string (st (hf g)))∧Below W.heap.size W w'):=fun W=>rplain_any g W
 have MK:Hid (∀W,Calls Tryz.prog 82 #[.string (st (hf g))] W fun e w'=>e = .returned (.string (st (hm g)))∧Below W.heap.size W w'):=fun W=>rmark_any (hf g) (by rw[hf_len];decide) W
 have HF:Hid (∀W,Calls Tryz.prog 120 #[.int .i64 (g:Int)] W fun e w'=>e = .returned (.string (st (hd g)))∧Below W.heap.size W w'):=fun W=>rhead_any g W
 have HK:Hid (ts.length=k):=hk
 have HO:Hid (∀t∈ts,t.length≤2000):=hok
 have HTK:Hid (tkn 1 ts≤512):=htk
 have NEW:Hid (∀(W:World) (G':Nat→Prop),Dw w d G W G' s1→Rb w d G (W.alloc (.cells #[.pointer (some ⟨d,0,none⟩),.int .i64 (h:Int),.int .i64 (g:Int),.slice none 0 0,.string (st (hm g)),.int .i64 1] 113)) G' s1 W.heap.size h g (.slice none 0 0) [] 1 (hm g)):=fun W G' x=>rb_new x h g (hm g)
 obtain⟨P0,hP0⟩:∃x,st (hf g)=x:=⟨_,rfl⟩
 obtain⟨P1,hP1⟩:∃x,st (hm g)=x:=⟨_,rfl⟩
 obtain⟨P2,hP2⟩:∃x,st (hd g)=x:=⟨_,rfl⟩
 rw[hP0] at PL MK
 rw[hP1] at MK NEW
 rw[hP2] at HF
 have HP2:Hid (st (hd g)=P2):=hP2
 clear hP0 hP1 hP2 hy hc1 cl cn hk hok htk D hdn
 go_enter Tryz.func81, Tryz.ntmps81
 go_wp2_with fail
 refine Calls.mono CL.out ?_
 rintro e w1 ⟨rfl,G1,d1,n1,b1⟩
 have J1:Hid (Dw w d G w1 G1 s1):=⟨d1,n1,b1⟩
 clear d1 n1 b1 CL
 by_cases h0:c1=0
 ·subst h0
  have HY1:Hid (k1 (h*H) g ts s1=y):=by have:=HY.out;rw[thn_ok rfl] at this;exact this
  clear HY
  go_wp2_with fail
  refine Calls.mono (PL.out _) ?_
  rintro e w2 ⟨rfl,hb2⟩
  have J2:Hid _:=J1.out.later hb2
  clear hb2 J1 PL
  go_wp2_with fail
  refine Calls.mono (MK.out _) ?_
  rintro e w3 ⟨rfl,hb3⟩
  have J3:Hid _:=NEW.out w3 G1 (J2.out.later hb3)
  clear hb3 J2 MK NEW
  obtain⟨q,hq⟩:∃q,w3.heap.size=q:=⟨_,rfl⟩
  rw[hq] at J3
  have J4:Hid (BgL w d G q h g H ts s1.l.length N y 0 (w3.alloc (.cells #[.pointer (some ⟨d,0,none⟩),.int .i64 (h:Int),.int .i64 (g:Int),.slice none 0 0,.string P1,.int .i64 1] 113))):=⟨G1,s1,_,J3.out,cn',Nat.le_add_right _ _,HY1.out.symm⟩
  clear J3 HY1
  go_wp2
  obtain⟨W0,hW0⟩:∃W0,w3.alloc (.cells #[.pointer (some ⟨d,0,none⟩),.int .i64 (h:Int),.int .i64 (g:Int),.slice none 0 0,.string P1,.int .i64 1] 113)=W0:=⟨_,rfl⟩
  rw[hW0] at J4 ⊢
  clear hW0 hq
  go_loopw [12] (fun i wr=>∃j:Nat,j≤k∧i = .int .i64 (j:Int)∧Hid (BgL w d G q h g H ts s1.l.length N y j wr)) (fun i _=>k - (intOf i).toNat)
  case atStart=>exact⟨0,Nat.zero_le _,rfl,J4.out⟩
  case round =>
   obtain⟨j,hj,rfl,J⟩:=hrel
   clear J4
   by_cases hlt:j < k
   ·have g1:(j:Int) < (k:Int):=by omega
    have hjl:j < ts.length:=by rw[HK.out];exact hlt
    have TX2:TxAt wr a ts:=by
     obtain⟨G',s',v',r,-⟩:=J.out
     exact tx.out.bf r.bf ap.out
    obtain⟨b3,o3,rfl,c3⟩:=TX2 j hjl
    have PU:Hid _:=bgl_step J.out hjl (HO.out _ (List.getElem_mem hjl)) h1 hH hn (by have:=HTK.out;omega) (by have:=HK.out;omega) (by omega)
    unfold sv at PU c3
    obtain⟨T,hT⟩:∃T,st ts[j]=T:=⟨_,rfl⟩
    rw[hT] at PU c3
    clear hT TX2 J
    go_wp2_with fail
    refine Calls.mono PU.out ?_
    rintro e w4 ⟨x,rfl,hx⟩
    clear PU c3
    by_cases hx0:x=0
    ·have K:Hid (BgL w d G q h g H ts s1.l.length N y (j+1) w4):=by
      rcases hx with ⟨-,z⟩|⟨z,-⟩
      ·exact z
      ·exact absurd hx0 z
     subst hx0
     clear hx
     go_wp2
     go_roundw
     case rel=>exact⟨j+1,by omega,rfl,K.out⟩
     case measure=>simp[intOf];omega
    ·have K:Hid (∃G' s',y=(x,s')∧Dw w d G w4 G' s'):=by
      rcases hx with ⟨z,-⟩|⟨-,z⟩
      ·exact absurd z hx0
      ·exact z
     clear hx
     go_wp2
     go_ret2
     obtain⟨G',s',z1,z2⟩:=K.out
     exact bgr_no z1 hx0 z2
   ·have g1:¬(j:Int) < (k:Int):=by omega
    have hjk:ts.length≤j:=by rw[HK.out];omega
    obtain⟨G5,s5,v5,r5,n5,l5,y5⟩:=J.out
    rw[List.take_of_length_le hjk] at r5 l5 y5
    rw[List.drop_of_length_le hjk,pts,thn_ok rfl] at y5
    have J5:Hid (Rb w d G wr G5 s5 q h g v5 ts (tkn 1 ts) (mks (hm g) ts)):=r5
    have L5:s5.l.length+1000≤1000000:=by have:=HTK.out;omega
    have Y5:Hid (y=k2 (h*H) g s5):=y5
    have SY:Hid (Calls Tryz.prog 55 #[.pointer (some ⟨d,0,none⟩)] wr fun e w'=>e = .returned (.int .i64 (syE s5))∧∃G',Rb w d G w' G' (syS s5) q h g v5 ts (tkn 1 ts) (mks (hm g) ts)):=(rsync_any d G5 s5 wr r5.rd.at_ (by omega)).mono fun _ _ ⟨e1,e2⟩=>⟨e1,J5.out.ds e2⟩
    clear J r5 y5 l5 HO tx ap
    obtain⟨x6,hx6⟩:∃x,syE s5=x:=⟨_,rfl⟩
    have L6:(syS s5).l.length+1000≤1000000:=by have:=syS_len s5;omega
    have n6:(syS s5).n=N:=(syS_n s5).trans n5
    have Y6:Hid (y=thn (x6,syS s5) (k3 (h*H) g)):=by rw[←hx6];exact Y5.out
    rw[hx6] at SY
    obtain⟨s6,hs6⟩:∃x,syS s5=x:=⟨_,rfl⟩
    rw[hs6] at SY L6 n6 Y6
    clear hx6 hs6 Y5 J5 L5 n5
    go_wp2_with fail
    refine Calls.mono SY.out ?_
    rintro e w6 ⟨rfl,G6,r6⟩
    have J6:Hid _:=r6
    clear r6 SY
    by_cases hx0:x6=0
    ·subst hx0
     have Y7:Hid (y=k3 (h*H) g s6):=by have:=Y6.out;rw[thn_ok rfl] at this;exact this
     have HA:Hid (Calls Tryz.prog 79 #[.pointer (some ⟨d,0,none⟩)] w6 fun e w'=>e = .returned (.int .i64 (H:Int))∧w'=w6):=by
      have:=rhalf_any d G6 s6 w6 J6.out.rd.at_ (by omega)
      rw[n6,hH] at this
      exact this
     have hhH:h*H≤1024:=by
      rcases (by omega:h=0∨h=1) with e|e
      ·rw[e,Nat.zero_mul];omega
      ·rw[e,Nat.one_mul];omega
     have y1:IntKind.i64.wrap ((h:Int)*(H:Int))=((h*H:Nat):Int):=by rw[IntKind.wrap_i64,←Int.natCast_mul];omega
     have WR:Hid (∀W,Below w6.heap.size w6 W→Calls Tryz.prog 121 #[.pointer (some ⟨d,0,none⟩),.int .i64 ((h*H:Nat):Int),.string P2] W fun e w'=>e = .returned (.int .i64 (wrE s6 ((h*H:Nat):Int) (hd g)))∧∃G',Rb w d G w' G' (wrS s6 ((h*H:Nat):Int) (hd g)) q h g v5 ts (tkn 1 ts) (mks (hm g) ts)):=fun W hb=>by
      have:=rwrite_any d G6 s6 ((h*H:Nat):Int) P2 W (J6.out.later hb).rd.at_ (by omega)
      rw[←HP2.out,st_data] at this
      rw[←HP2.out]
      exact this.mono fun _ _ ⟨e1,e2⟩=>⟨e1,(J6.out.later hb).ds e2⟩
     have L7:(wrS s6 ((h*H:Nat):Int) (hd g)).l.length+900≤1000000:=by have:=wrS_len s6 ((h*H:Nat):Int) (hd g);omega
     have Y8:Hid (y=thn (wrE s6 ((h*H:Nat):Int) (hd g),wrS s6 ((h*H:Nat):Int) (hd g)) k4):=by rw[←wrb_one s6 (h*H) (hd g) (hd_len g)];exact Y7.out
     obtain⟨x7,hx7⟩:∃x,wrE s6 ((h*H:Nat):Int) (hd g)=x:=⟨_,rfl⟩
     obtain⟨s7,hs7⟩:∃x,wrS s6 ((h*H:Nat):Int) (hd g)=x:=⟨_,rfl⟩
     rw[hx7,hs7] at WR Y8
     rw[hs7] at L7
     obtain⟨z1,hz1⟩:∃z:Int,((h*H:Nat):Int)=z:=⟨_,rfl⟩
     rw[hz1] at y1 WR
     clear hx7 hs7 hz1 Y6 Y7 J6 L6 hhH
     go_wp2_with fail
     refine Calls.mono HA.out ?_
     rintro e w7 ⟨rfl,rfl⟩
     clear HA
     go_wp2_with fail
     refine Calls.mono (HF.out _) ?_
     rintro e w8 ⟨rfl,hb8⟩
     have WR8:Hid _:=WR.out w8 hb8
     clear hb8 WR HF
     go_wp2_with fail
     refine Calls.mono WR8.out ?_
     rintro e w9 ⟨rfl,G9,r9⟩
     have J9:Hid _:=r9
     clear r9 WR8
     by_cases hx0:x7=0
     ·subst hx0
      have Y9:Hid (y=(syE s7,syS s7)):=by have:=Y8.out;rw[thn_ok rfl,k4_eq] at this;exact this
      have SY:Hid (Calls Tryz.prog 55 #[.pointer (some ⟨d,0,none⟩)] w9 fun e w'=>e = .returned (.int .i64 (syE s7))∧∃G',Rb w d G w' G' (syS s7) q h g v5 ts (tkn 1 ts) (mks (hm g) ts)):=(rsync_any d G9 s7 w9 J9.out.rd.at_ (by omega)).mono fun _ _ ⟨e1,e2⟩=>⟨e1,J9.out.ds e2⟩
      obtain⟨x8,hx8⟩:∃x,syE s7=x:=⟨_,rfl⟩
      rw[hx8] at SY Y9
      clear hx8 Y8 J9
      go_wp2_with fail
      refine Calls.mono SY.out ?_
      rintro e w10 ⟨rfl,G10,r10⟩
      have J10:Hid _:=r10
      clear r10 SY
      go_wp2
      go_ret2
      refine⟨_,G10,by rw[Y9.out];rfl,by rw[Y9.out];exact J10.out.dw,fun _=>⟨q,v5,rfl,by rw[Y9.out];exact J10.out⟩⟩
     ·have Y9:Hid (y=(x7,s7)):=by have:=Y8.out;rw[thn_no hx0] at this;exact this
      go_wp2
      go_ret2
      exact bgr_no Y9.out hx0 J9.out.dw
    ·have Y7:Hid (y=(x6,s6)):=by have:=Y6.out;rw[thn_no hx0] at this;exact this
     go_wp2
     go_ret2
     exact bgr_no Y7.out hx0 J6.out.dw
 ·have Y1:Hid (y=(c1,s1)):=by have:=HY.out;rw[thn_no h0] at this;exact this.symm
  clear HY
  go_wp2
  go_ret2
  exact bgr_no Y1.out h0 J1.out
def BnP (w va:World) (p:Nat) (F:Nat→Prop) (fr mn g:Nat) (l:List Bs) (y:Int×St) (e:Ending) (w':World):Prop :=
 ∃F',Dl w w' p F' y.2∧Nx va F F'∧Bf F va w' ∧
  (y.1=0∧(∃v,e = .returned (.tuple #[hv p fr mn g v (tkn 1 l) (mks (hm g) l),.int .i64 0])∧OwnsS w' v l∧∀x,v.ownBlock=some x→va.heap.size≤x∧¬F' x)∨y.1≠0∧e = .returned (.tuple #[.agg hz0.toArray,.int .i64 y.1]))
theorem blk_at (w:World) (cs:List Value) (ty:TypeId) (hn:cs≠[]) (k:Nat) (hk:w.heap.size=k):Blk (w.alloc (.cells cs.toArray ty)) k cs:=by
 subst hk
 exact Blk.new w cs ty hn
theorem size1 (w:World) (o:Obj):(w.alloc o).heap.size=w.heap.size+1:=by simp
theorem begin_at (w va:World) (p:Nat) (F:Nat→Prop) (s:St) (fr mn g:Nat) (a:Option Addr) (n c:Nat) (l:List Bs) (y:Int×St) (h:Dl w va p F s) (hx:TxAt va a l) (ha:Ap a l F) (hl:s.l.length+2*mn+300≤1000000) (hy:y=thn (cln s fr mn) (k1 fr g l)) (t1 t2 t3 t4:TypeId) :
  BgP w va p F fr mn g a n c l (va.heap.size+1+1) (va.heap.size+1+1+1) (va.heap.size+1) s.n y 0 ((((va.alloc (.cells #[.pointer (some ⟨p,0,none⟩),.int .i64 (fr:Int),.int .i64 (mn:Int)] t1)).alloc (.cells hz0.toArray t2)).alloc (.cells (hc p fr mn g (.slice none 0 0) 0 [] [.slice a n c]).toArray t3)).alloc (.cells (fsv (va.heap.size+1+1) p fr mn).toArray t4)):=by
 obtain⟨v1,e1⟩:∃v1,va.alloc (.cells #[.pointer (some ⟨p,0,none⟩),.int .i64 (fr:Int),.int .i64 (mn:Int)] t1)=v1:=⟨_,rfl⟩
 have b1:Below va.heap.size va v1:=by rw[←e1];exact nb _ _
 have s1:v1.heap.size=va.heap.size+1:=by rw[←e1];exact size1 _ _
 rw[e1]
 obtain⟨v2,e2⟩:∃v2,v1.alloc (.cells hz0.toArray t2)=v2:=⟨_,rfl⟩
 have b2:Below v1.heap.size v1 v2:=by rw[←e2];exact nb _ _
 have s2:v2.heap.size=va.heap.size+1+1:=by rw[←e2,size1,s1]
 have r2:Blk v2 (va.heap.size+1) hz0:=by rw[←e2];exact blk_at v1 hz0 t2 (by simp) _ s1
 rw[e2]
 obtain⟨v3,e3⟩:∃v3,v2.alloc (.cells (hc p fr mn g (.slice none 0 0) 0 [] [.slice a n c]).toArray t3)=v3:=⟨_,rfl⟩
 have b3:Below v2.heap.size v2 v3:=by rw[←e3];exact nb _ _
 have s3:v3.heap.size=va.heap.size+1+1+1:=by rw[←e3,size1,s2]
 have r3:Blk v3 (va.heap.size+1+1) (hc p fr mn g (.slice none 0 0) 0 [] [.slice a n c]):=by rw[←e3];exact blk_at v2 _ t3 (by simp) _ s2
 rw[e3]
 obtain⟨v4,e4⟩:∃v4,v3.alloc (.cells (fsv (va.heap.size+1+1) p fr mn).toArray t4)=v4:=⟨_,rfl⟩
 have b4:Below v3.heap.size v3 v4:=by rw[←e4];exact nb _ _
 have r4:Blk v4 (va.heap.size+1+1+1) (fsv (va.heap.size+1+1) p fr mn):=by rw[←e4];exact blk_at v3 _ t4 (by simp[fsv]) _ s3
 rw[e4]
 clear e1 e2 e3 e4
 have bb:Below va.heap.size va v4:=chain (chain (chain b1 b2) b3) b4
 have lt:∀x,F x→x < va.heap.size:=fun x e=>h.at_.lt e
 have hh:∀x,HFt (va.heap.size+1+1) (.slice none 0 0) x→x=va.heap.size+1+1:=fun x e=>by
  rcases e with e|e
  ·exact e
  ·cases e
 refine⟨F,s,.slice none 0 0,[],0,[],⟨⟨h.later bb,⟨r3.later b4,owns_nilS _,nofun⟩,fun x e => ?_⟩,Nx.refl _ _,Bf.of bb,r4,(r2.later b3).later b4,hx.later bb,fun x e h0 d => ?_,by omega,by omega,by omega,by omega,by omega,fun e => ?_,fun e => ?_,nofun,nofun,nofun⟩,fun c=>absurd c (by decide),rfl,rfl,rfl,hl,hy⟩
 ·have:=hh x e
  subst this
  exact⟨fun d=>by have:=lt _ d;omega,by have:=h.below.size;omega⟩
 ·rcases d with d|d
  ·exact ha x e h0 d
  ·have h3:=hh _ d
   have:=hx.lt x e h0
   omega
 ·have:=lt _ e
  omega
 ·have:=lt _ e
  omega
set_option maxHeartbeats 4000000 in
theorem lbegin_any (w va:World) (p:Nat) (F:Nat→Prop) (s:St) (fr mn g:Nat) (a:Option Addr) (n c:Nat) (l:List Bs) (h1:1≤mn) (h2:fr+mn≤s.n) (hn:l.length=n) (ht:∀t∈l,t.length≤2000) (hs:tkn 1 l≤mn) (hl:s.l.length+2*mn+300≤1000000) (hk:Hid (Kh w)) (h:Hid (Dl w va p F s)) (hx:Hid (TxAt va a l)) (ha:Hid (Ap a l F)) :
  Calls Tryz.prog 65 #[plc p fr mn,.int .i64 (g:Int),.slice a n c] va fun e w'=>BnP w va p F fr mn g l (bgn s fr mn g l) e w':=by
 have hB:=h.out.at_.1.n2
 have BS:=begin_steps w va p F fr mn g a n c l (va.heap.size+1+1) (va.heap.size+1+1+1) (va.heap.size+1) s.n (bgn s fr mn g l) h1 h2 hB hn ht hs hk.out
 have HL:Hid (s.l.length+2*mn+300≤1000000):=hl
 have H9:Hid (w.heap.size≤va.heap.size):=h.out.below.size
 obtain⟨y,hy⟩:∃y,bgn s fr mn g l=y:=⟨_,rfl⟩
 have HY:Hid (y=thn (cln s fr mn) (k1 fr g l)):=hy.symm.trans (bgn_k1 s fr mn g l)
 rw[hy] at BS ⊢
 have BS':Hid _:=BS
 clear BS hy hn ht hs h1 h2 hB hl
 unfold plc
 go_enter Tryz.func65, Tryz.ntmps65
 go_wp2_with fail
 refine Calls.mono (BS'.out _ (begin_at w va p F s fr mn g a n c l y h.out hx.out ha.out HL.out HY.out _ _ _ _)) ?_
 rintro e w1 ⟨x,rfl,hst⟩
 by_cases h0:x=0
 ·subst h0
  have J:Hid (BgP w va p F fr mn g a n c l (va.heap.size+1+1) (va.heap.size+1+1+1) (va.heap.size+1) s.n y 5 w1):=by
   rcases hst with ⟨-,k⟩|⟨k,-⟩
   ·exact k
   ·exact absurd rfl k
  clear hst BS' h hx ha HY HL
  obtain⟨F',s',v',ts',tk',m',hq,hf,hy⟩:=J.out
  obtain⟨e1,e2,e3⟩:=hf (by decide)
  rw[e1,e2,e3] at hq
  have HQ:Hid (Bq w va p F fr mn g a n c l _ _ _ w1 F' s' v' l _ _):=hq
  have HY:Hid (y=(0,s')):=hy
  clear hq hf hy J e1 e2 e3
  obtain⟨xa,xn,xc,rfl⟩:=owns_sliceS HQ.out.hd.hf.row
  obtain⟨tk,htk⟩:∃tk,tkn 1 l=tk:=⟨_,rfl⟩
  obtain⟨m,hmm⟩:∃m,mks (hm g) l=m:=⟨_,rfl⟩
  have HTM:Hid (tkn 1 l=tk∧mks (hm g) l=m):=⟨htk,hmm⟩
  rw[htk,hmm] at HQ
  clear htk hmm
  have k0:=HQ.out.hd.hf.bk.c 0 _ rfl
  have k1:=HQ.out.hd.hf.bk.c 1 _ rfl
  have k2:=HQ.out.hd.hf.bk.c 2 _ rfl
  have k3:=HQ.out.hd.hf.bk.c 3 _ rfl
  have k4:=HQ.out.hd.hf.bk.c 4 _ rfl
  have k5:=HQ.out.hd.hf.bk.c 5 _ rfl
  have k6:=HQ.out.hd.hf.bk.c 6 _ rfl
  have z0:=HQ.out.br.c 0 _ rfl
  have z1:=HQ.out.br.c 1 _ rfl
  have z2:=HQ.out.br.c 2 _ rfl
  have z3:=HQ.out.br.c 3 _ rfl
  have z4:=HQ.out.br.c 4 _ rfl
  have z5:=HQ.out.br.c 5 _ rfl
  have z6:=HQ.out.br.c 6 _ rfl
  have zf:=HQ.out.br.f
  have hne:=HQ.out.qR
  have FI:Hid (Blk (w1.setCells (va.heap.size+1) 0 (hc p fr mn g (.slice xa xn xc) tk m [])) (va.heap.size+1) (hc p fr mn g (.slice xa xn xc) tk m [])∧BnP w va p F fr mn g l y (.returned (.tuple #[hv p fr mn g (.slice xa xn xc) tk m,.int .i64 0])) (w1.setCells (va.heap.size+1) 0 (hc p fr mn g (.slice xa xn xc) tk m []))):=by
   have ho:∀x,x≠va.heap.size+1→(w1.setCells (va.heap.size+1) 0 (hc p fr mn g (.slice xa xn xc) tk m [])).heap[x]?=w1.heap[x]?:=fun x e=>setCells_other w1 _ 0 _ x e
   have hbf:Bf (fun x=>x=va.heap.size+1) w1 (w1.setCells (va.heap.size+1) 0 (hc p fr mn g (.slice xa xn xc) tk m [])):=Bf.sets (fun x=>x=va.heap.size+1) _ rfl _ _ _
   refine⟨HQ.out.br.put _ rfl,F',?_,HQ.out.nx,?_,.inl ⟨by rw[HY.out],.slice xa xn xc,by rw[HTM.out.1,HTM.out.2],?_,fun x e=>⟨HQ.out.nv x e,(HQ.out.hd.ap x (.inr e)).1⟩⟩⟩
   ·rw[HY.out]
    exact⟨HQ.out.hd.dl.at_.other hbf (fun x e d=>HQ.out.fR (by rw[←d];exact e)),HQ.out.hd.dl.new,below_sets (by have:=HQ.out.bf.size;have:=HQ.out.hd.dl.below.size;have:=HQ.out.nR;have h9:=H9.out;omega) _ 0 HQ.out.hd.dl.below⟩
   ·exact HQ.out.bf.trans (fun x e => .inr (by rw[e];exact Nat.le_succ _)) hbf
   ·exact ownsRow_same HQ.out.hd.hf.row (fun x e=>ho x (fun d=>HQ.out.vR (by rw[e,d])))
  clear HQ HY HTM
  go_wp2
  refine bodyPost_ret (v := .tuple #[hv p fr mn g (.slice xa xn xc) tk m,.int .i64 0]) ?_ rfl FI.out.2
  exact res_c2 Tryz.results65 _ _ (va.heap.size+1) _ _ (by kernel_rfl) (by kernel_rfl) (run_loadVar_mid _ (va.heap.size+1) 0 130 (hc p fr mn g (.slice xa xn xc) tk m []) _ FI.out.1.r Tryz.underlying130 rfl (by kernel_rfl))
 ·have J:Hid (BgE w va p F (va.heap.size+1) y x w1):=by
   rcases hst with ⟨k,-⟩|⟨-,k⟩
   ·exact absurd k h0
   ·exact k
  clear hst BS' h hx ha HY HL
  obtain⟨F',hr0⟩:∃F',Dl w w1 p F' y.2∧Nx va F F'∧Bf F va w1∧Blk w1 (va.heap.size+1) hz0∧¬F' (va.heap.size+1):=J.out.2
  have hr:Dl w w1 p F' y.2∧Nx va F F'∧Bf F va w1∧Blk w1 (va.heap.size+1) hz0:=⟨hr0.1,hr0.2.1,hr0.2.2.1,hr0.2.2.2.1⟩
  have FR:Hid (¬F' (va.heap.size+1)):=hr0.2.2.2.2
  clear hr0
  have z0:=hr.2.2.2.c 0 _ rfl
  have z1:=hr.2.2.2.c 1 _ rfl
  have z2:=hr.2.2.2.c 2 _ rfl
  have z3:=hr.2.2.2.c 3 _ rfl
  have z4:=hr.2.2.2.c 4 _ rfl
  have z5:=hr.2.2.2.c 5 _ rfl
  have z6:=hr.2.2.2.c 6 _ rfl
  have zf:=hr.2.2.2.f
  have FI:Hid (Blk (w1.setCells (va.heap.size+1) 0 hz0) (va.heap.size+1) hz0∧BnP w va p F fr mn g l y (.returned (.tuple #[.agg hz0.toArray,.int .i64 x])) (w1.setCells (va.heap.size+1) 0 hz0)):=by
   have hbf:Bf (fun x=>x=va.heap.size+1) w1 (w1.setCells (va.heap.size+1) 0 hz0):=Bf.sets (fun x=>x=va.heap.size+1) _ rfl _ _ _
   have hR:¬F' (va.heap.size+1):=FR.out
   refine⟨hr.2.2.2.put _ rfl,F',?_,hr.2.1,?_,.inr ⟨by rw[J.out.1];exact h0,by rw[J.out.1]⟩⟩
   ·exact⟨hr.1.at_.other hbf (fun x e d=>hR (by rw[←d];exact e)),hr.1.new,below_sets (by have h9:=H9.out;omega) _ 0 hr.1.below⟩
   ·exact hr.2.2.1.trans (fun x e => .inr (by rw[e];exact Nat.le_succ _)) hbf
  clear hr J
  go_wp2
  refine bodyPost_ret (v := .tuple #[.agg hz0.toArray,.int .i64 x]) ?_ rfl FI.out.2
  exact res_c2 Tryz.results65 _ _ (va.heap.size+1) _ _ (by kernel_rfl) (by kernel_rfl) (run_loadVar_mid _ (va.heap.size+1) 0 130 hz0 _ FI.out.1.r Tryz.underlying130 rfl (by kernel_rfl))
end Go.Proofs.YtjpaodepnacimaaGreatDoor
