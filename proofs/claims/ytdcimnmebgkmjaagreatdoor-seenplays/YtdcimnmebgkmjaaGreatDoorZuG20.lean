/- Parts: LgX,LgW. -/
import Derived.Test.YtdcimnmebgkmjaaGreatDoorZuG19
namespace Go.Proofs.YtdcimnmebgkmjaaGreatDoor
open Go.RowKit Go.Proofs.Fd Go.Proofs.Dk Go.Proofs.Lg
set_option maxRecDepth 20000
def BnP (w va:World) (p:Nat) (F:Nat→Prop) (fr mn g:Nat) (l:List Bs) (y:Int×St) (e:Ending) (w':World):Prop :=
 ∃F',Dl w w' p F' y.2∧Nx va F F'∧Bf F va w' ∧
  (y.1=0∧(∃v,e = .returned (.tuple #[hv p fr mn g v (tkn 1 l) (mks (hm g) l),.int .i64 0])∧OwnsS w' v l∧∀x,v.ownBlock=some x→va.heap.size≤x∧¬F' x)∨y.1≠0∧e = .returned (.tuple #[.agg hz0.toArray,.int .i64 y.1]))
theorem blk_at (w:World) (cs:List Value) (ty:TypeId) (hn:cs≠[]) (k:Nat) (hk:w.heap.size=k):Blk (w.alloc (.cells cs.toArray ty)) k cs:=by
 subst hk
 exact Blk.new w cs ty hn
theorem size1 (w:World) (o:Obj):(w.alloc o).heap.size=w.heap.size+1:=by simp
theorem begin_at (w va:World) (p:Nat) (F:Nat→Prop) (s:St) (fr mn g:Nat) (a:Option Addr) (n c:Nat) (l:List Bs) (y:Int×St) (h:Dl w va p F s) (hx:TxAt va a l) (ha:Ap a l F) (hl:s.l.length+2*mn+300≤1000000) (hy:y=thn (cln s fr mn) (k1 fr g l)) (t1 t2 t3 t4:TypeId) :
  BgP w va p F fr mn g a n c l (va.heap.size+1+1) (va.heap.size+1+1+1) (va.heap.size+1) s.n y 0 ((((va.alloc (.cells #[.pointer (some ⟨p,0,none⟩),.int .i64 (fr:Int),.int .i64 (mn:Int)] t1)).alloc (.cells hz0.toArray t2)).alloc (.cells (hc p fr mn g (.slice none 0 0) 0 [] [.slice a n c]).toArray t3)).alloc (.cells (fsv (va.heap.size+1+1) p fr mn).toArray t4)):=by
 obtain⟨v1,e1⟩:∃v1,va.alloc (.cells #[.pointer (some ⟨p,0,none⟩),.int .i64 (fr:Int),.int .i64 (mn:Int)] t1)=v1:=⟨_,rfl⟩
 have b1:Below va.heap.size va v1:=by rw[←e1];exact nb _ _
 have s1:v1.heap.size=va.heap.size+1:=by rw[←e1];exact size1 _ _
 rw[e1]
 obtain⟨v2,e2⟩:∃v2,v1.alloc (.cells hz0.toArray t2)=v2:=⟨_,rfl⟩
 have b2:Below v1.heap.size v1 v2:=by rw[←e2];exact nb _ _
 have s2:v2.heap.size=va.heap.size+1+1:=by rw[←e2,size1,s1]
 have r2:Blk v2 (va.heap.size+1) hz0:=by rw[←e2];exact blk_at v1 hz0 t2 (by simp) _ s1
 rw[e2]
 obtain⟨v3,e3⟩:∃v3,v2.alloc (.cells (hc p fr mn g (.slice none 0 0) 0 [] [.slice a n c]).toArray t3)=v3:=⟨_,rfl⟩
 have b3:Below v2.heap.size v2 v3:=by rw[←e3];exact nb _ _
 have s3:v3.heap.size=va.heap.size+1+1+1:=by rw[←e3,size1,s2]
 have r3:Blk v3 (va.heap.size+1+1) (hc p fr mn g (.slice none 0 0) 0 [] [.slice a n c]):=by rw[←e3];exact blk_at v2 _ t3 (by simp) _ s2
 rw[e3]
 obtain⟨v4,e4⟩:∃v4,v3.alloc (.cells (fsv (va.heap.size+1+1) p fr mn).toArray t4)=v4:=⟨_,rfl⟩
 have b4:Below v3.heap.size v3 v4:=by rw[←e4];exact nb _ _
 have r4:Blk v4 (va.heap.size+1+1+1) (fsv (va.heap.size+1+1) p fr mn):=by rw[←e4];exact blk_at v3 _ t4 (by simp[fsv]) _ s3
 rw[e4]
 clear e1 e2 e3 e4
 have bb:Below va.heap.size va v4:=chain (chain (chain b1 b2) b3) b4
 have lt:∀x,F x→x < va.heap.size:=fun x e=>h.at_.lt e
 have hh:∀x,HFt (va.heap.size+1+1) (.slice none 0 0) x→x=va.heap.size+1+1:=fun x e=>by
  rcases e with e|e
  ·exact e
  ·cases e
 refine⟨F,s,.slice none 0 0,[],0,[],⟨⟨h.later bb,⟨r3.later b4,owns_nilS _,nofun⟩,fun x e => ?_⟩,Nx.refl _ _,Bf.of bb,r4,(r2.later b3).later b4,hx.later bb,fun x e h0 d => ?_,by omega,by omega,by omega,by omega,by omega,fun e => ?_,fun e => ?_,nofun,nofun,nofun⟩,fun c=>absurd c (by decide),rfl,rfl,rfl,hl,hy⟩
 ·have:=hh x e
  subst this
  exact⟨fun d=>by have:=lt _ d;omega,by have:=h.below.size;omega⟩
 ·rcases d with d|d
  ·exact ha x e h0 d
  ·have h3:=hh _ d
   have:=hx.lt x e h0
   omega
 ·have:=lt _ e
  omega
 ·have:=lt _ e
  omega
set_option maxHeartbeats 4000000 in
theorem lbegin_any (w va:World) (p:Nat) (F:Nat→Prop) (s:St) (fr mn g:Nat) (a:Option Addr) (n c:Nat) (l:List Bs) (h1:1≤mn) (h2:fr+mn≤s.n) (hn:l.length=n) (ht:∀t∈l,t.length≤2000) (hs:tkn 1 l≤mn) (hl:s.l.length+2*mn+300≤1000000) (hk:Hid (Kh w)) (h:Hid (Dl w va p F s)) (hx:Hid (TxAt va a l)) (ha:Hid (Ap a l F)) :
  Calls Tryz.prog 56 #[plc p fr mn,.int .i64 (g:Int),.slice a n c] va fun e w'=>BnP w va p F fr mn g l (bgn s fr mn g l) e w':=by
 have hB:=h.out.at_.1.n2
 have BS:=begin_steps w va p F fr mn g a n c l (va.heap.size+1+1) (va.heap.size+1+1+1) (va.heap.size+1) s.n (bgn s fr mn g l) h1 h2 hB hn ht hs hk.out
 have HL:Hid (s.l.length+2*mn+300≤1000000):=hl
 have H9:Hid (w.heap.size≤va.heap.size):=h.out.below.size
 obtain⟨y,hy⟩:∃y,bgn s fr mn g l=y:=⟨_,rfl⟩
 have HY:Hid (y=thn (cln s fr mn) (k1 fr g l)):=hy.symm.trans (bgn_k1 s fr mn g l)
 rw[hy] at BS ⊢
 have BS':Hid _:=BS
 clear BS hy hn ht hs h1 h2 hB hl
 unfold plc
 go_enter Tryz.func56, Tryz.ntmps56
 go_wp2_with fail
 refine Calls.mono (BS'.out _ (begin_at w va p F s fr mn g a n c l y h.out hx.out ha.out HL.out HY.out _ _ _ _)) ?_
 rintro e w1 ⟨x,rfl,hst⟩
 by_cases h0:x=0
 ·subst h0
  have J:Hid (BgP w va p F fr mn g a n c l (va.heap.size+1+1) (va.heap.size+1+1+1) (va.heap.size+1) s.n y 5 w1):=by
   rcases hst with ⟨-,k⟩|⟨k,-⟩
   ·exact k
   ·exact absurd rfl k
  clear hst BS' h hx ha HY HL
  obtain⟨F',s',v',ts',tk',m',hq,hf,hy⟩:=J.out
  obtain⟨e1,e2,e3⟩:=hf (by decide)
  rw[e1,e2,e3] at hq
  have HQ:Hid (Bq w va p F fr mn g a n c l _ _ _ w1 F' s' v' l _ _):=hq
  have HY:Hid (y=(0,s')):=hy
  clear hq hf hy J e1 e2 e3
  obtain⟨xa,xn,xc,rfl⟩:=owns_sliceS HQ.out.hd.hf.row
  obtain⟨tk,htk⟩:∃tk,tkn 1 l=tk:=⟨_,rfl⟩
  obtain⟨m,hmm⟩:∃m,mks (hm g) l=m:=⟨_,rfl⟩
  have HTM:Hid (tkn 1 l=tk∧mks (hm g) l=m):=⟨htk,hmm⟩
  rw[htk,hmm] at HQ
  clear htk hmm
  have k0:=HQ.out.hd.hf.bk.c 0 _ rfl
  have k1:=HQ.out.hd.hf.bk.c 1 _ rfl
  have k2:=HQ.out.hd.hf.bk.c 2 _ rfl
  have k3:=HQ.out.hd.hf.bk.c 3 _ rfl
  have k4:=HQ.out.hd.hf.bk.c 4 _ rfl
  have k5:=HQ.out.hd.hf.bk.c 5 _ rfl
  have k6:=HQ.out.hd.hf.bk.c 6 _ rfl
  have z0:=HQ.out.br.c 0 _ rfl
  have z1:=HQ.out.br.c 1 _ rfl
  have z2:=HQ.out.br.c 2 _ rfl
  have z3:=HQ.out.br.c 3 _ rfl
  have z4:=HQ.out.br.c 4 _ rfl
  have z5:=HQ.out.br.c 5 _ rfl
  have z6:=HQ.out.br.c 6 _ rfl
  have zf:=HQ.out.br.f
  have hne:=HQ.out.qR
  have FI:Hid (Blk (w1.setCells (va.heap.size+1) 0 (hc p fr mn g (.slice xa xn xc) tk m [])) (va.heap.size+1) (hc p fr mn g (.slice xa xn xc) tk m [])∧BnP w va p F fr mn g l y (.returned (.tuple #[hv p fr mn g (.slice xa xn xc) tk m,.int .i64 0])) (w1.setCells (va.heap.size+1) 0 (hc p fr mn g (.slice xa xn xc) tk m []))):=by
   have ho:∀x,x≠va.heap.size+1→(w1.setCells (va.heap.size+1) 0 (hc p fr mn g (.slice xa xn xc) tk m [])).heap[x]?=w1.heap[x]?:=fun x e=>setCells_other w1 _ 0 _ x e
   have hbf:Bf (fun x=>x=va.heap.size+1) w1 (w1.setCells (va.heap.size+1) 0 (hc p fr mn g (.slice xa xn xc) tk m [])):=Bf.sets (fun x=>x=va.heap.size+1) _ rfl _ _ _
   refine⟨HQ.out.br.put _ rfl,F',?_,HQ.out.nx,?_,.inl ⟨by rw[HY.out],.slice xa xn xc,by rw[HTM.out.1,HTM.out.2],?_,fun x e=>⟨HQ.out.nv x e,(HQ.out.hd.ap x (.inr e)).1⟩⟩⟩
   ·rw[HY.out]
    exact⟨HQ.out.hd.dl.at_.other hbf (fun x e d=>HQ.out.fR (by rw[←d];exact e)),HQ.out.hd.dl.new,below_sets (by have:=HQ.out.bf.size;have:=HQ.out.hd.dl.below.size;have:=HQ.out.nR;have h9:=H9.out;omega) _ 0 HQ.out.hd.dl.below⟩
   ·exact HQ.out.bf.trans (fun x e => .inr (by rw[e];exact Nat.le_succ _)) hbf
   ·exact ownsRow_same HQ.out.hd.hf.row (fun x e=>ho x (fun d=>HQ.out.vR (by rw[e,d])))
  clear HQ HY HTM
  go_wp2
  refine bodyPost_ret (v := .tuple #[hv p fr mn g (.slice xa xn xc) tk m,.int .i64 0]) ?_ rfl FI.out.2
  exact res_c2 Tryz.results56 _ _ (va.heap.size+1) _ _ (by kernel_rfl) (by kernel_rfl) (run_loadVar_mid _ (va.heap.size+1) 0 104 (hc p fr mn g (.slice xa xn xc) tk m []) _ FI.out.1.r Tryz.underlying104 rfl (by kernel_rfl))
 ·have J:Hid (BgE w va p F (va.heap.size+1) y x w1):=by
   rcases hst with ⟨k,-⟩|⟨-,k⟩
   ·exact absurd k h0
   ·exact k
  clear hst BS' h hx ha HY HL
  obtain⟨F',hr0⟩:∃F',Dl w w1 p F' y.2∧Nx va F F'∧Bf F va w1∧Blk w1 (va.heap.size+1) hz0∧¬F' (va.heap.size+1):=J.out.2
  have hr:Dl w w1 p F' y.2∧Nx va F F'∧Bf F va w1∧Blk w1 (va.heap.size+1) hz0:=⟨hr0.1,hr0.2.1,hr0.2.2.1,hr0.2.2.2.1⟩
  have FR:Hid (¬F' (va.heap.size+1)):=hr0.2.2.2.2
  clear hr0
  have z0:=hr.2.2.2.c 0 _ rfl
  have z1:=hr.2.2.2.c 1 _ rfl
  have z2:=hr.2.2.2.c 2 _ rfl
  have z3:=hr.2.2.2.c 3 _ rfl
  have z4:=hr.2.2.2.c 4 _ rfl
  have z5:=hr.2.2.2.c 5 _ rfl
  have z6:=hr.2.2.2.c 6 _ rfl
  have zf:=hr.2.2.2.f
  have FI:Hid (Blk (w1.setCells (va.heap.size+1) 0 hz0) (va.heap.size+1) hz0∧BnP w va p F fr mn g l y (.returned (.tuple #[.agg hz0.toArray,.int .i64 x])) (w1.setCells (va.heap.size+1) 0 hz0)):=by
   have hbf:Bf (fun x=>x=va.heap.size+1) w1 (w1.setCells (va.heap.size+1) 0 hz0):=Bf.sets (fun x=>x=va.heap.size+1) _ rfl _ _ _
   have hR:¬F' (va.heap.size+1):=FR.out
   refine⟨hr.2.2.2.put _ rfl,F',?_,hr.2.1,?_,.inr ⟨by rw[J.out.1];exact h0,by rw[J.out.1]⟩⟩
   ·exact⟨hr.1.at_.other hbf (fun x e d=>hR (by rw[←d];exact e)),hr.1.new,below_sets (by have h9:=H9.out;omega) _ 0 hr.1.below⟩
   ·exact hr.2.2.1.trans (fun x e => .inr (by rw[e];exact Nat.le_succ _)) hbf
  clear hr J
  go_wp2
  refine bodyPost_ret (v := .tuple #[.agg hz0.toArray,.int .i64 x]) ?_ rfl FI.out.2
  exact res_c2 Tryz.results56 _ _ (va.heap.size+1) _ _ (by kernel_rfl) (by kernel_rfl) (run_loadVar_mid _ (va.heap.size+1) 0 104 hz0 _ FI.out.1.r Tryz.underlying104 rfl (by kernel_rfl))
end Go.Proofs.YtdcimnmebgkmjaaGreatDoor
namespace Go.Proofs.YtdcimnmebgkmjaaGreatDoor
open Go.RowKit Go.Proofs.Fd Go.Proofs.Dk Go.Proofs.Lg
set_option maxRecDepth 20000
abbrev hq7 (pp:Option Addr) (i1 i2 i3:Int) (xa:Option Addr) (xn xc:Nat) (i5:Int) (s6:ByteArray):List Value:=[.pointer pp,.int .i64 i1,.int .i64 i2,.int .i64 i3,.slice xa xn xc,.int .i64 i5,.string s6]
abbrev pl6 (p mn:Nat):List Value:=[.pointer (some ⟨p,0,none⟩),.int .i64 0,.int .i64 (mn:Int),.pointer (some ⟨p,0,none⟩),.int .i64 (mn:Int),.int .i64 (mn:Int)]
structure Oi (va:World) (p mn:Nat) (pp:Option Addr) (i1 i2 i3:Int) (i5:Int) (s6:ByteArray) (tl:List Bs) (B H:Nat) (xa:Option Addr) (xn xc:Nat) (wx:World):Prop where
 bk:Blk wx H (hq7 pp i1 i2 i3 xa xn xc i5 s6)
 row:OwnsS wx (.slice xa xn xc) tl
 bl:Below va.heap.size va wx
 nH:va.heap.size≤H
 vH:(Value.slice xa xn xc).ownBlock≠some H
 nv:∀y,(Value.slice xa xn xc).ownBlock=some y→va.heap.size≤y
 b1:Blk wx B [.pointer (some ⟨p,0,none⟩),.int .i64 0,.int .i64 (mn:Int)]
 nB:va.heap.size≤B
 BH:B≠H
theorem oi_new {va:World} {p mn:Nat} {pp:Option Addr} {i1 i2 i3:Int} {i5:Int} {s6:ByteArray} {tl:List Bs} {B:Nat} {xa:Option Addr} {xn xc:Nat} {w2:World} (ty:TypeId) (r:OwnsS w2 (.slice xa xn xc) tl) (bl:Below va.heap.size va w2) (nv:∀y,(Value.slice xa xn xc).ownBlock=some y→va.heap.size≤y) (b1:Blk w2 B [.pointer (some ⟨p,0,none⟩),.int .i64 0,.int .i64 (mn:Int)]) (nB:va.heap.size≤B) :
  Oi va p mn pp i1 i2 i3 i5 s6 tl B w2.heap.size xa xn xc (w2.alloc (.cells #[.pointer pp,.int .i64 i1,.int .i64 i2,.int .i64 i3,.slice xa xn xc,.int .i64 i5,.string s6] ty)) :=
 ⟨Blk.new w2 _ _ (by simp),ownsRow_same r (fun x e=>(nb w2 _).block x (r.lt x e).2),chain bl (nb _ _),bl.size,fun e=>Nat.lt_irrefl _ (r.lt _ e).2,nv,b1.later (nb _ _),nB,fun e=>by have:=b1.lt;omega⟩
theorem oi_old {va:World} {p mn:Nat} {pp:Option Addr} {i1 i2 i3:Int} {i5:Int} {s6:ByteArray} {tl:List Bs} {B H:Nat} {xa:Option Addr} {xn xc:Nat} {W w2:World} (r:OwnsS w2 (.slice xa xn xc) tl) (bl:Below va.heap.size va w2) (nW:∀y,(Value.slice xa xn xc).ownBlock=some y→W.heap.size≤y) (sW:va.heap.size≤W.heap.size) (b1:Blk w2 B [.pointer (some ⟨p,0,none⟩),.int .i64 0,.int .i64 (mn:Int)]) (nB:va.heap.size≤B) (bh:Blk w2 H hz0) (hH:H < W.heap.size) (nH:va.heap.size≤H) (hBH:B≠H) :
  Oi va p mn pp i1 i2 i3 i5 s6 tl B H xa xn xc (w2.setCells H 0 (hq7 pp i1 i2 i3 xa xn xc i5 s6)):=by
 have hv:(Value.slice xa xn xc).ownBlock≠some H:=fun e=>by have:=nW _ e;omega
 exact⟨bh.put _ rfl,ownsRow_same r (fun x e=>setCells_other w2 H 0 _ x (fun d=>hv (by rw[e,d]))),below_sets nH _ 0 bl,nH,hv,fun y e=>by have:=nW y e;omega,b1.same (setCells_other w2 H 0 _ B hBH),nB,hBH⟩
def olw0:Oper:={ dst:=some 19,op:=Go.Op.load 102 (Go.Operand.tmp 5),type := 102, pos := "log.go:32", after:=#[],guard:=none }
def olw1:Oper:={ dst:=some 20,op:=Go.Op.load 102 (Go.Operand.tmp 5),type := 102, pos := "log.go:32", after:=#[],guard:=none }
def olw2:Oper:={ dst:=some 21,op:=Go.Op.call { callee:=Go.Callee.value (Go.Operand.func 55),args:=#[Go.Operand.tmp 20],argTypes:=#[102] },type := 102, pos := "log.go:32", after:=#[{ on:=1,ground:=Go.Ground.data }],guard:=none }
def olw3:Oper:={ dst:=some 22,op:=Go.Op.buildSlice 129 2 #[(0,Go.Operand.tmp 19),(1,Go.Operand.tmp 21)],type := 129, pos := "log.go:32", after:=#[{ on:=0,ground:=Go.Ground.data },{ on:=2,ground:=Go.Ground.data }],guard:=none }
def olw4:Oper:={ dst:=some 23,op:=Go.Op.call { callee:=Go.Callee.value (Go.Operand.func 54),args:=#[Go.Operand.tmp 22],argTypes:=#[129] },type := 105, pos := "log.go:32", after:=#[{ on:=3,ground:=Go.Ground.data },{ on:=2,ground:=Go.Ground.chain }],guard:=none }
def olw5:Oper:={ dst:=some 18,op:=Go.Op.move (Go.Operand.tmp 23),type := 105, pos := "log.go:32", after:=#[{ on:=4,ground:=Go.Ground.data }],guard:=none }
def olw6:Oper:={ dst:=some 24,op:=Go.Op.extract (Go.Operand.tmp 18) 0,type := 104, pos := "log.go:32", after:=#[{ on:=5,ground:=Go.Ground.data }],guard:=none }
def olw7:Oper:={ dst:=some 25,op:=Go.Op.extract (Go.Operand.tmp 18) 1,type := 24, pos := "log.go:32", after:=#[{ on:=5,ground:=Go.Ground.data },{ on:=9,ground:=Go.Ground.gcOnly Go.Departure.lateStores }],guard:=none }
def olw8:Oper:={ dst:=some 6,op:=Go.Op.alloc 104, type:=0,pos := "log.go:32", after:=#[],guard:=none }
def olw9:Oper:={ dst:=none,op:=Go.Op.store 104 (Go.Operand.tmp 6) (Go.Operand.tmp 24),type:=0,pos := "log.go:32", after:=#[{ on:=8,ground:=Go.Ground.data },{ on:=6,ground:=Go.Ground.data },{ on:=4,ground:=Go.Ground.chain },{ on:=0,ground:=Go.Ground.phase },{ on:=1,ground:=Go.Ground.phase },{ on:=2,ground:=Go.Ground.phase },{ on:=3,ground:=Go.Ground.phase },{ on:=4,ground:=Go.Ground.phase },{ on:=5,ground:=Go.Ground.phase },{ on:=6,ground:=Go.Ground.phase },{ on:=7,ground:=Go.Ground.textOnly Go.Departure.lateStores },{ on:=8,ground:=Go.Ground.phase }],guard:=none }
def olw10:Oper:={ dst:=some 7,op:=Go.Op.assign (Go.Operand.tmp 25),type := 24, pos := "log.go:32", after:=#[{ on:=7,ground:=Go.Ground.data },{ on:=9,ground:=Go.Ground.chain },{ on:=0,ground:=Go.Ground.phase },{ on:=1,ground:=Go.Ground.phase },{ on:=2,ground:=Go.Ground.phase },{ on:=3,ground:=Go.Ground.phase },{ on:=4,ground:=Go.Ground.phase },{ on:=5,ground:=Go.Ground.phase },{ on:=6,ground:=Go.Ground.phase },{ on:=7,ground:=Go.Ground.phase },{ on:=8,ground:=Go.Ground.phase },{ on:=9,ground:=Go.Ground.phase }],guard:=none }
theorem keep3 {w:World} {B H:Nat} {x0 x1 x2 y0 y1 y2 y3 y4 y5 y6:Value} (hne:B≠H) (h:w.cell? ⟨B,0,none⟩=some x0∧w.cell? ⟨B,1,none⟩=some x1∧w.cell? ⟨B,2,none⟩=some x2) :
  (w.setCells H 0 [y0,y1,y2,y3,y4,y5,y6]).cell? ⟨B,0,none⟩=some x0∧(w.setCells H 0 [y0,y1,y2,y3,y4,y5,y6]).cell? ⟨B,1,none⟩=some x1∧(w.setCells H 0 [y0,y1,y2,y3,y4,y5,y6]).cell? ⟨B,2,none⟩=some x2:=by
 have hs:=setCells_other w H 0 [y0,y1,y2,y3,y4,y5,y6] B hne
 exact⟨(World.cell?_of_block (a:=⟨B,0,none⟩) hs).trans h.1,(World.cell?_of_block (a:=⟨B,1,none⟩) hs).trans h.2.1,(World.cell?_of_block (a:=⟨B,2,none⟩) hs).trans h.2.2⟩
set_option maxHeartbeats 4000000 in
theorem open_region (p mn:Nat) (pp:Option Addr) (i1 i2 i3:Int) (i5:Int) (s6:ByteArray) (tl:List Bs) (x:Int) (va W:World) (B:Nat) (hW:Hid (Below va.heap.size va W∧Blk W B [.pointer (some ⟨p,0,none⟩),.int .i64 0,.int .i64 (mn:Int)]∧va.heap.size≤B))
  (OT:Hid (∀w,Calls Tryz.prog 55 #[.agg #[.pointer (some ⟨p,0,none⟩),.int .i64 0,.int .i64 (mn:Int)]] w fun e w'=>e = .returned (.agg #[.pointer (some ⟨p,0,none⟩),.int .i64 (mn:Int),.int .i64 (mn:Int)])∧Below w.heap.size w w'))
  (IU:Hid (∀V P,Below va.heap.size va V→Blk V P (pl6 p mn)→Calls Tryz.prog 54 #[.slice (some ⟨P,0,none⟩) 2 2] V fun e w'=>∃xa xn xc,e = .returned (.tuple #[.agg #[.pointer pp,.int .i64 i1,.int .i64 i2,.int .i64 i3,.slice xa xn xc,.int .i64 i5,.string s6],.int .i64 x])∧OwnsS w' (.slice xa xn xc) tl∧(∀y,(Value.slice xa xn xc).ownBlock=some y→V.heap.size≤y)∧Below V.heap.size V w'))
  (a8 a9 a10 a11 a12 a13 a14 a15 a16 a17:Value) (Q:Exit→Act→World→Prop)
  (hQ:Hid (∀(H:Nat) (xa:Option Addr) (xn xc:Nat) (wx:World) (u18 u19 u20 u21 u22 u23 u24 u25:Value),Oi va p mn pp i1 i2 i3 i5 s6 tl B H xa xn xc wx→Q .normal { tmps:=#[.pointer (some ⟨p,0,none⟩),undef,.pointer none,.int .i64 0,.int .i64 (mn:Int),.pointer (some ⟨B,0,none⟩),.pointer (some ⟨H,0,none⟩),.int .i64 x,a8,a9,a10,a11,a12,a13,a14,a15,a16,a17,u18,u19,u20,u21,u22,u23,u24,u25,undef,undef,undef,undef,undef,undef,undef,undef,undef,undef,undef,undef,undef,undef,undef,undef,undef,undef],defers:=[] } wx)) :
  (Code.region 7 #[olw0,olw1,olw2,olw3,olw4,olw5,olw6,olw7,olw8,olw9,olw10] true).wp Tryz.prog Q { tmps:=#[.pointer (some ⟨p,0,none⟩),undef,.pointer none,.int .i64 0,.int .i64 (mn:Int),.pointer (some ⟨B,0,none⟩),undef,undef,a8,a9,a10,a11,a12,a13,a14,a15,a16,a17,undef,undef,undef,undef,undef,undef,undef,undef,undef,undef,undef,undef,undef,undef,undef,undef,undef,undef,undef,undef,undef,undef,undef,undef,undef,undef],defers:=[] } W:=by
 have b0:=hW.out.2.1.c 0 _ rfl
 have b1:=hW.out.2.1.c 1 _ rfl
 have b2:=hW.out.2.1.c 2 _ rfl
 refine wp_region_noPanic ?_
 refine wp_region_held_drew (S:=fun w'=>w'.cell? ⟨B,0,none⟩=some (.pointer (some ⟨p,0,none⟩))∧w'.cell? ⟨B,1,none⟩=some (.int .i64 0)∧w'.cell? ⟨B,2,none⟩=some (.int .i64 (mn:Int))) (by kernel_rfl) (⟨b0,b1,b2⟩) (fun hHeld => ?_)
 obtain⟨Z,hZ⟩:∃Z,W.drew=Z:=⟨_,rfl⟩
 have hz:Hid (Below va.heap.size va Z∧Blk Z B [.pointer (some ⟨p,0,none⟩),.int .i64 0,.int .i64 (mn:Int)]∧va.heap.size≤B):=by
  rw[←hZ]
  exact⟨hW.out.1.drew,hW.out.2.1.drew,hW.out.2.2⟩
 rw[hZ] at hHeld ⊢
 clear hZ b0 b1 b2 hW
 refine wpAnyH_take (i:=0) (oi:=olw0) (v := ?_) rfl (by kernel_rfl) (by kernel_rfl) (by kernel_rfl) (fun _ _ _ h=>h) (Or.inl ⟨by rfl,?_⟩) (by assumption) ?_
 rotate_left
 ·intro w' hSw
  obtain⟨s0,s1,s2⟩:=hSw
  unfold olw0
  first
  | (go_simp;done)
  | (go_simp;with_reducible rfl)
 simp only[olw0,Act.put,List.setIfInBounds_toArray,List.set_cons_zero,List.set_cons_succ]
 refine wpAnyH_take (i:=1) (oi:=olw1) (v := ?_) rfl (by kernel_rfl) (by kernel_rfl) (by kernel_rfl) (fun _ _ _ h=>h) (Or.inl ⟨by rfl,?_⟩) (by assumption) ?_
 rotate_left
 ·intro w' hSw
  obtain⟨s0,s1,s2⟩:=hSw
  unfold olw1
  first
  | (go_simp;done)
  | (go_simp;with_reducible rfl)
 simp only[olw1,Act.put,List.setIfInBounds_toArray,List.set_cons_zero,List.set_cons_succ]
 refine wpAnyH_ready (rs:=[2,8]) (by kernel_rfl) (by simp) ?_
 refine AllReadyH.cons (o:=olw2) rfl (fun KK hKK => ?_) (AllReadyH.cons (o:=olw8) rfl (fun KK hKK => ?_) AllReadyH.nil)
 ·unfold olw2
  go_simp
  refine Calls.mono (OT.out _) ?_
  rintro e w1 ⟨rfl,hb1⟩
  have sz1:=hb1.size
  have bl1:=chain hz.out.1 hb1
  have bb1:=hz.out.2.1.later hb1
  refine hKK.out _ _ ⟨cell_later hb1 hHeld.1,cell_later hb1 hHeld.2.1,cell_later hb1 hHeld.2.2⟩ (fun hHeld1 => ?_)
  clear hKK KK
  refine wpAnyH_ready (rs:=[3,8]) (by kernel_rfl) (by simp) ?_
  refine AllReadyH.cons (o:=olw3) rfl (fun KK hKK => ?_) (AllReadyH.cons (o:=olw8) rfl (fun KK hKK => ?_) AllReadyH.nil)
  ·unfold olw3
   go_simp
   have nw2:Blk (w1.alloc (.cells #[.pointer (some ⟨p,0,none⟩),.int .i64 0,.int .i64 (mn:Int),.pointer (some ⟨p,0,none⟩),.int .i64 (mn:Int),.int .i64 (mn:Int)] 102)) (w1.heap.size) (pl6 p mn):=blk_at w1 (pl6 p mn) _ (by simp) _ (by simp)
   have bl2:=chain bl1 (nb w1 (.cells #[.pointer (some ⟨p,0,none⟩),.int .i64 0,.int .i64 (mn:Int),.pointer (some ⟨p,0,none⟩),.int .i64 (mn:Int),.int .i64 (mn:Int)] 102))
   have bb2:=bb1.later (nb w1 (.cells #[.pointer (some ⟨p,0,none⟩),.int .i64 0,.int .i64 (mn:Int),.pointer (some ⟨p,0,none⟩),.int .i64 (mn:Int),.int .i64 (mn:Int)] 102))
   refine hKK.out _ _ ⟨cell_alloc hHeld1.1,cell_alloc hHeld1.2.1,cell_alloc hHeld1.2.2⟩ (fun hHeld2 => ?_)
   clear hKK KK
   refine wpAnyH_ready (rs:=[4,8]) (by kernel_rfl) (by simp) ?_
   refine AllReadyH.cons (o:=olw4) rfl (fun KK hKK => ?_) (AllReadyH.cons (o:=olw8) rfl (fun KK hKK => ?_) AllReadyH.nil)
   ·unfold olw4
    go_simp
    refine Calls.mono (IU.out (w1.alloc (.cells #[.pointer (some ⟨p,0,none⟩),.int .i64 0,.int .i64 (mn:Int),.pointer (some ⟨p,0,none⟩),.int .i64 (mn:Int),.int .i64 (mn:Int)] 102)) (w1.heap.size) bl2 nw2) ?_
    rintro e w3 ⟨xa,xn,xc,rfl,r3,nv3,hb3⟩
    have bl3:=chain bl2 hb3
    have bb3:=bb2.later hb3
    have bs3:=bl2.size
    refine hKK.out _ _ ⟨cell_later hb3 hHeld2.1,cell_later hb3 hHeld2.2.1,cell_later hb3 hHeld2.2.2⟩ (fun hHeld3 => ?_)
    clear hKK KK
    refine wpAnyH_take (i:=5) (oi:=olw5) (v := ?_) rfl (by kernel_rfl) (by kernel_rfl) (by kernel_rfl) (fun _ _ _ h=>h) (Or.inl ⟨by rfl,?_⟩) (by assumption) ?_
    rotate_left
    ·intro w' hSw
     clear hSw
     unfold olw5
     first
     | (go_simp;done)
     | (go_simp;with_reducible rfl)
    simp only[olw5,Act.put,List.setIfInBounds_toArray,List.set_cons_zero,List.set_cons_succ]
    refine wpAnyH_take (i:=6) (oi:=olw6) (v := ?_) rfl (by kernel_rfl) (by kernel_rfl) (by kernel_rfl) (fun _ _ _ h=>h) (Or.inl ⟨by rfl,?_⟩) (by assumption) ?_
    rotate_left
    ·intro w' hSw
     clear hSw
     unfold olw6
     first
     | (go_simp;done)
     | (go_simp;with_reducible rfl)
    simp only[olw6,Act.put,List.setIfInBounds_toArray,List.set_cons_zero,List.set_cons_succ]
    refine wpAnyH_take (i:=7) (oi:=olw7) (v := ?_) rfl (by kernel_rfl) (by kernel_rfl) (by kernel_rfl) (fun _ _ _ h=>h) (Or.inl ⟨by rfl,?_⟩) (by assumption) ?_
    rotate_left
    ·intro w' hSw
     clear hSw
     unfold olw7
     first
     | (go_simp;done)
     | (go_simp;with_reducible rfl)
    simp only[olw7,Act.put,List.setIfInBounds_toArray,List.set_cons_zero,List.set_cons_succ]
    refine wpAnyH_ready (rs:=[8]) (by kernel_rfl) (by simp) ?_
    refine AllReadyH.cons (o:=olw8) rfl (fun KK hKK => ?_) AllReadyH.nil
    unfold olw8
    go_simp
    have nw4:Blk (w3.alloc (.cells #[.pointer none,.int .i64 0,.int .i64 0,.int .i64 0,.slice none 0 0,.int .i64 0,.string ⟨#[]⟩] 104)) (w3.heap.size) hz0:=blk_at w3 hz0 _ (by simp) _ (by simp)
    have bl4:=chain bl3 (nb w3 (.cells #[.pointer none,.int .i64 0,.int .i64 0,.int .i64 0,.slice none 0 0,.int .i64 0,.string ⟨#[]⟩] 104))
    have bb4:=bb3.later (nb w3 (.cells #[.pointer none,.int .i64 0,.int .i64 0,.int .i64 0,.slice none 0 0,.int .i64 0,.string ⟨#[]⟩] 104))
    refine hKK.out _ _ ⟨cell_alloc hHeld3.1,cell_alloc hHeld3.2.1,cell_alloc hHeld3.2.2⟩ (fun hHeld4 => ?_)
    clear hKK KK
    refine wpAnyH_ready (rs:=[9]) (by kernel_rfl) (by simp) ?_
    refine AllReadyH.cons (o:=olw9) rfl (fun KK hKK => ?_) AllReadyH.nil
    have FI:Hid _:=oi_new (va:=va) (p:=p) (mn:=mn) (pp:=pp) (i1:=i1) (i2:=i2) (i3:=i3) (i5:=i5) (s6:=s6) (B:=B) 104 r3 bl3 (fun y e=>Nat.le_trans bs3 (nv3 y e)) bb3 hz.out.2.2
    unfold olw9
    go_simp
    refine hKK.out _ _ ⟨cell_alloc hHeld3.1,cell_alloc hHeld3.2.1,cell_alloc hHeld3.2.2⟩ (fun hHeld5 => ?_)
    clear hKK KK
    refine wpAnyH_take (i:=10) (oi:=olw10) (v := ?_) rfl (by kernel_rfl) (by kernel_rfl) (by kernel_rfl) (fun _ _ _ h=>h) (Or.inl ⟨by rfl,?_⟩) (by assumption) ?_
    rotate_left
    ·intro w' hSw
     clear hSw
     unfold olw10
     first
     | (go_simp;done)
     | (go_simp;with_reducible rfl)
    simp only[olw10,Act.put,List.setIfInBounds_toArray,List.set_cons_zero,List.set_cons_succ]
    refine wpAnyH_done (by kernel_rfl) ?_ _
    refine NoPanic.normal ?_
    exact hQ.out _ _ _ _ _ _ _ _ _ _ _ _ _ FI.out
   ·unfold olw8
    go_simp
    have nw3:Blk ((w1.alloc (.cells #[.pointer (some ⟨p,0,none⟩),.int .i64 0,.int .i64 (mn:Int),.pointer (some ⟨p,0,none⟩),.int .i64 (mn:Int),.int .i64 (mn:Int)] 102)).alloc (.cells #[.pointer none,.int .i64 0,.int .i64 0,.int .i64 0,.slice none 0 0,.int .i64 0,.string ⟨#[]⟩] 104)) (w1.heap.size+1) hz0:=blk_at (w1.alloc (.cells #[.pointer (some ⟨p,0,none⟩),.int .i64 0,.int .i64 (mn:Int),.pointer (some ⟨p,0,none⟩),.int .i64 (mn:Int),.int .i64 (mn:Int)] 102)) hz0 _ (by simp) _ (by simp)
    have bl3:=chain bl2 (nb (w1.alloc (.cells #[.pointer (some ⟨p,0,none⟩),.int .i64 0,.int .i64 (mn:Int),.pointer (some ⟨p,0,none⟩),.int .i64 (mn:Int),.int .i64 (mn:Int)] 102)) (.cells #[.pointer none,.int .i64 0,.int .i64 0,.int .i64 0,.slice none 0 0,.int .i64 0,.string ⟨#[]⟩] 104))
    have bb3:=bb2.later (nb (w1.alloc (.cells #[.pointer (some ⟨p,0,none⟩),.int .i64 0,.int .i64 (mn:Int),.pointer (some ⟨p,0,none⟩),.int .i64 (mn:Int),.int .i64 (mn:Int)] 102)) (.cells #[.pointer none,.int .i64 0,.int .i64 0,.int .i64 0,.slice none 0 0,.int .i64 0,.string ⟨#[]⟩] 104))
    have bp3:=nw2.later (nb (w1.alloc (.cells #[.pointer (some ⟨p,0,none⟩),.int .i64 0,.int .i64 (mn:Int),.pointer (some ⟨p,0,none⟩),.int .i64 (mn:Int),.int .i64 (mn:Int)] 102)) (.cells #[.pointer none,.int .i64 0,.int .i64 0,.int .i64 0,.slice none 0 0,.int .i64 0,.string ⟨#[]⟩] 104))
    refine hKK.out _ _ ⟨cell_alloc hHeld2.1,cell_alloc hHeld2.2.1,cell_alloc hHeld2.2.2⟩ (fun hHeld3 => ?_)
    clear hKK KK
    refine wpAnyH_ready (rs:=[4]) (by kernel_rfl) (by simp) ?_
    refine AllReadyH.cons (o:=olw4) rfl (fun KK hKK => ?_) AllReadyH.nil
    unfold olw4
    go_simp
    refine Calls.mono (IU.out ((w1.alloc (.cells #[.pointer (some ⟨p,0,none⟩),.int .i64 0,.int .i64 (mn:Int),.pointer (some ⟨p,0,none⟩),.int .i64 (mn:Int),.int .i64 (mn:Int)] 102)).alloc (.cells #[.pointer none,.int .i64 0,.int .i64 0,.int .i64 0,.slice none 0 0,.int .i64 0,.string ⟨#[]⟩] 104)) (w1.heap.size) bl3 bp3) ?_
    rintro e w4 ⟨xa,xn,xc,rfl,r4,nv4,hb4⟩
    have bl4:=chain bl3 hb4
    have bb4:=bb3.later hb4
    have hlt:=nw3.lt
    have hqs:=bl3.size
    have bh4:=nw3.later hb4
    have bs4:=bl3.size
    refine hKK.out _ _ ⟨cell_later hb4 hHeld3.1,cell_later hb4 hHeld3.2.1,cell_later hb4 hHeld3.2.2⟩ (fun hHeld4 => ?_)
    clear hKK KK
    refine wpAnyH_take (i:=5) (oi:=olw5) (v := ?_) rfl (by kernel_rfl) (by kernel_rfl) (by kernel_rfl) (fun _ _ _ h=>h) (Or.inl ⟨by rfl,?_⟩) (by assumption) ?_
    rotate_left
    ·intro w' hSw
     clear hSw
     unfold olw5
     first
     | (go_simp;done)
     | (go_simp;with_reducible rfl)
    simp only[olw5,Act.put,List.setIfInBounds_toArray,List.set_cons_zero,List.set_cons_succ]
    refine wpAnyH_take (i:=6) (oi:=olw6) (v := ?_) rfl (by kernel_rfl) (by kernel_rfl) (by kernel_rfl) (fun _ _ _ h=>h) (Or.inl ⟨by rfl,?_⟩) (by assumption) ?_
    rotate_left
    ·intro w' hSw
     clear hSw
     unfold olw6
     first
     | (go_simp;done)
     | (go_simp;with_reducible rfl)
    simp only[olw6,Act.put,List.setIfInBounds_toArray,List.set_cons_zero,List.set_cons_succ]
    refine wpAnyH_take (i:=7) (oi:=olw7) (v := ?_) rfl (by kernel_rfl) (by kernel_rfl) (by kernel_rfl) (fun _ _ _ h=>h) (Or.inl ⟨by rfl,?_⟩) (by assumption) ?_
    rotate_left
    ·intro w' hSw
     clear hSw
     unfold olw7
     first
     | (go_simp;done)
     | (go_simp;with_reducible rfl)
    simp only[olw7,Act.put,List.setIfInBounds_toArray,List.set_cons_zero,List.set_cons_succ]
    refine wpAnyH_ready (rs:=[9]) (by kernel_rfl) (by simp) ?_
    refine AllReadyH.cons (o:=olw9) rfl (fun KK hKK => ?_) AllReadyH.nil
    have z0:=bh4.c 0 _ rfl
    have z1:=bh4.c 1 _ rfl
    have z2:=bh4.c 2 _ rfl
    have z3:=bh4.c 3 _ rfl
    have z4:=bh4.c 4 _ rfl
    have z5:=bh4.c 5 _ rfl
    have z6:=bh4.c 6 _ rfl
    have zf:=bh4.f
    have hne:B≠w1.heap.size+1:=fun e=>by have:=hz.out.2.1.lt;omega
    have FI:Hid _:=oi_old (va:=va) (p:=p) (mn:=mn) (pp:=pp) (i1:=i1) (i2:=i2) (i3:=i3) (i5:=i5) (s6:=s6) (B:=B) (H:=w1.heap.size+1) (W:=((w1.alloc (.cells #[.pointer (some ⟨p,0,none⟩),.int .i64 0,.int .i64 (mn:Int),.pointer (some ⟨p,0,none⟩),.int .i64 (mn:Int),.int .i64 (mn:Int)] 102)).alloc (.cells #[.pointer none,.int .i64 0,.int .i64 0,.int .i64 0,.slice none 0 0,.int .i64 0,.string ⟨#[]⟩] 104))) r4 bl4 nv4 hqs bb4 hz.out.2.2 bh4 hlt (by have:=hz.out.2.1.lt;have:=hz.out.2.2;omega) hne
    unfold olw9
    go_simp
    refine hKK.out _ _ (keep3 hne hHeld4) (fun hHeld5 => ?_)
    clear hKK KK z0 z1 z2 z3 z4 z5 z6 zf
    refine wpAnyH_take (i:=10) (oi:=olw10) (v := ?_) rfl (by kernel_rfl) (by kernel_rfl) (by kernel_rfl) (fun _ _ _ h=>h) (Or.inl ⟨by rfl,?_⟩) (by assumption) ?_
    rotate_left
    ·intro w' hSw
     clear hSw
     unfold olw10
     first
     | (go_simp;done)
     | (go_simp;with_reducible rfl)
    simp only[olw10,Act.put,List.setIfInBounds_toArray,List.set_cons_zero,List.set_cons_succ]
    refine wpAnyH_done (by kernel_rfl) ?_ _
    refine NoPanic.normal ?_
    exact hQ.out _ _ _ _ _ _ _ _ _ _ _ _ _ FI.out
  ·unfold olw8
   go_simp
   have nw2:Blk (w1.alloc (.cells #[.pointer none,.int .i64 0,.int .i64 0,.int .i64 0,.slice none 0 0,.int .i64 0,.string ⟨#[]⟩] 104)) (w1.heap.size) hz0:=blk_at w1 hz0 _ (by simp) _ (by simp)
   have bl2:=chain bl1 (nb w1 (.cells #[.pointer none,.int .i64 0,.int .i64 0,.int .i64 0,.slice none 0 0,.int .i64 0,.string ⟨#[]⟩] 104))
   have bb2:=bb1.later (nb w1 (.cells #[.pointer none,.int .i64 0,.int .i64 0,.int .i64 0,.slice none 0 0,.int .i64 0,.string ⟨#[]⟩] 104))
   refine hKK.out _ _ ⟨cell_alloc hHeld1.1,cell_alloc hHeld1.2.1,cell_alloc hHeld1.2.2⟩ (fun hHeld2 => ?_)
   clear hKK KK
   refine wpAnyH_ready (rs:=[3]) (by kernel_rfl) (by simp) ?_
   refine AllReadyH.cons (o:=olw3) rfl (fun KK hKK => ?_) AllReadyH.nil
   unfold olw3
   go_simp
   have nw3:Blk ((w1.alloc (.cells #[.pointer none,.int .i64 0,.int .i64 0,.int .i64 0,.slice none 0 0,.int .i64 0,.string ⟨#[]⟩] 104)).alloc (.cells #[.pointer (some ⟨p,0,none⟩),.int .i64 0,.int .i64 (mn:Int),.pointer (some ⟨p,0,none⟩),.int .i64 (mn:Int),.int .i64 (mn:Int)] 102)) (w1.heap.size+1) (pl6 p mn):=blk_at (w1.alloc (.cells #[.pointer none,.int .i64 0,.int .i64 0,.int .i64 0,.slice none 0 0,.int .i64 0,.string ⟨#[]⟩] 104)) (pl6 p mn) _ (by simp) _ (by simp)
   have bl3:=chain bl2 (nb (w1.alloc (.cells #[.pointer none,.int .i64 0,.int .i64 0,.int .i64 0,.slice none 0 0,.int .i64 0,.string ⟨#[]⟩] 104)) (.cells #[.pointer (some ⟨p,0,none⟩),.int .i64 0,.int .i64 (mn:Int),.pointer (some ⟨p,0,none⟩),.int .i64 (mn:Int),.int .i64 (mn:Int)] 102))
   have bb3:=bb2.later (nb (w1.alloc (.cells #[.pointer none,.int .i64 0,.int .i64 0,.int .i64 0,.slice none 0 0,.int .i64 0,.string ⟨#[]⟩] 104)) (.cells #[.pointer (some ⟨p,0,none⟩),.int .i64 0,.int .i64 (mn:Int),.pointer (some ⟨p,0,none⟩),.int .i64 (mn:Int),.int .i64 (mn:Int)] 102))
   have bh3:=nw2.later (nb (w1.alloc (.cells #[.pointer none,.int .i64 0,.int .i64 0,.int .i64 0,.slice none 0 0,.int .i64 0,.string ⟨#[]⟩] 104)) (.cells #[.pointer (some ⟨p,0,none⟩),.int .i64 0,.int .i64 (mn:Int),.pointer (some ⟨p,0,none⟩),.int .i64 (mn:Int),.int .i64 (mn:Int)] 102))
   refine hKK.out _ _ ⟨cell_alloc hHeld2.1,cell_alloc hHeld2.2.1,cell_alloc hHeld2.2.2⟩ (fun hHeld3 => ?_)
   clear hKK KK
   refine wpAnyH_ready (rs:=[4]) (by kernel_rfl) (by simp) ?_
   refine AllReadyH.cons (o:=olw4) rfl (fun KK hKK => ?_) AllReadyH.nil
   unfold olw4
   go_simp
   refine Calls.mono (IU.out ((w1.alloc (.cells #[.pointer none,.int .i64 0,.int .i64 0,.int .i64 0,.slice none 0 0,.int .i64 0,.string ⟨#[]⟩] 104)).alloc (.cells #[.pointer (some ⟨p,0,none⟩),.int .i64 0,.int .i64 (mn:Int),.pointer (some ⟨p,0,none⟩),.int .i64 (mn:Int),.int .i64 (mn:Int)] 102)) (w1.heap.size+1) bl3 nw3) ?_
   rintro e w4 ⟨xa,xn,xc,rfl,r4,nv4,hb4⟩
   have bl4:=chain bl3 hb4
   have bb4:=bb3.later hb4
   have hlt:=bh3.lt
   have hqs:=bl3.size
   have bh4:=bh3.later hb4
   have bs4:=bl3.size
   refine hKK.out _ _ ⟨cell_later hb4 hHeld3.1,cell_later hb4 hHeld3.2.1,cell_later hb4 hHeld3.2.2⟩ (fun hHeld4 => ?_)
   clear hKK KK
   refine wpAnyH_take (i:=5) (oi:=olw5) (v := ?_) rfl (by kernel_rfl) (by kernel_rfl) (by kernel_rfl) (fun _ _ _ h=>h) (Or.inl ⟨by rfl,?_⟩) (by assumption) ?_
   rotate_left
   ·intro w' hSw
    clear hSw
    unfold olw5
    first
    | (go_simp;done)
    | (go_simp;with_reducible rfl)
   simp only[olw5,Act.put,List.setIfInBounds_toArray,List.set_cons_zero,List.set_cons_succ]
   refine wpAnyH_take (i:=6) (oi:=olw6) (v := ?_) rfl (by kernel_rfl) (by kernel_rfl) (by kernel_rfl) (fun _ _ _ h=>h) (Or.inl ⟨by rfl,?_⟩) (by assumption) ?_
   rotate_left
   ·intro w' hSw
    clear hSw
    unfold olw6
    first
    | (go_simp;done)
    | (go_simp;with_reducible rfl)
   simp only[olw6,Act.put,List.setIfInBounds_toArray,List.set_cons_zero,List.set_cons_succ]
   refine wpAnyH_take (i:=7) (oi:=olw7) (v := ?_) rfl (by kernel_rfl) (by kernel_rfl) (by kernel_rfl) (fun _ _ _ h=>h) (Or.inl ⟨by rfl,?_⟩) (by assumption) ?_
   rotate_left
   ·intro w' hSw
    clear hSw
    unfold olw7
    first
    | (go_simp;done)
    | (go_simp;with_reducible rfl)
   simp only[olw7,Act.put,List.setIfInBounds_toArray,List.set_cons_zero,List.set_cons_succ]
   refine wpAnyH_ready (rs:=[9]) (by kernel_rfl) (by simp) ?_
   refine AllReadyH.cons (o:=olw9) rfl (fun KK hKK => ?_) AllReadyH.nil
   have z0:=bh4.c 0 _ rfl
   have z1:=bh4.c 1 _ rfl
   have z2:=bh4.c 2 _ rfl
   have z3:=bh4.c 3 _ rfl
   have z4:=bh4.c 4 _ rfl
   have z5:=bh4.c 5 _ rfl
   have z6:=bh4.c 6 _ rfl
   have zf:=bh4.f
   have hne:B≠w1.heap.size:=fun e=>by have:=hz.out.2.1.lt;omega
   have FI:Hid _:=oi_old (va:=va) (p:=p) (mn:=mn) (pp:=pp) (i1:=i1) (i2:=i2) (i3:=i3) (i5:=i5) (s6:=s6) (B:=B) (H:=w1.heap.size) (W:=((w1.alloc (.cells #[.pointer none,.int .i64 0,.int .i64 0,.int .i64 0,.slice none 0 0,.int .i64 0,.string ⟨#[]⟩] 104)).alloc (.cells #[.pointer (some ⟨p,0,none⟩),.int .i64 0,.int .i64 (mn:Int),.pointer (some ⟨p,0,none⟩),.int .i64 (mn:Int),.int .i64 (mn:Int)] 102))) r4 bl4 nv4 hqs bb4 hz.out.2.2 bh4 hlt (by have:=hz.out.2.1.lt;have:=hz.out.2.2;omega) hne
   unfold olw9
   go_simp
   refine hKK.out _ _ (keep3 hne hHeld4) (fun hHeld5 => ?_)
   clear hKK KK z0 z1 z2 z3 z4 z5 z6 zf
   refine wpAnyH_take (i:=10) (oi:=olw10) (v := ?_) rfl (by kernel_rfl) (by kernel_rfl) (by kernel_rfl) (fun _ _ _ h=>h) (Or.inl ⟨by rfl,?_⟩) (by assumption) ?_
   rotate_left
   ·intro w' hSw
    clear hSw
    unfold olw10
    first
    | (go_simp;done)
    | (go_simp;with_reducible rfl)
   simp only[olw10,Act.put,List.setIfInBounds_toArray,List.set_cons_zero,List.set_cons_succ]
   refine wpAnyH_done (by kernel_rfl) ?_ _
   refine NoPanic.normal ?_
   exact hQ.out _ _ _ _ _ _ _ _ _ _ _ _ _ FI.out
 ·unfold olw8
  go_simp
  have nw1:Blk (Z.alloc (.cells #[.pointer none,.int .i64 0,.int .i64 0,.int .i64 0,.slice none 0 0,.int .i64 0,.string ⟨#[]⟩] 104)) (Z.heap.size) hz0:=blk_at Z hz0 _ (by simp) _ (by simp)
  have bl1:=chain hz.out.1 (nb Z (.cells #[.pointer none,.int .i64 0,.int .i64 0,.int .i64 0,.slice none 0 0,.int .i64 0,.string ⟨#[]⟩] 104))
  have bb1:=hz.out.2.1.later (nb Z (.cells #[.pointer none,.int .i64 0,.int .i64 0,.int .i64 0,.slice none 0 0,.int .i64 0,.string ⟨#[]⟩] 104))
  refine hKK.out _ _ ⟨cell_alloc hHeld.1,cell_alloc hHeld.2.1,cell_alloc hHeld.2.2⟩ (fun hHeld1 => ?_)
  clear hKK KK
  refine wpAnyH_ready (rs:=[2]) (by kernel_rfl) (by simp) ?_
  refine AllReadyH.cons (o:=olw2) rfl (fun KK hKK => ?_) AllReadyH.nil
  unfold olw2
  go_simp
  refine Calls.mono (OT.out _) ?_
  rintro e w2 ⟨rfl,hb2⟩
  have sz2:=hb2.size
  have bl2:=chain bl1 hb2
  have bb2:=bb1.later hb2
  have bh2:=nw1.later hb2
  refine hKK.out _ _ ⟨cell_later hb2 hHeld1.1,cell_later hb2 hHeld1.2.1,cell_later hb2 hHeld1.2.2⟩ (fun hHeld2 => ?_)
  clear hKK KK
  refine wpAnyH_ready (rs:=[3]) (by kernel_rfl) (by simp) ?_
  refine AllReadyH.cons (o:=olw3) rfl (fun KK hKK => ?_) AllReadyH.nil
  unfold olw3
  go_simp
  have nw3:Blk (w2.alloc (.cells #[.pointer (some ⟨p,0,none⟩),.int .i64 0,.int .i64 (mn:Int),.pointer (some ⟨p,0,none⟩),.int .i64 (mn:Int),.int .i64 (mn:Int)] 102)) (w2.heap.size) (pl6 p mn):=blk_at w2 (pl6 p mn) _ (by simp) _ (by simp)
  have bl3:=chain bl2 (nb w2 (.cells #[.pointer (some ⟨p,0,none⟩),.int .i64 0,.int .i64 (mn:Int),.pointer (some ⟨p,0,none⟩),.int .i64 (mn:Int),.int .i64 (mn:Int)] 102))
  have bb3:=bb2.later (nb w2 (.cells #[.pointer (some ⟨p,0,none⟩),.int .i64 0,.int .i64 (mn:Int),.pointer (some ⟨p,0,none⟩),.int .i64 (mn:Int),.int .i64 (mn:Int)] 102))
  have bh3:=bh2.later (nb w2 (.cells #[.pointer (some ⟨p,0,none⟩),.int .i64 0,.int .i64 (mn:Int),.pointer (some ⟨p,0,none⟩),.int .i64 (mn:Int),.int .i64 (mn:Int)] 102))
  refine hKK.out _ _ ⟨cell_alloc hHeld2.1,cell_alloc hHeld2.2.1,cell_alloc hHeld2.2.2⟩ (fun hHeld3 => ?_)
  clear hKK KK
  refine wpAnyH_ready (rs:=[4]) (by kernel_rfl) (by simp) ?_
  refine AllReadyH.cons (o:=olw4) rfl (fun KK hKK => ?_) AllReadyH.nil
  unfold olw4
  go_simp
  refine Calls.mono (IU.out (w2.alloc (.cells #[.pointer (some ⟨p,0,none⟩),.int .i64 0,.int .i64 (mn:Int),.pointer (some ⟨p,0,none⟩),.int .i64 (mn:Int),.int .i64 (mn:Int)] 102)) (w2.heap.size) bl3 nw3) ?_
  rintro e w4 ⟨xa,xn,xc,rfl,r4,nv4,hb4⟩
  have bl4:=chain bl3 hb4
  have bb4:=bb3.later hb4
  have hlt:=bh3.lt
  have hqs:=bl3.size
  have bh4:=bh3.later hb4
  have bs4:=bl3.size
  refine hKK.out _ _ ⟨cell_later hb4 hHeld3.1,cell_later hb4 hHeld3.2.1,cell_later hb4 hHeld3.2.2⟩ (fun hHeld4 => ?_)
  clear hKK KK
  refine wpAnyH_take (i:=5) (oi:=olw5) (v := ?_) rfl (by kernel_rfl) (by kernel_rfl) (by kernel_rfl) (fun _ _ _ h=>h) (Or.inl ⟨by rfl,?_⟩) (by assumption) ?_
  rotate_left
  ·intro w' hSw
   clear hSw
   unfold olw5
   first
   | (go_simp;done)
   | (go_simp;with_reducible rfl)
  simp only[olw5,Act.put,List.setIfInBounds_toArray,List.set_cons_zero,List.set_cons_succ]
  refine wpAnyH_take (i:=6) (oi:=olw6) (v := ?_) rfl (by kernel_rfl) (by kernel_rfl) (by kernel_rfl) (fun _ _ _ h=>h) (Or.inl ⟨by rfl,?_⟩) (by assumption) ?_
  rotate_left
  ·intro w' hSw
   clear hSw
   unfold olw6
   first
   | (go_simp;done)
   | (go_simp;with_reducible rfl)
  simp only[olw6,Act.put,List.setIfInBounds_toArray,List.set_cons_zero,List.set_cons_succ]
  refine wpAnyH_take (i:=7) (oi:=olw7) (v := ?_) rfl (by kernel_rfl) (by kernel_rfl) (by kernel_rfl) (fun _ _ _ h=>h) (Or.inl ⟨by rfl,?_⟩) (by assumption) ?_
  rotate_left
  ·intro w' hSw
   clear hSw
   unfold olw7
   first
   | (go_simp;done)
   | (go_simp;with_reducible rfl)
  simp only[olw7,Act.put,List.setIfInBounds_toArray,List.set_cons_zero,List.set_cons_succ]
  refine wpAnyH_ready (rs:=[9]) (by kernel_rfl) (by simp) ?_
  refine AllReadyH.cons (o:=olw9) rfl (fun KK hKK => ?_) AllReadyH.nil
  have z0:=bh4.c 0 _ rfl
  have z1:=bh4.c 1 _ rfl
  have z2:=bh4.c 2 _ rfl
  have z3:=bh4.c 3 _ rfl
  have z4:=bh4.c 4 _ rfl
  have z5:=bh4.c 5 _ rfl
  have z6:=bh4.c 6 _ rfl
  have zf:=bh4.f
  have hne:B≠Z.heap.size:=fun e=>by have:=hz.out.2.1.lt;omega
  have FI:Hid _:=oi_old (va:=va) (p:=p) (mn:=mn) (pp:=pp) (i1:=i1) (i2:=i2) (i3:=i3) (i5:=i5) (s6:=s6) (B:=B) (H:=Z.heap.size) (W:=(w2.alloc (.cells #[.pointer (some ⟨p,0,none⟩),.int .i64 0,.int .i64 (mn:Int),.pointer (some ⟨p,0,none⟩),.int .i64 (mn:Int),.int .i64 (mn:Int)] 102))) r4 bl4 nv4 hqs bb4 hz.out.2.2 bh4 hlt (by have:=hz.out.2.1.lt;have:=hz.out.2.2;omega) hne
  unfold olw9
  go_simp
  refine hKK.out _ _ (keep3 hne hHeld4) (fun hHeld5 => ?_)
  clear hKK KK z0 z1 z2 z3 z4 z5 z6 zf
  refine wpAnyH_take (i:=10) (oi:=olw10) (v := ?_) rfl (by kernel_rfl) (by kernel_rfl) (by kernel_rfl) (fun _ _ _ h=>h) (Or.inl ⟨by rfl,?_⟩) (by assumption) ?_
  rotate_left
  ·intro w' hSw
   clear hSw
   unfold olw10
   first
   | (go_simp;done)
   | (go_simp;with_reducible rfl)
  simp only[olw10,Act.put,List.setIfInBounds_toArray,List.set_cons_zero,List.set_cons_succ]
  refine wpAnyH_done (by kernel_rfl) ?_ _
  refine NoPanic.normal ?_
  exact hQ.out _ _ _ _ _ _ _ _ _ _ _ _ _ FI.out
end Go.Proofs.YtdcimnmebgkmjaaGreatDoor
