/- A part of the walk. -/
import Derived.Test.YtjcppbhgjchjaaaGreatDoorZr3G32
set_option maxHeartbeats 8000000
set_option maxRecDepth 20000
namespace Go.Proofs.YtjcppbhgjchjaaaGreatDoor.Sto
open Go.RowKit Go.Proofs.Fd Go.Proofs.Dk Go.Proofs.Lg
def BnP (w va:Wo) (p:Nat) (F:Nat->Prop) (fr mn g:Nat) (l:List Bs) (y:Int×St) (e:Ending) (w':Wo):Prop :=
 ∃F',Dl w w' p F' y.2/\Nx va F F'/\Bf F va w' /\
  (y.1=0/\(∃v,e = .returned (.tuple #[hv p fr mn g v (tkn 1 l) (mks (hm g) l),.int .i64 0])/\OwnsS w' v l/\∀x,v.ownBlock=some x->va.heap.size<=x/\¬F' x)\/y.1≠0/\e = .returned (.tuple #[.agg hz0.toArray,.int .i64 y.1]))
theorem zaW (w:Wo) (cs:List Value) (ty:TypeId) (hn:cs≠[]) (k:Nat) (hk:w.heap.size=k):Blk (w.alloc (.cells cs.toArray ty)) k cs:=by
 subst hk;exact Blk.new w cs ty hn
theorem znM (w:Wo) (o:Obj):(w.alloc o).heap.size=w.heap.size+1:=by simp
theorem zlb (w va:Wo) (p:Nat) (F:Nat->Prop) (s:St) (fr mn g:Nat) (a:Option Addr) (n c:Nat) (l:List Bs) (y:Int×St) (h:Dl w va p F s) (hx:zbq va a l) (ha:Ap a l F) (hl:s.l.length+2*mn+300<=1000000) (hy:y=thn (cln s fr mn) (k1 fr g l)) (t1 t2 t3 t4:TypeId) :
  BgP w va p F fr mn g a n c l (va.heap.size+1+1) (va.heap.size+1+1+1) (va.heap.size+1) s.n y 0 ((((va.alloc (.cells #[.pointer (some ⟨p,0,none⟩),.int .i64 (fr:Int),.int .i64 (mn:Int)] t1)).alloc (.cells hz0.toArray t2)).alloc (.cells (hc p fr mn g (.slice none 0 0) 0 [] [.slice a n c]).toArray t3)).alloc (.cells (fsv (va.heap.size+1+1) p fr mn).toArray t4)):=by
 obtain⟨v1,e1⟩:∃v1,va.alloc (.cells #[.pointer (some ⟨p,0,none⟩),.int .i64 (fr:Int),.int .i64 (mn:Int)] t1)=v1:=⟨_,rfl⟩;have b1:Below va.heap.size va v1:=by rw[<-e1];exact nb _ _
 have s1:v1.heap.size=va.heap.size+1:=by rw[<-e1];exact znM _ _
 rw[e1];obtain⟨v2,e2⟩:∃v2,v1.alloc (.cells hz0.toArray t2)=v2:=⟨_,rfl⟩;have b2:Below v1.heap.size v1 v2:=by rw[<-e2];exact nb _ _
 have s2:v2.heap.size=va.heap.size+1+1:=by rw[<-e2,znM,s1]
 have r2:Blk v2 (va.heap.size+1) hz0:=by rw[<-e2];exact zaW v1 hz0 t2 (by simp) _ s1
 rw[e2];obtain⟨v3,e3⟩:∃v3,v2.alloc (.cells (hc p fr mn g (.slice none 0 0) 0 [] [.slice a n c]).toArray t3)=v3:=⟨_,rfl⟩;have b3:Below v2.heap.size v2 v3:=by rw[<-e3];exact nb _ _
 have s3:v3.heap.size=va.heap.size+1+1+1:=by rw[<-e3,znM,s2]
 have r3:Blk v3 (va.heap.size+1+1) (hc p fr mn g (.slice none 0 0) 0 [] [.slice a n c]):=by rw[<-e3];exact zaW v2 _ t3 (by simp) _ s2
 rw[e3];obtain⟨v4,e4⟩:∃v4,v3.alloc (.cells (fsv (va.heap.size+1+1) p fr mn).toArray t4)=v4:=⟨_,rfl⟩;have b4:Below v3.heap.size v3 v4:=by rw[<-e4];exact nb _ _
 have r4:Blk v4 (va.heap.size+1+1+1) (fsv (va.heap.size+1+1) p fr mn):=by rw[<-e4];exact zaW v3 _ t4 (by simp[fsv]) _ s3
 rw[e4];clear e1 e2 e3 e4;have bb:Below va.heap.size va v4:=chain (chain (chain b1 b2) b3) b4;have lt:∀x,F x->x < va.heap.size:=fun x e=>h.at_.lt e
 have hh:∀x,HFt (va.heap.size+1+1) (.slice none 0 0) x->x=va.heap.size+1+1:=fun x e=>by
  rcases e with e|e
  ·exact e
  ·cases e
 refine⟨F,s,.slice none 0 0,[],0,[],⟨⟨h.later bb,⟨r3.later b4,zan _,nofun⟩,fun x e => ?_⟩,Nx.refl _ _,Bf.of bb,r4,(r2.later b3).later b4,hx.later bb,fun x e h0 d => ?_,by omega,by omega,by omega,by omega,by omega,fun e => ?_,fun e => ?_,nofun,nofun,nofun⟩,fun c=>absurd c (by decide),rfl,rfl,rfl,hl,hy⟩
 ·have:=hh x e
  subst this;exact⟨fun d=>by have:=lt _ d;omega,by have:=h.below.size;omega⟩
 ·rcases d with d|d
  ·exact ha x e h0 d
  ·have h3:=hh _ d
   have:=hx.lt x e h0;omega
 ·have:=lt _ e
  omega
 ·have:=lt _ e
  omega
theorem zcW (w va:Wo) (p:Nat) (F:Nat->Prop) (s:St) (fr mn g:Nat) (a:Option Addr) (n c:Nat) (l:List Bs) (h1:1<=mn) (h2:fr+mn<=s.n) (hn:l.length=n) (ht:∀t∈l,t.length<=2000) (hs:tkn 1 l<=mn) (hl:s.l.length+2*mn+300<=1000000) (hk:Hid (Kh w)) (h:Hid (Dl w va p F s)) (hx:Hid (zbq va a l)) (ha:Hid (Ap a l F)) :
  Cl 140 #[plc p fr mn,.int .i64 (g:Int),.slice a n c] va fun e w'=>BnP w va p F fr mn g l (bgn s fr mn g l) e w':=by
 have hB:=h.out.at_.1.n2;have BS:=zfj w va p F fr mn g a n c l (va.heap.size+1+1) (va.heap.size+1+1+1) (va.heap.size+1) s.n (bgn s fr mn g l) h1 h2 hB hn ht hs hk.out;have HL:Hid (s.l.length+2*mn+300<=1000000):=hl;have H9:Hid (w.heap.size<=va.heap.size):=h.out.below.size;obtain⟨y,hy⟩:∃y,bgn s fr mn g l=y:=⟨_,rfl⟩;have HY:Hid (y=thn (cln s fr mn) (k1 fr g l)):=hy.symm.trans (zpD s fr mn g l);rw[hy] at BS ⊢;have BS':Hid _:=BS;clear BS hy hn ht hs h1 h2 hB hl;unfold plc;go_enter Tryz.func140, Tryz.ntmps140;go_wp2_with fail;refine cM (BS'.out _ (zlb w va p F s fr mn g a n c l y h.out hx.out ha.out HL.out HY.out _ _ _ _)) ?_;rintro e w1 ⟨x,rfl,hst⟩;by_cases h0:x=0
 ·subst h0
  have J:Hid (BgP w va p F fr mn g a n c l (va.heap.size+1+1) (va.heap.size+1+1+1) (va.heap.size+1) s.n y 5 w1):=by
   rcases hst with ⟨-,k⟩|⟨k,-⟩
   ·exact k
   ·exact absurd rfl k
  clear hst BS' h hx ha HY HL;obtain⟨F',s',v',ts',tk',m',hq,hf,hy⟩:=J.out;obtain⟨e1,e2,e3⟩:=hf (by decide);rw[e1,e2,e3] at hq;have HQ:Hid (Bq w va p F fr mn g a n c l _ _ _ w1 F' s' v' l _ _):=hq;have HY:Hid (y=(0,s')):=hy;clear hq hf hy J e1 e2 e3;obtain⟨xa,xn,xc,rfl⟩:=owns_sliceS HQ.out.hd.hf.row;obtain⟨tk,htk⟩:∃tk,tkn 1 l=tk:=⟨_,rfl⟩;obtain⟨m,hmm⟩:∃m,mks (hm g) l=m:=⟨_,rfl⟩;have HTM:Hid (tkn 1 l=tk/\mks (hm g) l=m):=⟨htk,hmm⟩;rw[htk,hmm] at HQ;clear htk hmm;have k0:=HQ.out.hd.hf.bk.c 0 _ rfl;have k1:=HQ.out.hd.hf.bk.c 1 _ rfl;have k2:=HQ.out.hd.hf.bk.c 2 _ rfl;have k3:=HQ.out.hd.hf.bk.c 3 _ rfl;have k4:=HQ.out.hd.hf.bk.c 4 _ rfl;have k5:=HQ.out.hd.hf.bk.c 5 _ rfl;have k6:=HQ.out.hd.hf.bk.c 6 _ rfl;have z0:=HQ.out.br.c 0 _ rfl;have z1:=HQ.out.br.c 1 _ rfl;have z2:=HQ.out.br.c 2 _ rfl;have z3:=HQ.out.br.c 3 _ rfl;have z4:=HQ.out.br.c 4 _ rfl;have z5:=HQ.out.br.c 5 _ rfl;have z6:=HQ.out.br.c 6 _ rfl;have zf:=HQ.out.br.f;have hne:=HQ.out.qR;have FI:Hid (Blk (w1.setCells (va.heap.size+1) 0 (hc p fr mn g (.slice xa xn xc) tk m [])) (va.heap.size+1) (hc p fr mn g (.slice xa xn xc) tk m [])/\BnP w va p F fr mn g l y (.returned (.tuple #[hv p fr mn g (.slice xa xn xc) tk m,.int .i64 0])) (w1.setCells (va.heap.size+1) 0 (hc p fr mn g (.slice xa xn xc) tk m []))):=by
   have ho:∀x,x≠va.heap.size+1->(w1.setCells (va.heap.size+1) 0 (hc p fr mn g (.slice xa xn xc) tk m [])).heap[x]?=w1.heap[x]?:=fun x e=>zac w1 _ 0 _ x e
   have hbf:Bf (fun x=>x=va.heap.size+1) w1 (w1.setCells (va.heap.size+1) 0 (hc p fr mn g (.slice xa xn xc) tk m [])):=Bf.sets (fun x=>x=va.heap.size+1) _ rfl _ _ _;refine⟨HQ.out.br.put _ rfl,F',?_,HQ.out.nx,?_,.inl ⟨by rw[HY.out],.slice xa xn xc,by rw[HTM.out.1,HTM.out.2],?_,fun x e=>⟨HQ.out.nv x e,(HQ.out.hd.ap x (.inr e)).1⟩⟩⟩
   ·rw[HY.out]
    exact⟨HQ.out.hd.dl.at_.other hbf (fun x e d=>HQ.out.fR (by rw[<-d];exact e)),HQ.out.hd.dl.new,zah (by have:=HQ.out.bf.size;have:=HQ.out.hd.dl.below.size;have:=HQ.out.nR;have h9:=H9.out;omega) _ 0 HQ.out.hd.dl.below⟩
   ·exact HQ.out.bf.trans (fun x e => .inr (by rw[e];exact Nat.le_succ _)) hbf
   ·exact ownsRow_same HQ.out.hd.hf.row (fun x e=>ho x (fun d=>HQ.out.vR (by rw[e,d])))
  clear HQ HY HTM;go_wp2;refine bodyPost_ret (v := .tuple #[hv p fr mn g (.slice xa xn xc) tk m,.int .i64 0]) ?_ rfl FI.out.2;exact zaS Tryz.results140 _ _ (va.heap.size+1) _ _ (by kernel_rfl) (by kernel_rfl) (run_loadVar_mid _ (va.heap.size+1) 0 237 (hc p fr mn g (.slice xa xn xc) tk m []) _ FI.out.1.r Tryz.underlying237 rfl (by kernel_rfl))
 ·have J:Hid (BgE w va p F (va.heap.size+1) y x w1):=by
   rcases hst with ⟨k,-⟩|⟨-,k⟩
   ·exact absurd k h0
   ·exact k
  clear hst BS' h hx ha HY HL;obtain⟨F',hr0⟩:∃F',Dl w w1 p F' y.2/\Nx va F F'/\Bf F va w1/\Blk w1 (va.heap.size+1) hz0/\¬F' (va.heap.size+1):=J.out.2;have hr:Dl w w1 p F' y.2/\Nx va F F'/\Bf F va w1/\Blk w1 (va.heap.size+1) hz0:=⟨hr0.1,hr0.2.1,hr0.2.2.1,hr0.2.2.2.1⟩;have FR:Hid (¬F' (va.heap.size+1)):=hr0.2.2.2.2;clear hr0;have z0:=hr.2.2.2.c 0 _ rfl;have z1:=hr.2.2.2.c 1 _ rfl;have z2:=hr.2.2.2.c 2 _ rfl;have z3:=hr.2.2.2.c 3 _ rfl;have z4:=hr.2.2.2.c 4 _ rfl;have z5:=hr.2.2.2.c 5 _ rfl;have z6:=hr.2.2.2.c 6 _ rfl;have zf:=hr.2.2.2.f;have FI:Hid (Blk (w1.setCells (va.heap.size+1) 0 hz0) (va.heap.size+1) hz0/\BnP w va p F fr mn g l y (.returned (.tuple #[.agg hz0.toArray,.int .i64 x])) (w1.setCells (va.heap.size+1) 0 hz0)):=by
   have hbf:Bf (fun x=>x=va.heap.size+1) w1 (w1.setCells (va.heap.size+1) 0 hz0):=Bf.sets (fun x=>x=va.heap.size+1) _ rfl _ _ _;have hR:¬F' (va.heap.size+1):=FR.out;refine⟨hr.2.2.2.put _ rfl,F',?_,hr.2.1,?_,.inr ⟨by rw[J.out.1];exact h0,by rw[J.out.1]⟩⟩
   ·exact⟨hr.1.at_.other hbf (fun x e d=>hR (by rw[<-d];exact e)),hr.1.new,zah (by have h9:=H9.out;omega) _ 0 hr.1.below⟩
   ·exact hr.2.2.1.trans (fun x e => .inr (by rw[e];exact Nat.le_succ _)) hbf
  clear hr J;go_wp2;refine bodyPost_ret (v := .tuple #[.agg hz0.toArray,.int .i64 x]) ?_ rfl FI.out.2;exact zaS Tryz.results140 _ _ (va.heap.size+1) _ _ (by kernel_rfl) (by kernel_rfl) (run_loadVar_mid _ (va.heap.size+1) 0 237 hz0 _ FI.out.1.r Tryz.underlying237 rfl (by kernel_rfl))
abbrev hq7 (pp:Option Addr) (i1 i2 i3:Int) (xa:Option Addr) (xn xc:Nat) (i5:Int) (s6:Ba):List Value:=[.pointer pp,.int .i64 i1,.int .i64 i2,.int .i64 i3,.slice xa xn xc,.int .i64 i5,.string s6]
abbrev pl6 (p mn:Nat):List Value:=[.pointer (some ⟨p,0,none⟩),.int .i64 0,.int .i64 (mn:Int),.pointer (some ⟨p,0,none⟩),.int .i64 (mn:Int),.int .i64 (mn:Int)]
structure Oi (va:Wo) (p mn:Nat) (pp:Option Addr) (i1 i2 i3:Int) (i5:Int) (s6:Ba) (tl:List Bs) (B H:Nat) (xa:Option Addr) (xn xc:Nat) (wx:Wo):Prop where
 bk:Blk wx H (hq7 pp i1 i2 i3 xa xn xc i5 s6)
 row:OwnsS wx (.slice xa xn xc) tl
 bl:Bw va wx
 nH:va.heap.size<=H
 vH:(Value.slice xa xn xc).ownBlock≠some H
 nv:∀y,(Value.slice xa xn xc).ownBlock=some y->va.heap.size<=y
 b1:Blk wx B [.pointer (some ⟨p,0,none⟩),.int .i64 0,.int .i64 (mn:Int)]
 nB:va.heap.size<=B
 BH:B≠H
theorem zpG {va:Wo} {p mn:Nat} {pp:Option Addr} {i1 i2 i3:Int} {i5:Int} {s6:Ba} {tl:List Bs} {B:Nat} {xa:Option Addr} {xn xc:Nat} {w2:Wo} (ty:TypeId) (r:OwnsS w2 (.slice xa xn xc) tl) (bl:Bw va w2) (nv:∀y,(Value.slice xa xn xc).ownBlock=some y->va.heap.size<=y) (b1:Blk w2 B [.pointer (some ⟨p,0,none⟩),.int .i64 0,.int .i64 (mn:Int)]) (nB:va.heap.size<=B) :
  Oi va p mn pp i1 i2 i3 i5 s6 tl B w2.heap.size xa xn xc (w2.alloc (.cells #[.pointer pp,.int .i64 i1,.int .i64 i2,.int .i64 i3,.slice xa xn xc,.int .i64 i5,.string s6] ty)) :=
 ⟨Blk.new w2 _ _ (by simp),ownsRow_same r (fun x e=>(nb w2 _).block x (r.lt x e).2),chain bl (nb _ _),bl.size,fun e=>Nat.lt_irrefl _ (r.lt _ e).2,nv,b1.later (nb _ _),nB,fun e=>by have:=b1.lt;omega⟩
theorem ziN {va:Wo} {p mn:Nat} {pp:Option Addr} {i1 i2 i3:Int} {i5:Int} {s6:Ba} {tl:List Bs} {B H:Nat} {xa:Option Addr} {xn xc:Nat} {W w2:Wo} (r:OwnsS w2 (.slice xa xn xc) tl) (bl:Bw va w2) (nW:∀y,(Value.slice xa xn xc).ownBlock=some y->W.heap.size<=y) (sW:va.heap.size<=W.heap.size) (b1:Blk w2 B [.pointer (some ⟨p,0,none⟩),.int .i64 0,.int .i64 (mn:Int)]) (nB:va.heap.size<=B) (bh:Blk w2 H hz0) (hH:H < W.heap.size) (nH:va.heap.size<=H) (hBH:B≠H) :
  Oi va p mn pp i1 i2 i3 i5 s6 tl B H xa xn xc (w2.setCells H 0 (hq7 pp i1 i2 i3 xa xn xc i5 s6)):=by
 have hv:(Value.slice xa xn xc).ownBlock≠some H:=fun e=>by have:=nW _ e;omega
 exact⟨bh.put _ rfl,ownsRow_same r (fun x e=>zac w2 H 0 _ x (fun d=>hv (by rw[e,d]))),zah nH _ 0 bl,nH,hv,fun y e=>by have:=nW y e;omega,b1.same (zac w2 H 0 _ B hBH),nB,hBH⟩
def zqg:Oper:={ dst:=some 19,op := .load 235 (.tmp 5),type := 235, pos := "log.go:32", after:=#[],guard:=none }
def zqh:Oper:={ dst:=some 20,op := .load 235 (.tmp 5),type := 235, pos := "log.go:32", after:=#[],guard:=none }
def zpH:Oper:={ dst:=some 21,op := .call { callee:=Go.Callee.value (.func 139),args:=#[Go.Operand.tmp 20],argTypes:=#[235] },type := 235, pos := "log.go:32", after:=#[eD 1],guard:=none }
def znN:Oper:={ dst:=some 22,op := .buildSlice 291 2 #[(0,Go.Operand.tmp 19),(1,Go.Operand.tmp 21)],type := 291, pos := "log.go:32", after:=#[eD 0,eD 2],guard:=none }
def zlc:Oper:={ dst:=some 23,op := .call { callee:=Go.Callee.value (.func 138),args:=#[Go.Operand.tmp 22],argTypes:=#[291] },type := 238, pos := "log.go:32", after:=#[eD 3,eC 2],guard:=none }
def zgZ:Oper:={ dst:=some 18,op := .move (.tmp 23),type := 238, pos := "log.go:32", after:=#[eD 4],guard:=none }
def zg0:Oper:={ dst:=some 24,op := .extract (.tmp 18) 0,type := 237, pos := "log.go:32", after:=#[eD 5],guard:=none }
def zg1:Oper:={ dst:=some 25,op := .extract (.tmp 18) 1,type := 32, pos := "log.go:32", after:=#[eD 5,{ on:=9,ground:=Go.Ground.gcOnly Go.Departure.lateStores }],guard:=none }
def zld:Oper:={ dst:=some 6,op := .alloc 237, type:=0,pos := "log.go:32", after:=#[],guard:=none }
def zle:Oper:={ dst:=none,op := .store 237 (.tmp 6) (.tmp 24),type:=0,pos := "log.go:32", after:=#[eD 8,eD 6,eC 4,eP 0,eP 1,eP 2,eP 3,eP 4,eP 5,eP 6,{ on:=7,ground:=Go.Ground.textOnly Go.Departure.lateStores },eP 8],guard:=none }
def zbX:Oper:={ dst:=some 7,op := .assign (.tmp 25),type := 32, pos := "log.go:32", after:=#[eD 7,eC 9,eP 0,eP 1,eP 2,eP 3,eP 4,eP 5,eP 6,eP 7,eP 8,eP 9],guard:=none }
theorem znO {w:Wo} {B H:Nat} {x0 x1 x2 y0 y1 y2 y3 y4 y5 y6:Value} (hne:B≠H) (h:w.cell? ⟨B,0,none⟩=some x0/\w.cell? ⟨B,1,none⟩=some x1/\w.cell? ⟨B,2,none⟩=some x2) :
  (w.setCells H 0 [y0,y1,y2,y3,y4,y5,y6]).cell? ⟨B,0,none⟩=some x0/\(w.setCells H 0 [y0,y1,y2,y3,y4,y5,y6]).cell? ⟨B,1,none⟩=some x1/\(w.setCells H 0 [y0,y1,y2,y3,y4,y5,y6]).cell? ⟨B,2,none⟩=some x2:=by
 have hs:=zac w H 0 [y0,y1,y2,y3,y4,y5,y6] B hne;exact⟨(World.cell?_of_block (a:=⟨B,0,none⟩) hs).trans h.1,(World.cell?_of_block (a:=⟨B,1,none⟩) hs).trans h.2.1,(World.cell?_of_block (a:=⟨B,2,none⟩) hs).trans h.2.2⟩
theorem zbw (p mn:Nat) (pp:Option Addr) (i1 i2 i3:Int) (i5:Int) (s6:Ba) (tl:List Bs) (x:Int) (va W:Wo) (B:Nat) (hW:Hid (Bw va W/\Blk W B [.pointer (some ⟨p,0,none⟩),.int .i64 0,.int .i64 (mn:Int)]/\va.heap.size<=B))
  (OT:Hid (∀w,Cl 139 #[.agg #[.pointer (some ⟨p,0,none⟩),.int .i64 0,.int .i64 (mn:Int)]] w fun e w'=>e = .returned (.agg #[.pointer (some ⟨p,0,none⟩),.int .i64 (mn:Int),.int .i64 (mn:Int)])/\Bw w w'))
  (IU:Hid (∀V P,Bw va V->Blk V P (pl6 p mn)->Cl 138 #[.slice (some ⟨P,0,none⟩) 2 2] V fun e w'=>∃xa xn xc,e = .returned (.tuple #[.agg #[.pointer pp,.int .i64 i1,.int .i64 i2,.int .i64 i3,.slice xa xn xc,.int .i64 i5,.string s6],.int .i64 x])/\OwnsS w' (.slice xa xn xc) tl/\(∀y,(Value.slice xa xn xc).ownBlock=some y->V.heap.size<=y)/\Bw V w'))
  (a8 a9 a10 a11 a12 a13 a14 a15 a16 a17:Value) (Q:Exit->Act->Wo->Prop)
  (hQ:Hid (∀(H:Nat) (xa:Option Addr) (xn xc:Nat) (wx:Wo) (u18 u19 u20 u21 u22 u23 u24 u25:Value),Oi va p mn pp i1 i2 i3 i5 s6 tl B H xa xn xc wx->Q .normal { tmps:=#[.pointer (some ⟨p,0,none⟩),undef,.pointer none,.int .i64 0,.int .i64 (mn:Int),.pointer (some ⟨B,0,none⟩),.pointer (some ⟨H,0,none⟩),.int .i64 x,a8,a9,a10,a11,a12,a13,a14,a15,a16,a17,u18,u19,u20,u21,u22,u23,u24,u25,undef,undef,undef,undef,undef,undef,undef,undef,undef,undef,undef,undef,undef,undef,undef,undef,undef,undef],defers:=[] } wx)) :
  (Code.region 7 #[zqg,zqh,zpH,znN,zlc,zgZ,zg0,zg1,zld,zle,zbX] true).wp Tryz.prog Q { tmps:=#[.pointer (some ⟨p,0,none⟩),undef,.pointer none,.int .i64 0,.int .i64 (mn:Int),.pointer (some ⟨B,0,none⟩),undef,undef,a8,a9,a10,a11,a12,a13,a14,a15,a16,a17,undef,undef,undef,undef,undef,undef,undef,undef,undef,undef,undef,undef,undef,undef,undef,undef,undef,undef,undef,undef,undef,undef,undef,undef,undef,undef],defers:=[] } W:=by
 have b0:=hW.out.2.1.c 0 _ rfl;have b1:=hW.out.2.1.c 1 _ rfl;have b2:=hW.out.2.1.c 2 _ rfl;refine wp_region_noPanic ?_;refine wp_region_held_drew (S:=fun w'=>w'.cell? ⟨B,0,none⟩=some (.pointer (some ⟨p,0,none⟩))/\w'.cell? ⟨B,1,none⟩=some (.int .i64 0)/\w'.cell? ⟨B,2,none⟩=some (.int .i64 (mn:Int))) (by kernel_rfl) (⟨b0,b1,b2⟩) (fun hHeld => ?_);obtain⟨Z,hZ⟩:∃Z,W.drew=Z:=⟨_,rfl⟩;have hz:Hid (Bw va Z/\Blk Z B [.pointer (some ⟨p,0,none⟩),.int .i64 0,.int .i64 (mn:Int)]/\va.heap.size<=B):=by
  rw[<-hZ];exact⟨hW.out.1.drew,hW.out.2.1.drew,hW.out.2.2⟩
 rw[hZ] at hHeld ⊢;clear hZ b0 b1 b2 hW;refine wT 0 zqg ?_ ?_ ?_;rotate_left
 ·intro w' hSw;obtain⟨s0,s1,s2⟩:=hSw;unfold zqg;first|(go_simp;done)|(go_simp;with_reducible rfl)
 simp only[zqg,Act.put,wA,wB,wC];refine wT 1 zqh ?_ ?_ ?_;rotate_left
 ·intro w' hSw;obtain⟨s0,s1,s2⟩:=hSw;unfold zqh;first|(go_simp;done)|(go_simp;with_reducible rfl)
 simp only[zqh,Act.put,wA,wB,wC];refine wpAnyH_ready (rs:=[2,8]) (by kernel_rfl) (by simp) ?_;refine AllReadyH.cons (o:=zpH) rfl (fun KK hKK => ?_) (AllReadyH.cons (o:=zld) rfl (fun KK hKK => ?_) AllReadyH.nil)
 ·unfold zpH
  go_simp;refine cM (OT.out _) ?_;rintro e w1 ⟨rfl,hb1⟩;have sz1:=hb1.size;have bl1:=chain hz.out.1 hb1;have bb1:=hz.out.2.1.later hb1;refine hKK.out _ _ ⟨cell_later hb1 hHeld.1,cell_later hb1 hHeld.2.1,cell_later hb1 hHeld.2.2⟩ (fun hHeld1 => ?_);clear hKK KK;refine wpAnyH_ready (rs:=[3,8]) (by kernel_rfl) (by simp) ?_;refine AllReadyH.cons (o:=znN) rfl (fun KK hKK => ?_) (AllReadyH.cons (o:=zld) rfl (fun KK hKK => ?_) AllReadyH.nil)
  ·unfold znN
   go_simp;have nw2:Blk (w1.alloc (.cells #[.pointer (some ⟨p,0,none⟩),.int .i64 0,.int .i64 (mn:Int),.pointer (some ⟨p,0,none⟩),.int .i64 (mn:Int),.int .i64 (mn:Int)] 235)) (w1.heap.size) (pl6 p mn):=zaW w1 (pl6 p mn) _ (by simp) _ (by simp);have bl2:=chain bl1 (nb w1 (.cells #[.pointer (some ⟨p,0,none⟩),.int .i64 0,.int .i64 (mn:Int),.pointer (some ⟨p,0,none⟩),.int .i64 (mn:Int),.int .i64 (mn:Int)] 235));have bb2:=bb1.later (nb w1 (.cells #[.pointer (some ⟨p,0,none⟩),.int .i64 0,.int .i64 (mn:Int),.pointer (some ⟨p,0,none⟩),.int .i64 (mn:Int),.int .i64 (mn:Int)] 235));refine hKK.out _ _ ⟨zab hHeld1.1,zab hHeld1.2.1,zab hHeld1.2.2⟩ (fun hHeld2 => ?_);clear hKK KK;refine wpAnyH_ready (rs:=[4,8]) (by kernel_rfl) (by simp) ?_;refine AllReadyH.cons (o:=zlc) rfl (fun KK hKK => ?_) (AllReadyH.cons (o:=zld) rfl (fun KK hKK => ?_) AllReadyH.nil)
   ·unfold zlc
    go_simp;refine cM (IU.out (w1.alloc (.cells #[.pointer (some ⟨p,0,none⟩),.int .i64 0,.int .i64 (mn:Int),.pointer (some ⟨p,0,none⟩),.int .i64 (mn:Int),.int .i64 (mn:Int)] 235)) (w1.heap.size) bl2 nw2) ?_;rintro e w3 ⟨xa,xn,xc,rfl,r3,nv3,hb3⟩;have bl3:=chain bl2 hb3;have bb3:=bb2.later hb3;have bs3:=bl2.size;refine hKK.out _ _ ⟨cell_later hb3 hHeld2.1,cell_later hb3 hHeld2.2.1,cell_later hb3 hHeld2.2.2⟩ (fun hHeld3 => ?_);clear hKK KK;refine wT 5 zgZ ?_ ?_ ?_;rotate_left
    ·intro w' hSw;clear hSw;unfold zgZ;first|(go_simp;done)|(go_simp;with_reducible rfl)
    simp only[zgZ,Act.put,wA,wB,wC];refine wT 6 zg0 ?_ ?_ ?_;rotate_left
    ·intro w' hSw;clear hSw;unfold zg0;first|(go_simp;done)|(go_simp;with_reducible rfl)
    simp only[zg0,Act.put,wA,wB,wC];refine wT 7 zg1 ?_ ?_ ?_;rotate_left
    ·intro w' hSw;clear hSw;unfold zg1;first|(go_simp;done)|(go_simp;with_reducible rfl)
    simp only[zg1,Act.put,wA,wB,wC];refine wpAnyH_ready (rs:=[8]) (by kernel_rfl) (by simp) ?_;refine AllReadyH.cons (o:=zld) rfl (fun KK hKK => ?_) AllReadyH.nil;unfold zld;go_simp;have nw4:Blk (w3.alloc (.cells #[.pointer none,.int .i64 0,.int .i64 0,.int .i64 0,.slice none 0 0,.int .i64 0,.string ⟨#[]⟩] 237)) (w3.heap.size) hz0:=zaW w3 hz0 _ (by simp) _ (by simp);have bl4:=chain bl3 (nb w3 (.cells #[.pointer none,.int .i64 0,.int .i64 0,.int .i64 0,.slice none 0 0,.int .i64 0,.string ⟨#[]⟩] 237));have bb4:=bb3.later (nb w3 (.cells #[.pointer none,.int .i64 0,.int .i64 0,.int .i64 0,.slice none 0 0,.int .i64 0,.string ⟨#[]⟩] 237));refine hKK.out _ _ ⟨zab hHeld3.1,zab hHeld3.2.1,zab hHeld3.2.2⟩ (fun hHeld4 => ?_);clear hKK KK;refine wpAnyH_ready (rs:=[9]) (by kernel_rfl) (by simp) ?_;refine AllReadyH.cons (o:=zle) rfl (fun KK hKK => ?_) AllReadyH.nil;have FI:Hid _:=zpG (va:=va) (p:=p) (mn:=mn) (pp:=pp) (i1:=i1) (i2:=i2) (i3:=i3) (i5:=i5) (s6:=s6) (B:=B) 237 r3 bl3 (fun y e=>Nat.le_trans bs3 (nv3 y e)) bb3 hz.out.2.2;unfold zle;go_simp;refine hKK.out _ _ ⟨zab hHeld3.1,zab hHeld3.2.1,zab hHeld3.2.2⟩ (fun hHeld5 => ?_);clear hKK KK;refine wT 10 zbX ?_ ?_ ?_;rotate_left
    ·intro w' hSw;clear hSw;unfold zbX;first|(go_simp;done)|(go_simp;with_reducible rfl)
    simp only[zbX,Act.put,wA,wB,wC];refine wpAnyH_done (by kernel_rfl) ?_ _;refine NoPanic.normal ?_;exact hQ.out _ _ _ _ _ _ _ _ _ _ _ _ _ FI.out
   ·unfold zld
    go_simp;have nw3:Blk ((w1.alloc (.cells #[.pointer (some ⟨p,0,none⟩),.int .i64 0,.int .i64 (mn:Int),.pointer (some ⟨p,0,none⟩),.int .i64 (mn:Int),.int .i64 (mn:Int)] 235)).alloc (.cells #[.pointer none,.int .i64 0,.int .i64 0,.int .i64 0,.slice none 0 0,.int .i64 0,.string ⟨#[]⟩] 237)) (w1.heap.size+1) hz0:=zaW (w1.alloc (.cells #[.pointer (some ⟨p,0,none⟩),.int .i64 0,.int .i64 (mn:Int),.pointer (some ⟨p,0,none⟩),.int .i64 (mn:Int),.int .i64 (mn:Int)] 235)) hz0 _ (by simp) _ (by simp);have bl3:=chain bl2 (nb (w1.alloc (.cells #[.pointer (some ⟨p,0,none⟩),.int .i64 0,.int .i64 (mn:Int),.pointer (some ⟨p,0,none⟩),.int .i64 (mn:Int),.int .i64 (mn:Int)] 235)) (.cells #[.pointer none,.int .i64 0,.int .i64 0,.int .i64 0,.slice none 0 0,.int .i64 0,.string ⟨#[]⟩] 237));have bb3:=bb2.later (nb (w1.alloc (.cells #[.pointer (some ⟨p,0,none⟩),.int .i64 0,.int .i64 (mn:Int),.pointer (some ⟨p,0,none⟩),.int .i64 (mn:Int),.int .i64 (mn:Int)] 235)) (.cells #[.pointer none,.int .i64 0,.int .i64 0,.int .i64 0,.slice none 0 0,.int .i64 0,.string ⟨#[]⟩] 237))
    have bp3:=nw2.later (nb (w1.alloc (.cells #[.pointer (some ⟨p,0,none⟩),.int .i64 0,.int .i64 (mn:Int),.pointer (some ⟨p,0,none⟩),.int .i64 (mn:Int),.int .i64 (mn:Int)] 235)) (.cells #[.pointer none,.int .i64 0,.int .i64 0,.int .i64 0,.slice none 0 0,.int .i64 0,.string ⟨#[]⟩] 237));refine hKK.out _ _ ⟨zab hHeld2.1,zab hHeld2.2.1,zab hHeld2.2.2⟩ (fun hHeld3 => ?_);clear hKK KK;refine wpAnyH_ready (rs:=[4]) (by kernel_rfl) (by simp) ?_;refine AllReadyH.cons (o:=zlc) rfl (fun KK hKK => ?_) AllReadyH.nil;unfold zlc;go_simp;refine cM (IU.out ((w1.alloc (.cells #[.pointer (some ⟨p,0,none⟩),.int .i64 0,.int .i64 (mn:Int),.pointer (some ⟨p,0,none⟩),.int .i64 (mn:Int),.int .i64 (mn:Int)] 235)).alloc (.cells #[.pointer none,.int .i64 0,.int .i64 0,.int .i64 0,.slice none 0 0,.int .i64 0,.string ⟨#[]⟩] 237)) (w1.heap.size) bl3 bp3) ?_;rintro e w4 ⟨xa,xn,xc,rfl,r4,nv4,hb4⟩;have bl4:=chain bl3 hb4;have bb4:=bb3.later hb4;have hlt:=nw3.lt;have hqs:=bl3.size;have bh4:=nw3.later hb4;have bs4:=bl3.size;refine hKK.out _ _ ⟨cell_later hb4 hHeld3.1,cell_later hb4 hHeld3.2.1,cell_later hb4 hHeld3.2.2⟩ (fun hHeld4 => ?_);clear hKK KK;refine wT 5 zgZ ?_ ?_ ?_;rotate_left
    ·intro w' hSw;clear hSw;unfold zgZ;first|(go_simp;done)|(go_simp;with_reducible rfl)
    simp only[zgZ,Act.put,wA,wB,wC];refine wT 6 zg0 ?_ ?_ ?_;rotate_left
    ·intro w' hSw;clear hSw;unfold zg0;first|(go_simp;done)|(go_simp;with_reducible rfl)
    simp only[zg0,Act.put,wA,wB,wC];refine wT 7 zg1 ?_ ?_ ?_;rotate_left
    ·intro w' hSw;clear hSw;unfold zg1;first|(go_simp;done)|(go_simp;with_reducible rfl)
    simp only[zg1,Act.put,wA,wB,wC];refine wpAnyH_ready (rs:=[9]) (by kernel_rfl) (by simp) ?_;refine AllReadyH.cons (o:=zle) rfl (fun KK hKK => ?_) AllReadyH.nil;have z0:=bh4.c 0 _ rfl;have z1:=bh4.c 1 _ rfl;have z2:=bh4.c 2 _ rfl;have z3:=bh4.c 3 _ rfl;have z4:=bh4.c 4 _ rfl;have z5:=bh4.c 5 _ rfl;have z6:=bh4.c 6 _ rfl;have zf:=bh4.f;have hne:B≠w1.heap.size+1:=fun e=>by have:=hz.out.2.1.lt;omega
    have FI:Hid _:=ziN (va:=va) (p:=p) (mn:=mn) (pp:=pp) (i1:=i1) (i2:=i2) (i3:=i3) (i5:=i5) (s6:=s6) (B:=B) (H:=w1.heap.size+1) (W:=((w1.alloc (.cells #[.pointer (some ⟨p,0,none⟩),.int .i64 0,.int .i64 (mn:Int),.pointer (some ⟨p,0,none⟩),.int .i64 (mn:Int),.int .i64 (mn:Int)] 235)).alloc (.cells #[.pointer none,.int .i64 0,.int .i64 0,.int .i64 0,.slice none 0 0,.int .i64 0,.string ⟨#[]⟩] 237))) r4 bl4 nv4 hqs bb4 hz.out.2.2 bh4 hlt (by have:=hz.out.2.1.lt;have:=hz.out.2.2;omega) hne;unfold zle;go_simp;refine hKK.out _ _ (znO hne hHeld4) (fun hHeld5 => ?_);clear hKK KK z0 z1 z2 z3 z4 z5 z6 zf;refine wT 10 zbX ?_ ?_ ?_;rotate_left
    ·intro w' hSw;clear hSw;unfold zbX;first|(go_simp;done)|(go_simp;with_reducible rfl)
    simp only[zbX,Act.put,wA,wB,wC];refine wpAnyH_done (by kernel_rfl) ?_ _;refine NoPanic.normal ?_;exact hQ.out _ _ _ _ _ _ _ _ _ _ _ _ _ FI.out
  ·unfold zld
   go_simp;have nw2:Blk (w1.alloc (.cells #[.pointer none,.int .i64 0,.int .i64 0,.int .i64 0,.slice none 0 0,.int .i64 0,.string ⟨#[]⟩] 237)) (w1.heap.size) hz0:=zaW w1 hz0 _ (by simp) _ (by simp);have bl2:=chain bl1 (nb w1 (.cells #[.pointer none,.int .i64 0,.int .i64 0,.int .i64 0,.slice none 0 0,.int .i64 0,.string ⟨#[]⟩] 237));have bb2:=bb1.later (nb w1 (.cells #[.pointer none,.int .i64 0,.int .i64 0,.int .i64 0,.slice none 0 0,.int .i64 0,.string ⟨#[]⟩] 237));refine hKK.out _ _ ⟨zab hHeld1.1,zab hHeld1.2.1,zab hHeld1.2.2⟩ (fun hHeld2 => ?_);clear hKK KK;refine wpAnyH_ready (rs:=[3]) (by kernel_rfl) (by simp) ?_;refine AllReadyH.cons (o:=znN) rfl (fun KK hKK => ?_) AllReadyH.nil;unfold znN;go_simp;have nw3:Blk ((w1.alloc (.cells #[.pointer none,.int .i64 0,.int .i64 0,.int .i64 0,.slice none 0 0,.int .i64 0,.string ⟨#[]⟩] 237)).alloc (.cells #[.pointer (some ⟨p,0,none⟩),.int .i64 0,.int .i64 (mn:Int),.pointer (some ⟨p,0,none⟩),.int .i64 (mn:Int),.int .i64 (mn:Int)] 235)) (w1.heap.size+1) (pl6 p mn):=zaW (w1.alloc (.cells #[.pointer none,.int .i64 0,.int .i64 0,.int .i64 0,.slice none 0 0,.int .i64 0,.string ⟨#[]⟩] 237)) (pl6 p mn) _ (by simp) _ (by simp)
   have bl3:=chain bl2 (nb (w1.alloc (.cells #[.pointer none,.int .i64 0,.int .i64 0,.int .i64 0,.slice none 0 0,.int .i64 0,.string ⟨#[]⟩] 237)) (.cells #[.pointer (some ⟨p,0,none⟩),.int .i64 0,.int .i64 (mn:Int),.pointer (some ⟨p,0,none⟩),.int .i64 (mn:Int),.int .i64 (mn:Int)] 235));have bb3:=bb2.later (nb (w1.alloc (.cells #[.pointer none,.int .i64 0,.int .i64 0,.int .i64 0,.slice none 0 0,.int .i64 0,.string ⟨#[]⟩] 237)) (.cells #[.pointer (some ⟨p,0,none⟩),.int .i64 0,.int .i64 (mn:Int),.pointer (some ⟨p,0,none⟩),.int .i64 (mn:Int),.int .i64 (mn:Int)] 235));have bh3:=nw2.later (nb (w1.alloc (.cells #[.pointer none,.int .i64 0,.int .i64 0,.int .i64 0,.slice none 0 0,.int .i64 0,.string ⟨#[]⟩] 237)) (.cells #[.pointer (some ⟨p,0,none⟩),.int .i64 0,.int .i64 (mn:Int),.pointer (some ⟨p,0,none⟩),.int .i64 (mn:Int),.int .i64 (mn:Int)] 235));refine hKK.out _ _ ⟨zab hHeld2.1,zab hHeld2.2.1,zab hHeld2.2.2⟩ (fun hHeld3 => ?_);clear hKK KK;refine wpAnyH_ready (rs:=[4]) (by kernel_rfl) (by simp) ?_;refine AllReadyH.cons (o:=zlc) rfl (fun KK hKK => ?_) AllReadyH.nil;unfold zlc;go_simp
   refine cM (IU.out ((w1.alloc (.cells #[.pointer none,.int .i64 0,.int .i64 0,.int .i64 0,.slice none 0 0,.int .i64 0,.string ⟨#[]⟩] 237)).alloc (.cells #[.pointer (some ⟨p,0,none⟩),.int .i64 0,.int .i64 (mn:Int),.pointer (some ⟨p,0,none⟩),.int .i64 (mn:Int),.int .i64 (mn:Int)] 235)) (w1.heap.size+1) bl3 nw3) ?_;rintro e w4 ⟨xa,xn,xc,rfl,r4,nv4,hb4⟩;have bl4:=chain bl3 hb4;have bb4:=bb3.later hb4;have hlt:=bh3.lt;have hqs:=bl3.size;have bh4:=bh3.later hb4;have bs4:=bl3.size;refine hKK.out _ _ ⟨cell_later hb4 hHeld3.1,cell_later hb4 hHeld3.2.1,cell_later hb4 hHeld3.2.2⟩ (fun hHeld4 => ?_);clear hKK KK;refine wT 5 zgZ ?_ ?_ ?_;rotate_left
   ·intro w' hSw;clear hSw;unfold zgZ;first|(go_simp;done)|(go_simp;with_reducible rfl)
   simp only[zgZ,Act.put,wA,wB,wC];refine wT 6 zg0 ?_ ?_ ?_;rotate_left
   ·intro w' hSw;clear hSw;unfold zg0;first|(go_simp;done)|(go_simp;with_reducible rfl)
   simp only[zg0,Act.put,wA,wB,wC];refine wT 7 zg1 ?_ ?_ ?_;rotate_left
   ·intro w' hSw;clear hSw;unfold zg1;first|(go_simp;done)|(go_simp;with_reducible rfl)
   simp only[zg1,Act.put,wA,wB,wC];refine wpAnyH_ready (rs:=[9]) (by kernel_rfl) (by simp) ?_;refine AllReadyH.cons (o:=zle) rfl (fun KK hKK => ?_) AllReadyH.nil;have z0:=bh4.c 0 _ rfl;have z1:=bh4.c 1 _ rfl;have z2:=bh4.c 2 _ rfl;have z3:=bh4.c 3 _ rfl;have z4:=bh4.c 4 _ rfl;have z5:=bh4.c 5 _ rfl;have z6:=bh4.c 6 _ rfl;have zf:=bh4.f;have hne:B≠w1.heap.size:=fun e=>by have:=hz.out.2.1.lt;omega
   have FI:Hid _:=ziN (va:=va) (p:=p) (mn:=mn) (pp:=pp) (i1:=i1) (i2:=i2) (i3:=i3) (i5:=i5) (s6:=s6) (B:=B) (H:=w1.heap.size) (W:=((w1.alloc (.cells #[.pointer none,.int .i64 0,.int .i64 0,.int .i64 0,.slice none 0 0,.int .i64 0,.string ⟨#[]⟩] 237)).alloc (.cells #[.pointer (some ⟨p,0,none⟩),.int .i64 0,.int .i64 (mn:Int),.pointer (some ⟨p,0,none⟩),.int .i64 (mn:Int),.int .i64 (mn:Int)] 235))) r4 bl4 nv4 hqs bb4 hz.out.2.2 bh4 hlt (by have:=hz.out.2.1.lt;have:=hz.out.2.2;omega) hne;unfold zle;go_simp;refine hKK.out _ _ (znO hne hHeld4) (fun hHeld5 => ?_);clear hKK KK z0 z1 z2 z3 z4 z5 z6 zf;refine wT 10 zbX ?_ ?_ ?_;rotate_left
   ·intro w' hSw;clear hSw;unfold zbX;first|(go_simp;done)|(go_simp;with_reducible rfl)
   simp only[zbX,Act.put,wA,wB,wC];refine wpAnyH_done (by kernel_rfl) ?_ _;refine NoPanic.normal ?_;exact hQ.out _ _ _ _ _ _ _ _ _ _ _ _ _ FI.out
 ·unfold zld
  go_simp;have nw1:Blk (Z.alloc (.cells #[.pointer none,.int .i64 0,.int .i64 0,.int .i64 0,.slice none 0 0,.int .i64 0,.string ⟨#[]⟩] 237)) (Z.heap.size) hz0:=zaW Z hz0 _ (by simp) _ (by simp);have bl1:=chain hz.out.1 (nb Z (.cells #[.pointer none,.int .i64 0,.int .i64 0,.int .i64 0,.slice none 0 0,.int .i64 0,.string ⟨#[]⟩] 237));have bb1:=hz.out.2.1.later (nb Z (.cells #[.pointer none,.int .i64 0,.int .i64 0,.int .i64 0,.slice none 0 0,.int .i64 0,.string ⟨#[]⟩] 237));refine hKK.out _ _ ⟨zab hHeld.1,zab hHeld.2.1,zab hHeld.2.2⟩ (fun hHeld1 => ?_);clear hKK KK;refine wpAnyH_ready (rs:=[2]) (by kernel_rfl) (by simp) ?_;refine AllReadyH.cons (o:=zpH) rfl (fun KK hKK => ?_) AllReadyH.nil;unfold zpH;go_simp;refine cM (OT.out _) ?_;rintro e w2 ⟨rfl,hb2⟩;have sz2:=hb2.size;have bl2:=chain bl1 hb2;have bb2:=bb1.later hb2;have bh2:=nw1.later hb2;refine hKK.out _ _ ⟨cell_later hb2 hHeld1.1,cell_later hb2 hHeld1.2.1,cell_later hb2 hHeld1.2.2⟩ (fun hHeld2 => ?_);clear hKK KK;refine wpAnyH_ready (rs:=[3]) (by kernel_rfl) (by simp) ?_;refine AllReadyH.cons (o:=znN) rfl (fun KK hKK => ?_) AllReadyH.nil;unfold znN;go_simp;have nw3:Blk (w2.alloc (.cells #[.pointer (some ⟨p,0,none⟩),.int .i64 0,.int .i64 (mn:Int),.pointer (some ⟨p,0,none⟩),.int .i64 (mn:Int),.int .i64 (mn:Int)] 235)) (w2.heap.size) (pl6 p mn):=zaW w2 (pl6 p mn) _ (by simp) _ (by simp)
  have bl3:=chain bl2 (nb w2 (.cells #[.pointer (some ⟨p,0,none⟩),.int .i64 0,.int .i64 (mn:Int),.pointer (some ⟨p,0,none⟩),.int .i64 (mn:Int),.int .i64 (mn:Int)] 235));have bb3:=bb2.later (nb w2 (.cells #[.pointer (some ⟨p,0,none⟩),.int .i64 0,.int .i64 (mn:Int),.pointer (some ⟨p,0,none⟩),.int .i64 (mn:Int),.int .i64 (mn:Int)] 235));have bh3:=bh2.later (nb w2 (.cells #[.pointer (some ⟨p,0,none⟩),.int .i64 0,.int .i64 (mn:Int),.pointer (some ⟨p,0,none⟩),.int .i64 (mn:Int),.int .i64 (mn:Int)] 235));refine hKK.out _ _ ⟨zab hHeld2.1,zab hHeld2.2.1,zab hHeld2.2.2⟩ (fun hHeld3 => ?_);clear hKK KK;refine wpAnyH_ready (rs:=[4]) (by kernel_rfl) (by simp) ?_;refine AllReadyH.cons (o:=zlc) rfl (fun KK hKK => ?_) AllReadyH.nil;unfold zlc;go_simp;refine cM (IU.out (w2.alloc (.cells #[.pointer (some ⟨p,0,none⟩),.int .i64 0,.int .i64 (mn:Int),.pointer (some ⟨p,0,none⟩),.int .i64 (mn:Int),.int .i64 (mn:Int)] 235)) (w2.heap.size) bl3 nw3) ?_;rintro e w4 ⟨xa,xn,xc,rfl,r4,nv4,hb4⟩;have bl4:=chain bl3 hb4;have bb4:=bb3.later hb4;have hlt:=bh3.lt;have hqs:=bl3.size;have bh4:=bh3.later hb4;have bs4:=bl3.size;refine hKK.out _ _ ⟨cell_later hb4 hHeld3.1,cell_later hb4 hHeld3.2.1,cell_later hb4 hHeld3.2.2⟩ (fun hHeld4 => ?_);clear hKK KK;refine wT 5 zgZ ?_ ?_ ?_;rotate_left
  ·intro w' hSw;clear hSw;unfold zgZ;first|(go_simp;done)|(go_simp;with_reducible rfl)
  simp only[zgZ,Act.put,wA,wB,wC];refine wT 6 zg0 ?_ ?_ ?_;rotate_left
  ·intro w' hSw;clear hSw;unfold zg0;first|(go_simp;done)|(go_simp;with_reducible rfl)
  simp only[zg0,Act.put,wA,wB,wC];refine wT 7 zg1 ?_ ?_ ?_;rotate_left
  ·intro w' hSw;clear hSw;unfold zg1;first|(go_simp;done)|(go_simp;with_reducible rfl)
  simp only[zg1,Act.put,wA,wB,wC];refine wpAnyH_ready (rs:=[9]) (by kernel_rfl) (by simp) ?_;refine AllReadyH.cons (o:=zle) rfl (fun KK hKK => ?_) AllReadyH.nil;have z0:=bh4.c 0 _ rfl;have z1:=bh4.c 1 _ rfl;have z2:=bh4.c 2 _ rfl;have z3:=bh4.c 3 _ rfl;have z4:=bh4.c 4 _ rfl;have z5:=bh4.c 5 _ rfl;have z6:=bh4.c 6 _ rfl;have zf:=bh4.f;have hne:B≠Z.heap.size:=fun e=>by have:=hz.out.2.1.lt;omega
  have FI:Hid _:=ziN (va:=va) (p:=p) (mn:=mn) (pp:=pp) (i1:=i1) (i2:=i2) (i3:=i3) (i5:=i5) (s6:=s6) (B:=B) (H:=Z.heap.size) (W:=(w2.alloc (.cells #[.pointer (some ⟨p,0,none⟩),.int .i64 0,.int .i64 (mn:Int),.pointer (some ⟨p,0,none⟩),.int .i64 (mn:Int),.int .i64 (mn:Int)] 235))) r4 bl4 nv4 hqs bb4 hz.out.2.2 bh4 hlt (by have:=hz.out.2.1.lt;have:=hz.out.2.2;omega) hne;unfold zle;go_simp;refine hKK.out _ _ (znO hne hHeld4) (fun hHeld5 => ?_);clear hKK KK z0 z1 z2 z3 z4 z5 z6 zf;refine wT 10 zbX ?_ ?_ ?_;rotate_left
  ·intro w' hSw;clear hSw;unfold zbX;first|(go_simp;done)|(go_simp;with_reducible rfl)
  simp only[zbX,Act.put,wA,wB,wC];refine wpAnyH_done (by kernel_rfl) ?_ _;refine NoPanic.normal ?_;exact hQ.out _ _ _ _ _ _ _ _ _ _ _ _ _ FI.out
theorem zl4 (s:St):(us s (s.n / 2) 2=none/\(use s).2=0)\/(us s (s.n / 2) 2=some ((use s).1*(s.n / 2))/\(use s).2≠0/\gen (hb s ((use s).1*(s.n / 2)) (s.n / 2))=(use s).2/\(use s).1<=1):=by
 obtain⟨H,hH⟩:∃H,s.n / 2=H:=⟨_,rfl⟩;rw[hH];have e1:us s H 1=if 0 < gen (hb s 0 H) then some 0 else none:=by
  show (if gO s H none < gen (hb s (0*H) H) then some (0*H) else none)=_;rw[Nat.zero_mul];rfl
 have e2:us s H 2=if gO s H (us s H 1) < gen (hb s H H) then some H else us s H 1:=by
  show (if gO s H (us s H 1) < gen (hb s (1*H) H) then some (1*H) else us s H 1)=_;rw[Nat.one_mul]
 have e3:use s=if gen (hb s 0 H) < gen (hb s H H) then (1,gen (hb s H H)) else (0,gen (hb s 0 H)):=by
  unfold use;rw[hH]
 rw[e2,e1,e3];by_cases h0:0 < gen (hb s 0 H)
 ·rw[if_pos h0]
  by_cases h1:gen (hb s 0 H) < gen (hb s H H)
  ·rw[if_pos h1]
   exact .inr ⟨by rw[Nat.one_mul];exact if_pos (show gO s H (some 0) < _ from h1),by show gen (hb s H H)≠0;omega,by show gen (hb s (1*H) H)=_;rw[Nat.one_mul],nL _⟩
  ·rw[if_neg h1]
   exact .inr ⟨by rw[Nat.zero_mul];exact if_neg (show ¬gO s H (some 0) < _ from h1),by show gen (hb s 0 H)≠0;omega,by show gen (hb s (0*H) H)=_;rw[Nat.zero_mul],Nat.zero_le _⟩
 ·rw[if_neg h0]
  by_cases h1:0 < gen (hb s H H)
  ·rw[if_pos (show gen (hb s 0 H) < gen (hb s H H) by omega)]
   exact .inr ⟨by rw[Nat.one_mul];exact if_pos (show gO s H none < _ from h1),by show gen (hb s H H)≠0;omega,by show gen (hb s (1*H) H)=_;rw[Nat.one_mul],nL _⟩
  ·rw[if_neg (show ¬gen (hb s 0 H) < gen (hb s H H) by omega)]
   exact .inl ⟨if_neg (show ¬gO s H none < _ from h1),by show gen (hb s 0 H)=0;omega⟩
def OpP (w va:Wo) (p:Nat) (F:Nat->Prop) (mn:Nat) (y:Int×St) (x:Lo) (e:Ending) (w':Wo):Prop :=
 ∃F',Dl w w' p F' y.2/\Nx va F F'/\Bf F va w' /\
  (y.1=0/\(∃q v,e = .returned (.tuple #[.pointer (some ⟨q,0,none⟩),.int .i64 0])/\HD w w' p F' y.2 q (x.h*mn) mn x.g v x.ts x.tk x.mr []/\∀z,HFt q v z->va.heap.size<=z)\/y.1≠0/\e = .returned (.tuple #[.pointer none,.int .i64 y.1]))
theorem zfk (w va:Wo) (p:Nat) (F:Nat->Prop) (s:St) (hn:s.n / 2 < 2) (h:Hid (Dl w va p F s)) :
  Cl 76 #[.pointer (some ⟨p,0,none⟩)] va fun e w'=>e = .returned (.tuple #[.pointer none,.int .i64 4])/\w'=va:=by
 have SZ:Hid _:=zbG p F s va h.out.at_;have hn2:=h.out.at_.1.n2;obtain⟨n,hnn⟩:∃n,s.n=n:=⟨_,rfl⟩;rw[hnn] at SZ hn hn2;have y1:(n:Int) / 2=((n / 2:Nat):Int):=by omega
 obtain⟨mn,hmn⟩:∃mn,n / 2=mn:=⟨_,rfl⟩;rw[hmn] at y1 hn;have y2:IntKind.i64.wrap (mn:Int)=(mn:Int):=by rw[IntKind.wrap_i64];omega
 have y3:(mn:Int) < 2:=by omega
 clear h hnn;go_enter Tryz.func76, Tryz.ntmps76;go_wp2_with fail;refine cM SZ.out ?_;rintro e w1 ⟨rfl,rfl⟩;go_wp2;go_ret2;exact⟨rfl,rfl⟩
theorem zg2 (w va:Wo) (p:Nat) (F:Nat->Prop) (s:St) (hn:2<=s.n / 2) (hd:s.down=true) (h:Hid (Dl w va p F s)) :
  Cl 76 #[.pointer (some ⟨p,0,none⟩)] va fun e w'=>e = .returned (.tuple #[.pointer none,.int .i64 150])/\Bw va w':=by
 have SZ:Hid _:=zbG p F s va h.out.at_;have hn2:=h.out.at_.1.n2;have HN:Hid (2*(s.n / 2)<=s.n):=(show 2*(s.n / 2)<=s.n by omega);obtain⟨mn,hmn⟩:∃mn,s.n / 2=mn:=⟨_,rfl⟩;rw[hmn] at HN hn;have IU:Hid (∀V P,Bw va V->Blk V P (pl6 p mn)->Cl 138 #[.slice (some ⟨P,0,none⟩) 2 2] V fun e w'=>∃xa xn xc,e = .returned (.tuple #[.agg #[.pointer none,.int .i64 0,.int .i64 0,.int .i64 0,.slice xa xn xc,.int .i64 0,.string ⟨#[]⟩],.int .i64 150])/\OwnsS w' (.slice xa xn xc) []/\(∀y,(Value.slice xa xn xc).ownBlock=some y->V.heap.size<=y)/\Bw V w'):=fun V P hb bk =>
  (zff w V p F s mn P (by omega) HN.out hd (h.out.later hb) bk).mono fun _ _ ⟨he,hb⟩=>⟨none,0,0,he,zan _,nofun,hb⟩
 have OT:Hid (∀w,Cl 139 #[.agg #[.pointer (some ⟨p,0,none⟩),.int .i64 0,.int .i64 (mn:Int)]] w fun e w'=>e = .returned (.agg #[.pointer (some ⟨p,0,none⟩),.int .i64 (mn:Int),.int .i64 (mn:Int)])/\Bw w w'):=fun w=>zbn w p 0 mn (Nat.zero_le _) (by omega)
 have HW:Hid (Bw va (va.alloc (.cells #[.pointer (some ⟨p,0,none⟩),.int .i64 0,.int .i64 (mn:Int)] 235))/\Blk (va.alloc (.cells #[.pointer (some ⟨p,0,none⟩),.int .i64 0,.int .i64 (mn:Int)] 235)) va.heap.size [.pointer (some ⟨p,0,none⟩),.int .i64 0,.int .i64 (mn:Int)]/\va.heap.size<=va.heap.size):=⟨nb _ _,Blk.new va _ _ (by simp),nL _⟩;obtain⟨n,hnn⟩:∃n,s.n=n:=⟨_,rfl⟩;rw[hnn] at SZ hmn hn2;have y1:(n:Int) / 2=(mn:Int):=by omega
 have y2:IntKind.i64.wrap (mn:Int)=(mn:Int):=by rw[IntKind.wrap_i64];omega
 have y3:¬(mn:Int) < 2:=by omega
 clear h hnn hmn hd hn HN;go_enter Tryz.func76, Tryz.ntmps76;go_wp2_with fail;refine cM SZ.out ?_;rintro e w1 ⟨rfl,rfl⟩;go_upto_region 7 with fail
 refine zbw p mn none 0 0 0 0 ⟨#[]⟩ [] 150 w1 _ w1.heap.size HW OT IU _ _ _ _ _ _ _ _ _ _ _ ?_;intro H xa xn xc wx u18 u19 u20 u21 u22 u23 u24 u25 I;have FF:Hid (Bw w1 wx):=I.bl;clear I IU OT HW SZ;go_wp2;go_ret2;exact⟨rfl,FF.out⟩
theorem ziO {w va wx:Wo} {p:Nat} {F:Nat->Prop} {s:St} {fr mn g:Nat} {v:Value} {ts:List Bs} {tk:Nat} {m:Bs} (ty:TypeId) (hd:Dl w wx p F s) (r:OwnsS wx v ts) (hv:∀z,v.ownBlock=some z->va.heap.size<=z/\¬F z) (h1:w.heap.size<=va.heap.size) (h2:va.heap.size<=wx.heap.size) :
  HD w (wx.alloc (.cells (hc p fr mn g v tk m []).toArray ty)) p F s wx.heap.size fr mn g v ts tk m []/\∀z,HFt wx.heap.size v z->va.heap.size<=z:=by
 refine⟨⟨hd.later (nb _ _),⟨Blk.new wx _ _ (by simp),ownsRow_same r (fun x e=>(nb wx _).block x (r.lt x e).2),fun e=>Nat.lt_irrefl _ (r.lt _ e).2⟩,fun z e => ?_⟩,fun z e => ?_⟩
 ·rcases e with e|e
  ·rw[e]
   exact⟨fun c=>Nat.lt_irrefl _ (hd.at_.lt c),by omega⟩
  ·have:=hv z e
   exact⟨this.2,by omega⟩
 ·rcases e with e|e
  ·rw[e]
   exact h2
  ·exact (hv z e).1
theorem zcw (b:Nat):∀(vs:List Value) (o:Nat) (w:Wo),(w.setCells b o vs).heap.size=w.heap.size
 | [],_,_=>rfl
 | v::vs,o,w=>by rw[World.setCells,zcw b vs];simp
theorem Dl.sets {w wr:Wo} {p:Nat} {F:Nat->Prop} {s:St} (h:Dl w wr p F s) {H:Nat} (hF:¬F H) (hw:w.heap.size<=H) (vs:List Value):Dl w (wr.setCells H 0 vs) p F s :=
 ⟨h.at_.other (Bf.sets (fun x=>x=H) H rfl vs 0 wr) (fun x e d=>hF (by rw[<-d];exact e)),h.new,zah hw _ 0 h.below⟩
theorem ziP (w va:Wo) (p:Nat) (F:Nat->Prop) (s:St) (hn:2<=s.n / 2) (hd:s.down=false) (hu:(use s).2=0) (hl:s.l.length+2000<=1000000) (hk:Hid (Kh w)) (h:Hid (Dl w va p F s)) :
  Cl 76 #[.pointer (some ⟨p,0,none⟩)] va fun e w'=>OpP w va p F (s.n / 2) (bgn s 0 (s.n / 2) 1 []) ⟨0,1,[]⟩ e w':=by
 have SZ:Hid _:=zbG p F s va h.out.at_;have hn2:=h.out.at_.1.n2;have HN:Hid (2*(s.n / 2)<=s.n):=(show 2*(s.n / 2)<=s.n by omega);have HU:us s (s.n / 2) 2=none:=by
  rcases zl4 s with ⟨e,-⟩|⟨-,e,-⟩
  ·exact e
  ·exact absurd hu e
 obtain⟨mn,hmn⟩:∃mn,s.n / 2=mn:=⟨_,rfl⟩;rw[hmn] at HN hn HU ⊢;have IU:Hid (∀V P,Bw va V->Blk V P (pl6 p mn)->Cl 138 #[.slice (some ⟨P,0,none⟩) 2 2] V fun e w'=>∃xa xn xc,e = .returned (.tuple #[.agg #[.pointer none,.int .i64 0,.int .i64 0,.int .i64 0,.slice xa xn xc,.int .i64 0,.string ⟨#[]⟩],.int .i64 0])/\OwnsS w' (.slice xa xn xc) []/\(∀y,(Value.slice xa xn xc).ownBlock=some y->V.heap.size<=y)/\Bw V w'):=fun V P hb bk =>
  (zex w V p F s mn P (by omega) HN.out hd hk (h.out.later hb) bk).mono fun _ _ ⟨v,he,_,_,hb⟩=>⟨none,0,0,by rw[he,HU];rfl,zan _,nofun,hb⟩
 have OT:Hid (∀w,Cl 139 #[.agg #[.pointer (some ⟨p,0,none⟩),.int .i64 0,.int .i64 (mn:Int)]] w fun e w'=>e = .returned (.agg #[.pointer (some ⟨p,0,none⟩),.int .i64 (mn:Int),.int .i64 (mn:Int)])/\Bw w w'):=fun w=>zbn w p 0 mn (Nat.zero_le _) (by omega)
 have HW:Hid (Bw va (va.alloc (.cells #[.pointer (some ⟨p,0,none⟩),.int .i64 0,.int .i64 (mn:Int)] 235))/\Blk (va.alloc (.cells #[.pointer (some ⟨p,0,none⟩),.int .i64 0,.int .i64 (mn:Int)] 235)) va.heap.size [.pointer (some ⟨p,0,none⟩),.int .i64 0,.int .i64 (mn:Int)]/\va.heap.size<=va.heap.size):=⟨nb _ _,Blk.new va _ _ (by simp),nL _⟩;have BG:Hid (∀V,Bw va V->Cl 140 #[.agg #[.pointer (some ⟨p,0,none⟩),.int .i64 0,.int .i64 (mn:Int)],.int .i64 1,.slice none 0 0] V fun e w'=>BnP w V p F 0 mn 1 [] (bgn s 0 mn 1 []) e w'):=fun V hb =>
  zcW w V p F s 0 mn 1 none 0 0 [] (by omega) (by omega) rfl nofun (by show 1<=mn;omega) (by omega) hk (h.out.later hb) (zbq.nil _ _) (fun x e=>by cases e)
 have HWV:Hid (w.heap.size<=va.heap.size):=h.out.below.size;have NFF:Hid (∀x,F x->x < va.heap.size):=fun x c=>h.out.at_.lt c
 obtain⟨y,hy⟩:∃y,bgn s 0 mn 1 []=y:=⟨_,rfl⟩;rw[hy] at BG ⊢;obtain⟨n,hnn⟩:∃n,s.n=n:=⟨_,rfl⟩;rw[hnn] at SZ hmn hn2;have y1:(n:Int) / 2=(mn:Int):=by omega
 have y2:IntKind.i64.wrap (mn:Int)=(mn:Int):=by rw[IntKind.wrap_i64];omega
 have y3:¬(mn:Int) < 2:=by omega
 clear h hnn hmn hd hn HN HU hy hu hl hk;go_enter Tryz.func76, Tryz.ntmps76;go_wp2_with fail;refine cM SZ.out ?_;rintro e w1 ⟨rfl,rfl⟩;go_upto_region 7 with fail
 refine zbw p mn none 0 0 0 0 ⟨#[]⟩ [] 0 w1 _ w1.heap.size HW OT IU _ _ _ _ _ _ _ _ _ _ _ ?_;intro H xa xn xc wx u18 u19 u20 u21 u22 u23 u24 u25 I;have J:Hid _:=I;have k3:=I.bk.c 3 _ rfl;have b0:=I.b1.c 0 _ rfl;have b1:=I.b1.c 1 _ rfl;have b2:=I.b1.c 2 _ rfl;have BB:Hid _:=BG.out wx I.bl;clear I IU OT HW SZ BG;go_wp2_with fail;refine cM BB.out ?_;rintro e w2 ⟨F2,d1,d2,d3,hres⟩;have HB:∀x,x < wx.heap.size->¬F x->w2.heap[x]?=wx.heap[x]?:=fun x hx hF=>d3.block x hx hF
 have nF:∀x,w1.heap.size<=x->x < wx.heap.size->¬F x:=fun x hx _ c=>by
  have:=J.out.bl.size;exact absurd (NFF.out x c) (by omega)
 have bk2:Blk w2 H (hq7 none 0 0 0 xa xn xc 0 ⟨#[]⟩):=J.out.bk.same (HB H J.out.bk.lt (nF H J.out.nH J.out.bk.lt));have F2H:¬F2 H:=fun c=>by
  rcases d2 H c with e|e
  ·exact nF H J.out.nH J.out.bk.lt e
  ·have:=J.out.bk.lt
   omega
 have W1:w1.heap.size<=w2.heap.size:=Nat.le_trans J.out.bl.size d3.size;have BF:Hid (∀vs,Bf F w1 (w2.setCells H 0 vs)):=fun vs=>((Bf.of (F:=F) J.out.bl).trans (Nx.refl _ _) d3).trans (fun x e => .inr (by rw[e];exact J.out.nH)) (Bf.sets (fun x=>x=H) H rfl vs 0 w2)
 have NX:Hid (Nx w1 F F2):=(Nx.refl w1 F).trans d2 J.out.bl.size;have z0:=bk2.c 0 _ rfl;have z1:=bk2.c 1 _ rfl;have z2:=bk2.c 2 _ rfl;have z3:=bk2.c 3 _ rfl;have z4:=bk2.c 4 _ rfl;have z5:=bk2.c 5 _ rfl;have z6:=bk2.c 6 _ rfl;have zf:=bk2.f;rcases hres with ⟨h0,v2,rfl,r2,n2⟩|⟨h0,rfl⟩
 ·obtain⟨ya,yn,yc,rfl⟩:=owns_sliceS r2
  have e7:hv p 0 mn 1 (.slice ya yn yc) (tkn 1 []) (mks (hm 1) []) = .agg #[.pointer (some ⟨p,0,none⟩),.int .i64 0,.int .i64 (mn:Int),.int .i64 1,.slice ya yn yc,.int .i64 1,.string (st (hm 1))]:=rfl;rw[e7];have FF:Hid (OpP w w1 p F mn y ⟨0,1,[]⟩ (.returned (.tuple #[.pointer (some ⟨w2.heap.size,0,none⟩),.int .i64 0])) ((w2.setCells H 0 (hc p 0 mn 1 (.slice ya yn yc) 1 (hm 1) [])).alloc (.cells #[.pointer (some ⟨p,0,none⟩),.int .i64 0,.int .i64 (mn:Int),.int .i64 1,.slice ya yn yc,.int .i64 1,.string (st (hm 1))] 243))):=by
   have dz:=d1.sets F2H (Nat.le_trans HWV.out J.out.nH) (hc p 0 mn 1 (.slice ya yn yc) 1 (hm 1) []);have rz:OwnsS (w2.setCells H 0 (hc p 0 mn 1 (.slice ya yn yc) 1 (hm 1) [])) (.slice ya yn yc) []:=ownsRow_same r2 (fun x e=>zac w2 H 0 _ x (fun d=>by have:=(n2 x e).1;have:=J.out.bk.lt;omega));have hb:=ziO (va:=w1) (fr:=0) (mn:=mn) (g:=1) (tk:=1) (m:=hm 1) 243 dz rz (fun z e=>⟨Nat.le_trans J.out.bl.size (n2 z e).1,(n2 z e).2⟩) HWV.out (by rw[zcw];exact W1);rw[zcw] at hb;refine⟨F2,hb.1.dl,NX.out,(BF.out _).later (nb _ _),.inl ⟨h0,w2.heap.size,.slice ya yn yc,rfl,?_,hb.2⟩⟩;have e8:(⟨0,1,[]⟩:Lo).h*mn=0:=Nat.zero_mul _;rw[e8];exact hb.1
  clear J BB d1 d2 d3 HB nF bk2 F2H W1 BF NX r2 n2 e7;go_wp2;go_ret2;exact FF.out
 ·have FF:Hid (OpP w w1 p F mn y ⟨0,1,[]⟩ (.returned (.tuple #[.pointer none,.int .i64 y.1])) (w2.setCells H 0 hz0)) :=
   ⟨F2,d1.sets F2H (Nat.le_trans HWV.out J.out.nH) hz0,NX.out,BF.out _,.inr ⟨h0,rfl⟩⟩
  obtain⟨x,hx⟩:∃x,y.1=x:=⟨_,rfl⟩;rw[hx] at h0 FF ⊢;clear J BB d1 d2 d3 HB nF bk2 F2H W1 BF NX hx;go_wp2;go_ret2;exact FF.out
theorem zgh:∀(m d:Nat) (b a:Bs) (k:Nat),b.length=64*d->tkn k (zb7 m b a)<=k+d
 | 0,_,_,_,_,_=>Nat.le_add_right _ _
 | m+1,d,b,a,k,hb=>by
  rw[zb7]
  split
  ·exact Nat.le_add_right _ _
  ·rename_i t ht
   have hl:=zen ht;rw[tkn];have:=zgh m (d - sn t) (b.drop (64*sn t)) (rmk a t) (k+sn t) (by rw[List.length_drop];omega);omega
theorem zlf {s:St} (h:Ok s) (k H g:Nat) (hH:1<=H):tkn 1 (zdP s k H g)<=H:=by
 have:=zgh H (H - 1) ((hb s k H).drop 64) (hm g) 1 (by rw[List.length_drop,zcQ h];omega);unfold zdP;omega
theorem ziQ (w va:Wo) (p:Nat) (F:Nat->Prop) (s:St) (hn:2<=s.n / 2) (hd:s.down=false) (hu:(use s).2≠0) (hl:s.l.length+2000<=1000000) (hk:Hid (Kh w)) (h:Hid (Dl w va p F s)) :
  Cl 76 #[.pointer (some ⟨p,0,none⟩)] va fun e w'=>OpP w va p F (s.n / 2) (cln s ((use s).1*(s.n / 2)+tkn 1 (zdP s ((use s).1*(s.n / 2)) (s.n / 2) (use s).2)) (s.n / 2 - tkn 1 (zdP s ((use s).1*(s.n / 2)) (s.n / 2) (use s).2))) ⟨(use s).1,(use s).2,zdP s ((use s).1*(s.n / 2)) (s.n / 2) (use s).2⟩ e w':=by
 have SZ:Hid _:=zbG p F s va h.out.at_;have hn2:=h.out.at_.1.n2;have HN:Hid (2*(s.n / 2)<=s.n):=(show 2*(s.n / 2)<=s.n by omega);have RF:=zlf h.out.at_.1 ((use s).1*(s.n / 2)) (s.n / 2) (use s).2 (by omega);have HU:us s (s.n / 2) 2=some ((use s).1*(s.n / 2))/\gen (hb s ((use s).1*(s.n / 2)) (s.n / 2))=(use s).2/\(use s).1<=1:=by
  rcases zl4 s with ⟨-,e⟩|⟨e,-,e2,e3⟩
  ·exact absurd e hu
  ·exact⟨e,e2,e3⟩
 obtain⟨mn,hmn⟩:∃mn,s.n / 2=mn:=⟨_,rfl⟩;obtain⟨hh,hhh⟩:∃hh,(use s).1=hh:=⟨_,rfl⟩;obtain⟨g,hg⟩:∃g,(use s).2=g:=⟨_,rfl⟩;rw[hmn,hhh,hg] at HU;rw[hmn,hhh,hg] at RF;rw[hmn] at HN hn;rw[hmn,hhh,hg];rw[hg] at hu;obtain⟨fr,hfr⟩:∃fr,hh*mn=fr:=⟨_,rfl⟩;rw[hfr] at HU RF ⊢;have h2:fr+mn<=s.n:=by
  have:=HN.out;rcases (by have:=HU.2.2;omega:hh=0\/hh=1) with rfl|rfl
  ·rw[Nat.zero_mul] at hfr
   omega
  ·rw[Nat.one_mul] at hfr
   omega
 have eT:fT s fr mn=zdP s fr mn g:=by rw[fT,HU.2.1,if_neg hu]
 have eK:fK s fr mn=tkn 1 (zdP s fr mn g):=by rw[fK,HU.2.1,if_neg hu,eT]
 have eM:fM s fr mn=mks (hm g) (zdP s fr mn g):=by rw[fM,HU.2.1,if_neg hu,eT]
 obtain⟨tl,htl⟩:∃tl,zdP s fr mn g=tl:=⟨_,rfl⟩;obtain⟨tk,htk⟩:∃tk,tkn 1 tl=tk:=⟨_,rfl⟩;obtain⟨m,hmm⟩:∃m,mks (hm g) tl=m:=⟨_,rfl⟩;rw[htl] at eT eK eM RF ⊢;rw[htk] at eK RF ⊢;rw[hmm] at eM;have IU:Hid (∀V P,Bw va V->Blk V P (pl6 p mn)->Cl 138 #[.slice (some ⟨P,0,none⟩) 2 2] V fun e w'=>∃xa xn xc,e = .returned (.tuple #[.agg #[.pointer (some ⟨p,0,none⟩),.int .i64 (fr:Int),.int .i64 (mn:Int),.int .i64 (g:Int),.slice xa xn xc,.int .i64 (tk:Int),.string (st m)],.int .i64 0])/\OwnsS w' (.slice xa xn xc) tl/\(∀y,(Value.slice xa xn xc).ownBlock=some y->V.heap.size<=y)/\Bw V w'):=fun V P hbv bk =>
  (zex w V p F s mn P (by omega) HN.out hd hk (h.out.later hbv) bk).mono fun _ _ ⟨v,he,r,nv,hbl⟩=>by
   rw[HU.1] at he r;have r':OwnsS _ v (fT s fr mn):=r;rw[eT] at r';obtain⟨xa,xn,xc,rfl⟩:=owns_sliceS r';refine⟨xa,xn,xc,?_,r',nv,hbl⟩;rw[he];show Ending.returned (.tuple #[.agg (hc p fr mn (gen (hb s fr mn)) (.slice xa xn xc) (fK s fr mn) (fM s fr mn) []).toArray,_])=_
   rw[HU.2.1,eK,eM];rfl
 have OT:Hid (∀w,Cl 139 #[.agg #[.pointer (some ⟨p,0,none⟩),.int .i64 0,.int .i64 (mn:Int)]] w fun e w'=>e = .returned (.agg #[.pointer (some ⟨p,0,none⟩),.int .i64 (mn:Int),.int .i64 (mn:Int)])/\Bw w w'):=fun w=>zbn w p 0 mn (Nat.zero_le _) (by omega)
 have HW:Hid (Bw va (va.alloc (.cells #[.pointer (some ⟨p,0,none⟩),.int .i64 0,.int .i64 (mn:Int)] 235))/\Blk (va.alloc (.cells #[.pointer (some ⟨p,0,none⟩),.int .i64 0,.int .i64 (mn:Int)] 235)) va.heap.size [.pointer (some ⟨p,0,none⟩),.int .i64 0,.int .i64 (mn:Int)]/\va.heap.size<=va.heap.size):=⟨nb _ _,Blk.new va _ _ (by simp),nL _⟩;have HWV:Hid (w.heap.size<=va.heap.size):=h.out.below.size;have NFF:Hid (∀x,F x->x < va.heap.size):=fun x c=>h.out.at_.lt c
 have CL:Hid (∀V H xa xn xc,Oi va p mn (some ⟨p,0,none⟩) (fr:Int) (mn:Int) (g:Int) (tk:Int) (st m) tl va.heap.size H xa xn xc V->HD w V p F s H fr mn g (.slice xa xn xc) tl tk m []/\Cl 141 #[.pointer (some ⟨H,0,none⟩)] V fun e w'=>e = .returned (.int .i64 (cln s (fr+tk) (mn - tk)).1)/\Ds w V p F (cln s (fr+tk) (mn - tk)).2 w'):=fun V H xa xn xc I=>by
  have hd1:HD w V p F s H fr mn g (.slice xa xn xc) tl tk m []:=by
   refine⟨h.out.later I.bl,⟨I.bk,I.row,I.vH⟩,fun x e => ?_⟩;have hx:va.heap.size<=x:=by
    rcases e with e|e
    ·rw[e];exact I.nH
    ·exact I.nv x e
   exact⟨fun c=>by have:=NFF.out x c;omega,Nat.le_trans HWV.out hx⟩
  exact⟨hd1,zcU w V p F s H fr mn g (.slice xa xn xc) tl tk m [] (by omega) h2 RF (by omega) hd1⟩
 have EX:Hid (∀z,OpP w va p F mn z ⟨hh,g,tl⟩=OpP w va p F mn z ⟨hh,g,tl⟩):=fun _=>rfl
 have HFR:Hid (hh*mn=fr/\tkn 1 tl=tk/\mks (hm g) tl=m):=⟨hfr,htk,hmm⟩;obtain⟨y,hy⟩:∃y,cln s (fr+tk) (mn - tk)=y:=⟨_,rfl⟩;rw[hy] at CL ⊢;have gg:¬(g:Int)=0:=by omega
 obtain⟨n,hnn⟩:∃n,s.n=n:=⟨_,rfl⟩;rw[hnn] at SZ hmn hn2;have y1:(n:Int) / 2=(mn:Int):=by omega
 have y2:IntKind.i64.wrap (mn:Int)=(mn:Int):=by rw[IntKind.wrap_i64];omega
 have y3:¬(mn:Int) < 2:=by omega
 clear h hnn hmn hd hn HN HU hy hu hl hk hhh hg hfr htl htk hmm eT eK eM RF h2 EX;go_enter Tryz.func76, Tryz.ntmps76;go_wp2_with fail;refine cM SZ.out ?_;rintro e w1 ⟨rfl,rfl⟩;go_upto_region 7 with fail
 refine zbw p mn (some ⟨p,0,none⟩) (fr:Int) (mn:Int) (g:Int) (tk:Int) (st m) tl 0 w1 _ w1.heap.size HW OT IU _ _ _ _ _ _ _ _ _ _ _ ?_;intro H xa xn xc wx u18 u19 u20 u21 u22 u23 u24 u25 I;have J:Hid _:=I;have k3:=I.bk.c 3 _ rfl;have CC:=CL.out wx H xa xn xc I;have HH:Hid _:=CC.1;have CD:Hid _:=CC.2;clear I IU OT HW SZ CL CC;go_wp2_with fail;refine cM CD.out ?_;rintro e w2 ⟨rfl,F2,d1,d2,d3⟩;have K2:Hid (HD w w2 p F2 y.2 H fr mn g (.slice xa xn xc) tl tk m []):=HH.out.disk d1 d2 d3;have BF:Hid (Bf F w1 w2/\Nx w1 F F2):=⟨(Bf.of (F:=F) J.out.bl).trans (Nx.refl _ _) d3,(Nx.refl w1 F).trans d2 J.out.bl.size⟩;have NV:Hid _:=J.out.nv;clear d1 d2 d3 J HH CD k3;obtain⟨x,hx⟩:∃x,y.1=x:=⟨_,rfl⟩;have HX:Hid (y.1=x):=hx;rw[hx];clear hx;by_cases h0:x=0
 ·subst h0
  have k0:=K2.out.hf.bk.c 0 _ rfl;have k1:=K2.out.hf.bk.c 1 _ rfl;have k2:=K2.out.hf.bk.c 2 _ rfl;have k3:=K2.out.hf.bk.c 3 _ rfl;have k4:=K2.out.hf.bk.c 4 _ rfl;have k5:=K2.out.hf.bk.c 5 _ rfl;have k6:=K2.out.hf.bk.c 6 _ rfl;have FF:Hid (OpP w w1 p F mn y ⟨hh,g,tl⟩ (.returned (.tuple #[.pointer (some ⟨w2.heap.size,0,none⟩),.int .i64 0])) (w2.alloc (.cells #[.pointer (some ⟨p,0,none⟩),.int .i64 (fr:Int),.int .i64 (mn:Int),.int .i64 (g:Int),.slice xa xn xc,.int .i64 (tk:Int),.string (st m)] 243))):=by
   have hb:=ziO (va:=w1) (fr:=fr) (mn:=mn) (g:=g) (tk:=tk) (m:=m) 243 K2.out.dl K2.out.hf.row (fun z e=>⟨NV.out z e,(K2.out.ap z (.inr e)).1⟩) HWV.out BF.out.1.size;refine⟨F2,hb.1.dl,BF.out.2,BF.out.1.later (nb _ _),.inl ⟨HX.out,w2.heap.size,.slice xa xn xc,rfl,?_,hb.2⟩⟩;have e8:(⟨hh,g,tl⟩:Lo).h*mn=fr:=HFR.out.1;have e9:(⟨hh,g,tl⟩:Lo).tk=tk:=HFR.out.2.1;have e10:(⟨hh,g,tl⟩:Lo).mr=m:=HFR.out.2.2;rw[e8,e9,e10];exact hb.1
  unfold sv at k6;clear K2 BF NV HX;go_wp2;go_ret2;exact FF.out
 ·have FF:Hid (OpP w w1 p F mn y ⟨hh,g,tl⟩ (.returned (.tuple #[.pointer none,.int .i64 x])) w2):=⟨F2,K2.out.dl,BF.out.2,BF.out.1,.inr ⟨by rw[HX.out];exact h0,by rw[HX.out]⟩⟩
  clear K2 BF NV HX;go_wp2;go_ret2;exact FF.out
theorem ziR (w va:Wo) (p:Nat) (F:Nat->Prop) (s:St) (hn:2<=s.n / 2) (hl:s.l.length+2000<=1000000) (hk:Hid (Kh w)) (h:Hid (Dl w va p F s)) :
  Cl 76 #[.pointer (some ⟨p,0,none⟩)] va fun e w'=>OpP w va p F (s.n / 2) (opn s).1 (opn s).2 e w':=by
 unfold opn;rw[if_neg (by omega)];by_cases hd:s.down=true
 ·rw[if_pos hd]
  exact (zg2 w va p F s hn hd h).mono fun _ _ ⟨he,hb⟩=>⟨F,h.out.later hb,Nx.refl _ _,Bf.of hb,.inr ⟨by show (150:Int)≠0;decide,he⟩⟩
 ·rw[if_neg hd]
  by_cases hu:(use s).2=0
  ·rw[if_pos hu]
   exact ziP w va p F s hn (by simpa using hd) hu hl hk h
  ·rw[if_neg hu]
   exact ziQ w va p F s hn (by simpa using hd) hu hl hk h
end Go.Proofs.YtjcppbhgjchjaaaGreatDoor.Sto
