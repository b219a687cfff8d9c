/- A part of the walk. -/
import Derived.Test.YtjcppbhgjchjaaaGreatDoorZr3G33
set_option maxHeartbeats 8000000
set_option maxRecDepth 20000
namespace Go.Proofs.YtjcppbhgjchjaaaGreatDoor.Sto
open Go.RowKit Go.Proofs.Fd Go.Proofs.Dk Go.Proofs.Lg
theorem ziS (q p fr mn g:Nat) (v:Value) (ts:List Bs) (tk:Nat) (m:Bs) (more:List Value) (w:Wo) (h1:tk<=mn) (h2:mn<=1024) (h:Hid (Hf w q p fr mn g v ts tk m more)) :
  Cl 205 #[.pointer (some ⟨q,0,none⟩)] w fun e w'=>e = .returned (.int .i64 ((mn - tk:Nat):Int))/\Bw w w':=by
 have k2:=h.out.bk.c 2 _ rfl;have k5:=h.out.bk.c 5 _ rfl;have y1:IntKind.i64.wrap ((mn - tk:Nat):Int)=((mn - tk:Nat):Int):=by rw[IntKind.wrap_i64];omega
 have y2:(mn:Int) - (tk:Int)=((mn - tk:Nat):Int):=by omega
 obtain⟨d,hd⟩:∃d,mn - tk=d:=⟨_,rfl⟩;rw[hd] at y1 y2 ⊢;clear hd h;go_enter Tryz.func205, Tryz.ntmps205;go_wp2_with fail;go_region_with fail
 all_goals
  go_wp2;go_ret;exact⟨rfl,(bQ _ _).drew⟩
theorem zg3 (w va:Wo) (p:Nat) (F:Nat->Prop) (s:St) (q fr mn g:Nat) (v:Value) (ts:List Bs) (tk:Nat) (m:Bs) (more:List Value) (hl:s.l.length<=1000000) (h:Hid (HD w va p F s q fr mn g v ts tk m more)) :
  Cl 132 #[.pointer (some ⟨q,0,none⟩)] va fun e w'=>e = .returned (.int .i64 (syE s))/\Ds w va p F (syS s) w':=by
 have k0:=h.out.hf.bk.c 0 _ rfl;have k1:=h.out.hf.bk.c 1 _ rfl;have k2:=h.out.hf.bk.c 2 _ rfl;have SY:Hid _:=zbI w va p F s fr mn hl h.out.dl;unfold plc at SY;obtain⟨x,hx⟩:∃x,syE s=x:=⟨_,rfl⟩;obtain⟨t,ht⟩:∃t,syS s=t:=⟨_,rfl⟩;rw[hx,ht] at SY ⊢;clear hx ht h;go_enter Tryz.func132, Tryz.ntmps132;go_wp2_with fail;refine cM SY.out ?_;rintro e w1 ⟨rfl,hd⟩;have FF:Hid _:=hd;clear hd;go_wp2;go_ret;exact⟨rfl,FF.out⟩
def apR (s:St) (fr mn tk:Nat) (m t:Bs):Int×St:=if may t≠0 then (may t,s) else if mn < tk+sn t then (151,s) else wrb s (fr+tk) (rcd m t)
theorem zcX {t:Bs} (h:may t=0):1<=t.length/\t.length<=2000:=by
 unfold may at h
 split at h
 ·simp at h
 ·split at h
  ·simp at h
  ·omega
theorem zfl (w va:Wo) (p:Nat) (F:Nat->Prop) (s:St) (q fr mn g:Nat) (v:Value) (ts:List Bs) (tk:Nat) (m:Bs) (X:Ba) (hm:m.length=16) (hts:ts.length<=100000) (htk:tk<=mn) (hmn:mn<=1024) (hz:fr<=1024) (hl:s.l.length+100<=1000000) (hk:Hid (Kh w)) (h:Hid (HD w va p F s q fr mn g v ts tk m [])) :
  Cl 130 #[.pointer (some ⟨q,0,none⟩),.string X] va fun e w'=>e = .returned (.int .i64 (apR s fr mn tk m X.data.toList).1)/\AdP w va p F q fr mn g v ts tk m [] X.data.toList (apR s fr mn tk m X.data.toList) w':=by
 have CH:Hid _:=zcT X va;have STAY:∀x:Int,x≠0->∀W,Bw va W->AdP w va p F q fr mn g v ts tk m [] X.data.toList (x,s) W:=fun x hx W hb=>⟨F,v,Nx2.refl _ _ _ _,Bf.of hb,.inr ⟨hx,h.out.later hb⟩⟩
 unfold apR;by_cases h1:may X.data.toList≠0
 ·rw[if_pos h1]
  have FF:Hid _:=STAY _ h1 va (bQ _ _);obtain⟨x,hx⟩:∃x,may X.data.toList=x:=⟨_,rfl⟩;rw[hx] at CH h1 FF ⊢;clear hx h STAY;go_enter Tryz.func130, Tryz.ntmps130;go_wp2_with fail;refine cM CH.out ?_;rintro e w1 ⟨rfl,rfl⟩;go_wp2;go_ret;exact⟨rfl,FF.out⟩
 ·rw[if_neg h1]
  have h1':may X.data.toList=0:=Decidable.byContradiction h1;have hb:=zcX h1';rw[h1'] at CH;have SO:Hid (Cl 204 #[.string X] va fun e w'=>e = .returned (.int .i64 (sn X.data.toList:Int))/\w'=va):=zaT X.data.toList (by omega) va;have RM:Hid _:=ziS q p fr mn g v ts tk m [] va htk hmn h.out.hf;have hsn:sn X.data.toList<=100:=by unfold sn;omega
  by_cases h2:mn < tk+sn X.data.toList
  ·rw[if_pos h2]
   have g1:((mn - tk:Nat):Int) < (sn X.data.toList:Int):=by omega
   have FS:Hid _:=STAY 151 (by decide);obtain⟨n,hn⟩:∃n,sn X.data.toList=n:=⟨_,rfl⟩;obtain⟨d,hd⟩:∃d,mn - tk=d:=⟨_,rfl⟩;rw[hn] at SO g1;rw[hd] at RM g1;clear hn hd h STAY h1 h1' hb h2 hsn;go_enter Tryz.func130, Tryz.ntmps130;go_wp2_with fail;refine cM CH.out ?_;rintro e w1 ⟨rfl,rfl⟩;go_wp2_with fail;refine cM SO.out ?_;rintro e w2 ⟨rfl,rfl⟩;go_wp2_with fail;refine cM RM.out ?_;rintro e w3 ⟨rfl,hb3⟩;have FF:Hid _:=FS.out w3 hb3;clear FS hb3;go_wp2;go_ret;exact⟨rfl,FF.out⟩
  ·rw[if_neg h2]
   have g1:¬((mn - tk:Nat):Int) < (sn X.data.toList:Int):=by omega
   have AD:Hid (∀W,Bw va W->Cl 206 #[.pointer (some ⟨q,0,none⟩),.string X] W fun e w'=>e = .returned (.int .i64 (wrb s (fr+tk) (rcd m X.data.toList)).1)/\AdP w va p F q fr mn g v ts tk m [] X.data.toList (wrb s (fr+tk) (rcd m X.data.toList)) w'):=fun W hbw =>
    (zgf w W p F s q fr mn g v ts tk m [] X.data.toList hm hb.2 hts (by omega) hl hk (h.out.later hbw)).mono fun _ _ ⟨he,F',v',n1,b1,hh⟩=>⟨he,F',v',(Nx2.refl va _ _ _).trans n1 hbw.size,(Bf.of hbw).trans (Nx.refl _ _) b1,hh⟩
   obtain⟨y,hy⟩:∃y,wrb s (fr+tk) (rcd m X.data.toList)=y:=⟨_,rfl⟩;rw[hy] at AD ⊢;obtain⟨n,hn⟩:∃n,sn X.data.toList=n:=⟨_,rfl⟩;obtain⟨d,hd⟩:∃d,mn - tk=d:=⟨_,rfl⟩;rw[hn] at SO g1;rw[hd] at RM g1;obtain⟨x,hx⟩:∃x,y.1=x:=⟨_,rfl⟩;rw[hx] at AD ⊢;clear hn hd h STAY h1 h1' hb h2 hsn hy hx;go_enter Tryz.func130, Tryz.ntmps130;go_wp2_with fail;refine cM CH.out ?_;rintro e w1 ⟨rfl,rfl⟩;go_wp2_with fail;refine cM SO.out ?_;rintro e w2 ⟨rfl,rfl⟩;go_wp2_with fail;refine cM RM.out ?_;rintro e w3 ⟨rfl,hb3⟩;have A3:Hid _:=AD.out w3 hb3;clear AD hb3;go_wp2_with fail;refine cM A3.out ?_;rintro e w4 ⟨rfl,had⟩;have FF:Hid _:=had;clear had A3;go_wp2;go_ret;exact⟨rfl,FF.out⟩
section
variable {w:Wo} {d:Nat} {G:Nat->Prop} {s:St} {q:Nat} {v:Value} {x:Lo}
end
theorem zaU {w:Wo} {base:Nat} {v:Value} {l:List Bs} {n:Nat} (hn:l.length=n) (h:w.ownsRow base 9 1 v n (scs l)):∃a cap,v = .slice a n cap/\zbq w a l/\(a=none->n=0/\cap=0):=by
 obtain⟨h1,h2⟩:=h;rcases h2 with ⟨rfl,h0⟩|⟨g,cap,cur,rfl,-,hh,-,-,-,ht⟩
 ·subst h0
  have:l=[]:=List.length_eq_zero_iff.1 hn;subst this;exact⟨none,0,rfl,zbq.nil _ _,fun _=>⟨rfl,rfl⟩⟩
 ·refine⟨_,cap,rfl,fun j hj=>⟨g,0,rfl,?_⟩,fun e=>by cases e⟩
  have e:cur[j]?=(scs l)[j]?:=by
   rw[<-ht,List.getElem?_take_of_lt (by omega)];simp
  rw[Nat.zero_add];unfold World.cell?;rw[hh];simp only[Option.isSome_none];show cur[j]?=_
  rw[e];simp[scs,hj]
theorem zcx {w w':Wo} {base:Nat} {v:Value} {n:Nat} {xs:List Value} (h:w.ownsRow base 9 1 v n xs) (hb:Bw w w'):w'.ownsRow base 9 1 v n xs:=by
 refine⟨h.1,?_⟩;rcases h.2 with h2|⟨g,cap,cur,rfl,hg,hh,hr⟩
 ·exact .inl h2
 ·exact .inr ⟨g,cap,cur,rfl,hg,(hb.block g (Array.getElem?_eq_some_iff.1 hh).1).trans hh,hr⟩
theorem ziT (w:Wo) (x:Value) (t:TypeId):∀j u,[x][j]?=some u->(w.alloc (.cells #[x] t)).cell? (Addr.add ⟨w.heap.size,0,none⟩ j)=some u:=fun j u h=>by
 obtain rfl:j=0:=by
  match j,h with
  | 0,_=>rfl
  | j+1,h=>simp at h
 simp at h;subst h;rw[Addr.add_mid,Nat.zero_add,World.cell?_alloc_new];rfl
theorem zeA (q p fr mn g:Nat) (v:Value) (ts:List Bs) (tk:Nat) (m:Bs) (more:List Value) (w:Wo) (hn:ts.length<=100000) (ht:∀t∈ts,t.length<=2000) (h:Hid (Hf w q p fr mn g v ts tk m more)) :
  Cl 77 #[.pointer (some ⟨q,0,none⟩)] w fun e w'=>∃u,e = .returned u/\w'.ownsRow w.heap.size 9 1 u ts.length (scs ts)/\Bw w w':=by
 obtain⟨i0,hi,hz0,hz1,hz2⟩:=info_parts znK;obtain⟨a,cap,rfl,tx,-⟩:=zaU rfl h.out.row;have HX:Hid (zbq w a ts):=tx;have k4:=h.out.bk.c 4 _ rfl;have HT:Hid (∀t∈ts,t.length<=2000):=ht;obtain⟨n,hnn⟩:∃n,ts.length=n:=⟨_,rfl⟩;have HN:Hid (ts.length=n):=hnn;rw[hnn] at k4 hn ⊢;clear tx h ht hnn;go_enter Tryz.func77, Tryz.ntmps77;go_wp2;go_loopw [3,12] (fun sl i wr=>∃k:Nat,k<=n/\i = .int .i64 (k:Int)/\Hid (wr.ownsRow w.heap.size 9 1 sl k (scs (ts.take k))/\Bw w wr)) (fun _ i _=>n - (intOf i).toNat)
 case atStart=>exact⟨0,Nat.zero_le _,rfl,⟨rfl,.inl ⟨rfl,rfl⟩⟩,bQ _ _⟩
 case round =>
  obtain⟨k,hk,rfl,J⟩:=hrel;clear k4;by_cases hlt:k < n
  ·have hkl:k < ts.length:=by rw[HN.out];exact hlt
   have g1:(k:Int) < (n:Int):=by omega
   obtain⟨b,o,rfl,c0⟩:=(HX.out.later J.out.2) k hkl;have ET:Hid (ts.take (k+1)=ts.take k++[ts[k]]):=List.take_succ_eq_append_getElem hkl;have hl:=HT.out _ (List.getElem_mem hkl);obtain⟨t,htt⟩:∃t,ts[k]=t:=⟨_,rfl⟩;rw[htt] at c0 ET hl;have CL:Hid (∀w,Cl 46 #[.string (st t)] w fun e w'=>e = .returned (.string (st t))/\Bw w w'):=fun w=>zbU (st t) (by rw[zaf];omega) w
   have HSV:Hid (Value.string (st t)=sv t):=(rfl:Value.string (st t)=sv t);unfold sv at c0;obtain⟨T,hT⟩:∃T,st t=T:=⟨_,rfl⟩;rw[hT] at c0 CL HSV;clear htt hT;go_wp2_with fail;refine cM (CL.out _) ?_;rintro e w1 ⟨rfl,hb⟩;have J1:Hid (w1.ownsRow w.heap.size 9 1 u3 k (scs (ts.take k))/\Bw w w1):=⟨zcx J.out.1 hb,chain J.out.2 hb⟩;clear hb J CL c0;go_wp2_with (first
    | (at_builtin;refine wpList_append_own _ rfl _ _ 25 rfl w.heap.size 9 i0 (.string ⟨#[]⟩) 1 16 Tryz.underlying25 hi hz0 hz1 hz2 rfl (by decide) _ _ _ rfl (J1.out.1.alloc _) ⟨w1.heap.size,0,none⟩ 1 1 [.string T] rfl rfl (ziT _ _ _) (by intro u hu;simp at hu;subst hu;rfl) (by unfold maxLen;omega) (by omega) (by have:=J1.out.2.size;simp;omega) ?_;intro v1 w2 hown1 hgrow1 hnil1))
   go_roundw
   case rel =>
    refine⟨k+1,by omega,rfl,?_,?_⟩
    ·rw[ET.out,zfd]
     rw[HSV.out] at hown1;exact hown1
    ·exact (J1.out.2.alloc J1.out.2.size _).grown hgrow1 (by have:=J1.out.2.size;simp;omega) (fun q hq=>(J1.out.1.lt q hq).1)
   case measure=>simp[intOf];omega
  ·obtain rfl:k=n:=by omega
   have J2:Hid (wr.ownsRow w.heap.size 9 1 u3 k (scs ts)/\Bw w wr):=by
    have:=J.out;rw[List.take_of_length_le (by rw[HN.out];exact nL _)] at this;exact this
   clear J;go_wp2;go_ret;exact⟨u3,rfl,J2.out.1,J2.out.2⟩
def Bn7 (w V:Wo) (p:Nat) (F:Nat->Prop) (s2:St) (tl:List Bs) (xa:Option Addr) (xn xc:Nat) (w':Wo):Prop :=
 ∃F2,Dl w w' p F2 s2/\Nx V F F2/\Bf F V w'/\OwnsS w' (.slice xa xn xc) tl/\∀x,(Value.slice xa xn xc).ownBlock=some x->V.heap.size<=x/\¬F2 x
def Ci7 (w va:Wo) (p:Nat) (F:Nat->Prop) (s2:St) (tl:List Bs) (pp:Option Addr) (i1 i2 i3:Int) (i5:Int) (s6:Ba) (H:Nat) (xa:Option Addr) (xn xc:Nat) (wx:Wo):Prop :=
 Bn7 w va p F s2 tl xa xn xc wx/\Blk wx H (hq7 pp i1 i2 i3 xa xn xc i5 s6)/\va.heap.size<=H
theorem zpI {w va V w2:Wo} {p:Nat} {F:Nat->Prop} {s2:St} {tl:List Bs} {pp:Option Addr} {i1 i2 i3:Int} {i5:Int} {s6:Ba} {xa:Option Addr} {xn xc:Nat} (ty:TypeId) (bl:Bw va V) (h:Bn7 w V p F s2 tl xa xn xc w2) :
  Ci7 w va p F s2 tl pp i1 i2 i3 i5 s6 w2.heap.size xa xn xc (w2.alloc (.cells #[.pointer pp,.int .i64 i1,.int .i64 i2,.int .i64 i3,.slice xa xn xc,.int .i64 i5,.string s6] ty)):=by
 obtain⟨F2,h1,h2,h3,h4,h5⟩:=h;exact⟨⟨F2,h1.later (nb _ _),(Nx.refl va F).trans h2 bl.size,((Bf.of bl).trans (Nx.refl _ _) h3).later (nb _ _),ownsRow_same h4 (fun x e=>(nb w2 _).block x (h4.lt x e).2),fun x e=>⟨Nat.le_trans bl.size (h5 x e).1,(h5 x e).2⟩⟩,Blk.new w2 _ _ (by simp),Nat.le_trans bl.size h3.size⟩
theorem zl5 {w va V w2:Wo} {p:Nat} {F:Nat->Prop} {s2:St} {tl:List Bs} {pp:Option Addr} {i1 i2 i3:Int} {i5:Int} {s6:Ba} {xa:Option Addr} {xn xc:Nat} {H:Nat} (hw:w.heap.size<=va.heap.size) (bl:Bw va V) (h:Bn7 w V p F s2 tl xa xn xc w2) (bh:Blk V H hz0) (hF:¬F H) (nH:va.heap.size<=H) :
  Ci7 w va p F s2 tl pp i1 i2 i3 i5 s6 H xa xn xc (w2.setCells H 0 (hq7 pp i1 i2 i3 xa xn xc i5 s6)):=by
 obtain⟨F2,h1,h2,h3,h4,h5⟩:=h;have hb:=bh.bf h3 hF;have hF2:=h2.apart hF bh.lt;have hv:(Value.slice xa xn xc).ownBlock≠some H:=fun e=>by have:=(h5 _ e).1;have:=bh.lt;omega
 exact⟨⟨F2,h1.sets hF2 (Nat.le_trans hw nH) _,(Nx.refl va F).trans h2 bl.size,((Bf.of bl).trans (Nx.refl _ _) h3).trans (fun x e => .inr (by rw[e];exact nH)) (Bf.sets (fun x=>x=H) H rfl _ 0 w2),ownsRow_same h4 (fun x e=>zac w2 H 0 _ x (fun d=>hv (by rw[e,d]))),fun x e=>⟨Nat.le_trans bl.size (h5 x e).1,(h5 x e).2⟩⟩,hb.put _ rfl,nH⟩
def zqi:Oper:={ dst:=some 43,op := .move (.tmp 0),type := 153, pos := "log.go:88", after:=#[],guard:=none }
def zqj:Oper:={ dst:=some 44,op := .nilCheck (.tmp 43),type:=0,pos := "log.go:88", after:=#[eD 0],guard:=none }
def zqk:Oper:={ dst:=some 45,op := .fieldAddr 243 (.tmp 44) 0,type:=0,pos := "log.go:88", after:=#[eD 1],guard:=none }
def zql:Oper:={ dst:=some 46,op := .fieldAddr 237 (.tmp 45) 0,type:=0,pos := "log.go:88", after:=#[eD 2],guard:=none }
def zqm:Oper:={ dst:=some 47,op := .load 235 (.tmp 46),type := 235, pos := "log.go:88", after:=#[eD 3],guard:=none }
def zpJ:Oper:={ dst:=some 48,op := .call { callee:=Go.Callee.value (.func 139),args:=#[Go.Operand.tmp 47],argTypes:=#[235] },type := 235, pos := "log.go:88", after:=#[eD 4],guard:=none }
def zqn:Oper:={ dst:=some 49,op := .move (.tmp 0),type := 153, pos := "log.go:88", after:=#[],guard:=none }
def zqo:Oper:={ dst:=some 50,op := .nilCheck (.tmp 49),type:=0,pos := "log.go:88", after:=#[eD 6],guard:=none }
def zqp:Oper:={ dst:=some 51,op := .fieldAddr 243 (.tmp 50) 0,type:=0,pos := "log.go:88", after:=#[eD 7],guard:=none }
def zqq:Oper:={ dst:=some 52,op := .fieldAddr 237 (.tmp 51) 1,type:=0,pos := "log.go:88", after:=#[eD 8],guard:=none }
def zlg:Oper:={ dst:=some 53,op := .load 3 (.tmp 52),type := 3, pos := "log.go:88", after:=#[eD 9],guard:=none }
def zlh:Oper:={ dst:=some 54,op := .binOp Go.BinOp.add 3 (.tmp 53) (.const (Go.Value.int Go.IntKind.i64 1)) 3, type := 3, pos := "log.go:88", after:=#[eD 10],guard:=none }
def zli:Oper:={ dst:=some 55,op := .move (.tmp 1),type := 25, pos := "log.go:88", after:=#[],guard:=none }
def zfm:Oper:={ dst:=some 56,op := .call { callee:=Go.Callee.value (.func 140),args:=#[Go.Operand.tmp 48,Go.Operand.tmp 54,Go.Operand.tmp 55],argTypes:=#[235, 3, 25] },type := 238, pos := "log.go:88", after:=#[eD 5,eD 11,eD 12,eC 5],guard:=none }
def zcC:Oper:={ dst:=some 42,op := .move (.tmp 56),type := 238, pos := "log.go:88", after:=#[eD 13],guard:=none }
def zcD:Oper:={ dst:=some 57,op := .extract (.tmp 42) 0,type := 237, pos := "log.go:88", after:=#[eD 14],guard:=none }
def zcE:Oper:={ dst:=some 58,op := .extract (.tmp 42) 1,type := 32, pos := "log.go:88", after:=#[eD 14,{ on:=18,ground:=Go.Ground.gcOnly Go.Departure.lateStores }],guard:=none }
def zfn:Oper:={ dst:=some 9,op := .alloc 237, type:=0,pos := "log.go:88", after:=#[],guard:=none }
def zfo:Oper:={ dst:=none,op := .store 237 (.tmp 9) (.tmp 57),type:=0,pos := "log.go:88", after:=#[eD 17,eD 15,eC 13,eP 0,eP 1,eP 2,eP 3,eP 4,eP 5,eP 6,eP 7,eP 8,eP 9,eP 10,eP 11,eP 12,eP 13,eP 14,eP 15,{ on:=16,ground:=Go.Ground.textOnly Go.Departure.lateStores },eP 17],guard:=none }
def zcF:Oper:={ dst:=some 10,op := .assign (.tmp 58),type := 32, pos := "log.go:88", after:=#[eD 16,eC 18,eP 0,eP 1,eP 2,eP 3,eP 4,eP 5,eP 6,eP 7,eP 8,eP 9,eP 10,eP 11,eP 12,eP 13,eP 14,eP 15,eP 16,eP 17,eP 18],guard:=none }
theorem za1 {F:Nat->Prop} {w w':Wo} (hb:Bf F w w') {q o:Nat} {v:Value} (hq:¬F q) (h:w.cell? ⟨q,o,none⟩=some v):w'.cell? ⟨q,o,none⟩=some v:=hb.cell h hq
theorem zl6 {w:Wo} {B H:Nat} {x0 x1 x2 x3 y0 y1 y2 y3 y4 y5 y6:Value} (hne:B≠H) (h:w.cell? ⟨B,0,none⟩=some x0/\w.cell? ⟨B,1,none⟩=some x1/\w.cell? ⟨B,2,none⟩=some x2/\w.cell? ⟨B,3,none⟩=some x3) :
  (w.setCells H 0 [y0,y1,y2,y3,y4,y5,y6]).cell? ⟨B,0,none⟩=some x0/\(w.setCells H 0 [y0,y1,y2,y3,y4,y5,y6]).cell? ⟨B,1,none⟩=some x1/\(w.setCells H 0 [y0,y1,y2,y3,y4,y5,y6]).cell? ⟨B,2,none⟩=some x2/\(w.setCells H 0 [y0,y1,y2,y3,y4,y5,y6]).cell? ⟨B,3,none⟩=some x3:=by
 have hs:=zac w H 0 [y0,y1,y2,y3,y4,y5,y6] B hne;exact⟨(World.cell?_of_block (a:=⟨B,0,none⟩) hs).trans h.1,(World.cell?_of_block (a:=⟨B,1,none⟩) hs).trans h.2.1,(World.cell?_of_block (a:=⟨B,2,none⟩) hs).trans h.2.2.1,(World.cell?_of_block (a:=⟨B,3,none⟩) hs).trans h.2.2.2⟩
theorem zcG (w:Wo) (p:Nat) (F:Nat->Prop) (s2:St) (tl:List Bs) (q fr fr2 mn:Nat) (gi:Int) (x:Int) (va:Wo) (a:Option Addr) (n c:Nat) (E:Option Addr->Int->Int->Int->Int->Ba->Prop) (hw:Hid (w.heap.size<=va.heap.size)) (hF:Hid (∀y,F y->y < va.heap.size)) (hq:Hid (¬F q/\q < va.heap.size)) (y1:IntKind.i64.wrap (gi+1)=gi+1)
  (b0:va.cell? ⟨q,0,none⟩=some (.pointer (some ⟨p,0,none⟩))) (b1:va.cell? ⟨q,1,none⟩=some (.int .i64 (fr:Int))) (b2:va.cell? ⟨q,2,none⟩=some (.int .i64 (mn:Int))) (b3:va.cell? ⟨q,3,none⟩=some (.int .i64 gi))
  (OT:Hid (∀w,Cl 139 #[.agg #[.pointer (some ⟨p,0,none⟩),.int .i64 (fr:Int),.int .i64 (mn:Int)]] w fun e w'=>e = .returned (.agg #[.pointer (some ⟨p,0,none⟩),.int .i64 (fr2:Int),.int .i64 (mn:Int)])/\Bw w w'))
  (BG:Hid (∀V,Bw va V->Cl 140 #[.agg #[.pointer (some ⟨p,0,none⟩),.int .i64 (fr2:Int),.int .i64 (mn:Int)],.int .i64 (gi+1),.slice a n c] V fun e w'=>∃pp i1 i2 i3 xa xn xc i5 s6,e = .returned (.tuple #[.agg #[.pointer pp,.int .i64 i1,.int .i64 i2,.int .i64 i3,.slice xa xn xc,.int .i64 i5,.string s6],.int .i64 x])/\E pp i1 i2 i3 i5 s6/\Bn7 w V p F s2 tl xa xn xc w'))
  (a2 a3 a4 a5 a6 a7 a8 a11 a12 a13 a14 a15 a16 a17 a18 a19 a20 a21 a22 a23 a24 a25 a26 a27 a28 a29 a30 a31 a32 a33 a34 a35 a36 a37 a38 a39 a40 a41:Value) (Q:Exit->Act->Wo->Prop)
  (hQ:Hid (∀(H:Nat) (pp:Option Addr) (i1 i2 i3:Int) (xa:Option Addr) (xn xc:Nat) (i5:Int) (s6:Ba) (wx:Wo) (u42 u43 u44 u45 u46 u47 u48 u49 u50 u51 u52 u53 u54 u55 u56 u57 u58:Value),E pp i1 i2 i3 i5 s6->Ci7 w va p F s2 tl pp i1 i2 i3 i5 s6 H xa xn xc wx->Q .normal { tmps:=#[.pointer (some ⟨q,0,none⟩),.slice a n c,a2,a3,a4,a5,a6,a7,a8,.pointer (some ⟨H,0,none⟩),.int .i64 x,a11,a12,a13,a14,a15,a16,a17,a18,a19,a20,a21,a22,a23,a24,a25,a26,a27,a28,a29,a30,a31,a32,a33,a34,a35,a36,a37,a38,a39,a40,a41,u42,u43,u44,u45,u46,u47,u48,u49,u50,u51,u52,u53,u54,u55,u56,u57,u58,undef,undef,undef,undef,undef,undef,undef],defers:=[] } wx)) :
  (Code.region 14 #[zqi,zqj,zqk,zql,zqm,zpJ,zqn,zqo,zqp,zqq,zlg,zlh,zli,zfm,zcC,zcD,zcE,zfn,zfo,zcF] true).wp Tryz.prog Q { tmps:=#[.pointer (some ⟨q,0,none⟩),.slice a n c,a2,a3,a4,a5,a6,a7,a8,undef,undef,a11,a12,a13,a14,a15,a16,a17,a18,a19,a20,a21,a22,a23,a24,a25,a26,a27,a28,a29,a30,a31,a32,a33,a34,a35,a36,a37,a38,a39,a40,a41,undef,undef,undef,undef,undef,undef,undef,undef,undef,undef,undef,undef,undef,undef,undef,undef,undef,undef,undef,undef,undef,undef,undef,undef],defers:=[] } va:=by
 refine wp_region_noPanic ?_;refine wp_region_held_drew (S:=fun w'=>w'.cell? ⟨q,0,none⟩=some (.pointer (some ⟨p,0,none⟩))/\w'.cell? ⟨q,1,none⟩=some (.int .i64 (fr:Int))/\w'.cell? ⟨q,2,none⟩=some (.int .i64 (mn:Int))/\w'.cell? ⟨q,3,none⟩=some (.int .i64 gi)) (by kernel_rfl) (⟨b0,b1,b2,b3⟩) (fun hHeld => ?_);obtain⟨Z,hZ⟩:∃Z,va.drew=Z:=⟨_,rfl⟩;have hz:Hid (Bw va Z):=by
  rw[<-hZ];exact (bQ _ _).drew
 rw[hZ] at hHeld ⊢;clear hZ b0 b1 b2 b3;refine wT 0 zqi ?_ ?_ ?_;rotate_left
 ·intro w' hSw;clear hSw;unfold zqi;first|(go_simp;done)|(go_simp;with_reducible rfl)
 simp only[zqi,Act.put,wA,wB,wC];refine wT 1 zqj ?_ ?_ ?_;rotate_left
 ·intro w' hSw;clear hSw;unfold zqj;first|(go_simp;done)|(go_simp;with_reducible rfl)
 simp only[zqj,Act.put,wA,wB,wC];refine wT 2 zqk ?_ ?_ ?_;rotate_left
 ·intro w' hSw;clear hSw;unfold zqk;first|(go_simp;done)|(go_simp;with_reducible rfl)
 simp only[zqk,Act.put,wA,wB,wC];refine wT 3 zql ?_ ?_ ?_;rotate_left
 ·intro w' hSw;clear hSw;unfold zql;first|(go_simp;done)|(go_simp;with_reducible rfl)
 simp only[zql,Act.put,wA,wB,wC];refine wT 4 zqm ?_ ?_ ?_;rotate_left
 ·intro w' hSw;obtain⟨s0,s1,s2,s3⟩:=hSw;unfold zqm;first|(go_simp;done)|(go_simp;with_reducible rfl)
 simp only[zqm,Act.put,wA,wB,wC];refine wT 6 zqn ?_ ?_ ?_;rotate_left
 ·intro w' hSw;clear hSw;unfold zqn;first|(go_simp;done)|(go_simp;with_reducible rfl)
 simp only[zqn,Act.put,wA,wB,wC];refine wT 7 zqo ?_ ?_ ?_;rotate_left
 ·intro w' hSw;clear hSw;unfold zqo;first|(go_simp;done)|(go_simp;with_reducible rfl)
 simp only[zqo,Act.put,wA,wB,wC];refine wT 8 zqp ?_ ?_ ?_;rotate_left
 ·intro w' hSw;clear hSw;unfold zqp;first|(go_simp;done)|(go_simp;with_reducible rfl)
 simp only[zqp,Act.put,wA,wB,wC];refine wT 9 zqq ?_ ?_ ?_;rotate_left
 ·intro w' hSw;clear hSw;unfold zqq;first|(go_simp;done)|(go_simp;with_reducible rfl)
 simp only[zqq,Act.put,wA,wB,wC];refine wT 10 zlg ?_ ?_ ?_;rotate_left
 ·intro w' hSw;obtain⟨s0,s1,s2,s3⟩:=hSw;unfold zlg;first|(go_simp;done)|(go_simp;with_reducible rfl)
 simp only[zlg,Act.put,wA,wB,wC];refine wT 11 zlh ?_ ?_ ?_;rotate_left
 ·intro w' hSw;clear hSw;unfold zlh;first|(go_simp;done)|(go_simp;with_reducible rfl)
 simp only[zlh,Act.put,wA,wB,wC];refine wT 12 zli ?_ ?_ ?_;rotate_left
 ·intro w' hSw;clear hSw;unfold zli;first|(go_simp;done)|(go_simp;with_reducible rfl)
 simp only[zli,Act.put,wA,wB,wC];refine wpAnyH_ready (rs:=[5,17]) (by kernel_rfl) (by simp) ?_;refine AllReadyH.cons (o:=zpJ) rfl (fun KK hKK => ?_) (AllReadyH.cons (o:=zfn) rfl (fun KK hKK => ?_) AllReadyH.nil)
 ·unfold zpJ
  go_simp;refine cM (OT.out _) ?_;rintro e w1 ⟨rfl,hb1⟩;have sz1:=hb1.size;have bl1:=chain hz.out hb1;refine hKK.out _ _ ⟨cell_later hb1 hHeld.1,cell_later hb1 hHeld.2.1,cell_later hb1 hHeld.2.2.1,cell_later hb1 hHeld.2.2.2⟩ (fun hHeld1 => ?_);clear hKK KK;refine wpAnyH_ready (rs:=[13,17]) (by kernel_rfl) (by simp) ?_;refine AllReadyH.cons (o:=zfm) rfl (fun KK hKK => ?_) (AllReadyH.cons (o:=zfn) rfl (fun KK hKK => ?_) AllReadyH.nil)
  ·unfold zfm
   go_simp;refine cM (BG.out w1 bl1) ?_;rintro e w2 ⟨pp,i1,i2,i3,xa,xn,xc,i5,s6,rfl,he7,hb7⟩;obtain⟨F7,-,-,bf7,-,-⟩:=id hb7;refine hKK.out _ _ ⟨za1 bf7 hq.out.1 hHeld1.1,za1 bf7 hq.out.1 hHeld1.2.1,za1 bf7 hq.out.1 hHeld1.2.2.1,za1 bf7 hq.out.1 hHeld1.2.2.2⟩ (fun hHeld2 => ?_);clear hKK KK bf7 F7;refine wT 14 zcC ?_ ?_ ?_;rotate_left
   ·intro w' hSw;clear hSw;unfold zcC;first|(go_simp;done)|(go_simp;with_reducible rfl)
   simp only[zcC,Act.put,wA,wB,wC];refine wT 15 zcD ?_ ?_ ?_;rotate_left
   ·intro w' hSw;clear hSw;unfold zcD;first|(go_simp;done)|(go_simp;with_reducible rfl)
   simp only[zcD,Act.put,wA,wB,wC];refine wT 16 zcE ?_ ?_ ?_;rotate_left
   ·intro w' hSw;clear hSw;unfold zcE;first|(go_simp;done)|(go_simp;with_reducible rfl)
   simp only[zcE,Act.put,wA,wB,wC];refine wpAnyH_ready (rs:=[17]) (by kernel_rfl) (by simp) ?_;refine AllReadyH.cons (o:=zfn) rfl (fun KK hKK => ?_) AllReadyH.nil;unfold zfn;go_simp;have nw3:Blk (w2.alloc (.cells #[.pointer none,.int .i64 0,.int .i64 0,.int .i64 0,.slice none 0 0,.int .i64 0,.string ⟨#[]⟩] 237)) (w2.heap.size) hz0:=zaW w2 hz0 _ (by simp) _ (by simp);refine hKK.out _ _ ⟨zab hHeld2.1,zab hHeld2.2.1,zab hHeld2.2.2.1,zab hHeld2.2.2.2⟩ (fun hHeld3 => ?_);clear hKK KK;refine wpAnyH_ready (rs:=[18]) (by kernel_rfl) (by simp) ?_;refine AllReadyH.cons (o:=zfo) rfl (fun KK hKK => ?_) AllReadyH.nil;have FI:Hid _:=zpI (pp:=pp) (i1:=i1) (i2:=i2) (i3:=i3) (i5:=i5) (s6:=s6) 237 bl1 hb7;unfold zfo;go_simp;refine hKK.out _ _ ⟨zab hHeld2.1,zab hHeld2.2.1,zab hHeld2.2.2.1,zab hHeld2.2.2.2⟩ (fun hHeld4 => ?_);clear hKK KK;refine wT 19 zcF ?_ ?_ ?_;rotate_left
   ·intro w' hSw;clear hSw;unfold zcF;first|(go_simp;done)|(go_simp;with_reducible rfl)
   simp only[zcF,Act.put,wA,wB,wC];refine wpAnyH_done (by kernel_rfl) ?_ _;refine NoPanic.normal ?_;exact hQ.out _ _ _ _ _ _ _ _ _ _ _ _ _ _ _ _ _ _ _ _ _ _ _ _ _ _ _ _ he7 FI.out
  ·unfold zfn
   go_simp;have nw2:Blk (w1.alloc (.cells #[.pointer none,.int .i64 0,.int .i64 0,.int .i64 0,.slice none 0 0,.int .i64 0,.string ⟨#[]⟩] 237)) (w1.heap.size) hz0:=zaW w1 hz0 _ (by simp) _ (by simp);have bs2:=bl1.size;have bl2:=chain bl1 (nb w1 (.cells #[.pointer none,.int .i64 0,.int .i64 0,.int .i64 0,.slice none 0 0,.int .i64 0,.string ⟨#[]⟩] 237));refine hKK.out _ _ ⟨zab hHeld1.1,zab hHeld1.2.1,zab hHeld1.2.2.1,zab hHeld1.2.2.2⟩ (fun hHeld2 => ?_);clear hKK KK;refine wpAnyH_ready (rs:=[13]) (by kernel_rfl) (by simp) ?_;refine AllReadyH.cons (o:=zfm) rfl (fun KK hKK => ?_) AllReadyH.nil;unfold zfm;go_simp;refine cM (BG.out (w1.alloc (.cells #[.pointer none,.int .i64 0,.int .i64 0,.int .i64 0,.slice none 0 0,.int .i64 0,.string ⟨#[]⟩] 237)) bl2) ?_;rintro e w3 ⟨pp,i1,i2,i3,xa,xn,xc,i5,s6,rfl,he7,hb7⟩;obtain⟨F7,-,-,bf7,-,-⟩:=id hb7;refine hKK.out _ _ ⟨za1 bf7 hq.out.1 hHeld2.1,za1 bf7 hq.out.1 hHeld2.2.1,za1 bf7 hq.out.1 hHeld2.2.2.1,za1 bf7 hq.out.1 hHeld2.2.2.2⟩ (fun hHeld3 => ?_);clear hKK KK bf7 F7;refine wT 14 zcC ?_ ?_ ?_;rotate_left
   ·intro w' hSw;clear hSw;unfold zcC;first|(go_simp;done)|(go_simp;with_reducible rfl)
   simp only[zcC,Act.put,wA,wB,wC];refine wT 15 zcD ?_ ?_ ?_;rotate_left
   ·intro w' hSw;clear hSw;unfold zcD;first|(go_simp;done)|(go_simp;with_reducible rfl)
   simp only[zcD,Act.put,wA,wB,wC];refine wT 16 zcE ?_ ?_ ?_;rotate_left
   ·intro w' hSw;clear hSw;unfold zcE;first|(go_simp;done)|(go_simp;with_reducible rfl)
   simp only[zcE,Act.put,wA,wB,wC];refine wpAnyH_ready (rs:=[18]) (by kernel_rfl) (by simp) ?_;refine AllReadyH.cons (o:=zfo) rfl (fun KK hKK => ?_) AllReadyH.nil;have hHn:va.heap.size<=w1.heap.size:=by have:=hz.out.size;omega
   have hHF:¬F (w1.heap.size):=fun c=>by have:=hF.out _ c;omega
   have hne:q≠w1.heap.size:=fun c=>by have:=hq.out.2;omega
   have FI:Hid _:=zl5 (pp:=pp) (i1:=i1) (i2:=i2) (i3:=i3) (i5:=i5) (s6:=s6) hw.out bl2 hb7 nw2 hHF hHn;obtain⟨F7,-,-,bf7,-,-⟩:=id hb7;have bk7:=nw2.bf bf7 hHF;have z0:=bk7.c 0 _ rfl;have z1:=bk7.c 1 _ rfl;have z2:=bk7.c 2 _ rfl;have z3:=bk7.c 3 _ rfl;have z4:=bk7.c 4 _ rfl;have z5:=bk7.c 5 _ rfl;have z6:=bk7.c 6 _ rfl;have zf:=bk7.f;unfold zfo;go_simp;refine hKK.out _ _ (zl6 hne hHeld3) (fun hHeld4 => ?_);clear hKK KK bk7 bf7 F7 z0 z1 z2 z3 z4 z5 z6 zf;refine wT 19 zcF ?_ ?_ ?_;rotate_left
   ·intro w' hSw;clear hSw;unfold zcF;first|(go_simp;done)|(go_simp;with_reducible rfl)
   simp only[zcF,Act.put,wA,wB,wC];refine wpAnyH_done (by kernel_rfl) ?_ _;refine NoPanic.normal ?_;exact hQ.out _ _ _ _ _ _ _ _ _ _ _ _ _ _ _ _ _ _ _ _ _ _ _ _ _ _ _ _ he7 FI.out
 ·unfold zfn
  go_simp;have nw1:Blk (Z.alloc (.cells #[.pointer none,.int .i64 0,.int .i64 0,.int .i64 0,.slice none 0 0,.int .i64 0,.string ⟨#[]⟩] 237)) (Z.heap.size) hz0:=zaW Z hz0 _ (by simp) _ (by simp);have bs1:=hz.out.size;have bl1:=chain hz.out (nb Z (.cells #[.pointer none,.int .i64 0,.int .i64 0,.int .i64 0,.slice none 0 0,.int .i64 0,.string ⟨#[]⟩] 237));refine hKK.out _ _ ⟨zab hHeld.1,zab hHeld.2.1,zab hHeld.2.2.1,zab hHeld.2.2.2⟩ (fun hHeld1 => ?_);clear hKK KK;refine wpAnyH_ready (rs:=[5]) (by kernel_rfl) (by simp) ?_;refine AllReadyH.cons (o:=zpJ) rfl (fun KK hKK => ?_) AllReadyH.nil;unfold zpJ;go_simp;refine cM (OT.out _) ?_;rintro e w2 ⟨rfl,hb2⟩;have sz2:=hb2.size;have bl2:=chain bl1 hb2;have bh2:=nw1.later hb2;refine hKK.out _ _ ⟨cell_later hb2 hHeld1.1,cell_later hb2 hHeld1.2.1,cell_later hb2 hHeld1.2.2.1,cell_later hb2 hHeld1.2.2.2⟩ (fun hHeld2 => ?_);clear hKK KK;refine wpAnyH_ready (rs:=[13]) (by kernel_rfl) (by simp) ?_;refine AllReadyH.cons (o:=zfm) rfl (fun KK hKK => ?_) AllReadyH.nil;unfold zfm;go_simp;refine cM (BG.out w2 bl2) ?_;rintro e w3 ⟨pp,i1,i2,i3,xa,xn,xc,i5,s6,rfl,he7,hb7⟩;obtain⟨F7,-,-,bf7,-,-⟩:=id hb7;refine hKK.out _ _ ⟨za1 bf7 hq.out.1 hHeld2.1,za1 bf7 hq.out.1 hHeld2.2.1,za1 bf7 hq.out.1 hHeld2.2.2.1,za1 bf7 hq.out.1 hHeld2.2.2.2⟩ (fun hHeld3 => ?_);clear hKK KK bf7 F7;refine wT 14 zcC ?_ ?_ ?_;rotate_left
  ·intro w' hSw;clear hSw;unfold zcC;first|(go_simp;done)|(go_simp;with_reducible rfl)
  simp only[zcC,Act.put,wA,wB,wC];refine wT 15 zcD ?_ ?_ ?_;rotate_left
  ·intro w' hSw;clear hSw;unfold zcD;first|(go_simp;done)|(go_simp;with_reducible rfl)
  simp only[zcD,Act.put,wA,wB,wC];refine wT 16 zcE ?_ ?_ ?_;rotate_left
  ·intro w' hSw;clear hSw;unfold zcE;first|(go_simp;done)|(go_simp;with_reducible rfl)
  simp only[zcE,Act.put,wA,wB,wC];refine wpAnyH_ready (rs:=[18]) (by kernel_rfl) (by simp) ?_;refine AllReadyH.cons (o:=zfo) rfl (fun KK hKK => ?_) AllReadyH.nil;have hHn:va.heap.size<=Z.heap.size:=by have:=hz.out.size;omega
  have hHF:¬F (Z.heap.size):=fun c=>by have:=hF.out _ c;omega
  have hne:q≠Z.heap.size:=fun c=>by have:=hq.out.2;omega
  have FI:Hid _:=zl5 (pp:=pp) (i1:=i1) (i2:=i2) (i3:=i3) (i5:=i5) (s6:=s6) hw.out bl2 hb7 bh2 hHF hHn;obtain⟨F7,-,-,bf7,-,-⟩:=id hb7;have bk7:=bh2.bf bf7 hHF;have z0:=bk7.c 0 _ rfl;have z1:=bk7.c 1 _ rfl;have z2:=bk7.c 2 _ rfl;have z3:=bk7.c 3 _ rfl;have z4:=bk7.c 4 _ rfl;have z5:=bk7.c 5 _ rfl;have z6:=bk7.c 6 _ rfl;have zf:=bk7.f;unfold zfo;go_simp;refine hKK.out _ _ (zl6 hne hHeld3) (fun hHeld4 => ?_);clear hKK KK bk7 bf7 F7 z0 z1 z2 z3 z4 z5 z6 zf;refine wT 19 zcF ?_ ?_ ?_;rotate_left
  ·intro w' hSw;clear hSw;unfold zcF;first|(go_simp;done)|(go_simp;with_reducible rfl)
  simp only[zcF,Act.put,wA,wB,wC];refine wpAnyH_done (by kernel_rfl) ?_ _;refine NoPanic.normal ?_;exact hQ.out _ _ _ _ _ _ _ _ _ _ _ _ _ _ _ _ _ _ _ _ _ _ _ _ _ _ _ _ he7 FI.out
theorem ziU {t:Bs} {l:List Bs} (h:may t≠0):zeN (t::l)=may t:=if_pos h
theorem zgi {t:Bs} {l:List Bs} (h:may t=0):zeN (t::l)=zeN l:=if_neg (fun c=>c h)
theorem zgj (l:List Bs) (k:Nat) (hk:k < l.length):sns (l.take (k+1))=sns (l.take k)+sn l[k]:=by
 have:∀(l:List Bs) (t:Bs),sns (l++[t])=sns l+sn t:=fun l t=>by
  induction l with
  | nil=>simp[sns]
  | cons x l ih=>rw[List.cons_append,sns,ih,sns];omega
 rw[List.take_succ_eq_append_getElem hk,this]
theorem ziV (l:List Bs) (k:Nat) (h:∀t∈l,t.length<=2000):sns (l.take k)<=100*k:=by
 induction k with
 | zero=>simp[sns]
 | succ k ih =>
  by_cases hk:k < l.length
  ·rw[zgj l k hk]
   have:sn l[k]<=100:=by
    have:=h _ (List.getElem_mem hk);unfold sn;omega
   omega
  ·rw[List.take_of_length_le (by omega)] at ih ⊢
   omega
theorem zbx:∀(l:List Bs) (k:Nat),(∀i (hi:i < l.length),i < k->may l[i]=0)->zeN l=zeN (l.drop k)
 | [],k,_=>by rw[List.drop_nil]
 | t::l,0,_=>rfl
 | t::l,k+1,h=>by
  rw[zgi (show may t=0 from h 0 (by simp) (by omega)),List.drop_succ_cons];exact zbx l k (fun i hi hk=>h (i+1) (by simpa using hi) (by omega))
def cmR (s:St) (fr2 mn g:Nat) (l:List Bs):Int×St:=if zeN l≠0 then (zeN l,s) else if mn - 1 < sns l then (151,s) else if 2147483647<=g then (2,s) else bgn s fr2 mn (g+1) l
def CmP (w va:Wo) (p:Nat) (F:Nat->Prop) (q fr fr2 mn g:Nat) (v:Value) (ts:List Bs) (tk:Nat) (m:Bs) (l:List Bs) (y:Int×St) (w':Wo):Prop :=
 ∃F' v',Nx2 va F q v F' v'/\Bf (FH F q v) va w'/\(y.1=0/\HD w w' p F' y.2 q fr2 mn (g+1) v' l (tkn 1 l) (mks (hm (g+1)) l) []\/y.1≠0/\HD w w' p F' y.2 q fr mn g v' ts tk m [])
theorem zdG:∀{l:List Bs},zeN l=0->∀t∈l,1<=t.length/\t.length<=2000
 | [],_,t,h=>by cases h
 | x::l,h,t,ht=>by
  by_cases hx:may x=0
  ·rw[zgi hx] at h
   rcases List.mem_cons.1 ht with rfl|ht
   ·exact zcX hx
   ·exact zdG h t ht
  ·rw[ziU hx] at h
   exact absurd h hx
theorem zeB (w va:Wo) (p:Nat) (F:Nat->Prop) (s:St) (q fr mn g:Nat) (v:Value) (ts:List Bs) (tk:Nat) (m:Bs) (a:Option Addr) (n c:Nat) (l:List Bs) (hn:l.length=n) (hn63:n<=10000000000000) (h2:2*mn<=s.n) (hmn:2<=mn) (hgm:g<=2147483647) (hfr:fr=0\/fr=mn) (hl:s.l.length+2000<=1000000) (hk:Hid (Kh w)) (h:Hid (HD w va p F s q fr mn g v ts tk m [])) (hx:Hid (zbq va a l)) (ha:Hid (Ap a l F)) :
  Cl 207 #[.pointer (some ⟨q,0,none⟩),.slice a n c] va fun e w'=>e = .returned (.int .i64 (cmR s (mn - fr) mn g l).1)/\CmP w va p F q fr (mn - fr) mn g v ts tk m l (cmR s (mn - fr) mn g l) w':=by
 have HN:Hid (l.length=n):=hn;have hs2:=h.out.dl.at_.1.n2;have STAY:Hid (∀x:Int,x≠0->CmP w va p F q fr (mn - fr) mn g v ts tk m l (x,s) va):=fun x hx=>⟨F,v,Nx2.refl _ _ _ _,Bf.refl _ _,.inr ⟨hx,h.out⟩⟩
 obtain⟨fr2,hfr2⟩:∃fr2,mn - fr=fr2:=⟨_,rfl⟩;rw[hfr2] at STAY ⊢;have HFR2:Hid (mn - fr=fr2):=hfr2;clear hfr2;obtain⟨r,hr⟩:∃r,cmR s fr2 mn g l=r:=⟨_,rfl⟩;have HR:Hid (cmR s fr2 mn g l=r):=hr;rw[hr];clear hr hn;go_enter Tryz.func207, Tryz.ntmps207;go_wp2;go_loopw [5,13] (fun sm i wr=>∃k:Nat,k<=n/\i = .int .i64 (k:Int)/\sm = .int .i64 (sns (l.take k):Int)/\va=wr/\Hid (∀j (hj:j < l.length),j < k->may l[j]=0)) (fun _ i _=>n - (intOf i).toNat)
 case atStart=>exact⟨0,Nat.zero_le _,rfl,rfl,rfl,fun _ _ h=>absurd h (Nat.not_lt_zero _)⟩
 case round =>
  obtain⟨k,hkn,rfl,rfl,rfl,J⟩:=hrel;by_cases hlt:k < n
  ·have hkl:k < l.length:=by rw[HN.out];exact hlt
   have g1:(k:Int) < (n:Int):=by omega
   obtain⟨b,o,rfl,c0⟩:=hx.out k hkl;have ES:=zgj l k hkl;have EM:=zbx l k J.out;rw[List.drop_eq_getElem_cons hkl] at EM;have JJ:Hid (may l[k]=0->∀j (hj:j < l.length),j < k+1->may l[j]=0):=fun h0 j hj hjk=>by
    by_cases e:j=k
    ·subst e;exact h0
    ·exact J.out j hj (by omega)
   have SB:sns (l.take k)<=100*k:=by
    have hb:=ziV (l.take k) k (fun t ht=>by
     obtain⟨j,hj,rfl⟩:=List.getElem_of_mem ht;rw[List.getElem_take];rw[List.length_take] at hj;exact (zcX (J.out j (by omega) (by omega))).2)
    rw[List.take_take,Nat.min_self] at hb;exact hb
   have CH:Hid (Cl 203 #[.string (st l[k])] va fun e w'=>e = .returned (.int .i64 (may l[k]))/\w'=va):=zcT (st l[k]) va;unfold sv at c0;by_cases h0:may l[k]=0
   ·have hb:=zcX h0
    have SO:Hid (Cl 204 #[.string (st l[k])] va fun e w'=>e = .returned (.int .i64 (sn l[k]:Int))/\w'=va):=zaT l[k] (by omega) va;have hsn:sn l[k]<=100:=by unfold sn;omega
    have JN:Hid _:=JJ.out h0;rw[h0] at CH;have HES:Hid (sns (l.take (k+1))=sns (l.take k)+sn l[k]):=ES;have y1:IntKind.i64.wrap ((sns (l.take k):Int)+(sn l[k]:Int))=(sns (l.take k):Int)+(sn l[k]:Int):=by rw[IntKind.wrap_i64];omega
    obtain⟨z,hz⟩:∃z,sn l[k]=z:=⟨_,rfl⟩;obtain⟨u,hu⟩:∃u,sns (l.take k)=u:=⟨_,rfl⟩;obtain⟨T,hT⟩:∃T,st l[k]=T:=⟨_,rfl⟩;rw[hz] at SO HES y1;rw[hu] at HES y1 ⊢;rw[hT] at CH SO c0;clear hz hu hT ES EM SB JJ J h0 hb hsn STAY h hx ha HR hl h2 hmn hfr hs2;go_wp2_with fail;refine cM CH.out ?_;rintro e w1 ⟨rfl,rfl⟩;go_wp2_with fail;refine cM SO.out ?_;rintro e w2 ⟨rfl,rfl⟩;go_wp2;go_roundw
    case rel=>exact⟨k+1,by omega,rfl,by rw[HES.out];simp,by first|rfl|trivial,JN.out⟩
    case measure=>simp[intOf];omega
   ·rw[ziU h0] at EM
    have ER:Hid (r=(may l[k],s)):=by
     show r=_;rw[<-HR.out,cmR,if_pos (by rw[EM];exact h0),EM]
    have FF:Hid _:=STAY.out _ h0;obtain⟨x,hxx⟩:∃x,may l[k]=x:=⟨_,rfl⟩;rw[hxx] at CH ER FF h0;obtain⟨T,hT⟩:∃T,st l[k]=T:=⟨_,rfl⟩;rw[hT] at CH c0;clear hT hxx ES EM SB JJ J STAY h hx ha HR hl h2 hmn hfr hs2;go_wp2_with fail;refine cM CH.out ?_;rintro e w1 ⟨rfl,rfl⟩;go_wp2;go_ret;exact⟨by rw[ER.out];rfl,by rw[ER.out];exact FF.out⟩
  ·obtain rfl:k=n:=by omega
   have g1:¬(k:Int) < (k:Int):=by omega
   have e0:zeN l=0:=by
    rw[zbx l k J.out,List.drop_of_length_le (by rw[HN.out];exact nL _)];rfl
   have e1:l.take k=l:=List.take_of_length_le (by rw[HN.out];exact nL _);rw[e1];have k2:=h.out.hf.bk.c 2 _ rfl;have HR1:=HR.out;rw[cmR,if_neg (by rw[e0];simp)] at HR1;have ym:IntKind.i64.wrap ((mn:Int) - 1)=(mn:Int) - 1:=by rw[IntKind.wrap_i64];omega
   by_cases h3:mn - 1 < sns l
   ·rw[if_pos h3] at HR1
    have ER:Hid (r=(151,s)):=HR1.symm;have FF:Hid _:=STAY.out 151 (by decide);have g3:(mn:Int) - 1 < (sns l:Int):=by omega
    obtain⟨sm,hsm⟩:∃sm:Int,(sns l:Int)=sm:=⟨_,rfl⟩;rw[hsm] at g3 ⊢;clear hsm HR1 STAY h hx ha HR hl J e0 e1;go_wp2;go_ret;exact⟨by rw[ER.out];rfl,by rw[ER.out];exact FF.out⟩
   ·rw[if_neg h3] at HR1
    have g3:¬(mn:Int) - 1 < (sns l:Int):=by omega
    have k3:=h.out.hf.bk.c 3 _ rfl;by_cases h4:2147483647<=g
    ·rw[if_pos h4] at HR1
     have ER:Hid (r=(2,s)):=HR1.symm;have FF:Hid _:=STAY.out 2 (by decide);have g4:(g:Int)=2147483647:=by omega
     obtain⟨sm,hsm⟩:∃sm:Int,(sns l:Int)=sm:=⟨_,rfl⟩;rw[hsm] at g3 ⊢;obtain⟨gi,hgi⟩:∃gi:Int,(g:Int)=gi:=⟨_,rfl⟩;rw[hgi] at k3 g4;clear hsm HR1 STAY h hx ha HR hl J e0 e1 h4 hgi hgm;subst g4;go_wp2;go_ret;exact⟨by rw[ER.out];rfl,by rw[ER.out];exact FF.out⟩
    ·rw[if_neg h4] at HR1
     have hfr2:=HFR2.out;have hf2:fr2+mn<=s.n:=by rcases hfr with rfl|rfl <;> omega
     have hf3:fr<=mn:=by rcases hfr with rfl|rfl <;> omega
     have htk:tkn 1 l<=mn:=by rw[zaY];omega
     have OT:Hid (∀w,Cl 139 #[.agg #[.pointer (some ⟨p,0,none⟩),.int .i64 (fr:Int),.int .i64 (mn:Int)]] w fun e w'=>e = .returned (.agg #[.pointer (some ⟨p,0,none⟩),.int .i64 (fr2:Int),.int .i64 (mn:Int)])/\Bw w w'):=fun w=>by
      have:=zbn w p fr mn hf3 (by omega);rw[hfr2] at this;exact this
     have BG:Hid (∀V,Bw va V->Cl 140 #[.agg #[.pointer (some ⟨p,0,none⟩),.int .i64 (fr2:Int),.int .i64 (mn:Int)],.int .i64 ((g:Int)+1),.slice a k c] V fun e w'=>∃pp i1 i2 i3 xa xn xc i5 s6,e = .returned (.tuple #[.agg #[.pointer pp,.int .i64 i1,.int .i64 i2,.int .i64 i3,.slice xa xn xc,.int .i64 i5,.string s6],.int .i64 r.1])/\(r.1=0->pp=some ⟨p,0,none⟩/\i1=(fr2:Int)/\i2=(mn:Int)/\i3=((g+1:Nat):Int)/\i5=(tkn 1 l:Int)/\s6=st (mks (hm (g+1)) l))/\Bn7 w V p F r.2 (if r.1=0 then l else []) xa xn xc w'):=fun V hb=>by
      have:=zcW w V p F s fr2 mn (g+1) a k c l (by omega) hf2 HN.out (fun t ht=>(zdG e0 t ht).2) htk (by omega) hk (h.out.dl.later hb) (hx.out.later hb) ha;rw[HR1] at this;refine this.mono fun e w' ⟨F2,d1,d2,d3,hres⟩ => ?_
      rcases hres with ⟨h0,v2,rfl,r2,n2⟩|⟨h0,rfl⟩
      ·obtain⟨ya,yn,yc,rfl⟩:=owns_sliceS r2
       refine⟨_,_,_,_,ya,yn,yc,_,_,by rw[h0];rfl,fun _=>⟨rfl,rfl,rfl,rfl,rfl,rfl⟩,F2,d1,d2,d3,?_,n2⟩;rw[if_pos h0];exact r2
      ·refine⟨_,_,_,_,none,0,0,_,_,rfl,fun c=>absurd c h0,F2,d1,d2,d3,?_,nofun⟩
       rw[if_neg h0];exact zan _
     have e5:(((g+1:Nat):Int))=(g:Int)+1:=by omega
     have c0:=h.out.hf.bk.c 0 _ rfl;have c1:=h.out.hf.bk.c 1 _ rfl;have HW:Hid (w.heap.size<=va.heap.size):=h.out.dl.below.size;have HFF:Hid (∀y,F y->y < va.heap.size):=fun y c=>h.out.dl.at_.lt c
     have HQ:Hid (¬F q/\q < va.heap.size):=⟨(h.out.ap q (.inl rfl)).1,h.out.hf.bk.lt⟩;have HGG:Hid (∃gi:Int,(g:Int)=gi):=⟨_,rfl⟩;obtain⟨gi,hgi⟩:=HGG.out;have g4:¬gi=2147483647:=by omega
     have y1:IntKind.i64.wrap (gi+1)=gi+1:=by rw[IntKind.wrap_i64];omega
     rw[hgi] at k3 BG;have HG:Hid (gi+1=((g+1:Nat):Int)):=by
      show gi+1=_;omega
     obtain⟨x,hxx⟩:∃x,r.1=x:=⟨_,rfl⟩;have HX:Hid (r.1=x):=hxx;rw[hxx] at BG;obtain⟨sm,hsm⟩:∃sm:Int,(sns l:Int)=sm:=⟨_,rfl⟩;rw[hsm] at g3 ⊢;clear hsm hgi HR1 STAY hx ha HR hl J e0 e1 h4 h3 hfr hfr2 hf2 hf3 htk e5 hxx HGG;go_upto_region 14 with fail
     refine zcG w p F r.2 (if x=0 then l else []) q fr fr2 mn gi x va a k c (fun pp i1 i2 i3 i5 s6=>x=0->pp=some ⟨p,0,none⟩/\i1=(fr2:Int)/\i2=(mn:Int)/\i3=((g+1:Nat):Int)/\i5=(tkn 1 l:Int)/\s6=st (mks (hm (g+1)) l)) HW HFF HQ y1 c0 c1 k2 k3 OT BG _ _ _ _ _ _ _ _ _ _ _ _ _ _ _ _ _ _ _ _ _ _ _ _ _ _ _ _ _ _ _ _ _ _ _ _ _ _ _ ?_;intro H pp i1 i2 i3 xa xn xc i5 s6 wx u42 u43 u44 u45 u46 u47 u48 u49 u50 u51 u52 u53 u54 u55 u56 u57 u58 hE hC;have HC:Hid _:=hC;obtain⟨⟨F2,d1,d2,d3,r2,n2⟩,bk,nH⟩:=id hC;have K2:Hid (HD w wx p F2 r.2 q fr mn g v ts tk m []):=h.out.disk d1 d2 d3;have D3:Hid (Bf F va wx/\Nx va F F2):=⟨d3,d2⟩;clear d1 d2 d3 OT BG c0 c1 k2 k3 hC;by_cases h0:x=0
     ·obtain⟨rfl,rfl,rfl,rfl,rfl,rfl⟩:=hE h0
      subst h0;have rr:OwnsS wx (.slice xa xn xc) l:=r2;have NQ:(Value.slice xa xn xc).ownBlock≠some q:=fun e=>by
       have:=(n2 q e).1;have:=HQ.out.2;omega
      have FF:Hid (CmP w va p F q fr fr2 mn g v ts tk m l r (wx.setCells q 0 (hc p fr2 mn (g+1) (.slice xa xn xc) (tkn 1 l) (mks (hm (g+1)) l) []))):=by
       have hbf:Bf (fun y=>y=q) wx (wx.setCells q 0 (hc p fr2 mn (g+1) (.slice xa xn xc) (tkn 1 l) (mks (hm (g+1)) l) [])):=Bf.sets (fun y=>y=q) q rfl _ 0 wx;refine⟨F2,.slice xa xn xc,⟨D3.out.2,fun y e => ?_⟩,?_,.inl ⟨HX.out,⟨K2.out.dl.sets (K2.out.ap q (.inl rfl)).1 (K2.out.ap q (.inl rfl)).2 _,⟨K2.out.hf.bk.put _ rfl,ownsRow_same rr (fun y e=>zac wx q 0 _ y (fun d=>NQ (by rw[e,d]))),NQ⟩,fun y e => ?_⟩⟩⟩
       ·rcases e with e|e
        ·exact .inl (.inl e)
        ·exact .inr (n2 y e).1
       ·exact (D3.out.1.wide fun y e => .inl e).trans (Nx.refl _ _) (hbf.wide fun y e => .inr (.inl e))
       ·rcases e with e|e
        ·rw[e]
         exact K2.out.ap q (.inl rfl)
        ·exact⟨(n2 y e).2,Nat.le_trans HW.out (n2 y e).1⟩
      have c0:=K2.out.hf.bk.c 0 _ rfl;have c1:=K2.out.hf.bk.c 1 _ rfl;have c2:=K2.out.hf.bk.c 2 _ rfl;have c3:=K2.out.hf.bk.c 3 _ rfl;have c4:=K2.out.hf.bk.c 4 _ rfl;have c5:=K2.out.hf.bk.c 5 _ rfl;have c6:=K2.out.hf.bk.c 6 _ rfl;have cf:=K2.out.hf.bk.f;have z0:=bk.c 0 _ rfl;have z1:=bk.c 1 _ rfl;have z2:=bk.c 2 _ rfl;have z3:=bk.c 3 _ rfl;have z4:=bk.c 4 _ rfl;have z5:=bk.c 5 _ rfl;have z6:=bk.c 6 _ rfl;have hqH:q≠H:=fun e=>by have:=HQ.out.2;omega
      obtain⟨gg,hgg⟩:∃gg:Int,((g+1:Nat):Int)=gg:=⟨_,rfl⟩;obtain⟨t1,ht1⟩:∃t1:Int,((tkn 1 l:Nat):Int)=t1:=⟨_,rfl⟩;unfold hc sv at FF;rw[hgg,ht1] at FF;rw[hgg] at z3;rw[ht1] at z5;clear K2 D3 HC bk r2 n2 rr NQ HFF HQ hgg ht1 h;go_wp2;go_ret;exact⟨by rw[HX.out];rfl,FF.out⟩
     ·have FF:Hid (CmP w va p F q fr fr2 mn g v ts tk m l r wx):=⟨F2,v,⟨D3.out.2,Nx.refl _ _⟩,D3.out.1.wide fun y e => .inl e,.inr ⟨by rw[HX.out];exact h0,K2.out⟩⟩
      clear K2 D3 HC bk r2 n2 HFF HQ h hE;go_wp2;go_ret;exact⟨by rw[HX.out];rfl,FF.out⟩
theorem zpK:∀(l:List Bs) (s:St) (k tk:Nat) (a:Bs),(pts s k tk a l).2.n=s.n
 | [],_,_,_,_=>rfl
 | t::l,s,k,tk,a=>by
  rw[pts];by_cases h:(wrb s (k+tk) (rcd a t)).1=0
  ·rw[zao h]
   exact (zpK l _ _ _ _).trans (zla s _ _)
  ·rw[zaA h]
   exact zla s _ _
theorem zlj {z:Int×St} {f:St->Int×St} {N:Nat} (h:z.2.n=N) (hf:∀s,s.n=N->(f s).2.n=N):(thn z f).2.n=N:=by
 by_cases h0:z.1=0
 ·rw[zao h0];exact hf _ h
 ·rw[zaA h0];exact h
theorem zpL (s:St) (k H g:Nat) (ts:List Bs):(bgn s k H g ts).2.n=s.n:=by
 unfold bgn;exact zlj (zpF s k H) fun s1 h1=>zlj ((zpK ts s1 _ _ _).trans h1) fun s2 h2=>zlj ((zk9 s2).trans h2) fun s3 h3=>zlj ((zla s3 _ _).trans h3) fun s4 h4=>(zk9 s4).trans h4
theorem znP (s:St) (k H g:Nat) (ts:List Bs):(bgn s k H g ts).2.l.length<=s.l.length+H+sns ts+1:=by
 unfold bgn;have c:=ziM s k H;by_cases h1:(cln s k H).1=0
 ·rw[zao h1]
  have p:=zfh ts (cln s k H).2 k 1 (hm g);by_cases h2:(pts (cln s k H).2 k 1 (hm g) ts).1=0
  ·rw[zao h2]
   have q:=zfi (pts (cln s k H).2 k 1 (hm g) ts).2;by_cases h3:syE (pts (cln s k H).2 k 1 (hm g) ts).2=0
   ·rw[zao h3]
    have r:=zcv (syS (pts (cln s k H).2 k 1 (hm g) ts).2) k (hd g);rw[zbi] at r;by_cases h4:(wrb (syS (pts (cln s k H).2 k 1 (hm g) ts).2) k (hd g)).1=0
    ·rw[zao h4]
     have t:=zfi (wrb (syS (pts (cln s k H).2 k 1 (hm g) ts).2) k (hd g)).2;show (syS _).l.length<=_
     omega
    ·rw[zaA h4];omega
   ·rw[zaA h3]
    show (syS _).l.length<=_;omega
  ·rw[zaA h2];omega
 ·rw[zaA h1];omega
theorem zfp (s:St) (x:Lo) (t:Bs):(app s x t).1.2.l.length<=s.l.length+40/\(app s x t).1.2.n=s.n:=by
 unfold app;by_cases h1:may t≠0
 ·rw[if_pos h1];exact⟨Nat.le_add_right _ _,rfl⟩
 ·rw[if_neg h1]
  by_cases h2:s.n / 2 < x.tk+sn t
  ·rw[if_pos h2];exact⟨Nat.le_add_right _ _,rfl⟩
  ·rw[if_neg h2]
   have r:=zcv s (x.h*(s.n / 2)+x.tk) (rcd x.mr t);rw[zaF] at r;have hok:=zcX (by simpa using h1);have hsn:sn t<=40:=by unfold sn;omega
   exact⟨by show (wrb _ _ _).2.l.length<=_;omega,zla _ _ _⟩
theorem ziW (s:St) (x:Lo) (ts:List Bs):(cmp s x ts).1.2.l.length<=s.l.length+s.n+1/\(cmp s x ts).1.2.n=s.n:=by
 unfold cmp;by_cases h1:zeN ts≠0
 ·rw[if_pos h1];exact⟨by show s.l.length<=_;omega,rfl⟩
 ·rw[if_neg h1]
  by_cases h2:s.n / 2 - 1 < sns ts
  ·rw[if_pos h2];exact⟨by show s.l.length<=_;omega,rfl⟩
  ·rw[if_neg h2]
   by_cases h3:2147483647<=x.g
   ·rw[if_pos h3];exact⟨by show s.l.length<=_;omega,rfl⟩
   ·rw[if_neg h3]
    have:=znP s ((1 - x.h)*(s.n / 2)) (s.n / 2) (x.g+1) ts;exact⟨by show (bgn _ _ _ _ _).2.l.length<=_;omega,zpL _ _ _ _ _⟩
theorem znQ (s:St) (k:Int) (t:Bs):wrE s k t≠151:=by
 unfold wrE rch
 repeat' split
 all_goals decide
theorem ziX:∀(bs:List Bs) (s:St) (k:Nat),(wrs s k bs).1≠151
 | [],_,_=>by show (0:Int)≠151;decide
 | b::bs,s,k=>by
  rw[wrs];by_cases h:wrE s (k:Int) b=0
  ·rw[zao h]
   exact ziX bs _ _
  ·rw[zaA h]
   exact znQ _ _ _
theorem znR {s:St} {x:Lo} {r:Bs} (h:(app s x r).1.1=151):app s x r=((151,s),x):=by
 unfold app at h ⊢;by_cases h1:may r≠0
 ·rw[if_pos h1] at h
  exfalso
  revert h;show may r=151->False
  unfold may
  repeat' split
  all_goals decide
 ·rw[if_neg h1] at h ⊢
  by_cases h2:s.n / 2 < x.tk+sn r
  ·rw[if_pos h2]
  ·rw[if_neg h2] at h
   exact absurd h (ziX _ _ _)
structure Lz (w wr:Wo) (p:Nat) (F:Nat->Prop) (s:St) (q:Nat) (v:Value) (x:Lo):Prop where
 hd_:HD w wr p F s q (x.h*(s.n / 2)) (s.n / 2) x.g v x.ts x.tk x.mr []
 h1:x.h<=1
 n4:4<=s.n
 n2:s.n<=1024
 tk:x.tk<=s.n / 2
 ok:∀t∈x.ts,1<=t.length/\t.length<=2000
 g:x.g<=2147483647
section
variable {w wr:Wo} {p:Nat} {F:Nat->Prop} {s:St} {q:Nat} {v:Value} {x:Lo}
theorem Lz.later (h:Lz w wr p F s q v x) {w':Wo} (hb:Bw wr w'):Lz w w' p F s q v x:=⟨h.hd_.later hb,h.h1,h.n4,h.n2,h.tk,h.ok,h.g⟩
theorem Lz.tlen (h:Lz w wr p F s q v x):x.ts.length<=512:=by
 have h1:=zbW x.ts;have h2:tkn 1 x.ts<=s.n / 2:=h.tk;have h3:=h.n2;omega
theorem Lz.fh (h:Lz w wr p F s q v x) {y:Nat} (hy:FH F q v y):y < wr.heap.size/\w.heap.size<=y:=by
 rcases hy with e|e
 ·exact⟨h.hd_.dl.at_.lt e,h.hd_.dl.new y e⟩
 ·exact⟨h.hd_.hf.lt e,(h.hd_.ap y e).2⟩
theorem Lz.other (h:Lz w wr p F s q v x) {w':Wo} {G:Nat->Prop} (hb:Bf G wr w') (hG:∀y,FH F q v y->¬G y) (hw:∀y,G y->w.heap.size<=y):Lz w w' p F s q v x :=
 ⟨⟨⟨h.hd_.dl.at_.other hb (fun y hy=>hG y (.inl hy)),h.hd_.dl.new,h.hd_.dl.below.trans (hb.below hw h.hd_.dl.below.size)⟩,h.hd_.hf.bf hb (fun y hy=>hG y (.inr hy)),h.hd_.ap⟩,h.h1,h.n4,h.n2,h.tk,h.ok,h.g⟩
theorem Lz.fr (h:Lz w wr p F s q v x):x.h*(s.n / 2)<=512:=by
 have:=h.n2;rcases (by have:=h.h1;omega:x.h=0\/x.h=1) with e|e
 ·rw[e,Nat.zero_mul];omega
 ·rw[e,Nat.one_mul];omega
end
def LzP (w wr:Wo) (p:Nat) (F:Nat->Prop) (q:Nat) (v:Value) (s:St) (x:Lo) (w':Wo):Prop:=∃F' v',Lz w w' p F' s q v' x/\Nx2 wr F q v F' v'/\Bf (FH F q v) wr w'
theorem zeC (w wr:Wo) (p:Nat) (F:Nat->Prop) (s:St) (q:Nat) (v:Value) (x:Lo) (X:Ba) (hl:s.l.length+100<=1000000) (hk:Kh w) (h:Lz w wr p F s q v x) :
  Cl 130 #[.pointer (some ⟨q,0,none⟩),.string X] wr fun e w'=>e = .returned (.int .i64 (app s x X.data.toList).1.1)/\LzP w wr p F q v (app s x X.data.toList).1.2 (app s x X.data.toList).2 w':=by
 have hn2:=h.n2;have hfr:=h.fr;have e1:(app s x X.data.toList).1=apR s (x.h*(s.n / 2)) (s.n / 2) x.tk x.mr X.data.toList:=by
  unfold app apR;by_cases h1:may X.data.toList≠0
  ·rw[if_pos h1,if_pos h1]
  ·rw[if_neg h1,if_neg h1]
   by_cases h2:s.n / 2 < x.tk+sn X.data.toList
   ·rw[if_pos h2,if_pos h2]
   ·rw[if_neg h2,if_neg h2]
 have hlen:=zfp s x X.data.toList;refine (zfl w wr p F s q (x.h*(s.n / 2)) (s.n / 2) x.g v x.ts x.tk x.mr X (zdu _ _ rfl) (by have:=h.tlen;omega) h.tk (by omega) (by omega) hl hk h.hd_).mono ?_;rintro e w' ⟨he,F',v',n1,b1,hh⟩;rw[e1];refine⟨he,F',v',?_,n1,b1⟩;rw[e1] at hlen;obtain⟨t,ht⟩:∃t,X.data.toList=t:=⟨_,rfl⟩;rw[ht] at e1 hh hlen ⊢;have hsn:(apR s (x.h*(s.n / 2)) (s.n / 2) x.tk x.mr t).2.n=s.n:=hlen.2;rcases hh with ⟨c0,hh⟩|⟨c0,hh⟩
 ·have h1:may t=0:=by
   by_cases c:may t=0
   ·exact c
   ·exfalso
    unfold apR at c0;rw[if_pos c] at c0;exact c c0
  have h2:¬s.n / 2 < x.tk+sn t:=fun c=>by
   unfold apR at c0;rw[if_neg (by rw[h1];simp),if_pos c] at c0;cases c0
  have e2:(app s x t).2=⟨x.h,x.g,x.ts++[t]⟩:=by
   have c0':(wrb s (x.h*(s.n / 2)+x.tk) (rcd x.mr t)).1=0:=by
    unfold apR at c0;rw[if_neg (by rw[h1];simp),if_neg h2] at c0;exact c0
   unfold app;rw[if_neg (by rw[h1];simp),if_neg h2];show (if (wrb s (x.h*(s.n / 2)+x.tk) (rcd x.mr t)).1=0 then _ else _)=_
   rw[if_pos c0']
  have et:(⟨x.h,x.g,x.ts++[t]⟩:Lo).tk=x.tk+sn t:=zds x.ts 1 _;have em:(⟨x.h,x.g,x.ts++[t]⟩:Lo).mr=rmk x.mr t:=zdt x.ts (hm x.g) _;rw[e2];refine⟨?_,h.h1,by rw[hsn];exact h.n4,by rw[hsn];exact h.n2,by rw[et,hsn];omega,fun u hu => ?_,h.g⟩
  ·rw[et,em,hsn]
   exact hh
  ·rcases List.mem_append.1 hu with hu|hu
   ·exact h.ok u hu
   ·rw[List.mem_singleton] at hu
    subst hu;exact zcX h1
 ·have e2:(app s x t).2=x:=by
   unfold app;by_cases h1:may t≠0
   ·rw[if_pos h1]
   ·rw[if_neg h1]
    by_cases h2:s.n / 2 < x.tk+sn t
    ·rw[if_pos h2]
    ·rw[if_neg h2]
     have c0':(wrb s (x.h*(s.n / 2)+x.tk) (rcd x.mr t)).1≠0:=by
      unfold apR at c0;rw[if_neg h1,if_neg h2] at c0;exact c0
     show (if (wrb s (x.h*(s.n / 2)+x.tk) (rcd x.mr t)).1=0 then _ else _)=_;rw[if_neg c0']
  rw[e2];exact⟨by rw[hsn];exact hh,h.h1,by rw[hsn];exact h.n4,by rw[hsn];exact h.n2,by rw[hsn];exact h.tk,h.ok,h.g⟩
theorem zdH (w wr:Wo) (p:Nat) (F:Nat->Prop) (s:St) (q:Nat) (v:Value) (x:Lo) (a:Option Addr) (n c:Nat) (us:List Bs) (hn:us.length=n) (hnb:n<=10000000000000) (hl:s.l.length+4000<=1000000) (hk:Kh w) (h:Lz w wr p F s q v x) (tx:zbq wr a us) (ap:Ap a us F) :
  Cl 207 #[.pointer (some ⟨q,0,none⟩),.slice a n c] wr fun e w'=>e = .returned (.int .i64 (cmp s x us).1.1)/\LzP w wr p F q v (cmp s x us).1.2 (cmp s x us).2 w':=by
 have hn2:=h.n2;have hn4:=h.n4;have h01:x.h=0\/x.h=1:=by have:=h.h1;omega
 have e2:s.n / 2 - x.h*(s.n / 2)=(1 - x.h)*(s.n / 2):=by
  rcases h01 with e|e
  ·rw[e,Nat.zero_mul,Nat.sub_zero,Nat.sub_zero,Nat.one_mul]
  ·rw[e,Nat.one_mul,Nat.sub_self,Nat.sub_self,Nat.zero_mul]
 have e1:(cmp s x us).1=cmR s ((1 - x.h)*(s.n / 2)) (s.n / 2) x.g us:=by
  unfold cmp cmR;by_cases h1:zeN us≠0
  ·rw[if_pos h1,if_pos h1]
  ·rw[if_neg h1,if_neg h1]
   by_cases h2:s.n / 2 - 1 < sns us
   ·rw[if_pos h2,if_pos h2]
   ·rw[if_neg h2,if_neg h2]
    by_cases h3:2147483647<=x.g
    ·rw[if_pos h3,if_pos h3]
    ·rw[if_neg h3,if_neg h3]
 have hlen:=ziW s x us;refine (zeB w wr p F s q (x.h*(s.n / 2)) (s.n / 2) x.g v x.ts x.tk x.mr a n c us hn (by omega) (by omega) (by omega) h.g (by rcases h01 with e|e;exact .inl (by rw[e,Nat.zero_mul]);exact .inr (by rw[e,Nat.one_mul])) (by omega) hk h.hd_ tx ap).mono ?_;rintro e w' ⟨he,F',v',n1,b1,hh⟩;rw[e2,<-e1] at he hh;refine⟨he,F',v',?_,n1,b1⟩;have hsn:(cmp s x us).1.2.n=s.n:=hlen.2;rcases hh with ⟨c0,hh⟩|⟨c0,hh⟩
 ·have h1:¬zeN us≠0:=fun c=>by
   unfold cmp at c0;rw[if_pos c] at c0;exact c c0
  have h2:¬s.n / 2 - 1 < sns us:=fun c=>by
   unfold cmp at c0;rw[if_neg h1,if_pos c] at c0;cases c0
  have h3:¬2147483647<=x.g:=fun c=>by
   unfold cmp at c0;rw[if_neg h1,if_neg h2,if_pos c] at c0;cases c0
  have e3:(cmp s x us).2=⟨1 - x.h,x.g+1,us⟩:=by
   have c0':(bgn s ((1 - x.h)*(s.n / 2)) (s.n / 2) (x.g+1) us).1=0:=by
    unfold cmp at c0;rw[if_neg h1,if_neg h2,if_neg h3] at c0;exact c0
   unfold cmp;rw[if_neg h1,if_neg h2,if_neg h3];show (if (bgn s ((1 - x.h)*(s.n / 2)) (s.n / 2) (x.g+1) us).1=0 then _ else _)=_
   rw[if_pos c0']
  rw[e3];refine⟨by rw[hsn];exact hh,by show 1 - x.h<=1;omega,by rw[hsn];exact h.n4,by rw[hsn];exact h.n2,?_,zdG (by simpa using h1),by show x.g+1<=_;omega⟩;rw[hsn];show tkn 1 us<=_
  rw[zaY];omega
 ·have e3:(cmp s x us).2=x:=by
   unfold cmp;by_cases h1:zeN us≠0
   ·rw[if_pos h1]
   ·rw[if_neg h1]
    by_cases h2:s.n / 2 - 1 < sns us
    ·rw[if_pos h2]
    ·rw[if_neg h2]
     by_cases h3:2147483647<=x.g
     ·rw[if_pos h3]
     ·rw[if_neg h3]
      have c0':(bgn s ((1 - x.h)*(s.n / 2)) (s.n / 2) (x.g+1) us).1≠0:=by
       unfold cmp at c0;rw[if_neg h1,if_neg h2,if_neg h3] at c0;exact c0
      show (if (bgn s ((1 - x.h)*(s.n / 2)) (s.n / 2) (x.g+1) us).1=0 then _ else _)=_;rw[if_neg c0']
  rw[e3];exact⟨by rw[hsn];exact hh,h.h1,by rw[hsn];exact h.n4,by rw[hsn];exact h.n2,by rw[hsn];exact h.tk,h.ok,h.g⟩
theorem zg4 (w wr:Wo) (p:Nat) (F:Nat->Prop) (s:St) (q:Nat) (v:Value) (x:Lo) (hl:s.l.length<=1000000) (h:Lz w wr p F s q v x) :
  Cl 132 #[.pointer (some ⟨q,0,none⟩)] wr fun e w'=>e = .returned (.int .i64 (syE s))/\LzP w wr p F q v (syS s) x w':=by
 refine (zg3 w wr p F s q _ _ x.g v x.ts x.tk x.mr [] hl h.hd_).mono ?_;rintro e w' ⟨he,F',d1,d2,d3⟩;have hn:=zk9 s;exact⟨he,F',v,⟨by rw[hn];exact h.hd_.disk d1 d2 d3,h.h1,by rw[hn];exact h.n4,by rw[hn];exact h.n2,by rw[hn];exact h.tk,h.ok,h.g⟩,⟨d2,Nx.refl _ _⟩,d3.wide fun _ c => .inl c⟩
theorem ziY (w w0:Wo) (p:Nat) (F0:Nat->Prop) (s:St) (hl:s.l.length+2000<=1000000) (hk:Hid (Kh w)) (D:Hid (Dl w w0 p F0 s)) :
  Cl 76 #[.pointer (some ⟨p,0,none⟩)] w0 fun e w'=>OpP w w0 p F0 (s.n / 2) (opn s).1 (opn s).2 e w':=by
 by_cases h:s.n / 2 < 2
 ·have e:opn s=((4,s),⟨0,0,[]⟩):=by unfold opn;rw[if_pos h]
  rw[e];refine (zfk w w0 p F0 s h D).mono ?_;rintro e w' ⟨he,rfl⟩;exact⟨F0,D.out,Nx.refl _ _,Bf.refl _ _,.inr ⟨(show (4:Int)≠0 by decide),he⟩⟩
 ·exact ziR w w0 p F0 s (by omega) hl hk D
theorem zpM {s:St} (h:(opn s).1.1=0) (hOk:Ok s):4<=s.n/\(opn s).2.h<=1/\(opn s).1.2.n=s.n/\(opn s).2.tk<=s.n / 2/\(opn s).2.g<=2147483647/\∀t∈(opn s).2.ts,1<=t.length/\t.length<=2000:=by
 have og:=zpn s;unfold opn at h og ⊢;by_cases h1:s.n / 2 < 2
 ·rw[if_pos h1] at h;cases h
 ·rw[if_neg h1] at h og ⊢
  by_cases h2:s.down=true
  ·rw[if_pos h2] at h;cases h
  ·rw[if_neg h2] at h og ⊢
   by_cases h3:(use s).2=0
   ·rw[if_pos h3] at og ⊢
    exact⟨by omega,by show (0:Nat)<=1;decide,zpL _ _ _ _ _,by show 1<=s.n / 2;omega,og,nofun⟩
   ·rw[if_neg h3] at og ⊢
    have hl:((hb s ((use s).1*(s.n / 2)) (s.n / 2)).drop 64).length=64*(s.n / 2 - 1):=by rw[List.length_drop,zcQ hOk];omega
    have hfit:=zeo.scan_le 0 [] (s.n / 2) (s.n / 2 - 1) ((hb s ((use s).1*(s.n / 2)) (s.n / 2)).drop 64) (hm (use s).2) 1 hl;refine⟨by omega,?_,zpF _ _ _,?_,og,fun t ht=>zeo.scan_ok _ _ _ t ht⟩
    ·show (use s).1<=1
     unfold use
     split
     ·exact nL 1
     ·exact Nat.zero_le 1
    ·show tkn 1 (zdP s _ _ _)<=s.n / 2
     unfold zdP;omega
theorem zcy {w:Wo} {base base':Nat} {e:TypeId} {size n:Nat} {v:Value} {xs:List Value} (h:w.ownsRow base e size v n xs) (hb:base'<=base):w.ownsRow base' e size v n xs:=by
 refine⟨h.1,?_⟩;rcases h.2 with h2|⟨g,cap,cur,rfl,hg,hh⟩
 ·exact .inl h2
 ·exact .inr ⟨g,cap,cur,rfl,Nat.le_trans hb hg,hh⟩
end Go.Proofs.YtjcppbhgjchjaaaGreatDoor.Sto
