/- A part of the walk. -/
import Derived.Test.YtjcppbhgjchjaaaGreatDoorZr2G31
set_option maxHeartbeats 8000000
set_option maxRecDepth 20000
namespace Go.Proofs.YtjcppbhgjchjaaaGreatDoor.Sto
open Go.RowKit Go.Proofs.Fd Go.Proofs.Dk Go.Proofs.Lg
def zcf (w:World) (a:Option Addr) (l:List Bs):Prop:=∀i (hi:i < l.length),∃b o,a=some ⟨b,o,none⟩/\w.cell? ⟨b,o+i,none⟩=some (sv l[i])
theorem zcf.nil (w:World) (a:Option Addr):zcf w a []:=fun _ hi=>absurd hi (Nat.not_lt_zero _)
theorem zcf.later {w w':World} {a:Option Addr} {l:List Bs} (h:zcf w a l) (hb:Bw w w'):zcf w' a l:=fun i hi=>by
 obtain⟨b,o,e,hc⟩:=h i hi;exact⟨b,o,e,cell_later hb hc⟩
def Ap (a:Option Addr) (l:List Bs) (G:Nat->Prop):Prop:=∀x,a=some x->0 < l.length->¬G x.block
theorem zcf.lt {w:World} {a:Option Addr} {l:List Bs} (h:zcf w a l):∀x,a=some x->0 < l.length->x.block < w.heap.size:=fun x e h0=>by
 obtain⟨b,o,e',hc⟩:=h 0 h0;rw[e'] at e;injection e with e
 subst e;exact World.block_lt_of_cell? _ _ hc
theorem zcf.bf {w w':World} {a:Option Addr} {l:List Bs} (h:zcf w a l) {G:Nat->Prop} (hb:Bf G w w') (ha:Ap a l G):zcf w' a l:=fun i hi=>by
 obtain⟨b,o,e,hc⟩:=h i hi;exact⟨b,o,e,hb.cell hc (show ¬G b from ha ⟨b,o,none⟩ e (by omega))⟩
theorem Ap.nx {w:World} {a:Option Addr} {l:List Bs} {G G':Nat->Prop} (ha:Ap a l G) (h:zcf w a l) (hx:Nx w G G'):Ap a l G':=fun x e h0=>hx.apart (ha x e h0) (h.lt x e h0)
theorem zmA:∀(bs:List Bs) (s:St) (k:Nat),(wrs s k bs).2.l.length<=s.l.length+bs.length
 | [],_,_=>Nat.le_refl _
 | b::bs,s,k=>by
  rw[wrs];have h1:=zfv s (k:Int) b;by_cases h:wrE s (k:Int) b=0
  ·rw[zaB h]
   have:=zmA bs (wrS s (k:Int) b) (k+1);rw[List.length_cons];exact Nat.le_trans this (by omega)
  ·rw[zaS h,List.length_cons]
   exact Nat.le_trans h1 (by omega)
theorem zd0 (s:St) (k:Nat) (b:Bs):(wrb s k b).2.l.length<=s.l.length+b.length / 64:=by
 have:=zmA (chs (b.length / 64) b) s k;rw[zc7] at this;exact this
structure Fl (w va:World) (p:Nat) (F:Nat->Prop) (s:St) (q fr mn g:Nat) (v:Value) (a:Option Addr) (n c:Nat) (l:List Bs) (r:Int×St) (k:Nat) (wr:World) (F':Nat->Prop) (s':St) (v':Value):Prop where
 hd:HD w wr p F' s' q fr mn g v' (l.take k) (tkn 1 (l.take k)) (mks (hm g) (l.take k)) [.slice a n c]
 nx:Nx2 va F q v F' v'
 bf:Bf (FH F q v) va wr
 ln:s'.l.length+1<=s.l.length+tkn 1 (l.take k)
 eq:r=pts s' fr (tkn 1 (l.take k)) (mks (hm g) (l.take k)) (l.drop k)
 tx:zcf wr a l
def FlP (w va:World) (p:Nat) (F:Nat->Prop) (q fr mn g:Nat) (v:Value) (more:List Value) (l:List Bs) (y:Int×St) (w':World):Prop :=
 ∃F' v' ts' tk' m',Nx2 va F q v F' v'/\Bf (FH F q v) va w'/\HD w w' p F' y.2 q fr mn g v' ts' tk' m' more/\(y.1=0->ts'=l/\tk'=tkn 1 l/\m'=mks (hm g) l)
theorem zpG (l:List Bs) (k:Nat) (hk:k < l.length):tkn 1 (l.take (k+1))=tkn 1 (l.take k)+sn l[k]:=by
 rw[List.take_succ_eq_append_getElem hk,zfn]
theorem zpH (a:Bs) (l:List Bs) (k:Nat) (hk:k < l.length):mks a (l.take (k+1))=rmk (mks a (l.take k)) l[k]:=by
 rw[List.take_succ_eq_append_getElem hk,zfo]
theorem ziW (l:List Bs) (k:Nat):tkn 1 (l.take k)<=tkn 1 l:=by
 rw[zb1,zb1];have:∀(l:List Bs) (k:Nat),sns (l.take k)<=sns l:=fun l=>by
  induction l with
  | nil=>intro k;rw[List.take_nil];exact Nat.le_refl _
  | cons t l ih =>
   intro k;cases k with
   | zero=>exact Nat.zero_le _
   | succ k=>rw[List.take_succ_cons,sns,sns];have:=ih k;omega
 have:=this l k;omega
theorem zmB (w va:World) (p:Nat) (F:Nat->Prop) (s:St) (q fr mn g:Nat) (v:Value) (tk:Nat) (m:Bs) (a:Option Addr) (n c:Nat) (l:List Bs) (hn:l.length=n) (ht:∀t∈l,t.length<=2000) (hs:tkn 1 l<=mn) (hz:fr+mn<=3000) (hl:s.l.length+mn+200<=1000000) (hk:Hid (Kh w)) (h:Hid (HD w va p F s q fr mn g v [] tk m [.slice a n c])) (hx:Hid (zcf va a l)) (ha:Hid (Ap a l (FH F q v))) :
  Cl 218 #[.pointer (some ⟨q,0,none⟩)] va fun e w'=>e = .returned (.int .i64 (pts s fr 1 (hm g) l).1)/\FlP w va p F q fr mn g v [.slice a n c] l (pts s fr 1 (hm g) l) w':=by
 have GO:Hid _:=zgC q p fr mn g v [] tk m [.slice a n c] va (h.out.kh hk.out) h.out.hf;obtain⟨r,hr⟩:∃r,pts s fr 1 (hm g) l=r:=⟨_,rfl⟩;rw[hr];have HLL:Hid (∀t∈l,t.length<=2000):=ht;have HN:Hid (l.length=n):=hn;have hnn:n<=5000:=by
  have:=zc9 l;omega
 have I0:Hid (∀W,Hf W q p fr mn g v [] 1 (hm g) [.slice a n c]->Bf (fun x=>x=q) va W->Fl w va p F s q fr mn g v a n c l r 0 W F s v):=fun W k hb=>by
  have hw:∀x,x=q->FH F q v x:=fun x e => .inr (.inl e)
  exact⟨h.out.half k (hb.wide fun x e => .inl e) (Nx.refl _ _),Nx2.refl _ _ _ _,hb.wide hw,Nat.le_refl _,hr.symm,hx.out.bf (hb.wide hw) ha.out⟩
 have HAP:Hid (∀(W:World) (G':Nat->Prop),Nx va (FH F q v) G'->Ap a l G'):=fun W G' k=>ha.out.nx hx.out k
 have AD:Hid (∀W F' s' v' (k:Nat) (hk':k < l.length),s'.l.length+100<=1000000->HD w W p F' s' q fr mn g v' (l.take k) (tkn 1 (l.take k)) (mks (hm g) (l.take k)) [.slice a n c]->Cl 206 #[.pointer (some ⟨q,0,none⟩),sv l[k]] W fun e w'=>e = .returned (.int .i64 (wrb s' (fr+tkn 1 (l.take k)) (rcd (mks (hm g) (l.take k)) l[k])).1)/\AdP w W p F' q fr mn g v' (l.take k) (tkn 1 (l.take k)) (mks (hm g) (l.take k)) [.slice a n c] l[k] (wrb s' (fr+tkn 1 (l.take k)) (rcd (mks (hm g) (l.take k)) l[k])) w'):=fun W F' s' v' k hk' hb hd =>
  ziV w W p F' s' q fr mn g v' (l.take k) _ _ _ l[k] (zfp _ _ rfl) (ht _ (List.getElem_mem hk')) (by rw[List.length_take];omega) (by have:=ziW l k;omega) hb hk hd
 clear hr h hx ha hk ht hn;go_enter Tryz.func218, Tryz.ntmps218;go_wp2_with fail;refine Calls.mono GO.out ?_;rintro e w1 ⟨rfl,h1,h2⟩;have I1:Hid _:=I0.out w1 h1 h2;clear h1 h2 GO I0;have k7:=I1.out.hd.hf.bk.c 7 _ rfl;go_wp2;clear k7;go_loopw [15] (fun i wr=>∃(k:Nat) (F':Nat->Prop) (s':St) (v':Value),k<=n/\i = .int .i64 (k:Int)/\Hid (Fl w va p F s q fr mn g v a n c l r k wr F' s' v')) (fun i _=>n - (intOf i).toNat)
 case atStart=>exact⟨0,F,s,v,Nat.zero_le _,rfl,I1.out⟩
 case round =>
  obtain⟨k,F',s',v',hkn,rfl,I⟩:=hrel;clear I1;by_cases hlt:k < n
  ·have hkl:k < l.length:=by rw[HN.out];exact hlt
   have g1:(k:Int) < (n:Int):=by omega
   obtain⟨b,o,rfl,c0⟩:=I.out.tx k hkl;have hr2:=I.out.eq;rw[List.drop_eq_getElem_cons hkl,pts] at hr2;have hln:=I.out.ln;have hmo:=ziW l k;have A1:Hid _:=AD.out wr F' s' v' k hkl (by omega) I.out.hd;have HW:=zd0 s' (fr+tkn 1 (l.take k)) (rcd (mks (hm g) (l.take k)) l[k]);rw[zbs,show 64*sn l[k] / 64=sn l[k] by omega] at HW;have EK:=zpG l k hkl;have EM:=zpH (hm g) l k hkl;have ET:l.take (k+1)=l.take k++[l[k]]:=List.take_succ_eq_append_getElem hkl;obtain⟨y,hy⟩:∃y,wrb s' (fr+tkn 1 (l.take k)) (rcd (mks (hm g) (l.take k)) l[k])=y:=⟨_,rfl⟩;rw[hy] at hr2 A1 HW;obtain⟨t,ht⟩:∃t,l[k]=t:=⟨_,rfl⟩;rw[ht] at A1 c0 EK EM ET hr2 HW;have HR:Hid (r=thn y fun s''=>pts s'' fr (tkn 1 (l.take k)+sn t) (rmk (mks (hm g) (l.take k)) t) (l.drop (k+1))):=hr2;have HEQ:Hid (tkn 1 (l.take (k+1))=tkn 1 (l.take k)+sn t/\mks (hm g) (l.take (k+1))=rmk (mks (hm g) (l.take k)) t/\l.take (k+1)=l.take k++[t]):=⟨EK,EM,ET⟩;have HLN:Hid (y.2.l.length+1<=s.l.length+(tkn 1 (l.take k)+sn t)):=(show y.2.l.length+1<=s.l.length+(tkn 1 (l.take k)+sn t) by omega);have HAW:Hid (Ap (some ⟨b,o,none⟩) l (FH F' q v')):=HAP.out wr _ I.out.nx.fh;clear hy ht hr2 EK EM ET hln hmo AD HAP;obtain⟨x,hx⟩:∃x,y.1=x:=⟨_,rfl⟩;rw[hx] at A1;have HX:Hid (y.1=x):=hx;clear hx;unfold sv at A1 c0;go_wp2_with fail;refine Calls.mono A1.out ?_;rintro e w2 ⟨rfl,F2,v2,n2,b2,hd2⟩;by_cases h0:x=0
   ·subst h0
    have J:Hid (Fl w va p F s q fr mn g v (some ⟨b,o,none⟩) n c l r (k+1) w2 F2 y.2 v2):=by
     rcases hd2 with ⟨-,hd2⟩|⟨hne,-⟩
     ·refine⟨?_,I.out.nx.trans n2 I.out.bf.size,I.out.bf.trans I.out.nx.fh b2,?_,?_,I.out.tx.bf b2 HAW.out⟩
      ·rw[HEQ.out.1,HEQ.out.2.1,HEQ.out.2.2]
       exact hd2
      ·rw[HEQ.out.1]
       exact HLN.out
      ·rw[HEQ.out.1,HEQ.out.2.1]
       exact HR.out.trans (zaB HX.out)
     ·exact absurd HX.out hne
    clear hd2 n2 b2 I A1 c0;go_wp2;go_roundw
    case rel=>exact⟨k+1,F2,y.2,v2,by omega,rfl,J.out⟩
    case measure=>simp[intOf];omega
   ·have J:Hid (r=y/\FlP w va p F q fr mn g v [.slice (some ⟨b,o,none⟩) n c] l y w2):=by
     rcases hd2 with ⟨he,-⟩|⟨-,hd2⟩
     ·exact absurd (HX.out.symm.trans he) h0
     ·exact⟨HR.out.trans (zaS (by rw[HX.out];exact h0)),F2,v2,_,_,_,I.out.nx.trans n2 I.out.bf.size,I.out.bf.trans I.out.nx.fh b2,hd2,fun e=>absurd (HX.out.symm.trans e) h0⟩
    clear hd2 n2 b2 I A1 c0;go_wp2;go_ret;exact⟨by rw[J.out.1,HX.out];rfl,by rw[J.out.1];exact J.out.2⟩
  ·obtain rfl:k=n:=by omega
   have J:Hid (r=(0,s')/\FlP w va p F q fr mn g v [.slice a k c] l (0,s') wr):=by
    have h1:=I.out.eq;have e1:l.take k=l:=List.take_of_length_le (by rw[HN.out];exact Nat.le_refl _);have e2:l.drop k=[]:=List.drop_of_length_le (by rw[HN.out];exact Nat.le_refl _);rw[e2,pts] at h1;have h2:=I.out.hd;rw[e1] at h2;exact⟨h1,F',v',_,_,_,I.out.nx,I.out.bf,h2,fun _=>⟨rfl,rfl,rfl⟩⟩
   clear I;go_wp2;go_ret;exact⟨by rw[J.out.1];rfl,by rw[J.out.1];exact J.out.2⟩
theorem keepE {wa wb:World} {q:Nat} {x0 x1 x2 x3:Value} (hb:Bw wa wb) (h:wa.cell? ⟨q,0,none⟩=some x0/\wa.cell? ⟨q,1,none⟩=some x1/\wa.cell? ⟨q,2,none⟩=some x2/\wa.cell? ⟨q,3,none⟩=some x3) :
  wb.cell? ⟨q,0,none⟩=some x0/\wb.cell? ⟨q,1,none⟩=some x1/\wb.cell? ⟨q,2,none⟩=some x2/\wb.cell? ⟨q,3,none⟩=some x3:=⟨cell_later hb h.1,cell_later hb h.2.1,cell_later hb h.2.2.1,cell_later hb h.2.2.2⟩
theorem zvf {w wa wb:World} {p:Nat} {F:Nat->Prop} {s:St} {q:Nat} {x0 x1 x2 x3:Value} (hq:¬F q) (hd:Ds w wa p F s wb) (h:wa.cell? ⟨q,0,none⟩=some x0/\wa.cell? ⟨q,1,none⟩=some x1/\wa.cell? ⟨q,2,none⟩=some x2/\wa.cell? ⟨q,3,none⟩=some x3) :
  wb.cell? ⟨q,0,none⟩=some x0/\wb.cell? ⟨q,1,none⟩=some x1/\wb.cell? ⟨q,2,none⟩=some x2/\wb.cell? ⟨q,3,none⟩=some x3:=by
 obtain⟨F',-,-,hb⟩:=hd;exact⟨hb.cell h.1 hq,hb.cell h.2.1 hq,hb.cell h.2.2.1 hq,hb.cell h.2.2.2 hq⟩
theorem zjU (w va:World) (p:Nat) (F:Nat->Prop) (s:St) (q fr mn g:Nat) (v:Value) (ts:List Bs) (tk:Nat) (m:Bs) (more:List Value) (hz:fr<=4000) (hl:s.l.length+1<=1000000) (hk:Hid (Kh w)) (h:Hid (HD w va p F s q fr mn g v ts tk m more)) :
  Cl 219 #[.pointer (some ⟨q,0,none⟩)] va fun e w'=>e = .returned (.int .i64 (wrb s fr (hd g)).1)/\Ds w va p F (wrb s fr (hd g)).2 w':=by
 have HH:Hid (∀W,Kh W->Cl 288 #[.int .i64 (g:Int)] W fun e w'=>e = .returned (.string (st (hd g)))/\Bw W w'):=fun W k=>zgy g W k
 have WR:Hid (∀W,Dl w W p F s->Cl 222 #[.agg #[.pointer (some ⟨p,0,none⟩),.int .i64 (fr:Int),.int .i64 (mn:Int)],.int .i64 0,.string (st (hd g))] W fun e w'=>e = .returned (.int .i64 (wrb s fr (hd g)).1)/\Ds w W p F (wrb s fr (hd g)).2 w'):=fun W k=>zc8 w W p F s fr 0 mn (hd g) 1 (zdh g) (by decide) (by omega) (by omega) k
 have c0:=h.out.hf.bk.c 0 _ rfl;have c1:=h.out.hf.bk.c 1 _ rfl;have c2:=h.out.hf.bk.c 2 _ rfl;have c3:=h.out.hf.bk.c 3 _ rfl;have NQ:Hid (¬F q):=(h.out.ap q (.inl rfl)).1;have KK:Hid (∀W,Below va.drew.heap.size va.drew W->Dl w W p F s):=fun W hb=>(h.out.dl.later (Below.refl _ _).drew).later hb
 have KD:Hid (Kh va.drew):=hk.out.later (h.out.dl.below.drew);have HF:Hid (∀W W',Below va.drew.heap.size va.drew W->Ds w W p F (wrb s fr (hd g)).2 W'->Ds w va p F (wrb s fr (hd g)).2 W'):=fun W W' hb ⟨F',k1,k2,k3⟩=>by
  have b0:Bw va W:=chain (Below.refl _ _).drew hb;exact⟨F',k1,(Nx.refl va F).trans k2 b0.size,(Bf.of b0).trans (Nx.refl _ _) k3⟩
 obtain⟨y,hy⟩:∃y,wrb s fr (hd g)=y:=⟨_,rfl⟩;obtain⟨x,hx⟩:∃x,y.1=x:=⟨_,rfl⟩;rw[hy] at WR HF ⊢;rw[hx] at WR ⊢;obtain⟨X,hX⟩:∃X,st (hd g)=X:=⟨_,rfl⟩;rw[hX] at HH WR;clear hy hx hX h hk hl;go_enter Tryz.func219, Tryz.ntmps219;go_wp2_with fail;go_region_held3 (fun w'=>w'.cell? ⟨q,0,none⟩=some (.pointer (some ⟨p,0,none⟩))/\w'.cell? ⟨q,1,none⟩=some (.int .i64 (fr:Int))/\w'.cell? ⟨q,2,none⟩=some (.int .i64 (mn:Int))/\w'.cell? ⟨q,3,none⟩=some (.int .i64 (g:Int))) (first|exact⟨c0,c1,c2,c3⟩|assumption|exact keepE (by assumption) (by assumption)|exact zvf NQ.out (by assumption) (by assumption)) (first|(go_at_call 288;refine Calls.mono (HH.out _ KD.out) ?_;rintro e w3 ⟨rfl,hb3⟩)|(go_at_call 222;refine Calls.mono (WR.out _ (KK.out _ (by assumption))) ?_;rintro e w4 ⟨rfl,hd4⟩));have FF:Hid (Ds w va p F y.2 w4):=HF.out w3 w4 hb3 hd4;clear hd4 hb3 KK KD HF WR HH;go_wp2;go_ret;exact⟨rfl,FF.out⟩
theorem zhJ:∀(m:Nat) (s:St) (k:Nat) (d:Bool),(cls s k m d).2.l.length<=s.l.length+m
 | 0,s,k,d=>by
  rw[cls]
  split
  ·show (syS s).l.length<=_
   unfold syS
   split
   ·omega
   ·split
    ·show s.l.length<=_
     omega
    ·exact Nat.zero_le _
  ·exact Nat.le_refl _
 | m+1,s,k,d=>by
  rw[cls]
  split
  ·have:=zhJ m s (k+1) d
   omega
  ·have h1:=zfv s (k:Int) (zr 64)
   by_cases h:wrE s (k:Int) (zr 64)=0
   ·rw[zaB h]
    have:=zhJ m (wrS s (k:Int) (zr 64)) (k+1) true;exact Nat.le_trans this (by omega)
   ·rw[zaS h]
    exact Nat.le_trans h1 (by omega)
theorem zmC (s:St) (k m:Nat):(cln s k m).2.l.length<=s.l.length+m:=by
 rw[cln]
 split
 ·exact Nat.le_add_right _ _
 ·exact zhJ m s k false
theorem zhK:∀(l:List Bs) (s:St) (k tk:Nat) (a:Bs),(pts s k tk a l).2.l.length<=s.l.length+sns l
 | [],_,_,_,_=>Nat.le_refl _
 | t::l,s,k,tk,a=>by
  rw[pts,sns];have h1:=zd0 s (k+tk) (rcd a t);rw[zbs,show 64*sn t / 64=sn t by omega] at h1;by_cases h:(wrb s (k+tk) (rcd a t)).1=0
  ·rw[zaB h]
   have:=zhK l (wrb s (k+tk) (rcd a t)).2 k (tk+sn t) (rmk a t);omega
  ·rw[zaS h]
   omega
theorem zhL (s:St):(syS s).l.length<=s.l.length:=by
 unfold syS
 split
 ·omega
 ·split
  ·exact Nat.le_refl _
  ·exact Nat.zero_le _
structure Bq (w va:World) (p:Nat) (F:Nat->Prop) (fr mn g:Nat) (a:Option Addr) (n c:Nat) (l:List Bs) (q C R:Nat) (wr:World) (F':Nat->Prop) (s':St) (v':Value) (ts':List Bs) (tk':Nat) (m':Bs):Prop where
 hd:HD w wr p F' s' q fr mn g v' ts' tk' m' [.slice a n c]
 nx:Nx va F F'
 bf:Bf F va wr
 bc:Blk wr C (fsv q p fr mn)
 br:Blk wr R hz0
 tx:zcf wr a l
 ap:Ap a l (FH F' q v')
 nq:va.heap.size<=q
 nC:va.heap.size<=C
 nR:va.heap.size<=R
 qC:C≠q
 qR:R≠q
 fC:¬F' C
 fR:¬F' R
 vC:v'.ownBlock≠some C
 vR:v'.ownBlock≠some R
 nv:∀x,v'.ownBlock=some x->va.heap.size<=x
section
variable {w va:World} {p:Nat} {F:Nat->Prop} {fr mn g:Nat} {a:Option Addr} {n c:Nat} {l:List Bs} {q C R:Nat} {wr:World} {F':Nat->Prop} {s':St} {v':Value} {ts':List Bs} {tk':Nat} {m':Bs}
theorem Bq.disk (h:Bq w va p F fr mn g a n c l q C R wr F' s' v' ts' tk' m') {w':World} {F2:Nat->Prop} {s2:St} (k:Dl w w' p F2 s2) (hx:Nx wr F' F2) (hb:Bf F' wr w'):Bq w va p F fr mn g a n c l q C R w' F2 s2 v' ts' tk' m' :=
 ⟨h.hd.disk k hx hb,h.nx.trans hx h.bf.size,h.bf.trans h.nx hb,h.bc.bf hb h.fC,h.br.bf hb h.fR,h.tx.bf (hb.wide fun _ e => .inl e) h.ap,h.ap.nx h.tx (FH.left hx),h.nq,h.nC,h.nR,h.qC,h.qR,hx.apart h.fC h.bc.lt,hx.apart h.fR h.br.lt,h.vC,h.vR,h.nv⟩
theorem Bq.fill (h:Bq w va p F fr mn g a n c l q C R wr F' s' v' ts' tk' m') {w':World} {F2:Nat->Prop} {s2:St} {v2:Value} {ts2:List Bs} {tk2:Nat} {m2:Bs} (k:HD w w' p F2 s2 q fr mn g v2 ts2 tk2 m2 [.slice a n c]) (hx2:Nx2 wr F' q v' F2 v2) (hb:Bf (FH F' q v') wr w'):Bq w va p F fr mn g a n c l q C R w' F2 s2 v2 ts2 tk2 m2:=by
 have hx:=hx2.fh;have cC:¬FH F' q v' C:=fun e=>by
  rcases e with e|e|e
  ·exact h.fC e
  ·exact h.qC e
  ·exact h.vC e
 have cR:¬FH F' q v' R:=fun e=>by
  rcases e with e|e|e
  ·exact h.fR e
  ·exact h.qR e
  ·exact h.vR e
 have hs:=h.bf.size;have dC:=hx.apart cC h.bc.lt;have dR:=hx.apart cR h.br.lt;have nn:∀x,FH F' q v' x->F x\/va.heap.size<=x:=fun x e=>by
  rcases e with e|e|e
  ·exact h.nx x e
  ·exact .inr (by rw[e];exact h.nq)
  ·exact .inr (h.nv x e)
 refine⟨k,fun x e => ?_,?_,h.bc.bf hb cC,h.br.bf hb cR,h.tx.bf hb h.ap,h.ap.nx h.tx hx,h.nq,h.nC,h.nR,h.qC,h.qR,fun e=>dC (.inl e),fun e=>dR (.inl e),fun e=>dC (.inr (.inr e)),fun e=>dR (.inr (.inr e)),fun x e => ?_⟩
 ·rcases hx x (.inl e) with d|d
  ·exact nn x d
  ·exact .inr (by omega)
 ·exact h.bf.trans (fun x e=>nn x e) hb
 ·rcases hx2.2 x (.inr e) with d|d
  ·rcases d with d|d
   ·rw[d];exact h.nq
   ·exact h.nv x d
  ·omega
end
def k4 (s:St):Int×St:=thn (syE s,syS s) fun s5=>(0,s5)
def k3 (fr g:Nat) (s:St):Int×St:=thn (wrb s fr (hd g)) k4
def k2 (fr g:Nat) (s:St):Int×St:=thn (syE s,syS s) (k3 fr g)
def k1 (fr g:Nat) (l:List Bs) (s:St):Int×St:=thn (pts s fr 1 (hm g) l) (k2 fr g)
theorem zw9 (s:St):k4 s=(syE s,syS s):=by
 unfold k4;by_cases h:syE s=0
 ·rw[zaB h,h]
 ·rw[zaS h]
theorem zvg (s:St) (fr mn g:Nat) (l:List Bs):bgn s fr mn g l=thn (cln s fr mn) (k1 fr g l):=by
 have e:k4=fun s=>(syE s,syS s):=funext zw9
 unfold bgn k1 k2 k3;rw[e]
def BgE (w va:World) (p:Nat) (F:Nat->Prop) (R:Nat) (y:Int×St) (x:Int) (w':World):Prop:=y.1=x/\∃F',Dl w w' p F' y.2/\Nx va F F'/\Bf F va w'/\Blk w' R hz0/\¬F' R
def BgP (w va:World) (p:Nat) (F:Nat->Prop) (fr mn g:Nat) (a:Option Addr) (n c:Nat) (l:List Bs) (q C R:Nat) (B:Nat) (y:Int×St) (k:Nat) (wr:World):Prop :=
 ∃F' s' v' ts' tk' m',Bq w va p F fr mn g a n c l q C R wr F' s' v' ts' tk' m'/\(2<=k->ts'=l/\tk'=tkn 1 l/\m'=mks (hm g) l) /\
  match k with
  | 0=>ts'=[]/\tk'=0/\s'.n=B/\s'.l.length+2*mn+300<=1000000/\y=thn (cln s' fr mn) (k1 fr g l)
  | 1=>ts'=[]/\s'.l.length+mn+300<=1000000/\y=k1 fr g l s'
  | 2=>s'.l.length+300<=1000000/\y=k2 fr g s'
  | 3=>s'.l.length+300<=1000000/\y=k3 fr g s'
  | 4=>s'.l.length+200<=1000000/\y=k4 s'
  | _=>y=(0,s')
theorem zfz {w va:World} {p:Nat} {F:Nat->Prop} {fr mn g:Nat} {a:Option Addr} {n c:Nat} {l:List Bs} {q C R:Nat} {wr:World} {F':Nat->Prop} {s':St} {v':Value} {ts':List Bs} {tk':Nat} {m':Bs} {y z:Int×St} {kk:St->Int×St} {P:World->Prop}
  (h:Bq w va p F fr mn g a n c l q C R wr F' s' v' ts' tk' m') (hy:y=thn z kk) (hP:∀w' F2,Bq w va p F fr mn g a n c l q C R w' F2 z.2 v' ts' tk' m'->y=kk z.2->P w') {f:Nat} {args:Array Value} (hc:Calls Tryz.prog f args wr fun e w'=>e = .returned (.int .i64 z.1)/\Ds w wr p F' z.2 w') :
  Calls Tryz.prog f args wr fun e w'=>zgF P (BgE w va p F R y) e w' :=
 hc.mono fun e w' ⟨he,F2,d1,d2,d3⟩=>by
  have k:=h.disk d1 d2 d3;refine⟨z.1,he,?_⟩;by_cases h0:z.1=0
  ·exact .inl ⟨h0,hP w' F2 k (hy.trans (zaB h0))⟩
  ·have e1:y=z:=hy.trans (zaS h0)
   exact .inr ⟨h0,by rw[e1],F2,by rw[e1];exact k.hd.dl,k.nx,k.bf,k.br,k.fR⟩
theorem zhM (w va:World) (p:Nat) (F:Nat->Prop) (fr mn g:Nat) (a:Option Addr) (n c:Nat) (l:List Bs) (q C R B:Nat) (y:Int×St) (h1:1<=mn) (h2:fr+mn<=B) (hB:B<=1024) (hn:l.length=n) (ht:∀t∈l,t.length<=2000) (hs:tkn 1 l<=mn) (hk:Kh w) (v0:World) (h:BgP w va p F fr mn g a n c l q C R B y 0 v0) :
  Cl 217 #[.slice (some ⟨C,0,none⟩) 5 5] v0 fun e w'=>zgF (BgP w va p F fr mn g a n c l q C R B y 5) (BgE w va p F R y) e w':=by
 have hsn:1+sns l<=mn:=by rw[<-zb1];exact hs
 refine zgG q p fr mn C (BgP w va p F fr mn g a n c l q C R B y) (BgE w va p F R y) ?_ ?_ ?_ ?_ ?_ ?_ v0 h
 ·rintro k wr - ⟨F',s',v',ts',tk',m',hq,-,-⟩
  exact hq.bc
 ·rintro wr ⟨F',s',v',ts',tk',m',hq,-,rfl,rfl,hb,hl,hy⟩
  refine zfz hq hy (fun w' F2 k e=>⟨F2,_,v',[],0,m',k,fun c=>absurd c (by decide),rfl,?_,e⟩) (zeF w wr p F' s' q fr mn g v' [] 0 m' _ h1 (by omega) (Nat.zero_le _) (by omega) hq.hd);have:=zmC s' fr mn;omega
 ·rintro wr ⟨F',s',v',ts',tk',m',hq,-,rfl,hl,hy⟩
  refine (zmB w wr p F' s' q fr mn g v' tk' m' a n c l hn ht hs (by omega) (by omega) hk hq.hd hq.tx hq.ap).mono ?_;rintro e w' ⟨he,F2,v2,ts2,tk2,m2,x1,x2,x3,x4⟩;have k:=hq.fill x3 x1 x2;refine⟨_,he,?_⟩;by_cases h0:(pts s' fr 1 (hm g) l).1=0
  ·refine .inl ⟨h0,F2,_,v2,ts2,tk2,m2,k,fun _=>x4 h0,?_,hy.trans (zaB h0)⟩
   have:=zhK l s' fr 1 (hm g);omega
  ·have e1:y=pts s' fr 1 (hm g) l:=hy.trans (zaS h0)
   exact .inr ⟨h0,by rw[e1],F2,by rw[e1];exact k.hd.dl,k.nx,k.bf,k.br,k.fR⟩
 ·rintro wr ⟨F',s',v',ts',tk',m',hq,hf,hl,hy⟩
  refine zfz hq hy (fun w' F2 k e=>⟨F2,_,v',ts',tk',m',k,fun _=>hf (Nat.le_refl _),?_,e⟩) (zcO w wr p F' s' fr mn (by omega) hq.hd.dl);have:=zhL s';show (syS s').l.length+300<=_
  omega
 ·rintro wr ⟨F',s',v',ts',tk',m',hq,hf,hl,hy⟩
  refine zfz hq hy (fun w' F2 k e=>⟨F2,_,v',ts',tk',m',k,fun _=>hf (by decide),?_,e⟩) (zjU w wr p F' s' q fr mn g v' ts' tk' m' _ (by omega) (by omega) hk hq.hd);have:=zd0 s' fr (hd g);rw[zdh] at this;omega
 ·rintro wr ⟨F',s',v',ts',tk',m',hq,hf,hl,hy⟩
  exact zfz hq hy (fun w' F2 k e=>⟨F2,_,v',ts',tk',m',k,fun _=>hf (by decide),e⟩) (zcO w wr p F' s' fr mn (by omega) hq.hd.dl)
theorem zpI (s:St):(syS s).n=s.n:=by
 unfold syS
 split
 ·rfl
 ·split <;> rfl
theorem zvh:∀(bs:List Bs) (s:St) (k:Nat),(wrs s k bs).2.n=s.n
 | [],_,_=>rfl
 | b::bs,s,k=>by
  rw[wrs];by_cases h:wrE s (k:Int) b=0
  ·rw[zaB h]
   exact (zvh bs _ _).trans (zpA s _ b)
  ·rw[zaS h]
   exact zpA s _ b
theorem zpJ (s:St) (k:Nat) (b:Bs):(wrb s k b).2.n=s.n:=zvh _ s k
theorem zsY:∀(m:Nat) (s:St) (k:Nat) (d:Bool),(cls s k m d).2.n=s.n
 | 0,s,k,d=>by
  rw[cls]
  split
  ·exact zpI s
  ·rfl
 | m+1,s,k,d=>by
  rw[cls]
  split
  ·exact zsY m s _ d
  ·by_cases h:wrE s (k:Int) (zr 64)=0
   ·rw[zaB h]
    exact (zsY m _ _ true).trans (zpA s _ _)
   ·rw[zaS h]
    exact zpA s _ _
theorem zvi (s:St) (k m:Nat):(cln s k m).2.n=s.n:=by
 unfold cln
 split
 ·rfl
 ·exact zsY m s k false
section
variable {w:World} {d:Nat} {G:Nat->Prop} {wr:World} {G':Nat->Prop} {s:St} {q h g:Nat} {v:Value} {ts:List Bs} {tk:Nat} {m:Bs}
end
def BnP (w va:World) (p:Nat) (F:Nat->Prop) (fr mn g:Nat) (l:List Bs) (y:Int×St) (e:Ending) (w':World):Prop :=
 ∃F',Dl w w' p F' y.2/\Nx va F F'/\Bf F va w' /\
  (y.1=0/\(∃v,e = .returned (.tuple #[hv p fr mn g v (tkn 1 l) (mks (hm g) l),.int .i64 0])/\OwnsS w' v l/\∀x,v.ownBlock=some x->va.heap.size<=x/\¬F' x)\/y.1≠0/\e = .returned (.tuple #[.agg hz0.toArray,.int .i64 y.1]))
theorem zbA (w:World) (cs:List Value) (ty:TypeId) (hn:cs≠[]) (k:Nat) (hk:w.heap.size=k):Blk (w.alloc (.cells cs.toArray ty)) k cs:=by
 subst hk;exact Blk.new w cs ty hn
theorem zsZ (w:World) (o:Obj):(w.alloc o).heap.size=w.heap.size+1:=by simp
theorem zpK (w va:World) (p:Nat) (F:Nat->Prop) (s:St) (fr mn g:Nat) (a:Option Addr) (n c:Nat) (l:List Bs) (y:Int×St) (h:Dl w va p F s) (hx:zcf va a l) (ha:Ap a l F) (hl:s.l.length+2*mn+300<=1000000) (hy:y=thn (cln s fr mn) (k1 fr g l)) (t1 t2 t3 t4:TypeId) :
  BgP w va p F fr mn g a n c l (va.heap.size+1+1) (va.heap.size+1+1+1) (va.heap.size+1) s.n y 0 ((((va.alloc (.cells #[.pointer (some ⟨p,0,none⟩),.int .i64 (fr:Int),.int .i64 (mn:Int)] t1)).alloc (.cells hz0.toArray t2)).alloc (.cells (hc p fr mn g (.slice none 0 0) 0 [] [.slice a n c]).toArray t3)).alloc (.cells (fsv (va.heap.size+1+1) p fr mn).toArray t4)):=by
 obtain⟨v1,e1⟩:∃v1,va.alloc (.cells #[.pointer (some ⟨p,0,none⟩),.int .i64 (fr:Int),.int .i64 (mn:Int)] t1)=v1:=⟨_,rfl⟩;have b1:Below va.heap.size va v1:=by rw[<-e1];exact nb _ _
 have s1:v1.heap.size=va.heap.size+1:=by rw[<-e1];exact zsZ _ _
 rw[e1];obtain⟨v2,e2⟩:∃v2,v1.alloc (.cells hz0.toArray t2)=v2:=⟨_,rfl⟩;have b2:Below v1.heap.size v1 v2:=by rw[<-e2];exact nb _ _
 have s2:v2.heap.size=va.heap.size+1+1:=by rw[<-e2,zsZ,s1]
 have r2:Blk v2 (va.heap.size+1) hz0:=by rw[<-e2];exact zbA v1 hz0 t2 (by simp) _ s1
 rw[e2];obtain⟨v3,e3⟩:∃v3,v2.alloc (.cells (hc p fr mn g (.slice none 0 0) 0 [] [.slice a n c]).toArray t3)=v3:=⟨_,rfl⟩;have b3:Below v2.heap.size v2 v3:=by rw[<-e3];exact nb _ _
 have s3:v3.heap.size=va.heap.size+1+1+1:=by rw[<-e3,zsZ,s2]
 have r3:Blk v3 (va.heap.size+1+1) (hc p fr mn g (.slice none 0 0) 0 [] [.slice a n c]):=by rw[<-e3];exact zbA v2 _ t3 (by simp) _ s2
 rw[e3];obtain⟨v4,e4⟩:∃v4,v3.alloc (.cells (fsv (va.heap.size+1+1) p fr mn).toArray t4)=v4:=⟨_,rfl⟩;have b4:Below v3.heap.size v3 v4:=by rw[<-e4];exact nb _ _
 have r4:Blk v4 (va.heap.size+1+1+1) (fsv (va.heap.size+1+1) p fr mn):=by rw[<-e4];exact zbA v3 _ t4 (by simp[fsv]) _ s3
 rw[e4];clear e1 e2 e3 e4;have bb:Below va.heap.size va v4:=chain (chain (chain b1 b2) b3) b4;have lt:∀x,F x->x < va.heap.size:=fun x e=>h.at_.lt e
 have hh:∀x,HFt (va.heap.size+1+1) (.slice none 0 0) x->x=va.heap.size+1+1:=fun x e=>by
  rcases e with e|e
  ·exact e
  ·cases e
 refine⟨F,s,.slice none 0 0,[],0,[],⟨⟨h.later bb,⟨r3.later b4,zaz _,nofun⟩,fun x e => ?_⟩,Nx.refl _ _,Bf.of bb,r4,(r2.later b3).later b4,hx.later bb,fun x e h0 d => ?_,by omega,by omega,by omega,by omega,by omega,fun e => ?_,fun e => ?_,nofun,nofun,nofun⟩,fun c=>absurd c (by decide),rfl,rfl,rfl,hl,hy⟩
 ·have:=hh x e
  subst this;exact⟨fun d=>by have:=lt _ d;omega,by have:=h.below.size;omega⟩
 ·rcases d with d|d
  ·exact ha x e h0 d
  ·have h3:=hh _ d
   have:=hx.lt x e h0;omega
 ·have:=lt _ e
  omega
 ·have:=lt _ e
  omega
theorem zeH (w va:World) (p:Nat) (F:Nat->Prop) (s:St) (fr mn g:Nat) (a:Option Addr) (n c:Nat) (l:List Bs) (h1:1<=mn) (h2:fr+mn<=s.n) (hn:l.length=n) (ht:∀t∈l,t.length<=2000) (hs:tkn 1 l<=mn) (hl:s.l.length+2*mn+300<=1000000) (hk:Hid (Kh w)) (h:Hid (Dl w va p F s)) (hx:Hid (zcf va a l)) (ha:Hid (Ap a l F)) :
  Cl 140 #[plc p fr mn,.int .i64 (g:Int),.slice a n c] va fun e w'=>BnP w va p F fr mn g l (bgn s fr mn g l) e w':=by
 have hB:=h.out.at_.1.n2;have BS:=zhM w va p F fr mn g a n c l (va.heap.size+1+1) (va.heap.size+1+1+1) (va.heap.size+1) s.n (bgn s fr mn g l) h1 h2 hB hn ht hs hk.out;have HL:Hid (s.l.length+2*mn+300<=1000000):=hl;have H9:Hid (w.heap.size<=va.heap.size):=h.out.below.size;obtain⟨y,hy⟩:∃y,bgn s fr mn g l=y:=⟨_,rfl⟩;have HY:Hid (y=thn (cln s fr mn) (k1 fr g l)):=hy.symm.trans (zvg s fr mn g l);rw[hy] at BS ⊢;have BS':Hid _:=BS;clear BS hy hn ht hs h1 h2 hB hl;unfold plc;go_enter Tryz.func140, Tryz.ntmps140;go_wp2_with fail;refine Calls.mono (BS'.out _ (zpK w va p F s fr mn g a n c l y h.out hx.out ha.out HL.out HY.out _ _ _ _)) ?_;rintro e w1 ⟨x,rfl,hst⟩;by_cases h0:x=0
 ·subst h0
  have J:Hid (BgP w va p F fr mn g a n c l (va.heap.size+1+1) (va.heap.size+1+1+1) (va.heap.size+1) s.n y 5 w1):=by
   rcases hst with ⟨-,k⟩|⟨k,-⟩
   ·exact k
   ·exact absurd rfl k
  clear hst BS' h hx ha HY HL;obtain⟨F',s',v',ts',tk',m',hq,hf,hy⟩:=J.out;obtain⟨e1,e2,e3⟩:=hf (by decide);rw[e1,e2,e3] at hq;have HQ:Hid (Bq w va p F fr mn g a n c l _ _ _ w1 F' s' v' l _ _):=hq;have HY:Hid (y=(0,s')):=hy;clear hq hf hy J e1 e2 e3;obtain⟨xa,xn,xc,rfl⟩:=owns_sliceS HQ.out.hd.hf.row;obtain⟨tk,htk⟩:∃tk,tkn 1 l=tk:=⟨_,rfl⟩;obtain⟨m,hmm⟩:∃m,mks (hm g) l=m:=⟨_,rfl⟩;have HTM:Hid (tkn 1 l=tk/\mks (hm g) l=m):=⟨htk,hmm⟩;rw[htk,hmm] at HQ;clear htk hmm;have k0:=HQ.out.hd.hf.bk.c 0 _ rfl;have k1:=HQ.out.hd.hf.bk.c 1 _ rfl;have k2:=HQ.out.hd.hf.bk.c 2 _ rfl;have k3:=HQ.out.hd.hf.bk.c 3 _ rfl;have k4:=HQ.out.hd.hf.bk.c 4 _ rfl;have k5:=HQ.out.hd.hf.bk.c 5 _ rfl;have k6:=HQ.out.hd.hf.bk.c 6 _ rfl;have z0:=HQ.out.br.c 0 _ rfl;have z1:=HQ.out.br.c 1 _ rfl;have z2:=HQ.out.br.c 2 _ rfl;have z3:=HQ.out.br.c 3 _ rfl;have z4:=HQ.out.br.c 4 _ rfl;have z5:=HQ.out.br.c 5 _ rfl;have z6:=HQ.out.br.c 6 _ rfl;have zf:=HQ.out.br.f;have hne:=HQ.out.qR;have FI:Hid (Blk (w1.setCells (va.heap.size+1) 0 (hc p fr mn g (.slice xa xn xc) tk m [])) (va.heap.size+1) (hc p fr mn g (.slice xa xn xc) tk m [])/\BnP w va p F fr mn g l y (.returned (.tuple #[hv p fr mn g (.slice xa xn xc) tk m,.int .i64 0])) (w1.setCells (va.heap.size+1) 0 (hc p fr mn g (.slice xa xn xc) tk m []))):=by
   have ho:∀x,x≠va.heap.size+1->(w1.setCells (va.heap.size+1) 0 (hc p fr mn g (.slice xa xn xc) tk m [])).heap[x]?=w1.heap[x]?:=fun x e=>zad w1 _ 0 _ x e
   have hbf:Bf (fun x=>x=va.heap.size+1) w1 (w1.setCells (va.heap.size+1) 0 (hc p fr mn g (.slice xa xn xc) tk m [])):=Bf.sets (fun x=>x=va.heap.size+1) _ rfl _ _ _;refine⟨HQ.out.br.put _ rfl,F',?_,HQ.out.nx,?_,.inl ⟨by rw[HY.out],.slice xa xn xc,by rw[HTM.out.1,HTM.out.2],?_,fun x e=>⟨HQ.out.nv x e,(HQ.out.hd.ap x (.inr e)).1⟩⟩⟩
   ·rw[HY.out]
    exact⟨HQ.out.hd.dl.at_.other hbf (fun x e d=>HQ.out.fR (by rw[<-d];exact e)),HQ.out.hd.dl.new,zan (by have:=HQ.out.bf.size;have:=HQ.out.hd.dl.below.size;have:=HQ.out.nR;have h9:=H9.out;omega) _ 0 HQ.out.hd.dl.below⟩
   ·exact HQ.out.bf.trans (fun x e => .inr (by rw[e];exact Nat.le_succ _)) hbf
   ·exact ownsRow_same HQ.out.hd.hf.row (fun x e=>ho x (fun d=>HQ.out.vR (by rw[e,d])))
  clear HQ HY HTM;go_wp2;refine bodyPost_ret (v := .tuple #[hv p fr mn g (.slice xa xn xc) tk m,.int .i64 0]) ?_ rfl FI.out.2;exact zbp Tryz.results140 _ _ (va.heap.size+1) _ _ (by kernel_rfl) (by kernel_rfl) (run_loadVar_mid _ (va.heap.size+1) 0 237 (hc p fr mn g (.slice xa xn xc) tk m []) _ FI.out.1.r Tryz.underlying237 rfl (by kernel_rfl))
 ·have J:Hid (BgE w va p F (va.heap.size+1) y x w1):=by
   rcases hst with ⟨k,-⟩|⟨-,k⟩
   ·exact absurd k h0
   ·exact k
  clear hst BS' h hx ha HY HL;obtain⟨F',hr0⟩:∃F',Dl w w1 p F' y.2/\Nx va F F'/\Bf F va w1/\Blk w1 (va.heap.size+1) hz0/\¬F' (va.heap.size+1):=J.out.2;have hr:Dl w w1 p F' y.2/\Nx va F F'/\Bf F va w1/\Blk w1 (va.heap.size+1) hz0:=⟨hr0.1,hr0.2.1,hr0.2.2.1,hr0.2.2.2.1⟩;have FR:Hid (¬F' (va.heap.size+1)):=hr0.2.2.2.2;clear hr0;have z0:=hr.2.2.2.c 0 _ rfl;have z1:=hr.2.2.2.c 1 _ rfl;have z2:=hr.2.2.2.c 2 _ rfl;have z3:=hr.2.2.2.c 3 _ rfl;have z4:=hr.2.2.2.c 4 _ rfl;have z5:=hr.2.2.2.c 5 _ rfl;have z6:=hr.2.2.2.c 6 _ rfl;have zf:=hr.2.2.2.f;have FI:Hid (Blk (w1.setCells (va.heap.size+1) 0 hz0) (va.heap.size+1) hz0/\BnP w va p F fr mn g l y (.returned (.tuple #[.agg hz0.toArray,.int .i64 x])) (w1.setCells (va.heap.size+1) 0 hz0)):=by
   have hbf:Bf (fun x=>x=va.heap.size+1) w1 (w1.setCells (va.heap.size+1) 0 hz0):=Bf.sets (fun x=>x=va.heap.size+1) _ rfl _ _ _;have hR:¬F' (va.heap.size+1):=FR.out;refine⟨hr.2.2.2.put _ rfl,F',?_,hr.2.1,?_,.inr ⟨by rw[J.out.1];exact h0,by rw[J.out.1]⟩⟩
   ·exact⟨hr.1.at_.other hbf (fun x e d=>hR (by rw[<-d];exact e)),hr.1.new,zan (by have h9:=H9.out;omega) _ 0 hr.1.below⟩
   ·exact hr.2.2.1.trans (fun x e => .inr (by rw[e];exact Nat.le_succ _)) hbf
  clear hr J;go_wp2;refine bodyPost_ret (v := .tuple #[.agg hz0.toArray,.int .i64 x]) ?_ rfl FI.out.2;exact zbp Tryz.results140 _ _ (va.heap.size+1) _ _ (by kernel_rfl) (by kernel_rfl) (run_loadVar_mid _ (va.heap.size+1) 0 237 hz0 _ FI.out.1.r Tryz.underlying237 rfl (by kernel_rfl))
abbrev hq7 (pp:Option Addr) (i1 i2 i3:Int) (xa:Option Addr) (xn xc:Nat) (i5:Int) (s6:Ba):List Value:=[.pointer pp,.int .i64 i1,.int .i64 i2,.int .i64 i3,.slice xa xn xc,.int .i64 i5,.string s6]
abbrev pl6 (p mn:Nat):List Value:=[.pointer (some ⟨p,0,none⟩),.int .i64 0,.int .i64 (mn:Int),.pointer (some ⟨p,0,none⟩),.int .i64 (mn:Int),.int .i64 (mn:Int)]
structure Oi (va:World) (p mn:Nat) (pp:Option Addr) (i1 i2 i3:Int) (i5:Int) (s6:Ba) (tl:List Bs) (B H:Nat) (xa:Option Addr) (xn xc:Nat) (wx:World):Prop where
 bk:Blk wx H (hq7 pp i1 i2 i3 xa xn xc i5 s6)
 row:OwnsS wx (.slice xa xn xc) tl
 bl:Bw va wx
 nH:va.heap.size<=H
 vH:(Value.slice xa xn xc).ownBlock≠some H
 nv:∀y,(Value.slice xa xn xc).ownBlock=some y->va.heap.size<=y
 b1:Blk wx B [.pointer (some ⟨p,0,none⟩),.int .i64 0,.int .i64 (mn:Int)]
 nB:va.heap.size<=B
 BH:B≠H
theorem zvj {va:World} {p mn:Nat} {pp:Option Addr} {i1 i2 i3:Int} {i5:Int} {s6:Ba} {tl:List Bs} {B:Nat} {xa:Option Addr} {xn xc:Nat} {w2:World} (ty:TypeId) (r:OwnsS w2 (.slice xa xn xc) tl) (bl:Bw va w2) (nv:∀y,(Value.slice xa xn xc).ownBlock=some y->va.heap.size<=y) (b1:Blk w2 B [.pointer (some ⟨p,0,none⟩),.int .i64 0,.int .i64 (mn:Int)]) (nB:va.heap.size<=B) :
  Oi va p mn pp i1 i2 i3 i5 s6 tl B w2.heap.size xa xn xc (w2.alloc (.cells #[.pointer pp,.int .i64 i1,.int .i64 i2,.int .i64 i3,.slice xa xn xc,.int .i64 i5,.string s6] ty)) :=
 ⟨Blk.new w2 _ _ (by simp),ownsRow_same r (fun x e=>(nb w2 _).block x (r.lt x e).2),chain bl (nb _ _),bl.size,fun e=>Nat.lt_irrefl _ (r.lt _ e).2,nv,b1.later (nb _ _),nB,fun e=>by have:=b1.lt;omega⟩
theorem zmD {va:World} {p mn:Nat} {pp:Option Addr} {i1 i2 i3:Int} {i5:Int} {s6:Ba} {tl:List Bs} {B H:Nat} {xa:Option Addr} {xn xc:Nat} {W w2:World} (r:OwnsS w2 (.slice xa xn xc) tl) (bl:Bw va w2) (nW:∀y,(Value.slice xa xn xc).ownBlock=some y->W.heap.size<=y) (sW:va.heap.size<=W.heap.size) (b1:Blk w2 B [.pointer (some ⟨p,0,none⟩),.int .i64 0,.int .i64 (mn:Int)]) (nB:va.heap.size<=B) (bh:Blk w2 H hz0) (hH:H < W.heap.size) (nH:va.heap.size<=H) (hBH:B≠H) :
  Oi va p mn pp i1 i2 i3 i5 s6 tl B H xa xn xc (w2.setCells H 0 (hq7 pp i1 i2 i3 xa xn xc i5 s6)):=by
 have hv:(Value.slice xa xn xc).ownBlock≠some H:=fun e=>by have:=nW _ e;omega
 exact⟨bh.put _ rfl,ownsRow_same r (fun x e=>zad w2 H 0 _ x (fun d=>hv (by rw[e,d]))),zan nH _ 0 bl,nH,hv,fun y e=>by have:=nW y e;omega,b1.same (zad w2 H 0 _ B hBH),nB,hBH⟩
def zvQ:Oper:={ dst:=some 19,op := .load 235 (.tmp 5),type := 235, pos := "log.go:32", after:=#[],guard:=none }
def zvR:Oper:={ dst:=some 20,op := .load 235 (.tmp 5),type := 235, pos := "log.go:32", after:=#[],guard:=none }
def zvk:Oper:={ dst:=some 21,op := .call { callee:=Go.Callee.value (.func 139),args:=#[Go.Operand.tmp 20],argTypes:=#[235] },type := 235, pos := "log.go:32", after:=#[eD 1],guard:=none }
def zs0:Oper:={ dst:=some 22,op := .buildSlice 291 2 #[(0,Go.Operand.tmp 19),(1,Go.Operand.tmp 21)],type := 291, pos := "log.go:32", after:=#[eD 0,eD 2],guard:=none }
def zpL:Oper:={ dst:=some 23,op := .call { callee:=Go.Callee.value (.func 138),args:=#[Go.Operand.tmp 22],argTypes:=#[291] },type := 238, pos := "log.go:32", after:=#[eD 3,eC 2],guard:=none }
def zjV:Oper:={ dst:=some 18,op := .move (.tmp 23),type := 238, pos := "log.go:32", after:=#[eD 4],guard:=none }
def zjW:Oper:={ dst:=some 24,op := .extract (.tmp 18) 0,type := 237, pos := "log.go:32", after:=#[eD 5],guard:=none }
def zjX:Oper:={ dst:=some 25,op := .extract (.tmp 18) 1,type := 32, pos := "log.go:32", after:=#[eD 5,{ on:=9,ground:=Go.Ground.gcOnly Go.Departure.lateStores }],guard:=none }
def zpM:Oper:={ dst:=some 6,op := .alloc 237, type:=0,pos := "log.go:32", after:=#[],guard:=none }
def zpN:Oper:={ dst:=none,op := .store 237 (.tmp 6) (.tmp 24),type:=0,pos := "log.go:32", after:=#[eD 8,eD 6,eC 4,eP 0,eP 1,eP 2,eP 3,eP 4,eP 5,eP 6,{ on:=7,ground:=Go.Ground.textOnly Go.Departure.lateStores },eP 8],guard:=none }
def zda:Oper:={ dst:=some 7,op := .assign (.tmp 25),type := 32, pos := "log.go:32", after:=#[eD 7,eC 9,eP 0,eP 1,eP 2,eP 3,eP 4,eP 5,eP 6,eP 7,eP 8,eP 9],guard:=none }
theorem zs1 {w:World} {B H:Nat} {x0 x1 x2 y0 y1 y2 y3 y4 y5 y6:Value} (hne:B≠H) (h:w.cell? ⟨B,0,none⟩=some x0/\w.cell? ⟨B,1,none⟩=some x1/\w.cell? ⟨B,2,none⟩=some x2) :
  (w.setCells H 0 [y0,y1,y2,y3,y4,y5,y6]).cell? ⟨B,0,none⟩=some x0/\(w.setCells H 0 [y0,y1,y2,y3,y4,y5,y6]).cell? ⟨B,1,none⟩=some x1/\(w.setCells H 0 [y0,y1,y2,y3,y4,y5,y6]).cell? ⟨B,2,none⟩=some x2:=by
 have hs:=zad w H 0 [y0,y1,y2,y3,y4,y5,y6] B hne;exact⟨(World.cell?_of_block (a:=⟨B,0,none⟩) hs).trans h.1,(World.cell?_of_block (a:=⟨B,1,none⟩) hs).trans h.2.1,(World.cell?_of_block (a:=⟨B,2,none⟩) hs).trans h.2.2⟩
theorem zcp (p mn:Nat) (pp:Option Addr) (i1 i2 i3:Int) (i5:Int) (s6:Ba) (tl:List Bs) (x:Int) (va W:World) (B:Nat) (hW:Hid (Bw va W/\Blk W B [.pointer (some ⟨p,0,none⟩),.int .i64 0,.int .i64 (mn:Int)]/\va.heap.size<=B))
  (OT:Hid (∀w,Cl 139 #[.agg #[.pointer (some ⟨p,0,none⟩),.int .i64 0,.int .i64 (mn:Int)]] w fun e w'=>e = .returned (.agg #[.pointer (some ⟨p,0,none⟩),.int .i64 (mn:Int),.int .i64 (mn:Int)])/\Bw w w'))
  (IU:Hid (∀V P,Bw va V->Blk V P (pl6 p mn)->Cl 138 #[.slice (some ⟨P,0,none⟩) 2 2] V fun e w'=>∃xa xn xc,e = .returned (.tuple #[.agg #[.pointer pp,.int .i64 i1,.int .i64 i2,.int .i64 i3,.slice xa xn xc,.int .i64 i5,.string s6],.int .i64 x])/\OwnsS w' (.slice xa xn xc) tl/\(∀y,(Value.slice xa xn xc).ownBlock=some y->V.heap.size<=y)/\Bw V w'))
  (a8 a9 a10 a11 a12 a13 a14 a15 a16 a17:Value) (Q:Exit->Act->World->Prop)
  (hQ:Hid (∀(H:Nat) (xa:Option Addr) (xn xc:Nat) (wx:World) (u18 u19 u20 u21 u22 u23 u24 u25:Value),Oi va p mn pp i1 i2 i3 i5 s6 tl B H xa xn xc wx->Q .normal { tmps:=#[.pointer (some ⟨p,0,none⟩),undef,.pointer none,.int .i64 0,.int .i64 (mn:Int),.pointer (some ⟨B,0,none⟩),.pointer (some ⟨H,0,none⟩),.int .i64 x,a8,a9,a10,a11,a12,a13,a14,a15,a16,a17,u18,u19,u20,u21,u22,u23,u24,u25,undef,undef,undef,undef,undef,undef,undef,undef,undef,undef,undef,undef,undef,undef,undef,undef,undef,undef],defers:=[] } wx)) :
  (Code.region 7 #[zvQ,zvR,zvk,zs0,zpL,zjV,zjW,zjX,zpM,zpN,zda] true).wp Tryz.prog Q { tmps:=#[.pointer (some ⟨p,0,none⟩),undef,.pointer none,.int .i64 0,.int .i64 (mn:Int),.pointer (some ⟨B,0,none⟩),undef,undef,a8,a9,a10,a11,a12,a13,a14,a15,a16,a17,undef,undef,undef,undef,undef,undef,undef,undef,undef,undef,undef,undef,undef,undef,undef,undef,undef,undef,undef,undef,undef,undef,undef,undef,undef,undef],defers:=[] } W:=by
 have b0:=hW.out.2.1.c 0 _ rfl;have b1:=hW.out.2.1.c 1 _ rfl;have b2:=hW.out.2.1.c 2 _ rfl;refine wp_region_noPanic ?_;refine wp_region_held_drew (S:=fun w'=>w'.cell? ⟨B,0,none⟩=some (.pointer (some ⟨p,0,none⟩))/\w'.cell? ⟨B,1,none⟩=some (.int .i64 0)/\w'.cell? ⟨B,2,none⟩=some (.int .i64 (mn:Int))) (by kernel_rfl) (⟨b0,b1,b2⟩) (fun hHeld => ?_);obtain⟨Z,hZ⟩:∃Z,W.drew=Z:=⟨_,rfl⟩;have hz:Hid (Bw va Z/\Blk Z B [.pointer (some ⟨p,0,none⟩),.int .i64 0,.int .i64 (mn:Int)]/\va.heap.size<=B):=by
  rw[<-hZ];exact⟨hW.out.1.drew,hW.out.2.1.drew,hW.out.2.2⟩
 rw[hZ] at hHeld ⊢;clear hZ b0 b1 b2 hW;refine wT 0 zvQ ?_ ?_ ?_;rotate_left
 ·intro w' hSw;obtain⟨s0,s1,s2⟩:=hSw;unfold zvQ;first|(go_simp;done)|(go_simp;with_reducible rfl)
 simp only[zvQ,Act.put,wA,wB,wC];refine wT 1 zvR ?_ ?_ ?_;rotate_left
 ·intro w' hSw;obtain⟨s0,s1,s2⟩:=hSw;unfold zvR;first|(go_simp;done)|(go_simp;with_reducible rfl)
 simp only[zvR,Act.put,wA,wB,wC];refine wpAnyH_ready (rs:=[2,8]) (by kernel_rfl) (by simp) ?_;refine AllReadyH.cons (o:=zvk) rfl (fun KK hKK => ?_) (AllReadyH.cons (o:=zpM) rfl (fun KK hKK => ?_) AllReadyH.nil)
 ·unfold zvk
  go_simp;refine Calls.mono (OT.out _) ?_;rintro e w1 ⟨rfl,hb1⟩;have sz1:=hb1.size;have bl1:=chain hz.out.1 hb1;have bb1:=hz.out.2.1.later hb1;refine hKK.out _ _ ⟨cell_later hb1 hHeld.1,cell_later hb1 hHeld.2.1,cell_later hb1 hHeld.2.2⟩ (fun hHeld1 => ?_);clear hKK KK;refine wpAnyH_ready (rs:=[3,8]) (by kernel_rfl) (by simp) ?_;refine AllReadyH.cons (o:=zs0) rfl (fun KK hKK => ?_) (AllReadyH.cons (o:=zpM) rfl (fun KK hKK => ?_) AllReadyH.nil)
  ·unfold zs0
   go_simp;have nw2:Blk (w1.alloc (.cells #[.pointer (some ⟨p,0,none⟩),.int .i64 0,.int .i64 (mn:Int),.pointer (some ⟨p,0,none⟩),.int .i64 (mn:Int),.int .i64 (mn:Int)] 235)) (w1.heap.size) (pl6 p mn):=zbA w1 (pl6 p mn) _ (by simp) _ (by simp);have bl2:=chain bl1 (nb w1 (.cells #[.pointer (some ⟨p,0,none⟩),.int .i64 0,.int .i64 (mn:Int),.pointer (some ⟨p,0,none⟩),.int .i64 (mn:Int),.int .i64 (mn:Int)] 235));have bb2:=bb1.later (nb w1 (.cells #[.pointer (some ⟨p,0,none⟩),.int .i64 0,.int .i64 (mn:Int),.pointer (some ⟨p,0,none⟩),.int .i64 (mn:Int),.int .i64 (mn:Int)] 235));refine hKK.out _ _ ⟨zab hHeld1.1,zab hHeld1.2.1,zab hHeld1.2.2⟩ (fun hHeld2 => ?_);clear hKK KK;refine wpAnyH_ready (rs:=[4,8]) (by kernel_rfl) (by simp) ?_;refine AllReadyH.cons (o:=zpL) rfl (fun KK hKK => ?_) (AllReadyH.cons (o:=zpM) rfl (fun KK hKK => ?_) AllReadyH.nil)
   ·unfold zpL
    go_simp;refine Calls.mono (IU.out (w1.alloc (.cells #[.pointer (some ⟨p,0,none⟩),.int .i64 0,.int .i64 (mn:Int),.pointer (some ⟨p,0,none⟩),.int .i64 (mn:Int),.int .i64 (mn:Int)] 235)) (w1.heap.size) bl2 nw2) ?_;rintro e w3 ⟨xa,xn,xc,rfl,r3,nv3,hb3⟩;have bl3:=chain bl2 hb3;have bb3:=bb2.later hb3;have bs3:=bl2.size;refine hKK.out _ _ ⟨cell_later hb3 hHeld2.1,cell_later hb3 hHeld2.2.1,cell_later hb3 hHeld2.2.2⟩ (fun hHeld3 => ?_);clear hKK KK;refine wT 5 zjV ?_ ?_ ?_;rotate_left
    ·intro w' hSw;clear hSw;unfold zjV;first|(go_simp;done)|(go_simp;with_reducible rfl)
    simp only[zjV,Act.put,wA,wB,wC];refine wT 6 zjW ?_ ?_ ?_;rotate_left
    ·intro w' hSw;clear hSw;unfold zjW;first|(go_simp;done)|(go_simp;with_reducible rfl)
    simp only[zjW,Act.put,wA,wB,wC];refine wT 7 zjX ?_ ?_ ?_;rotate_left
    ·intro w' hSw;clear hSw;unfold zjX;first|(go_simp;done)|(go_simp;with_reducible rfl)
    simp only[zjX,Act.put,wA,wB,wC];refine wpAnyH_ready (rs:=[8]) (by kernel_rfl) (by simp) ?_;refine AllReadyH.cons (o:=zpM) rfl (fun KK hKK => ?_) AllReadyH.nil;unfold zpM;go_simp;have nw4:Blk (w3.alloc (.cells #[.pointer none,.int .i64 0,.int .i64 0,.int .i64 0,.slice none 0 0,.int .i64 0,.string ⟨#[]⟩] 237)) (w3.heap.size) hz0:=zbA w3 hz0 _ (by simp) _ (by simp);have bl4:=chain bl3 (nb w3 (.cells #[.pointer none,.int .i64 0,.int .i64 0,.int .i64 0,.slice none 0 0,.int .i64 0,.string ⟨#[]⟩] 237));have bb4:=bb3.later (nb w3 (.cells #[.pointer none,.int .i64 0,.int .i64 0,.int .i64 0,.slice none 0 0,.int .i64 0,.string ⟨#[]⟩] 237));refine hKK.out _ _ ⟨zab hHeld3.1,zab hHeld3.2.1,zab hHeld3.2.2⟩ (fun hHeld4 => ?_);clear hKK KK;refine wpAnyH_ready (rs:=[9]) (by kernel_rfl) (by simp) ?_;refine AllReadyH.cons (o:=zpN) rfl (fun KK hKK => ?_) AllReadyH.nil;have FI:Hid _:=zvj (va:=va) (p:=p) (mn:=mn) (pp:=pp) (i1:=i1) (i2:=i2) (i3:=i3) (i5:=i5) (s6:=s6) (B:=B) 237 r3 bl3 (fun y e=>Nat.le_trans bs3 (nv3 y e)) bb3 hz.out.2.2;unfold zpN;go_simp;refine hKK.out _ _ ⟨zab hHeld3.1,zab hHeld3.2.1,zab hHeld3.2.2⟩ (fun hHeld5 => ?_);clear hKK KK;refine wT 10 zda ?_ ?_ ?_;rotate_left
    ·intro w' hSw;clear hSw;unfold zda;first|(go_simp;done)|(go_simp;with_reducible rfl)
    simp only[zda,Act.put,wA,wB,wC];refine wpAnyH_done (by kernel_rfl) ?_ _;refine NoPanic.normal ?_;exact hQ.out _ _ _ _ _ _ _ _ _ _ _ _ _ FI.out
   ·unfold zpM
    go_simp;have nw3:Blk ((w1.alloc (.cells #[.pointer (some ⟨p,0,none⟩),.int .i64 0,.int .i64 (mn:Int),.pointer (some ⟨p,0,none⟩),.int .i64 (mn:Int),.int .i64 (mn:Int)] 235)).alloc (.cells #[.pointer none,.int .i64 0,.int .i64 0,.int .i64 0,.slice none 0 0,.int .i64 0,.string ⟨#[]⟩] 237)) (w1.heap.size+1) hz0:=zbA (w1.alloc (.cells #[.pointer (some ⟨p,0,none⟩),.int .i64 0,.int .i64 (mn:Int),.pointer (some ⟨p,0,none⟩),.int .i64 (mn:Int),.int .i64 (mn:Int)] 235)) hz0 _ (by simp) _ (by simp);have bl3:=chain bl2 (nb (w1.alloc (.cells #[.pointer (some ⟨p,0,none⟩),.int .i64 0,.int .i64 (mn:Int),.pointer (some ⟨p,0,none⟩),.int .i64 (mn:Int),.int .i64 (mn:Int)] 235)) (.cells #[.pointer none,.int .i64 0,.int .i64 0,.int .i64 0,.slice none 0 0,.int .i64 0,.string ⟨#[]⟩] 237));have bb3:=bb2.later (nb (w1.alloc (.cells #[.pointer (some ⟨p,0,none⟩),.int .i64 0,.int .i64 (mn:Int),.pointer (some ⟨p,0,none⟩),.int .i64 (mn:Int),.int .i64 (mn:Int)] 235)) (.cells #[.pointer none,.int .i64 0,.int .i64 0,.int .i64 0,.slice none 0 0,.int .i64 0,.string ⟨#[]⟩] 237))
    have bp3:=nw2.later (nb (w1.alloc (.cells #[.pointer (some ⟨p,0,none⟩),.int .i64 0,.int .i64 (mn:Int),.pointer (some ⟨p,0,none⟩),.int .i64 (mn:Int),.int .i64 (mn:Int)] 235)) (.cells #[.pointer none,.int .i64 0,.int .i64 0,.int .i64 0,.slice none 0 0,.int .i64 0,.string ⟨#[]⟩] 237));refine hKK.out _ _ ⟨zab hHeld2.1,zab hHeld2.2.1,zab hHeld2.2.2⟩ (fun hHeld3 => ?_);clear hKK KK;refine wpAnyH_ready (rs:=[4]) (by kernel_rfl) (by simp) ?_;refine AllReadyH.cons (o:=zpL) rfl (fun KK hKK => ?_) AllReadyH.nil;unfold zpL;go_simp;refine Calls.mono (IU.out ((w1.alloc (.cells #[.pointer (some ⟨p,0,none⟩),.int .i64 0,.int .i64 (mn:Int),.pointer (some ⟨p,0,none⟩),.int .i64 (mn:Int),.int .i64 (mn:Int)] 235)).alloc (.cells #[.pointer none,.int .i64 0,.int .i64 0,.int .i64 0,.slice none 0 0,.int .i64 0,.string ⟨#[]⟩] 237)) (w1.heap.size) bl3 bp3) ?_;rintro e w4 ⟨xa,xn,xc,rfl,r4,nv4,hb4⟩;have bl4:=chain bl3 hb4;have bb4:=bb3.later hb4;have hlt:=nw3.lt;have hqs:=bl3.size;have bh4:=nw3.later hb4;have bs4:=bl3.size;refine hKK.out _ _ ⟨cell_later hb4 hHeld3.1,cell_later hb4 hHeld3.2.1,cell_later hb4 hHeld3.2.2⟩ (fun hHeld4 => ?_);clear hKK KK;refine wT 5 zjV ?_ ?_ ?_;rotate_left
    ·intro w' hSw;clear hSw;unfold zjV;first|(go_simp;done)|(go_simp;with_reducible rfl)
    simp only[zjV,Act.put,wA,wB,wC];refine wT 6 zjW ?_ ?_ ?_;rotate_left
    ·intro w' hSw;clear hSw;unfold zjW;first|(go_simp;done)|(go_simp;with_reducible rfl)
    simp only[zjW,Act.put,wA,wB,wC];refine wT 7 zjX ?_ ?_ ?_;rotate_left
    ·intro w' hSw;clear hSw;unfold zjX;first|(go_simp;done)|(go_simp;with_reducible rfl)
    simp only[zjX,Act.put,wA,wB,wC];refine wpAnyH_ready (rs:=[9]) (by kernel_rfl) (by simp) ?_;refine AllReadyH.cons (o:=zpN) rfl (fun KK hKK => ?_) AllReadyH.nil;have z0:=bh4.c 0 _ rfl;have z1:=bh4.c 1 _ rfl;have z2:=bh4.c 2 _ rfl;have z3:=bh4.c 3 _ rfl;have z4:=bh4.c 4 _ rfl;have z5:=bh4.c 5 _ rfl;have z6:=bh4.c 6 _ rfl;have zf:=bh4.f;have hne:B≠w1.heap.size+1:=fun e=>by have:=hz.out.2.1.lt;omega
    have FI:Hid _:=zmD (va:=va) (p:=p) (mn:=mn) (pp:=pp) (i1:=i1) (i2:=i2) (i3:=i3) (i5:=i5) (s6:=s6) (B:=B) (H:=w1.heap.size+1) (W:=((w1.alloc (.cells #[.pointer (some ⟨p,0,none⟩),.int .i64 0,.int .i64 (mn:Int),.pointer (some ⟨p,0,none⟩),.int .i64 (mn:Int),.int .i64 (mn:Int)] 235)).alloc (.cells #[.pointer none,.int .i64 0,.int .i64 0,.int .i64 0,.slice none 0 0,.int .i64 0,.string ⟨#[]⟩] 237))) r4 bl4 nv4 hqs bb4 hz.out.2.2 bh4 hlt (by have:=hz.out.2.1.lt;have:=hz.out.2.2;omega) hne;unfold zpN;go_simp;refine hKK.out _ _ (zs1 hne hHeld4) (fun hHeld5 => ?_);clear hKK KK z0 z1 z2 z3 z4 z5 z6 zf;refine wT 10 zda ?_ ?_ ?_;rotate_left
    ·intro w' hSw;clear hSw;unfold zda;first|(go_simp;done)|(go_simp;with_reducible rfl)
    simp only[zda,Act.put,wA,wB,wC];refine wpAnyH_done (by kernel_rfl) ?_ _;refine NoPanic.normal ?_;exact hQ.out _ _ _ _ _ _ _ _ _ _ _ _ _ FI.out
  ·unfold zpM
   go_simp;have nw2:Blk (w1.alloc (.cells #[.pointer none,.int .i64 0,.int .i64 0,.int .i64 0,.slice none 0 0,.int .i64 0,.string ⟨#[]⟩] 237)) (w1.heap.size) hz0:=zbA w1 hz0 _ (by simp) _ (by simp);have bl2:=chain bl1 (nb w1 (.cells #[.pointer none,.int .i64 0,.int .i64 0,.int .i64 0,.slice none 0 0,.int .i64 0,.string ⟨#[]⟩] 237));have bb2:=bb1.later (nb w1 (.cells #[.pointer none,.int .i64 0,.int .i64 0,.int .i64 0,.slice none 0 0,.int .i64 0,.string ⟨#[]⟩] 237));refine hKK.out _ _ ⟨zab hHeld1.1,zab hHeld1.2.1,zab hHeld1.2.2⟩ (fun hHeld2 => ?_);clear hKK KK;refine wpAnyH_ready (rs:=[3]) (by kernel_rfl) (by simp) ?_;refine AllReadyH.cons (o:=zs0) rfl (fun KK hKK => ?_) AllReadyH.nil;unfold zs0;go_simp;have nw3:Blk ((w1.alloc (.cells #[.pointer none,.int .i64 0,.int .i64 0,.int .i64 0,.slice none 0 0,.int .i64 0,.string ⟨#[]⟩] 237)).alloc (.cells #[.pointer (some ⟨p,0,none⟩),.int .i64 0,.int .i64 (mn:Int),.pointer (some ⟨p,0,none⟩),.int .i64 (mn:Int),.int .i64 (mn:Int)] 235)) (w1.heap.size+1) (pl6 p mn):=zbA (w1.alloc (.cells #[.pointer none,.int .i64 0,.int .i64 0,.int .i64 0,.slice none 0 0,.int .i64 0,.string ⟨#[]⟩] 237)) (pl6 p mn) _ (by simp) _ (by simp)
   have bl3:=chain bl2 (nb (w1.alloc (.cells #[.pointer none,.int .i64 0,.int .i64 0,.int .i64 0,.slice none 0 0,.int .i64 0,.string ⟨#[]⟩] 237)) (.cells #[.pointer (some ⟨p,0,none⟩),.int .i64 0,.int .i64 (mn:Int),.pointer (some ⟨p,0,none⟩),.int .i64 (mn:Int),.int .i64 (mn:Int)] 235));have bb3:=bb2.later (nb (w1.alloc (.cells #[.pointer none,.int .i64 0,.int .i64 0,.int .i64 0,.slice none 0 0,.int .i64 0,.string ⟨#[]⟩] 237)) (.cells #[.pointer (some ⟨p,0,none⟩),.int .i64 0,.int .i64 (mn:Int),.pointer (some ⟨p,0,none⟩),.int .i64 (mn:Int),.int .i64 (mn:Int)] 235));have bh3:=nw2.later (nb (w1.alloc (.cells #[.pointer none,.int .i64 0,.int .i64 0,.int .i64 0,.slice none 0 0,.int .i64 0,.string ⟨#[]⟩] 237)) (.cells #[.pointer (some ⟨p,0,none⟩),.int .i64 0,.int .i64 (mn:Int),.pointer (some ⟨p,0,none⟩),.int .i64 (mn:Int),.int .i64 (mn:Int)] 235));refine hKK.out _ _ ⟨zab hHeld2.1,zab hHeld2.2.1,zab hHeld2.2.2⟩ (fun hHeld3 => ?_);clear hKK KK;refine wpAnyH_ready (rs:=[4]) (by kernel_rfl) (by simp) ?_;refine AllReadyH.cons (o:=zpL) rfl (fun KK hKK => ?_) AllReadyH.nil;unfold zpL;go_simp
   refine Calls.mono (IU.out ((w1.alloc (.cells #[.pointer none,.int .i64 0,.int .i64 0,.int .i64 0,.slice none 0 0,.int .i64 0,.string ⟨#[]⟩] 237)).alloc (.cells #[.pointer (some ⟨p,0,none⟩),.int .i64 0,.int .i64 (mn:Int),.pointer (some ⟨p,0,none⟩),.int .i64 (mn:Int),.int .i64 (mn:Int)] 235)) (w1.heap.size+1) bl3 nw3) ?_;rintro e w4 ⟨xa,xn,xc,rfl,r4,nv4,hb4⟩;have bl4:=chain bl3 hb4;have bb4:=bb3.later hb4;have hlt:=bh3.lt;have hqs:=bl3.size;have bh4:=bh3.later hb4;have bs4:=bl3.size;refine hKK.out _ _ ⟨cell_later hb4 hHeld3.1,cell_later hb4 hHeld3.2.1,cell_later hb4 hHeld3.2.2⟩ (fun hHeld4 => ?_);clear hKK KK;refine wT 5 zjV ?_ ?_ ?_;rotate_left
   ·intro w' hSw;clear hSw;unfold zjV;first|(go_simp;done)|(go_simp;with_reducible rfl)
   simp only[zjV,Act.put,wA,wB,wC];refine wT 6 zjW ?_ ?_ ?_;rotate_left
   ·intro w' hSw;clear hSw;unfold zjW;first|(go_simp;done)|(go_simp;with_reducible rfl)
   simp only[zjW,Act.put,wA,wB,wC];refine wT 7 zjX ?_ ?_ ?_;rotate_left
   ·intro w' hSw;clear hSw;unfold zjX;first|(go_simp;done)|(go_simp;with_reducible rfl)
   simp only[zjX,Act.put,wA,wB,wC];refine wpAnyH_ready (rs:=[9]) (by kernel_rfl) (by simp) ?_;refine AllReadyH.cons (o:=zpN) rfl (fun KK hKK => ?_) AllReadyH.nil;have z0:=bh4.c 0 _ rfl;have z1:=bh4.c 1 _ rfl;have z2:=bh4.c 2 _ rfl;have z3:=bh4.c 3 _ rfl;have z4:=bh4.c 4 _ rfl;have z5:=bh4.c 5 _ rfl;have z6:=bh4.c 6 _ rfl;have zf:=bh4.f;have hne:B≠w1.heap.size:=fun e=>by have:=hz.out.2.1.lt;omega
   have FI:Hid _:=zmD (va:=va) (p:=p) (mn:=mn) (pp:=pp) (i1:=i1) (i2:=i2) (i3:=i3) (i5:=i5) (s6:=s6) (B:=B) (H:=w1.heap.size) (W:=((w1.alloc (.cells #[.pointer none,.int .i64 0,.int .i64 0,.int .i64 0,.slice none 0 0,.int .i64 0,.string ⟨#[]⟩] 237)).alloc (.cells #[.pointer (some ⟨p,0,none⟩),.int .i64 0,.int .i64 (mn:Int),.pointer (some ⟨p,0,none⟩),.int .i64 (mn:Int),.int .i64 (mn:Int)] 235))) r4 bl4 nv4 hqs bb4 hz.out.2.2 bh4 hlt (by have:=hz.out.2.1.lt;have:=hz.out.2.2;omega) hne;unfold zpN;go_simp;refine hKK.out _ _ (zs1 hne hHeld4) (fun hHeld5 => ?_);clear hKK KK z0 z1 z2 z3 z4 z5 z6 zf;refine wT 10 zda ?_ ?_ ?_;rotate_left
   ·intro w' hSw;clear hSw;unfold zda;first|(go_simp;done)|(go_simp;with_reducible rfl)
   simp only[zda,Act.put,wA,wB,wC];refine wpAnyH_done (by kernel_rfl) ?_ _;refine NoPanic.normal ?_;exact hQ.out _ _ _ _ _ _ _ _ _ _ _ _ _ FI.out
 ·unfold zpM
  go_simp;have nw1:Blk (Z.alloc (.cells #[.pointer none,.int .i64 0,.int .i64 0,.int .i64 0,.slice none 0 0,.int .i64 0,.string ⟨#[]⟩] 237)) (Z.heap.size) hz0:=zbA Z hz0 _ (by simp) _ (by simp);have bl1:=chain hz.out.1 (nb Z (.cells #[.pointer none,.int .i64 0,.int .i64 0,.int .i64 0,.slice none 0 0,.int .i64 0,.string ⟨#[]⟩] 237));have bb1:=hz.out.2.1.later (nb Z (.cells #[.pointer none,.int .i64 0,.int .i64 0,.int .i64 0,.slice none 0 0,.int .i64 0,.string ⟨#[]⟩] 237));refine hKK.out _ _ ⟨zab hHeld.1,zab hHeld.2.1,zab hHeld.2.2⟩ (fun hHeld1 => ?_);clear hKK KK;refine wpAnyH_ready (rs:=[2]) (by kernel_rfl) (by simp) ?_;refine AllReadyH.cons (o:=zvk) rfl (fun KK hKK => ?_) AllReadyH.nil;unfold zvk;go_simp;refine Calls.mono (OT.out _) ?_;rintro e w2 ⟨rfl,hb2⟩;have sz2:=hb2.size;have bl2:=chain bl1 hb2;have bb2:=bb1.later hb2;have bh2:=nw1.later hb2;refine hKK.out _ _ ⟨cell_later hb2 hHeld1.1,cell_later hb2 hHeld1.2.1,cell_later hb2 hHeld1.2.2⟩ (fun hHeld2 => ?_);clear hKK KK;refine wpAnyH_ready (rs:=[3]) (by kernel_rfl) (by simp) ?_;refine AllReadyH.cons (o:=zs0) rfl (fun KK hKK => ?_) AllReadyH.nil;unfold zs0;go_simp;have nw3:Blk (w2.alloc (.cells #[.pointer (some ⟨p,0,none⟩),.int .i64 0,.int .i64 (mn:Int),.pointer (some ⟨p,0,none⟩),.int .i64 (mn:Int),.int .i64 (mn:Int)] 235)) (w2.heap.size) (pl6 p mn):=zbA w2 (pl6 p mn) _ (by simp) _ (by simp)
  have bl3:=chain bl2 (nb w2 (.cells #[.pointer (some ⟨p,0,none⟩),.int .i64 0,.int .i64 (mn:Int),.pointer (some ⟨p,0,none⟩),.int .i64 (mn:Int),.int .i64 (mn:Int)] 235));have bb3:=bb2.later (nb w2 (.cells #[.pointer (some ⟨p,0,none⟩),.int .i64 0,.int .i64 (mn:Int),.pointer (some ⟨p,0,none⟩),.int .i64 (mn:Int),.int .i64 (mn:Int)] 235));have bh3:=bh2.later (nb w2 (.cells #[.pointer (some ⟨p,0,none⟩),.int .i64 0,.int .i64 (mn:Int),.pointer (some ⟨p,0,none⟩),.int .i64 (mn:Int),.int .i64 (mn:Int)] 235));refine hKK.out _ _ ⟨zab hHeld2.1,zab hHeld2.2.1,zab hHeld2.2.2⟩ (fun hHeld3 => ?_);clear hKK KK;refine wpAnyH_ready (rs:=[4]) (by kernel_rfl) (by simp) ?_;refine AllReadyH.cons (o:=zpL) rfl (fun KK hKK => ?_) AllReadyH.nil;unfold zpL;go_simp;refine Calls.mono (IU.out (w2.alloc (.cells #[.pointer (some ⟨p,0,none⟩),.int .i64 0,.int .i64 (mn:Int),.pointer (some ⟨p,0,none⟩),.int .i64 (mn:Int),.int .i64 (mn:Int)] 235)) (w2.heap.size) bl3 nw3) ?_;rintro e w4 ⟨xa,xn,xc,rfl,r4,nv4,hb4⟩;have bl4:=chain bl3 hb4;have bb4:=bb3.later hb4;have hlt:=bh3.lt;have hqs:=bl3.size;have bh4:=bh3.later hb4;have bs4:=bl3.size;refine hKK.out _ _ ⟨cell_later hb4 hHeld3.1,cell_later hb4 hHeld3.2.1,cell_later hb4 hHeld3.2.2⟩ (fun hHeld4 => ?_);clear hKK KK;refine wT 5 zjV ?_ ?_ ?_;rotate_left
  ·intro w' hSw;clear hSw;unfold zjV;first|(go_simp;done)|(go_simp;with_reducible rfl)
  simp only[zjV,Act.put,wA,wB,wC];refine wT 6 zjW ?_ ?_ ?_;rotate_left
  ·intro w' hSw;clear hSw;unfold zjW;first|(go_simp;done)|(go_simp;with_reducible rfl)
  simp only[zjW,Act.put,wA,wB,wC];refine wT 7 zjX ?_ ?_ ?_;rotate_left
  ·intro w' hSw;clear hSw;unfold zjX;first|(go_simp;done)|(go_simp;with_reducible rfl)
  simp only[zjX,Act.put,wA,wB,wC];refine wpAnyH_ready (rs:=[9]) (by kernel_rfl) (by simp) ?_;refine AllReadyH.cons (o:=zpN) rfl (fun KK hKK => ?_) AllReadyH.nil;have z0:=bh4.c 0 _ rfl;have z1:=bh4.c 1 _ rfl;have z2:=bh4.c 2 _ rfl;have z3:=bh4.c 3 _ rfl;have z4:=bh4.c 4 _ rfl;have z5:=bh4.c 5 _ rfl;have z6:=bh4.c 6 _ rfl;have zf:=bh4.f;have hne:B≠Z.heap.size:=fun e=>by have:=hz.out.2.1.lt;omega
  have FI:Hid _:=zmD (va:=va) (p:=p) (mn:=mn) (pp:=pp) (i1:=i1) (i2:=i2) (i3:=i3) (i5:=i5) (s6:=s6) (B:=B) (H:=Z.heap.size) (W:=(w2.alloc (.cells #[.pointer (some ⟨p,0,none⟩),.int .i64 0,.int .i64 (mn:Int),.pointer (some ⟨p,0,none⟩),.int .i64 (mn:Int),.int .i64 (mn:Int)] 235))) r4 bl4 nv4 hqs bb4 hz.out.2.2 bh4 hlt (by have:=hz.out.2.1.lt;have:=hz.out.2.2;omega) hne;unfold zpN;go_simp;refine hKK.out _ _ (zs1 hne hHeld4) (fun hHeld5 => ?_);clear hKK KK z0 z1 z2 z3 z4 z5 z6 zf;refine wT 10 zda ?_ ?_ ?_;rotate_left
  ·intro w' hSw;clear hSw;unfold zda;first|(go_simp;done)|(go_simp;with_reducible rfl)
  simp only[zda,Act.put,wA,wB,wC];refine wpAnyH_done (by kernel_rfl) ?_ _;refine NoPanic.normal ?_;exact hQ.out _ _ _ _ _ _ _ _ _ _ _ _ _ FI.out
end Go.Proofs.YtjcppbhgjchjaaaGreatDoor.Sto
