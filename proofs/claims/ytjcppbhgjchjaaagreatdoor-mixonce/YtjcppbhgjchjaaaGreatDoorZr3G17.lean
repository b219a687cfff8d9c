/- A part of the walk. -/
import Derived.Test.YtjcppbhgjchjaaaGreatDoorZr3G16
set_option maxHeartbeats 8000000
set_option maxRecDepth 20000
namespace Go.Proofs.YtjcppbhgjchjaaaGreatDoor
open Go.RowKit Go.Proofs.Fd Go.Proofs.Hs
theorem zbt (l:List UInt8):(⟨l.toArray⟩:Ba).size=l.length:=by
 show l.toArray.size=_;simp
def TagC:Prop:=∀(key:Ba) (a:Option Addr) (ks:List Ba) (n cap:Nat) (w:Wo),Hid (ks.length=n)->Hid (n*16+1024<=140737488355328)->Hid (key.size<=140737488355328)->Hid (∀s∈ks,s.size<=140737488355328)->Hid (Kh w)->Hid (StrAt w a ks) ->
  Cl 101 #[.string key,.slice a n cap] w fun e w'=>e = .returned (.string ⟨(zd2 key.data.toList (jnd ks)).toArray⟩)/\Bw w w'
def zxi:Prop:=∀(a b:Ba) (w:Wo),Hid (a.size<=140737488355328)->Hid (b.size<=140737488355328) ->
  Cl 241 #[.string a,.string b] w fun e w'=>e = .returned (.bool (a.toList == b.toList))/\Bw w w'
def zkf:Prop:=∀(a b:Ba) (w:Wo),Hid (a.size<=140737488355328)->Hid (b.size<=140737488355328)->Hid (Kh w) ->
  Cl 58 #[.string a,.string b] w fun e w'=>e = .returned (.string ⟨(zd2 a.data.toList b.data.toList).toArray⟩)/\Bw w w'
def xpV (k i:Ba) (n:Int):Array Value:=if n < 0\/8160 < n then #[.string ⟨#[]⟩,.int .i64 1] else #[.string ⟨(xpn k.data.toList i.data.toList n.toNat).toArray⟩,.int .i64 0]
def drV (k i:Ba) (n:Int):Array Value:=if n < 0\/8160 < n then #[.string ⟨#[]⟩,.int .i64 1] else #[.string ⟨(drv k.data.toList i.data.toList n.toNat).toArray⟩,.int .i64 0]
def zmE:Prop:=∀(k i:Ba) (n:Int) (w:Wo),Hid (k.size<=140737488355328)->Hid (i.size+97<=140737488355328)->Hid (Kh w) ->
  Cl 57 #[.string k,.string i,.int .i64 n] w fun e w'=>e = .returned (.tuple (xpV k i n))/\Bw w w'
def zmF:Prop:=∀(k i:Ba) (n:Int) (w:Wo),Hid (k.size+64<=140737488355328)->Hid (i.size+97<=140737488355328)->Hid (Kh w) ->
  Cl 29 #[.string k,.string i,.int .i64 n] w fun e w'=>e = .returned (.tuple (drV k i n))/\Bw w w'
theorem zkg (k i:Ba) (n:Int):∃(X:Ba) (e:Int),drV k i n=#[.string X,.int .i64 e]:=by
 unfold drV;split
 ·exact⟨_,_,rfl⟩
 ·exact⟨_,_,rfl⟩
theorem strAt3 {w:Wo} {B:Nat} {x y z:Ba} (h0:w.cell? ⟨B,0,none⟩=some (.string x)) (h1:w.cell? ⟨B,1,none⟩=some (.string y)) (h2:w.cell? ⟨B,2,none⟩=some (.string z)):StrAt w (some ⟨B,0,none⟩) [x,y,z]:=fun i hi=>by
 refine⟨B,0,rfl,?_⟩;rcases (by simp at hi;omega:i=0\/i=1\/i=2) with rfl|rfl|rfl
 ·exact h0
 ·exact h1
 ·exact h2
theorem zmG (s:Ba):jnd [s]=s.data.toList:=by simp[jnd]
theorem zhQ (xi xo:Ba) (a:Option Addr) (ks:List Ba) (n cap:Nat) (w:Wo) (hn:Hid (ks.length=n)) (hb:Hid (n*16+1024<=140737488355328)) (hx:Hid (xi.size<=140737488355328/\xo.size<=140737488355328)) (hs:Hid (∀s∈ks,s.size<=140737488355328)) (hK:Hid (Kh w)) (hc:Hid (StrAt w a ks)) :
  Cl 100 #[.agg #[.string xi,.string xo],.slice a n cap] w fun e w'=>e = .returned (.string ⟨(sha (xo.data.toList++sha (xi.data.toList++jnd ks))).toArray⟩)/\Bw w w':=by
 obtain⟨D,hD⟩:∃D:Ba,⟨(sha (xi.data.toList++jnd ks)).toArray⟩=D:=⟨_,rfl⟩;have DL:Hid (D.size=32/\sha (xi.data.toList++jnd ks)=D.data.toList):=by rw[<-hD];exact⟨rfl,rfl⟩
 rw[DL.out.2];obtain⟨R,hR⟩:∃R:Ba,⟨(sha (xo.data.toList++D.data.toList)).toArray⟩=R:=⟨_,rfl⟩;rw[hR];have C2:Hid (∀(B b1:Nat) (w':Wo),Bw w w'->w'.cell? ⟨B,0,none⟩=some (.slice (some ⟨b1,0,none⟩) 1 1)->w'.cell? ⟨B,1,none⟩=some (.slice a n cap)->w'.cell? ⟨b1,0,none⟩=some (.string xi)->Cl 175 #[.slice (some ⟨B,0,none⟩) 2 2] w' fun e w''=>∃g cap',e = .returned (.slice (some ⟨g,0,none⟩) (n+1) cap')/\StrAt w'' (some ⟨g,0,none⟩) (xi::ks)/\Bw w' w''):=fun B b1 w' h0 h1 h2 h3 =>
  zgH B b1 xi a ks n cap hn hb w' h1 h2 h3 (StrAt.later hc.out h0 rfl)
 have SM1:Hid (∀(g cp:Nat) (w':Wo),Bw w w'->StrAt w' (some ⟨g,0,none⟩) (xi::ks)->Cl 174 #[.slice (some ⟨g,0,none⟩) (n+1) cp] w' fun e w''=>e = .returned (.string D)/\Bw w' w''):=fun g cp w' h0 h1=>by
  have k:=hK.out.later h0;have h:=zdb (some ⟨g,0,none⟩) (xi::ks) (n+1) cp (by show (xi::ks).length=n+1;rw[List.length_cons,hn.out]) (by have:=hb.out;omega) w' k.1 k.2 h1 (fun s hs'=>by
   rcases List.mem_cons.1 hs' with rfl|h
   ·have:=hx.out.1;omega
   ·have:=hs.out s h;omega)
  rw[<-hD];exact h
 have SM2:Hid (∀(B:Nat) (w':Wo),Bw w w'->w'.cell? ⟨B,0,none⟩=some (.string xo)->w'.cell? ⟨B,1,none⟩=some (.string D)->Cl 174 #[.slice (some ⟨B,0,none⟩) 2 2] w' fun e w''=>e = .returned (.string R)/\Bw w' w''):=fun B w' h0 h1 h2=>by
  have k:=hK.out.later h0;have h:=zdb (some ⟨B,0,none⟩) [xo,D] 2 2 rfl (by omega) w' k.1 k.2 (strAt2 h1 h2) (fun s hs'=>by
   simp at hs';rcases hs' with rfl|rfl
   ·have:=hx.out.2;omega
   ·have:=DL.out.1;omega)
  rw[<-hR]
  simpa using h
 clear hD hR;obtain⟨W,hW⟩:∃W,w.alloc (.cells #[.string xi,.string xo] 197)=W:=⟨_,rfl⟩;have BW:Hid (Bw w W/\W.cell? ⟨w.heap.size,0,none⟩=some (.string xi)/\W.cell? ⟨w.heap.size,1,none⟩=some (.string xo)):=by
  rw[<-hW];exact⟨(bQ _ _).alloc (nL _) _,by simp[go_sem],by simp[go_sem]⟩
 have KP:Hid (∀w',Bw W w'->Bw W w'/\w'.cell? ⟨w.heap.size,0,none⟩=some (.string xi)/\w'.cell? ⟨w.heap.size,1,none⟩=some (.string xo)):=fun w' h=>⟨h,cell_later h BW.out.2.1,cell_later h BW.out.2.2⟩
 have BB:Hid (∀w',Bw W w'->Bw w w'):=fun w' h=>chain BW.out.1 h
 go_enter Tryz.func100, Tryz.ntmps100;go_wp2;go_region_held3 (fun w'=>Below W.heap.size W w'/\w'.cell? ⟨w.heap.size,0,none⟩=some (.string xi)/\w'.cell? ⟨w.heap.size,1,none⟩=some (.string xo)) (first|exact KP.out _ (bQ _ _).drew|exact KP.out _ (chain (And.left (by assumption)) hb3)|exact KP.out _ (chain (And.left (by assumption)) hb2)|exact KP.out _ (chain (And.left (by assumption)) hb1)|exact KP.out _ (Below.alloc (And.left (by assumption)) (Below.size (And.left (by assumption))) _)|assumption) (first|(go_at_call 175;refine cM (C2.out (W.heap.size+1) W.heap.size _ (BB.out _ (And.left (by assumption))) ?_ ?_ ?_) ?_;(focus first|(simp[go_sem];done));(focus first|(simp[go_sem];done));(focus first|(simp[go_sem];done));rintro e w3 ⟨g,cp,rfl,SA,hb1⟩)|(go_at_call 174;revert SA;intro SA;refine cM (SM1.out _ _ _ (BB.out _ (And.left (by assumption))) SA) ?_;clear SA;rintro e w4 ⟨rfl,hb2⟩)|(go_at_call 174;refine cM (SM2.out _ _ (BB.out _ (And.left (by assumption))) ?_ ?_) ?_;(focus first|(simp[go_sem];done));(focus first|(simp[go_sem];done));rintro e w5 ⟨rfl,hb3⟩))
 all_goals
  rename_i hH;have BF:Hid (Bw w w5):=BB.out _ hH.1;clear hH;go_wp2;go_ret;exact⟨rfl,BF.out⟩
theorem zwQ:zxi:=fun a b w ha hb=>zvp a b w ha hb
theorem zqD:TagC:=fun key a ks n cap w hn hb hk hs hK hc=>by
 obtain⟨XI,hXI⟩:∃X:Ba,⟨(xk 54 key.data.toList).toArray⟩=X:=⟨_,rfl⟩;obtain⟨XO,hXO⟩:∃X:Ba,⟨(xk 92 key.data.toList).toArray⟩=X:=⟨_,rfl⟩;have PA:Hid (∀w',Kh w'->Cl 99 #[.string key] w' fun e w''=>e = .returned (.agg #[.string XI,.string XO])/\Bw w' w''):=fun w' h=>by
  rw[<-hXI,<-hXO];exact zcM key w' hk h
 have TG:Hid (∀w',Bw w w'->Cl 100 #[.agg #[.string XI,.string XO],.slice a n cap] w' fun e w''=>e = .returned (.string ⟨(zd2 key.data.toList (jnd ks)).toArray⟩)/\Bw w' w''):=fun w' h=>by
  have h:=zhQ XI XO a ks n cap w' hn hb ⟨by rw[<-hXI,zbt,zfJ];decide,by rw[<-hXO,zbt,zfJ];decide⟩ hs (hK.out.later h) (StrAt.later hc.out h rfl);rw[<-hXI,<-hXO] at h ⊢;exact h
 clear hXI hXO;generalize (⟨(zd2 key.data.toList (jnd ks)).toArray⟩:Ba)=R at *;have BB:Hid (Kh w):=hK;go_enter Tryz.func101, Tryz.ntmps101;go_wp2_with fail;refine cM (PA.out _ BB.out) ?_;rintro e w1 ⟨rfl,hb1⟩;have B1:Hid (Bw w w1):=hb1;clear hb1 PA;go_wp2_with fail;refine cM (TG.out _ B1.out) ?_;rintro e w2 ⟨rfl,hb2⟩;have B2:Hid (Bw w w2):=chain B1.out hb2;clear hb2 TG;go_wp2;go_ret;exact⟨rfl,B2.out⟩
theorem zhR:zkf:=fun a b w ha hb hK=>by
 have TG:Hid (∀(B:Nat) (w:Wo),Kh w->w.cell? ⟨B,0,none⟩=some (.string b)->Cl 101 #[.string a,.slice (some ⟨B,0,none⟩) 1 1] w fun e w'=>e = .returned (.string ⟨(zd2 a.data.toList b.data.toList).toArray⟩)/\Bw w w'):=fun B w h h0=>by
  have h:=zqD a (some ⟨B,0,none⟩) [b] 1 1 w rfl (by show _<=_;decide) ha (fun s hs=>by simp at hs;subst hs;exact hb.out) h (zhM h0);rw[zmG] at h;exact h
 generalize (⟨(zd2 a.data.toList b.data.toList).toArray⟩:Ba)=R at *;go_enter Tryz.func58, Tryz.ntmps58;go_wp2_with fail;refine cM (TG.out w.heap.size _ (hK.out.alloc _) (by simp[go_sem])) ?_;rintro e w1 ⟨rfl,hb1⟩;have B1:Hid (Bw w w1):=chain ((bQ _ _).alloc (nL _) _) hb1;clear hb1 TG;go_wp2;go_ret;exact⟨rfl,B1.out⟩
theorem zhS (key info:Ba) (n:Int) (h:n < 0\/8160 < n) (w:Wo) :
  Cl 57 #[.string key,.string info,.int .i64 n] w fun e w'=>e = .returned (.tuple #[.string ⟨#[]⟩,.int .i64 1])/\Bw w w':=by
 by_cases h1:n < 0
 ·go_enter Tryz.func57, Tryz.ntmps57
  go_wp2;go_ret2;exact⟨rfl,bQ _ _⟩
 ·have h2:8160 < n:=by omega
  clear h;go_enter Tryz.func57, Tryz.ntmps57;go_wp2;go_ret2;exact⟨rfl,bQ _ _⟩
theorem zeZ {w:Wo} {base g n cap:Nat} {l:List UInt8} (h:w.ownsRow base 5 1 (.slice (some ⟨g,0,none⟩) n cap) n (zaw l)):BytesAt w g l:=fun i hi=>by
 have hl:l.length=n:=by have:=h.1;simpa[zaw] using this
 refine⟨?_,h.frozenAt i⟩;rw[h.cellAt i (by omega)];simp[zaw,hi]
theorem BytesAt.part {w:Wo} {b:Nat} {l:List UInt8} (h:BytesAt w b l) (n:Nat):BytesAt w b (l.take n):=fun j hj=>by
 have hj':j < l.length:=by rw[List.length_take] at hj;omega
 rw[List.getElem_take];exact h j hj'
theorem zhT (key info:Ba) (n:Nat) (hn:n<=8160) (hk:Hid (key.size<=140737488355328)) (hi:Hid (info.size+97<=140737488355328)) (w:Wo) (hK:Hid (Kh w)) :
  Cl 57 #[.string key,.string info,.int .i64 (n:Int)] w fun e w'=>e = .returned (.tuple #[.string ⟨(xpn key.data.toList info.data.toList n).toArray⟩,.int .i64 0])/\Bw w w':=by
 obtain⟨XI,hXI⟩:∃X:Ba,⟨(xk 54 key.data.toList).toArray⟩=X:=⟨_,rfl⟩;obtain⟨XO,hXO⟩:∃X:Ba,⟨(xk 92 key.data.toList).toArray⟩=X:=⟨_,rfl⟩;have PA:Hid (∀w',Kh w'->Cl 99 #[.string key] w' fun e w''=>e = .returned (.agg #[.string XI,.string XO])/\Bw w' w''):=fun w' h=>by
  rw[<-hXI,<-hXO];exact zcM key w' hk h
 have g1:¬(n:Int) < 0:=by omega
 have g2:¬(8160:Int) < (n:Int):=by omega
 have g3:(n:Int)<=8160:=by omega
 go_enter Tryz.func57, Tryz.ntmps57;go_wp2_with fail;refine cM (PA.out _ hK.out) ?_;rintro e w1 ⟨rfl,hb1⟩;have B1:Hid (Bw w w1/\Kh w1):=⟨hb1,hK.out.later hb1⟩;clear hb1 PA;obtain⟨i0,hii,hz0,hz1,hz2⟩:=info_parts zda;obtain⟨A,hA⟩:∃A,w1.alloc (.cells #[.string XI,.string XO] 197)=A:=⟨_,rfl⟩;have CA:Hid (A.cell? ⟨w1.heap.size,0,none⟩=some (.string XI)/\A.cell? ⟨w1.heap.size,1,none⟩=some (.string XO)/\Bw w A/\w1.heap.size < A.heap.size):=by
  rw[<-hA];exact⟨by simp[go_sem],by simp[go_sem],chain B1.out.1 ((bQ _ _).alloc (nL _) _),by simp⟩
 have hm:=run_make_own (P:=Tryz.prog) A A.heap.size 99 5 i0 (.int .u8 0) 1 Tryz.underlying99 hii hz0 hz1 .i64 .i64 (n+32) (by rw[hz2];omega) (by unfold maxLen;omega) (nL _);obtain⟨W,hmk,hown,hgrown⟩:=hm;have OW:Hid (W.ownsRow A.heap.size 5 1 (.slice (some ⟨A.heap.size,0,none⟩) 0 (n+32)) 0 []/\Bw A W):=⟨hown,(bQ _ _).grown hgrown (nL _) (fun k h=>by cases h)⟩;have e2:((n+32:Nat):Int)=(n:Int)+32:=by omega
 rw[e2] at hmk;have e3:IntKind.i64.wrap ((n:Int)+32)=(n:Int)+32:=by rw[IntKind.wrap_i64];omega
 clear hown hgrown e2;have TG:Hid (∀(j B:Nat) (L Bb:Ba) (w':Wo),L.data.toList=tg key.data.toList info.data.toList j->Bb.data.toList=[UInt8.ofNat (j+1)]->L.size<=140737488355328->Bb.size<=140737488355328->Bw w w'->w'.cell? ⟨B,0,none⟩=some (.string L)->w'.cell? ⟨B,1,none⟩=some (.string info)->w'.cell? ⟨B,2,none⟩=some (.string Bb)->Cl 100 #[.agg #[.string XI,.string XO],.slice (some ⟨B,0,none⟩) 3 3] w' fun e w''=>e = .returned (.string ⟨(tg key.data.toList info.data.toList (j+1)).toArray⟩)/\Bw w' w''):=fun j B L Bb w' hL hB zL zB hw h0 h1 h2=>by
  have h:=zhQ XI XO (some ⟨B,0,none⟩) [L,info,Bb] 3 3 w' rfl (by show _<=_;decide) ⟨by rw[<-hXI,zbt,zfJ];decide,by rw[<-hXO,zbt,zfJ];decide⟩ (fun s hs=>by
   simp at hs;rcases hs with rfl|rfl|rfl
   ·exact zL
   ·have:=hi.out;omega
   ·exact zB) (hK.out.later hw) (strAt3 h0 h1 h2)
  have e:sha (XO.data.toList++sha (XI.data.toList++jnd [L,info,Bb]))=tg key.data.toList info.data.toList (j+1):=by
   show _=zd2 key.data.toList (tg key.data.toList info.data.toList j++info.data.toList++[UInt8.ofNat (j+1)]);unfold zd2;rw[<-hXI,<-hXO,<-hL,<-hB];simp[jnd]
  rw[e] at h;exact h
 clear hXI hXO;go_wp2;go_loopw [9,10,11] (fun ah sl nu wr=>∃j g cap:Nat,32*j < n+32/\ah = .string ⟨(tg key.data.toList info.data.toList j).toArray⟩/\sl = .slice (some ⟨g,0,none⟩) (32*j) cap/\nu = .int .u8 ((UInt8.ofNat (j+1)).toNat:Int)/\Hid (wr.ownsRow A.heap.size 5 1 (.slice (some ⟨g,0,none⟩) (32*j) cap) (32*j) (zaw (tgs key.data.toList info.data.toList j))/\Bw A wr)) (fun _ sl _ _=>8192 - (match sl with | .slice _ n _=>n|_=>0))
 case atStart=>exact⟨0,A.heap.size,n+32,by omega,rfl,rfl,rfl,OW.out⟩
 case round =>
  obtain⟨j,g,cap,hj,rfl,rfl,rfl,I⟩:=hrel;clear OW hmk e3;by_cases hlt:32*j < n
  ·have c0:=cell_later I.out.2 CA.out.1
   have c1:=cell_later I.out.2 CA.out.2.1;have g4:32*(j:Int) < (n:Int):=by omega
   obtain⟨b,hbb⟩:∃b,UInt8.ofNat (j+1)=b:=⟨_,rfl⟩;have NB:Hid (IntKind.u8.wrap ((b.toNat:Int)+1)=((UInt8.ofNat (j+1+1)).toNat:Int)):=by
    show _=_;rw[IntKind.wrap_u8,<-hbb,UInt8.toNat_ofNat',UInt8.toNat_ofNat'];omega
   have CB:(convert 99 9 (.slice (some ⟨wr.heap.size,0,none⟩) 1 1)).run Tryz.prog (wr.alloc (.cells #[.int .u8 (b.toNat:Int)] 5)) = .ok (.string ⟨[b].toArray⟩) (wr.alloc (.cells #[.int .u8 (b.toNat:Int)] 5)):=by
    have h:BytesAt (wr.alloc (.cells #[.int .u8 (b.toNat:Int)] 5)) wr.heap.size [b]:=fun i hi=>by
     obtain rfl:i=0:=by simp at hi;omega
     exact⟨by rw[World.cell?_alloc_new];rfl,by simp[go_sem]⟩
    exact h.string rfl
   obtain⟨L,hL⟩:∃X:Ba,⟨(tg key.data.toList info.data.toList j).toArray⟩=X:=⟨_,rfl⟩;obtain⟨Bb,hB⟩:∃X:Ba,⟨[b].toArray⟩=X:=⟨_,rfl⟩;obtain⟨N,hN⟩:∃X:Ba,⟨(tg key.data.toList info.data.toList (j+1)).toArray⟩=X:=⟨_,rfl⟩;have zL:L.size<=140737488355328:=by
    rw[<-hL,zbt];cases j with
    | zero=>exact Nat.zero_le _
    | succ j=>rw[zhD];decide
   have T1:Hid (∀(B:Nat) (w':Wo),Bw w w'->w'.cell? ⟨B,0,none⟩=some (.string L)->w'.cell? ⟨B,1,none⟩=some (.string info)->w'.cell? ⟨B,2,none⟩=some (.string Bb)->Cl 100 #[.agg #[.string XI,.string XO],.slice (some ⟨B,0,none⟩) 3 3] w' fun e w''=>e = .returned (.string N)/\Bw w' w''):=fun B w' hw h0 h1 h2=>by
    rw[<-hN];exact TG.out j B L Bb w' (by rw[<-hL]) (by rw[<-hB,hbb]) zL (by rw[<-hB];show (1:Nat)<=_;decide) hw h0 h1 h2
   have NN:Hid (N.size=32/\zaw (tgs key.data.toList info.data.toList (j+1))=zaw (tgs key.data.toList info.data.toList j)++Go.Lib.strCells N/\N=⟨(tg key.data.toList info.data.toList (j+1)).toArray⟩):=by
    refine⟨by rw[<-hN,zbt,zhD],?_,hN.symm⟩;rw[strCells_eq,zjZ,<-hN];simp[zaw]
   rw[hB] at CB;rw[hbb,hL];clear hL hB hN zL TG;go_wp2_with fail;refine cM (T1.out (wr.heap.size+1) _ (chain CA.out.2.2.1 ((I.out.2.alloc I.out.2.size _).alloc (by have:=I.out.2.size;simp;omega) _)) (by simp[go_sem]) (by simp[go_sem]) (by simp[go_sem])) ?_;rintro e w3 ⟨rfl,hb3⟩;have I3:Hid (w3.ownsRow A.heap.size 5 1 (.slice (some ⟨g,0,none⟩) (32*j) cap) (32*j) (zaw (tgs key.data.toList info.data.toList j))/\Bw A w3):=by
    have hb':Bw wr w3:=chain (((bQ _ _).alloc (nL _) _).alloc (by simp) _) hb3;exact⟨zhP I.out.1 hb',chain I.out.2 hb'⟩
   clear hb3 T1 CB c0 c1;go_wp2_with (first
    | (at_builtin;refine Go.Lib.wpList_append_own_string _ rfl _ _ 99 9 rfl A.heap.size 5 i0 Tryz.underlying99 Tryz.underlying9 hii hz0 hz1 hz2 _ _ _ rfl I3.out.1 N rfl (by have:=NN.out.1;unfold maxLen;omega) (by have:=NN.out.1;omega) I3.out.2.size ?_;intro v1 w4 hown1 hgrow1 hnil1))
   rcases hown1.2 with ⟨h,-⟩|⟨g',cap',cur,hv,-,-,-⟩
   ·exact absurd (hnil1.1 h).1 (by intro q;cases q)
   ·subst hv
    rw[<-NN.out.2.1,NN.out.1,show 32*j+32=32*(j+1) by omega] at hown1;rw[NN.out.1,show 32*j+32=32*(j+1) by omega];refine⟨⟨j+1,g',cap',by omega,by rw[NN.out.2.2],rfl,by rw[<-NB.out,IntKind.wrap_u8],hown1,I3.out.2.grown hgrow1 I3.out.2.size (fun q hq=>(I3.out.1.lt q hq).1)⟩,?_⟩;show 8192 - 32*(j+1) < 8192 - 32*j
    omega
  ·have g4:¬32*(j:Int) < (n:Int):=by omega
   have OB:=zeZ I.out.1;have XP:=zoL key.data.toList info.data.toList n j (by omega);have CV:=(OB.part n).string (cap:=cap) (n:=n) (by rw[XP,zbs]);rw[XP] at CV;have gc:32*j<=cap:=by
    rcases I.out.1.2 with ⟨h,-⟩|⟨g',cap',cur,h,-,-,h2,-⟩
    ·cases h
    ·injection h with q1 q2 q3;omega
   have g5:(n:Int)<=(cap:Int):=by omega
   obtain⟨R,hR⟩:∃X:Ba,⟨(xpn key.data.toList info.data.toList n).toArray⟩=X:=⟨_,rfl⟩;have HR:Hid (_=_):=hR;rw[hR] at CV;clear hR OB XP;have BF:Hid (Bw w wr):=chain CA.out.2.2.1 I.out.2;go_wp2;rw[HR.out];go_ret2;exact⟨rfl,BF.out⟩
theorem zkh:zmE:=fun k i n w hk hi hK=>by
 unfold xpV;by_cases h:n < 0\/8160 < n
 ·rw[if_pos h];exact zhS k i n h w
 ·rw[if_neg h]
  obtain⟨m,rfl⟩:∃m:Nat,n=(m:Int):=⟨n.toNat,by omega⟩;exact zhT k i m (by omega) hk hi w hK
theorem zfQ:zmF:=fun k i n w hk hi hK=>by
 have EX:Hid (∀w',Kh w'->Cl 58 #[.string ⟨#[100,111,118,101,99,111,116,101]⟩,.string k] w' fun e w''=>e = .returned (.string ⟨(zd2 [100,111,118,101,99,111,116,101] k.data.toList).toArray⟩)/\Bw w' w''):=fun w' h=>zhR ⟨#[100,111,118,101,99,111,116,101]⟩ k w' (by show (8:Nat)<=_;decide) (by have:=hk.out;show _<=_;omega) h
 have XE:Hid (∀w',Kh w'->Cl 57 #[.string ⟨(zd2 [100,111,118,101,99,111,116,101] k.data.toList).toArray⟩,.string i,.int .i64 n] w' fun e w''=>e = .returned (.tuple (drV k i n))/\Bw w' w''):=fun w' h=>by
  have h:=zkh ⟨(zd2 [100,111,118,101,99,111,116,101] k.data.toList).toArray⟩ i n w' (by rw[zbt,zcb];show (32:Nat)<=_;decide) hi h;exact h
 obtain⟨X,e,hX⟩:=zkg k i n;rw[hX] at XE ⊢;generalize (⟨(zd2 [100,111,118,101,99,111,116,101] k.data.toList).toArray⟩:Ba)=S at *;clear hX;go_enter Tryz.func29, Tryz.ntmps29;go_wp2_with fail;refine cM (EX.out _ hK.out) ?_;rintro e w1 ⟨rfl,hb1⟩;have B1:Hid (Bw w w1/\Kh w1):=⟨hb1,hK.out.later hb1⟩;clear hb1 EX;go_wp2_with fail;refine cM (XE.out _ B1.out.2) ?_;rintro e w2 ⟨rfl,hb2⟩;have B2:Hid (Bw w w2):=chain B1.out.1 hb2;clear hb2 XE;go_wp2;go_ret2;exact⟨rfl,B2.out⟩
end Go.Proofs.YtjcppbhgjchjaaaGreatDoor
namespace Go.Proofs.YtjcppbhgjchjaaaGreatDoor.Sto
open Go.RowKit Go.Proofs.Fd Go.Proofs.Hs
theorem strCells_eq (s:Ba):Go.Lib.strCells s=zaw s.data.toList:=by
 simp[Go.Lib.strCells,zaw]
def bs (X:Nat):Nat->List UInt8
 | 0=>List.replicate 8 0
 | i+1=>(bs X i).set (7 - i) (UInt8.ofNat (X / 2 ^ (8*i)))
end Go.Proofs.YtjcppbhgjchjaaaGreatDoor.Sto
