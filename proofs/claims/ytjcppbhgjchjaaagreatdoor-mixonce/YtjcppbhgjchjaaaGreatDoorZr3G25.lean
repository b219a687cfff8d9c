/- A part of the walk. -/
import Derived.Test.YtjcppbhgjchjaaaGreatDoorZr3G24
import Derived.Shelf.Strings.Repeat
import Derived.Test.YtjcppbhgjchjaaaGreatDoorZr3G17
set_option maxHeartbeats 8000000
set_option maxRecDepth 20000
namespace Go.Proofs.YtjcppbhgjchjaaaGreatDoor.Whl
open Go.RowKit Go.Proofs.Fd Go.Proofs.Wh
def zm9 (w:Wo) (p:Nat) (F:Nat->Prop) (s:St) (ids:List Int) (x:Int) (e:Ending) (w':Wo):Prop :=
 ∃F' va vn vc,e = .returned (.tuple #[.slice va vn vc,.int .i64 x])/\WAt w' p F' s/\Nx w F F'/\Bf F w w'/\OwnsI w' (.slice va vn vc) ids/\∀g,(Value.slice va vn vc).ownBlock=some g->¬F' g/\w.heap.size<=g
theorem zm9.no {w:Wo} {p:Nat} {F:Nat->Prop} {s:St} {x:Int} (h:WAt w p F s):zm9 w p F s [] x (.returned (.tuple #[.slice none 0 0,.int .i64 x])) w :=
 ⟨F,none,0,0,rfl,h,Nx.refl _ _,Bf.refl _ _,World.ownsRow_nil _ _ _ _,fun g e=>by cases e⟩
theorem keepE {wc w1:Wo} {a b:Addr} {x y:Value} {r:Option Nat} (hg:wc.grownBy w1 r) (ha:some a.block≠r) (hb:some b.block≠r) (h:wc.cell? a=some x/\wc.cell? b=some y):w1.cell? a=some x/\w1.cell? b=some y:=⟨hg.cell h.1 ha,hg.cell h.2 hb⟩
theorem zo8 (p:Nat) (F:Nat->Prop) (s:St) (tt:Nat) (hm:s.many < 1099511627776) (g1:s.now<=tt) (g2:tt<=1099511627776) (w:Wo) (H:Hid (WAt w p F s)) :
  Cl 49 #[.pointer (some ⟨p,0,none⟩),.int .i64 (tt:Int)] w fun e w'=>zm9 w p F ⟨tt,s.many,rest tt s.l⟩ ((Wh.due tt s.l).map Tm.i) 0 e w':=by
 obtain⟨ho,sv,sl,bm,D,rfl,h1,h2,hr⟩:=H.out;have hnow:s.now<=1099511627776:=ho.now;have c0:=hr.c0;have f0:=hr.fr;have hpl:=zbD hnow g2;have TK:Hid _:=zkG p s.now s.many tt sv sl bm D hnow g2 w hr (fun m hm=>Nat.le_trans (zcj h1 hm) ho.long);have FP:Hid ((zhe sl (pl s.now tt+1)).Perm (rch s tt)):=zci h1 (pl s.now tt+1) (by omega);have FL:Hid ((zhe sl (pl s.now tt+1)).length<=4096):=Nat.le_trans (zcj h1 (by omega)) ho.long;have HL:Hid (∀g,Foot p sv bm g->g < w.heap.size):=fun g hg=>hr.lt hg
 have k1:¬(tt:Int) < (s.now:Int):=by omega
 have k2:¬(1099511627776:Int) < (tt:Int):=by omega
 have HO:Hid (Ok s):=ho;have HS:Hid (Sl s sl):=h1;have HM:Hid (Mp D s.l):=h2;clear hr ho h1 h2 H;go_enter Tryz.func49, Tryz.ntmps49;go_wp2_with fail;refine cM TK.out ?_;rintro e w1 ⟨va,vn,vc,rfl,T1'⟩;have T1:Hid (Tk w p s.now s.many sv sl bm D (pl s.now tt+1) (.slice va vn vc) w1):=T1';clear T1' TK c0 f0;have SO:Hid _:=zib _ FL.out w1 va vn vc T1.out.own;go_wp2_with fail;refine cM SO.out ?_;rintro e w2 ⟨rfl,r,p1,p2,p3,p4⟩;have RR:Hid (r=rch s tt):=zoY HO.out (p1.trans FP.out) p2;have nF:∀g,(Value.slice va vn vc).ownBlock=some g->¬Foot p (zeM sv (pl s.now tt+1)) bm g:=fun g e c=>by
  have h1:=T1.out.new g e;have h2:=HL.out g (Tk.foot c);omega
 have R2:=(T1.out.raw.grown p4 nF);have R3:=R2.setNow tt;have A0:Hid (Ad w p (Foot p sv bm) s sl bm tt r (.slice va vn vc) 0 (.slice none 0 0) (w2.setCell ⟨p,0,none⟩ (.int .i64 (tt:Int)))):=by
  refine⟨zeM sv (pl s.now tt+1),D,?_,?_,?_,World.ownsRow_nil _ _ _ _,fun g e=>⟨nF g e,fun c=>(by cases c)⟩,fun g e=>(by cases e),fun g c => .inl (Tk.foot c),?_⟩
  ·rw[List.take_zero,zmP]
   exact R3.1
  ·rw[List.take_zero,zoZ]
   exact HM.out
  ·exact ownsRow_same p3 (fun g e=>Below.heap_setCell w2 ⟨p,0,none⟩ _ g (fun c=>nF g e (.inl c)))
  ·have b1:Bf (Foot p sv bm) w w2:=T1.out.bf.trans (F':=fun g=>(Value.slice va vn vc).ownBlock=some g) (fun g e => .inr (T1.out.new g e)) (Bf.grown p4 (fun g e => .inl e))
   exact b1.trans (F':=Foot p (zeM sv (pl s.now tt+1)) bm) (fun g c => .inl (Tk.foot c)) R3.2
 have c0:=R2.c0;have f0:=R2.fr;have RL:Hid (r.length<=4096):=by
  have:=p1.length_eq;have:=FL.out;show r.length<=4096
  omega
 have RN:Hid (zaH w2 (.slice va vn vc) r):=p3;clear p1 p2 p4 nF R2 R3 SO FP FL T1 p3;obtain⟨n,hn⟩:∃n,r.length=n:=⟨_,rfl⟩;have hvn:vn=n:=by
  rcases zdj RN.out with ⟨e,rfl⟩|⟨g,cap,e,-,-⟩
  ·injection e with e1 e2 e3
   rw[e2,<-hn];rfl
  ·injection e with e1 e2 e3
   rw[e2,hn]
 subst hvn;have HN:Hid (r.length=vn):=hn;have hvn4:vn<=4096:=by have:=RL.out;omega
 clear hn RN RL;go_wp2;obtain⟨W0,hW0⟩:∃W0,w2.setCell ⟨p,0,none⟩ (.int .i64 (tt:Int))=W0:=⟨_,rfl⟩;rw[hW0] at A0 ⊢;clear hW0 c0 f0 k1 k2 HL;go_loopw [7,31] (fun vi i wr=>∃(k:Nat) (ia:Option Addr) (im ie:Nat),k<=vn/\i = .int .i64 (k:Int)/\vi = .slice ia im ie/\Hid (Ad w p (Foot p sv bm) s sl bm tt r (.slice va vn vc) k (.slice ia im ie) wr)) (fun vi i wr=>vn - (intOf i).toNat)
 case atStart=>exact⟨0,none,0,0,by omega,rfl,rfl,A0.out⟩
 case round =>
  obtain⟨k,ia,im,ie,hk,rfl,rfl,I⟩:=hrel;clear A0;by_cases hlt:k < vn
  ·have hkr:k < r.length:=by have:=HN.out;omega
   have x1:(k:Int) < (vn:Int):=by omega
   obtain⟨g,rfl⟩:∃g,va=some ⟨g,0,none⟩:=by
    obtain⟨sv1,D1,-,-,q3,-⟩:=I.out;rcases zdj q3 with ⟨-,e⟩|⟨g,cap,e,-,-⟩
    ·rw[e] at hkr
     exact absurd hkr (Nat.not_lt_zero _)
    ·injection e with e1 e2 e3
     exact⟨g,e1⟩
   have TR:zqI wr g r:=by
    obtain⟨sv1,D1,-,-,q3,-⟩:=I.out;exact q3.tm.1
   obtain⟨a0,a1,a2⟩:=TR k hkr;clear TR;obtain⟨t,ht⟩:∃t,r[k]=t:=⟨_,rfl⟩;rw[ht] at a0 a1 a2;have A1:Hid (Ad w p (Foot p sv bm) s sl bm tt r (.slice (some ⟨g,0,none⟩) vn vc) k (.slice ia im ie) (wr.alloc (.cells #[.int .i64 (t.a:Int),.int .i64 (t.n:Int),.int .i64 t.i] 179))):=I.out.later ((bQ _ _).alloc (nL _) _);have HB:Hid (T1 (wr.alloc (.cells #[.int .i64 (t.a:Int),.int .i64 (t.n:Int),.int .i64 t.i] 179)) wr.heap.size t):=⟨by simp[go_sem],by simp[go_sem],by simp[go_sem],fun o=>by simp[go_sem]⟩;have hta:t.a<=1099511627776:=by
    have:r[k]∈rch s tt:=by rw[<-RR.out];exact List.getElem_mem hkr
    rw[<-ht];exact (HO.out.above _ (List.mem_filter.1 this).1).2
   by_cases hd:t.a<=tt
   ·have x2:¬(tt:Int) < (t.a:Int):=by omega
    obtain⟨w5,d1,d2,d3,d4,d5⟩:=Ad.due (A1.out.later (bQ _ _).drew) hm HO.out RR.out hkr (by rw[ht];exact hd);rw[ht] at d2 d5;obtain⟨b0,b1,b2,bf⟩:=HB.out;have hBm:wr.heap.size≠bm:=fun c=>by
     obtain⟨sv1,D1,q1,-⟩:=I.out;have:=q1.lt (.inr (.inl rfl));omega
    have HBM:Hid (wr.heap.size≠bm):=hBm;have B5:Hid (w5.cell? ⟨wr.heap.size,2,none⟩=some (.int .i64 t.i)):=d3.cell b2 (fun c=>HBM.out (by injection c));have D5:Hid _:=d5;have D3:Hid _:=d3;have D4:Hid (p≠bm):=d4;clear hBm d5 d3 d4 A1 I ht;go_wp2;have c1:(wr.alloc (.cells #[.int .i64 (t.a:Int),.int .i64 (t.n:Int),.int .i64 t.i] 179)).cell? ⟨p,450,none⟩=some (.map (some bm)):=d1;obtain⟨W1,hW1⟩:∃W1,(wr.alloc (.cells #[.int .i64 (t.a:Int),.int .i64 (t.n:Int),.int .i64 t.i] 179))=W1:=⟨_,rfl⟩;rw[hW1] at d1 d2 D3 b0 b1 b2 c1 ⊢;clear hW1 HB bf b0 b2 d1 a0 a1 a2;go_region_held3 (fun w'=>w'.cell? ⟨p,450,none⟩=some (.map (some bm))/\w'.cell? ⟨wr.heap.size,1,none⟩=some (.int .i64 (t.n:Int))) (first|exact⟨c1,b1⟩|exact keepE D3.out (fun e=>D4.out (by injection e)) (fun e=>HBM.out (by injection e)) (by assumption)) (first|(rw[if_pos (by kernel_rfl)];refine wp_delete_run _ _ _ _ _ rfl _ _ rfl rfl _ _ d2 ?_));rename_i hH;clear hH c1 b1 d2 D3 D4;have b2:=B5.out;obtain⟨ja,jm,je,w',r1,J'⟩:=D5.out (w5.alloc (.cells #[.int .i64 t.i] 3)) ((bQ _ _).alloc (nL _) _) w5.heap.size (nL _) (by simp[go_sem]);have J:Hid _:=J';clear J' D5 B5;go_wp2_with (at_builtin;refine Go.Lib.wpList_append_run _ rfl _ _ _ _ rfl _ _ rfl rfl _ _ r1 ?_);go_roundw
    case rel=>exact⟨k+1,ja,jm,je,by omega,by go_num,rfl,J.out⟩
    case measure=>simp[intOf];omega
   ·have x2:(tt:Int) < (t.a:Int):=by omega
    obtain⟨sv1,D1,R1,NX⟩:=A1.out.late hkr (by rw[ht];exact hd);rw[ht] at NX;have PL:Hid _:=zd8 p tt s.many sv1 _ bm D1 t g2 hta _ R1 (by
     refine Nat.le_trans (m:=s.l.length) ?_ HO.out.long;rw[RR.out];exact zgL HS.out HO.out (zbD g2 hta))
    have NX':Hid _:=NX;clear NX R1 A1 I ht;obtain⟨b0,b1,b2,bf⟩:=HB.out;go_wp2_with fail;refine cM PL.out ?_;rintro e w4 ⟨rfl,sv4,z1,z2,z3⟩;have J:Hid _:=NX'.out sv4 w4 z1 z2 z3;clear z1 z2 z3 NX' PL HB b0 b1 b2 bf a0 a1 a2;go_wp2;go_roundw
    case rel=>exact⟨k+1,ia,im,ie,by omega,by go_num,rfl,J.out⟩
    case measure=>simp[intOf];omega
  ·obtain rfl:k=vn:=by omega
   obtain⟨sv1,D1,q1,q2,q3,q4,q5,q6,q7,q8⟩:=I.out;have hfull:r.take k=r:=List.take_of_length_le (by have:=HN.out;omega);rw[hfull] at q1 q2 q4;rw[RR.out] at q1 q2 q4;have FIN:Hid (zm9 w p (Foot p sv bm) ⟨tt,s.many,rest tt s.l⟩ ((Wh.due tt s.l).map Tm.i) 0 (.returned (.tuple #[.slice ia im ie,.int .i64 0])) wr):=by
    refine⟨Foot p sv1 bm,ia,im,ie,rfl,⟨?_,sv1,_,bm,D1,rfl,HS.out.adv HO.out,?_,q1⟩,q7,q8,?_,q6⟩
    ·have:=HO.out.adv (tt:Int)
     have e0:advE s (tt:Int)=0:=by
      unfold advE;rw[if_neg (by omega),if_neg (show ¬(maxT:Int) < (tt:Int) by unfold maxT;omega)]
     unfold advS at this;rw[if_pos e0] at this;exact this
    ·rw[zo1 HO.out] at q2
     exact q2
    ·rw[zmR HO.out] at q4
     exact q4
   clear q1 q2 q3 q4 q5 q6 q7 q8 hfull I;go_wp2;go_ret2;exact FIN.out
theorem adv_any (p:Nat) (F:Nat->Prop) (s:St) (tt:Int) (hm:s.many < 1099511627776) (w:Wo) (H:WAt w p F s) :
  Cl 49 #[.pointer (some ⟨p,0,none⟩),.int .i64 tt] w fun e w'=>zm9 w p F (advS s tt) (advV s tt) (advE s tt) e w':=by
 have c0:w.cell? ⟨p,0,none⟩=some (.int .i64 (s.now:Int)):=by
  obtain⟨ho,sv,sl,bm,D,rfl,h1,h2,hr⟩:=H;exact hr.c0
 by_cases g1:tt < (s.now:Int)
 ·have e0:advE s tt=140:=by unfold advE;rw[if_pos g1]
  have e1:advV s tt=[]:=by unfold advV;rw[e0];rfl
  have e2:advS s tt=s:=by unfold advS;rw[e0];rfl
  rw[e0,e1,e2];have HH:Hid _:=zm9.no (x:=140) H;clear e0 e1 e2 H;go_enter Tryz.func49, Tryz.ntmps49;go_wp2;go_ret2;exact HH.out
 ·by_cases g2:(1099511627776:Int) < tt
  ·have e0:advE s tt=1:=by unfold advE;rw[if_neg g1,if_pos (show (maxT:Int) < tt from g2)]
   have e1:advV s tt=[]:=by unfold advV;rw[e0];rfl
   have e2:advS s tt=s:=by unfold advS;rw[e0];rfl
   rw[e0,e1,e2];have HH:Hid _:=zm9.no (x:=1) H;clear e0 e1 e2 H;go_enter Tryz.func49, Tryz.ntmps49;go_wp2;go_ret2;exact HH.out
  ·have e0:advE s tt=0:=by unfold advE;rw[if_neg g1,if_neg (show ¬(maxT:Int) < tt from g2)]
   obtain⟨n,rfl⟩:∃n:Nat,tt=(n:Int):=⟨tt.toNat,by omega⟩;have e1:advV s (n:Int)=(Wh.due n s.l).map Tm.i:=by unfold advV;rw[if_pos e0]
   have e2:advS s (n:Int)=⟨n,s.many,rest n s.l⟩:=by unfold advS;rw[if_pos e0,Int.toNat_natCast]
   rw[e0,e1,e2];exact zo8 p F s n hm (by omega) (by omega) w H
def IntAt (w:Wo) (a:Option Addr) (cs:List Int):Prop:=∀i (hi:i < cs.length),∃b o,a=some ⟨b,o,none⟩/\w.cell? ⟨b,o+i,none⟩=some (.int .i64 cs[i])
theorem IntAt.later {W w1:Wo} {a:Option Addr} {cs:List Int} (h:IntAt W a cs) (hb:Bw W w1):IntAt w1 a cs:=fun i hi=>by
 obtain⟨b,o,e,hc⟩:=h i hi;exact⟨b,o,e,cell_later hb hc⟩
theorem owns_int {w:Wo} {a:Option Addr} {n c:Nat} {l:List Int} (h:OwnsI w (.slice a n c) l):IntAt w a l/\l.length=n:=by
 rcases h.2 with ⟨h1,h2⟩|⟨g,cap,cur,h1,-⟩
 ·injection h1 with e1 e2 e3
  obtain rfl:=List.length_eq_zero_iff.1 h2;exact⟨fun i hi=>absurd hi (Nat.not_lt_zero _),e2.symm⟩
 ·have h1':=h1
  injection h1' with e1 e2 e3
  subst e1;subst e2;refine⟨fun i hi=>⟨g,0,rfl,?_⟩,rfl⟩;rw[h1] at h;rw[Nat.zero_add,h.cellAt i (by omega)];simp[ic,hi]
theorem OwnsI.later {w w':Wo} {v:Value} {l:List Int} (h:OwnsI w v l) (hb:Bw w w'):OwnsI w' v l:=ownsRow_same h (fun g e=>hb.block g (h.lt g e).2)
def sA:St:=putS (putS (putS St.init 5 1) 3 2) 5 3
end Go.Proofs.YtjcppbhgjchjaaaGreatDoor.Whl
namespace Go.Proofs.YtjcppbhgjchjaaaGreatDoor
open Go.RowKit Go.Proofs.Fd
def repAt:Go.Shelf.Ren:=⟨fun x=>if x=99 then 311 else if x=105 then 258 else if x=165 then 312 else if x=166 then 290 else if x=169 then 291 else if x=170 then 313 else if x=206 then 293 else if x=212 then 310 else if x=240 then 340 else if x=241 then 349 else if x=263 then 347 else if x=264 then 348 else if x=276 then 370 else if x=277 then 373 else 0,fun x=>if x=0 then 0 else if x=3 then 3 else if x=4 then 4 else if x=5 then 5 else if x=9 then 9 else if x=20 then 20 else if x=37 then 99 else if x=46 then 124 else if x=51 then 192 else if x=53 then 80 else if x=70 then 346 else if x=72 then 348 else if x=75 then 350 else if x=76 then 351 else if x=80 then 280 else if x=109 then 367 else if x=127 then 247 else if x=146 then 393 else if x=148 then 375 else if x=164 then 408 else 0,fun n=>n⟩
theorem repLies:Lays.n105 Tryz.prog repAt :=
 { mixed:=by kernel_rfl,f99:=by kernel_rfl,f105:=by kernel_rfl,f165:=by kernel_rfl,f166:=by kernel_rfl,f169:=by kernel_rfl,f170:=by kernel_rfl,f206:=by kernel_rfl,f212:=by kernel_rfl,f240:=by kernel_rfl,f241:=by kernel_rfl,f263:=by kernel_rfl,f264:=by kernel_rfl,f276:=by kernel_rfl,f277:=by kernel_rfl,t0:=by kernel_rfl,a0:=fun _=>by kernel_rfl,z0:=fun _=>by kernel_rfl,v0:=fun _=>by kernel_rfl,t3:=by kernel_rfl,a3:=fun _=>by kernel_rfl,z3:=fun _=>by kernel_rfl,v3:=fun _=>by kernel_rfl,t4:=by kernel_rfl,a4:=fun _=>by kernel_rfl,z4:=fun _=>by kernel_rfl,v4:=fun _=>by kernel_rfl,t5:=by kernel_rfl,a5:=fun _=>by kernel_rfl,z5:=fun _=>by kernel_rfl,v5:=fun _=>by kernel_rfl,t9:=by kernel_rfl,a9:=fun _=>by kernel_rfl,z9:=fun _=>by kernel_rfl,v9:=fun _=>by kernel_rfl,t20:=by kernel_rfl,a20:=fun _=>by kernel_rfl,z20:=fun _=>by kernel_rfl,v20:=fun _=>by kernel_rfl,t37:=by kernel_rfl,a37:=fun _=>by kernel_rfl,z37:=fun _=>by kernel_rfl,v37:=fun _=>by kernel_rfl,t46:=by kernel_rfl,a46:=fun _=>by kernel_rfl,z46:=fun _=>by kernel_rfl,v46:=fun _=>by kernel_rfl,t51:=by kernel_rfl,a51:=fun _=>by kernel_rfl,z51:=fun _=>by kernel_rfl,v51:=fun _=>by kernel_rfl,t53:=by kernel_rfl,a53:=fun _=>by kernel_rfl,z53:=fun _=>by kernel_rfl,v53:=fun _=>by kernel_rfl,t70:=by kernel_rfl,a70:=fun _=>by kernel_rfl,z70:=fun _=>by kernel_rfl,v70:=fun _=>by kernel_rfl,t72:=by kernel_rfl,a72:=fun _=>by kernel_rfl,z72:=fun _=>by kernel_rfl,v72:=fun _=>by kernel_rfl,t75:=by kernel_rfl,a75:=fun _=>by kernel_rfl,z75:=fun _=>by kernel_rfl,v75:=fun _=>by kernel_rfl,t76:=by kernel_rfl,a76:=fun _=>by kernel_rfl,z76:=fun _=>by kernel_rfl,v76:=fun _=>by kernel_rfl,t109:=by kernel_rfl,a109:=fun _=>by kernel_rfl,z109:=fun _=>by kernel_rfl,v109:=fun _=>by kernel_rfl,t127:=by kernel_rfl,a127:=fun _=>by kernel_rfl,z127:=fun _=>by kernel_rfl,v127:=fun _=>by kernel_rfl,t146:=by kernel_rfl,a146:=fun _=>by kernel_rfl,z146:=fun _=>by kernel_rfl,v146:=fun _=>by kernel_rfl,t148:=by kernel_rfl,a148:=fun _=>by kernel_rfl,z148:=fun _=>by kernel_rfl,v148:=fun _=>by kernel_rfl,t164:=by kernel_rfl,a164:=fun _=>by kernel_rfl,z164:=fun _=>by kernel_rfl,v164:=fun _=>by kernel_rfl }
theorem repMore:Builder.Extra Tryz.prog repAt :=
 { sizeBuilder:=by kernel_rfl,liesBuilder:=by kernel_rfl,t5:=by kernel_rfl,a5:=fun _=>by kernel_rfl,z5:=fun _=>by kernel_rfl,v5:=fun _=>by kernel_rfl,infoByte:=by kernel_rfl,cellsByte:=by kernel_rfl,sizeByte:=by kernel_rfl,neB5:=by decide }
theorem zxr (w:Wo) :
  Cl 258 #[.string ⟨#[0]⟩,.int .i64 12] w fun e w'=>e = .returned (.string ⟨#[0,0,0,0,0,0,0,0,0,0,0,0]⟩)/\Bw w w' :=
 Any.strings_Repeat_main repLies repMore ⟨#[0]⟩ 12 w (by decide) (by decide) (by decide) (by decide)
end Go.Proofs.YtjcppbhgjchjaaaGreatDoor
namespace Go.Proofs.Wd
open Go.Proofs.Hs Go.Proofs.Cc
end Go.Proofs.Wd
namespace Go.Proofs.YtjcppbhgjchjaaaGreatDoor
open Go.RowKit Go.Proofs.Fd Go.Proofs.Hs Go.Proofs.Cc Go.Proofs.Wd
def zso (n:Int):Int:=if n < 64 then 3 else if 8192 < n then 2 else 0
theorem zuS (n:Int) (h:n < 64):zso n=3:=if_pos h
theorem zuT (n:Int) (h:8192 < n):zso n=2:=by unfold zso;rw[if_neg (by omega),if_pos h]
theorem zsp (n:Int) (h1:64<=n) (h2:n<=8192):zso n=0:=by unfold zso;rw[if_neg (by omega),if_neg (by omega)]
theorem zsK (n:Int) (h:zso n=0):64<=n/\n<=8192:=by
 unfold zso at h
 split at h
 ·exact absurd h (by decide)
 ·split at h
  ·exact absurd h (by decide)
  ·omega
def shV (k b:Ba):Array Value:=if zso (b.size:Int)=0 then #[.string ⟨(zmM k.data.toList b.data.toList).toArray⟩,.int .i64 0] else #[.string ⟨#[]⟩,.int .i64 (zso (b.size:Int))]
def opV (k b:Ba):Array Value:=if zso (b.size:Int)=0 then #[.string ⟨(zb4 k.data.toList b.data.toList).toArray⟩,.int .i64 0] else #[.string ⟨#[]⟩,.int .i64 (zso (b.size:Int))]
def wrV (k t:Ba) (n:Int):Array Value :=
 if zso n=0 then (if n - 34 < (t.size:Int) then #[.string ⟨#[]⟩,.int .i64 2] else #[.string ⟨(zmM k.data.toList (zfU t.data.toList n.toNat)).toArray⟩,.int .i64 0]) else #[.string ⟨#[]⟩,.int .i64 (zso n)]
def uwV (k b:Ba):Array Value :=
 if zso (b.size:Int)=0 then (match zgK (zb4 k.data.toList b.data.toList) with
  | some t=>#[.string ⟨t.toArray⟩,.int .i64 0]
  | none=>#[.string ⟨#[]⟩,.int .i64 90]) else #[.string ⟨#[]⟩,.int .i64 (zso (b.size:Int))]
theorem zwb (k b:Ba) (h0:64<=b.size) (h1:b.size<=8192):shV k b=#[.string ⟨(zmM k.data.toList b.data.toList).toArray⟩,.int .i64 0]:=by unfold shV;rw[if_pos (zsp _ (by omega) (by omega))]
theorem zwc (k b:Ba) (h0:64<=b.size) (h1:b.size<=8192):opV k b=#[.string ⟨(zb4 k.data.toList b.data.toList).toArray⟩,.int .i64 0]:=by unfold opV;rw[if_pos (zsp _ (by omega) (by omega))]
theorem zw4 (k b:Ba) (h:zso (b.size:Int)≠0):shV k b=#[.string ⟨#[]⟩,.int .i64 (zso (b.size:Int))]:=by unfold shV;rw[if_neg h]
theorem zw5 (k b:Ba) (h:zso (b.size:Int)≠0):opV k b=#[.string ⟨#[]⟩,.int .i64 (zso (b.size:Int))]:=by unfold opV;rw[if_neg h]
theorem zwd (k t:Ba) (n:Nat) (h0:64<=n) (h1:n<=8192) (ht:t.size+34<=n):wrV k t (n:Int)=#[.string ⟨(zmM k.data.toList (zfU t.data.toList n)).toArray⟩,.int .i64 0]:=by
 unfold wrV;rw[if_pos (zsp _ (by omega) (by omega)),if_neg (by omega),Int.toNat_natCast]
theorem zt2 (k b:Ba) (t:List UInt8) (h0:64<=b.size) (h1:b.size<=8192) (h:zgK (zb4 k.data.toList b.data.toList)=some t):uwV k b=#[.string ⟨t.toArray⟩,.int .i64 0]:=by
 unfold uwV;rw[if_pos (zsp _ (by omega) (by omega)),h]
theorem zt3 (k b:Ba) (h0:64<=b.size) (h1:b.size<=8192) (h:zgK (zb4 k.data.toList b.data.toList)=none):uwV k b=#[.string ⟨#[]⟩,.int .i64 90]:=by
 unfold uwV;rw[if_pos (zsp _ (by omega) (by omega)),h]
def zvO:Prop:=∀(k b:Ba) (w:Wo),Hid (k.size+64<=140737488355328)->Hid (b.size<=140737488355328)->Hid (Kh w) ->
  Cl 187 #[.string k,.string b] w fun e w'=>e = .returned (.tuple (shV k b))/\Bw w w'
def zw6:Prop:=∀(k b:Ba) (w:Wo),Hid (k.size+64<=140737488355328)->Hid (b.size<=140737488355328)->Hid (Kh w) ->
  Cl 243 #[.string k,.string b] w fun e w'=>e = .returned (.tuple (opV k b))/\Bw w w'
def zvP:Prop:=∀(k t:Ba) (n:Int) (w:Wo),Hid (k.size+64<=140737488355328)->Hid (t.size<=140737488355328)->Hid (Kh w) ->
  Cl 186 #[.string k,.string t,.int .i64 n] w fun e w'=>e = .returned (.tuple (wrV k t n))/\Bw w w'
def zuU:Prop:=∀(k b:Ba) (w:Wo),Hid (k.size+64<=140737488355328)->Hid (b.size<=140737488355328)->Hid (Kh w) ->
  Cl 244 #[.string k,.string b] w fun e w'=>e = .returned (.tuple (uwV k b))/\Bw w w'
theorem ztq (a b:Ba) (hs:a.size<=140737488355328) (hab:a.size<=b.size) (w:Wo) :
  Cl 353 #[.string a,.string b] w fun e w'=>e = .returned (.string ⟨(za0 a.data.toList b.data.toList).toArray⟩)/\Below w.heap.size w w':=by
 obtain⟨cap,A,CA,BA,bA,hcap,CB,sA⟩:=ztp a hs w;have IA:Hid (BytesAt A w.heap.size (zsE a.data.toList b.data.toList 0)/\Below w.heap.size w A):=by
  rw[ztn];exact⟨BA,bA⟩
 have HL:Hid (a.data.toList.length<=b.data.toList.length/\a.data.toList.length=a.size):=⟨by simpa using hab,by simp⟩;clear BA bA sA;go_enter Tryz.func353, Tryz.ntmps353;go_wp2;obtain⟨g,hg⟩:∃g,w.heap.size=g:=⟨_,rfl⟩;rw[hg] at IA CA ⊢;have HG:Hid (w.heap.size=g):=hg;clear hg;go_loopw [11] (fun iv wr=>∃q:Nat,q<=a.size/\iv = .int .i64 (q:Int)/\Hid (BytesAt wr g (zsE a.data.toList b.data.toList q)/\Below g w wr)) (fun iv _=>a.size - (intOf iv).toNat)
 case atStart=>exact⟨0,Nat.zero_le _,rfl,IA.out⟩
 case round =>
  obtain⟨q,hq,rfl,I⟩:=hrel;clear IA CA;by_cases hlt:q < a.size
  ·have g1:(q:Int) < (a.size:Int):=by omega
   have g2:(q:Int) < (b.size:Int):=by omega
   have g3:q < b.size:=by omega
   have g4:q < cap:=by omega
   have oT:q < a.data.toList.length:=by rw[HL.out.2];exact hlt
   have lT:=ztd a.data.toList b.data.toList q HL.out.1 (by omega);obtain⟨cx,fx⟩:=I.out.1 q (by rw[lT];exact oT);have ex:(zsE a.data.toList b.data.toList q)[q]'(by rw[lT];exact oT)=a.data.toList[q]:=by
    have:=zte a.data.toList b.data.toList q HL.out.1 oT;rw[List.getElem?_eq_getElem (by rw[lT];exact oT)] at this;exact Option.some.inj this
   rw[ex] at cx;have MS:Hid (_=_):=zsZ a.data.toList b.data.toList q HL.out.1 oT b[q] (by rw[List.getElem?_eq_getElem (by simpa using g3)];rfl);clear ex;generalize a.data.toList[q]=x at *;obtain⟨y,hy⟩:∃y,b[q]=y:=⟨_,rfl⟩;rw[hy] at MS;clear lT oT;have XY:=zwo x y;have NX:Hid (BytesAt ((wr.setCell ⟨g,q,none⟩ (.int .u8 ((x.toNat ^^^ y.toNat:Nat):Int))).drew) g (zsE a.data.toList b.data.toList (q+1))/\Below g w ((wr.setCell ⟨g,q,none⟩ (.int .u8 ((x.toNat ^^^ y.toNat:Nat):Int))).drew)):=by
    obtain⟨h2,h4⟩:=I.out;rw[<-MS.out];exact⟨h2.set q (x ^^^ y) _ (by rw[UInt8.toNat_xor]),(h4.setCell (p:=⟨g,q,none⟩) (nL _) _).drew⟩
   clear MS I;go_wp2;go_region
   all_goals
    go_wp2;go_roundw
    case rel=>exact⟨q+1,by omega,by go_num,NX.out⟩
    case measure=>simp[intOf];omega
  ·obtain rfl:q=a.size:=by omega
   have g1:¬(a.size:Int) < (a.size:Int):=by omega
   have CV:(convert 99 9 (.slice (some ⟨g,0,none⟩) a.size cap)).run Tryz.prog wr = .ok (.string ⟨(za0 a.data.toList b.data.toList).toArray⟩) wr:=by
    have h:=I.out.1;rw[<-HL.out.2,ztX _ _ HL.out.1] at h;exact h.string (by rw[zaQ _ _ HL.out.1];exact HL.out.2)
   have BF:Hid (Below g w wr):=I.out.2;clear I;obtain⟨R,hR⟩:∃R:Ba,⟨(za0 a.data.toList b.data.toList).toArray⟩=R:=⟨_,rfl⟩;rw[hR] at CV;have HR:Hid (_=_):=hR;clear hR;go_wp2;go_ret;exact⟨by rw[HR.out];rfl,by have h:=BF.out;rw[<-HG.out] at h;exact h⟩
theorem zuV (s:Ba) (hs:s.size<=140737488355328) (w:Wo) :
  Cl 305 #[.string s] w fun e w'=>e = .returned (.bool (s.data.toList.all (· == 0)))/\w'=w:=by
 have F:Hid (s.data.toList.all (· == 0)=decide (unl s.data.toList [] s.size=0)):=by
  show _=_;have h1:s.data.toList.length=s.size:=by simp
  have h:=zvN s.data.toList;rw[h1] at h;have u:=ztV s.data.toList [] s.size;by_cases q:unl s.data.toList [] s.size=0
  ·rw[decide_eq_true q]
   exact h.2 fun j hj=>by simpa using (u.1 q) j hj
  ·rw[decide_eq_false q,Bool.eq_false_iff]
   exact fun z=>q (u.2 fun j hj=>by simpa using h.1 z j hj)
 rw[F.out];clear F;go_enter Tryz.func305, Tryz.ntmps305;go_wp2;go_loopw [3,7] (fun av iv wr=>∃k:Nat,k<=s.size/\iv = .int .i64 (k:Int)/\av = .int .u8 ((unl s.data.toList [] k).toNat:Int)/\Hid (wr=w)) (fun _ iv _=>s.size - (intOf iv).toNat)
 case atStart=>exact⟨0,Nat.zero_le _,rfl,rfl,rfl⟩
 case round =>
  obtain⟨k,hk,rfl,rfl,I⟩:=hrel;by_cases hlt:k < s.size
  ·have g1:(k:Int) < (s.size:Int):=by omega
   have UN:Hid (unl s.data.toList [] (k+1)=unl s.data.toList [] k ||| s[k]):=by
    show unl s.data.toList [] k ||| (s.data.toList.getD k 0 ^^^ ([]:List UInt8).getD k 0)=_;rw[List.getD_eq_getElem?_getD,List.getElem?_eq_getElem (by simpa using hlt)];simp;rfl
   generalize unl s.data.toList [] k=u at *;obtain⟨c,hc⟩:∃c,s[k]=c:=⟨_,rfl⟩;rw[hc] at UN;have gk:(k:Int) < 140737488355328:=by omega
   go_wp2;go_roundw
   case rel=>exact⟨k+1,by omega,by go_num,by rw[UN.out,<-zxu],I.out⟩
   case measure=>simp[intOf];omega
  ·obtain rfl:k=s.size:=by omega
   have g1:¬(s.size:Int) < (s.size:Int):=by omega
   have E:Hid ((((unl s.data.toList [] s.size).toNat:Int) == 0)=decide (unl s.data.toList [] s.size=0)):=by
    generalize unl s.data.toList [] s.size=u;show _=_
    by_cases q:u=0
    ·subst q;rfl
    ·rw[decide_eq_false q,beq_eq_false_iff_ne]
     intro z;exact q (UInt8.toNat_inj.1 (by simpa using z))
   go_wp2;go_ret;exact⟨by rw[E.out];rfl,I.out⟩
def HAt (w:Wo) (g:Nat) (k0 k1 k2 k3 l r:Ba):Prop :=
 (∀o,w.frozen? ⟨g,o,none⟩=false)/\w.cell? ⟨g,0,none⟩=some (.string k0)/\w.cell? ⟨g,1,none⟩=some (.string k1)/\w.cell? ⟨g,2,none⟩=some (.string k2)/\w.cell? ⟨g,3,none⟩=some (.string k3)/\w.cell? ⟨g,4,none⟩=some (.string l)/\w.cell? ⟨g,5,none⟩=some (.string r)
theorem HAt.later {w w':Wo} {g:Nat} {k0 k1 k2 k3 l r:Ba} (h:HAt w g k0 k1 k2 k3 l r) (hb:Bw w w'):HAt w' g k0 k1 k2 k3 l r:=by
 obtain⟨f,h0,h1,h2,h3,h4,h5⟩:=h;exact⟨fun o=>(zae hb (World.block_lt_of_cell? _ _ h0)).trans (f o),cell_later hb h0,cell_later hb h1,cell_later hb h2,cell_later hb h3,cell_later hb h4,cell_later hb h5⟩
theorem HAt.setR {w:Wo} {g:Nat} {k0 k1 k2 k3 l r:Ba} (h:HAt w g k0 k1 k2 k3 l r) (x:Ba):HAt (w.setCell ⟨g,5,none⟩ (.string x)) g k0 k1 k2 k3 l x:=by
 obtain⟨f,h0,h1,h2,h3,h4,h5⟩:=h;refine⟨fun o=>by simp[go_sem,f],?_,?_,?_,?_,?_,?_⟩ <;> simp[go_sem,h0,h1,h2,h3,h4,h5]
theorem HAt.setL {w:Wo} {g:Nat} {k0 k1 k2 k3 l r:Ba} (h:HAt w g k0 k1 k2 k3 l r) (x:Ba):HAt (w.setCell ⟨g,4,none⟩ (.string x)) g k0 k1 k2 k3 x r:=by
 obtain⟨f,h0,h1,h2,h3,h4,h5⟩:=h;refine⟨fun o=>by simp[go_sem,f],?_,?_,?_,?_,?_,?_⟩ <;> simp[go_sem,h0,h1,h2,h3,h4,h5]
theorem HAt.drew {w:Wo} {g:Nat} {k0 k1 k2 k3 l r:Ba} (h:HAt w g k0 k1 k2 k3 l r):HAt w.drew g k0 k1 k2 k3 l r:=h
theorem HAt.lt {w:Wo} {g:Nat} {k0 k1 k2 k3 l r:Ba} (h:HAt w g k0 k1 k2 k3 l r):g < w.heap.size:=World.block_lt_of_cell? _ _ h.2.1
theorem zsL (g:Nat) (k0 k1 k2 k3 L R k:Ba) (hk:Hid (k.size=32)) (hL:Hid (L.size=32)) (hR:Hid (R.size<=8192)) (w:Wo) (hH:Hid (HAt w g k0 k1 k2 k3 L R)) :
  Cl 318 #[.pointer (some ⟨g,0,none⟩),.string k] w fun e w'=>e = .returned (.tuple #[])/\HAt w' g k0 k1 k2 k3 L ⟨(stR k.data.toList L.data.toList R.data.toList).toArray⟩/\Below g w w':=by
 obtain⟨X,hX⟩:∃X:Ba,⟨(za0 L.data.toList k.data.toList).toArray⟩=X:=⟨_,rfl⟩;have sX:X.size=32:=by rw[<-hX,zko,zaQ _ _ (by rw[zcg,zcg,hL.out,hk.out];exact nL _),zcg,hL.out]
 obtain⟨Z,hZ⟩:∃Z:Ba,⟨#[0,0,0,0,0,0,0,0,0,0,0,0]⟩=Z:=⟨_,rfl⟩;obtain⟨Y,hY⟩:∃Y:Ba,⟨(stR k.data.toList L.data.toList R.data.toList).toArray⟩=Y:=⟨_,rfl⟩;have XO:Hid (∀w,Cl 353 #[.string L,.string k] w fun e w'=>e = .returned (.string X)/\Bw w w'):=fun w=>by
  rw[<-hX];exact ztq L k (by rw[hL.out];decide) (by rw[hL.out,hk.out];exact nL _) w
 have RE:Hid (∀w,Cl 258 #[.string ⟨#[0]⟩,.int .i64 12] w fun e w'=>e = .returned (.string Z)/\Bw w w'):=fun w=>by
  rw[<-hZ];exact zxr w
 have SX:Hid (∀w,Cl 259 #[.string X,.string Z,.int .i64 0,.string R] w fun e w'=>e = .returned (.tuple #[.string Y,.int .i64 0])/\Bw w w'):=fun w=>by
  have h:=zuK X Z 0 R (by show X.size=32;exact sX) (by rw[<-hZ];exact rfl) (by have:=hR.out;omega) w;have e:(⟨(za0 R.data.toList (zqb X.data.toList Z.data.toList 0 R.size)).toArray⟩:Ba)=Y:=by
   rw[<-hY,<-hX,<-hZ];unfold stR;rw[zcg];rfl
  rw[e] at h;exact h
 rw[hY];clear hX hZ hY sX;obtain⟨fz,-,-,-,-,c4,c5⟩:=hH.out;have f5:=fz 5;go_enter Tryz.func318, Tryz.ntmps318;go_wp2;go_region_with (first|(go_at_call 353;refine cM (XO.out _) ?_;rintro e w1 ⟨rfl,hb1⟩;have H1:Hid (HAt w1 g k0 k1 k2 k3 L R):=HAt.later (HAt.drew hH.out) hb1;have c51:=H1.out.2.2.2.2.2.2)|(go_at_call 258;refine cM (RE.out _) ?_;rintro e w2 ⟨rfl,hb2⟩;have H2:Hid (HAt w2 g k0 k1 k2 k3 L R):=HAt.later H1.out hb2;have c52:=H2.out.2.2.2.2.2.2)|(go_at_call 259;refine cM (SX.out _) ?_;rintro e w3 ⟨rfl,hb3⟩;have H3:Hid (HAt w3 g k0 k1 k2 k3 L R):=HAt.later H2.out hb3;have c53:=H3.out.2.2.2.2.2.2;have f53:=H3.out.1 5))
 all_goals
  exact bodyPost_end (results_none Tryz.results318 _ _ _) rfl ⟨rfl,H3.out.setR Y,((chain (chain (chain (bQ _ _).drew hb1) hb2) hb3).mono (Nat.le_of_lt hH.out.lt)).setCell (p:=⟨g,5,none⟩) (nL _) _⟩
theorem zsR (g:Nat) (k0 k1 k2 k3 L R k:Ba) (hk:Hid (k.size=32)) (hL:Hid (L.size=32)) (hR:Hid (R.size<=8192)) (w:Wo) (hH:Hid (HAt w g k0 k1 k2 k3 L R)) (hK:Hid (Kh w)) :
  Cl 319 #[.pointer (some ⟨g,0,none⟩),.string k] w fun e w'=>e = .returned (.tuple #[])/\HAt w' g k0 k1 k2 k3 ⟨(stL k.data.toList L.data.toList R.data.toList).toArray⟩ R/\Below g w w':=by
 obtain⟨T,hT⟩:∃T:Ba,⟨(zd2 k.data.toList R.data.toList).toArray⟩=T:=⟨_,rfl⟩;have sT:T.size=32:=by rw[<-hT,zko,zcb]
 obtain⟨Y,hY⟩:∃Y:Ba,⟨(stL k.data.toList L.data.toList R.data.toList).toArray⟩=Y:=⟨_,rfl⟩;have XO:Hid (∀w,Cl 353 #[.string L,.string T] w fun e w'=>e = .returned (.string Y)/\Below w.heap.size w w'):=fun w=>by
  have h:=ztq L T (by rw[hL.out];decide) (by rw[hL.out,sT];exact nL _) w;have e:(⟨(za0 L.data.toList T.data.toList).toArray⟩:Ba)=Y:=by rw[<-hY,<-hT];rfl
  rw[e] at h;exact h
 have TG:Hid (∀(B:Nat) (w:Wo),Kh w->w.cell? ⟨B,0,none⟩=some (.string R)->Cl 101 #[.string k,.slice (some ⟨B,0,none⟩) 1 1] w fun e w'=>e = .returned (.string T)/\Below w.heap.size w w'):=fun B w h h0=>by
  have q:=zqD k (some ⟨B,0,none⟩) [R] 1 1 w rfl (by show (1:Nat)*16+1024<=_;decide) (by rw[hk.out];show (32:Nat)<=_;decide) (fun s hs=>by
   simp at hs;subst hs;have:=hR.out;omega) h (zhM h0)
  rw[zmG,hT] at q;exact q
 rw[hY];clear hT hY sT;obtain⟨fz,-,-,-,-,c4,c5⟩:=hH.out;have gl:=hH.out.lt;have gn:¬g=w.heap.size:=by omega
 have gn2:¬w.heap.size=g:=by omega
 go_enter Tryz.func319, Tryz.ntmps319;go_wp2;go_region_with (first|(go_at_call 101;refine cM (TG.out w.heap.size _ (Kh.later hK.out ((bQ _ _).drew.alloc (nL _) _)) ?_) ?_;(focus simp[go_sem]);rintro e w1 ⟨rfl,hb1⟩;have H1:Hid (HAt w1 g k0 k1 k2 k3 L R):=HAt.later (HAt.later (HAt.drew hH.out) ((bQ _ _).alloc (nL _) _)) hb1;have c41:=H1.out.2.2.2.2.2.1)|(go_at_call 353;refine cM (XO.out _) ?_;rintro e w2 ⟨rfl,hb2⟩;have H2:Hid (HAt w2 g k0 k1 k2 k3 L R):=HAt.later H1.out hb2;have c42:=H2.out.2.2.2.2.2.1;have f42:=H2.out.1 4))
 all_goals
  exact bodyPost_end (results_none Tryz.results319 _ _ _) rfl ⟨rfl,H2.out.setL Y,((chain (chain ((bQ _ _).drew.alloc (nL _) _) hb1) hb2).mono (Nat.le_of_lt hH.out.lt)).setCell (p:=⟨g,4,none⟩) (nL _) _⟩
theorem At4.range {w:Wo} {b:Nat} {x0 x1 x2 x3:Value} (h:At4 w b x0 x1 x2 x3):w.rangeAt b 0 [x0,x1,x2,x3]:=by
 obtain⟨-,h0,h1,h2,h3⟩:=h;intro j v hv;rcases (by have:=(List.getElem?_eq_some_iff.1 hv).1;simp at this;omega:j=0\/j=1\/j=2\/j=3) with rfl|rfl|rfl|rfl
 ·simp at hv;subst hv;simpa using h0
 ·simp at hv;subst hv;simpa using h1
 ·simp at hv;subst hv;simpa using h2
 ·simp at hv;subst hv;simpa using h3
theorem zvQ (tmps:Array Value) (w:Wo) (b:Nat) (x:Array Value) (h0:tmps.getD 2 undef = .pointer (some ⟨b,0,none⟩))
  (l1:(loadVar 322 ⟨b,0,none⟩).run Tryz.prog w = .ok (.agg x) w) :
  (results Tryz.f317 tmps).run Tryz.prog w = .ok (.agg x) w:=by
 unfold results;rw[Tryz.results317];have h0':tmps[2]?.getD undef = .pointer (some ⟨b,0,none⟩):=by simpa using h0
 simp[h0',l1,asAddr]
def wks (key:Ba) (i:Nat):Ba:=⟨(zqE key.data.toList i).toArray⟩
theorem ztM (key:Ba) (hk:Hid (key.size+64<=140737488355328)) (w:Wo) (hK:Hid (Kh w)) :
  Cl 317 #[.string key] w fun e w'=>e = .returned (.agg #[.string (wks key 0),.string (wks key 1),.string (wks key 2),.string (wks key 3)])/\Bw w w':=by
 obtain⟨A,hA⟩:∃A:Ba,⟨(drv key.data.toList lab 128).toArray⟩=A:=⟨_,rfl⟩;have DV:Hid (∀w,Kh w->Cl 29 #[.string key,.string ⟨#[119,105,100,101]⟩,.int .i64 128] w fun e w'=>e = .returned (.tuple #[.string A,.int .i64 0])/\Bw w w'):=fun w h=>by
  have:=zfQ key ⟨#[119,105,100,101]⟩ 128 w hk (by show (4:Nat)+97<=_;decide) h;unfold drV at this;rw[if_neg (by decide)] at this;rw[<-hA];exact this
 have sA:A.size=128:=by rw[<-hA,zko];unfold drv;rw[zbs]
 have AK:Hid (wks key 0=A.extract 0 32/\wks key 1=A.extract 32 64/\wks key 2=A.extract 64 96/\wks key 3=A.extract 96 128):=by
  have h:∀i,wks key i=A.extract (32*i) (32*i+32):=fun i=>by
   have e:(A.extract (32*i) (32*i+32)).data.toList=zqE key.data.toList i:=by
    rw[<-hA,zoU];unfold zqE;rw[show 32*i+32 - 32*i=32 by omega]
   unfold wks;rw[<-e]
  exact⟨h 0,h 1,h 2,h 3⟩
 have sAi:(A.size:Int)=128:=by omega
 clear hA;rw[AK.out.1,AK.out.2.1,AK.out.2.2.1,AK.out.2.2.2];go_enter Tryz.func317, Tryz.ntmps317;go_wp2_with fail;refine cM (DV.out _ (hK.out.alloc _)) ?_;rintro e w1 ⟨rfl,hb1⟩;obtain⟨W2,hW2⟩:∃W2,w1.alloc (.cells #[.string A] 9)=W2:=⟨_,rfl⟩;have J:Hid (At4 W2 w.heap.size (.string ⟨#[]⟩) (.string ⟨#[]⟩) (.string ⟨#[]⟩) (.string ⟨#[]⟩)/\Bw w W2/\W2.cell? ⟨w1.heap.size,0,none⟩=some (.string A)):=by
  have h0:At4 (w.alloc (.cells #[.string ⟨#[]⟩,.string ⟨#[]⟩,.string ⟨#[]⟩,.string ⟨#[]⟩] 322)) w.heap.size (.string ⟨#[]⟩) (.string ⟨#[]⟩) (.string ⟨#[]⟩) (.string ⟨#[]⟩):=⟨fun o=>by simp[go_sem],by simp[go_sem],by simp[go_sem],by simp[go_sem],by simp[go_sem]⟩;rw[<-hW2];exact⟨(h0.later hb1).later ((bQ _ _).alloc (nL _) _),(chain ((bQ _ _).alloc (nL _) _) hb1).alloc (by have:=hb1.size;simp at this;omega) _,by simp[go_sem]⟩
 obtain⟨fz,c0,c1,c2,c3⟩:=J.out.1;have ca:=J.out.2.2;have f0:=fz 0;have f1:=fz 1;have f2:=fz 2;have f3:=fz 3;have AF:Hid (∀x0 x1 x2 x3,At4 ((((W2.setCell ⟨w.heap.size,0,none⟩ x0).setCell ⟨w.heap.size,1,none⟩ x1).setCell ⟨w.heap.size,2,none⟩ x2).setCell ⟨w.heap.size,3,none⟩ x3) w.heap.size x0 x1 x2 x3):=fun x0 x1 x2 x3=>At4.whole J.out.1 x0 x1 x2 x3
 have NF:Hid (∀x0 x1 x2 x3,Bw w ((((W2.setCell ⟨w.heap.size,0,none⟩ x0).setCell ⟨w.heap.size,1,none⟩ x1).setCell ⟨w.heap.size,2,none⟩ x2).setCell ⟨w.heap.size,3,none⟩ x3)):=fun x0 x1 x2 x3=>zaI J.out.2.1 (nL _) x0 x1 x2 x3
 clear hb1 DV fz J;go_wp2;refine bodyPost_ret (v := .agg #[.string (A.extract 0 32),.string (A.extract 32 64),.string (A.extract 64 96),.string (A.extract 96 128)]) ?_ rfl ⟨rfl,NF.out _ _ _ _⟩;exact zvQ _ _ w.heap.size _ (by kernel_rfl) (run_loadVar_mid _ w.heap.size 0 322 [.string (A.extract 0 32),.string (A.extract 32 64),.string (A.extract 64 96),.string (A.extract 96 128)] _ (At4.range (AF.out _ _ _ _)) Tryz.underlying322 rfl (by kernel_rfl))
theorem zsn (key:Ba) (i:Nat) (h:i < 4):(wks key i).size=32:=by unfold wks;rw[zko,zvL _ _ h]
theorem zqd (key:Ba) (i:Nat):(wks key i).data.toList=zqE key.data.toList i:=rfl
theorem zsm (n:Int) (w:Wo) :
  Cl 260 #[.int .i64 n] w fun e w'=>e = .returned (.int .i64 (zso n))/\w'=w:=by
 by_cases h1:n < 64
 ·have E:Hid (zso n=3):=zuS n h1
  go_enter Tryz.func260, Tryz.ntmps260;go_wp2;go_ret;exact⟨by rw[E.out];rfl,rfl⟩
 ·have g1:64<=n:=by omega
  by_cases h2:8192 < n
  ·have E:Hid (zso n=2):=zuT n h2
   go_enter Tryz.func260, Tryz.ntmps260;go_wp2;go_ret;exact⟨by rw[E.out];rfl,rfl⟩
  ·have E:Hid (zso n=0):=zsp n g1 (by omega)
   go_enter Tryz.func260, Tryz.ntmps260;go_wp2;go_ret;exact⟨by rw[E.out];rfl,rfl⟩
theorem HAt.range {w:Wo} {b:Nat} {x0 x1 x2 x3 x4 x5:Ba} (h:HAt w b x0 x1 x2 x3 x4 x5):w.rangeAt b 0 [.string x0,.string x1,.string x2,.string x3,.string x4,.string x5]:=by
 obtain⟨-,h0,h1,h2,h3,h4,h5⟩:=h;intro j v hv;rcases (by have:=(List.getElem?_eq_some_iff.1 hv).1;simp at this;omega:j=0\/j=1\/j=2\/j=3\/j=4\/j=5) with rfl|rfl|rfl|rfl|rfl|rfl
 ·simp at hv;subst hv;simpa using h0
 ·simp at hv;subst hv;simpa using h1
 ·simp at hv;subst hv;simpa using h2
 ·simp at hv;subst hv;simpa using h3
 ·simp at hv;subst hv;simpa using h4
 ·simp at hv;subst hv;simpa using h5
theorem HAt.whole {w:Wo} {b:Nat} {x0 x1 x2 x3 x4 x5:Ba} (h:HAt w b x0 x1 x2 x3 x4 x5) (y0 y1 y2 y3 y4 y5:Ba) :
  HAt ((((((w.setCell ⟨b,0,none⟩ (.string y0)).setCell ⟨b,1,none⟩ (.string y1)).setCell ⟨b,2,none⟩ (.string y2)).setCell ⟨b,3,none⟩ (.string y3)).setCell ⟨b,4,none⟩ (.string y4)).setCell ⟨b,5,none⟩ (.string y5)) b y0 y1 y2 y3 y4 y5:=by
 obtain⟨f,h0,h1,h2,h3,h4,h5⟩:=h;refine⟨fun o=>by simp[go_sem,f],?_,?_,?_,?_,?_,?_⟩ <;> simp[go_sem,h0,h1,h2,h3,h4,h5]
theorem HAt.new (w:Wo) (t:TypeId) (y0 y1 y2 y3 y4 y5:Ba):HAt (w.alloc (.cells #[.string y0,.string y1,.string y2,.string y3,.string y4,.string y5] t)) w.heap.size y0 y1 y2 y3 y4 y5 :=
 ⟨fun o=>by simp[go_sem],by simp[go_sem],by simp[go_sem],by simp[go_sem],by simp[go_sem],by simp[go_sem],by simp[go_sem]⟩
theorem zui {B:Nat} {a w:Wo} (h:Below B a w) {c:Nat} (hc:B<=c) (y0 y1 y2 y3 y4 y5:Value) :
  Below B a ((((((w.setCell ⟨c,0,none⟩ y0).setCell ⟨c,1,none⟩ y1).setCell ⟨c,2,none⟩ y2).setCell ⟨c,3,none⟩ y3).setCell ⟨c,4,none⟩ y4).setCell ⟨c,5,none⟩ y5) :=
 (((((h.setCell (p:=⟨c,0,none⟩) hc _).setCell (p:=⟨c,1,none⟩) hc _).setCell (p:=⟨c,2,none⟩) hc _).setCell (p:=⟨c,3,none⟩) hc _).setCell (p:=⟨c,4,none⟩) hc _).setCell (p:=⟨c,5,none⟩) hc _
theorem zuj (tmps:Array Value) (w:Wo) (b:Nat) (x:Array Value) (h0:tmps.getD 4 undef = .pointer (some ⟨b,0,none⟩))
  (l1:(loadVar 324 ⟨b,0,none⟩).run Tryz.prog w = .ok (.agg x) w) :
  (results Tryz.f261 tmps).run Tryz.prog w = .ok (.agg x) w:=by
 unfold results;rw[Tryz.results261];have h0':tmps[4]?.getD undef = .pointer (some ⟨b,0,none⟩):=by simpa using h0
 simp[h0',l1,asAddr]
theorem zs8 (key block:Ba) (hk:Hid (key.size+64<=140737488355328)) (hb:64<=block.size) (hb2:block.size<=8192) (w:Wo) (hK:Hid (Kh w)) :
  Cl 261 #[.string key,.string block] w fun e w'=>e = .returned (.agg #[.string (wks key 0),.string (wks key 1),.string (wks key 2),.string (wks key 3),.string (block.extract 0 32),.string (block.extract 32 block.size)])/\Bw w w':=by
 have DV:Hid (∀w,Kh w->Cl 317 #[.string key] w fun e w'=>e = .returned (.agg #[.string (wks key 0),.string (wks key 1),.string (wks key 2),.string (wks key 3)])/\Bw w w'):=fun w h=>ztM key hk w h
 generalize wks key 0=k0 at *;generalize wks key 1=k1 at *;generalize wks key 2=k2 at *;generalize wks key 3=k3 at *;have g1:(32:Int)<=(block.size:Int):=by omega
 have g2:(block.size:Int)<=8192:=by omega
 go_enter Tryz.func261, Tryz.ntmps261;go_wp2;obtain⟨A,hA⟩:∃A,w.alloc (.cells #[.string ⟨#[]⟩,.string ⟨#[]⟩,.string ⟨#[]⟩,.string ⟨#[]⟩,.string ⟨#[]⟩,.string ⟨#[]⟩] 324)=A:=⟨_,rfl⟩;rw[hA];have I:Hid (HAt A w.heap.size ⟨#[]⟩ ⟨#[]⟩ ⟨#[]⟩ ⟨#[]⟩ ⟨#[]⟩ ⟨#[]⟩/\Bw w A/\Kh A):=by
  rw[<-hA];exact⟨HAt.new _ _ _ _ _ _ _ _,(bQ _ _).alloc (nL _) _,hK.out.alloc _⟩
 clear hA;go_region_with (first|(go_at_call 317;refine cM (DV.out _ I.out.2.2) ?_;rintro e w1 ⟨rfl,hb1⟩;have H1:Hid (HAt w1 w.heap.size ⟨#[]⟩ ⟨#[]⟩ ⟨#[]⟩ ⟨#[]⟩ ⟨#[]⟩ ⟨#[]⟩):=HAt.later (HAt.drew I.out.1) hb1;obtain⟨fz,c0,c1,c2,c3,c4,c5⟩:=H1.out;have f0:=fz 0;have f1:=fz 1;have f2:=fz 2;have f3:=fz 3;have f4:=fz 4;have f5:=fz 5;clear fz));have FF:Hid (_/\_):=And.intro (HAt.whole H1.out k0 k1 k2 k3 (block.extract 0 32) (block.extract 32 block.size)) (zui (chain (chain I.out.2.1 (bQ _ _).drew) hb1) (nL w.heap.size) (.string k0) (.string k1) (.string k2) (.string k3) (.string (block.extract 0 32)) (.string (block.extract 32 block.size)));clear H1 c0 c1 c2 c3 c4 c5 f0 f1 f2 f3 f4 f5;go_wp2;refine bodyPost_ret (v := .agg #[.string k0,.string k1,.string k2,.string k3,.string (block.extract 0 32),.string (block.extract 32 block.size)]) ?_ rfl ⟨rfl,FF.out.2⟩;exact zuj _ _ w.heap.size _ (by kernel_rfl) (run_loadVar_mid _ w.heap.size 0 324 [.string k0,.string k1,.string k2,.string k3,.string (block.extract 0 32),.string (block.extract 32 block.size)] _ (HAt.range FF.out.1) Tryz.underlying324 rfl (by kernel_rfl))
theorem Kh.above {w w':Wo} {g:Nat} (h:Kh w) (hg : 0 < g) (hb:Below g w w'):Kh w':=⟨Nat.lt_of_lt_of_le h.1 hb.size,h.2.later hb hg⟩
def sR (k l r:Ba):Ba:=⟨(stR k.data.toList l.data.toList r.data.toList).toArray⟩
def sL (k l r:Ba):Ba:=⟨(stL k.data.toList l.data.toList r.data.toList).toArray⟩
theorem zsA (k l r:Ba):(sR k l r).size=r.size:=by unfold sR;rw[zko,zmI,zcg]
theorem zsB (k l r:Ba) (h:l.size=32):(sL k l r).size=32:=by unfold sL;rw[zko,zmJ _ _ _ (by rw[zcg];exact h)]
theorem zuW (g:Nat) (k0 k1 k2 k3 L R:Ba) (hs:Hid (k0.size=32/\k1.size=32/\k2.size=32/\k3.size=32)) (hL:Hid (L.size=32)) (hR:Hid (R.size<=8192)) (w:Wo) (hH:Hid (HAt w g k0 k1 k2 k3 L R)) (hK:Hid (Kh w)) (hg:Hid (0 < g)) :
  Cl 262 #[.pointer (some ⟨g,0,none⟩)] w fun e w'=>e = .returned (.tuple #[])/\HAt w' g k0 k1 k2 k3 (sL k3 (sL k1 L (sR k0 L R)) (sR k2 (sL k1 L (sR k0 L R)) (sR k0 L R))) (sR k2 (sL k1 L (sR k0 L R)) (sR k0 L R))/\Below g w w':=by
 have S0:Hid (HAt w g k0 k1 k2 k3 L R/\Kh w/\Below g w w/\L.size=32/\R.size<=8192):=⟨hH.out,hK.out,bQ _ _,hL.out,hR.out⟩;have TR:Hid (∀(L R k:Ba) (w:Wo),k.size=32->L.size=32->R.size<=8192->HAt w g k0 k1 k2 k3 L R->Cl 318 #[.pointer (some ⟨g,0,none⟩),.string k] w fun e w'=>e = .returned (.tuple #[])/\HAt w' g k0 k1 k2 k3 L (sR k L R)/\Below g w w'):=fun L R k w h1 h2 h3 h4=>zsL g k0 k1 k2 k3 L R k h1 h2 h3 w h4
 have TL:Hid (∀(L R k:Ba) (w:Wo),k.size=32->L.size=32->R.size<=8192->HAt w g k0 k1 k2 k3 L R->Kh w->Cl 319 #[.pointer (some ⟨g,0,none⟩),.string k] w fun e w'=>e = .returned (.tuple #[])/\HAt w' g k0 k1 k2 k3 (sL k L R) R/\Below g w w'):=fun L R k w h1 h2 h3 h4 h5=>zsR g k0 k1 k2 k3 L R k h1 h2 h3 w h4 h5
 clear hH hK hL hR;have q0:=S0.out.1.2.1;go_enter Tryz.func262, Tryz.ntmps262;go_wp2_with fail;refine cM (TR.out L R k0 _ hs.out.1 S0.out.2.2.2.1 S0.out.2.2.2.2 S0.out.1) ?_;rintro e w1 ⟨rfl,h1,b1⟩;have S1:Hid (HAt w1 g k0 k1 k2 k3 L (sR k0 L R)/\Kh w1/\Below g w w1/\ByteArray.size L=32/\ByteArray.size (sR k0 L R)<=8192):=⟨h1,S0.out.2.1.above hg.out b1,S0.out.2.2.1.trans b1,S0.out.2.2.2.1,by rw[zsA];exact S0.out.2.2.2.2⟩;clear h1 b1 S0 q0;have q1:=S1.out.1.2.2.1;go_wp2_with fail;refine cM (TL.out L (sR k0 L R) k1 _ hs.out.2.1 S1.out.2.2.2.1 S1.out.2.2.2.2 S1.out.1 S1.out.2.1) ?_;rintro e w2 ⟨rfl,h2,b2⟩;have S2:Hid (HAt w2 g k0 k1 k2 k3 (sL k1 L (sR k0 L R)) (sR k0 L R)/\Kh w2/\Below g w w2/\ByteArray.size (sL k1 L (sR k0 L R))=32/\ByteArray.size (sR k0 L R)<=8192):=⟨h2,S1.out.2.1.above hg.out b2,S1.out.2.2.1.trans b2,zsB _ _ _ S1.out.2.2.2.1,S1.out.2.2.2.2⟩;clear h2 b2 S1 q1;have q2:=S2.out.1.2.2.2.1;go_wp2_with fail;refine cM (TR.out (sL k1 L (sR k0 L R)) (sR k0 L R) k2 _ hs.out.2.2.1 S2.out.2.2.2.1 S2.out.2.2.2.2 S2.out.1) ?_;rintro e w3 ⟨rfl,h3,b3⟩;have S3:Hid (HAt w3 g k0 k1 k2 k3 (sL k1 L (sR k0 L R)) (sR k2 (sL k1 L (sR k0 L R)) (sR k0 L R))/\Kh w3/\Below g w w3/\ByteArray.size (sL k1 L (sR k0 L R))=32/\ByteArray.size (sR k2 (sL k1 L (sR k0 L R)) (sR k0 L R))<=8192):=⟨h3,S2.out.2.1.above hg.out b3,S2.out.2.2.1.trans b3,S2.out.2.2.2.1,by rw[zsA];exact S2.out.2.2.2.2⟩;clear h3 b3 S2 q2
 have q3:=S3.out.1.2.2.2.2.1;go_wp2_with fail;refine cM (TL.out (sL k1 L (sR k0 L R)) (sR k2 (sL k1 L (sR k0 L R)) (sR k0 L R)) k3 _ hs.out.2.2.2 S3.out.2.2.2.1 S3.out.2.2.2.2 S3.out.1 S3.out.2.1) ?_;rintro e w4 ⟨rfl,h4,b4⟩;have S4:Hid (HAt w4 g k0 k1 k2 k3 (sL k3 (sL k1 L (sR k0 L R)) (sR k2 (sL k1 L (sR k0 L R)) (sR k0 L R))) (sR k2 (sL k1 L (sR k0 L R)) (sR k0 L R))/\Kh w4/\Below g w w4/\ByteArray.size (sL k3 (sL k1 L (sR k0 L R)) (sR k2 (sL k1 L (sR k0 L R)) (sR k0 L R)))=32/\ByteArray.size (sR k2 (sL k1 L (sR k0 L R)) (sR k0 L R))<=8192):=⟨h4,S3.out.2.1.above hg.out b4,S3.out.2.2.1.trans b4,zsB _ _ _ S3.out.2.2.2.1,S3.out.2.2.2.2⟩;clear h4 b4 S3 q3;go_wp2;exact bodyPost_end (results_none Tryz.results262 _ _ _) rfl ⟨rfl,S4.out.1,S4.out.2.2.1⟩
theorem zuX (g:Nat) (k0 k1 k2 k3 L R:Ba) (hs:Hid (k0.size=32/\k1.size=32/\k2.size=32/\k3.size=32)) (hL:Hid (L.size=32)) (hR:Hid (R.size<=8192)) (w:Wo) (hH:Hid (HAt w g k0 k1 k2 k3 L R)) (hK:Hid (Kh w)) (hg:Hid (0 < g)) :
  Cl 304 #[.pointer (some ⟨g,0,none⟩)] w fun e w'=>e = .returned (.tuple #[])/\HAt w' g k0 k1 k2 k3 (sL k1 (sL k3 L R) (sR k2 (sL k3 L R) R)) (sR k0 (sL k1 (sL k3 L R) (sR k2 (sL k3 L R) R)) (sR k2 (sL k3 L R) R))/\Below g w w':=by
 have S0:Hid (HAt w g k0 k1 k2 k3 L R/\Kh w/\Below g w w/\L.size=32/\R.size<=8192):=⟨hH.out,hK.out,bQ _ _,hL.out,hR.out⟩;have TR:Hid (∀(L R k:Ba) (w:Wo),k.size=32->L.size=32->R.size<=8192->HAt w g k0 k1 k2 k3 L R->Cl 318 #[.pointer (some ⟨g,0,none⟩),.string k] w fun e w'=>e = .returned (.tuple #[])/\HAt w' g k0 k1 k2 k3 L (sR k L R)/\Below g w w'):=fun L R k w h1 h2 h3 h4=>zsL g k0 k1 k2 k3 L R k h1 h2 h3 w h4
 have TL:Hid (∀(L R k:Ba) (w:Wo),k.size=32->L.size=32->R.size<=8192->HAt w g k0 k1 k2 k3 L R->Kh w->Cl 319 #[.pointer (some ⟨g,0,none⟩),.string k] w fun e w'=>e = .returned (.tuple #[])/\HAt w' g k0 k1 k2 k3 (sL k L R) R/\Below g w w'):=fun L R k w h1 h2 h3 h4 h5=>zsR g k0 k1 k2 k3 L R k h1 h2 h3 w h4 h5
 clear hH hK hL hR;have q3:=S0.out.1.2.2.2.2.1;go_enter Tryz.func304, Tryz.ntmps304;go_wp2_with fail;refine cM (TL.out L R k3 _ hs.out.2.2.2 S0.out.2.2.2.1 S0.out.2.2.2.2 S0.out.1 S0.out.2.1) ?_;rintro e w1 ⟨rfl,h1,b1⟩;have S1:Hid (HAt w1 g k0 k1 k2 k3 (sL k3 L R) R/\Kh w1/\Below g w w1/\ByteArray.size (sL k3 L R)=32/\ByteArray.size R<=8192):=⟨h1,S0.out.2.1.above hg.out b1,S0.out.2.2.1.trans b1,zsB _ _ _ S0.out.2.2.2.1,S0.out.2.2.2.2⟩;clear h1 b1 S0 q3;have q2:=S1.out.1.2.2.2.1;go_wp2_with fail;refine cM (TR.out (sL k3 L R) R k2 _ hs.out.2.2.1 S1.out.2.2.2.1 S1.out.2.2.2.2 S1.out.1) ?_;rintro e w2 ⟨rfl,h2,b2⟩;have S2:Hid (HAt w2 g k0 k1 k2 k3 (sL k3 L R) (sR k2 (sL k3 L R) R)/\Kh w2/\Below g w w2/\ByteArray.size (sL k3 L R)=32/\ByteArray.size (sR k2 (sL k3 L R) R)<=8192):=⟨h2,S1.out.2.1.above hg.out b2,S1.out.2.2.1.trans b2,S1.out.2.2.2.1,by rw[zsA];exact S1.out.2.2.2.2⟩;clear h2 b2 S1 q2;have q1:=S2.out.1.2.2.1;go_wp2_with fail;refine cM (TL.out (sL k3 L R) (sR k2 (sL k3 L R) R) k1 _ hs.out.2.1 S2.out.2.2.2.1 S2.out.2.2.2.2 S2.out.1 S2.out.2.1) ?_;rintro e w3 ⟨rfl,h3,b3⟩;have S3:Hid (HAt w3 g k0 k1 k2 k3 (sL k1 (sL k3 L R) (sR k2 (sL k3 L R) R)) (sR k2 (sL k3 L R) R)/\Kh w3/\Below g w w3/\ByteArray.size (sL k1 (sL k3 L R) (sR k2 (sL k3 L R) R))=32/\ByteArray.size (sR k2 (sL k3 L R) R)<=8192):=⟨h3,S2.out.2.1.above hg.out b3,S2.out.2.2.1.trans b3,zsB _ _ _ S2.out.2.2.2.1,S2.out.2.2.2.2⟩;clear h3 b3 S2 q1
 have q0:=S3.out.1.2.1;go_wp2_with fail;refine cM (TR.out (sL k1 (sL k3 L R) (sR k2 (sL k3 L R) R)) (sR k2 (sL k3 L R) R) k0 _ hs.out.1 S3.out.2.2.2.1 S3.out.2.2.2.2 S3.out.1) ?_;rintro e w4 ⟨rfl,h4,b4⟩;have S4:Hid (HAt w4 g k0 k1 k2 k3 (sL k1 (sL k3 L R) (sR k2 (sL k3 L R) R)) (sR k0 (sL k1 (sL k3 L R) (sR k2 (sL k3 L R) R)) (sR k2 (sL k3 L R) R))/\Kh w4/\Below g w w4/\ByteArray.size (sL k1 (sL k3 L R) (sR k2 (sL k3 L R) R))=32/\ByteArray.size (sR k0 (sL k1 (sL k3 L R) (sR k2 (sL k3 L R) R)) (sR k2 (sL k3 L R) R))<=8192):=⟨h4,S3.out.2.1.above hg.out b4,S3.out.2.2.1.trans b4,S3.out.2.2.2.1,by rw[zsA];exact S3.out.2.2.2.2⟩;clear h4 b4 S3 q0;go_wp2;exact bodyPost_end (results_none Tryz.results304 _ _ _) rfl ⟨rfl,S4.out.1,S4.out.2.2.1⟩
theorem whole_any (g:Nat) (k0 k1 k2 k3 L R:Ba) (hs:Hid (L.size+R.size<=140737488355328)) (w:Wo) (hH:Hid (HAt w g k0 k1 k2 k3 L R)) :
  Cl 263 #[.pointer (some ⟨g,0,none⟩)] w fun e w'=>e = .returned (.string (L++R))/\Bw w w':=by
 obtain⟨-,-,-,-,-,c4,c5⟩:=hH.out;have hsum:L.size+R.size<=140737488355328:=hs.out;go_enter Tryz.func263, Tryz.ntmps263;go_wp2;go_quiet (fail);go_wp2;go_ret
 trace_state
 exact⟨rfl,below_drewN (bQ _ _) _⟩
end Go.Proofs.YtjcppbhgjchjaaaGreatDoor
namespace Go.Proofs.Wd
theorem zvR (key l r:List UInt8):run key [0,1,2,3] (l,r)=(stL (zqE key 3) (stL (zqE key 1) l (stR (zqE key 0) l r)) (stR (zqE key 2) (stL (zqE key 1) l (stR (zqE key 0) l r)) (stR (zqE key 0) l r)),stR (zqE key 2) (stL (zqE key 1) l (stR (zqE key 0) l r)) (stR (zqE key 0) l r)):=by
 rw[zkn,zsS _ _ _ _ (by decide),zkn,zth _ _ _ _ (by decide),zkn,zsS _ _ _ _ (by decide),zkn,zth _ _ _ _ (by decide),zuR]
theorem zvS (key l r:List UInt8):run key [3,2,1,0] (l,r)=(stL (zqE key 1) (stL (zqE key 3) l r) (stR (zqE key 2) (stL (zqE key 3) l r) r),stR (zqE key 0) (stL (zqE key 1) (stL (zqE key 3) l r) (stR (zqE key 2) (stL (zqE key 3) l r) r)) (stR (zqE key 2) (stL (zqE key 3) l r) r)):=by
 rw[zkn,zth _ _ _ _ (by decide),zkn,zsS _ _ _ _ (by decide),zkn,zth _ _ _ _ (by decide),zkn,zsS _ _ _ _ (by decide),zuR]
end Go.Proofs.Wd
namespace Go.Proofs.YtjcppbhgjchjaaaGreatDoor
open Go.RowKit Go.Proofs.Fd Go.Proofs.Hs Go.Proofs.Cc Go.Proofs.Wd
theorem zuY (a b:List UInt8):(⟨a.toArray⟩:Ba)++⟨b.toArray⟩=⟨(a++b).toArray⟩:=by
 apply ByteArray.ext;simp
theorem zqV (k l r:Ba):(sR k l r).data.toList=stR k.data.toList l.data.toList r.data.toList:=rfl
theorem zqW (k l r:Ba):(sL k l r).data.toList=stL k.data.toList l.data.toList r.data.toList:=rfl
theorem zwe (k l r:Ba):sR k l r=⟨(stR k.data.toList l.data.toList r.data.toList).toArray⟩:=rfl
theorem zwf (k l r:Ba):sL k l r=⟨(stL k.data.toList l.data.toList r.data.toList).toArray⟩:=rfl
def bL (b:Ba):Ba:=b.extract 0 32
def bR (b:Ba):Ba:=b.extract 32 b.size
theorem ztN (b:Ba):(bL b).data.toList=b.data.toList.take 32:=by
 have e:b=⟨b.data.toList.toArray⟩:=ztL rfl;unfold bL;rw[e,zoU];simp
theorem ztO (b:Ba):(bR b).data.toList=b.data.toList.drop 32:=by
 have e:b=⟨b.data.toList.toArray⟩:=ztL rfl;unfold bR;rw[e,zoU,zko];show (b.data.toList.drop 32).take _=b.data.toList.drop 32
 rw[List.take_of_length_le (by rw[List.length_drop];exact nL _)]
theorem zuZ (b:Ba) (h:64<=b.size):(bL b).size=32:=by rw[<-zcg,ztN,List.length_take,zcg];omega
theorem zu0 (b:Ba):(bR b).size=b.size - 32:=by rw[<-zcg,ztO,List.length_drop,zcg]
theorem zwA (key b:Ba):sL (wks key 3) (sL (wks key 1) (bL b) (sR (wks key 0) (bL b) (bR b))) (sR (wks key 2) (sL (wks key 1) (bL b) (sR (wks key 0) (bL b) (bR b))) (sR (wks key 0) (bL b) (bR b)))++sR (wks key 2) (sL (wks key 1) (bL b) (sR (wks key 0) (bL b) (bR b))) (sR (wks key 0) (bL b) (bR b))=⟨(zmM key.data.toList b.data.toList).toArray⟩:=by
 rw[zwf (wks key 3),zwe (wks key 2),zuY];simp only[zqV,zqW,zqd,ztN,ztO];unfold zmM zqc;rw[zvR]
theorem zwB (key b:Ba):sL (wks key 1) (sL (wks key 3) (bL b) (bR b)) (sR (wks key 2) (sL (wks key 3) (bL b) (bR b)) (bR b))++sR (wks key 0) (sL (wks key 1) (sL (wks key 3) (bL b) (bR b)) (sR (wks key 2) (sL (wks key 3) (bL b) (bR b)) (bR b))) (sR (wks key 2) (sL (wks key 3) (bL b) (bR b)) (bR b))=⟨(zb4 key.data.toList b.data.toList).toArray⟩:=by
 rw[zwf (wks key 1),zwe (wks key 0),zuY];simp only[zqV,zqW,zqd,ztN,ztO];unfold zb4 zqc;rw[zvS]
theorem zu1 (key b:Ba) (hb:64<=b.size) (hb2:b.size<=8192) (hk:Hid (key.size+64<=140737488355328)) (w:Wo) (hK:Hid (Kh w)) :
  Cl 187 #[.string key,.string b] w fun e w'=>e = .returned (.tuple #[.string ⟨(zmM key.data.toList b.data.toList).toArray⟩,.int .i64 0])/\Bw w w':=by
 have WR:Hid (∀w,Cl 260 #[.int .i64 (b.size:Int)] w fun e w'=>e = .returned (.int .i64 0)/\w'=w):=fun w=>by
  have h:=zsm (b.size:Int) w;rw[zsp _ (by omega) (by omega)] at h;exact h
 have PT:Hid (∀w,Kh w->Cl 261 #[.string key,.string b] w fun e w'=>e = .returned (.agg #[.string (wks key 0),.string (wks key 1),.string (wks key 2),.string (wks key 3),.string (bL b),.string (bR b)])/\Bw w w'):=fun w h=>zs8 key b hk hb hb2 w h
 have SZ:Hid ((bL b).size=32/\(bR b).size<=8192/\(wks key 0).size=32/\(wks key 1).size=32/\(wks key 2).size=32/\(wks key 3).size=32):=⟨zuZ b hb,by rw[zu0 b];omega,zsn _ _ (by decide),zsn _ _ (by decide),zsn _ _ (by decide),zsn _ _ (by decide)⟩;rw[<-zwA];generalize wks key 0=k0 at *;generalize wks key 1=k1 at *;generalize wks key 2=k2 at *;generalize wks key 3=k3 at *;generalize bL b=L at *;generalize bR b=R at *;have SH:Hid (∀(g:Nat) (w:Wo),HAt w g k0 k1 k2 k3 L R->Kh w -> 0 < g->Cl 262 #[.pointer (some ⟨g,0,none⟩)] w fun e w'=>e = .returned (.tuple #[])/\HAt w' g k0 k1 k2 k3 (sL k3 (sL k1 L (sR k0 L R)) (sR k2 (sL k1 L (sR k0 L R)) (sR k0 L R))) (sR k2 (sL k1 L (sR k0 L R)) (sR k0 L R))/\Below g w w'):=fun g w h1 h2 h3=>zuW g k0 k1 k2 k3 L R SZ.out.2.2 SZ.out.1 SZ.out.2.1 w h1 h2 h3
 have Z2:Hid (ByteArray.size (sL k3 (sL k1 L (sR k0 L R)) (sR k2 (sL k1 L (sR k0 L R)) (sR k0 L R)))+ByteArray.size (sR k2 (sL k1 L (sR k0 L R)) (sR k0 L R))<=140737488355328):=by
  rw[zsB _ _ _ (zsB _ _ _ SZ.out.1),zsA,zsA];have:=SZ.out.2.1;show _<=_
  omega
 generalize (sL k3 (sL k1 L (sR k0 L R)) (sR k2 (sL k1 L (sR k0 L R)) (sR k0 L R)))=L' at *;generalize (sR k2 (sL k1 L (sR k0 L R)) (sR k0 L R))=R' at *;have WH:Hid (∀(g:Nat) (w:Wo),HAt w g k0 k1 k2 k3 L' R'->Cl 263 #[.pointer (some ⟨g,0,none⟩)] w fun e w'=>e = .returned (.string (L'++R'))/\Bw w w'):=fun g w h=>whole_any g k0 k1 k2 k3 L' R' Z2 w h
 go_enter Tryz.func187, Tryz.ntmps187;go_wp2_with fail;refine cM (WR.out _) ?_;rintro e w1 ⟨rfl,hw1⟩;have hw2:=hw1.symm;subst hw2;go_wp2_with fail;refine cM (PT.out _ hK.out) ?_;rintro e w2 ⟨rfl,hb2⟩;have B2:Hid (Bw w w2/\Kh w2):=⟨hb2,hK.out.later hb2⟩;clear hb2 PT WR hw1;go_wp2_with fail;refine cM (SH.out w2.heap.size _ (HAt.new _ _ _ _ _ _ _ _) (B2.out.2.alloc _) B2.out.2.1) ?_;rintro e w3 ⟨rfl,h3,hb3⟩;have B3:Hid (HAt w3 w2.heap.size k0 k1 k2 k3 L' R'/\Bw w w3):=⟨h3,chain B2.out.1 (((bQ _ _).alloc (nL _) _).trans hb3)⟩;clear h3 hb3 SH;go_wp2_with fail;refine cM (WH.out w2.heap.size _ B3.out.1) ?_;rintro e w4 ⟨rfl,hb4⟩;have B4:Hid (Bw w w4):=chain B3.out.2 hb4;clear hb4 WH;go_wp2;go_ret2;exact⟨rfl,B4.out⟩
theorem zwC (key b:Ba) (h:Hid (zso (b.size:Int)≠0)) (w:Wo) :
  Cl 187 #[.string key,.string b] w fun e w'=>e = .returned (.tuple #[.string ⟨#[]⟩,.int .i64 (zso (b.size:Int))])/\Bw w w':=by
 have WR:Hid (∀w,Cl 260 #[.int .i64 (b.size:Int)] w fun e w'=>e = .returned (.int .i64 (zso (b.size:Int)))/\w'=w):=fun w=>zsm (b.size:Int) w
 obtain⟨e0,he⟩:∃e0,zso (b.size:Int)=e0:=⟨_,rfl⟩;rw[he] at WR h ⊢;have hne:¬e0=0:=h.out;clear he h;go_enter Tryz.func187, Tryz.ntmps187;go_wp2_with fail;refine cM (WR.out _) ?_;rintro e w1 ⟨rfl,hw1⟩;have hw2:=hw1.symm;subst hw2;clear WR hw1;go_wp2;go_ret2;exact⟨rfl,bQ _ _⟩
theorem zu2 (key b:Ba) (hb:64<=b.size) (hb2:b.size<=8192) (hk:Hid (key.size+64<=140737488355328)) (w:Wo) (hK:Hid (Kh w)) :
  Cl 243 #[.string key,.string b] w fun e w'=>e = .returned (.tuple #[.string ⟨(zb4 key.data.toList b.data.toList).toArray⟩,.int .i64 0])/\Bw w w':=by
 have WR:Hid (∀w,Cl 260 #[.int .i64 (b.size:Int)] w fun e w'=>e = .returned (.int .i64 0)/\w'=w):=fun w=>by
  have h:=zsm (b.size:Int) w;rw[zsp _ (by omega) (by omega)] at h;exact h
 have PT:Hid (∀w,Kh w->Cl 261 #[.string key,.string b] w fun e w'=>e = .returned (.agg #[.string (wks key 0),.string (wks key 1),.string (wks key 2),.string (wks key 3),.string (bL b),.string (bR b)])/\Bw w w'):=fun w h=>zs8 key b hk hb hb2 w h
 have SZ:Hid ((bL b).size=32/\(bR b).size<=8192/\(wks key 0).size=32/\(wks key 1).size=32/\(wks key 2).size=32/\(wks key 3).size=32):=⟨zuZ b hb,by rw[zu0 b];omega,zsn _ _ (by decide),zsn _ _ (by decide),zsn _ _ (by decide),zsn _ _ (by decide)⟩;rw[<-zwB];generalize wks key 0=k0 at *;generalize wks key 1=k1 at *;generalize wks key 2=k2 at *;generalize wks key 3=k3 at *;generalize bL b=L at *;generalize bR b=R at *;have SH:Hid (∀(g:Nat) (w:Wo),HAt w g k0 k1 k2 k3 L R->Kh w -> 0 < g->Cl 304 #[.pointer (some ⟨g,0,none⟩)] w fun e w'=>e = .returned (.tuple #[])/\HAt w' g k0 k1 k2 k3 (sL k1 (sL k3 L R) (sR k2 (sL k3 L R) R)) (sR k0 (sL k1 (sL k3 L R) (sR k2 (sL k3 L R) R)) (sR k2 (sL k3 L R) R))/\Below g w w'):=fun g w h1 h2 h3=>zuX g k0 k1 k2 k3 L R SZ.out.2.2 SZ.out.1 SZ.out.2.1 w h1 h2 h3
 have Z2:Hid (ByteArray.size (sL k1 (sL k3 L R) (sR k2 (sL k3 L R) R))+ByteArray.size (sR k0 (sL k1 (sL k3 L R) (sR k2 (sL k3 L R) R)) (sR k2 (sL k3 L R) R))<=140737488355328):=by
  rw[zsB _ _ _ (zsB _ _ _ SZ.out.1),zsA,zsA];have:=SZ.out.2.1;show _<=_
  omega
 generalize (sR k0 (sL k1 (sL k3 L R) (sR k2 (sL k3 L R) R)) (sR k2 (sL k3 L R) R))=R' at *;generalize (sL k1 (sL k3 L R) (sR k2 (sL k3 L R) R))=L' at *;have WH:Hid (∀(g:Nat) (w:Wo),HAt w g k0 k1 k2 k3 L' R'->Cl 263 #[.pointer (some ⟨g,0,none⟩)] w fun e w'=>e = .returned (.string (L'++R'))/\Bw w w'):=fun g w h=>whole_any g k0 k1 k2 k3 L' R' Z2 w h
 go_enter Tryz.func243, Tryz.ntmps243;go_wp2_with fail;refine cM (WR.out _) ?_;rintro e w1 ⟨rfl,hw1⟩;have hw2:=hw1.symm;subst hw2;go_wp2_with fail;refine cM (PT.out _ hK.out) ?_;rintro e w2 ⟨rfl,hb2⟩;have B2:Hid (Bw w w2/\Kh w2):=⟨hb2,hK.out.later hb2⟩;clear hb2 PT WR hw1;go_wp2_with fail;refine cM (SH.out w2.heap.size _ (HAt.new _ _ _ _ _ _ _ _) (B2.out.2.alloc _) B2.out.2.1) ?_;rintro e w3 ⟨rfl,h3,hb3⟩;have B3:Hid (HAt w3 w2.heap.size k0 k1 k2 k3 L' R'/\Bw w w3):=⟨h3,chain B2.out.1 (((bQ _ _).alloc (nL _) _).trans hb3)⟩;clear h3 hb3 SH;go_wp2_with fail;refine cM (WH.out w2.heap.size _ B3.out.1) ?_;rintro e w4 ⟨rfl,hb4⟩;have B4:Hid (Bw w w4):=chain B3.out.2 hb4;clear hb4 WH;go_wp2;go_ret2;exact⟨rfl,B4.out⟩
theorem zu3 (key b:Ba) (h:Hid (zso (b.size:Int)≠0)) (w:Wo) :
  Cl 243 #[.string key,.string b] w fun e w'=>e = .returned (.tuple #[.string ⟨#[]⟩,.int .i64 (zso (b.size:Int))])/\Bw w w':=by
 have WR:Hid (∀w,Cl 260 #[.int .i64 (b.size:Int)] w fun e w'=>e = .returned (.int .i64 (zso (b.size:Int)))/\w'=w):=fun w=>zsm (b.size:Int) w
 obtain⟨e0,he⟩:∃e0,zso (b.size:Int)=e0:=⟨_,rfl⟩;rw[he] at WR h ⊢;have hne:¬e0=0:=h.out;clear he h;go_enter Tryz.func243, Tryz.ntmps243;go_wp2_with fail;refine cM (WR.out _) ?_;rintro e w1 ⟨rfl,hw1⟩;have hw2:=hw1.symm;subst hw2;clear WR hw1;go_wp2;go_ret2;exact⟨rfl,bQ _ _⟩
theorem zw7:zvO:=fun k b w hk _ hK=>by
 by_cases h:zso (b.size:Int)=0
 ·obtain⟨h1,h2⟩:=zsK _ h
  rw[zwb k b (by omega) (by omega)];exact zu1 k b (by omega) (by omega) hk w hK
 ·rw[zw4 k b h]
  exact zwC k b h w
theorem zw8:zw6:=fun k b w hk _ hK=>by
 by_cases h:zso (b.size:Int)=0
 ·obtain⟨h1,h2⟩:=zsK _ h
  rw[zwc k b (by omega) (by omega)];exact zu2 k b (by omega) (by omega) hk w hK
 ·rw[zw5 k b h]
  exact zu3 k b h w
end Go.Proofs.YtjcppbhgjchjaaaGreatDoor
