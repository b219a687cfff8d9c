/- A part of the walk. -/
import Derived.Test.YtjcppbhgjchjaaaGreatDoorZr2G32
set_option maxHeartbeats 8000000
set_option maxRecDepth 20000
namespace Go.Proofs.YtjcppbhgjchjaaaGreatDoor.Sto
open Go.RowKit Go.Proofs.Fd Go.Proofs.Dk Go.Proofs.Lg
theorem zq3 (s:St):(us s (s.n / 2) 2=none/\(use s).2=0)\/(us s (s.n / 2) 2=some ((use s).1*(s.n / 2))/\(use s).2≠0/\gen (hb s ((use s).1*(s.n / 2)) (s.n / 2))=(use s).2/\(use s).1<=1):=by
 obtain⟨H,hH⟩:∃H,s.n / 2=H:=⟨_,rfl⟩;rw[hH];have e1:us s H 1=if 0 < gen (hb s 0 H) then some 0 else none:=by
  show (if gO s H none < gen (hb s (0*H) H) then some (0*H) else none)=_;rw[Nat.zero_mul];rfl
 have e2:us s H 2=if gO s H (us s H 1) < gen (hb s H H) then some H else us s H 1:=by
  show (if gO s H (us s H 1) < gen (hb s (1*H) H) then some (1*H) else us s H 1)=_;rw[Nat.one_mul]
 have e3:use s=if gen (hb s 0 H) < gen (hb s H H) then (1,gen (hb s H H)) else (0,gen (hb s 0 H)):=by
  unfold use;rw[hH]
 rw[e2,e1,e3];by_cases h0:0 < gen (hb s 0 H)
 ·rw[if_pos h0]
  by_cases h1:gen (hb s 0 H) < gen (hb s H H)
  ·rw[if_pos h1]
   exact .inr ⟨by rw[Nat.one_mul];exact if_pos (show gO s H (some 0) < _ from h1),by show gen (hb s H H)≠0;omega,by show gen (hb s (1*H) H)=_;rw[Nat.one_mul],Nat.le_refl _⟩
  ·rw[if_neg h1]
   exact .inr ⟨by rw[Nat.zero_mul];exact if_neg (show ¬gO s H (some 0) < _ from h1),by show gen (hb s 0 H)≠0;omega,by show gen (hb s (0*H) H)=_;rw[Nat.zero_mul],Nat.zero_le _⟩
 ·rw[if_neg h0]
  by_cases h1:0 < gen (hb s H H)
  ·rw[if_pos (show gen (hb s 0 H) < gen (hb s H H) by omega)]
   exact .inr ⟨by rw[Nat.one_mul];exact if_pos (show gO s H none < _ from h1),by show gen (hb s H H)≠0;omega,by show gen (hb s (1*H) H)=_;rw[Nat.one_mul],Nat.le_refl _⟩
  ·rw[if_neg (show ¬gen (hb s 0 H) < gen (hb s H H) by omega)]
   exact .inl ⟨if_neg (show ¬gO s H none < _ from h1),by show gen (hb s 0 H)=0;omega⟩
def OpP (w va:World) (p:Nat) (F:Nat->Prop) (mn:Nat) (y:Int×St) (x:Lo) (e:Ending) (w':World):Prop :=
 ∃F',Dl w w' p F' y.2/\Nx va F F'/\Bf F va w' /\
  (y.1=0/\(∃q v,e = .returned (.tuple #[.pointer (some ⟨q,0,none⟩),.int .i64 0])/\HD w w' p F' y.2 q (x.h*mn) mn x.g v x.ts x.tk x.mr []/\∀z,HFt q v z->va.heap.size<=z)\/y.1≠0/\e = .returned (.tuple #[.pointer none,.int .i64 y.1]))
theorem zhN (w va:World) (p:Nat) (F:Nat->Prop) (s:St) (hn:s.n / 2 < 2) (h:Hid (Dl w va p F s)) :
  Cl 76 #[.pointer (some ⟨p,0,none⟩)] va fun e w'=>e = .returned (.tuple #[.pointer none,.int .i64 4])/\w'=va:=by
 have SZ:Hid _:=zcM p F s va h.out.at_;have hn2:=h.out.at_.1.n2;obtain⟨n,hnn⟩:∃n,s.n=n:=⟨_,rfl⟩;rw[hnn] at SZ hn hn2;have y1:(n:Int) / 2=((n / 2:Nat):Int):=by omega
 obtain⟨mn,hmn⟩:∃mn,n / 2=mn:=⟨_,rfl⟩;rw[hmn] at y1 hn;have y2:IntKind.i64.wrap (mn:Int)=(mn:Int):=by rw[IntKind.wrap_i64];omega
 have y3:(mn:Int) < 2:=by omega
 clear h hnn;go_enter Tryz.func76, Tryz.ntmps76;go_wp2_with fail;refine Calls.mono SZ.out ?_;rintro e w1 ⟨rfl,rfl⟩;go_wp2;go_ret2;exact⟨rfl,rfl⟩
theorem zjY (w va:World) (p:Nat) (F:Nat->Prop) (s:St) (hn:2<=s.n / 2) (hd:s.down=true) (h:Hid (Dl w va p F s)) :
  Cl 76 #[.pointer (some ⟨p,0,none⟩)] va fun e w'=>e = .returned (.tuple #[.pointer none,.int .i64 150])/\Bw va w':=by
 have SZ:Hid _:=zcM p F s va h.out.at_;have hn2:=h.out.at_.1.n2;have HN:Hid (2*(s.n / 2)<=s.n):=(show 2*(s.n / 2)<=s.n by omega);obtain⟨mn,hmn⟩:∃mn,s.n / 2=mn:=⟨_,rfl⟩;rw[hmn] at HN hn;have IU:Hid (∀V P,Bw va V->Blk V P (pl6 p mn)->Cl 138 #[.slice (some ⟨P,0,none⟩) 2 2] V fun e w'=>∃xa xn xc,e = .returned (.tuple #[.agg #[.pointer none,.int .i64 0,.int .i64 0,.int .i64 0,.slice xa xn xc,.int .i64 0,.string ⟨#[]⟩],.int .i64 150])/\OwnsS w' (.slice xa xn xc) []/\(∀y,(Value.slice xa xn xc).ownBlock=some y->V.heap.size<=y)/\Bw V w'):=fun V P hb bk =>
  (zhI w V p F s mn P (by omega) HN.out hd (h.out.later hb) bk).mono fun _ _ ⟨he,hb⟩=>⟨none,0,0,he,zaz _,nofun,hb⟩
 have OT:Hid (∀w,Cl 139 #[.agg #[.pointer (some ⟨p,0,none⟩),.int .i64 0,.int .i64 (mn:Int)]] w fun e w'=>e = .returned (.agg #[.pointer (some ⟨p,0,none⟩),.int .i64 (mn:Int),.int .i64 (mn:Int)])/\Bw w w'):=fun w=>zb8 w p 0 mn (Nat.zero_le _) (by omega)
 have HW:Hid (Bw va (va.alloc (.cells #[.pointer (some ⟨p,0,none⟩),.int .i64 0,.int .i64 (mn:Int)] 235))/\Blk (va.alloc (.cells #[.pointer (some ⟨p,0,none⟩),.int .i64 0,.int .i64 (mn:Int)] 235)) va.heap.size [.pointer (some ⟨p,0,none⟩),.int .i64 0,.int .i64 (mn:Int)]/\va.heap.size<=va.heap.size):=⟨nb _ _,Blk.new va _ _ (by simp),Nat.le_refl _⟩;obtain⟨n,hnn⟩:∃n,s.n=n:=⟨_,rfl⟩;rw[hnn] at SZ hmn hn2;have y1:(n:Int) / 2=(mn:Int):=by omega
 have y2:IntKind.i64.wrap (mn:Int)=(mn:Int):=by rw[IntKind.wrap_i64];omega
 have y3:¬(mn:Int) < 2:=by omega
 clear h hnn hmn hd hn HN;go_enter Tryz.func76, Tryz.ntmps76;go_wp2_with fail;refine Calls.mono SZ.out ?_;rintro e w1 ⟨rfl,rfl⟩;go_upto_region 7 with fail
 refine zcp p mn none 0 0 0 0 ⟨#[]⟩ [] 150 w1 _ w1.heap.size HW OT IU _ _ _ _ _ _ _ _ _ _ _ ?_;intro H xa xn xc wx u18 u19 u20 u21 u22 u23 u24 u25 I;have FF:Hid (Bw w1 wx):=I.bl;clear I IU OT HW SZ;go_wp2;go_ret2;exact⟨rfl,FF.out⟩
theorem zmE {w va wx:World} {p:Nat} {F:Nat->Prop} {s:St} {fr mn g:Nat} {v:Value} {ts:List Bs} {tk:Nat} {m:Bs} (ty:TypeId) (hd:Dl w wx p F s) (r:OwnsS wx v ts) (hv:∀z,v.ownBlock=some z->va.heap.size<=z/\¬F z) (h1:w.heap.size<=va.heap.size) (h2:va.heap.size<=wx.heap.size) :
  HD w (wx.alloc (.cells (hc p fr mn g v tk m []).toArray ty)) p F s wx.heap.size fr mn g v ts tk m []/\∀z,HFt wx.heap.size v z->va.heap.size<=z:=by
 refine⟨⟨hd.later (nb _ _),⟨Blk.new wx _ _ (by simp),ownsRow_same r (fun x e=>(nb wx _).block x (r.lt x e).2),fun e=>Nat.lt_irrefl _ (r.lt _ e).2⟩,fun z e => ?_⟩,fun z e => ?_⟩
 ·rcases e with e|e
  ·rw[e]
   exact⟨fun c=>Nat.lt_irrefl _ (hd.at_.lt c),by omega⟩
  ·have:=hv z e
   exact⟨this.2,by omega⟩
 ·rcases e with e|e
  ·rw[e]
   exact h2
  ·exact (hv z e).1
theorem zd1 (b:Nat):∀(vs:List Value) (o:Nat) (w:World),(w.setCells b o vs).heap.size=w.heap.size
 | [],_,_=>rfl
 | v::vs,o,w=>by rw[World.setCells,zd1 b vs];simp
theorem Dl.sets {w wr:World} {p:Nat} {F:Nat->Prop} {s:St} (h:Dl w wr p F s) {H:Nat} (hF:¬F H) (hw:w.heap.size<=H) (vs:List Value):Dl w (wr.setCells H 0 vs) p F s :=
 ⟨h.at_.other (Bf.sets (fun x=>x=H) H rfl vs 0 wr) (fun x e d=>hF (by rw[<-d];exact e)),h.new,zan hw _ 0 h.below⟩
theorem zmF (w va:World) (p:Nat) (F:Nat->Prop) (s:St) (hn:2<=s.n / 2) (hd:s.down=false) (hu:(use s).2=0) (hl:s.l.length+2000<=1000000) (hk:Hid (Kh w)) (h:Hid (Dl w va p F s)) :
  Cl 76 #[.pointer (some ⟨p,0,none⟩)] va fun e w'=>OpP w va p F (s.n / 2) (bgn s 0 (s.n / 2) 1 []) ⟨0,1,[]⟩ e w':=by
 have SZ:Hid _:=zcM p F s va h.out.at_;have hn2:=h.out.at_.1.n2;have HN:Hid (2*(s.n / 2)<=s.n):=(show 2*(s.n / 2)<=s.n by omega);have HU:us s (s.n / 2) 2=none:=by
  rcases zq3 s with ⟨e,-⟩|⟨-,e,-⟩
  ·exact e
  ·exact absurd hu e
 obtain⟨mn,hmn⟩:∃mn,s.n / 2=mn:=⟨_,rfl⟩;rw[hmn] at HN hn HU ⊢;have IU:Hid (∀V P,Bw va V->Blk V P (pl6 p mn)->Cl 138 #[.slice (some ⟨P,0,none⟩) 2 2] V fun e w'=>∃xa xn xc,e = .returned (.tuple #[.agg #[.pointer none,.int .i64 0,.int .i64 0,.int .i64 0,.slice xa xn xc,.int .i64 0,.string ⟨#[]⟩],.int .i64 0])/\OwnsS w' (.slice xa xn xc) []/\(∀y,(Value.slice xa xn xc).ownBlock=some y->V.heap.size<=y)/\Bw V w'):=fun V P hb bk =>
  (zgE w V p F s mn P (by omega) HN.out hd hk (h.out.later hb) bk).mono fun _ _ ⟨v,he,_,_,hb⟩=>⟨none,0,0,by rw[he,HU];rfl,zaz _,nofun,hb⟩
 have OT:Hid (∀w,Cl 139 #[.agg #[.pointer (some ⟨p,0,none⟩),.int .i64 0,.int .i64 (mn:Int)]] w fun e w'=>e = .returned (.agg #[.pointer (some ⟨p,0,none⟩),.int .i64 (mn:Int),.int .i64 (mn:Int)])/\Bw w w'):=fun w=>zb8 w p 0 mn (Nat.zero_le _) (by omega)
 have HW:Hid (Bw va (va.alloc (.cells #[.pointer (some ⟨p,0,none⟩),.int .i64 0,.int .i64 (mn:Int)] 235))/\Blk (va.alloc (.cells #[.pointer (some ⟨p,0,none⟩),.int .i64 0,.int .i64 (mn:Int)] 235)) va.heap.size [.pointer (some ⟨p,0,none⟩),.int .i64 0,.int .i64 (mn:Int)]/\va.heap.size<=va.heap.size):=⟨nb _ _,Blk.new va _ _ (by simp),Nat.le_refl _⟩;have BG:Hid (∀V,Bw va V->Cl 140 #[.agg #[.pointer (some ⟨p,0,none⟩),.int .i64 0,.int .i64 (mn:Int)],.int .i64 1,.slice none 0 0] V fun e w'=>BnP w V p F 0 mn 1 [] (bgn s 0 mn 1 []) e w'):=fun V hb =>
  zeH w V p F s 0 mn 1 none 0 0 [] (by omega) (by omega) rfl nofun (by show 1<=mn;omega) (by omega) hk (h.out.later hb) (zcf.nil _ _) (fun x e=>by cases e)
 have HWV:Hid (w.heap.size<=va.heap.size):=h.out.below.size;have NFF:Hid (∀x,F x->x < va.heap.size):=fun x c=>h.out.at_.lt c
 obtain⟨y,hy⟩:∃y,bgn s 0 mn 1 []=y:=⟨_,rfl⟩;rw[hy] at BG ⊢;obtain⟨n,hnn⟩:∃n,s.n=n:=⟨_,rfl⟩;rw[hnn] at SZ hmn hn2;have y1:(n:Int) / 2=(mn:Int):=by omega
 have y2:IntKind.i64.wrap (mn:Int)=(mn:Int):=by rw[IntKind.wrap_i64];omega
 have y3:¬(mn:Int) < 2:=by omega
 clear h hnn hmn hd hn HN HU hy hu hl hk;go_enter Tryz.func76, Tryz.ntmps76;go_wp2_with fail;refine Calls.mono SZ.out ?_;rintro e w1 ⟨rfl,rfl⟩;go_upto_region 7 with fail
 refine zcp p mn none 0 0 0 0 ⟨#[]⟩ [] 0 w1 _ w1.heap.size HW OT IU _ _ _ _ _ _ _ _ _ _ _ ?_;intro H xa xn xc wx u18 u19 u20 u21 u22 u23 u24 u25 I;have J:Hid _:=I;have k3:=I.bk.c 3 _ rfl;have b0:=I.b1.c 0 _ rfl;have b1:=I.b1.c 1 _ rfl;have b2:=I.b1.c 2 _ rfl;have BB:Hid _:=BG.out wx I.bl;clear I IU OT HW SZ BG;go_wp2_with fail;refine Calls.mono BB.out ?_;rintro e w2 ⟨F2,d1,d2,d3,hres⟩;have HB:∀x,x < wx.heap.size->¬F x->w2.heap[x]?=wx.heap[x]?:=fun x hx hF=>d3.block x hx hF
 have nF:∀x,w1.heap.size<=x->x < wx.heap.size->¬F x:=fun x hx _ c=>by
  have:=J.out.bl.size;exact absurd (NFF.out x c) (by omega)
 have bk2:Blk w2 H (hq7 none 0 0 0 xa xn xc 0 ⟨#[]⟩):=J.out.bk.same (HB H J.out.bk.lt (nF H J.out.nH J.out.bk.lt));have F2H:¬F2 H:=fun c=>by
  rcases d2 H c with e|e
  ·exact nF H J.out.nH J.out.bk.lt e
  ·have:=J.out.bk.lt
   omega
 have W1:w1.heap.size<=w2.heap.size:=Nat.le_trans J.out.bl.size d3.size;have BF:Hid (∀vs,Bf F w1 (w2.setCells H 0 vs)):=fun vs=>((Bf.of (F:=F) J.out.bl).trans (Nx.refl _ _) d3).trans (fun x e => .inr (by rw[e];exact J.out.nH)) (Bf.sets (fun x=>x=H) H rfl vs 0 w2)
 have NX:Hid (Nx w1 F F2):=(Nx.refl w1 F).trans d2 J.out.bl.size;have z0:=bk2.c 0 _ rfl;have z1:=bk2.c 1 _ rfl;have z2:=bk2.c 2 _ rfl;have z3:=bk2.c 3 _ rfl;have z4:=bk2.c 4 _ rfl;have z5:=bk2.c 5 _ rfl;have z6:=bk2.c 6 _ rfl;have zf:=bk2.f;rcases hres with ⟨h0,v2,rfl,r2,n2⟩|⟨h0,rfl⟩
 ·obtain⟨ya,yn,yc,rfl⟩:=owns_sliceS r2
  have e7:hv p 0 mn 1 (.slice ya yn yc) (tkn 1 []) (mks (hm 1) []) = .agg #[.pointer (some ⟨p,0,none⟩),.int .i64 0,.int .i64 (mn:Int),.int .i64 1,.slice ya yn yc,.int .i64 1,.string (st (hm 1))]:=rfl;rw[e7];have FF:Hid (OpP w w1 p F mn y ⟨0,1,[]⟩ (.returned (.tuple #[.pointer (some ⟨w2.heap.size,0,none⟩),.int .i64 0])) ((w2.setCells H 0 (hc p 0 mn 1 (.slice ya yn yc) 1 (hm 1) [])).alloc (.cells #[.pointer (some ⟨p,0,none⟩),.int .i64 0,.int .i64 (mn:Int),.int .i64 1,.slice ya yn yc,.int .i64 1,.string (st (hm 1))] 243))):=by
   have dz:=d1.sets F2H (Nat.le_trans HWV.out J.out.nH) (hc p 0 mn 1 (.slice ya yn yc) 1 (hm 1) []);have rz:OwnsS (w2.setCells H 0 (hc p 0 mn 1 (.slice ya yn yc) 1 (hm 1) [])) (.slice ya yn yc) []:=ownsRow_same r2 (fun x e=>zad w2 H 0 _ x (fun d=>by have:=(n2 x e).1;have:=J.out.bk.lt;omega));have hb:=zmE (va:=w1) (fr:=0) (mn:=mn) (g:=1) (tk:=1) (m:=hm 1) 243 dz rz (fun z e=>⟨Nat.le_trans J.out.bl.size (n2 z e).1,(n2 z e).2⟩) HWV.out (by rw[zd1];exact W1);rw[zd1] at hb;refine⟨F2,hb.1.dl,NX.out,(BF.out _).later (nb _ _),.inl ⟨h0,w2.heap.size,.slice ya yn yc,rfl,?_,hb.2⟩⟩;have e8:(⟨0,1,[]⟩:Lo).h*mn=0:=Nat.zero_mul _;rw[e8];exact hb.1
  clear J BB d1 d2 d3 HB nF bk2 F2H W1 BF NX r2 n2 e7;go_wp2;go_ret2;exact FF.out
 ·have FF:Hid (OpP w w1 p F mn y ⟨0,1,[]⟩ (.returned (.tuple #[.pointer none,.int .i64 y.1])) (w2.setCells H 0 hz0)) :=
   ⟨F2,d1.sets F2H (Nat.le_trans HWV.out J.out.nH) hz0,NX.out,BF.out _,.inr ⟨h0,rfl⟩⟩
  obtain⟨x,hx⟩:∃x,y.1=x:=⟨_,rfl⟩;rw[hx] at h0 FF ⊢;clear J BB d1 d2 d3 HB nF bk2 F2H W1 BF NX hx;go_wp2;go_ret2;exact FF.out
theorem ziX:∀(m d:Nat) (b a:Bs) (k:Nat),b.length=64*d->tkn k (zec m b a)<=k+d
 | 0,_,_,_,_,_=>Nat.le_add_right _ _
 | m+1,d,b,a,k,hb=>by
  rw[zec]
  split
  ·exact Nat.le_add_right _ _
  ·rename_i t ht
   have hl:=zgu ht;rw[tkn];have:=ziX m (d - sn t) (b.drop (64*sn t)) (rmk a t) (k+sn t) (by rw[List.length_drop];omega);omega
theorem zpO {s:St} (h:Ok s) (k H g:Nat) (hH:1<=H):tkn 1 (zjR s k H g)<=H:=by
 have:=ziX H (H - 1) ((hb s k H).drop 64) (hm g) 1 (by rw[List.length_drop,zeB h];omega);unfold zjR;omega
theorem zmG (w va:World) (p:Nat) (F:Nat->Prop) (s:St) (hn:2<=s.n / 2) (hd:s.down=false) (hu:(use s).2≠0) (hl:s.l.length+2000<=1000000) (hk:Hid (Kh w)) (h:Hid (Dl w va p F s)) :
  Cl 76 #[.pointer (some ⟨p,0,none⟩)] va fun e w'=>OpP w va p F (s.n / 2) (cln s ((use s).1*(s.n / 2)+tkn 1 (zjR s ((use s).1*(s.n / 2)) (s.n / 2) (use s).2)) (s.n / 2 - tkn 1 (zjR s ((use s).1*(s.n / 2)) (s.n / 2) (use s).2))) ⟨(use s).1,(use s).2,zjR s ((use s).1*(s.n / 2)) (s.n / 2) (use s).2⟩ e w':=by
 have SZ:Hid _:=zcM p F s va h.out.at_;have hn2:=h.out.at_.1.n2;have HN:Hid (2*(s.n / 2)<=s.n):=(show 2*(s.n / 2)<=s.n by omega);have RF:=zpO h.out.at_.1 ((use s).1*(s.n / 2)) (s.n / 2) (use s).2 (by omega);have HU:us s (s.n / 2) 2=some ((use s).1*(s.n / 2))/\gen (hb s ((use s).1*(s.n / 2)) (s.n / 2))=(use s).2/\(use s).1<=1:=by
  rcases zq3 s with ⟨-,e⟩|⟨e,-,e2,e3⟩
  ·exact absurd e hu
  ·exact⟨e,e2,e3⟩
 obtain⟨mn,hmn⟩:∃mn,s.n / 2=mn:=⟨_,rfl⟩;obtain⟨hh,hhh⟩:∃hh,(use s).1=hh:=⟨_,rfl⟩;obtain⟨g,hg⟩:∃g,(use s).2=g:=⟨_,rfl⟩;rw[hmn,hhh,hg] at HU;rw[hmn,hhh,hg] at RF;rw[hmn] at HN hn;rw[hmn,hhh,hg];rw[hg] at hu;obtain⟨fr,hfr⟩:∃fr,hh*mn=fr:=⟨_,rfl⟩;rw[hfr] at HU RF ⊢;have h2:fr+mn<=s.n:=by
  have:=HN.out;rcases (by have:=HU.2.2;omega:hh=0\/hh=1) with rfl|rfl
  ·rw[Nat.zero_mul] at hfr
   omega
  ·rw[Nat.one_mul] at hfr
   omega
 have eT:fT s fr mn=zjR s fr mn g:=by rw[fT,HU.2.1,if_neg hu]
 have eK:fK s fr mn=tkn 1 (zjR s fr mn g):=by rw[fK,HU.2.1,if_neg hu,eT]
 have eM:fM s fr mn=mks (hm g) (zjR s fr mn g):=by rw[fM,HU.2.1,if_neg hu,eT]
 obtain⟨tl,htl⟩:∃tl,zjR s fr mn g=tl:=⟨_,rfl⟩;obtain⟨tk,htk⟩:∃tk,tkn 1 tl=tk:=⟨_,rfl⟩;obtain⟨m,hmm⟩:∃m,mks (hm g) tl=m:=⟨_,rfl⟩;rw[htl] at eT eK eM RF ⊢;rw[htk] at eK RF ⊢;rw[hmm] at eM;have IU:Hid (∀V P,Bw va V->Blk V P (pl6 p mn)->Cl 138 #[.slice (some ⟨P,0,none⟩) 2 2] V fun e w'=>∃xa xn xc,e = .returned (.tuple #[.agg #[.pointer (some ⟨p,0,none⟩),.int .i64 (fr:Int),.int .i64 (mn:Int),.int .i64 (g:Int),.slice xa xn xc,.int .i64 (tk:Int),.string (st m)],.int .i64 0])/\OwnsS w' (.slice xa xn xc) tl/\(∀y,(Value.slice xa xn xc).ownBlock=some y->V.heap.size<=y)/\Bw V w'):=fun V P hbv bk =>
  (zgE w V p F s mn P (by omega) HN.out hd hk (h.out.later hbv) bk).mono fun _ _ ⟨v,he,r,nv,hbl⟩=>by
   rw[HU.1] at he r;have r':OwnsS _ v (fT s fr mn):=r;rw[eT] at r';obtain⟨xa,xn,xc,rfl⟩:=owns_sliceS r';refine⟨xa,xn,xc,?_,r',nv,hbl⟩;rw[he];show Ending.returned (.tuple #[.agg (hc p fr mn (gen (hb s fr mn)) (.slice xa xn xc) (fK s fr mn) (fM s fr mn) []).toArray,_])=_
   rw[HU.2.1,eK,eM];rfl
 have OT:Hid (∀w,Cl 139 #[.agg #[.pointer (some ⟨p,0,none⟩),.int .i64 0,.int .i64 (mn:Int)]] w fun e w'=>e = .returned (.agg #[.pointer (some ⟨p,0,none⟩),.int .i64 (mn:Int),.int .i64 (mn:Int)])/\Bw w w'):=fun w=>zb8 w p 0 mn (Nat.zero_le _) (by omega)
 have HW:Hid (Bw va (va.alloc (.cells #[.pointer (some ⟨p,0,none⟩),.int .i64 0,.int .i64 (mn:Int)] 235))/\Blk (va.alloc (.cells #[.pointer (some ⟨p,0,none⟩),.int .i64 0,.int .i64 (mn:Int)] 235)) va.heap.size [.pointer (some ⟨p,0,none⟩),.int .i64 0,.int .i64 (mn:Int)]/\va.heap.size<=va.heap.size):=⟨nb _ _,Blk.new va _ _ (by simp),Nat.le_refl _⟩;have HWV:Hid (w.heap.size<=va.heap.size):=h.out.below.size;have NFF:Hid (∀x,F x->x < va.heap.size):=fun x c=>h.out.at_.lt c
 have CL:Hid (∀V H xa xn xc,Oi va p mn (some ⟨p,0,none⟩) (fr:Int) (mn:Int) (g:Int) (tk:Int) (st m) tl va.heap.size H xa xn xc V->HD w V p F s H fr mn g (.slice xa xn xc) tl tk m []/\Cl 141 #[.pointer (some ⟨H,0,none⟩)] V fun e w'=>e = .returned (.int .i64 (cln s (fr+tk) (mn - tk)).1)/\Ds w V p F (cln s (fr+tk) (mn - tk)).2 w'):=fun V H xa xn xc I=>by
  have hd1:HD w V p F s H fr mn g (.slice xa xn xc) tl tk m []:=by
   refine⟨h.out.later I.bl,⟨I.bk,I.row,I.vH⟩,fun x e => ?_⟩;have hx:va.heap.size<=x:=by
    rcases e with e|e
    ·rw[e];exact I.nH
    ·exact I.nv x e
   exact⟨fun c=>by have:=NFF.out x c;omega,Nat.le_trans HWV.out hx⟩
  exact⟨hd1,zeF w V p F s H fr mn g (.slice xa xn xc) tl tk m [] (by omega) h2 RF (by omega) hd1⟩
 have EX:Hid (∀z,OpP w va p F mn z ⟨hh,g,tl⟩=OpP w va p F mn z ⟨hh,g,tl⟩):=fun _=>rfl
 have HFR:Hid (hh*mn=fr/\tkn 1 tl=tk/\mks (hm g) tl=m):=⟨hfr,htk,hmm⟩;obtain⟨y,hy⟩:∃y,cln s (fr+tk) (mn - tk)=y:=⟨_,rfl⟩;rw[hy] at CL ⊢;have gg:¬(g:Int)=0:=by omega
 obtain⟨n,hnn⟩:∃n,s.n=n:=⟨_,rfl⟩;rw[hnn] at SZ hmn hn2;have y1:(n:Int) / 2=(mn:Int):=by omega
 have y2:IntKind.i64.wrap (mn:Int)=(mn:Int):=by rw[IntKind.wrap_i64];omega
 have y3:¬(mn:Int) < 2:=by omega
 clear h hnn hmn hd hn HN HU hy hu hl hk hhh hg hfr htl htk hmm eT eK eM RF h2 EX;go_enter Tryz.func76, Tryz.ntmps76;go_wp2_with fail;refine Calls.mono SZ.out ?_;rintro e w1 ⟨rfl,rfl⟩;go_upto_region 7 with fail
 refine zcp p mn (some ⟨p,0,none⟩) (fr:Int) (mn:Int) (g:Int) (tk:Int) (st m) tl 0 w1 _ w1.heap.size HW OT IU _ _ _ _ _ _ _ _ _ _ _ ?_;intro H xa xn xc wx u18 u19 u20 u21 u22 u23 u24 u25 I;have J:Hid _:=I;have k3:=I.bk.c 3 _ rfl;have CC:=CL.out wx H xa xn xc I;have HH:Hid _:=CC.1;have CD:Hid _:=CC.2;clear I IU OT HW SZ CL CC;go_wp2_with fail;refine Calls.mono CD.out ?_;rintro e w2 ⟨rfl,F2,d1,d2,d3⟩;have K2:Hid (HD w w2 p F2 y.2 H fr mn g (.slice xa xn xc) tl tk m []):=HH.out.disk d1 d2 d3;have BF:Hid (Bf F w1 w2/\Nx w1 F F2):=⟨(Bf.of (F:=F) J.out.bl).trans (Nx.refl _ _) d3,(Nx.refl w1 F).trans d2 J.out.bl.size⟩;have NV:Hid _:=J.out.nv;clear d1 d2 d3 J HH CD k3;obtain⟨x,hx⟩:∃x,y.1=x:=⟨_,rfl⟩;have HX:Hid (y.1=x):=hx;rw[hx];clear hx;by_cases h0:x=0
 ·subst h0
  have k0:=K2.out.hf.bk.c 0 _ rfl;have k1:=K2.out.hf.bk.c 1 _ rfl;have k2:=K2.out.hf.bk.c 2 _ rfl;have k3:=K2.out.hf.bk.c 3 _ rfl;have k4:=K2.out.hf.bk.c 4 _ rfl;have k5:=K2.out.hf.bk.c 5 _ rfl;have k6:=K2.out.hf.bk.c 6 _ rfl;have FF:Hid (OpP w w1 p F mn y ⟨hh,g,tl⟩ (.returned (.tuple #[.pointer (some ⟨w2.heap.size,0,none⟩),.int .i64 0])) (w2.alloc (.cells #[.pointer (some ⟨p,0,none⟩),.int .i64 (fr:Int),.int .i64 (mn:Int),.int .i64 (g:Int),.slice xa xn xc,.int .i64 (tk:Int),.string (st m)] 243))):=by
   have hb:=zmE (va:=w1) (fr:=fr) (mn:=mn) (g:=g) (tk:=tk) (m:=m) 243 K2.out.dl K2.out.hf.row (fun z e=>⟨NV.out z e,(K2.out.ap z (.inr e)).1⟩) HWV.out BF.out.1.size;refine⟨F2,hb.1.dl,BF.out.2,BF.out.1.later (nb _ _),.inl ⟨HX.out,w2.heap.size,.slice xa xn xc,rfl,?_,hb.2⟩⟩;have e8:(⟨hh,g,tl⟩:Lo).h*mn=fr:=HFR.out.1;have e9:(⟨hh,g,tl⟩:Lo).tk=tk:=HFR.out.2.1;have e10:(⟨hh,g,tl⟩:Lo).mr=m:=HFR.out.2.2;rw[e8,e9,e10];exact hb.1
  unfold sv at k6;clear K2 BF NV HX;go_wp2;go_ret2;exact FF.out
 ·have FF:Hid (OpP w w1 p F mn y ⟨hh,g,tl⟩ (.returned (.tuple #[.pointer none,.int .i64 x])) w2):=⟨F2,K2.out.dl,BF.out.2,BF.out.1,.inr ⟨by rw[HX.out];exact h0,by rw[HX.out]⟩⟩
  clear K2 BF NV HX;go_wp2;go_ret2;exact FF.out
theorem zmH (w va:World) (p:Nat) (F:Nat->Prop) (s:St) (hn:2<=s.n / 2) (hl:s.l.length+2000<=1000000) (hk:Hid (Kh w)) (h:Hid (Dl w va p F s)) :
  Cl 76 #[.pointer (some ⟨p,0,none⟩)] va fun e w'=>OpP w va p F (s.n / 2) (opn s).1 (opn s).2 e w':=by
 unfold opn;rw[if_neg (by omega)];by_cases hd:s.down=true
 ·rw[if_pos hd]
  exact (zjY w va p F s hn hd h).mono fun _ _ ⟨he,hb⟩=>⟨F,h.out.later hb,Nx.refl _ _,Bf.of hb,.inr ⟨by show (150:Int)≠0;decide,he⟩⟩
 ·rw[if_neg hd]
  by_cases hu:(use s).2=0
  ·rw[if_pos hu]
   exact zmF w va p F s hn (by simpa using hd) hu hl hk h
  ·rw[if_neg hu]
   exact zmG w va p F s hn (by simpa using hd) hu hl hk h
theorem zmI (q p fr mn g:Nat) (v:Value) (ts:List Bs) (tk:Nat) (m:Bs) (more:List Value) (w:World) (h1:tk<=mn) (h2:mn<=1024) (h:Hid (Hf w q p fr mn g v ts tk m more)) :
  Cl 205 #[.pointer (some ⟨q,0,none⟩)] w fun e w'=>e = .returned (.int .i64 ((mn - tk:Nat):Int))/\Bw w w':=by
 have k2:=h.out.bk.c 2 _ rfl;have k5:=h.out.bk.c 5 _ rfl;have y1:IntKind.i64.wrap ((mn - tk:Nat):Int)=((mn - tk:Nat):Int):=by rw[IntKind.wrap_i64];omega
 have y2:(mn:Int) - (tk:Int)=((mn - tk:Nat):Int):=by omega
 obtain⟨d,hd⟩:∃d,mn - tk=d:=⟨_,rfl⟩;rw[hd] at y1 y2 ⊢;clear hd h;go_enter Tryz.func205, Tryz.ntmps205;go_wp2_with fail;go_region_with fail
 all_goals
  go_wp2;go_ret;exact⟨rfl,(Below.refl _ _).drew⟩
theorem zjZ (w va:World) (p:Nat) (F:Nat->Prop) (s:St) (q fr mn g:Nat) (v:Value) (ts:List Bs) (tk:Nat) (m:Bs) (more:List Value) (hl:s.l.length<=1000000) (h:Hid (HD w va p F s q fr mn g v ts tk m more)) :
  Cl 132 #[.pointer (some ⟨q,0,none⟩)] va fun e w'=>e = .returned (.int .i64 (syE s))/\Ds w va p F (syS s) w':=by
 have k0:=h.out.hf.bk.c 0 _ rfl;have k1:=h.out.hf.bk.c 1 _ rfl;have k2:=h.out.hf.bk.c 2 _ rfl;have SY:Hid _:=zcO w va p F s fr mn hl h.out.dl;unfold plc at SY;obtain⟨x,hx⟩:∃x,syE s=x:=⟨_,rfl⟩;obtain⟨t,ht⟩:∃t,syS s=t:=⟨_,rfl⟩;rw[hx,ht] at SY ⊢;clear hx ht h;go_enter Tryz.func132, Tryz.ntmps132;go_wp2_with fail;refine Calls.mono SY.out ?_;rintro e w1 ⟨rfl,hd⟩;have FF:Hid _:=hd;clear hd;go_wp2;go_ret;exact⟨rfl,FF.out⟩
def apR (s:St) (fr mn tk:Nat) (m t:Bs):Int×St:=if may t≠0 then (may t,s) else if mn < tk+sn t then (151,s) else wrb s (fr+tk) (rcd m t)
theorem zeI {t:Bs} (h:may t=0):1<=t.length/\t.length<=2000:=by
 unfold may at h
 split at h
 ·simp at h
 ·split at h
  ·simp at h
  ·omega
theorem zhO (w va:World) (p:Nat) (F:Nat->Prop) (s:St) (q fr mn g:Nat) (v:Value) (ts:List Bs) (tk:Nat) (m:Bs) (X:Ba) (hm:m.length=16) (hts:ts.length<=100000) (htk:tk<=mn) (hmn:mn<=1024) (hz:fr<=1024) (hl:s.l.length+100<=1000000) (hk:Hid (Kh w)) (h:Hid (HD w va p F s q fr mn g v ts tk m [])) :
  Cl 130 #[.pointer (some ⟨q,0,none⟩),.string X] va fun e w'=>e = .returned (.int .i64 (apR s fr mn tk m X.data.toList).1)/\AdP w va p F q fr mn g v ts tk m [] X.data.toList (apR s fr mn tk m X.data.toList) w':=by
 have CH:Hid _:=zeE X va;have STAY:∀x:Int,x≠0->∀W,Bw va W->AdP w va p F q fr mn g v ts tk m [] X.data.toList (x,s) W:=fun x hx W hb=>⟨F,v,Nx2.refl _ _ _ _,Bf.of hb,.inr ⟨hx,h.out.later hb⟩⟩
 unfold apR;by_cases h1:may X.data.toList≠0
 ·rw[if_pos h1]
  have FF:Hid _:=STAY _ h1 va (Below.refl _ _);obtain⟨x,hx⟩:∃x,may X.data.toList=x:=⟨_,rfl⟩;rw[hx] at CH h1 FF ⊢;clear hx h STAY;go_enter Tryz.func130, Tryz.ntmps130;go_wp2_with fail;refine Calls.mono CH.out ?_;rintro e w1 ⟨rfl,rfl⟩;go_wp2;go_ret;exact⟨rfl,FF.out⟩
 ·rw[if_neg h1]
  have h1':may X.data.toList=0:=Decidable.byContradiction h1;have hb:=zeI h1';rw[h1'] at CH;have SO:Hid (Cl 204 #[.string X] va fun e w'=>e = .returned (.int .i64 (sn X.data.toList:Int))/\w'=va):=zbt X.data.toList (by omega) va;have RM:Hid _:=zmI q p fr mn g v ts tk m [] va htk hmn h.out.hf;have hsn:sn X.data.toList<=100:=by unfold sn;omega
  by_cases h2:mn < tk+sn X.data.toList
  ·rw[if_pos h2]
   have g1:((mn - tk:Nat):Int) < (sn X.data.toList:Int):=by omega
   have FS:Hid _:=STAY 151 (by decide);obtain⟨n,hn⟩:∃n,sn X.data.toList=n:=⟨_,rfl⟩;obtain⟨d,hd⟩:∃d,mn - tk=d:=⟨_,rfl⟩;rw[hn] at SO g1;rw[hd] at RM g1;clear hn hd h STAY h1 h1' hb h2 hsn;go_enter Tryz.func130, Tryz.ntmps130;go_wp2_with fail;refine Calls.mono CH.out ?_;rintro e w1 ⟨rfl,rfl⟩;go_wp2_with fail;refine Calls.mono SO.out ?_;rintro e w2 ⟨rfl,rfl⟩;go_wp2_with fail;refine Calls.mono RM.out ?_;rintro e w3 ⟨rfl,hb3⟩;have FF:Hid _:=FS.out w3 hb3;clear FS hb3;go_wp2;go_ret;exact⟨rfl,FF.out⟩
  ·rw[if_neg h2]
   have g1:¬((mn - tk:Nat):Int) < (sn X.data.toList:Int):=by omega
   have AD:Hid (∀W,Bw va W->Cl 206 #[.pointer (some ⟨q,0,none⟩),.string X] W fun e w'=>e = .returned (.int .i64 (wrb s (fr+tk) (rcd m X.data.toList)).1)/\AdP w va p F q fr mn g v ts tk m [] X.data.toList (wrb s (fr+tk) (rcd m X.data.toList)) w'):=fun W hbw =>
    (ziV w W p F s q fr mn g v ts tk m [] X.data.toList hm hb.2 hts (by omega) hl hk (h.out.later hbw)).mono fun _ _ ⟨he,F',v',n1,b1,hh⟩=>⟨he,F',v',(Nx2.refl va _ _ _).trans n1 hbw.size,(Bf.of hbw).trans (Nx.refl _ _) b1,hh⟩
   obtain⟨y,hy⟩:∃y,wrb s (fr+tk) (rcd m X.data.toList)=y:=⟨_,rfl⟩;rw[hy] at AD ⊢;obtain⟨n,hn⟩:∃n,sn X.data.toList=n:=⟨_,rfl⟩;obtain⟨d,hd⟩:∃d,mn - tk=d:=⟨_,rfl⟩;rw[hn] at SO g1;rw[hd] at RM g1;obtain⟨x,hx⟩:∃x,y.1=x:=⟨_,rfl⟩;rw[hx] at AD ⊢;clear hn hd h STAY h1 h1' hb h2 hsn hy hx;go_enter Tryz.func130, Tryz.ntmps130;go_wp2_with fail;refine Calls.mono CH.out ?_;rintro e w1 ⟨rfl,rfl⟩;go_wp2_with fail;refine Calls.mono SO.out ?_;rintro e w2 ⟨rfl,rfl⟩;go_wp2_with fail;refine Calls.mono RM.out ?_;rintro e w3 ⟨rfl,hb3⟩;have A3:Hid _:=AD.out w3 hb3;clear AD hb3;go_wp2_with fail;refine Calls.mono A3.out ?_;rintro e w4 ⟨rfl,had⟩;have FF:Hid _:=had;clear had A3;go_wp2;go_ret;exact⟨rfl,FF.out⟩
section
variable {w:World} {d:Nat} {G:Nat->Prop} {s:St} {q:Nat} {v:Value} {x:Lo}
end
theorem zbu {w:World} {base:Nat} {v:Value} {l:List Bs} {n:Nat} (hn:l.length=n) (h:w.ownsRow base 9 1 v n (scs l)):∃a cap,v = .slice a n cap/\zcf w a l/\(a=none->n=0/\cap=0):=by
 obtain⟨h1,h2⟩:=h;rcases h2 with ⟨rfl,h0⟩|⟨g,cap,cur,rfl,-,hh,-,-,-,ht⟩
 ·subst h0
  have:l=[]:=List.length_eq_zero_iff.1 hn;subst this;exact⟨none,0,rfl,zcf.nil _ _,fun _=>⟨rfl,rfl⟩⟩
 ·refine⟨_,cap,rfl,fun j hj=>⟨g,0,rfl,?_⟩,fun e=>by cases e⟩
  have e:cur[j]?=(scs l)[j]?:=by
   rw[<-ht,List.getElem?_take_of_lt (by omega)];simp
  rw[Nat.zero_add];unfold World.cell?;rw[hh];simp only[Option.isSome_none];show cur[j]?=_
  rw[e];simp[scs,hj]
theorem zd2 {w w':World} {base:Nat} {v:Value} {n:Nat} {xs:List Value} (h:w.ownsRow base 9 1 v n xs) (hb:Bw w w'):w'.ownsRow base 9 1 v n xs:=by
 refine⟨h.1,?_⟩;rcases h.2 with h2|⟨g,cap,cur,rfl,hg,hh,hr⟩
 ·exact .inl h2
 ·exact .inr ⟨g,cap,cur,rfl,hg,(hb.block g (Array.getElem?_eq_some_iff.1 hh).1).trans hh,hr⟩
theorem zmJ (w:World) (x:Value) (t:TypeId):∀j u,[x][j]?=some u->(w.alloc (.cells #[x] t)).cell? (Addr.add ⟨w.heap.size,0,none⟩ j)=some u:=fun j u h=>by
 obtain rfl:j=0:=by
  match j,h with
  | 0,_=>rfl
  | j+1,h=>simp at h
 simp at h;subst h;rw[Addr.add_mid,Nat.zero_add,World.cell?_alloc_new];rfl
theorem zgH (q p fr mn g:Nat) (v:Value) (ts:List Bs) (tk:Nat) (m:Bs) (more:List Value) (w:World) (hn:ts.length<=100000) (ht:∀t∈ts,t.length<=2000) (h:Hid (Hf w q p fr mn g v ts tk m more)) :
  Cl 77 #[.pointer (some ⟨q,0,none⟩)] w fun e w'=>∃u,e = .returned u/\w'.ownsRow w.heap.size 9 1 u ts.length (scs ts)/\Bw w w':=by
 obtain⟨i0,hi,hz0,hz1,hz2⟩:=info_parts zsX;obtain⟨a,cap,rfl,tx,-⟩:=zbu rfl h.out.row;have HX:Hid (zcf w a ts):=tx;have k4:=h.out.bk.c 4 _ rfl;have HT:Hid (∀t∈ts,t.length<=2000):=ht;obtain⟨n,hnn⟩:∃n,ts.length=n:=⟨_,rfl⟩;have HN:Hid (ts.length=n):=hnn;rw[hnn] at k4 hn ⊢;clear tx h ht hnn;go_enter Tryz.func77, Tryz.ntmps77;go_wp2;go_loopw [3,12] (fun sl i wr=>∃k:Nat,k<=n/\i = .int .i64 (k:Int)/\Hid (wr.ownsRow w.heap.size 9 1 sl k (scs (ts.take k))/\Bw w wr)) (fun _ i _=>n - (intOf i).toNat)
 case atStart=>exact⟨0,Nat.zero_le _,rfl,⟨rfl,.inl ⟨rfl,rfl⟩⟩,Below.refl _ _⟩
 case round =>
  obtain⟨k,hk,rfl,J⟩:=hrel;clear k4;by_cases hlt:k < n
  ·have hkl:k < ts.length:=by rw[HN.out];exact hlt
   have g1:(k:Int) < (n:Int):=by omega
   obtain⟨b,o,rfl,c0⟩:=(HX.out.later J.out.2) k hkl;have ET:Hid (ts.take (k+1)=ts.take k++[ts[k]]):=List.take_succ_eq_append_getElem hkl;have hl:=HT.out _ (List.getElem_mem hkl);obtain⟨t,htt⟩:∃t,ts[k]=t:=⟨_,rfl⟩;rw[htt] at c0 ET hl;have CL:Hid (∀w,Cl 46 #[.string (st t)] w fun e w'=>e = .returned (.string (st t))/\Bw w w'):=fun w=>zc6 (st t) (by rw[zai];omega) w
   have HSV:Hid (Value.string (st t)=sv t):=(rfl:Value.string (st t)=sv t);unfold sv at c0;obtain⟨T,hT⟩:∃T,st t=T:=⟨_,rfl⟩;rw[hT] at c0 CL HSV;clear htt hT;go_wp2_with fail;refine Calls.mono (CL.out _) ?_;rintro e w1 ⟨rfl,hb⟩;have J1:Hid (w1.ownsRow w.heap.size 9 1 u3 k (scs (ts.take k))/\Bw w w1):=⟨zd2 J.out.1 hb,chain J.out.2 hb⟩;clear hb J CL c0;go_wp2_with (first
    | (at_builtin;refine wpList_append_own _ rfl _ _ 25 rfl w.heap.size 9 i0 (.string ⟨#[]⟩) 1 16 Tryz.underlying25 hi hz0 hz1 hz2 rfl (by decide) _ _ _ rfl (J1.out.1.alloc _) ⟨w1.heap.size,0,none⟩ 1 1 [.string T] rfl rfl (zmJ _ _ _) (by intro u hu;simp at hu;subst hu;rfl) (by unfold maxLen;omega) (by omega) (by have:=J1.out.2.size;simp;omega) ?_;intro v1 w2 hown1 hgrow1 hnil1))
   go_roundw
   case rel =>
    refine⟨k+1,by omega,rfl,?_,?_⟩
    ·rw[ET.out,zhG]
     rw[HSV.out] at hown1;exact hown1
    ·exact (J1.out.2.alloc J1.out.2.size _).grown hgrow1 (by have:=J1.out.2.size;simp;omega) (fun q hq=>(J1.out.1.lt q hq).1)
   case measure=>simp[intOf];omega
  ·obtain rfl:k=n:=by omega
   have J2:Hid (wr.ownsRow w.heap.size 9 1 u3 k (scs ts)/\Bw w wr):=by
    have:=J.out;rw[List.take_of_length_le (by rw[HN.out];exact Nat.le_refl _)] at this;exact this
   clear J;go_wp2;go_ret;exact⟨u3,rfl,J2.out.1,J2.out.2⟩
def Bn7 (w V:World) (p:Nat) (F:Nat->Prop) (s2:St) (tl:List Bs) (xa:Option Addr) (xn xc:Nat) (w':World):Prop :=
 ∃F2,Dl w w' p F2 s2/\Nx V F F2/\Bf F V w'/\OwnsS w' (.slice xa xn xc) tl/\∀x,(Value.slice xa xn xc).ownBlock=some x->V.heap.size<=x/\¬F2 x
def Ci7 (w va:World) (p:Nat) (F:Nat->Prop) (s2:St) (tl:List Bs) (pp:Option Addr) (i1 i2 i3:Int) (i5:Int) (s6:Ba) (H:Nat) (xa:Option Addr) (xn xc:Nat) (wx:World):Prop :=
 Bn7 w va p F s2 tl xa xn xc wx/\Blk wx H (hq7 pp i1 i2 i3 xa xn xc i5 s6)/\va.heap.size<=H
theorem zvl {w va V w2:World} {p:Nat} {F:Nat->Prop} {s2:St} {tl:List Bs} {pp:Option Addr} {i1 i2 i3:Int} {i5:Int} {s6:Ba} {xa:Option Addr} {xn xc:Nat} (ty:TypeId) (bl:Bw va V) (h:Bn7 w V p F s2 tl xa xn xc w2) :
  Ci7 w va p F s2 tl pp i1 i2 i3 i5 s6 w2.heap.size xa xn xc (w2.alloc (.cells #[.pointer pp,.int .i64 i1,.int .i64 i2,.int .i64 i3,.slice xa xn xc,.int .i64 i5,.string s6] ty)):=by
 obtain⟨F2,h1,h2,h3,h4,h5⟩:=h;exact⟨⟨F2,h1.later (nb _ _),(Nx.refl va F).trans h2 bl.size,((Bf.of bl).trans (Nx.refl _ _) h3).later (nb _ _),ownsRow_same h4 (fun x e=>(nb w2 _).block x (h4.lt x e).2),fun x e=>⟨Nat.le_trans bl.size (h5 x e).1,(h5 x e).2⟩⟩,Blk.new w2 _ _ (by simp),Nat.le_trans bl.size h3.size⟩
theorem zq4 {w va V w2:World} {p:Nat} {F:Nat->Prop} {s2:St} {tl:List Bs} {pp:Option Addr} {i1 i2 i3:Int} {i5:Int} {s6:Ba} {xa:Option Addr} {xn xc:Nat} {H:Nat} (hw:w.heap.size<=va.heap.size) (bl:Bw va V) (h:Bn7 w V p F s2 tl xa xn xc w2) (bh:Blk V H hz0) (hF:¬F H) (nH:va.heap.size<=H) :
  Ci7 w va p F s2 tl pp i1 i2 i3 i5 s6 H xa xn xc (w2.setCells H 0 (hq7 pp i1 i2 i3 xa xn xc i5 s6)):=by
 obtain⟨F2,h1,h2,h3,h4,h5⟩:=h;have hb:=bh.bf h3 hF;have hF2:=h2.apart hF bh.lt;have hv:(Value.slice xa xn xc).ownBlock≠some H:=fun e=>by have:=(h5 _ e).1;have:=bh.lt;omega
 exact⟨⟨F2,h1.sets hF2 (Nat.le_trans hw nH) _,(Nx.refl va F).trans h2 bl.size,((Bf.of bl).trans (Nx.refl _ _) h3).trans (fun x e => .inr (by rw[e];exact nH)) (Bf.sets (fun x=>x=H) H rfl _ 0 w2),ownsRow_same h4 (fun x e=>zad w2 H 0 _ x (fun d=>hv (by rw[e,d]))),fun x e=>⟨Nat.le_trans bl.size (h5 x e).1,(h5 x e).2⟩⟩,hb.put _ rfl,nH⟩
def zvS:Oper:={ dst:=some 43,op := .move (.tmp 0),type := 153, pos := "log.go:88", after:=#[],guard:=none }
def zvT:Oper:={ dst:=some 44,op := .nilCheck (.tmp 43),type:=0,pos := "log.go:88", after:=#[eD 0],guard:=none }
def zvU:Oper:={ dst:=some 45,op := .fieldAddr 243 (.tmp 44) 0,type:=0,pos := "log.go:88", after:=#[eD 1],guard:=none }
def zvV:Oper:={ dst:=some 46,op := .fieldAddr 237 (.tmp 45) 0,type:=0,pos := "log.go:88", after:=#[eD 2],guard:=none }
def zvW:Oper:={ dst:=some 47,op := .load 235 (.tmp 46),type := 235, pos := "log.go:88", after:=#[eD 3],guard:=none }
def zvm:Oper:={ dst:=some 48,op := .call { callee:=Go.Callee.value (.func 139),args:=#[Go.Operand.tmp 47],argTypes:=#[235] },type := 235, pos := "log.go:88", after:=#[eD 4],guard:=none }
def zvX:Oper:={ dst:=some 49,op := .move (.tmp 0),type := 153, pos := "log.go:88", after:=#[],guard:=none }
def zvY:Oper:={ dst:=some 50,op := .nilCheck (.tmp 49),type:=0,pos := "log.go:88", after:=#[eD 6],guard:=none }
def zvZ:Oper:={ dst:=some 51,op := .fieldAddr 243 (.tmp 50) 0,type:=0,pos := "log.go:88", after:=#[eD 7],guard:=none }
def zv0:Oper:={ dst:=some 52,op := .fieldAddr 237 (.tmp 51) 1,type:=0,pos := "log.go:88", after:=#[eD 8],guard:=none }
def zpP:Oper:={ dst:=some 53,op := .load 3 (.tmp 52),type := 3, pos := "log.go:88", after:=#[eD 9],guard:=none }
def zpQ:Oper:={ dst:=some 54,op := .binOp Go.BinOp.add 3 (.tmp 53) (.const (Go.Value.int Go.IntKind.i64 1)) 3, type := 3, pos := "log.go:88", after:=#[eD 10],guard:=none }
def zpR:Oper:={ dst:=some 55,op := .move (.tmp 1),type := 25, pos := "log.go:88", after:=#[],guard:=none }
def zhP:Oper:={ dst:=some 56,op := .call { callee:=Go.Callee.value (.func 140),args:=#[Go.Operand.tmp 48,Go.Operand.tmp 54,Go.Operand.tmp 55],argTypes:=#[235, 3, 25] },type := 238, pos := "log.go:88", after:=#[eD 5,eD 11,eD 12,eC 5],guard:=none }
def zee:Oper:={ dst:=some 42,op := .move (.tmp 56),type := 238, pos := "log.go:88", after:=#[eD 13],guard:=none }
def zef:Oper:={ dst:=some 57,op := .extract (.tmp 42) 0,type := 237, pos := "log.go:88", after:=#[eD 14],guard:=none }
def zeg:Oper:={ dst:=some 58,op := .extract (.tmp 42) 1,type := 32, pos := "log.go:88", after:=#[eD 14,{ on:=18,ground:=Go.Ground.gcOnly Go.Departure.lateStores }],guard:=none }
def zhQ:Oper:={ dst:=some 9,op := .alloc 237, type:=0,pos := "log.go:88", after:=#[],guard:=none }
def zhR:Oper:={ dst:=none,op := .store 237 (.tmp 9) (.tmp 57),type:=0,pos := "log.go:88", after:=#[eD 17,eD 15,eC 13,eP 0,eP 1,eP 2,eP 3,eP 4,eP 5,eP 6,eP 7,eP 8,eP 9,eP 10,eP 11,eP 12,eP 13,eP 14,eP 15,{ on:=16,ground:=Go.Ground.textOnly Go.Departure.lateStores },eP 17],guard:=none }
def zeh:Oper:={ dst:=some 10,op := .assign (.tmp 58),type := 32, pos := "log.go:88", after:=#[eD 16,eC 18,eP 0,eP 1,eP 2,eP 3,eP 4,eP 5,eP 6,eP 7,eP 8,eP 9,eP 10,eP 11,eP 12,eP 13,eP 14,eP 15,eP 16,eP 17,eP 18],guard:=none }
theorem zbM {F:Nat->Prop} {w w':World} (hb:Bf F w w') {q o:Nat} {v:Value} (hq:¬F q) (h:w.cell? ⟨q,o,none⟩=some v):w'.cell? ⟨q,o,none⟩=some v:=hb.cell h hq
theorem zq5 {w:World} {B H:Nat} {x0 x1 x2 x3 y0 y1 y2 y3 y4 y5 y6:Value} (hne:B≠H) (h:w.cell? ⟨B,0,none⟩=some x0/\w.cell? ⟨B,1,none⟩=some x1/\w.cell? ⟨B,2,none⟩=some x2/\w.cell? ⟨B,3,none⟩=some x3) :
  (w.setCells H 0 [y0,y1,y2,y3,y4,y5,y6]).cell? ⟨B,0,none⟩=some x0/\(w.setCells H 0 [y0,y1,y2,y3,y4,y5,y6]).cell? ⟨B,1,none⟩=some x1/\(w.setCells H 0 [y0,y1,y2,y3,y4,y5,y6]).cell? ⟨B,2,none⟩=some x2/\(w.setCells H 0 [y0,y1,y2,y3,y4,y5,y6]).cell? ⟨B,3,none⟩=some x3:=by
 have hs:=zad w H 0 [y0,y1,y2,y3,y4,y5,y6] B hne;exact⟨(World.cell?_of_block (a:=⟨B,0,none⟩) hs).trans h.1,(World.cell?_of_block (a:=⟨B,1,none⟩) hs).trans h.2.1,(World.cell?_of_block (a:=⟨B,2,none⟩) hs).trans h.2.2.1,(World.cell?_of_block (a:=⟨B,3,none⟩) hs).trans h.2.2.2⟩
theorem zei (w:World) (p:Nat) (F:Nat->Prop) (s2:St) (tl:List Bs) (q fr fr2 mn:Nat) (gi:Int) (x:Int) (va:World) (a:Option Addr) (n c:Nat) (E:Option Addr->Int->Int->Int->Int->Ba->Prop) (hw:Hid (w.heap.size<=va.heap.size)) (hF:Hid (∀y,F y->y < va.heap.size)) (hq:Hid (¬F q/\q < va.heap.size)) (y1:IntKind.i64.wrap (gi+1)=gi+1)
  (b0:va.cell? ⟨q,0,none⟩=some (.pointer (some ⟨p,0,none⟩))) (b1:va.cell? ⟨q,1,none⟩=some (.int .i64 (fr:Int))) (b2:va.cell? ⟨q,2,none⟩=some (.int .i64 (mn:Int))) (b3:va.cell? ⟨q,3,none⟩=some (.int .i64 gi))
  (OT:Hid (∀w,Cl 139 #[.agg #[.pointer (some ⟨p,0,none⟩),.int .i64 (fr:Int),.int .i64 (mn:Int)]] w fun e w'=>e = .returned (.agg #[.pointer (some ⟨p,0,none⟩),.int .i64 (fr2:Int),.int .i64 (mn:Int)])/\Bw w w'))
  (BG:Hid (∀V,Bw va V->Cl 140 #[.agg #[.pointer (some ⟨p,0,none⟩),.int .i64 (fr2:Int),.int .i64 (mn:Int)],.int .i64 (gi+1),.slice a n c] V fun e w'=>∃pp i1 i2 i3 xa xn xc i5 s6,e = .returned (.tuple #[.agg #[.pointer pp,.int .i64 i1,.int .i64 i2,.int .i64 i3,.slice xa xn xc,.int .i64 i5,.string s6],.int .i64 x])/\E pp i1 i2 i3 i5 s6/\Bn7 w V p F s2 tl xa xn xc w'))
  (a2 a3 a4 a5 a6 a7 a8 a11 a12 a13 a14 a15 a16 a17 a18 a19 a20 a21 a22 a23 a24 a25 a26 a27 a28 a29 a30 a31 a32 a33 a34 a35 a36 a37 a38 a39 a40 a41:Value) (Q:Exit->Act->World->Prop)
  (hQ:Hid (∀(H:Nat) (pp:Option Addr) (i1 i2 i3:Int) (xa:Option Addr) (xn xc:Nat) (i5:Int) (s6:Ba) (wx:World) (u42 u43 u44 u45 u46 u47 u48 u49 u50 u51 u52 u53 u54 u55 u56 u57 u58:Value),E pp i1 i2 i3 i5 s6->Ci7 w va p F s2 tl pp i1 i2 i3 i5 s6 H xa xn xc wx->Q .normal { tmps:=#[.pointer (some ⟨q,0,none⟩),.slice a n c,a2,a3,a4,a5,a6,a7,a8,.pointer (some ⟨H,0,none⟩),.int .i64 x,a11,a12,a13,a14,a15,a16,a17,a18,a19,a20,a21,a22,a23,a24,a25,a26,a27,a28,a29,a30,a31,a32,a33,a34,a35,a36,a37,a38,a39,a40,a41,u42,u43,u44,u45,u46,u47,u48,u49,u50,u51,u52,u53,u54,u55,u56,u57,u58,undef,undef,undef,undef,undef,undef,undef],defers:=[] } wx)) :
  (Code.region 14 #[zvS,zvT,zvU,zvV,zvW,zvm,zvX,zvY,zvZ,zv0,zpP,zpQ,zpR,zhP,zee,zef,zeg,zhQ,zhR,zeh] true).wp Tryz.prog Q { tmps:=#[.pointer (some ⟨q,0,none⟩),.slice a n c,a2,a3,a4,a5,a6,a7,a8,undef,undef,a11,a12,a13,a14,a15,a16,a17,a18,a19,a20,a21,a22,a23,a24,a25,a26,a27,a28,a29,a30,a31,a32,a33,a34,a35,a36,a37,a38,a39,a40,a41,undef,undef,undef,undef,undef,undef,undef,undef,undef,undef,undef,undef,undef,undef,undef,undef,undef,undef,undef,undef,undef,undef,undef,undef],defers:=[] } va:=by
 refine wp_region_noPanic ?_;refine wp_region_held_drew (S:=fun w'=>w'.cell? ⟨q,0,none⟩=some (.pointer (some ⟨p,0,none⟩))/\w'.cell? ⟨q,1,none⟩=some (.int .i64 (fr:Int))/\w'.cell? ⟨q,2,none⟩=some (.int .i64 (mn:Int))/\w'.cell? ⟨q,3,none⟩=some (.int .i64 gi)) (by kernel_rfl) (⟨b0,b1,b2,b3⟩) (fun hHeld => ?_);obtain⟨Z,hZ⟩:∃Z,va.drew=Z:=⟨_,rfl⟩;have hz:Hid (Bw va Z):=by
  rw[<-hZ];exact (Below.refl _ _).drew
 rw[hZ] at hHeld ⊢;clear hZ b0 b1 b2 b3;refine wT 0 zvS ?_ ?_ ?_;rotate_left
 ·intro w' hSw;clear hSw;unfold zvS;first|(go_simp;done)|(go_simp;with_reducible rfl)
 simp only[zvS,Act.put,wA,wB,wC];refine wT 1 zvT ?_ ?_ ?_;rotate_left
 ·intro w' hSw;clear hSw;unfold zvT;first|(go_simp;done)|(go_simp;with_reducible rfl)
 simp only[zvT,Act.put,wA,wB,wC];refine wT 2 zvU ?_ ?_ ?_;rotate_left
 ·intro w' hSw;clear hSw;unfold zvU;first|(go_simp;done)|(go_simp;with_reducible rfl)
 simp only[zvU,Act.put,wA,wB,wC];refine wT 3 zvV ?_ ?_ ?_;rotate_left
 ·intro w' hSw;clear hSw;unfold zvV;first|(go_simp;done)|(go_simp;with_reducible rfl)
 simp only[zvV,Act.put,wA,wB,wC];refine wT 4 zvW ?_ ?_ ?_;rotate_left
 ·intro w' hSw;obtain⟨s0,s1,s2,s3⟩:=hSw;unfold zvW;first|(go_simp;done)|(go_simp;with_reducible rfl)
 simp only[zvW,Act.put,wA,wB,wC];refine wT 6 zvX ?_ ?_ ?_;rotate_left
 ·intro w' hSw;clear hSw;unfold zvX;first|(go_simp;done)|(go_simp;with_reducible rfl)
 simp only[zvX,Act.put,wA,wB,wC];refine wT 7 zvY ?_ ?_ ?_;rotate_left
 ·intro w' hSw;clear hSw;unfold zvY;first|(go_simp;done)|(go_simp;with_reducible rfl)
 simp only[zvY,Act.put,wA,wB,wC];refine wT 8 zvZ ?_ ?_ ?_;rotate_left
 ·intro w' hSw;clear hSw;unfold zvZ;first|(go_simp;done)|(go_simp;with_reducible rfl)
 simp only[zvZ,Act.put,wA,wB,wC];refine wT 9 zv0 ?_ ?_ ?_;rotate_left
 ·intro w' hSw;clear hSw;unfold zv0;first|(go_simp;done)|(go_simp;with_reducible rfl)
 simp only[zv0,Act.put,wA,wB,wC];refine wT 10 zpP ?_ ?_ ?_;rotate_left
 ·intro w' hSw;obtain⟨s0,s1,s2,s3⟩:=hSw;unfold zpP;first|(go_simp;done)|(go_simp;with_reducible rfl)
 simp only[zpP,Act.put,wA,wB,wC];refine wT 11 zpQ ?_ ?_ ?_;rotate_left
 ·intro w' hSw;clear hSw;unfold zpQ;first|(go_simp;done)|(go_simp;with_reducible rfl)
 simp only[zpQ,Act.put,wA,wB,wC];refine wT 12 zpR ?_ ?_ ?_;rotate_left
 ·intro w' hSw;clear hSw;unfold zpR;first|(go_simp;done)|(go_simp;with_reducible rfl)
 simp only[zpR,Act.put,wA,wB,wC];refine wpAnyH_ready (rs:=[5,17]) (by kernel_rfl) (by simp) ?_;refine AllReadyH.cons (o:=zvm) rfl (fun KK hKK => ?_) (AllReadyH.cons (o:=zhQ) rfl (fun KK hKK => ?_) AllReadyH.nil)
 ·unfold zvm
  go_simp;refine Calls.mono (OT.out _) ?_;rintro e w1 ⟨rfl,hb1⟩;have sz1:=hb1.size;have bl1:=chain hz.out hb1;refine hKK.out _ _ ⟨cell_later hb1 hHeld.1,cell_later hb1 hHeld.2.1,cell_later hb1 hHeld.2.2.1,cell_later hb1 hHeld.2.2.2⟩ (fun hHeld1 => ?_);clear hKK KK;refine wpAnyH_ready (rs:=[13,17]) (by kernel_rfl) (by simp) ?_;refine AllReadyH.cons (o:=zhP) rfl (fun KK hKK => ?_) (AllReadyH.cons (o:=zhQ) rfl (fun KK hKK => ?_) AllReadyH.nil)
  ·unfold zhP
   go_simp;refine Calls.mono (BG.out w1 bl1) ?_;rintro e w2 ⟨pp,i1,i2,i3,xa,xn,xc,i5,s6,rfl,he7,hb7⟩;obtain⟨F7,-,-,bf7,-,-⟩:=id hb7;refine hKK.out _ _ ⟨zbM bf7 hq.out.1 hHeld1.1,zbM bf7 hq.out.1 hHeld1.2.1,zbM bf7 hq.out.1 hHeld1.2.2.1,zbM bf7 hq.out.1 hHeld1.2.2.2⟩ (fun hHeld2 => ?_);clear hKK KK bf7 F7;refine wT 14 zee ?_ ?_ ?_;rotate_left
   ·intro w' hSw;clear hSw;unfold zee;first|(go_simp;done)|(go_simp;with_reducible rfl)
   simp only[zee,Act.put,wA,wB,wC];refine wT 15 zef ?_ ?_ ?_;rotate_left
   ·intro w' hSw;clear hSw;unfold zef;first|(go_simp;done)|(go_simp;with_reducible rfl)
   simp only[zef,Act.put,wA,wB,wC];refine wT 16 zeg ?_ ?_ ?_;rotate_left
   ·intro w' hSw;clear hSw;unfold zeg;first|(go_simp;done)|(go_simp;with_reducible rfl)
   simp only[zeg,Act.put,wA,wB,wC];refine wpAnyH_ready (rs:=[17]) (by kernel_rfl) (by simp) ?_;refine AllReadyH.cons (o:=zhQ) rfl (fun KK hKK => ?_) AllReadyH.nil;unfold zhQ;go_simp;have nw3:Blk (w2.alloc (.cells #[.pointer none,.int .i64 0,.int .i64 0,.int .i64 0,.slice none 0 0,.int .i64 0,.string ⟨#[]⟩] 237)) (w2.heap.size) hz0:=zbA w2 hz0 _ (by simp) _ (by simp);refine hKK.out _ _ ⟨zab hHeld2.1,zab hHeld2.2.1,zab hHeld2.2.2.1,zab hHeld2.2.2.2⟩ (fun hHeld3 => ?_);clear hKK KK;refine wpAnyH_ready (rs:=[18]) (by kernel_rfl) (by simp) ?_;refine AllReadyH.cons (o:=zhR) rfl (fun KK hKK => ?_) AllReadyH.nil;have FI:Hid _:=zvl (pp:=pp) (i1:=i1) (i2:=i2) (i3:=i3) (i5:=i5) (s6:=s6) 237 bl1 hb7;unfold zhR;go_simp;refine hKK.out _ _ ⟨zab hHeld2.1,zab hHeld2.2.1,zab hHeld2.2.2.1,zab hHeld2.2.2.2⟩ (fun hHeld4 => ?_);clear hKK KK;refine wT 19 zeh ?_ ?_ ?_;rotate_left
   ·intro w' hSw;clear hSw;unfold zeh;first|(go_simp;done)|(go_simp;with_reducible rfl)
   simp only[zeh,Act.put,wA,wB,wC];refine wpAnyH_done (by kernel_rfl) ?_ _;refine NoPanic.normal ?_;exact hQ.out _ _ _ _ _ _ _ _ _ _ _ _ _ _ _ _ _ _ _ _ _ _ _ _ _ _ _ _ he7 FI.out
  ·unfold zhQ
   go_simp;have nw2:Blk (w1.alloc (.cells #[.pointer none,.int .i64 0,.int .i64 0,.int .i64 0,.slice none 0 0,.int .i64 0,.string ⟨#[]⟩] 237)) (w1.heap.size) hz0:=zbA w1 hz0 _ (by simp) _ (by simp);have bs2:=bl1.size;have bl2:=chain bl1 (nb w1 (.cells #[.pointer none,.int .i64 0,.int .i64 0,.int .i64 0,.slice none 0 0,.int .i64 0,.string ⟨#[]⟩] 237));refine hKK.out _ _ ⟨zab hHeld1.1,zab hHeld1.2.1,zab hHeld1.2.2.1,zab hHeld1.2.2.2⟩ (fun hHeld2 => ?_);clear hKK KK;refine wpAnyH_ready (rs:=[13]) (by kernel_rfl) (by simp) ?_;refine AllReadyH.cons (o:=zhP) rfl (fun KK hKK => ?_) AllReadyH.nil;unfold zhP;go_simp;refine Calls.mono (BG.out (w1.alloc (.cells #[.pointer none,.int .i64 0,.int .i64 0,.int .i64 0,.slice none 0 0,.int .i64 0,.string ⟨#[]⟩] 237)) bl2) ?_;rintro e w3 ⟨pp,i1,i2,i3,xa,xn,xc,i5,s6,rfl,he7,hb7⟩;obtain⟨F7,-,-,bf7,-,-⟩:=id hb7;refine hKK.out _ _ ⟨zbM bf7 hq.out.1 hHeld2.1,zbM bf7 hq.out.1 hHeld2.2.1,zbM bf7 hq.out.1 hHeld2.2.2.1,zbM bf7 hq.out.1 hHeld2.2.2.2⟩ (fun hHeld3 => ?_);clear hKK KK bf7 F7;refine wT 14 zee ?_ ?_ ?_;rotate_left
   ·intro w' hSw;clear hSw;unfold zee;first|(go_simp;done)|(go_simp;with_reducible rfl)
   simp only[zee,Act.put,wA,wB,wC];refine wT 15 zef ?_ ?_ ?_;rotate_left
   ·intro w' hSw;clear hSw;unfold zef;first|(go_simp;done)|(go_simp;with_reducible rfl)
   simp only[zef,Act.put,wA,wB,wC];refine wT 16 zeg ?_ ?_ ?_;rotate_left
   ·intro w' hSw;clear hSw;unfold zeg;first|(go_simp;done)|(go_simp;with_reducible rfl)
   simp only[zeg,Act.put,wA,wB,wC];refine wpAnyH_ready (rs:=[18]) (by kernel_rfl) (by simp) ?_;refine AllReadyH.cons (o:=zhR) rfl (fun KK hKK => ?_) AllReadyH.nil;have hHn:va.heap.size<=w1.heap.size:=by have:=hz.out.size;omega
   have hHF:¬F (w1.heap.size):=fun c=>by have:=hF.out _ c;omega
   have hne:q≠w1.heap.size:=fun c=>by have:=hq.out.2;omega
   have FI:Hid _:=zq4 (pp:=pp) (i1:=i1) (i2:=i2) (i3:=i3) (i5:=i5) (s6:=s6) hw.out bl2 hb7 nw2 hHF hHn;obtain⟨F7,-,-,bf7,-,-⟩:=id hb7;have bk7:=nw2.bf bf7 hHF;have z0:=bk7.c 0 _ rfl;have z1:=bk7.c 1 _ rfl;have z2:=bk7.c 2 _ rfl;have z3:=bk7.c 3 _ rfl;have z4:=bk7.c 4 _ rfl;have z5:=bk7.c 5 _ rfl;have z6:=bk7.c 6 _ rfl;have zf:=bk7.f;unfold zhR;go_simp;refine hKK.out _ _ (zq5 hne hHeld3) (fun hHeld4 => ?_);clear hKK KK bk7 bf7 F7 z0 z1 z2 z3 z4 z5 z6 zf;refine wT 19 zeh ?_ ?_ ?_;rotate_left
   ·intro w' hSw;clear hSw;unfold zeh;first|(go_simp;done)|(go_simp;with_reducible rfl)
   simp only[zeh,Act.put,wA,wB,wC];refine wpAnyH_done (by kernel_rfl) ?_ _;refine NoPanic.normal ?_;exact hQ.out _ _ _ _ _ _ _ _ _ _ _ _ _ _ _ _ _ _ _ _ _ _ _ _ _ _ _ _ he7 FI.out
 ·unfold zhQ
  go_simp;have nw1:Blk (Z.alloc (.cells #[.pointer none,.int .i64 0,.int .i64 0,.int .i64 0,.slice none 0 0,.int .i64 0,.string ⟨#[]⟩] 237)) (Z.heap.size) hz0:=zbA Z hz0 _ (by simp) _ (by simp);have bs1:=hz.out.size;have bl1:=chain hz.out (nb Z (.cells #[.pointer none,.int .i64 0,.int .i64 0,.int .i64 0,.slice none 0 0,.int .i64 0,.string ⟨#[]⟩] 237));refine hKK.out _ _ ⟨zab hHeld.1,zab hHeld.2.1,zab hHeld.2.2.1,zab hHeld.2.2.2⟩ (fun hHeld1 => ?_);clear hKK KK;refine wpAnyH_ready (rs:=[5]) (by kernel_rfl) (by simp) ?_;refine AllReadyH.cons (o:=zvm) rfl (fun KK hKK => ?_) AllReadyH.nil;unfold zvm;go_simp;refine Calls.mono (OT.out _) ?_;rintro e w2 ⟨rfl,hb2⟩;have sz2:=hb2.size;have bl2:=chain bl1 hb2;have bh2:=nw1.later hb2;refine hKK.out _ _ ⟨cell_later hb2 hHeld1.1,cell_later hb2 hHeld1.2.1,cell_later hb2 hHeld1.2.2.1,cell_later hb2 hHeld1.2.2.2⟩ (fun hHeld2 => ?_);clear hKK KK;refine wpAnyH_ready (rs:=[13]) (by kernel_rfl) (by simp) ?_;refine AllReadyH.cons (o:=zhP) rfl (fun KK hKK => ?_) AllReadyH.nil;unfold zhP;go_simp;refine Calls.mono (BG.out w2 bl2) ?_;rintro e w3 ⟨pp,i1,i2,i3,xa,xn,xc,i5,s6,rfl,he7,hb7⟩;obtain⟨F7,-,-,bf7,-,-⟩:=id hb7;refine hKK.out _ _ ⟨zbM bf7 hq.out.1 hHeld2.1,zbM bf7 hq.out.1 hHeld2.2.1,zbM bf7 hq.out.1 hHeld2.2.2.1,zbM bf7 hq.out.1 hHeld2.2.2.2⟩ (fun hHeld3 => ?_);clear hKK KK bf7 F7;refine wT 14 zee ?_ ?_ ?_;rotate_left
  ·intro w' hSw;clear hSw;unfold zee;first|(go_simp;done)|(go_simp;with_reducible rfl)
  simp only[zee,Act.put,wA,wB,wC];refine wT 15 zef ?_ ?_ ?_;rotate_left
  ·intro w' hSw;clear hSw;unfold zef;first|(go_simp;done)|(go_simp;with_reducible rfl)
  simp only[zef,Act.put,wA,wB,wC];refine wT 16 zeg ?_ ?_ ?_;rotate_left
  ·intro w' hSw;clear hSw;unfold zeg;first|(go_simp;done)|(go_simp;with_reducible rfl)
  simp only[zeg,Act.put,wA,wB,wC];refine wpAnyH_ready (rs:=[18]) (by kernel_rfl) (by simp) ?_;refine AllReadyH.cons (o:=zhR) rfl (fun KK hKK => ?_) AllReadyH.nil;have hHn:va.heap.size<=Z.heap.size:=by have:=hz.out.size;omega
  have hHF:¬F (Z.heap.size):=fun c=>by have:=hF.out _ c;omega
  have hne:q≠Z.heap.size:=fun c=>by have:=hq.out.2;omega
  have FI:Hid _:=zq4 (pp:=pp) (i1:=i1) (i2:=i2) (i3:=i3) (i5:=i5) (s6:=s6) hw.out bl2 hb7 bh2 hHF hHn;obtain⟨F7,-,-,bf7,-,-⟩:=id hb7;have bk7:=bh2.bf bf7 hHF;have z0:=bk7.c 0 _ rfl;have z1:=bk7.c 1 _ rfl;have z2:=bk7.c 2 _ rfl;have z3:=bk7.c 3 _ rfl;have z4:=bk7.c 4 _ rfl;have z5:=bk7.c 5 _ rfl;have z6:=bk7.c 6 _ rfl;have zf:=bk7.f;unfold zhR;go_simp;refine hKK.out _ _ (zq5 hne hHeld3) (fun hHeld4 => ?_);clear hKK KK bk7 bf7 F7 z0 z1 z2 z3 z4 z5 z6 zf;refine wT 19 zeh ?_ ?_ ?_;rotate_left
  ·intro w' hSw;clear hSw;unfold zeh;first|(go_simp;done)|(go_simp;with_reducible rfl)
  simp only[zeh,Act.put,wA,wB,wC];refine wpAnyH_done (by kernel_rfl) ?_ _;refine NoPanic.normal ?_;exact hQ.out _ _ _ _ _ _ _ _ _ _ _ _ _ _ _ _ _ _ _ _ _ _ _ _ _ _ _ _ he7 FI.out
end Go.Proofs.YtjcppbhgjchjaaaGreatDoor.Sto
