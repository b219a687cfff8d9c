/- A part of the walk. -/
import Derived.Test.YtjcppbhgjchjaaaGreatDoorZr2G33
set_option maxHeartbeats 8000000
set_option maxRecDepth 20000
namespace Go.Proofs.YtjcppbhgjchjaaaGreatDoor.Sto
open Go.RowKit Go.Proofs.Fd Go.Proofs.Dk Go.Proofs.Lg
theorem zmK {t:Bs} {l:List Bs} (h:may t≠0):zg1 (t::l)=may t:=if_pos h
theorem ziY {t:Bs} {l:List Bs} (h:may t=0):zg1 (t::l)=zg1 l:=if_neg (fun c=>c h)
theorem ziZ (l:List Bs) (k:Nat) (hk:k < l.length):sns (l.take (k+1))=sns (l.take k)+sn l[k]:=by
 have:∀(l:List Bs) (t:Bs),sns (l++[t])=sns l+sn t:=fun l t=>by
  induction l with
  | nil=>simp[sns]
  | cons x l ih=>rw[List.cons_append,sns,ih,sns];omega
 rw[List.take_succ_eq_append_getElem hk,this]
theorem zmL (l:List Bs) (k:Nat) (h:∀t∈l,t.length<=2000):sns (l.take k)<=100*k:=by
 induction k with
 | zero=>simp[sns]
 | succ k ih =>
  by_cases hk:k < l.length
  ·rw[ziZ l k hk]
   have:sn l[k]<=100:=by
    have:=h _ (List.getElem_mem hk);unfold sn;omega
   omega
  ·rw[List.take_of_length_le (by omega)] at ih ⊢
   omega
theorem zcq:∀(l:List Bs) (k:Nat),(∀i (hi:i < l.length),i < k->may l[i]=0)->zg1 l=zg1 (l.drop k)
 | [],k,_=>by rw[List.drop_nil]
 | t::l,0,_=>rfl
 | t::l,k+1,h=>by
  rw[ziY (show may t=0 from h 0 (by simp) (by omega)),List.drop_succ_cons];exact zcq l k (fun i hi hk=>h (i+1) (by simpa using hi) (by omega))
def cmR (s:St) (fr2 mn g:Nat) (l:List Bs):Int×St:=if zg1 l≠0 then (zg1 l,s) else if mn - 1 < sns l then (151,s) else if 2147483647<=g then (2,s) else bgn s fr2 mn (g+1) l
def CmP (w va:World) (p:Nat) (F:Nat->Prop) (q fr fr2 mn g:Nat) (v:Value) (ts:List Bs) (tk:Nat) (m:Bs) (l:List Bs) (y:Int×St) (w':World):Prop :=
 ∃F' v',Nx2 va F q v F' v'/\Bf (FH F q v) va w'/\(y.1=0/\HD w w' p F' y.2 q fr2 mn (g+1) v' l (tkn 1 l) (mks (hm (g+1)) l) []\/y.1≠0/\HD w w' p F' y.2 q fr mn g v' ts tk m [])
theorem zfA:∀{l:List Bs},zg1 l=0->∀t∈l,1<=t.length/\t.length<=2000
 | [],_,t,h=>by cases h
 | x::l,h,t,ht=>by
  by_cases hx:may x=0
  ·rw[ziY hx] at h
   rcases List.mem_cons.1 ht with rfl|ht
   ·exact zeI hx
   ·exact zfA h t ht
  ·rw[zmK hx] at h
   exact absurd h hx
theorem zgI (w va:World) (p:Nat) (F:Nat->Prop) (s:St) (q fr mn g:Nat) (v:Value) (ts:List Bs) (tk:Nat) (m:Bs) (a:Option Addr) (n c:Nat) (l:List Bs) (hn:l.length=n) (hn63:n<=10000000000000) (h2:2*mn<=s.n) (hmn:2<=mn) (hgm:g<=2147483647) (hfr:fr=0\/fr=mn) (hl:s.l.length+2000<=1000000) (hk:Hid (Kh w)) (h:Hid (HD w va p F s q fr mn g v ts tk m [])) (hx:Hid (zcf va a l)) (ha:Hid (Ap a l F)) :
  Cl 207 #[.pointer (some ⟨q,0,none⟩),.slice a n c] va fun e w'=>e = .returned (.int .i64 (cmR s (mn - fr) mn g l).1)/\CmP w va p F q fr (mn - fr) mn g v ts tk m l (cmR s (mn - fr) mn g l) w':=by
 have HN:Hid (l.length=n):=hn;have hs2:=h.out.dl.at_.1.n2;have STAY:Hid (∀x:Int,x≠0->CmP w va p F q fr (mn - fr) mn g v ts tk m l (x,s) va):=fun x hx=>⟨F,v,Nx2.refl _ _ _ _,Bf.refl _ _,.inr ⟨hx,h.out⟩⟩
 obtain⟨fr2,hfr2⟩:∃fr2,mn - fr=fr2:=⟨_,rfl⟩;rw[hfr2] at STAY ⊢;have HFR2:Hid (mn - fr=fr2):=hfr2;clear hfr2;obtain⟨r,hr⟩:∃r,cmR s fr2 mn g l=r:=⟨_,rfl⟩;have HR:Hid (cmR s fr2 mn g l=r):=hr;rw[hr];clear hr hn;go_enter Tryz.func207, Tryz.ntmps207;go_wp2;go_loopw [5,13] (fun sm i wr=>∃k:Nat,k<=n/\i = .int .i64 (k:Int)/\sm = .int .i64 (sns (l.take k):Int)/\va=wr/\Hid (∀j (hj:j < l.length),j < k->may l[j]=0)) (fun _ i _=>n - (intOf i).toNat)
 case atStart=>exact⟨0,Nat.zero_le _,rfl,rfl,rfl,fun _ _ h=>absurd h (Nat.not_lt_zero _)⟩
 case round =>
  obtain⟨k,hkn,rfl,rfl,rfl,J⟩:=hrel;by_cases hlt:k < n
  ·have hkl:k < l.length:=by rw[HN.out];exact hlt
   have g1:(k:Int) < (n:Int):=by omega
   obtain⟨b,o,rfl,c0⟩:=hx.out k hkl;have ES:=ziZ l k hkl;have EM:=zcq l k J.out;rw[List.drop_eq_getElem_cons hkl] at EM;have JJ:Hid (may l[k]=0->∀j (hj:j < l.length),j < k+1->may l[j]=0):=fun h0 j hj hjk=>by
    by_cases e:j=k
    ·subst e;exact h0
    ·exact J.out j hj (by omega)
   have SB:sns (l.take k)<=100*k:=by
    have hb:=zmL (l.take k) k (fun t ht=>by
     obtain⟨j,hj,rfl⟩:=List.getElem_of_mem ht;rw[List.getElem_take];rw[List.length_take] at hj;exact (zeI (J.out j (by omega) (by omega))).2)
    rw[List.take_take,Nat.min_self] at hb;exact hb
   have CH:Hid (Cl 203 #[.string (st l[k])] va fun e w'=>e = .returned (.int .i64 (may l[k]))/\w'=va):=zeE (st l[k]) va;unfold sv at c0;by_cases h0:may l[k]=0
   ·have hb:=zeI h0
    have SO:Hid (Cl 204 #[.string (st l[k])] va fun e w'=>e = .returned (.int .i64 (sn l[k]:Int))/\w'=va):=zbt l[k] (by omega) va;have hsn:sn l[k]<=100:=by unfold sn;omega
    have JN:Hid _:=JJ.out h0;rw[h0] at CH;have HES:Hid (sns (l.take (k+1))=sns (l.take k)+sn l[k]):=ES;have y1:IntKind.i64.wrap ((sns (l.take k):Int)+(sn l[k]:Int))=(sns (l.take k):Int)+(sn l[k]:Int):=by rw[IntKind.wrap_i64];omega
    obtain⟨z,hz⟩:∃z,sn l[k]=z:=⟨_,rfl⟩;obtain⟨u,hu⟩:∃u,sns (l.take k)=u:=⟨_,rfl⟩;obtain⟨T,hT⟩:∃T,st l[k]=T:=⟨_,rfl⟩;rw[hz] at SO HES y1;rw[hu] at HES y1 ⊢;rw[hT] at CH SO c0;clear hz hu hT ES EM SB JJ J h0 hb hsn STAY h hx ha HR hl h2 hmn hfr hs2;go_wp2_with fail;refine Calls.mono CH.out ?_;rintro e w1 ⟨rfl,rfl⟩;go_wp2_with fail;refine Calls.mono SO.out ?_;rintro e w2 ⟨rfl,rfl⟩;go_wp2;go_roundw
    case rel=>exact⟨k+1,by omega,rfl,by rw[HES.out];simp,by first|rfl|trivial,JN.out⟩
    case measure=>simp[intOf];omega
   ·rw[zmK h0] at EM
    have ER:Hid (r=(may l[k],s)):=by
     show r=_;rw[<-HR.out,cmR,if_pos (by rw[EM];exact h0),EM]
    have FF:Hid _:=STAY.out _ h0;obtain⟨x,hxx⟩:∃x,may l[k]=x:=⟨_,rfl⟩;rw[hxx] at CH ER FF h0;obtain⟨T,hT⟩:∃T,st l[k]=T:=⟨_,rfl⟩;rw[hT] at CH c0;clear hT hxx ES EM SB JJ J STAY h hx ha HR hl h2 hmn hfr hs2;go_wp2_with fail;refine Calls.mono CH.out ?_;rintro e w1 ⟨rfl,rfl⟩;go_wp2;go_ret;exact⟨by rw[ER.out];rfl,by rw[ER.out];exact FF.out⟩
  ·obtain rfl:k=n:=by omega
   have g1:¬(k:Int) < (k:Int):=by omega
   have e0:zg1 l=0:=by
    rw[zcq l k J.out,List.drop_of_length_le (by rw[HN.out];exact Nat.le_refl _)];rfl
   have e1:l.take k=l:=List.take_of_length_le (by rw[HN.out];exact Nat.le_refl _);rw[e1];have k2:=h.out.hf.bk.c 2 _ rfl;have HR1:=HR.out;rw[cmR,if_neg (by rw[e0];simp)] at HR1;have ym:IntKind.i64.wrap ((mn:Int) - 1)=(mn:Int) - 1:=by rw[IntKind.wrap_i64];omega
   by_cases h3:mn - 1 < sns l
   ·rw[if_pos h3] at HR1
    have ER:Hid (r=(151,s)):=HR1.symm;have FF:Hid _:=STAY.out 151 (by decide);have g3:(mn:Int) - 1 < (sns l:Int):=by omega
    obtain⟨sm,hsm⟩:∃sm:Int,(sns l:Int)=sm:=⟨_,rfl⟩;rw[hsm] at g3 ⊢;clear hsm HR1 STAY h hx ha HR hl J e0 e1;go_wp2;go_ret;exact⟨by rw[ER.out];rfl,by rw[ER.out];exact FF.out⟩
   ·rw[if_neg h3] at HR1
    have g3:¬(mn:Int) - 1 < (sns l:Int):=by omega
    have k3:=h.out.hf.bk.c 3 _ rfl;by_cases h4:2147483647<=g
    ·rw[if_pos h4] at HR1
     have ER:Hid (r=(2,s)):=HR1.symm;have FF:Hid _:=STAY.out 2 (by decide);have g4:(g:Int)=2147483647:=by omega
     obtain⟨sm,hsm⟩:∃sm:Int,(sns l:Int)=sm:=⟨_,rfl⟩;rw[hsm] at g3 ⊢;obtain⟨gi,hgi⟩:∃gi:Int,(g:Int)=gi:=⟨_,rfl⟩;rw[hgi] at k3 g4;clear hsm HR1 STAY h hx ha HR hl J e0 e1 h4 hgi hgm;subst g4;go_wp2;go_ret;exact⟨by rw[ER.out];rfl,by rw[ER.out];exact FF.out⟩
    ·rw[if_neg h4] at HR1
     have hfr2:=HFR2.out;have hf2:fr2+mn<=s.n:=by rcases hfr with rfl|rfl <;> omega
     have hf3:fr<=mn:=by rcases hfr with rfl|rfl <;> omega
     have htk:tkn 1 l<=mn:=by rw[zb1];omega
     have OT:Hid (∀w,Cl 139 #[.agg #[.pointer (some ⟨p,0,none⟩),.int .i64 (fr:Int),.int .i64 (mn:Int)]] w fun e w'=>e = .returned (.agg #[.pointer (some ⟨p,0,none⟩),.int .i64 (fr2:Int),.int .i64 (mn:Int)])/\Bw w w'):=fun w=>by
      have:=zb8 w p fr mn hf3 (by omega);rw[hfr2] at this;exact this
     have BG:Hid (∀V,Bw va V->Cl 140 #[.agg #[.pointer (some ⟨p,0,none⟩),.int .i64 (fr2:Int),.int .i64 (mn:Int)],.int .i64 ((g:Int)+1),.slice a k c] V fun e w'=>∃pp i1 i2 i3 xa xn xc i5 s6,e = .returned (.tuple #[.agg #[.pointer pp,.int .i64 i1,.int .i64 i2,.int .i64 i3,.slice xa xn xc,.int .i64 i5,.string s6],.int .i64 r.1])/\(r.1=0->pp=some ⟨p,0,none⟩/\i1=(fr2:Int)/\i2=(mn:Int)/\i3=((g+1:Nat):Int)/\i5=(tkn 1 l:Int)/\s6=st (mks (hm (g+1)) l))/\Bn7 w V p F r.2 (if r.1=0 then l else []) xa xn xc w'):=fun V hb=>by
      have:=zeH w V p F s fr2 mn (g+1) a k c l (by omega) hf2 HN.out (fun t ht=>(zfA e0 t ht).2) htk (by omega) hk (h.out.dl.later hb) (hx.out.later hb) ha;rw[HR1] at this;refine this.mono fun e w' ⟨F2,d1,d2,d3,hres⟩ => ?_
      rcases hres with ⟨h0,v2,rfl,r2,n2⟩|⟨h0,rfl⟩
      ·obtain⟨ya,yn,yc,rfl⟩:=owns_sliceS r2
       refine⟨_,_,_,_,ya,yn,yc,_,_,by rw[h0];rfl,fun _=>⟨rfl,rfl,rfl,rfl,rfl,rfl⟩,F2,d1,d2,d3,?_,n2⟩;rw[if_pos h0];exact r2
      ·refine⟨_,_,_,_,none,0,0,_,_,rfl,fun c=>absurd c h0,F2,d1,d2,d3,?_,nofun⟩
       rw[if_neg h0];exact zaz _
     have e5:(((g+1:Nat):Int))=(g:Int)+1:=by omega
     have c0:=h.out.hf.bk.c 0 _ rfl;have c1:=h.out.hf.bk.c 1 _ rfl;have HW:Hid (w.heap.size<=va.heap.size):=h.out.dl.below.size;have HFF:Hid (∀y,F y->y < va.heap.size):=fun y c=>h.out.dl.at_.lt c
     have HQ:Hid (¬F q/\q < va.heap.size):=⟨(h.out.ap q (.inl rfl)).1,h.out.hf.bk.lt⟩;have HGG:Hid (∃gi:Int,(g:Int)=gi):=⟨_,rfl⟩;obtain⟨gi,hgi⟩:=HGG.out;have g4:¬gi=2147483647:=by omega
     have y1:IntKind.i64.wrap (gi+1)=gi+1:=by rw[IntKind.wrap_i64];omega
     rw[hgi] at k3 BG;have HG:Hid (gi+1=((g+1:Nat):Int)):=by
      show gi+1=_;omega
     obtain⟨x,hxx⟩:∃x,r.1=x:=⟨_,rfl⟩;have HX:Hid (r.1=x):=hxx;rw[hxx] at BG;obtain⟨sm,hsm⟩:∃sm:Int,(sns l:Int)=sm:=⟨_,rfl⟩;rw[hsm] at g3 ⊢;clear hsm hgi HR1 STAY hx ha HR hl J e0 e1 h4 h3 hfr hfr2 hf2 hf3 htk e5 hxx HGG;go_upto_region 14 with fail
     refine zei w p F r.2 (if x=0 then l else []) q fr fr2 mn gi x va a k c (fun pp i1 i2 i3 i5 s6=>x=0->pp=some ⟨p,0,none⟩/\i1=(fr2:Int)/\i2=(mn:Int)/\i3=((g+1:Nat):Int)/\i5=(tkn 1 l:Int)/\s6=st (mks (hm (g+1)) l)) HW HFF HQ y1 c0 c1 k2 k3 OT BG _ _ _ _ _ _ _ _ _ _ _ _ _ _ _ _ _ _ _ _ _ _ _ _ _ _ _ _ _ _ _ _ _ _ _ _ _ _ _ ?_;intro H pp i1 i2 i3 xa xn xc i5 s6 wx u42 u43 u44 u45 u46 u47 u48 u49 u50 u51 u52 u53 u54 u55 u56 u57 u58 hE hC;have HC:Hid _:=hC;obtain⟨⟨F2,d1,d2,d3,r2,n2⟩,bk,nH⟩:=id hC;have K2:Hid (HD w wx p F2 r.2 q fr mn g v ts tk m []):=h.out.disk d1 d2 d3;have D3:Hid (Bf F va wx/\Nx va F F2):=⟨d3,d2⟩;clear d1 d2 d3 OT BG c0 c1 k2 k3 hC;by_cases h0:x=0
     ·obtain⟨rfl,rfl,rfl,rfl,rfl,rfl⟩:=hE h0
      subst h0;have rr:OwnsS wx (.slice xa xn xc) l:=r2;have NQ:(Value.slice xa xn xc).ownBlock≠some q:=fun e=>by
       have:=(n2 q e).1;have:=HQ.out.2;omega
      have FF:Hid (CmP w va p F q fr fr2 mn g v ts tk m l r (wx.setCells q 0 (hc p fr2 mn (g+1) (.slice xa xn xc) (tkn 1 l) (mks (hm (g+1)) l) []))):=by
       have hbf:Bf (fun y=>y=q) wx (wx.setCells q 0 (hc p fr2 mn (g+1) (.slice xa xn xc) (tkn 1 l) (mks (hm (g+1)) l) [])):=Bf.sets (fun y=>y=q) q rfl _ 0 wx;refine⟨F2,.slice xa xn xc,⟨D3.out.2,fun y e => ?_⟩,?_,.inl ⟨HX.out,⟨K2.out.dl.sets (K2.out.ap q (.inl rfl)).1 (K2.out.ap q (.inl rfl)).2 _,⟨K2.out.hf.bk.put _ rfl,ownsRow_same rr (fun y e=>zad wx q 0 _ y (fun d=>NQ (by rw[e,d]))),NQ⟩,fun y e => ?_⟩⟩⟩
       ·rcases e with e|e
        ·exact .inl (.inl e)
        ·exact .inr (n2 y e).1
       ·exact (D3.out.1.wide fun y e => .inl e).trans (Nx.refl _ _) (hbf.wide fun y e => .inr (.inl e))
       ·rcases e with e|e
        ·rw[e]
         exact K2.out.ap q (.inl rfl)
        ·exact⟨(n2 y e).2,Nat.le_trans HW.out (n2 y e).1⟩
      have c0:=K2.out.hf.bk.c 0 _ rfl;have c1:=K2.out.hf.bk.c 1 _ rfl;have c2:=K2.out.hf.bk.c 2 _ rfl;have c3:=K2.out.hf.bk.c 3 _ rfl;have c4:=K2.out.hf.bk.c 4 _ rfl;have c5:=K2.out.hf.bk.c 5 _ rfl;have c6:=K2.out.hf.bk.c 6 _ rfl;have cf:=K2.out.hf.bk.f;have z0:=bk.c 0 _ rfl;have z1:=bk.c 1 _ rfl;have z2:=bk.c 2 _ rfl;have z3:=bk.c 3 _ rfl;have z4:=bk.c 4 _ rfl;have z5:=bk.c 5 _ rfl;have z6:=bk.c 6 _ rfl;have hqH:q≠H:=fun e=>by have:=HQ.out.2;omega
      obtain⟨gg,hgg⟩:∃gg:Int,((g+1:Nat):Int)=gg:=⟨_,rfl⟩;obtain⟨t1,ht1⟩:∃t1:Int,((tkn 1 l:Nat):Int)=t1:=⟨_,rfl⟩;unfold hc sv at FF;rw[hgg,ht1] at FF;rw[hgg] at z3;rw[ht1] at z5;clear K2 D3 HC bk r2 n2 rr NQ HFF HQ hgg ht1 h;go_wp2;go_ret;exact⟨by rw[HX.out];rfl,FF.out⟩
     ·have FF:Hid (CmP w va p F q fr fr2 mn g v ts tk m l r wx):=⟨F2,v,⟨D3.out.2,Nx.refl _ _⟩,D3.out.1.wide fun y e => .inl e,.inr ⟨by rw[HX.out];exact h0,K2.out⟩⟩
      clear K2 D3 HC bk r2 n2 HFF HQ h hE;go_wp2;go_ret;exact⟨by rw[HX.out];rfl,FF.out⟩
theorem zvn:∀(l:List Bs) (s:St) (k tk:Nat) (a:Bs),(pts s k tk a l).2.n=s.n
 | [],_,_,_,_=>rfl
 | t::l,s,k,tk,a=>by
  rw[pts];by_cases h:(wrb s (k+tk) (rcd a t)).1=0
  ·rw[zaB h]
   exact (zvn l _ _ _ _).trans (zpJ s _ _)
  ·rw[zaS h]
   exact zpJ s _ _
theorem zpS {z:Int×St} {f:St->Int×St} {N:Nat} (h:z.2.n=N) (hf:∀s,s.n=N->(f s).2.n=N):(thn z f).2.n=N:=by
 by_cases h0:z.1=0
 ·rw[zaB h0];exact hf _ h
 ·rw[zaS h0];exact h
theorem zvo (s:St) (k H g:Nat) (ts:List Bs):(bgn s k H g ts).2.n=s.n:=by
 unfold bgn;exact zpS (zvi s k H) fun s1 h1=>zpS ((zvn ts s1 _ _ _).trans h1) fun s2 h2=>zpS ((zpI s2).trans h2) fun s3 h3=>zpS ((zpJ s3 _ _).trans h3) fun s4 h4=>(zpI s4).trans h4
theorem zs2 (s:St) (k H g:Nat) (ts:List Bs):(bgn s k H g ts).2.l.length<=s.l.length+H+sns ts+1:=by
 unfold bgn;have c:=zmC s k H;by_cases h1:(cln s k H).1=0
 ·rw[zaB h1]
  have p:=zhK ts (cln s k H).2 k 1 (hm g);by_cases h2:(pts (cln s k H).2 k 1 (hm g) ts).1=0
  ·rw[zaB h2]
   have q:=zhL (pts (cln s k H).2 k 1 (hm g) ts).2;by_cases h3:syE (pts (cln s k H).2 k 1 (hm g) ts).2=0
   ·rw[zaB h3]
    have r:=zd0 (syS (pts (cln s k H).2 k 1 (hm g) ts).2) k (hd g);rw[zdh] at r;by_cases h4:(wrb (syS (pts (cln s k H).2 k 1 (hm g) ts).2) k (hd g)).1=0
    ·rw[zaB h4]
     have t:=zhL (wrb (syS (pts (cln s k H).2 k 1 (hm g) ts).2) k (hd g)).2;show (syS _).l.length<=_
     omega
    ·rw[zaS h4];omega
   ·rw[zaS h3]
    show (syS _).l.length<=_;omega
  ·rw[zaS h2];omega
 ·rw[zaS h1];omega
theorem zhS (s:St) (x:Lo) (t:Bs):(app s x t).1.2.l.length<=s.l.length+40/\(app s x t).1.2.n=s.n:=by
 unfold app;by_cases h1:may t≠0
 ·rw[if_pos h1];exact⟨Nat.le_add_right _ _,rfl⟩
 ·rw[if_neg h1]
  by_cases h2:s.n / 2 < x.tk+sn t
  ·rw[if_pos h2];exact⟨Nat.le_add_right _ _,rfl⟩
  ·rw[if_neg h2]
   have r:=zd0 s (x.h*(s.n / 2)+x.tk) (rcd x.mr t);rw[zbs] at r;have hok:=zeI (by simpa using h1);have hsn:sn t<=40:=by unfold sn;omega
   exact⟨by show (wrb _ _ _).2.l.length<=_;omega,zpJ _ _ _⟩
theorem zmM (s:St) (x:Lo) (ts:List Bs):(cmp s x ts).1.2.l.length<=s.l.length+s.n+1/\(cmp s x ts).1.2.n=s.n:=by
 unfold cmp;by_cases h1:zg1 ts≠0
 ·rw[if_pos h1];exact⟨by show s.l.length<=_;omega,rfl⟩
 ·rw[if_neg h1]
  by_cases h2:s.n / 2 - 1 < sns ts
  ·rw[if_pos h2];exact⟨by show s.l.length<=_;omega,rfl⟩
  ·rw[if_neg h2]
   by_cases h3:2147483647<=x.g
   ·rw[if_pos h3];exact⟨by show s.l.length<=_;omega,rfl⟩
   ·rw[if_neg h3]
    have:=zs2 s ((1 - x.h)*(s.n / 2)) (s.n / 2) (x.g+1) ts;exact⟨by show (bgn _ _ _ _ _).2.l.length<=_;omega,zvo _ _ _ _ _⟩
theorem zs3 (s:St) (k:Int) (t:Bs):wrE s k t≠151:=by
 unfold wrE rch
 repeat' split
 all_goals decide
theorem zmN:∀(bs:List Bs) (s:St) (k:Nat),(wrs s k bs).1≠151
 | [],_,_=>by show (0:Int)≠151;decide
 | b::bs,s,k=>by
  rw[wrs];by_cases h:wrE s (k:Int) b=0
  ·rw[zaB h]
   exact zmN bs _ _
  ·rw[zaS h]
   exact zs3 _ _ _
theorem zs4 {s:St} {x:Lo} {r:Bs} (h:(app s x r).1.1=151):app s x r=((151,s),x):=by
 unfold app at h ⊢;by_cases h1:may r≠0
 ·rw[if_pos h1] at h
  exfalso
  revert h;show may r=151->False
  unfold may
  repeat' split
  all_goals decide
 ·rw[if_neg h1] at h ⊢
  by_cases h2:s.n / 2 < x.tk+sn r
  ·rw[if_pos h2]
  ·rw[if_neg h2] at h
   exact absurd h (zmN _ _ _)
structure Lz (w wr:World) (p:Nat) (F:Nat->Prop) (s:St) (q:Nat) (v:Value) (x:Lo):Prop where
 hd_:HD w wr p F s q (x.h*(s.n / 2)) (s.n / 2) x.g v x.ts x.tk x.mr []
 h1:x.h<=1
 n4:4<=s.n
 n2:s.n<=1024
 tk:x.tk<=s.n / 2
 ok:∀t∈x.ts,1<=t.length/\t.length<=2000
 g:x.g<=2147483647
section
variable {w wr:World} {p:Nat} {F:Nat->Prop} {s:St} {q:Nat} {v:Value} {x:Lo}
theorem Lz.later (h:Lz w wr p F s q v x) {w':World} (hb:Bw wr w'):Lz w w' p F s q v x:=⟨h.hd_.later hb,h.h1,h.n4,h.n2,h.tk,h.ok,h.g⟩
theorem Lz.tlen (h:Lz w wr p F s q v x):x.ts.length<=512:=by
 have h1:=zc9 x.ts;have h2:tkn 1 x.ts<=s.n / 2:=h.tk;have h3:=h.n2;omega
theorem Lz.fh (h:Lz w wr p F s q v x) {y:Nat} (hy:FH F q v y):y < wr.heap.size/\w.heap.size<=y:=by
 rcases hy with e|e
 ·exact⟨h.hd_.dl.at_.lt e,h.hd_.dl.new y e⟩
 ·exact⟨h.hd_.hf.lt e,(h.hd_.ap y e).2⟩
theorem Lz.other (h:Lz w wr p F s q v x) {w':World} {G:Nat->Prop} (hb:Bf G wr w') (hG:∀y,FH F q v y->¬G y) (hw:∀y,G y->w.heap.size<=y):Lz w w' p F s q v x :=
 ⟨⟨⟨h.hd_.dl.at_.other hb (fun y hy=>hG y (.inl hy)),h.hd_.dl.new,h.hd_.dl.below.trans (hb.below hw h.hd_.dl.below.size)⟩,h.hd_.hf.bf hb (fun y hy=>hG y (.inr hy)),h.hd_.ap⟩,h.h1,h.n4,h.n2,h.tk,h.ok,h.g⟩
theorem Lz.fr (h:Lz w wr p F s q v x):x.h*(s.n / 2)<=512:=by
 have:=h.n2;rcases (by have:=h.h1;omega:x.h=0\/x.h=1) with e|e
 ·rw[e,Nat.zero_mul];omega
 ·rw[e,Nat.one_mul];omega
end
def LzP (w wr:World) (p:Nat) (F:Nat->Prop) (q:Nat) (v:Value) (s:St) (x:Lo) (w':World):Prop:=∃F' v',Lz w w' p F' s q v' x/\Nx2 wr F q v F' v'/\Bf (FH F q v) wr w'
theorem zgJ (w wr:World) (p:Nat) (F:Nat->Prop) (s:St) (q:Nat) (v:Value) (x:Lo) (X:Ba) (hl:s.l.length+100<=1000000) (hk:Kh w) (h:Lz w wr p F s q v x) :
  Cl 130 #[.pointer (some ⟨q,0,none⟩),.string X] wr fun e w'=>e = .returned (.int .i64 (app s x X.data.toList).1.1)/\LzP w wr p F q v (app s x X.data.toList).1.2 (app s x X.data.toList).2 w':=by
 have hn2:=h.n2;have hfr:=h.fr;have e1:(app s x X.data.toList).1=apR s (x.h*(s.n / 2)) (s.n / 2) x.tk x.mr X.data.toList:=by
  unfold app apR;by_cases h1:may X.data.toList≠0
  ·rw[if_pos h1,if_pos h1]
  ·rw[if_neg h1,if_neg h1]
   by_cases h2:s.n / 2 < x.tk+sn X.data.toList
   ·rw[if_pos h2,if_pos h2]
   ·rw[if_neg h2,if_neg h2]
 have hlen:=zhS s x X.data.toList;refine (zhO w wr p F s q (x.h*(s.n / 2)) (s.n / 2) x.g v x.ts x.tk x.mr X (zfp _ _ rfl) (by have:=h.tlen;omega) h.tk (by omega) (by omega) hl hk h.hd_).mono ?_;rintro e w' ⟨he,F',v',n1,b1,hh⟩;rw[e1];refine⟨he,F',v',?_,n1,b1⟩;rw[e1] at hlen;obtain⟨t,ht⟩:∃t,X.data.toList=t:=⟨_,rfl⟩;rw[ht] at e1 hh hlen ⊢;have hsn:(apR s (x.h*(s.n / 2)) (s.n / 2) x.tk x.mr t).2.n=s.n:=hlen.2;rcases hh with ⟨c0,hh⟩|⟨c0,hh⟩
 ·have h1:may t=0:=by
   by_cases c:may t=0
   ·exact c
   ·exfalso
    unfold apR at c0;rw[if_pos c] at c0;exact c c0
  have h2:¬s.n / 2 < x.tk+sn t:=fun c=>by
   unfold apR at c0;rw[if_neg (by rw[h1];simp),if_pos c] at c0;cases c0
  have e2:(app s x t).2=⟨x.h,x.g,x.ts++[t]⟩:=by
   have c0':(wrb s (x.h*(s.n / 2)+x.tk) (rcd x.mr t)).1=0:=by
    unfold apR at c0;rw[if_neg (by rw[h1];simp),if_neg h2] at c0;exact c0
   unfold app;rw[if_neg (by rw[h1];simp),if_neg h2];show (if (wrb s (x.h*(s.n / 2)+x.tk) (rcd x.mr t)).1=0 then _ else _)=_
   rw[if_pos c0']
  have et:(⟨x.h,x.g,x.ts++[t]⟩:Lo).tk=x.tk+sn t:=zfn x.ts 1 _;have em:(⟨x.h,x.g,x.ts++[t]⟩:Lo).mr=rmk x.mr t:=zfo x.ts (hm x.g) _;rw[e2];refine⟨?_,h.h1,by rw[hsn];exact h.n4,by rw[hsn];exact h.n2,by rw[et,hsn];omega,fun u hu => ?_,h.g⟩
  ·rw[et,em,hsn]
   exact hh
  ·rcases List.mem_append.1 hu with hu|hu
   ·exact h.ok u hu
   ·rw[List.mem_singleton] at hu
    subst hu;exact zeI h1
 ·have e2:(app s x t).2=x:=by
   unfold app;by_cases h1:may t≠0
   ·rw[if_pos h1]
   ·rw[if_neg h1]
    by_cases h2:s.n / 2 < x.tk+sn t
    ·rw[if_pos h2]
    ·rw[if_neg h2]
     have c0':(wrb s (x.h*(s.n / 2)+x.tk) (rcd x.mr t)).1≠0:=by
      unfold apR at c0;rw[if_neg h1,if_neg h2] at c0;exact c0
     show (if (wrb s (x.h*(s.n / 2)+x.tk) (rcd x.mr t)).1=0 then _ else _)=_;rw[if_neg c0']
  rw[e2];exact⟨by rw[hsn];exact hh,h.h1,by rw[hsn];exact h.n4,by rw[hsn];exact h.n2,by rw[hsn];exact h.tk,h.ok,h.g⟩
theorem zfB (w wr:World) (p:Nat) (F:Nat->Prop) (s:St) (q:Nat) (v:Value) (x:Lo) (a:Option Addr) (n c:Nat) (us:List Bs) (hn:us.length=n) (hnb:n<=10000000000000) (hl:s.l.length+4000<=1000000) (hk:Kh w) (h:Lz w wr p F s q v x) (tx:zcf wr a us) (ap:Ap a us F) :
  Cl 207 #[.pointer (some ⟨q,0,none⟩),.slice a n c] wr fun e w'=>e = .returned (.int .i64 (cmp s x us).1.1)/\LzP w wr p F q v (cmp s x us).1.2 (cmp s x us).2 w':=by
 have hn2:=h.n2;have hn4:=h.n4;have h01:x.h=0\/x.h=1:=by have:=h.h1;omega
 have e2:s.n / 2 - x.h*(s.n / 2)=(1 - x.h)*(s.n / 2):=by
  rcases h01 with e|e
  ·rw[e,Nat.zero_mul,Nat.sub_zero,Nat.sub_zero,Nat.one_mul]
  ·rw[e,Nat.one_mul,Nat.sub_self,Nat.sub_self,Nat.zero_mul]
 have e1:(cmp s x us).1=cmR s ((1 - x.h)*(s.n / 2)) (s.n / 2) x.g us:=by
  unfold cmp cmR;by_cases h1:zg1 us≠0
  ·rw[if_pos h1,if_pos h1]
  ·rw[if_neg h1,if_neg h1]
   by_cases h2:s.n / 2 - 1 < sns us
   ·rw[if_pos h2,if_pos h2]
   ·rw[if_neg h2,if_neg h2]
    by_cases h3:2147483647<=x.g
    ·rw[if_pos h3,if_pos h3]
    ·rw[if_neg h3,if_neg h3]
 have hlen:=zmM s x us;refine (zgI w wr p F s q (x.h*(s.n / 2)) (s.n / 2) x.g v x.ts x.tk x.mr a n c us hn (by omega) (by omega) (by omega) h.g (by rcases h01 with e|e;exact .inl (by rw[e,Nat.zero_mul]);exact .inr (by rw[e,Nat.one_mul])) (by omega) hk h.hd_ tx ap).mono ?_;rintro e w' ⟨he,F',v',n1,b1,hh⟩;rw[e2,<-e1] at he hh;refine⟨he,F',v',?_,n1,b1⟩;have hsn:(cmp s x us).1.2.n=s.n:=hlen.2;rcases hh with ⟨c0,hh⟩|⟨c0,hh⟩
 ·have h1:¬zg1 us≠0:=fun c=>by
   unfold cmp at c0;rw[if_pos c] at c0;exact c c0
  have h2:¬s.n / 2 - 1 < sns us:=fun c=>by
   unfold cmp at c0;rw[if_neg h1,if_pos c] at c0;cases c0
  have h3:¬2147483647<=x.g:=fun c=>by
   unfold cmp at c0;rw[if_neg h1,if_neg h2,if_pos c] at c0;cases c0
  have e3:(cmp s x us).2=⟨1 - x.h,x.g+1,us⟩:=by
   have c0':(bgn s ((1 - x.h)*(s.n / 2)) (s.n / 2) (x.g+1) us).1=0:=by
    unfold cmp at c0;rw[if_neg h1,if_neg h2,if_neg h3] at c0;exact c0
   unfold cmp;rw[if_neg h1,if_neg h2,if_neg h3];show (if (bgn s ((1 - x.h)*(s.n / 2)) (s.n / 2) (x.g+1) us).1=0 then _ else _)=_
   rw[if_pos c0']
  rw[e3];refine⟨by rw[hsn];exact hh,by show 1 - x.h<=1;omega,by rw[hsn];exact h.n4,by rw[hsn];exact h.n2,?_,zfA (by simpa using h1),by show x.g+1<=_;omega⟩;rw[hsn];show tkn 1 us<=_
  rw[zb1];omega
 ·have e3:(cmp s x us).2=x:=by
   unfold cmp;by_cases h1:zg1 us≠0
   ·rw[if_pos h1]
   ·rw[if_neg h1]
    by_cases h2:s.n / 2 - 1 < sns us
    ·rw[if_pos h2]
    ·rw[if_neg h2]
     by_cases h3:2147483647<=x.g
     ·rw[if_pos h3]
     ·rw[if_neg h3]
      have c0':(bgn s ((1 - x.h)*(s.n / 2)) (s.n / 2) (x.g+1) us).1≠0:=by
       unfold cmp at c0;rw[if_neg h1,if_neg h2,if_neg h3] at c0;exact c0
      show (if (bgn s ((1 - x.h)*(s.n / 2)) (s.n / 2) (x.g+1) us).1=0 then _ else _)=_;rw[if_neg c0']
  rw[e3];exact⟨by rw[hsn];exact hh,h.h1,by rw[hsn];exact h.n4,by rw[hsn];exact h.n2,by rw[hsn];exact h.tk,h.ok,h.g⟩
theorem zj0 (w wr:World) (p:Nat) (F:Nat->Prop) (s:St) (q:Nat) (v:Value) (x:Lo) (hl:s.l.length<=1000000) (h:Lz w wr p F s q v x) :
  Cl 132 #[.pointer (some ⟨q,0,none⟩)] wr fun e w'=>e = .returned (.int .i64 (syE s))/\LzP w wr p F q v (syS s) x w':=by
 refine (zjZ w wr p F s q _ _ x.g v x.ts x.tk x.mr [] hl h.hd_).mono ?_;rintro e w' ⟨he,F',d1,d2,d3⟩;have hn:=zpI s;exact⟨he,F',v,⟨by rw[hn];exact h.hd_.disk d1 d2 d3,h.h1,by rw[hn];exact h.n4,by rw[hn];exact h.n2,by rw[hn];exact h.tk,h.ok,h.g⟩,⟨d2,Nx.refl _ _⟩,d3.wide fun _ c => .inl c⟩
theorem zmO (w w0:World) (p:Nat) (F0:Nat->Prop) (s:St) (hl:s.l.length+2000<=1000000) (hk:Hid (Kh w)) (D:Hid (Dl w w0 p F0 s)) :
  Cl 76 #[.pointer (some ⟨p,0,none⟩)] w0 fun e w'=>OpP w w0 p F0 (s.n / 2) (opn s).1 (opn s).2 e w':=by
 by_cases h:s.n / 2 < 2
 ·have e:opn s=((4,s),⟨0,0,[]⟩):=by unfold opn;rw[if_pos h]
  rw[e];refine (zhN w w0 p F0 s h D).mono ?_;rintro e w' ⟨he,rfl⟩;exact⟨F0,D.out,Nx.refl _ _,Bf.refl _ _,.inr ⟨(show (4:Int)≠0 by decide),he⟩⟩
 ·exact zmH w w0 p F0 s (by omega) hl hk D
theorem zvp {s:St} (h:(opn s).1.1=0) (hOk:Ok s):4<=s.n/\(opn s).2.h<=1/\(opn s).1.2.n=s.n/\(opn s).2.tk<=s.n / 2/\(opn s).2.g<=2147483647/\∀t∈(opn s).2.ts,1<=t.length/\t.length<=2000:=by
 have og:=zu3 s;unfold opn at h og ⊢;by_cases h1:s.n / 2 < 2
 ·rw[if_pos h1] at h;cases h
 ·rw[if_neg h1] at h og ⊢
  by_cases h2:s.down=true
  ·rw[if_pos h2] at h;cases h
  ·rw[if_neg h2] at h og ⊢
   by_cases h3:(use s).2=0
   ·rw[if_pos h3] at og ⊢
    exact⟨by omega,by show (0:Nat)<=1;decide,zvo _ _ _ _ _,by show 1<=s.n / 2;omega,og,nofun⟩
   ·rw[if_neg h3] at og ⊢
    have hl:((hb s ((use s).1*(s.n / 2)) (s.n / 2)).drop 64).length=64*(s.n / 2 - 1):=by rw[List.length_drop,zeB hOk];omega
    have hfit:=zgv.scan_le 0 [] (s.n / 2) (s.n / 2 - 1) ((hb s ((use s).1*(s.n / 2)) (s.n / 2)).drop 64) (hm (use s).2) 1 hl;refine⟨by omega,?_,zvi _ _ _,?_,og,fun t ht=>zgv.scan_ok _ _ _ t ht⟩
    ·show (use s).1<=1
     unfold use
     split
     ·exact Nat.le_refl 1
     ·exact Nat.zero_le 1
    ·show tkn 1 (zjR s _ _ _)<=s.n / 2
     unfold zjR;omega
theorem zd3 {w:World} {base base':Nat} {e:TypeId} {size n:Nat} {v:Value} {xs:List Value} (h:w.ownsRow base e size v n xs) (hb:base'<=base):w.ownsRow base' e size v n xs:=by
 refine⟨h.1,?_⟩;rcases h.2 with h2|⟨g,cap,cur,rfl,hg,hh⟩
 ·exact .inl h2
 ·exact .inr ⟨g,cap,cur,rfl,Nat.le_trans hb hg,hh⟩
theorem zs5 (base:Nat) (w:World) (v:Value) (xs:List Bs) (h:w.ownsRow base 9 1 v xs.length (scs xs)) (hbase:base<=w.heap.size) (hx:xs.length<=1000000) (t:Bs) :
  ∃v' w',(Builtin.append_ #[25, 25] 25 #[v,.slice (some ⟨w.heap.size,0,none⟩) 1 1]).run Tryz.prog (w.alloc (.cells #[.string (st t)] 9)) = .ok v' w'/\w'.ownsRow base 9 1 v' (xs++[t]).length (scs (xs++[t]))/\(w.alloc (.cells #[.string (st t)] 9)).grownBy w' v.ownBlock:=by
 obtain⟨i0,hi,hz0,hz1,hz2⟩:=info_parts zsX;obtain⟨v',w',r1,r2,r3,-,-⟩:=run_append_own_at (P:=Tryz.prog) (w.alloc (.cells #[.string (st t)] 9)) base 25 25 9 i0 _ 1 16 Tryz.underlying25 hi hz0 hz1 hz2 rfl (by decide) v xs.length (scs xs) (h.alloc _) ⟨w.heap.size,0,none⟩ 1 1 [sv t] rfl (zmJ w (sv t) _) (zmx [t]) (by unfold maxLen;omega) (by omega) (by simp;omega);refine⟨v',w',r1,?_,r3⟩;rw[zhG,List.length_append];exact r2
abbrev stc (q ep:Nat) (va vh:Value) (most:Nat):List Value:=[.pointer (some ⟨q,0,none⟩),.int .i64 (ep:Int),va,vh,.int .i64 (most:Int)]
structure Es (w:World) (b q ep most:Nat) (va vh:Value) (ah he:List Bs):Prop where
 bk:Blk w b (stc q ep va vh most)
 ra:OwnsS w va ah
 rh:OwnsS w vh he
 av:va.ownBlock≠some b
 hv:vh.ownBlock≠some b
 ne:∀g,va.ownBlock=some g->vh.ownBlock≠some g
def EFt (b:Nat) (va vh:Value) (g:Nat):Prop:=g=b\/va.ownBlock=some g\/vh.ownBlock=some g
section
variable {w:World} {b q ep most:Nat} {va vh:Value} {ah he:List Bs}
theorem Es.lt (h:Es w b q ep most va vh ah he) {x:Nat} (hx:EFt b va vh x):x < w.heap.size:=by
 rcases hx with rfl|e|e
 ·exact h.bk.lt
 ·exact (h.ra.lt x e).2
 ·exact (h.rh.lt x e).2
theorem Es.same (h:Es w b q ep most va vh ah he) {w':World} (hs:∀x,EFt b va vh x->w'.heap[x]?=w.heap[x]?):Es w' b q ep most va vh ah he :=
 ⟨h.bk.same (hs b (.inl rfl)),ownsRow_same h.ra (fun x e=>hs x (.inr (.inl e))),ownsRow_same h.rh (fun x e=>hs x (.inr (.inr e))),h.av,h.hv,h.ne⟩
theorem Es.later (h:Es w b q ep most va vh ah he) {w':World} (hb:Bw w w'):Es w' b q ep most va vh ah he:=h.same fun x hx=>hb.block x (h.lt hx)
theorem Es.bf (h:Es w b q ep most va vh ah he) {F:Nat->Prop} {w':World} (hb:Bf F w w') (hF:∀x,EFt b va vh x->¬F x):Es w' b q ep most va vh ah he:=h.same fun x hx=>hb.block x (h.lt hx) (hF x hx)
theorem Es.setc (h:Es w b q ep most va vh ah he) (i:Nat) (u:Value) (hi:i < 5):Blk (w.setCell ⟨b,i,none⟩ u) b ((stc q ep va vh most).set i u)/\OwnsS (w.setCell ⟨b,i,none⟩ u) va ah/\OwnsS (w.setCell ⟨b,i,none⟩ u) vh he :=
 ⟨h.bk.set i hi u,ownsRow_same h.ra (fun x e=>Below.heap_setCell w ⟨b,i,none⟩ u x (fun c=>h.av (by rw[e,c]))),ownsRow_same h.rh (fun x e=>Below.heap_setCell w ⟨b,i,none⟩ u x (fun c=>h.hv (by rw[e,c])))⟩
theorem Es.setEp (h:Es w b q ep most va vh ah he) (k:Nat):Es (w.setCell ⟨b,1,none⟩ (.int .i64 (k:Int))) b q k most va vh ah he:=by
 obtain⟨h1,h2,h3⟩:=h.setc 1 (.int .i64 (k:Int)) (by decide);exact⟨h1,h2,h3,h.av,h.hv,h.ne⟩
theorem Es.setHere (h:Es w b q ep most va vh ah he) {w':World} {v':Value} {us:List Bs} (k:w.grownBy w' vh.ownBlock) (o:OwnsS w' v' us) (hv:v'.ownBlock=vh.ownBlock\/v'.ownBlock=some w.heap.size) :
  Es (w'.setCell ⟨b,3,none⟩ v') b q ep most va v' ah us:=by
 have hq:w'.heap[b]?=w.heap[b]?:=k.block b h.bk.lt (fun e=>h.hv e.symm);have hn:v'.ownBlock≠some b:=fun c=>by
  rcases hv with e|e
  ·exact h.hv (e.symm.trans c)
  ·rw[e] at c
   injection c with c
   have:=h.bk.lt;omega
 have b1:=(h.bk.same hq).set 3 (show 3 < 5 by decide) v';refine⟨b1,ownsRow_same h.ra (fun x e => ?_),ownsRow_same o (fun x e=>Below.heap_setCell w' ⟨b,3,none⟩ v' x (fun c=>hn (by rw[e,c]))),h.av,hn,fun g e c => ?_⟩
 ·rw[Below.heap_setCell w' ⟨b,3,none⟩ v' x (fun c=>h.av (by rw[e,c]))]
  exact k.block x (h.ra.lt x e).2 (fun c=>h.ne x e c.symm)
 ·rcases hv with e2|e2
  ·exact h.ne g e (e2.symm.trans c)
  ·rw[e2] at c
   injection c with c
   have:=(h.ra.lt g e).2;omega
end
theorem zj1 (a:Option Addr) (n c:Nat) (l:List Bs) (hn:l.length=n) (hnb:n<=1000000) (X:Ba) (w:World) (h:Hid (zcf w a l)) :
  Cl 341 #[.slice a n c,.string X] w fun e w'=>∃z:Int,e = .returned (.int .i64 z)/\(0<=z↔X.data.toList∈l)/\w'=w:=by
 have HN:Hid (l.length=n):=hn;clear hn;go_enter Tryz.func341, Tryz.ntmps341;go_wp2;go_loopw [8] (fun i wr=>∃k:Nat,k<=n/\i = .int .i64 (k:Int)/\Hid (X.data.toList ∉ l.take k)/\w=wr) (fun i _=>n - (intOf i).toNat)
 case atStart=>exact⟨0,Nat.zero_le _,rfl,(by rw[List.take_zero];exact List.not_mem_nil),rfl⟩
 case round =>
  obtain⟨k,hk,rfl,J,rfl⟩:=hrel;by_cases hlt:k < n
  ·have hkl:k < l.length:=by rw[HN.out];exact hlt
   have g1:(k:Int) < (n:Int):=by omega
   obtain⟨b1,o1,rfl,c1⟩:=h.out k hkl;have ET:Hid (l.take (k+1)=l.take k++[l[k]]):=List.take_succ_eq_append_getElem hkl;have EM:Hid (l[k]∈l):=List.getElem_mem hkl;obtain⟨t,ht⟩:∃t,l[k]=t:=⟨_,rfl⟩;rw[ht] at c1 ET EM;unfold sv at c1;clear ht;by_cases he:X=st t
   ·subst he
    have EM2:Hid ((st t).data.toList∈l):=EM.out;obtain⟨T,hT⟩:∃T,st t=T:=⟨_,rfl⟩;rw[hT] at c1 EM2 ⊢;clear hT J ET;go_wp2;go_ret;exact⟨(k:Int),rfl,⟨fun _=>by first|exact EM2.out|exact EM.out,fun _=>by omega⟩,rfl⟩
   ·have HE:Hid (X.data.toList≠t):=fun c=>he (by rw[<-c];rfl)
    have hne:(X.toList == (st t).toList)=false:=by
     rw[ByteArray.toList_eq,ByteArray.toList_eq];exact beq_eq_false_iff_ne.2 HE.out
    obtain⟨T,hT⟩:∃T,st t=T:=⟨_,rfl⟩;rw[hT] at c1 hne;clear hT he;go_wp2;go_roundw
    case rel=>exact⟨k+1,by omega,rfl,(by rw[ET.out];intro c;rcases List.mem_append.1 c with c|c;exact J.out c;exact HE.out (List.mem_singleton.1 c)),by first|rfl|trivial⟩
    case measure=>simp[intOf];omega
  ·have g1:¬(k:Int) < (n:Int):=by omega
   have hkn:k=n:=by omega
   go_wp2;go_ret;refine⟨-1,rfl,⟨fun c=>absurd c (by decide),fun c => ?_⟩,rfl⟩;rw[<-List.take_of_length_le (show l.length<=k by rw[HN.out];omega)] at c;exact absurd c J.out
theorem zcQ (a:Option Addr) (n c:Nat) (l:List Bs) (hn:l.length=n) (hnb:n<=1000000) (X:Ba) (w:World) (h:Hid (zcf w a l)) :
  Cl 294 #[.slice a n c,.string X] w fun e w'=>e = .returned (.bool (decide (X.data.toList∈l)))/\w'=w:=by
 have IX:Hid _:=zj1 a n c l hn hnb X w h;clear h hn;go_enter Tryz.func294, Tryz.ntmps294;go_wp2_with fail;refine Calls.mono IX.out ?_;rintro e w1 ⟨z,rfl,hz,rfl⟩;clear IX;by_cases hm:X.data.toList∈l
 ·have hz2:0<=z:=hz.2 hm
  have HM:Hid (X.data.toList∈l):=hm;clear hz hm;go_wp2;go_ret;exact⟨by rw[decide_eq_true HM.out];rfl,rfl⟩
 ·have hz2:decide (0<=z)=false:=decide_eq_false fun c=>hm (hz.1 c)
  have HM:Hid (X.data.toList ∉ l):=hm;clear hz hm;go_wp2;go_ret;exact⟨by rw[decide_eq_false HM.out];rfl,rfl⟩
theorem zfC (b q ep most:Nat) (va vh:Value) (ah he:List Bs) (h1:ah.length<=100000) (h2:he.length<=100000) (X:Ba) (w:World) (h:Hid (Es w b q ep most va vh ah he)) :
  Cl 224 #[.pointer (some ⟨b,1,none⟩),.string X] w fun e w'=>e = .returned (.bool (decide (X.data.toList∈ah++he)))/\w'=w:=by
 obtain⟨a1,c1,rfl,t1,-⟩:=zbu rfl h.out.ra;obtain⟨a2,c2,rfl,t2,-⟩:=zbu rfl h.out.rh;have S1:Hid _:=zcQ a1 ah.length c1 ah rfl (by omega) X w t1;have S2:Hid _:=zcQ a2 he.length c2 he rfl (by omega) X w t2;have k2:=h.out.bk.c 2 _ rfl;have k3:=h.out.bk.c 3 _ rfl;clear t1 t2 h;by_cases m1:X.data.toList∈ah
 ·have e0:decide (X.data.toList∈ah++he)=true:=decide_eq_true (List.mem_append_left _ m1)
  rw[decide_eq_true m1] at S1;rw[e0];clear e0 m1;go_enter Tryz.func224, Tryz.ntmps224;go_wp2_with fail;refine Calls.mono S1.out ?_;rintro e w1 ⟨rfl,rfl⟩;go_wp2;go_ret;exact⟨rfl,rfl⟩
 ·have e0:decide (X.data.toList∈ah++he)=decide (X.data.toList∈he):=by
   by_cases m2:X.data.toList∈he
   ·rw[decide_eq_true m2,decide_eq_true (List.mem_append_right _ m2)]
   ·rw[decide_eq_false m2,decide_eq_false (fun c=>by rcases List.mem_append.1 c with c|c;exact m1 c;exact m2 c)]
  rw[decide_eq_false m1] at S1;rw[e0];obtain⟨z,hz⟩:∃z,decide (X.data.toList∈he)=z:=⟨_,rfl⟩;rw[hz] at S2 ⊢;clear e0 m1 hz;go_enter Tryz.func224, Tryz.ntmps224;go_wp2_with fail;refine Calls.mono S1.out ?_;rintro e w1 ⟨rfl,rfl⟩;go_wp2_with fail;refine Calls.mono S2.out ?_;rintro e w1 ⟨rfl,rfl⟩;go_wp2;go_ret;exact⟨rfl,rfl⟩
theorem zpT (b q ep most:Nat) (va vh:Value) (ah he:List Bs) (h1:ah.length<=100000) (h2:he.length<=100000) (X:Ba) (w:World) (h:Hid (Es w b q ep most va vh ah he)) :
  Cl 166 #[.pointer (some ⟨b,0,none⟩),.string X] w fun e w'=>e = .returned (.bool (decide (X.data.toList∈ah++he)))/\w'=w:=by
 have S1:Hid _:=zfC b q ep most va vh ah he h1 h2 X w h;have k0:=h.out.bk.c 0 _ rfl;obtain⟨z,hz⟩:∃z,decide (X.data.toList∈ah++he)=z:=⟨_,rfl⟩;rw[hz] at S1 ⊢;clear hz h h1 h2;go_enter Tryz.func166, Tryz.ntmps166;go_wp2_with fail;refine Calls.mono S1.out ?_;rintro e w1 ⟨rfl,rfl⟩;go_wp2;go_ret;exact⟨rfl,rfl⟩
theorem zmP (b q ep most:Nat) (va vh:Value) (ah he:List Bs) (h1:ah.length<=100000) (h2:he.length<=100000) (w:World) (h:Hid (Es w b q ep most va vh ah he)) :
  Cl 167 #[.pointer (some ⟨b,1,none⟩)] w fun e w'=>e = .returned (.int .i64 ((ah.length+he.length:Nat):Int))/\Bw w w':=by
 obtain⟨a1,c1,rfl,-,-⟩:=zbu rfl h.out.ra;obtain⟨a2,c2,rfl,-,-⟩:=zbu rfl h.out.rh;have k2:=h.out.bk.c 2 _ rfl;have k3:=h.out.bk.c 3 _ rfl;obtain⟨n,hn⟩:∃n,ah.length=n:=⟨_,rfl⟩;obtain⟨m,hm⟩:∃m,he.length=m:=⟨_,rfl⟩;rw[hn] at k2 h1 ⊢;rw[hm] at k3 h2 ⊢;have e1:IntKind.i64.wrap ((n:Int)+(m:Int))=((n+m:Nat):Int):=by rw[IntKind.wrap_i64];omega
 clear hn hm h;go_enter Tryz.func167, Tryz.ntmps167;go_wp2_with fail;go_region_with fail
 all_goals
  go_wp2;go_ret;exact⟨by first|rfl|go_num,by first|exact (Below.refl _ _).drew|exact Below.refl _ _⟩
theorem zhT (d c:UInt8) (t:Bs) (ht:t.length<=100000) (w:World) :
  Cl 293 #[.string (st (d::t)),.string ⟨#[c]⟩] w fun e w'=>e = .returned (.bool (decide (d=c)))/\w'=w:=by
 have hs:(st (d::t)).size=t.length+1:=by rw[zai];rfl
 have hx:(st (d::t)).extract 0 1=⟨#[d]⟩:=by rw[zdU];rfl
 have hc:(⟨#[c]⟩:Ba).size=1:=rfl;obtain⟨S,hS⟩:∃S,st (d::t)=S:=⟨_,rfl⟩;rw[hS] at hs hx ⊢;have l1:(1:Int)<=(S.size:Int):=by omega
 have l2:1<=S.size:=by omega
 clear hS hs ht;by_cases e:d=c
 ·subst e
  rw[decide_eq_true rfl];obtain⟨C,hC⟩:∃C:Ba,⟨#[d]⟩=C:=⟨_,rfl⟩;rw[hC] at hx hc ⊢;clear hC;go_enter Tryz.func293, Tryz.ntmps293;go_wp2;go_ret;exact⟨rfl,rfl⟩
 ·rw[decide_eq_false e]
  have hne:((⟨#[d]⟩:Ba).toList == (⟨#[c]⟩:Ba).toList)=false:=by
   rw[ByteArray.toList_eq,ByteArray.toList_eq];exact beq_eq_false_iff_ne.2 fun h=>e (by injection h)
  obtain⟨C,hC⟩:∃C:Ba,⟨#[c]⟩=C:=⟨_,rfl⟩;obtain⟨D,hD⟩:∃D:Ba,⟨#[d]⟩=D:=⟨_,rfl⟩;rw[hC] at hc hne ⊢;rw[hD] at hx hne;clear hC hD e;go_enter Tryz.func293, Tryz.ntmps293;go_wp2;go_ret;exact⟨rfl,rfl⟩
theorem zb9 (d c:UInt8) (t:Bs) (ht:t.length<=100000) (w:World) :
  Cl 142 #[.string (st (d::t)),.string ⟨#[c]⟩] w fun e w'=>e = .returned (.tuple #[.string (if d=c then st t else st (d::t)),.bool (decide (d=c))])/\w'=w:=by
 have CP:Hid (∀w,Cl 223 #[.string (st (d::t)),.string ⟨#[c]⟩] w fun e w'=>e = .returned (.tuple #[.string (if d=c then st t else st (d::t)),.bool (decide (d=c))])/\w'=w):=fun w=>by
  have HP:Hid _:=zhT d c t ht w;have hs:(st (d::t)).size=t.length+1:=by rw[zai];rfl
  have hx:(st (d::t)).extract 1 (st (d::t)).size=st t:=by
   rw[zdU,hs,List.take_of_length_le (by rw[List.length_cons];exact Nat.le_refl _)];rfl
  have hc:(⟨#[c]⟩:Ba).size=1:=rfl;by_cases e:d=c
  ·rw[if_pos e]
   rw[decide_eq_true e] at HP ⊢;clear e;obtain⟨S,hS⟩:∃S,st (d::t)=S:=⟨_,rfl⟩;obtain⟨T,hT⟩:∃T,st t=T:=⟨_,rfl⟩;obtain⟨C,hC⟩:∃C:Ba,⟨#[c]⟩=C:=⟨_,rfl⟩;rw[hS] at hs hx HP ⊢;rw[hC] at hc HP ⊢;rw[hT] at hx ⊢;have l1:(1:Int)<=(S.size:Int):=by omega
   have l2:1<=S.size:=by omega
   clear hS hT hC hs ht;go_enter Tryz.func223, Tryz.ntmps223;go_wp2_with fail;refine Calls.mono HP.out ?_;rintro e w1 ⟨rfl,rfl⟩;go_wp2;go_ret2;exact⟨rfl,rfl⟩
  ·rw[if_neg e]
   rw[decide_eq_false e] at HP ⊢;clear e hx;obtain⟨S,hS⟩:∃S,st (d::t)=S:=⟨_,rfl⟩;obtain⟨C,hC⟩:∃C:Ba,⟨#[c]⟩=C:=⟨_,rfl⟩;rw[hS] at hs HP ⊢;rw[hC] at hc HP ⊢;clear hS hC hs ht;go_enter Tryz.func223, Tryz.ntmps223;go_wp2_with fail;refine Calls.mono HP.out ?_;rintro e w1 ⟨rfl,rfl⟩;go_wp2;go_ret2;exact⟨rfl,rfl⟩
 obtain⟨S,hS⟩:∃S,st (d::t)=S:=⟨_,rfl⟩;obtain⟨C,hC⟩:∃C:Ba,⟨#[c]⟩=C:=⟨_,rfl⟩;obtain⟨z,hz⟩:∃z,decide (d=c)=z:=⟨_,rfl⟩;obtain⟨R,hR⟩:∃R,(if d=c then st t else st (d::t))=R:=⟨_,rfl⟩;rw[hR,hz] at CP ⊢;rw[hS,hC] at CP ⊢;clear hS hC hz hR ht;go_enter Tryz.func142, Tryz.ntmps142;go_wp2_with fail;refine Calls.mono (CP.out _) ?_;rintro e w1 ⟨rfl,rfl⟩;go_wp2;go_ret2;exact⟨rfl,rfl⟩
theorem zhU (b:Bs) (h1:b.length=4) (w:World):Cl 145 #[sv b] w fun e w'=>e = .returned (.int .i64 (nm b:Int))/\w'=w:=by
 have hs:(st b).size=b.length:=zai b;obtain⟨X,hX⟩:∃X,st b=X:=⟨_,rfl⟩;unfold sv;rw[hX,h1] at hs;rw[hX];have HX:Hid (st b=X):=hX;clear hX;go_enter Tryz.func145, Tryz.ntmps145;go_wp2;go_loopw [3,7] (fun x i wr=>∃k:Nat,k<=4/\i = .int .i64 (k:Int)/\x = .int .i64 (nm (b.take k):Int)/\wr=w) (fun _ i _=>4 - (intOf i).toNat)
 case atStart=>exact⟨0,Nat.zero_le _,rfl,rfl,rfl⟩
 case round =>
  obtain⟨k,hk4,rfl,rfl,rfl⟩:=hrel;by_cases hk5:k < 4
  ·have g1:(k:Int) < 4:=by omega
   have l0:k < X.size:=by omega
   have l1:(k:Int) < (X.size:Int):=by omega
   have hlt:=zu9 (b.take k);have hpw:256 ^ (b.take k).length<=16777216:=by
    have:(b.take k).length<=3:=by rw[List.length_take];omega
    exact Nat.le_trans (Nat.pow_le_pow_right (by decide) this) (by decide)
   obtain⟨c,hc⟩:∃c,X[k]=c:=⟨_,rfl⟩;have hc2:b[k]'(by omega)=c:=by
    have:=HX.out;subst this;rw[<-hc];rfl
   have hst:nm (b.take (k+1))=nm (b.take k)*256+c.toNat:=by
    rw[List.take_succ_eq_append_getElem (by omega),zq0,hc2]
   obtain⟨n,hn⟩:∃n,nm (b.take k)=n:=⟨_,rfl⟩;rw[hn] at hst hlt ⊢;have hcl:=c.toNat_lt;have t1:IntKind.i64.wrap (c.toNat:Int)=(c.toNat:Int):=by rw[IntKind.wrap_i64];omega
   have t2:IntKind.i64.wrap ((n:Int)*256)=(n:Int)*256:=by rw[IntKind.wrap_i64];omega
   have OW:=ziT n c (by omega);have HST:Hid (nm (b.take (k+1))=n*256+c.toNat):=hst;clear hst hn hc2 hlt hpw hcl;go_wp2;go_roundw
   case rel=>exact⟨k+1,by omega,rfl,by rw[HST.out];simp,by first|rfl|trivial⟩
   case measure=>simp[intOf];omega
  ·obtain rfl:k=4:=by omega
   have e4:b.take 4=b:=List.take_of_length_le (by omega);rw[e4];obtain⟨n,hn⟩:∃n,nm b=n:=⟨_,rfl⟩;rw[hn];have HN:Hid (nm b=n):=hn;clear hn;go_wp2;go_ret;exact⟨by rw[HN.out];rfl,by first|rfl|trivial⟩
theorem zgK (t:Bs) (ht:t.length<=100000) (w:World):Cl 168 #[.string (st t)] w fun e w'=>e = .returned (.string (st (84::t)))/\w'=w:=by
 have HP:Hid ((⟨#[84]⟩:Ba)++st t=st (84::t)):=zdT [84] t;have hy:(st t).size<=100000:=by rw[zai];exact ht
 obtain⟨T,hT⟩:∃T,st t=T:=⟨_,rfl⟩;rw[hT] at HP hy ⊢;rw[<-HP.out];clear hT HP ht;have h63:¬9223372036854775807 < 1+T.size:=by omega
 go_enter Tryz.func168, Tryz.ntmps168;go_wp2;go_ret;exact⟨rfl,rfl⟩
theorem ben4 (n:Nat):ben n 4=[UInt8.ofNat (n / 16777216),UInt8.ofNat (n / 65536),UInt8.ofNat (n / 256),UInt8.ofNat n]:=by
 show [UInt8.ofNat (n / 2 ^ 24),UInt8.ofNat (n / 2 ^ 16),UInt8.ofNat (n / 2 ^ 8),UInt8.ofNat (n / 2 ^ 0)]=_;rw[show n / 2 ^ 0=n by simp]
theorem zpU (n:Nat) (w:World):Cl 72 #[.int .i64 (n:Int)] w fun e w'=>e = .returned (.string (st (69::ben n 4)))/\Bw w w':=by
 have HP:Hid ((⟨#[69]⟩:Ba)++st (ben n 4)=st (69::ben n 4)):=zdT [69] (ben n 4);have hy:(st (ben n 4)).size=4:=by rw[zai,zaY]
 have b0:(n:Int) / 16777216 % 256=((UInt8.ofNat (n / 16777216)).toNat:Int):=by rw[UInt8.toNat_ofNat'];simp
 have b1:(n:Int) / 65536 % 256=((UInt8.ofNat (n / 65536)).toNat:Int):=by rw[UInt8.toNat_ofNat'];simp
 have b2:(n:Int) / 256 % 256=((UInt8.ofNat (n / 256)).toNat:Int):=by rw[UInt8.toNat_ofNat'];simp
 have b3:(n:Int) % 256=((UInt8.ofNat n).toNat:Int):=by rw[UInt8.toNat_ofNat'];simp
 have BA:BytesAt (w.alloc (.cells #[.int .u8 ((UInt8.ofNat (n / 16777216)).toNat:Int),.int .u8 ((UInt8.ofNat (n / 65536)).toNat:Int),.int .u8 ((UInt8.ofNat (n / 256)).toNat:Int),.int .u8 ((UInt8.ofNat n).toNat:Int)] 5)) w.heap.size (ben n 4):=by
  rw[ben4];intro j hj;refine⟨?_,by simp[go_sem]⟩;rw[World.cell?_alloc_new]
  match j,hj with
  | 0,_=>rfl
  | 1,_=>rfl
  | 2,_=>rfl
  | 3,_=>rfl
 have CV:=BA.string (cap:=4) (zaY n 4);have NB:Hid (Bw w (w.alloc (.cells #[.int .u8 ((UInt8.ofNat (n / 16777216)).toNat:Int),.int .u8 ((UInt8.ofNat (n / 65536)).toNat:Int),.int .u8 ((UInt8.ofNat (n / 256)).toNat:Int),.int .u8 ((UInt8.ofNat n).toNat:Int)] 5))):=(Below.refl _ _).alloc (Nat.le_refl _) _;clear BA;obtain⟨c0,h0⟩:∃c,(UInt8.ofNat (n / 16777216)).toNat=c:=⟨_,rfl⟩;obtain⟨c1,h1⟩:∃c,(UInt8.ofNat (n / 65536)).toNat=c:=⟨_,rfl⟩;obtain⟨c2,h2⟩:∃c,(UInt8.ofNat (n / 256)).toNat=c:=⟨_,rfl⟩;obtain⟨c3,h3⟩:∃c,(UInt8.ofNat n).toNat=c:=⟨_,rfl⟩;rw[h0] at b0;rw[h1] at b1;rw[h2] at b2;rw[h3] at b3;rw[h0,h1,h2,h3] at CV NB;clear h0 h1 h2 h3;go_enter Tryz.func72, Tryz.ntmps72;go_wp2;go_ret;exact⟨by rw[<-HP.out];rfl,NB.out⟩
theorem EFt.here {w w':World} {b:Nat} {va vh v':Value} (hv:v'.ownBlock=vh.ownBlock\/v'.ownBlock=some w'.heap.size) (hs:w.heap.size<=w'.heap.size):Nx w (EFt b va vh) (EFt b va v'):=fun x hx=>by
 rcases hx with e|e|e
 ·exact .inl (.inl e)
 ·exact .inl (.inr (.inl e))
 ·rcases hv with h|h
  ·exact .inl (.inr (.inr (h.symm.trans e)))
  ·rw[h] at e
   injection e with e
   exact .inr (by omega)
theorem zpV (b q ep most:Nat) (va vh:Value) (ah he:List Bs) (h1:ah.length<=100000) (h2:he.length<=100000) (t:Bs) (hm:t ∉ ah++he) (w:World) (h:Hid (Es w b q ep most va vh ah he)) :
  Cl 143 #[.pointer (some ⟨b,1,none⟩),.string (st t)] w fun e w'=>e = .returned (.tuple #[])/\∃v',Es w' b q ep most va v' ah (he++[t])/\Bf (EFt b va vh) w w'/\Nx w (EFt b va vh) (EFt b va v'):=by
 have HS:Hid _:=zfC b q ep most va vh ah he h1 h2 (st t) w h;rw[zfm,decide_eq_false hm] at HS;have hn:he.length<=1000000:=by omega
 have H1:Hid (Es (w.alloc (.cells #[.string (st t)] 9)) b q ep most va vh ah he):=h.out.later (nb _ _);obtain⟨v',w',r1,r2,r3,r4⟩:=app_str (w.alloc (.cells #[.string (st t)] 9)) 25 vh he H1.out.rh hn t w.heap.size (by rw[World.cell?_alloc_new];rfl);obtain⟨a3,n3,c3,rfl⟩:=owns_sliceS r2;have E2:Hid (Es (w'.setCell ⟨b,3,none⟩ (.slice a3 n3 c3)) b q ep most va (.slice a3 n3 c3) ah (he++[t])/\Bf (EFt b va vh) w (w'.setCell ⟨b,3,none⟩ (.slice a3 n3 c3))/\Nx w (EFt b va vh) (EFt b va (.slice a3 n3 c3))):=by
  refine⟨H1.out.setHere r3 r2 r4,?_,EFt.here r4 (by simp)⟩;exact bf_set ((Bf.of (nb w (.cells #[.string (st t)] 9))).trans (Nx.refl _ _) (Bf.grown r3 fun g e => .inl (.inr (.inr e)))) (.inl rfl)
 have k3:=h.out.bk.c 3 _ rfl;have hq:w'.heap[b]?=(w.alloc (.cells #[.string (st t)] 9)).heap[b]?:=r3.block b H1.out.bk.lt (fun e=>h.out.hv e.symm);have B2:=H1.out.bk.same hq;have k4:=B2.c 3 _ rfl;have kf:=B2.f;obtain⟨a2,n2,c2,rfl⟩:=owns_sliceS h.out.rh;obtain⟨T,hT⟩:∃T,st t=T:=⟨_,rfl⟩;rw[hT] at HS r1 ⊢;clear r2 r3 r4 H1 h hT B2 hq;go_enter Tryz.func143, Tryz.ntmps143;go_wp2_with fail;refine Calls.mono HS.out ?_;rintro e w1 ⟨rfl,rfl⟩;clear HS;go_wp2_with (first|(at_builtin;refine Go.Lib.wpList_append_run _ rfl _ _ _ _ rfl _ _ rfl rfl _ _ r1 ?_));go_end0;exact⟨rfl,_,E2.out⟩
theorem Es.turn {w:World} {b q ep most:Nat} {va vh:Value} {ah he:List Bs} (h:Es w b q ep most va vh ah he) (k:Nat) :
  Es (((w.setCell ⟨b,2,none⟩ vh).setCell ⟨b,3,none⟩ (.slice none 0 0)).setCell ⟨b,1,none⟩ (.int .i64 (k:Int))) b q k most vh (.slice none 0 0) he []:=by
 have B1:=((h.bk.set 2 (show 2 < 5 by decide) vh).set 3 (show 3 < 5 by decide) (.slice none 0 0)).set 1 (show 1 < 5 by decide) (.int .i64 (k:Int));refine⟨B1,ownsRow_same h.rh (fun x e => ?_),zaz _,h.hv,(fun c=>by cases c),fun g _ c=>by cases c⟩;have nx:∀o,x≠(⟨b,o,none⟩:Addr).block:=fun o c=>h.hv (by rw[e,c])
 rw[Below.heap_setCell _ ⟨b,1,none⟩ _ x (nx 1),Below.heap_setCell _ ⟨b,3,none⟩ _ x (nx 3),Below.heap_setCell _ ⟨b,2,none⟩ _ x (nx 2)]
theorem zmQ (b q ep most:Nat) (va vh:Value) (ah he:List Bs) (hep:ep+1<=2147483647) (w:World) (h:Hid (Es w b q ep most va vh ah he)) :
  Cl 144 #[.pointer (some ⟨b,1,none⟩),.int .i64 ((ep+1:Nat):Int)] w fun e w'=>e = .returned (.bool true)/\Es w' b q (ep+1) most vh (.slice none 0 0) he []/\Bf (EFt b va vh) w w'/\Nx w (EFt b va vh) (EFt b vh (.slice none 0 0)):=by
 have k1:=h.out.bk.c 1 _ rfl;have k2:=h.out.bk.c 2 _ rfl;have k3:=h.out.bk.c 3 _ rfl;have kf:=h.out.bk.f;have E2:Hid (Es (((w.setCell ⟨b,2,none⟩ vh).setCell ⟨b,3,none⟩ (.slice none 0 0)).setCell ⟨b,1,none⟩ (.int .i64 ((ep+1:Nat):Int))) b q (ep+1) most vh (.slice none 0 0) he []/\Bf (EFt b va vh) w (((w.setCell ⟨b,2,none⟩ vh).setCell ⟨b,3,none⟩ (.slice none 0 0)).setCell ⟨b,1,none⟩ (.int .i64 ((ep+1:Nat):Int)))/\Nx w (EFt b va vh) (EFt b vh (.slice none 0 0))) :=
  ⟨h.out.turn (ep+1),bf_set (bf_set (bf_set (Bf.refl _ _) (.inl rfl)) (.inl rfl)) (.inl rfl),fun x hx=>by
   rcases hx with e|e|e
   ·exact .inl (.inl e)
   ·exact .inl (.inr (.inr e))
   ·cases e⟩
 obtain⟨a1,n1,c1,rfl⟩:=owns_sliceS h.out.ra;obtain⟨a2,n2,c2,rfl⟩:=owns_sliceS h.out.rh;have g1:¬((ep+1:Nat):Int) < (ep:Int):=by omega
 have g2:((ep+1:Nat):Int) - (ep:Int)=1:=by have:=hep;omega
 have g3:¬(2147483647:Int) < ((ep+1:Nat):Int):=by have:=hep;omega
 obtain⟨z,hz⟩:∃z:Int,((ep+1:Nat):Int)=z:=⟨_,rfl⟩;rw[hz] at g1 g2 g3 E2 ⊢;clear h hz;go_enter Tryz.func144, Tryz.ntmps144;go_wp2;go_ret;exact⟨rfl,E2.out⟩
theorem zj2 (b q ep most:Nat) (va vh:Value) (ah he:List Bs) (h1:ah.length<=100000) (h2:he.length<=100000) (t:Bs) (ht:t.length=16) (hm:t ∉ ah++he) (w:World) (h:Hid (Es w b q ep most va vh ah he)) :
  Cl 78 #[.pointer (some ⟨b,1,none⟩),.string (st (84::t))] w fun e w'=>e = .returned (.bool true)/\∃v',Es w' b q ep most va v' ah (he++[t])/\Bf (EFt b va vh) w w'/\Nx w (EFt b va vh) (EFt b va v'):=by
 have C1:Hid _:=zb9 84 84 t (by omega) w;rw[if_pos rfl,decide_eq_true rfl] at C1;have A1:Hid _:=zpV b q ep most va vh ah he h1 h2 t hm w h;have hs:(st t).size=16:=by rw[zai,ht]
 obtain⟨T,hT⟩:∃T,st t=T:=⟨_,rfl⟩;obtain⟨S,hS⟩:∃S,st (84::t)=S:=⟨_,rfl⟩;rw[hT] at C1 A1 hs;rw[hS] at C1 ⊢;clear hT hS h hm;go_enter Tryz.func78, Tryz.ntmps78;go_wp2_with fail;refine Calls.mono C1.out ?_;rintro e w1 ⟨rfl,rfl⟩;clear C1;go_wp2_with fail;refine Calls.mono A1.out ?_;rintro e w2 ⟨rfl,E2⟩;have FF:Hid _:=E2;clear A1 E2;go_wp2;go_ret;exact⟨rfl,FF.out⟩
def tun (ep:Nat) (ah he:List Bs) (n:Nat):List Bs×List Bs:=if n=ep then (ah,he) else if n=ep+1 then (he,[]) else ([],[])
def sht (ep:Nat) (ah he:List Bs):List Bs:=(if ah=[] then [] else (69::ben (ep - 1) 4)::ah.map (84::·))++(69::ben ep 4)::he.map (84::·)
theorem zi0 {w:World} {base:Nat} {v:Value} {l:List Bs} {n:Nat} (hn:l.length=n) (h:w.ownsRow base 9 1 v n (scs l)):∃a cap,v = .slice a n cap/\zcf w a l/\∀x,a=some x->base<=x.block:=by
 obtain⟨a,c,rfl,tx,-⟩:=zbu hn (zd3 h (Nat.zero_le _));refine⟨a,c,rfl,tx,fun x e => ?_⟩;subst e;rcases h.2 with ⟨c,-⟩|⟨g,cap,cur,e1,e2,-⟩
 ·injection c with c1;cases c1
 ·injection e1 with e1
  injection e1 with e1
  rw[e1];exact e2
def Ow (w W:World) (v:Value) (xs:List Bs):Prop:=W.ownsRow w.heap.size 9 1 v xs.length (scs xs)/\Bw w W
theorem Ow.later {w W W':World} {v:Value} {xs:List Bs} (h:Ow w W v xs) (hb:Bw W W'):Ow w W' v xs:=⟨zd2 h.1 hb,chain h.2 hb⟩
theorem Ow.one {w W:World} {v:Value} {xs:List Bs} (h:Ow w W v xs) (hx:xs.length<=1000000) (t:Bs) :
  ∃a n c w',(Builtin.append_ #[25, 25] 25 #[v,.slice (some ⟨W.heap.size,0,none⟩) 1 1]).run Tryz.prog (W.alloc (.cells #[.string (st t)] 9)) = .ok (.slice a n c) w'/\Hid (Ow w w' (.slice a n c) (xs++[t])):=by
 obtain⟨v',w',r1,r2,r3⟩:=zs5 w.heap.size W v xs h.1 h.2.size hx t;have B1:Bw w (W.alloc (.cells #[.string (st t)] 9)):=h.2.alloc h.2.size _;have K:Ow w w' v' (xs++[t]):=⟨r2,B1.grown r3 B1.size (fun q hq=>(h.1.lt q hq).1)⟩;obtain⟨a,c,rfl,-,-⟩:=zbu rfl (zd3 r2 (Nat.zero_le _));exact⟨a,_,c,w',r1,K⟩
def tkp (ep:Nat) (ah he:List Bs) (r:Bs):Option (Nat×List Bs×List Bs) :=
 if r.length=17/\r.head?=some 84 then some (ep,ah,if r.tail∈ah++he then he else he++[r.tail])
 else if r.length=5/\r.head?=some 69 then (if nm r.tail < ep\/2147483647 < nm r.tail then none else some (nm r.tail,tun ep ah he (nm r.tail)))
 else none
def wrA (s:St) (x:Lo) (sh:List Bs) (r:Bs):(Int×St)×Lo :=
 if (app s x r).1.1=151 then (if (cmp s x sh).1.1=0 then app (cmp s x sh).1.2 (cmp s x sh).2 r else cmp s x sh) else app s x r
def wrp (s:St) (x:Lo) (sh:List Bs) (r:Bs):(Int×St)×Lo:=if (wrA s x sh r).1.1≠0 then wrA s x sh r else ((syE (wrA s x sh r).1.2,syS (wrA s x sh r).1.2),(wrA s x sh r).2)
def FZ (G:Nat->Prop) (q:Nat) (v:Value) (b:Nat) (u:Value) (y:Nat):Prop:=FQ G q v y\/HFt b u y
section
variable {w:World} {F:Nat->Prop} {d q b most:Nat} {s:St} {x:Lo} {ep:Nat} {ah he:List Bs} {w1:World}
end
abbrev Ey:=Nat×List Bs×List Bs
structure Gd (y:Ey):Prop where
 e:y.1<=2147483647
 z:y.1=0->y.2.1=[]
 t:∀t∈y.2.1++y.2.2,t.length=16
 n:y.2.1.length+y.2.2.length<=10000
def adp (most:Nat) (s:St) (x:Lo) (y:Ey) (t:Bs):((Int×St)×Lo)×Ey :=
 if t.length≠16 then (((3,s),x),y)
 else if t∈y.2.1++y.2.2 then (((170,s),x),y)
 else if most<=y.2.1.length+y.2.2.length then (((180,s),x),y)
 else (wrp s x (sht y.1 y.2.1 y.2.2) (84::t),if (wrp s x (sht y.1 y.2.1 y.2.2) (84::t)).1.1=0 then (y.1,y.2.1,y.2.2++[t]) else y)
def tkE (y:Ey) (r:Bs):Option Ey:=tkp y.1 y.2.1 y.2.2 r
def tks:Ey->List Bs->Option Ey
 | y,[]=>some y
 | y,r::l=>(tkE y r).bind fun z=>tks z l
theorem zhV:∀(l:List Bs) (y:Ey) (r:Bs),tks y (l++[r])=(tks y l).bind fun z=>tkE z r
 | [],y,r=>by
  show (tkE y r).bind (fun z=>some z)=tkE y r;cases tkE y r <;> rfl
 | a::l,y,r=>by
  show (tkE y a).bind (fun z=>tks z (l++[r]))=((tkE y a).bind fun z=>tks z l).bind fun z=>tkE z r
  cases tkE y a with
  | none=>rfl
  | some z=>exact zhV l z r
theorem zvq {y:Ey} {l m:List Bs} (h:tks y l=none):tks y (l++m)=none:=by
 induction l generalizing y with
 | nil=>cases h
 | cons a l ih =>
  have h':(tkE y a).bind (fun z=>tks z l)=none:=h;show (tkE y a).bind (fun z=>tks z (l++m))=none
  cases e:tkE y a with
  | none=>rfl
  | some z =>
   rw[e] at h';exact ih h'
structure Gn (n:Nat) (y:Ey):Prop where
 e:y.1<=2147483647
 z:y.1=0->y.2.1=[]
 t:∀t∈y.2.1++y.2.2,t.length=16
 n:y.2.1.length+y.2.2.length<=n
theorem zvr {n:Nat} {y z:Ey} {r:Bs} (g:Gn n y) (h:tkE y r=some z):Gn (n+1) z:=by
 unfold tkE tkp at h;by_cases h1:r.length=17/\r.head?=some 84
 ·rw[if_pos h1] at h
  injection h with h
  subst h;have gn:=g.n;by_cases hm:r.tail∈y.2.1++y.2.2
  ·refine⟨g.e,g.z,?_,?_⟩
   ·show ∀t∈y.2.1++(if r.tail∈y.2.1++y.2.2 then _ else _),_
    rw[if_pos hm];exact g.t
   ·show y.2.1.length+(if r.tail∈y.2.1++y.2.2 then _ else _:List Bs).length<=_
    rw[if_pos hm];omega
  ·refine⟨g.e,g.z,?_,?_⟩
   ·show ∀t∈y.2.1++(if r.tail∈y.2.1++y.2.2 then _ else _),_
    rw[if_neg hm,<-List.append_assoc];intro t ht;rcases List.mem_append.1 ht with ht|ht
    ·exact g.t t ht
    ·rw[List.mem_singleton] at ht
     subst ht;rw[List.length_tail,h1.1]
   ·show y.2.1.length+(if r.tail∈y.2.1++y.2.2 then _ else _:List Bs).length<=_
    rw[if_neg hm,List.length_append,List.length_singleton];omega
 ·rw[if_neg h1] at h
  by_cases h2:r.length=5/\r.head?=some 69
  ·rw[if_pos h2] at h
   by_cases h3:nm r.tail < y.1\/2147483647 < nm r.tail
   ·rw[if_pos h3] at h;cases h
   ·rw[if_neg h3] at h
    injection h with h
    subst h;have gn:=g.n;unfold tun;by_cases e1:nm r.tail=y.1
    ·rw[if_pos e1]
     exact⟨by show nm r.tail<=_;omega,fun e=>g.z (e1.symm.trans e),g.t,by show y.2.1.length+y.2.2.length<=_;omega⟩
    ·rw[if_neg e1]
     by_cases e2:nm r.tail=y.1+1
     ·rw[if_pos e2]
      exact⟨by show nm r.tail<=_;omega,fun e=>absurd (show nm r.tail=0 from e) (by omega),fun t ht=>g.t t (List.mem_append_right _ (by simpa using ht)),by show y.2.2.length+0<=_;omega⟩
     ·rw[if_neg e2]
      exact⟨by show nm r.tail<=_;omega,fun _=>rfl,(fun t ht=>absurd ht List.not_mem_nil),by show 0+0<=_;omega⟩
  ·rw[if_neg h2] at h;cases h
theorem Gn.start:Gn 0 (0,[],[]):=⟨by decide,fun _=>rfl,(fun t ht=>absurd ht List.not_mem_nil),Nat.le_refl _⟩
theorem Gn.gd {n:Nat} {y:Ey} (g:Gn n y) (h:n<=10000):Gd y:=⟨g.e,g.z,g.t,Nat.le_trans g.n h⟩
def opz (most:Int) (s:St) (o:(Int×St)×Lo):(Int×St)×Option (Lo×Ey) :=
 if most < 1\/4096 < most then ((1,s),none)
 else if o.1.1≠0 then (o.1,none)
 else match tks (0,[],[]) o.2.ts with
  | none=>((160,o.1.2),none)
  | some y=>((0,o.1.2),some (o.2,y))
end Go.Proofs.YtjcppbhgjchjaaaGreatDoor.Sto
namespace Go.Proofs.YtjcppbhgjchjaaaGreatDoor
open Go.RowKit Go.Proofs.Fd
structure Ct where
 on:Nat
 home:Nat
 loop:Nat
 drop:Nat
 twice:Nat
 bad:Nat
structure Nd where
 pool:Nat
 s:Go.Proofs.Dk.St
 x:Go.Proofs.Lg.Lo
 y:Sto.Ey
 t:Go.Proofs.Wh.St
 w:List (Nat×(Int×Ba))
 l:List Ba
 c:Ct
def Nd.rf (m:Nd) (h:Go.Proofs.Rt.Hp):Int :=
 if h.k=2 then 70 else if h.k≠1 then 0 else if m.pool<=m.w.length then 190 else if (1099511627776:Int) < (m.t.now:Int)+1+h.d then 1 else 0
def Nd.did (m:Nd) (h:Go.Proofs.Rt.Hp) (n:Ba):Nd :=
 if h.k=1 then { m with t:=Go.Proofs.Wh.putS m.t ((m.t.now:Int)+1+h.d) ((m.c.on+1:Nat):Int),w:=m.w++[(m.c.on+1,(h.n,n))],c:={ m.c with on:=m.c.on+1 } }
 else if h.k=3 then { m with l:=m.l++[h.id],c:={ m.c with loop:=m.c.loop+1 } }
 else if h.k=4 then { m with c:={ m.c with drop:=m.c.drop+1 } }
 else m
def Nd.tk0 (m:Nd) (h:Go.Proofs.Rt.Hp) (n t:Ba):Int×Nd :=
 if m.rf h≠0 then (m.rf h,m)
 else
  let r:=Sto.adp 4096 m.s m.x m.y t.data.toList
  if r.1.1.1≠0 then (r.1.1.1,{ m with s:=r.1.1.2,x:=r.1.2,y:=r.2 })
  else (0,Nd.did { m with s:=r.1.1.2,x:=r.1.2,y:=r.2 } h n)
def Nd.cnt (e:Int) (m:Nd):Nd :=
 if e=0 then m else if e=170 then { m with c:={ m.c with twice:=m.c.twice+1 } } else { m with c:={ m.c with bad:=m.c.bad+1 } }
def Nd.take (m:Nd) (e:Int) (h:Go.Proofs.Rt.Hp) (n t:Ba):Int×Nd :=
 if e≠0 then (e,Nd.cnt e m) else ((m.tk0 h n t).1,Nd.cnt (m.tk0 h n t).1 (m.tk0 h n t).2)
def Nd.tickE (m:Nd) (tt:Int):Int:=Go.Proofs.Wh.advE m.t tt
def Nd.tickV (m:Nd) (tt:Int):List (Int×Ba):=(Go.Proofs.Wh.advV m.t tt).map fun i=>((m.w.find? fun p=>decide ((p.1:Int)=i)).map fun p=>p.2).getD (0,⟨#[]⟩)
def Nd.tickS (m:Nd) (tt:Int):Nd:={ m with t:=Go.Proofs.Wh.advS m.t tt,w:=m.w.filter fun p=>!decide ((p.1:Int)∈Go.Proofs.Wh.advV m.t tt) }
end Go.Proofs.YtjcppbhgjchjaaaGreatDoor
