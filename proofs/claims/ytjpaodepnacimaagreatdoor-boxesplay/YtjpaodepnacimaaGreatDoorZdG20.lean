/- Parts: LhD,LrL,LrM,LrN. -/
import Derived.Test.YtjpaodepnacimaaGreatDoorZdG19
namespace Go.Proofs.YtjpaodepnacimaaGreatDoor
open Go.RowKit Go.Proofs.Fd Go.Proofs.Dk Go.Proofs.Lg
set_option maxRecDepth 20000
theorem may_bad {t:Bs} {l:List Bs} (h:may t≠0):mays (t::l)=may t:=if_pos h
theorem may_next {t:Bs} {l:List Bs} (h:may t=0):mays (t::l)=mays l:=if_neg (fun c=>c h)
theorem sns_take (l:List Bs) (k:Nat) (hk:k < l.length):sns (l.take (k+1))=sns (l.take k)+sn l[k]:=by
 have:∀(l:List Bs) (t:Bs),sns (l++[t])=sns l+sn t:=fun l t=>by
  induction l with
  | nil=>simp[sns]
  | cons x l ih=>rw[List.cons_append,sns,ih,sns];omega
 rw[List.take_succ_eq_append_getElem hk,this]
theorem sns_bound (l:List Bs) (k:Nat) (h:∀t∈l,t.length≤2000):sns (l.take k)≤100*k:=by
 induction k with
 | zero=>simp[sns]
 | succ k ih =>
  by_cases hk:k < l.length
  ·rw[sns_take l k hk]
   have:sn l[k]≤100:=by
    have:=h _ (List.getElem_mem hk)
    unfold sn
    omega
   omega
  ·rw[List.take_of_length_le (by omega)] at ih ⊢
   omega
theorem mays_prefix:∀(l:List Bs) (k:Nat),(∀i (hi:i < l.length),i < k→may l[i]=0)→mays l=mays (l.drop k)
 | [],k,_=>by rw[List.drop_nil]
 | t::l,0,_=>rfl
 | t::l,k+1,h=>by
  rw[may_next (show may t=0 from h 0 (by simp) (by omega)),List.drop_succ_cons]
  exact mays_prefix l k (fun i hi hk=>h (i+1) (by simpa using hi) (by omega))
def cmR (s:St) (fr2 mn g:Nat) (l:List Bs):Int×St:=if mays l≠0 then (mays l,s) else if mn - 1 < sns l then (151,s) else if 2147483647≤g then (2,s) else bgn s fr2 mn (g+1) l
def CmP (w va:World) (p:Nat) (F:Nat→Prop) (q fr fr2 mn g:Nat) (v:Value) (ts:List Bs) (tk:Nat) (m:Bs) (l:List Bs) (y:Int×St) (w':World):Prop :=
 ∃F' v',Nx2 va F q v F' v'∧Bf (FH F q v) va w'∧(y.1=0∧HD w w' p F' y.2 q fr2 mn (g+1) v' l (tkn 1 l) (mks (hm (g+1)) l) []∨y.1≠0∧HD w w' p F' y.2 q fr mn g v' ts tk m [])
theorem mays_all:∀{l:List Bs},mays l=0→∀t∈l,1≤t.length∧t.length≤2000
 | [],_,t,h=>by cases h
 | x::l,h,t,ht=>by
  by_cases hx:may x=0
  ·rw[may_next hx] at h
   rcases List.mem_cons.1 ht with rfl|ht
   ·exact may_ok hx
   ·exact mays_all h t ht
  ·rw[may_bad hx] at h
   exact absurd h hx
set_option maxHeartbeats 4000000 in
theorem lcompact_any (w va:World) (p:Nat) (F:Nat→Prop) (s:St) (q fr mn g:Nat) (v:Value) (ts:List Bs) (tk:Nat) (m:Bs) (a:Option Addr) (n c:Nat) (l:List Bs) (hn:l.length=n) (hn63:n≤10000000000000) (h2:2*mn≤s.n) (hmn:2≤mn) (hgm:g≤2147483647) (hfr:fr=0∨fr=mn) (hl:s.l.length+2000≤1000000) (hk:Hid (Kh w)) (h:Hid (HD w va p F s q fr mn g v ts tk m [])) (hx:Hid (TxAt va a l)) (ha:Hid (Ap a l F)) :
  Calls Tryz.prog 71 #[.pointer (some ⟨q,0,none⟩),.slice a n c] va fun e w'=>e = .returned (.int .i64 (cmR s (mn - fr) mn g l).1)∧CmP w va p F q fr (mn - fr) mn g v ts tk m l (cmR s (mn - fr) mn g l) w':=by
 have HN:Hid (l.length=n):=hn
 have hs2:=h.out.dl.at_.1.n2
 have STAY:Hid (∀x:Int,x≠0→CmP w va p F q fr (mn - fr) mn g v ts tk m l (x,s) va):=fun x hx=>⟨F,v,Nx2.refl _ _ _ _,Bf.refl _ _,.inr ⟨hx,h.out⟩⟩
 obtain⟨fr2,hfr2⟩:∃fr2,mn - fr=fr2:=⟨_,rfl⟩
 rw[hfr2] at STAY ⊢
 have HFR2:Hid (mn - fr=fr2):=hfr2
 clear hfr2
 obtain⟨r,hr⟩:∃r,cmR s fr2 mn g l=r:=⟨_,rfl⟩
 have HR:Hid (cmR s fr2 mn g l=r):=hr
 rw[hr]
 clear hr hn
 go_enter Tryz.func71, Tryz.ntmps71
 go_wp2
 go_loopw [5,13] (fun sm i wr=>∃k:Nat,k≤n∧i = .int .i64 (k:Int)∧sm = .int .i64 (sns (l.take k):Int)∧va=wr∧Hid (∀j (hj:j < l.length),j < k→may l[j]=0)) (fun _ i _=>n - (intOf i).toNat)
 case atStart=>exact⟨0,Nat.zero_le _,rfl,rfl,rfl,fun _ _ h=>absurd h (Nat.not_lt_zero _)⟩
 case round =>
  obtain⟨k,hkn,rfl,rfl,rfl,J⟩:=hrel
  by_cases hlt:k < n
  ·have hkl:k < l.length:=by rw[HN.out];exact hlt
   have g1:(k:Int) < (n:Int):=by omega
   obtain⟨b,o,rfl,c0⟩:=hx.out k hkl
   have ES:=sns_take l k hkl
   have EM:=mays_prefix l k J.out
   rw[List.drop_eq_getElem_cons hkl] at EM
   have JJ:Hid (may l[k]=0→∀j (hj:j < l.length),j < k+1→may l[j]=0):=fun h0 j hj hjk=>by
    by_cases e:j=k
    ·subst e;exact h0
    ·exact J.out j hj (by omega)
   have SB:sns (l.take k)≤100*k:=by
    have hb:=sns_bound (l.take k) k (fun t ht=>by
     obtain⟨j,hj,rfl⟩:=List.getElem_of_mem ht
     rw[List.getElem_take]
     rw[List.length_take] at hj
     exact (may_ok (J.out j (by omega) (by omega))).2)
    rw[List.take_take,Nat.min_self] at hb
    exact hb
   have CH:Hid (Calls Tryz.prog 89 #[.string (st l[k])] va fun e w'=>e = .returned (.int .i64 (may l[k]))∧w'=va):=lcheck_any (st l[k]) va
   unfold sv at c0
   by_cases h0:may l[k]=0
   ·have hb:=may_ok h0
    have SO:Hid (Calls Tryz.prog 90 #[.string (st l[k])] va fun e w'=>e = .returned (.int .i64 (sn l[k]:Int))∧w'=va):=lsectorsOf_any l[k] (by omega) va
    have hsn:sn l[k]≤100:=by unfold sn;omega
    have JN:Hid _:=JJ.out h0
    rw[h0] at CH
    have HES:Hid (sns (l.take (k+1))=sns (l.take k)+sn l[k]):=ES
    have y1:IntKind.i64.wrap ((sns (l.take k):Int)+(sn l[k]:Int))=(sns (l.take k):Int)+(sn l[k]:Int):=by rw[IntKind.wrap_i64];omega
    obtain⟨z,hz⟩:∃z,sn l[k]=z:=⟨_,rfl⟩
    obtain⟨u,hu⟩:∃u,sns (l.take k)=u:=⟨_,rfl⟩
    obtain⟨T,hT⟩:∃T,st l[k]=T:=⟨_,rfl⟩
    rw[hz] at SO HES y1
    rw[hu] at HES y1 ⊢
    rw[hT] at CH SO c0
    clear hz hu hT ES EM SB JJ J h0 hb hsn STAY h hx ha HR hl h2 hmn hfr hs2
    go_wp2_with fail
    refine Calls.mono CH.out ?_
    rintro e w1 ⟨rfl,rfl⟩
    go_wp2_with fail
    refine Calls.mono SO.out ?_
    rintro e w2 ⟨rfl,rfl⟩
    go_wp2
    go_roundw
    case rel=>exact⟨k+1,by omega,rfl,by rw[HES.out];simp,by first|rfl|trivial,JN.out⟩
    case measure=>simp[intOf];omega
   ·rw[may_bad h0] at EM
    have ER:Hid (r=(may l[k],s)):=by
     show r=_
     rw[←HR.out,cmR,if_pos (by rw[EM];exact h0),EM]
    have FF:Hid _:=STAY.out _ h0
    obtain⟨x,hxx⟩:∃x,may l[k]=x:=⟨_,rfl⟩
    rw[hxx] at CH ER FF h0
    obtain⟨T,hT⟩:∃T,st l[k]=T:=⟨_,rfl⟩
    rw[hT] at CH c0
    clear hT hxx ES EM SB JJ J STAY h hx ha HR hl h2 hmn hfr hs2
    go_wp2_with fail
    refine Calls.mono CH.out ?_
    rintro e w1 ⟨rfl,rfl⟩
    go_wp2
    go_ret
    exact⟨by rw[ER.out];rfl,by rw[ER.out];exact FF.out⟩
  ·obtain rfl:k=n:=by omega
   have g1:¬(k:Int) < (k:Int):=by omega
   have e0:mays l=0:=by
    rw[mays_prefix l k J.out,List.drop_of_length_le (by rw[HN.out];exact Nat.le_refl _)]
    rfl
   have e1:l.take k=l:=List.take_of_length_le (by rw[HN.out];exact Nat.le_refl _)
   rw[e1]
   have k2:=h.out.hf.bk.c 2 _ rfl
   have HR1:=HR.out
   rw[cmR,if_neg (by rw[e0];simp)] at HR1
   have ym:IntKind.i64.wrap ((mn:Int) - 1)=(mn:Int) - 1:=by rw[IntKind.wrap_i64];omega
   by_cases h3:mn - 1 < sns l
   ·rw[if_pos h3] at HR1
    have ER:Hid (r=(151,s)):=HR1.symm
    have FF:Hid _:=STAY.out 151 (by decide)
    have g3:(mn:Int) - 1 < (sns l:Int):=by omega
    obtain⟨sm,hsm⟩:∃sm:Int,(sns l:Int)=sm:=⟨_,rfl⟩
    rw[hsm] at g3 ⊢
    clear hsm HR1 STAY h hx ha HR hl J e0 e1
    go_wp2
    go_ret
    exact⟨by rw[ER.out];rfl,by rw[ER.out];exact FF.out⟩
   ·rw[if_neg h3] at HR1
    have g3:¬(mn:Int) - 1 < (sns l:Int):=by omega
    have k3:=h.out.hf.bk.c 3 _ rfl
    by_cases h4:2147483647≤g
    ·rw[if_pos h4] at HR1
     have ER:Hid (r=(2,s)):=HR1.symm
     have FF:Hid _:=STAY.out 2 (by decide)
     have g4:(g:Int)=2147483647:=by omega
     obtain⟨sm,hsm⟩:∃sm:Int,(sns l:Int)=sm:=⟨_,rfl⟩
     rw[hsm] at g3 ⊢
     obtain⟨gi,hgi⟩:∃gi:Int,(g:Int)=gi:=⟨_,rfl⟩
     rw[hgi] at k3 g4
     clear hsm HR1 STAY h hx ha HR hl J e0 e1 h4 hgi hgm
     subst g4
     go_wp2
     go_ret
     exact⟨by rw[ER.out];rfl,by rw[ER.out];exact FF.out⟩
    ·rw[if_neg h4] at HR1
     have hfr2:=HFR2.out
     have hf2:fr2+mn≤s.n:=by rcases hfr with rfl|rfl <;> omega
     have hf3:fr≤mn:=by rcases hfr with rfl|rfl <;> omega
     have htk:tkn 1 l≤mn:=by rw[tkn_sns];omega
     have OT:Hid (∀w,Calls Tryz.prog 64 #[.agg #[.pointer (some ⟨p,0,none⟩),.int .i64 (fr:Int),.int .i64 (mn:Int)]] w fun e w'=>e = .returned (.agg #[.pointer (some ⟨p,0,none⟩),.int .i64 (fr2:Int),.int .i64 (mn:Int)])∧Below w.heap.size w w'):=fun w=>by
      have:=lother_any w p fr mn hf3 (by omega)
      rw[hfr2] at this
      exact this
     have BG:Hid (∀V,Below va.heap.size va V→Calls Tryz.prog 65 #[.agg #[.pointer (some ⟨p,0,none⟩),.int .i64 (fr2:Int),.int .i64 (mn:Int)],.int .i64 ((g:Int)+1),.slice a k c] V fun e w'=>∃pp i1 i2 i3 xa xn xc i5 s6,e = .returned (.tuple #[.agg #[.pointer pp,.int .i64 i1,.int .i64 i2,.int .i64 i3,.slice xa xn xc,.int .i64 i5,.string s6],.int .i64 r.1])∧(r.1=0→pp=some ⟨p,0,none⟩∧i1=(fr2:Int)∧i2=(mn:Int)∧i3=((g+1:Nat):Int)∧i5=(tkn 1 l:Int)∧s6=st (mks (hm (g+1)) l))∧Bn7 w V p F r.2 (if r.1=0 then l else []) xa xn xc w'):=fun V hb=>by
      have:=lbegin_any w V p F s fr2 mn (g+1) a k c l (by omega) hf2 HN.out (fun t ht=>(mays_all e0 t ht).2) htk (by omega) hk (h.out.dl.later hb) (hx.out.later hb) ha
      rw[HR1] at this
      refine this.mono fun e w' ⟨F2,d1,d2,d3,hres⟩ => ?_
      rcases hres with ⟨h0,v2,rfl,r2,n2⟩|⟨h0,rfl⟩
      ·obtain⟨ya,yn,yc,rfl⟩:=owns_sliceS r2
       refine⟨_,_,_,_,ya,yn,yc,_,_,by rw[h0];rfl,fun _=>⟨rfl,rfl,rfl,rfl,rfl,rfl⟩,F2,d1,d2,d3,?_,n2⟩
       rw[if_pos h0]
       exact r2
      ·refine⟨_,_,_,_,none,0,0,_,_,rfl,fun c=>absurd c h0,F2,d1,d2,d3,?_,nofun⟩
       rw[if_neg h0]
       exact owns_nilS _
     have e5:(((g+1:Nat):Int))=(g:Int)+1:=by omega
     have c0:=h.out.hf.bk.c 0 _ rfl
     have c1:=h.out.hf.bk.c 1 _ rfl
     have HW:Hid (w.heap.size≤va.heap.size):=h.out.dl.below.size
     have HFF:Hid (∀y,F y→y < va.heap.size):=fun y c=>h.out.dl.at_.lt c
     have HQ:Hid (¬F q∧q < va.heap.size):=⟨(h.out.ap q (.inl rfl)).1,h.out.hf.bk.lt⟩
     have HGG:Hid (∃gi:Int,(g:Int)=gi):=⟨_,rfl⟩
     obtain⟨gi,hgi⟩:=HGG.out
     have g4:¬gi=2147483647:=by omega
     have y1:IntKind.i64.wrap (gi+1)=gi+1:=by rw[IntKind.wrap_i64];omega
     rw[hgi] at k3 BG
     have HG:Hid (gi+1=((g+1:Nat):Int)):=by
      show gi+1=_
      omega
     obtain⟨x,hxx⟩:∃x,r.1=x:=⟨_,rfl⟩
     have HX:Hid (r.1=x):=hxx
     rw[hxx] at BG
     obtain⟨sm,hsm⟩:∃sm:Int,(sns l:Int)=sm:=⟨_,rfl⟩
     rw[hsm] at g3 ⊢
     clear hsm hgi HR1 STAY hx ha HR hl J e0 e1 h4 h3 hfr hfr2 hf2 hf3 htk e5 hxx HGG
     go_upto_region 14 with fail
     refine compact_region w p F r.2 (if x=0 then l else []) q fr fr2 mn gi x va a k c (fun pp i1 i2 i3 i5 s6=>x=0→pp=some ⟨p,0,none⟩∧i1=(fr2:Int)∧i2=(mn:Int)∧i3=((g+1:Nat):Int)∧i5=(tkn 1 l:Int)∧s6=st (mks (hm (g+1)) l)) HW HFF HQ y1 c0 c1 k2 k3 OT BG _ _ _ _ _ _ _ _ _ _ _ _ _ _ _ _ _ _ _ _ _ _ _ _ _ _ _ _ _ _ _ _ _ _ _ _ _ _ _ ?_
     intro H pp i1 i2 i3 xa xn xc i5 s6 wx u42 u43 u44 u45 u46 u47 u48 u49 u50 u51 u52 u53 u54 u55 u56 u57 u58 hE hC
     have HC:Hid _:=hC
     obtain⟨⟨F2,d1,d2,d3,r2,n2⟩,bk,nH⟩:=id hC
     have K2:Hid (HD w wx p F2 r.2 q fr mn g v ts tk m []):=h.out.disk d1 d2 d3
     have D3:Hid (Bf F va wx∧Nx va F F2):=⟨d3,d2⟩
     clear d1 d2 d3 OT BG c0 c1 k2 k3 hC
     by_cases h0:x=0
     ·obtain⟨rfl,rfl,rfl,rfl,rfl,rfl⟩:=hE h0
      subst h0
      have rr:OwnsS wx (.slice xa xn xc) l:=r2
      have NQ:(Value.slice xa xn xc).ownBlock≠some q:=fun e=>by
       have:=(n2 q e).1
       have:=HQ.out.2
       omega
      have FF:Hid (CmP w va p F q fr fr2 mn g v ts tk m l r (wx.setCells q 0 (hc p fr2 mn (g+1) (.slice xa xn xc) (tkn 1 l) (mks (hm (g+1)) l) []))):=by
       have hbf:Bf (fun y=>y=q) wx (wx.setCells q 0 (hc p fr2 mn (g+1) (.slice xa xn xc) (tkn 1 l) (mks (hm (g+1)) l) [])):=Bf.sets (fun y=>y=q) q rfl _ 0 wx
       refine⟨F2,.slice xa xn xc,⟨D3.out.2,fun y e => ?_⟩,?_,.inl ⟨HX.out,⟨K2.out.dl.sets (K2.out.ap q (.inl rfl)).1 (K2.out.ap q (.inl rfl)).2 _,⟨K2.out.hf.bk.put _ rfl,ownsRow_same rr (fun y e=>setCells_other wx q 0 _ y (fun d=>NQ (by rw[e,d]))),NQ⟩,fun y e => ?_⟩⟩⟩
       ·rcases e with e|e
        ·exact .inl (.inl e)
        ·exact .inr (n2 y e).1
       ·exact (D3.out.1.wide fun y e => .inl e).trans (Nx.refl _ _) (hbf.wide fun y e => .inr (.inl e))
       ·rcases e with e|e
        ·rw[e]
         exact K2.out.ap q (.inl rfl)
        ·exact⟨(n2 y e).2,Nat.le_trans HW.out (n2 y e).1⟩
      have c0:=K2.out.hf.bk.c 0 _ rfl
      have c1:=K2.out.hf.bk.c 1 _ rfl
      have c2:=K2.out.hf.bk.c 2 _ rfl
      have c3:=K2.out.hf.bk.c 3 _ rfl
      have c4:=K2.out.hf.bk.c 4 _ rfl
      have c5:=K2.out.hf.bk.c 5 _ rfl
      have c6:=K2.out.hf.bk.c 6 _ rfl
      have cf:=K2.out.hf.bk.f
      have z0:=bk.c 0 _ rfl
      have z1:=bk.c 1 _ rfl
      have z2:=bk.c 2 _ rfl
      have z3:=bk.c 3 _ rfl
      have z4:=bk.c 4 _ rfl
      have z5:=bk.c 5 _ rfl
      have z6:=bk.c 6 _ rfl
      have hqH:q≠H:=fun e=>by have:=HQ.out.2;omega
      obtain⟨gg,hgg⟩:∃gg:Int,((g+1:Nat):Int)=gg:=⟨_,rfl⟩
      obtain⟨t1,ht1⟩:∃t1:Int,((tkn 1 l:Nat):Int)=t1:=⟨_,rfl⟩
      unfold hc sv at FF
      rw[hgg,ht1] at FF
      rw[hgg] at z3
      rw[ht1] at z5
      clear K2 D3 HC bk r2 n2 rr NQ HFF HQ hgg ht1 h
      go_wp2
      go_ret
      exact⟨by rw[HX.out];rfl,FF.out⟩
     ·have FF:Hid (CmP w va p F q fr fr2 mn g v ts tk m l r wx):=⟨F2,v,⟨D3.out.2,Nx.refl _ _⟩,D3.out.1.wide fun y e => .inl e,.inr ⟨by rw[HX.out];exact h0,K2.out⟩⟩
      clear K2 D3 HC bk r2 n2 HFF HQ h hE
      go_wp2
      go_ret
      exact⟨by rw[HX.out];rfl,FF.out⟩
theorem pts_n:∀(l:List Bs) (s:St) (k tk:Nat) (a:Bs),(pts s k tk a l).2.n=s.n
 | [],_,_,_,_=>rfl
 | t::l,s,k,tk,a=>by
  rw[pts]
  by_cases h:(wrb s (k+tk) (rcd a t)).1=0
  ·rw[thn_ok h]
   exact (pts_n l _ _ _ _).trans (wrb_n s _ _)
  ·rw[thn_no h]
   exact wrb_n s _ _
theorem thn_n {z:Int×St} {f:St→Int×St} {N:Nat} (h:z.2.n=N) (hf:∀s,s.n=N→(f s).2.n=N):(thn z f).2.n=N:=by
 by_cases h0:z.1=0
 ·rw[thn_ok h0];exact hf _ h
 ·rw[thn_no h0];exact h
theorem bgn_n (s:St) (k H g:Nat) (ts:List Bs):(bgn s k H g ts).2.n=s.n:=by
 unfold bgn
 exact thn_n (cln_n s k H) fun s1 h1=>thn_n ((pts_n ts s1 _ _ _).trans h1) fun s2 h2=>thn_n ((syS_n s2).trans h2) fun s3 h3=>thn_n ((wrb_n s3 _ _).trans h3) fun s4 h4=>(syS_n s4).trans h4
def RcS (q d h g:Nat) (w':World):Prop:=w'.cell? ⟨q,0,none⟩=some (.pointer (some ⟨d,0,none⟩))∧w'.cell? ⟨q,1,none⟩=some (.int .i64 (h:Int))∧w'.cell? ⟨q,2,none⟩=some (.int .i64 (g:Int))
theorem Rf.rcs {w:World} {q d h g:Nat} {v:Value} {ts:List Bs} {tk:Nat} {m:Bs} (k:Rf w q d h g v ts tk m):RcS q d h g w:=⟨k.bk.c 0 _ rfl,k.bk.c 1 _ rfl,k.bk.c 2 _ rfl⟩
theorem Rd.swap {w w':World} {d:Nat} {G G':Nat→Prop} {s s2:St} {q q2:Nat} {v v2:Value} {h0 g0 tk0 h g tk:Nat} {us0 us:List Bs} {m0 m:Bs} (k:Rd w d G s q h0 g0 v us0 tk0 m0) (b:Rb w d G w' G' s2 q2 h g v2 us tk m) :
  Rd (w'.setCells q 0 (rc d h g v2 m tk)) d G' s2 q h g v2 us tk m∧Nx w (HFt q v) (HFt q v2)∧Bf (FQ G q v) w (w'.setCells q 0 (rc d h g v2 m tk)):=by
 have hq:=k.rf.bk.lt
 have kb:=(k.rf.bf b.bf k.ap).bk
 have NQ:v2.ownBlock≠some q:=fun e=>by have:=b.new q (.inr e);omega
 have hlen:(rc d h g v2 m tk).length=(rc d h0 g0 v m0 tk0).length:=rfl
 have gq:¬G' q:=b.nx.apart (k.ap q (.inl rfl)) hq
 obtain⟨cs,hcs⟩:∃cs,rc d h g v2 m tk=cs:=⟨_,rfl⟩
 have hbf:Bf (fun y=>y=q) w' (w'.setCells q 0 cs):=Bf.sets (fun y=>y=q) q rfl cs 0 w'
 have bp:=kb.put _ hlen
 have row:=ownsRow_same (w':=w'.setCells q 0 cs) b.rd.rf.row (fun y e=>setCells_other w' q 0 cs y (fun c=>NQ (by rw[e,c])))
 rw[hcs] at bp ⊢
 rw[←hcs] at bp
 refine⟨⟨b.rd.at_.other hbf (fun y hy e=>gq (by rw[←e];exact hy)),⟨by rw[←hcs];exact bp,row,NQ⟩,fun y hy => ?_⟩,fun y hy => ?_,?_⟩
 ·rcases hy with e|e
  ·rw[e];exact gq
  ·exact b.rd.ap y (.inr e)
 ·rcases hy with e|e
  ·exact .inl (.inl e)
  ·exact .inr (b.new y (.inr e))
 ·exact (b.bf.wide (G:=FQ G q v) fun y e => .inl e).trans (Nx.refl _ _) (hbf.wide fun y e => .inr (.inl e))
theorem Rl.swap {w w':World} {d:Nat} {G G':Nat→Prop} {s s2:St} {q q2:Nat} {v v2:Value} {x:Lo} {h g tk:Nat} {us:List Bs} {m:Bs} (k:Rl w d G s q v x) (b:Rb w d G w' G' s2 q2 h g v2 us tk m) (et:tk=tkn 1 us) (em:m=mks (hm g) us) (h1:h≤1) (hn:s2.n=s.n) (htk:tkn 1 us≤s.n / 2) (hok:∀t∈us,1≤t.length∧t.length≤2000) :
  RlP w d G q v s2 ⟨h,g,us⟩ (w'.setCells q 0 (rc d h g v2 m tk)):=by
 obtain⟨z1,z2,z3⟩:=k.rd.swap b
 have e1:(⟨h,g,us⟩:Lo).tk=tk:=et.symm
 have e2:(⟨h,g,us⟩:Lo).mr=m:=em.symm
 refine⟨G',v2,⟨?_,h1,by rw[hn];exact k.n4,by rw[hn];exact k.n2,by rw[hn];exact htk,hok⟩,b.nx,z2,z3⟩
 rw[e1,e2]
 exact z1
set_option maxHeartbeats 4000000 in
theorem rcompact_any (w:World) (d:Nat) (G:Nat→Prop) (s:St) (q:Nat) (v:Value) (x:Lo) (a:Option Addr) (n c:Nat) (us:List Bs) (hn:us.length=n) (hnb:n≤10000000000000) (hdn:s.down=false) (hl:s.l.length+4000≤1000000) (k:Hid (Rl w d G s q v x)) (tx:Hid (TxAt w a us)) (ap:Hid (Ap a us G)) :
  Calls Tryz.prog 98 #[.pointer (some ⟨q,0,none⟩),.slice a n c] w fun e w'=>e = .returned (.int .i64 (cmp s x us).1.1)∧RlP w d G q v (cmp s x us).1.2 (cmp s x us).2 w':=by
 have HN:Hid (us.length=n):=hn
 have hn2:=k.out.n2
 have hn4:=k.out.n4
 have STAY:Hid (RlP w d G q v s x w):=⟨G,v,k.out,Nx.refl _ _,Nx.refl _ _,Bf.refl _ _⟩
 obtain⟨r,hr⟩:∃r,cmp s x us=r:=⟨_,rfl⟩
 have HR:Hid (cmp s x us=r):=hr
 rw[hr]
 clear hr hn
 go_enter Tryz.func98, Tryz.ntmps98
 go_wp2
 go_loopw [5,6] (fun sm i wr=>∃j:Nat,j≤n∧i = .int .i64 (j:Int)∧sm = .int .i64 (sns (us.take j):Int)∧w=wr∧Hid (∀o (ho:o < us.length),o < j→may us[o]=0)) (fun _ i _=>n - (intOf i).toNat)
 case atStart=>exact⟨0,Nat.zero_le _,rfl,rfl,rfl,fun _ _ h=>absurd h (Nat.not_lt_zero _)⟩
 case round =>
  obtain⟨j,hjn,rfl,rfl,rfl,J⟩:=hrel
  by_cases hlt:j < n
  ·have hkl:j < us.length:=by rw[HN.out];exact hlt
   have g1:(j:Int) < (n:Int):=by omega
   obtain⟨b,o,rfl,c0⟩:=tx.out j hkl
   have ES:=sns_take us j hkl
   have EM:=mays_prefix us j J.out
   rw[List.drop_eq_getElem_cons hkl] at EM
   have JJ:Hid (may us[j]=0→∀o (ho:o < us.length),o < j+1→may us[o]=0):=fun h0 o ho hok=>by
    by_cases e:o=j
    ·subst e;exact h0
    ·exact J.out o ho (by omega)
   have CH:Hid (Calls Tryz.prog 92 #[.string (st us[j])] w fun e w'=>e = .returned (.int .i64 (may us[j]))∧w'=w):=rmay_any (st us[j]) w
   have SBN:sns (us.take j)≤100*j:=by
    have hh:∀t∈us.take j,t.length≤2000:=fun t ht=>by
     obtain⟨i,hi,rfl⟩:=List.getElem_of_mem ht
     rw[List.length_take] at hi
     rw[List.getElem_take]
     exact (may_ok (J.out i (by omega) (by omega))).2
    have:=sns_bound (us.take j) j hh
    rw[List.take_take,Nat.min_self] at this
    exact this
   unfold sv at c0
   by_cases h0:may us[j]=0
   ·have hok:=may_ok h0
    have SO:Hid (Calls Tryz.prog 93 #[.string (st us[j])] w fun e w'=>e = .returned (.int .i64 (sn us[j]:Int))∧w'=w):=rsectors_any us[j] (by omega) w
    have hsn:sn us[j]≤100:=by unfold sn;omega
    have JN:Hid _:=JJ.out h0
    rw[h0] at CH
    have HES:Hid (sns (us.take (j+1))=sns (us.take j)+sn us[j]):=ES
    have y1:IntKind.i64.wrap ((sns (us.take j):Int)+(sn us[j]:Int))=(sns (us.take j):Int)+(sn us[j]:Int):=by rw[IntKind.wrap_i64];omega
    obtain⟨z,hz⟩:∃z,sn us[j]=z:=⟨_,rfl⟩
    obtain⟨u,hu⟩:∃u,sns (us.take j)=u:=⟨_,rfl⟩
    obtain⟨T,hT⟩:∃T,st us[j]=T:=⟨_,rfl⟩
    rw[hz] at SO HES y1
    rw[hu] at HES y1 ⊢
    rw[hT] at CH SO c0
    clear hz hu hT ES EM JJ J h0 hok hsn STAY k tx ap HR SBN
    go_wp2_with fail
    refine Calls.mono CH.out ?_
    rintro e w1 ⟨rfl,rfl⟩
    go_wp2_with fail
    refine Calls.mono SO.out ?_
    rintro e w2 ⟨rfl,rfl⟩
    go_wp2
    go_roundw
    case rel=>exact⟨j+1,by omega,rfl,by rw[HES.out];simp,by first|rfl|trivial,JN.out⟩
    case measure=>simp[intOf];omega
   ·rw[may_bad h0] at EM
    have ER:Hid (r=((may us[j],s),x)):=by
     show r=_
     rw[←HR.out,cmp,if_pos (by rw[EM];exact h0),EM]
    obtain⟨y,hy⟩:∃y,may us[j]=y:=⟨_,rfl⟩
    rw[hy] at CH ER h0
    obtain⟨T,hT⟩:∃T,st us[j]=T:=⟨_,rfl⟩
    rw[hT] at CH c0
    clear hT hy ES EM JJ J k tx ap HR SBN
    go_wp2_with fail
    refine Calls.mono CH.out ?_
    rintro e w1 ⟨rfl,rfl⟩
    go_wp2
    go_ret
    exact⟨by rw[ER.out];rfl,by rw[ER.out];exact STAY.out⟩
  ·obtain rfl:j=n:=by omega
   have g1:¬(j:Int) < (j:Int):=by omega
   have e0:mays us=0:=by
    rw[mays_prefix us j J.out,List.drop_of_length_le (by rw[HN.out];exact Nat.le_refl _)]
    rfl
   have e1:us.take j=us:=List.take_of_length_le (by rw[HN.out];exact Nat.le_refl _)
   rw[e1]
   have c0:=k.out.rd.rf.bk.c 0 _ rfl
   have HA:Hid _:=rhalf_any d G s w k.out.rd.at_ (by omega)
   have HR1:=HR.out
   rw[cmp,if_neg (by rw[e0];simp)] at HR1
   have SB:sns us≤100*j:=by
    have:=sns_bound us j (fun t ht=>(mays_all e0 t ht).2)
    rw[e1] at this
    exact this
   obtain⟨H,hH⟩:∃H,s.n / 2=H:=⟨_,rfl⟩
   rw[hH] at HA HR1
   have ym:IntKind.i64.wrap ((H:Int) - 1)=(H:Int) - 1:=by rw[IntKind.wrap_i64];omega
   by_cases h3:H - 1 < sns us
   ·rw[if_pos h3] at HR1
    have ER:Hid (r=((151,s),x)):=HR1.symm
    have g3:(H:Int) - 1 < (sns us:Int):=by omega
    obtain⟨sm,hsm⟩:∃sm:Int,(sns us:Int)=sm:=⟨_,rfl⟩
    rw[hsm] at g3 ⊢
    clear hsm HR1 k tx ap HR J e0 e1 h3 SB
    go_wp2_with fail
    refine Calls.mono HA.out ?_
    rintro e w1 ⟨rfl,rfl⟩
    go_wp2
    go_ret
    exact⟨by rw[ER.out];rfl,by rw[ER.out];exact STAY.out⟩
   ·rw[if_neg h3] at HR1
    have g3:¬(H:Int) - 1 < (sns us:Int):=by omega
    have c2:=k.out.rd.rf.bk.c 2 _ rfl
    by_cases h4:2147483647≤x.g
    ·rw[if_pos h4] at HR1
     have ER:Hid (r=((2,s),x)):=HR1.symm
     have g4:(2147483647:Int)≤(x.g:Int):=by omega
     obtain⟨sm,hsm⟩:∃sm:Int,(sns us:Int)=sm:=⟨_,rfl⟩
     rw[hsm] at g3 ⊢
     obtain⟨gi,hgi⟩:∃gi:Int,(x.g:Int)=gi:=⟨_,rfl⟩
     rw[hgi] at c2 g4
     clear hsm HR1 k tx ap HR J e0 e1 h4 hgi h3 SB
     go_wp2_with fail
     refine Calls.mono HA.out ?_
     rintro e w1 ⟨rfl,rfl⟩
     go_wp2
     go_ret
     exact⟨by rw[ER.out];rfl,by rw[ER.out];exact STAY.out⟩
    ·rw[if_neg h4] at HR1
     have g4:¬(2147483647:Int)≤(x.g:Int):=by omega
     have hsn:1+sns us≤s.n / 2:=by rw[hH];omega
     have hbn:=bgn_n s ((1 - x.h)*(s.n / 2)) (s.n / 2) (x.g+1) us
     rw[hH] at hbn
     obtain⟨⟨yx,ys⟩,hy⟩:∃y,bgn s ((1 - x.h)*H) H (x.g+1) us=y:=⟨_,rfl⟩
     rw[hy] at HR1 hbn
     have hx1:=k.out.h1
     have BG:Hid (∀V,Below w.heap.size w V→Calls Tryz.prog 81 #[.pointer (some ⟨d,0,none⟩),.int .i64 ((1 - x.h:Nat):Int),.int .i64 ((x.g+1:Nat):Int),.slice a j c] V fun e w'=>∃pv,e = .returned (.tuple #[pv,.int .i64 yx])∧RcS q d x.h x.g w'∧(yx≠0→RlP w d G q v ys x w')∧(yx=0→∃q2 v2 m2,pv = .pointer (some ⟨q2,0,none⟩)∧q≠q2∧Blk w' q2 (rc d (1 - x.h) (x.g+1) v2 m2 (tkn 1 us))∧(∃a2 n2 c2,v2 = .slice a2 n2 c2)∧Blk w' q (rc d x.h x.g v x.mr x.tk)∧RlP w d G q v ys ⟨1 - x.h,x.g+1,us⟩ (w'.setCells q 0 (rc d (1 - x.h) (x.g+1) v2 m2 (tkn 1 us))))):=fun V hb=>by
      have kk:=k.out.later hb
      have B:=rbegin_any V d G s (1 - x.h) (x.g+1) a j c us HN.out (fun t ht=>(mays_all e0 t ht).2) hsn (by omega) hn2 hdn hl kk.rd.at_ (tx.out.later hb) ap.out
      rw[hH,hy] at B
      refine B.mono ?_
      rintro e w' ⟨pv,G',he,dw,hz⟩
      have kb:=kk.rd.rf.bf dw.bf kk.rd.ap
      have hsz:=hb.size
      have nx1:Nx w G G':=fun y hy=>(dw.nx y hy).imp id (fun z=>Nat.le_trans hsz z)
      refine⟨pv,he,kb.rcs,fun hne=>⟨G',v,⟨⟨dw.at_,kb,fun y hy=>dw.nx.apart (kk.rd.ap y hy) (kk.rd.rf.lt hy)⟩,kk.h1,by rw[show ys.n=s.n from hbn];exact kk.n4,by rw[show ys.n=s.n from hbn];exact kk.n2,by rw[show ys.n=s.n from hbn];exact kk.tk,kk.ok⟩,nx1,Nx.refl _ _,((Bf.of hb).trans (Nx.refl _ _) dw.bf).wide fun y e => .inl e⟩,fun h0 => ?_⟩
      obtain⟨q2,v2,rfl,rb⟩:=hz h0
      refine⟨q2,v2,mks (hm (x.g+1)) us,rfl,fun e => ?_,rb.rd.rf.bk,owns_sliceS rb.rd.rf.row,kb.bk,?_⟩
      ·have:=rb.new q2 (.inl rfl)
       have:=kk.rd.rf.bk.lt
       omega
      ·obtain⟨G2,v3,z1,z2,z3,z4⟩:=kk.swap rb rfl rfl (by omega) hbn (by rw[tkn_sns];exact hsn) (mays_all e0)
       exact⟨G2,v3,z1,fun y hy=>(z2 y hy).imp id (fun z=>Nat.le_trans hsz z),fun y hy=>(z3 y hy).imp id (fun z=>Nat.le_trans hsz z),(Bf.of hb).trans (Nx.refl _ _) z4⟩
     have S0:RcS q d x.h x.g w:=k.out.rd.rf.rcs
     have e5:(((x.g+1:Nat):Int))=(x.g:Int)+1:=by omega
     have e6:(((1 - x.h:Nat):Int))=1 - (x.h:Int):=by omega
     have y1:IntKind.i64.wrap ((x.g:Int)+1)=(x.g:Int)+1:=by rw[IntKind.wrap_i64];omega
     have y2:IntKind.i64.wrap (1 - (x.h:Int))=1 - (x.h:Int):=by rw[IntKind.wrap_i64];omega
     rw[e5,e6] at BG
     have ER:Hid (r=((yx,ys),if yx=0 then ⟨1 - x.h,x.g+1,us⟩ else x)):=HR1.symm
     obtain⟨sm,hsm⟩:∃sm:Int,(sns us:Int)=sm:=⟨_,rfl⟩
     rw[hsm] at g3 ⊢
     unfold RcS at S0 BG
     obtain⟨gi,hgi⟩:∃gi:Int,(x.g:Int)=gi:=⟨_,rfl⟩
     obtain⟨hi,hhi⟩:∃hi:Int,(x.h:Int)=hi:=⟨_,rfl⟩
     rw[hgi] at S0 BG c2 g4 y1
     rw[hhi] at S0 BG y2
     clear hsm HR1 k tx ap HR J e0 e1 h4 h3 SB e5 e6 hgi hhi STAY hbn hy
     go_wp2_with fail
     refine Calls.mono HA.out ?_
     rintro e w1 ⟨rfl,rfl⟩
     clear HA
     go_wp2_with fail
     go_region_held3 (fun w'=>w'.cell? ⟨q,0,none⟩=some (.pointer (some ⟨d,0,none⟩))∧w'.cell? ⟨q,1,none⟩=some (.int .i64 hi)∧w'.cell? ⟨q,2,none⟩=some (.int .i64 gi)) (first|exact S0|assumption) (first|(go_at_call 81;refine Calls.mono (BG.out _ (by first|exact (Below.refl _ _).drew|assumption)) ?_;rintro e w2 ⟨pv,rfl,hS2,hne2,hz2⟩))
     have NE:Hid _:=hne2
     have NZ:Hid _:=hz2
     clear hne2 hz2 BG S0 hS2 c0 c2
     by_cases h0:yx=0
     ·obtain⟨q2,v2,m2,rfl,hqq,bk2,⟨xa,xn,xc,rfl⟩,bk,fin⟩:=NZ.out h0
      have FF:Hid (RlP w1 d G q v r.1.2 r.2 (w2.setCells q 0 (rc d (1 - x.h) (x.g+1) (.slice xa xn xc) m2 (tkn 1 us)))):=by
       rw[ER.out,if_pos h0]
       exact fin
      have c0:=bk.c 0 _ rfl
      have c1:=bk.c 1 _ rfl
      have c2:=bk.c 2 _ rfl
      have c3:=bk.c 3 _ rfl
      have c4:=bk.c 4 _ rfl
      have c5:=bk.c 5 _ rfl
      have cf:=bk.f
      have z0:=bk2.c 0 _ rfl
      have z1:=bk2.c 1 _ rfl
      have z2:=bk2.c 2 _ rfl
      have z3:=bk2.c 3 _ rfl
      have z4:=bk2.c 4 _ rfl
      have z5:=bk2.c 5 _ rfl
      have ER1:Hid (r.1.1=0):=by show r.1.1=0;rw[ER.out];exact h0
      unfold rc sv at FF
      unfold sv at c4 z4
      obtain⟨gg,hgg⟩:∃gg:Int,((x.g+1:Nat):Int)=gg:=⟨_,rfl⟩
      obtain⟨hh,hhh⟩:∃gg:Int,((1 - x.h:Nat):Int)=gg:=⟨_,rfl⟩
      obtain⟨t1,ht1⟩:∃t1:Int,((tkn 1 us:Nat):Int)=t1:=⟨_,rfl⟩
      obtain⟨M2,hM2⟩:∃M,st m2=M:=⟨_,rfl⟩
      obtain⟨M0,hM0⟩:∃M,st x.mr=M:=⟨_,rfl⟩
      obtain⟨ow,how⟩:∃z:Int,(x.h:Int)=z:=⟨_,rfl⟩
      rw[hgg,hhh,ht1,hM2] at FF
      rw[hgg] at z2
      rw[hhh] at z1
      rw[ht1] at z5
      rw[hM2] at z4
      rw[hM0] at c4
      subst h0
      clear hgg hhh ht1 hM2 hM0 how fin bk bk2 NE NZ ER
      go_wp2
      go_ret
      exact⟨by rw[ER1.out];rfl,FF.out⟩
     ·have FF:Hid (RlP w1 d G q v r.1.2 r.2 w2):=by
       rw[ER.out,if_neg h0]
       exact NE.out h0
      have ER1:Hid (r.1.1=yx):=by show r.1.1=yx;rw[ER.out]
      clear NE NZ ER
      go_wp2
      go_ret
      exact⟨by rw[ER1.out];rfl,FF.out⟩
def user (s:St):Nat×Nat:=if genr (s.sh 0) < genr (s.sh (s.n / 2)) then (1,genr (s.sh (s.n / 2))) else (0,genr (s.sh 0))
def opnr (s:St):(Int×St)×Lo :=
 if s.n / 2 < 2 then ((4,s),⟨0,0,[]⟩)
 else if s.down=true then ((150,s),⟨0,0,[]⟩)
 else if (user s).2=0 then (bgn s 0 (s.n / 2) 1 [],⟨0,1,[]⟩)
 else (cln s ((user s).1*(s.n / 2)+tkn 1 (recs s ((user s).1*(s.n / 2)) (s.n / 2) (user s).2)) (s.n / 2 - tkn 1 (recs s ((user s).1*(s.n / 2)) (s.n / 2) (user s).2)),⟨(user s).1,(user s).2,recs s ((user s).1*(s.n / 2)) (s.n / 2) (user s).2⟩)
def OpR (w:World) (d:Nat) (G:Nat→Prop) (y:Int×St) (x:Lo) (e:Ending) (w':World):Prop :=
 ∃pv G',e = .returned (.tuple #[pv,.int .i64 y.1])∧Dw w d G w' G' y.2∧(y.1≠0→pv = .pointer none)∧(y.1=0→∃q v,pv = .pointer (some ⟨q,0,none⟩)∧Rl w' d G' y.2 q v x∧∀z,HFt q v z→w.heap.size≤z)
theorem opr_no {w:World} {d:Nat} {G:Nat→Prop} {r:(Int×St)×Lo} {z:Int} {s':St} {x:Lo} {G':Nat→Prop} {w':World} (hy:r=((z,s'),x)) (hz:z≠0) (k:Dw w d G w' G' s'):OpR w d G r.1 r.2 (.returned (.tuple #[.pointer none,.int .i64 z])) w':=by
 subst hy
 exact⟨.pointer none,G',rfl,k,fun _=>rfl,fun c=>absurd c hz⟩
theorem opr_ok {w:World} {d:Nat} {G:Nat→Prop} {r:(Int×St)×Lo} {s':St} {x:Lo} {G':Nat→Prop} {w':World} {q:Nat} {v:Value} (hy:r=((0,s'),x)) (k:Dw w d G w' G' s') (l:Rl w' d G' s' q v x) (hn:∀z,HFt q v z→w.heap.size≤z):OpR w d G r.1 r.2 (.returned (.tuple #[.pointer (some ⟨q,0,none⟩),.int .i64 0])) w':=by
 subst hy
 exact⟨_,G',rfl,k,fun c=>absurd rfl c,fun _=>⟨q,v,rfl,l,hn⟩⟩
theorem Rf.grow {w:World} {q d h g:Nat} {v:Value} {ts:List Bs} {tk:Nat} {m:Bs} (k:Rf w q d h g v ts tk m) {w':World} {v':Value} {us:List Bs} (r:w.grownBy w' v.ownBlock) (o:OwnsS w' v' us) (hv:v'.ownBlock=v.ownBlock∨v'.ownBlock=some w.heap.size) (m':Bs) (tk':Nat) :
  Rf (((w'.setCell ⟨q,3,none⟩ v').setCell ⟨q,4,none⟩ (sv m')).setCell ⟨q,5,none⟩ (.int .i64 (tk':Int))) q d h g v' us tk' m'∧Bf (HFt q v) w (((w'.setCell ⟨q,3,none⟩ v').setCell ⟨q,4,none⟩ (sv m')).setCell ⟨q,5,none⟩ (.int .i64 (tk':Int)))∧Nx w (HFt q v) (HFt q v'):=by
 have hq:w'.heap[q]?=w.heap[q]?:=r.block q k.bk.lt (fun e=>k.qv e.symm)
 have nq:v'.ownBlock≠some q:=fun c=>by
  rcases hv with e|e
  ·exact k.qv (e.symm.trans c)
  ·rw[e] at c
   injection c with c
   have:=k.bk.lt
   omega
 have b1:=(((k.bk.same hq).set 3 (show 3 < 6 by decide) v').set 4 (show 4 < 6 by decide) (sv m')).set 5 (show 5 < 6 by decide) (.int .i64 (tk':Int))
 have s1:∀(W:World) (i:Nat) (y:Value),OwnsS W v' us→OwnsS (W.setCell ⟨q,i,none⟩ y) v' us:=fun W i y ho=>ownsRow_same ho (fun x e=>Below.heap_setCell W ⟨q,i,none⟩ y x (fun c=>nq (by rw[e,c])))
 refine⟨⟨b1,s1 _ _ _ (s1 _ _ _ (s1 _ _ _ o)),nq⟩,bf_set (bf_set (bf_set (Bf.grown r fun g e => .inl (.inr e)) (.inl rfl)) (.inl rfl)) (.inl rfl),fun y hy => ?_⟩
 rcases hy with e|e
 ·exact .inl (.inl e)
 ·rcases hv with h2|h2
  ·exact .inl (.inr (h2.symm.trans e))
  ·rw[h2] at e
   injection e with e
   exact .inr (by omega)
theorem Rb.grow {w:World} {d:Nat} {G:Nat→Prop} {wr:World} {G':Nat→Prop} {s:St} {q h g:Nat} {v:Value} {ts:List Bs} {tk:Nat} {m:Bs} (k:Rb w d G wr G' s q h g v ts tk m) {w':World} {v':Value} {us:List Bs} (r:wr.grownBy w' v.ownBlock) (o:OwnsS w' v' us) (hv:v'.ownBlock=v.ownBlock∨v'.ownBlock=some wr.heap.size) (m':Bs) (tk':Nat) :
  Rb w d G (((w'.setCell ⟨q,3,none⟩ v').setCell ⟨q,4,none⟩ (sv m')).setCell ⟨q,5,none⟩ (.int .i64 (tk':Int))) G' s q h g v' us tk' m':=by
 obtain⟨z1,z2,z3⟩:=k.rd.rf.grow r o hv m' tk'
 refine k.put ⟨k.rd.at_.other z2 (fun y hy c=>k.rd.ap y c hy),z1,fun y hy => ?_⟩ (Nx.refl _ _) z3 (z2.wide fun y e => .inr e)
 rcases z3 y hy with e|e
 ·exact k.rd.ap y e
 ·intro c
  have:=k.rd.at_.lt c
  omega
def OpL (w:World) (d:Nat) (G:Nat→Prop) (s:St) (q A B:Nat) (kT:List Bs) (b:Bs) (wr:World):Prop :=
 ∃v ts m fu j,Rb w d G wr G s q A B v ts (tkn 1 ts) m∧m=mks (hm B) ts∧kT=ts++scan fu b m∧j < fu∧b.length=64*j∧tkn 1 ts+j=s.n / 2
theorem rd_sh {s:St} (hd:s.down=false) {k:Nat} (hk:k < s.n):rdV s (k:Int)=s.sh k∧rch s (k:Int)=0:=by
 have h:rch s (k:Int)=0:=by
  unfold rch
  rw[if_neg (by rw[hd];decide),if_neg (by omega)]
 exact⟨by unfold rdV;rw[if_pos h,Int.toNat_natCast],h⟩
theorem opl_next {w:World} {d:Nat} {G:Nat→Prop} {s:St} {q A B:Nat} {kT:List Bs} {b:Bs} {wr:World} {ts:List Bs} {m:Bs} {fu j:Nat} {t:Bs} (em:m=mks (hm B) ts) (ek:kT=ts++scan fu b m) (hj:j < fu) (hb:b.length=64*j) (ht:tkn 1 ts+j=s.n / 2) (hr:rof b m=some t)
  {v':Value} (k:Rb w d G wr G s q A B v' (ts++[t]) (tkn 1 ts+sn t) (rmk m t)):OpL w d G s q A B kT (b.drop (64*sn t)) wr∧sn t≤j:=by
 have hl:=(rof_le hr).1
 have hsn:=sn_pos t
 refine⟨⟨v',ts++[t],rmk m t,fu - 1,j - sn t,by rw[tkn_app];exact k,by rw[em,mks_app],?_,by omega,by rw[List.length_drop];omega,by rw[tkn_app];omega⟩,by omega⟩
 rw[ek,scan_some (by omega) hr,List.append_assoc]
 rfl
set_option maxHeartbeats 8000000 in
theorem ropen_any (w:World) (d:Nat) (G:Nat→Prop) (s:St) (hn:s.n≤1024) (hl:s.l.length+5000≤1000000) (D:Hid (DAt w d G s)) :
  Calls Tryz.prog 46 #[.pointer (some ⟨d,0,none⟩)] w fun e w'=>OpR w d G (opnr s).1 (opnr s).2 e w':=by
 have HA:Hid (∀W,Below w.heap.size w W→Calls Tryz.prog 79 #[.pointer (some ⟨d,0,none⟩)] W fun e w'=>e = .returned (.int .i64 ((s.n / 2:Nat):Int))∧w'=W):=fun W hb=>rhalf_any d G s W (D.out.later hb) (by omega)
 have RD:Hid (∀W (k:Int),Below w.heap.size w W→Calls Tryz.prog 13 #[.pointer (some ⟨d,0,none⟩),.int .i64 k] W fun e w'=>e = .returned (.tuple #[sv (rdV s k),.int .i64 (rch s k)])∧w'=W):=fun W k hb=>rread_any d G s k W (D.out.later hb) (by omega)
 have hOk:Ok s:=D.out.1
 obtain⟨r,hr⟩:∃r,opnr s=r:=⟨_,rfl⟩
 rw[hr]
 unfold opnr at hr
 obtain⟨H,hH⟩:∃H,s.n / 2=H:=⟨_,rfl⟩
 rw[hH] at HA hr
 have DD:Hid (∀W,Below w.heap.size w W→Dw w d G W G s):=fun W hb=>⟨D.out.later hb,Nx.refl _ _,Bf.of hb⟩
 by_cases h2:H < 2
 ·rw[if_pos h2] at hr
  have g1:(H:Int) < 2:=by omega
  have FF:Hid (OpR w d G r.1 r.2 (.returned (.tuple #[.pointer none,.int .i64 4])) w):=opr_no hr.symm (by decide) (DD.out w (Below.refl _ _))
  clear hr D RD DD hOk
  go_enter Tryz.func46, Tryz.ntmps46
  go_wp2_with fail
  refine Calls.mono (HA.out _ (Below.refl _ _)) ?_
  rintro e w1 ⟨rfl,rfl⟩
  go_wp2
  go_ret2
  exact FF.out
 ·rw[if_neg h2] at hr
  have g1:¬(H:Int) < 2:=by omega
  by_cases hdn:s.down=true
  ·rw[if_pos hdn] at hr
   have FF:Hid (OpR w d G r.1 r.2 (.returned (.tuple #[.pointer none,.int .i64 150])) w):=opr_no hr.symm (by decide) (DD.out w (Below.refl _ _))
   have R0:Hid (Calls Tryz.prog 13 #[.pointer (some ⟨d,0,none⟩),.int .i64 0] w fun e w'=>e = .returned (.tuple #[.string ⟨#[]⟩,.int .i64 150])∧w'=w):=by
    have e1:rch s 0=150:=by unfold rch;rw[if_pos hdn]
    have e2:rdV s 0=[]:=by unfold rdV;rw[if_neg (by rw[e1];decide)]
    have:=RD.out w 0 (Below.refl _ _)
    rw[e1,e2] at this
    exact this
   clear hr D RD DD hOk hdn
   go_enter Tryz.func46, Tryz.ntmps46
   go_wp2_with fail
   refine Calls.mono (HA.out _ (Below.refl _ _)) ?_
   rintro e w1 ⟨rfl,rfl⟩
   go_wp2
   go_loopw [4,5,6] (fun x4 x5 i wr=>x4 = .int .i64 0∧x5 = .int .i64 0∧i = .int .i64 0∧w1=wr) (fun _ _ _ _=>0)
   case atStart=>exact⟨rfl,rfl,rfl,rfl⟩
   case round =>
    obtain⟨rfl,rfl,rfl,rfl⟩:=hrel
    go_wp2_with fail
    refine Calls.mono (HA.out _ (Below.refl _ _)) ?_
    rintro e w2 ⟨rfl,rfl⟩
    go_wp2_with fail
    refine Calls.mono R0.out ?_
    rintro e w3 ⟨rfl,rfl⟩
    go_wp2
    go_ret2
    exact FF.out
  ·rw[if_neg hdn] at hr
   have hdn':s.down=false:=by cases h:s.down <;> simp_all
   have hHn:H < s.n:=by omega
   have e0:=rd_sh hdn' (k:=0) (by omega)
   have eH:=rd_sh hdn' (k:=H) hHn
   have l0:(s.sh 0).length=64:=hOk.sh64 0
   have lH:(s.sh H).length=64:=hOk.sh64 H
   have R0:Hid (∀W,Below w.heap.size w W→Calls Tryz.prog 13 #[.pointer (some ⟨d,0,none⟩),.int .i64 0] W fun e w'=>e = .returned (.tuple #[.string (st (s.sh 0)),.int .i64 0])∧w'=W):=fun W hb=>by
    have:=RD.out W ((0:Nat):Int) hb
    rw[e0.1,e0.2] at this
    exact this
   have RH:Hid (∀W,Below w.heap.size w W→Calls Tryz.prog 13 #[.pointer (some ⟨d,0,none⟩),.int .i64 (H:Int)] W fun e w'=>e = .returned (.tuple #[.string (st (s.sh H)),.int .i64 0])∧w'=W):=fun W hb=>by
    have:=RD.out W ((H:Nat):Int) hb
    rw[eH.1,eH.2] at this
    exact this
   have G0:Hid (∀W,Calls Tryz.prog 80 #[.string (st (s.sh 0))] W fun e w'=>e = .returned (.int .i64 (genr (s.sh 0):Int))∧Below W.heap.size W w'):=fun W=>rgen_any (s.sh 0) l0 W
   have GH:Hid (∀W,Calls Tryz.prog 80 #[.string (st (s.sh H))] W fun e w'=>e = .returned (.int .i64 (genr (s.sh H):Int))∧Below W.heap.size W w'):=fun W=>rgen_any (s.sh H) lH W
   have hu:user s=if genr (s.sh 0) < genr (s.sh H) then (1,genr (s.sh H)) else (0,genr (s.sh 0)):=by unfold user;rw[hH]
   obtain⟨S0,hS0⟩:∃x,st (s.sh 0)=x:=⟨_,rfl⟩
   obtain⟨SH,hSH⟩:∃x,st (s.sh H)=x:=⟨_,rfl⟩
   obtain⟨ga,hga⟩:∃x,genr (s.sh 0)=x:=⟨_,rfl⟩
   obtain⟨gb,hgb⟩:∃x,genr (s.sh H)=x:=⟨_,rfl⟩
   rw[hS0] at R0 G0
   rw[hSH] at RH GH
   rw[hga] at G0 hu
   rw[hgb] at GH hu
   obtain⟨⟨A,B⟩,hAB⟩:∃x,user s=x:=⟨_,rfl⟩
   rw[hAB] at hr hu
   have HU:Hid ((A,B)=if ga < gb then (1,gb) else (0,ga)):=hu
   have HR:Hid ((if B=0 then (bgn s 0 H 1 [],⟨0,1,[]⟩) else (cln s (A*H+tkn 1 (recs s (A*H) H B)) (H - tkn 1 (recs s (A*H) H B)),(⟨A,B,recs s (A*H) H B⟩:Lo)))=r):=hr
   have HOK:Hid (Ok s):=hOk
   clear hS0 hSH hga hgb hAB hu hr RD e0 eH l0 lH hOk hdn
   go_enter Tryz.func46, Tryz.ntmps46
   go_wp2_with fail
   refine Calls.mono (HA.out _ (Below.refl _ _)) ?_
   rintro e w1 ⟨rfl,rfl⟩
   go_wp2
   go_loopw [4,5,6] (fun x4 x5 i wr=>Hid (Below w1.heap.size w1 wr)∧(x4 = .int .i64 0∧x5 = .int .i64 0∧i = .int .i64 0∨x4 = .int .i64 (ga:Int)∧x5 = .int .i64 0∧i = .int .i64 1∨x4 = .int .i64 (B:Int)∧x5 = .int .i64 (A:Int)∧i = .int .i64 2)) (fun _ _ i _=>2 - (intOf i).toNat)
   case atStart=>exact⟨Below.refl _ _,.inl ⟨rfl,rfl,rfl⟩⟩
   case round =>
    obtain⟨J,⟨rfl,rfl,rfl⟩|⟨rfl,rfl,rfl⟩|⟨rfl,rfl,rfl⟩⟩:=hrel
    ·go_wp2_with fail
     refine Calls.mono (HA.out _ J.out) ?_
     rintro e w2 ⟨rfl,rfl⟩
     go_wp2_with fail
     refine Calls.mono (R0.out _ J.out) ?_
     rintro e w3 ⟨rfl,rfl⟩
     go_wp2_with fail
     refine Calls.mono (G0.out _) ?_
     rintro e w4 ⟨rfl,hb⟩
     have J4:Hid (Below w1.heap.size w1 w4):=chain J.out hb
     clear hb J
     by_cases hg:0 < ga
     ·have g2:(0:Int) < (ga:Int):=by omega
      go_wp2_with fail
      refine Calls.mono (G0.out _) ?_
      rintro e w5 ⟨rfl,hb⟩
      have J5:Hid (Below w1.heap.size w1 w5):=chain J4.out hb
      clear hb J4
      go_wp2
      go_roundw
      case rel=>exact⟨J5.out,.inr (.inl ⟨rfl,rfl,rfl⟩)⟩
      case measure=>simp[intOf]
     ·obtain rfl:ga=0:=by omega
      go_wp2
      go_roundw
      case rel=>exact⟨J4.out,.inr (.inl ⟨rfl,rfl,rfl⟩)⟩
      case measure=>simp[intOf]
    ·go_wp2_with fail
     refine Calls.mono (HA.out _ J.out) ?_
     rintro e w2 ⟨rfl,rfl⟩
     go_wp2_with fail
     refine Calls.mono (RH.out _ J.out) ?_
     rintro e w3 ⟨rfl,rfl⟩
     go_wp2_with fail
     refine Calls.mono (GH.out _) ?_
     rintro e w4 ⟨rfl,hb⟩
     have J4:Hid (Below w1.heap.size w1 w4):=chain J.out hb
     clear hb J
     by_cases hg:ga < gb
     ·have g2:(ga:Int) < (gb:Int):=by omega
      have HU2:=HU.out
      rw[if_pos hg] at HU2
      injection HU2 with a1 a2
      go_wp2_with fail
      refine Calls.mono (GH.out _) ?_
      rintro e w5 ⟨rfl,hb⟩
      have J5:Hid (Below w1.heap.size w1 w5):=chain J4.out hb
      have HA1:Hid (A=1):=a1
      have HB1:Hid (B=gb):=a2
      clear hb J4 a1 a2
      go_wp2
      go_roundw
      case rel=>exact⟨J5.out,.inr (.inr ⟨by rw[HB1.out],by rw[HA1.out];rfl,rfl⟩)⟩
      case measure=>simp[intOf]
     ·have g2:¬(ga:Int) < (gb:Int):=by omega
      have HU2:=HU.out
      rw[if_neg hg] at HU2
      injection HU2 with a1 a2
      have HA1:Hid (A=0):=a1
      have HB1:Hid (B=ga):=a2
      clear a1 a2
      go_wp2
      go_roundw
      case rel=>exact⟨J4.out,.inr (.inr ⟨by rw[HB1.out],by rw[HA1.out];rfl,rfl⟩)⟩
      case measure=>simp[intOf]
    ·clear R0 RH G0 GH
     have hA:A≤1:=by
      have:=HU.out
      by_cases hg:ga < gb
      ·rw[if_pos hg] at this
       injection this with a1 a2
       omega
      ·rw[if_neg hg] at this
       injection this with a1 a2
       omega
     clear HU
     by_cases hB:B=0
     ·have HR2:=HR.out
      rw[if_pos hB] at HR2
      have g3:(B:Int)=0:=by omega
      obtain⟨⟨yx,ys⟩,hy⟩:∃y,bgn s 0 H 1 []=y:=⟨_,rfl⟩
      rw[hy] at HR2
      have hbn:ys.n=s.n:=by have:=bgn_n s 0 H 1 [];rw[hy] at this;exact this
      have BG:Hid (Calls Tryz.prog 81 #[.pointer (some ⟨d,0,none⟩),.int .i64 0,.int .i64 1,.slice none 0 0] wr fun e w'=>BgR wr d G 0 1 [] (yx,ys) e w'):=by
       have:=rbegin_any wr d G s 0 1 none 0 0 [] rfl nofun (by show 1+0≤s.n / 2;omega) (by omega) hn hdn' (by omega) (D.out.later J.out) (TxAt.nil _ _) (fun x e=>by cases e)
       rw[hH,Nat.zero_mul,hy] at this
       exact this
      have ER:Hid (r=((yx,ys),⟨0,1,[]⟩)):=HR2.symm
      have DWC:Hid (∀w2 G',Dw wr d G w2 G' ys→Dw w1 d G w2 G' ys):=fun w2 G' k=>⟨k.at_,fun y hy=>(k.nx y hy).imp id (fun z=>Nat.le_trans J.out.size z),(Bf.of J.out).trans (Nx.refl _ _) k.bf⟩
      have HSZ:Hid (w1.heap.size≤wr.heap.size):=J.out.size
      clear HR HR2 D J DD HA HOK hy
      go_wp2_with fail
      refine Calls.mono BG.out ?_
      rintro e w2 ⟨pv,G2,rfl,dw,hz⟩
      have DW2:Hid _:=DWC.out w2 G2 dw
      have HZ:Hid _:=hz
      clear BG DWC dw hz
      by_cases h0:yx=0
      ·obtain⟨q,v,rfl,rb⟩:=HZ.out h0
       have FF:Hid (OpR w1 d G r.1 r.2 (.returned (.tuple #[.pointer (some ⟨q,0,none⟩),.int .i64 0])) w2):=by
        subst h0
        exact opr_ok ER.out DW2.out ⟨rb.rd,by decide,by rw[hbn];omega,by rw[hbn];exact hn,by rw[hbn];show 1≤s.n / 2;omega,nofun⟩ (fun z hz=>Nat.le_trans HSZ.out (rb.new z hz))
       subst h0
       clear HZ rb DW2 ER HSZ
       go_wp2
       go_ret2
       exact FF.out
      ·have FF:Hid (OpR w1 d G r.1 r.2 (.returned (.tuple #[.pointer none,.int .i64 yx])) w2):=opr_no ER.out h0 DW2.out
       clear HZ DW2 ER HSZ
       go_wp2
       go_ret2
       exact FF.out
     ·have g3:¬(B:Int)=0:=by omega
      have HR2:=HR.out
      rw[if_neg hB] at HR2
      obtain⟨kT,hkT⟩:∃x,recs s (A*H) H B=x:=⟨_,rfl⟩
      rw[hkT] at HR2
      have KT:Hid (recs s (A*H) H B=kT):=hkT
      clear hkT HR
      have ER:Hid (r=(cln s (A*H+tkn 1 kT) (H - tkn 1 kT),⟨A,B,kT⟩)):=HR2.symm
      have HOKS:Hid (∀u∈kT,1≤u.length∧u.length≤2000):=fun u hu=>by
       rw[←KT.out,recs] at hu
       exact scan_fits.scan_ok H _ _ u hu
      have PL:Hid (∀W,Calls Tryz.prog 83 #[.int .i64 (B:Int)] W fun e w'=>e = .returned (.string (st (hf B)))∧Below W.heap.size W w'):=fun W=>rplain_any B W
      have MK:Hid (∀W,Calls Tryz.prog 82 #[.string (st (hf B))] W fun e w'=>e = .returned (.string (st (hm B)))∧Below W.heap.size W w'):=fun W=>rmark_any (hf B) (by rw[hf_len];decide) W
      have NEW:Hid (∀(W:World),Below w1.heap.size w1 W→Rb w1 d G (W.alloc (.cells #[.pointer (some ⟨d,0,none⟩),.int .i64 (A:Int),.int .i64 (B:Int),.slice none 0 0,.string (st (hm B)),.int .i64 1] 113)) G s W.heap.size A B (.slice none 0 0) [] 1 (hm B)):=fun W hb=>rb_new (DD.out W hb) A B (hm B)
      have RE:Hid (∀W,DAt W d G s→Calls Tryz.prog 84 #[.pointer (some ⟨d,0,none⟩),.int .i64 (A:Int),.int .i64 1] W fun e w'=>e = .returned (.string (st (hb s (A*H+1) (H - 1))))∧w'=W):=fun W k=>by
       have:=rhb_any W d G s A 1 hA hn (by omega) hdn' (by omega) k
       rw[hH] at this
       exact this
      obtain⟨P0,hP0⟩:∃x,st (hf B)=x:=⟨_,rfl⟩
      obtain⟨P1,hP1⟩:∃x,st (hm B)=x:=⟨_,rfl⟩
      rw[hP0] at PL MK
      rw[hP1] at MK NEW
      clear hP0 hP1 HR2 DD D HA
      go_wp2_with fail
      refine Calls.mono (PL.out _) ?_
      rintro e w2 ⟨rfl,hb⟩
      have J2:Hid (Below w1.heap.size w1 w2):=chain J.out hb
      clear hb J PL
      go_wp2_with fail
      refine Calls.mono (MK.out _) ?_
      rintro e w3 ⟨rfl,hb⟩
      have J3:Hid _:=NEW.out w3 (chain J2.out hb)
      clear hb J2 MK NEW
      obtain⟨q,hq⟩:∃q,w3.heap.size=q:=⟨_,rfl⟩
      rw[hq] at J3
      have lb:(hb s (A*H+1) (H - 1)).length=64*(H - 1):=hb_len HOK.out _ _
      have J4:Hid (OpL w1 d G s q A B kT (hb s (A*H+1) (H - 1)) (w3.alloc (.cells #[.pointer (some ⟨d,0,none⟩),.int .i64 (A:Int),.int .i64 (B:Int),.slice none 0 0,.string P1,.int .i64 1] 113))):=by
       refine⟨_,[],hm B,H,H - 1,J3.out,rfl,?_,by omega,lb,by show 1+(H - 1)=s.n / 2;omega⟩
       rw[←KT.out,List.nil_append,recs]
       congr 1
       have e1:hb s (A*H) H=hb s (A*H) 1++hb s (A*H+1) (H - 1):=by rw[←hb_app,show 1+(H - 1)=H by omega]
       rw[e1,List.drop_left' (by rw[hb_len HOK.out])]
      have RE4:Hid _:=RE.out _ J3.out.rd.at_
      have hXs:(st (hb s (A*H+1) (H - 1))).size≤65536:=by rw[st_size,lb];omega
      obtain⟨bb,hbb⟩:∃x,hb s (A*H+1) (H - 1)=x:=⟨_,rfl⟩
      rw[hbb] at J4 RE4 hXs
      obtain⟨X0,hX0⟩:∃x,st bb=x:=⟨_,rfl⟩
      have HX0:Hid (st bb=X0):=hX0
      rw[hX0] at RE4
      clear RE J3 lb hbb hX0 KT
      go_wp2_with fail
      refine Calls.mono RE4.out ?_
      rintro e w5 ⟨rfl,rfl⟩
      clear RE4
      go_wp2
      obtain⟨W0,hW0⟩:∃W0,w3.alloc (.cells #[.pointer (some ⟨d,0,none⟩),.int .i64 (A:Int),.int .i64 (B:Int),.slice none 0 0,.string P1,.int .i64 1] 113)=W0:=⟨_,rfl⟩
      rw[hW0] at J4 ⊢
      clear hW0 hq
      go_loopw [12] (fun x wr=>∃b:Bs,x = .string (st b)∧Hid (OpL w1 d G s q A B kT b wr)) (fun x _=>match x with | .string X=>X.size|_=>0)
      case atStart=>exact⟨bb,by rw[HX0.out],J4.out⟩
      case round =>
       obtain⟨b,rfl,I⟩:=hrel
       clear J4 HX0 hXs
       obtain⟨v,ts,m,fu,j,rb,em,ek,hj,hbl,htk⟩:=I.out
       have RB:Hid (Rb w1 d G wr G s q A B v ts (tkn 1 ts) m):=rb
       have EM:Hid (m=mks (hm B) ts):=em
       have EK:Hid (kT=ts++scan fu b m):=ek
       have hml:m.length=16:=by rw[em];exact mks_len _ _ rfl
       have FO:Hid (Calls Tryz.prog 85 #[.pointer (some ⟨q,0,none⟩),.string (st b)] wr fun e w'=>FoundR b m e∧Below wr.heap.size wr w'):=rfound_any q d A B v ts (tkn 1 ts) m b wr hml (by omega) (by omega) rb.rd.rf
       obtain⟨X,hX⟩:∃x,st b=x:=⟨_,rfl⟩
       have HX:Hid (st b=X):=hX
       have hXs:X.size=b.length:=by rw[←hX,st_size]
       rw[hX] at FO ⊢
       clear rb em ek I hX
       go_wp2_with fail
       refine Calls.mono FO.out ?_
       rintro e w4 ⟨⟨t,ok,rfl,hro⟩,hb⟩
       have R4:Hid _:=RB.out.later hb
       clear FO hb RB
       by_cases hok:ok=true
       ·subst hok
        have ro:rof b m=some t:=by
         rcases hro with ⟨-,c⟩|⟨c,-⟩
         ·exact c
         ·cases c
        have hrl:=rof_le ro
        have RO:Hid (rof b m=some t):=ro
        have RC:Hid (Calls Tryz.prog 86 #[.string (st m),.string (st t)] w4 fun e w'=>e = .returned (.tuple #[.string (st (rcd m t)),.string (st (rmk m t))])∧Below w4.heap.size w4 w'):=rrecord_any m t hml hrl.2.2 w4
        have hsz:(st (rcd m t)).size=64*sn t:=by rw[st_size,rcd_len]
        have hex:X.extract (st (rcd m t)).size X.size=st (b.drop (64*sn t)):=by
         rw[hsz,←HX.out,st_cut,st_size,List.take_of_length_le (Nat.le_refl _)]
        have c4:=R4.out.rd.rf.bk.c 4 _ rfl
        unfold sv at c4 ⊢
        have HT:Hid (Value.string (st t)=sv t):=(rfl:Value.string (st t)=sv t)
        have HM:Hid (Value.string (st (rmk m t))=sv (rmk m t)):=(rfl:Value.string (st (rmk m t))=sv (rmk m t))
        obtain⟨T,hT⟩:∃x,st t=x:=⟨_,rfl⟩
        obtain⟨M,hM⟩:∃x,st m=x:=⟨_,rfl⟩
        obtain⟨Z,hZ⟩:∃x,st (rcd m t)=x:=⟨_,rfl⟩
        obtain⟨K,hK⟩:∃x,st (rmk m t)=x:=⟨_,rfl⟩
        obtain⟨Y,hY⟩:∃x,st (b.drop (64*sn t))=x:=⟨_,rfl⟩
        have HY:Hid (st (b.drop (64*sn t))=Y):=hY
        rw[hT,hM,hZ,hK] at RC
        rw[hM] at c4
        rw[hZ] at hsz hex
        rw[hY] at hex
        rw[hT] at HT ⊢
        rw[hK] at HM
        have lz:Z.size≤X.size:=by omega
        have lz2:(Z.size:Int)≤(X.size:Int):=by omega
        obtain⟨z,hz⟩:∃z,sn t=z:=⟨_,rfl⟩
        rw[hz] at hsz hrl
        have hsnp:=sn_pos t
        rw[hz] at hsnp
        have g5:(Z.size:Int) / 64=(z:Int):=by omega
        have y1:IntKind.i64.wrap (z:Int)=(z:Int):=by rw[IntKind.wrap_i64];omega
        have y2:IntKind.i64.wrap ((tkn 1 ts:Int)+(z:Int))=((tkn 1 ts+z:Nat):Int):=by rw[IntKind.wrap_i64];omega
        have HSZ:Hid (Y.size < X.size):=by
         show Y.size < X.size
         rw[←HY.out,st_size,List.length_drop,hz,hXs]
         omega
        have HZS:Hid (sn t=z):=hz
        clear hT hM hZ hK hY hz hro ro hsz hXs
        go_wp2_with fail
        refine Calls.mono RC.out ?_
        rintro e w6 ⟨rfl,hb⟩
        have R6:Hid _:=R4.out.later hb
        clear hb R4 RC c4
        have R7:Hid _:=R6.out.later (nb w6 (.cells #[.string T] 9))
        have tl:ts.length≤1000000:=by
         have:=tkn_ge_len ts
         omega
        obtain⟨v7,w7,r1,r2,r3,r4⟩:=app_str (w6.alloc (.cells #[.string T] 9)) 37 v ts R7.out.rd.rf.row tl t w6.heap.size (by rw[World.cell?_alloc_new];exact congrArg some HT.out)
        obtain⟨xa,xn,xc,rfl⟩:=owns_sliceS r2
        have hq7:w7.heap[q]?=(w6.alloc (.cells #[.string T] 9)).heap[q]?:=r3.block q R7.out.rd.rf.bk.lt (fun e=>R7.out.rd.rf.qv e.symm)
        have B7:=R7.out.rd.rf.bk.same hq7
        have d3:=B7.c 3 _ rfl
        have d4:=B7.c 4 _ rfl
        have d5:=B7.c 5 _ rfl
        have df:=B7.f
        have c3:=R6.out.rd.rf.bk.c 3 _ rfl
        obtain⟨ya,yn,yc,rfl⟩:=owns_sliceS R6.out.rd.rf.row
        have G8:Hid _:=R7.out.grow r3 r2 r4 (rmk m t) (tkn 1 ts+z)
        obtain⟨y,hy⟩:∃y:Int,((tkn 1 ts+z:Nat):Int)=y:=⟨_,rfl⟩
        rw[←HM.out,hy] at G8
        rw[hy] at y2
        have FI:Hid (OpL w1 d G s q A B kT (b.drop (64*sn t)) (((w7.setCell ⟨q,3,none⟩ (.slice xa xn xc)).setCell ⟨q,4,none⟩ (.string K)).setCell ⟨q,5,none⟩ (.int .i64 y))):=by
         have G9:=G8.out
         rw[←HZS.out] at G9
         exact (opl_next EM.out EK.out hj hbl (by rw[htk]) RO.out G9).1
        have R1:Hid _:=r1
        unfold sv at d4
        obtain⟨M4,hM4⟩:∃x,st m=x:=⟨_,rfl⟩
        rw[hM4] at d4
        obtain⟨t5,ht5⟩:∃x:Int,(tkn 1 ts:Int)=x:=⟨_,rfl⟩
        rw[ht5] at d5 y2
        clear R6 R7 r1 r2 r3 r4 hq7 B7 G8 hy hM4 ht5 EM EK RO HM HT ER hrl
        go_wp2_with (first|(at_builtin;refine Go.Lib.wpList_append_run _ rfl _ _ _ _ rfl _ _ rfl rfl _ _ R1.out ?_))
        go_roundw
        case rel=>exact⟨b.drop (64*sn t),by rw[HY.out],FI.out⟩
        case measure=>exact HSZ.out
       ·have hok':ok=false:=by cases ok <;> simp_all
        subst hok'
        have ro:rof b m=none:=by
         rcases hro with ⟨c,-⟩|⟨-,c⟩
         ·cases c
         ·exact c
        have ekt:kT=ts:=by rw[EK.out,scan_none ro,List.append_nil]
        subst ekt
        have hT1:tkn 1 kT≤H:=by omega
        have c5:=R4.out.rd.rf.bk.c 5 _ rfl
        have CN:Hid (Calls Tryz.prog 87 #[.pointer (some ⟨d,0,none⟩),.int .i64 (A:Int),.int .i64 (tkn 1 kT:Int)] w4 fun e w'=>e = .returned (.int .i64 (cln s (A*H+tkn 1 kT) (H - tkn 1 kT)).1)∧∃G',Rb w1 d G w' G' (cln s (A*H+tkn 1 kT) (H - tkn 1 kT)).2 q A B v kT (tkn 1 kT) m):=by
         have:=rclean_any w4 d G s A (tkn 1 kT) hA hn (by omega) hdn' (by omega) R4.out.rd.at_
         rw[hH] at this
         exact this.mono fun _ _ ⟨e1,e2⟩=>⟨e1,R4.out.ds e2⟩
        have hcn:=cln_n s (A*H+tkn 1 kT) (H - tkn 1 kT)
        have hsc:∀u∈kT,1≤u.length∧u.length≤2000:=fun u hu=>HOKS.out u hu
        obtain⟨⟨cx,cs⟩,hc⟩:∃z,cln s (A*H+tkn 1 kT) (H - tkn 1 kT)=z:=⟨_,rfl⟩
        rw[hc] at CN ER hcn
        have hcn':cs.n=s.n:=hcn
        obtain⟨tz,htz⟩:∃z:Int,(tkn 1 kT:Int)=z:=⟨_,rfl⟩
        rw[htz] at CN c5
        have FIN:Hid (∀w' G',Rb w1 d G w' G' cs q A B v kT (tkn 1 kT) m→cx=0→OpR w1 d G r.1 r.2 (.returned (.tuple #[.pointer (some ⟨q,0,none⟩),.int .i64 0])) w'):=fun w' G' k h0=>by
         have ER2:=ER.out
         rw[h0] at ER2
         refine opr_ok ER2 k.dw ⟨?_,hA,by rw[hcn'];omega,by rw[hcn'];exact hn,by rw[hcn'];show tkn 1 kT≤s.n / 2;omega,hsc⟩ k.new
         have e2:(⟨A,B,kT⟩:Lo).mr=m:=EM.out.symm
         have e3:(⟨A,B,kT⟩:Lo).tk=tkn 1 kT:=rfl
         rw[e2,e3]
         exact k.rd
        have FNO:Hid (∀w' G',Rb w1 d G w' G' cs q A B v kT (tkn 1 kT) m→cx≠0→OpR w1 d G r.1 r.2 (.returned (.tuple #[.pointer none,.int .i64 cx])) w'):=fun w' G' k h0=>opr_no ER.out h0 k.dw
        clear hro ro EK hc htz HX hXs hcn R4
        unfold sv
        obtain⟨T0,hT0⟩:∃x,st t=x:=⟨_,rfl⟩
        rw[hT0]
        clear hT0
        go_wp2_with fail
        refine Calls.mono CN.out ?_
        rintro e w6 ⟨rfl,G6,r6⟩
        have R6:Hid _:=r6
        clear CN r6 c5
        by_cases h0:cx=0
        ·have FF:Hid _:=FIN.out w6 G6 R6.out h0
         subst h0
         clear FIN FNO R6
         go_wp2
         go_ret2
         exact FF.out
        ·have FF:Hid _:=FNO.out w6 G6 R6.out h0
         clear FIN FNO R6
         go_wp2
         go_ret2
         exact FF.out
end Go.Proofs.YtjpaodepnacimaaGreatDoor
