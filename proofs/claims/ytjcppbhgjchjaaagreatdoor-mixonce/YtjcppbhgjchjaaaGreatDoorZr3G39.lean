/- A part of the walk. -/
import Derived.Test.YtjcppbhgjchjaaaGreatDoorZr3G38
set_option maxHeartbeats 8000000
set_option maxRecDepth 20000
namespace Go.Proofs.YtjcppbhgjchjaaaGreatDoor
open Go.RowKit Go.Proofs.Fd Go.Proofs.Hs Go.Proofs.Cc Go.Proofs.Hd Go.Proofs.Rt Go.Proofs.Wd
abbrev By:=List UInt8
abbrev Ud (n:Nat) (ts:List By):Go.Proofs.Dk.St:=Go.Proofs.Lg.up n (Go.Proofs.Lg.Im n ts) []
theorem zma:∀(l a:List By),(∀t∈l,t.length=16)->(a++l).Nodup->Sto.tks (0,[],a) (Go.Proofs.Lg.tgr l)=some (0,[],a++l)
 | [],a,_,_=>by rw[List.append_nil];rfl
 | t::l,a,h,hn=>by
  have ht:=h t (List.mem_cons_self ..);have hna:t ∉ a:=by
   intro c;rw[List.nodup_append] at hn;exact hn.2.2 t c t (List.mem_cons_self ..) rfl
  have e:Sto.tkE (0,[],a) (84::t)=some (0,[],a++[t]):=by
   unfold Sto.tkE Sto.tkp;rw[if_pos ⟨by rw[List.length_cons,ht],rfl⟩];rw[if_neg (by simpa using hna)];rfl
  show (Sto.tkE (0,[],a) (84::t)).bind (fun z=>Sto.tks z (Go.Proofs.Lg.tgr l))=_;rw[e,Option.bind_some,zma l (a++[t]) (fun x hx=>h x (List.mem_cons_of_mem _ hx)) (by rw[List.append_assoc];exact hn),List.append_assoc];rfl
theorem zpV {n:Nat} {l:List By} (hH:2<=n / 2) (hs:1+l.length<=n / 2) (hl:∀t∈l,t.length=16) (hn:l.Nodup) :
  Sto.opz 4096 (Ud n (Go.Proofs.Lg.tgr l)) (Go.Proofs.Lg.opn (Ud n (Go.Proofs.Lg.tgr l)))=((0,Ud n (Go.Proofs.Lg.tgr l)),some (⟨0,1,Go.Proofs.Lg.tgr l⟩,(0,[],l))):=by
 rw[Go.Proofs.Lg.im_open n _ hH (by rw[Go.Proofs.Lg.sns_tgr l hl];exact hs) (Go.Proofs.Lg.tgr_len l hl)];unfold Sto.opz;rw[if_neg (by decide),if_neg (fun c=>c rfl)];simp only[zma l [] hl (by simpa using hn),List.nil_append]
theorem zod {n:Nat} (hH:2<=n / 2):Sto.opz 4096 (Go.Proofs.Dk.St.init n) (Go.Proofs.Lg.opn (Go.Proofs.Dk.St.init n))=((0,Ud n []),some (⟨0,1,[]⟩,(0,[],[]))):=by
 have e:Go.Proofs.Dk.St.init n=Go.Proofs.Lg.up n Go.Proofs.Lg.zf []:=rfl;rw[e,Go.Proofs.Lg.im_new n hH];unfold Sto.opz;rw[if_neg (by decide),if_neg (fun c=>c rfl)];rfl
theorem zpW {n:Nat} {l:List By} {t:By} (hl:∀x∈l,x.length=16) (ht:t.length=16) (hn:t ∉ l) (hr:l.length+2<=n / 2) (hc:l.length < 4096) :
  Sto.adp 4096 (Ud n (Go.Proofs.Lg.tgr l)) ⟨0,1,Go.Proofs.Lg.tgr l⟩ (0,[],l) t=(((0,Ud n (Go.Proofs.Lg.tgr (l++[t]))),⟨0,1,Go.Proofs.Lg.tgr (l++[t])⟩),(0,[],l++[t])):=by
 have hs:=Go.Proofs.Lg.sns_tgr l hl;have ew:Sto.wrp (Ud n (Go.Proofs.Lg.tgr l)) ⟨0,1,Go.Proofs.Lg.tgr l⟩ (Sto.sht 0 [] l) (84::t)=((0,Ud n (Go.Proofs.Lg.tgr (l++[t]))),⟨0,1,Go.Proofs.Lg.tgr (l++[t])⟩):=by
  have ea:=Go.Proofs.Lg.im_app n (Go.Proofs.Lg.tgr l) (84::t) (Go.Proofs.Lg.tgr_may ht) (by rw[hs,Go.Proofs.Lg.sn_tag ht];omega);have es:=Go.Proofs.Lg.im_sync n (Go.Proofs.Lg.tgr l) (84::t);have eA:Sto.wrA (Ud n (Go.Proofs.Lg.tgr l)) ⟨0,1,Go.Proofs.Lg.tgr l⟩ (Sto.sht 0 [] l) (84::t)=((0,Go.Proofs.Lg.up n (Go.Proofs.Lg.Im n (Go.Proofs.Lg.tgr l)) (Go.Proofs.Lg.wts (1+Go.Proofs.Lg.sns (Go.Proofs.Lg.tgr l)) (Go.Proofs.Lg.chs (Go.Proofs.Lg.sn (84::t)) (Go.Proofs.Lg.rcd (Go.Proofs.Lg.mks (Go.Proofs.Lg.hm 1) (Go.Proofs.Lg.tgr l)) (84::t))))),⟨0,1,Go.Proofs.Lg.tgr l++[84::t]⟩):=by
   unfold Sto.wrA;rw[ea];exact if_neg (by show ¬(0:Int)=151;decide)
  unfold Sto.wrp;rw[eA,if_neg (fun c=>c rfl)];show ((Go.Proofs.Dk.syE _,Go.Proofs.Dk.syS _),_)=_
  rw[es.1,es.2,Go.Proofs.Lg.tgr_snoc]
 unfold Sto.adp;rw[if_neg (fun c=>c ht),if_neg (by simpa using hn),if_neg (by show ¬4096<=0+l.length;omega)];show (Sto.wrp _ _ (Sto.sht 0 [] l) _,if (Sto.wrp _ _ (Sto.sht 0 [] l) _).1.1=0 then ((0:Nat),([]:List By),l++[t]) else _)=_
 rw[ew,if_pos rfl]
def Nu (n pool:Nat) (l:List By) (t:Go.Proofs.Wh.St) (w:List (Nat×(Int×Ba))) (c:Ct):Nd:=⟨pool,Ud n (Go.Proofs.Lg.tgr l),⟨0,1,Go.Proofs.Lg.tgr l⟩,(0,[],l),t,w,[],c⟩
theorem zgr (key:Ba) (hz:key.size=32) (pool n:Nat) (h1:1<=pool) (h2:pool<=4096) (hn:4<=n):nwX key (pool:Int) (Go.Proofs.Dk.St.init n)=((0,Ud n []),some (Nu n pool [] Go.Proofs.Wh.St.init [] ⟨0,0,0,0,0,0⟩)):=by
 unfold nwX;rw[if_neg (by omega),if_neg (by omega),zod (by omega)];rfl
theorem zlE (key:Ba) (hz:key.size=32) (pool n:Nat) (h1:1<=pool) (h2:pool<=4096) (l:List By) (hH:2<=n / 2) (hs:1+l.length<=n / 2) (hl:∀t∈l,t.length=16) (hn:l.Nodup) :
  nwX key (pool:Int) (Ud n (Go.Proofs.Lg.tgr l))=((0,Ud n (Go.Proofs.Lg.tgr l)),some (Nu n pool l Go.Proofs.Wh.St.init [] ⟨0,0,0,0,0,0⟩)):=by
 unfold nwX;rw[if_neg (by omega),if_neg (by omega),zpV hH hs hl hn];rfl
theorem zpX {p b:Ba} {h:Hp} {n t s:Ba} {e:Int} (q:ppV p b=#[pdv h n t s,.int .i64 e]):ppD p b=((h,n,t,s),e):=by
 rw[zjh] at q;obtain⟨r,hr⟩:∃r,ppD p b=r:=⟨_,rfl⟩;rw[hr] at q ⊢;obtain⟨⟨⟨k',n',u',d',i'⟩,x,y,z⟩,e'⟩:=r;obtain⟨k,m,u,d,i⟩:=h;simp[pdv] at q;obtain⟨⟨h1,h2,h3,h4,h5,h6,h7,h8⟩,h9⟩:=q;subst h1;subst h2;subst h3;subst h4;subst h5;subst h6;subst h7;subst h8;subst h9;rfl
def TG (i:Nat):By:=Go.Proofs.Tg.tag19 (UInt8.ofNat i)
theorem zgs (i:Nat):(TG i).length=16:=by
 unfold TG Go.Proofs.Tg.tag19 Go.Proofs.Tg.tagS drv;rw[zbs]
open Go.Proofs.YtjcppbhgjchjaaaGreatDoor.Crv in
theorem zpY (i:Nat) (hi:i < 10):∃ss,zpb (za4 i) [pp zap 0,pp zap 1] []=some ss/\ss.length=2/\nth ss 0=ek (tm (pv zap 0) (ek (pub (za4 i))))/\tm (pv zap 0) (ek (pub (za4 i)))≠0/\(rtg (nth ss 0)).data.toList=TG i:=by
 obtain⟨s,a,b1,b2,b3,b4,b5,b6⟩:=Go.Proofs.Tg.both_have i hi;have e0:zap.data.toList=Go.Proofs.Tg.hopsL:=rfl;have e1:(pv zap 0).data.toList=drv Go.Proofs.Tg.hopsL Go.Proofs.Tg.pvL0 32:=by
  have h2:pvL 0=Go.Proofs.Tg.pvL0:=by decide
  show (drv zap.data.toList (pvL 0) 32).toArray.toList=_;rw[e0,h2,List.toList_toArray]
 have e1':(pv zap 1).data.toList=drv Go.Proofs.Tg.hopsL Go.Proofs.Tg.pvL1 32:=by
  have h2:pvL 1=Go.Proofs.Tg.pvL1:=by decide
  show (drv zap.data.toList (pvL 1) 32).toArray.toList=_;rw[e0,h2,List.toList_toArray]
 have e2:(za4 i).data.toList=drv Go.Proofs.Tg.seedL [UInt8.ofNat i,0] 32:=by
  have h1:zeF.data.toList=Go.Proofs.Tg.seedL:=rfl;have h2:(zhc i).data.toList=[UInt8.ofNat i,0]:=rfl;show (drv zeF.data.toList (zhc i).data.toList 32).toArray.toList=_
  rw[h1,h2,List.toList_toArray]
 have e4:∀a:Go.Proofs.Ed.K,(ek a).data.toList=za2 32 a.val:=fun a=>by
  show (za2 32 a.val).toArray.toList=_;rw[List.toList_toArray]
 have e3:∀x:Ba,(rtg x).data.toList=drv x.data.toList Go.Proofs.Tg.tagL 16:=fun x=>by
  have h1:zqe=Go.Proofs.Tg.tagL:=rfl;show (drv x.data.toList zqe 16).toArray.toList=_
  rw[h1,List.toList_toArray]
 have e5:∀x:Ba,(bld x).data.toList=drv x.data.toList Go.Proofs.Tg.bldL 32:=fun x=>by
  have h1:zif=Go.Proofs.Tg.bldL:=rfl;show (drv x.data.toList zif 32).toArray.toList=_
  rw[h1,List.toList_toArray]
 have cS:cl (za4 i)=Go.Proofs.Ed.clampN (Go.Proofs.Tg.sN (UInt8.ofNat i)):=by
  unfold cl Go.Proofs.Tg.sN;rw[e2]
 have cA:cl (pv zap 0)=Go.Proofs.Ed.clampN Go.Proofs.Tg.kA:=by
  unfold cl Go.Proofs.Tg.kA;rw[e1]
 have pA:pub (pv zap 0)=Go.Proofs.Ed.lad (Go.Proofs.Ed.clampN Go.Proofs.Tg.kA) 9:=by
  unfold pub Go.Proofs.Tg.kA;rw[e1]
 have pB:pub (pv zap 1)=Go.Proofs.Ed.lad (Go.Proofs.Ed.clampN Go.Proofs.Tg.kB) 9:=by
  unfold pub Go.Proofs.Tg.kB;rw[e1']
 have pS:pub (za4 i)=Go.Proofs.Ed.lad (Go.Proofs.Ed.clampN (Go.Proofs.Tg.sN (UInt8.ofNat i))) 9:=by
  unfold pub Go.Proofs.Tg.sN;rw[e2]
 have t1:tm (za4 i) (pp zap 0)=s:=by
  unfold pp;rw[zec,cS,pA,b1]
 have t2:tm (za4 i) (pp zap 1)=a:=by
  unfold pp;rw[zec,cS,pB,b4]
 have t3:tm (bld (ek s)) (ek a)≠0:=by
  rw[zec];unfold cl;rw[e5,e4];exact b6
 have t4:tm (pv zap 0) (ek (pub (za4 i)))=s:=by
  rw[zec,cA,pS,b3]
 have c1:chn [za4 i] (pp zap 0)=some (ek s):=by
  show (if tm (za4 i) (pp zap 0)=0 then none else some (ek (tm (za4 i) (pp zap 0))))=_;rw[t1,if_neg b2]
 have c2:chn (za4 i::([]++[bld (ek s)])) (pp zap 1)=some (ek (tm (bld (ek s)) (ek a))):=by
  show (if tm (za4 i) (pp zap 1)=0 then none else if tm (bld (ek s)) (ek (tm (za4 i) (pp zap 1)))=0 then none else some (ek (tm (bld (ek s)) (ek (tm (za4 i) (pp zap 1))))))=_;rw[t2,if_neg b5,if_neg t3]
 refine⟨[ek s,ek (tm (bld (ek s)) (ek a))],?_,rfl,?_,?_,?_⟩
 ·unfold zpb
  rw[zcO,c1,Option.bind_some,zcO,c2,Option.bind_some,zij];rfl
 ·rw[t4];rfl
 ·rw[t4];exact b2
 ·show (rtg (ek s)).data.toList=_
  rw[e3,e4];unfold TG Go.Proofs.Tg.tag19 Go.Proofs.Tg.tagS;rw[b3]
theorem zrY (i d:Nat) (hi:i < 10) (hd:d<=4096):∃X T S:Ba,(zeG i d).size=504/\X.size=504/\T.data.toList=TG i/\ppD (pv zap 0) (zeG i d)=((⟨1,7,0,(d:Int),⟨#[]⟩⟩,X,T,S),0):=by
 obtain⟨ss,h1,h2,h3,h4,h5⟩:=zpY i hi;have hp:=zlD d hd;obtain⟨s2,s3,s4⟩:=zob (za4 i) [pv zap 0,pv zap 1] (zaM d) ss (zjg i) hp rfl h1;have hk:∀k∈[pv zap 0,pv zap 1],k.size=32:=fun k hk=>by
  simp at hk;rcases hk with rfl|rfl
  ·exact zbe _ _
  ·exact zbe _ _
 have pb0:ptB (za4 i) ((ss.take 0).map bld)=Crv.ek (Crv.pub (za4 i)):=by
  rw[List.take_zero,List.map_nil,znb]
 obtain⟨w1,w2⟩:=zoa (za4 i) [pv zap 0,pv zap 1] (zaM d) ss hk hp rfl h2 0 (by simp) (by rw[pb0];exact h3) (by rw[pb0];exact h4);obtain⟨p1,p2⟩:=zoc (za4 i) [pv zap 0,pv zap 1] (zaM d) ss hp rfl 0 (by simp) w1 w2;have lt:zfy.data.toList.length<=222:=by decide
 have e:zeG i d=⟨(za3 (za4 i) ss (zaM d) 0++pld ss zfy.data.toList).toArray⟩:=by
  unfold zeG;have q:=(zrL (za4 i) [pp zap 0,pp zap 1] zfy (zaM d) s2 (by decide)).2;rw[q];show ByteArray.mk ((mkH (za4 i) [pp zap 0,pp zap 1] (zaM d)).data.toList++pld (mkS (za4 i) [pp zap 0,pp zap 1] (zaM d)) zfy.data.toList).toArray=_
  have s3':mkS (za4 i) [pp zap 0,pp zap 1] (zaM d)=ss:=s3;have s4':mkH (za4 i) [pp zap 0,pp zap 1] (zaM d)=⟨(za3 (za4 i) ss (zaM d) 0).toArray⟩:=s4;rw[s3',s4']
 have lp:(pld ss zfy.data.toList).length=256:=znd _ _ lt;have hpp:=p2 _ lp;rw[if_pos (by simp)] at hpp;obtain⟨g1,g2,g3,g4⟩:=zdf (zaM d) hp;have LS:=zf0 (za4 i) ss (zaM d) g1 ⟨g2,g3⟩;obtain⟨l1,-⟩:=LS.ends 1 (by show 1 < 2;omega);have p3:(za3 (za4 i) ss (zaM d) 1).length=248:=by
  have lP:(ptB (za4 i) ((ss.take 1).map bld)).data.toList.length=32:=by
   have:(ptB (za4 i) ((ss.take 1).map bld)).data.toList.length=(ptB (za4 i) ((ss.take 1).map bld)).size:=by simp
   rw[this,zfZ]
  unfold za3;rw[List.length_append,List.length_append,lP,zbc,l1]
 refine⟨_,rtg (nth ss 0),_,?_,?_,h5,zpX (e ▸ hpp)⟩
 ·rw[e,zko,List.length_append,p1,lp]
 ·have lo:(zb4 (bdy (nth ss 0)).data.toList (pld ss zfy.data.toList)).length=256:=by rw[zhZ _ _ (by omega)];exact lp
  rw[zko,List.length_append,p3,lo]
section
variable {n pool:Nat} {l:List By} {t:Go.Proofs.Wh.St} {w:List (Nat×(Int×Ba))} {c:Ct}
theorem zpZ (d:Int) (i:Ba) (hw:w.length < pool) (ht:(t.now:Int)+1+d<=1099511627776):(Nu n pool l t w c).rf ⟨1,7,0,d,i⟩=0:=by
 show (if (1:Int)=2 then (70:Int) else if (1:Int)≠1 then 0 else if pool<=w.length then 190 else if (1099511627776:Int) < (t.now:Int)+1+d then 1 else 0)=0;rw[if_neg (by decide),if_neg (by decide),if_neg (by omega),if_neg (by omega)]
theorem zjk (i d:Nat) (hi:i < 10) (hd:d<=4096) (hw:w.length < pool) (ht:(t.now:Int)+1+d<=1099511627776) (hnew:TG i ∉ l) (h16:∀x∈l,x.length=16) (hr:l.length+2<=n / 2) (hc:l.length < 4096) :
  ∃X:Ba,X.size=504/\(Nu n pool l t w c).takeP (pv zap 0) (zeG i d)=(0,Nu n pool (l++[TG i]) (Go.Proofs.Wh.putS t ((t.now:Int)+1+d) ((c.on+1:Nat):Int)) (w++[(c.on+1,(7,X))]) { c with on:=c.on+1 }):=by
 obtain⟨X,T,S,-,zX,eT,e⟩:=zrY i d hi hd;refine⟨X,zX,?_⟩;unfold Nd.takeP;rw[e];show (Nu n pool l t w c).take 0 ⟨1,7,0,(d:Int),⟨#[]⟩⟩ X T=_
 have ek:(Nu n pool l t w c).tk0 ⟨1,7,0,(d:Int),⟨#[]⟩⟩ X T=(0,Nu n pool (l++[TG i]) (Go.Proofs.Wh.putS t ((t.now:Int)+1+d) ((c.on+1:Nat):Int)) (w++[(c.on+1,(7,X))]) { c with on:=c.on+1 }):=by
  have ea:=zpW (n:=n) h16 (zgs i) hnew hr hc;rw[<-eT] at ea;unfold Nd.tk0;rw[zpZ (d:Int) _ hw ht,if_neg (fun k=>k rfl)];have ea':Sto.adp 4096 (Nu n pool l t w c).s (Nu n pool l t w c).x (Nu n pool l t w c).y T.data.toList=_:=ea;rw[ea',<-eT];rfl
 unfold Nd.take;rw[ek,if_neg (fun k=>k rfl)];rfl
theorem zjl (i d:Nat) (hi:i < 10) (hd:d<=4096) (hw:w.length < pool) (ht:(t.now:Int)+1+d<=1099511627776) (hold:TG i∈l) :
  (Nu n pool l t w c).takeP (pv zap 0) (zeG i d)=(170,Nu n pool l t w { c with twice:=c.twice+1 }):=by
 obtain⟨X,T,S,-,zX,eT,e⟩:=zrY i d hi hd;unfold Nd.takeP;rw[e];show (Nu n pool l t w c).take 0 ⟨1,7,0,(d:Int),⟨#[]⟩⟩ X T=_
 have ek:(Nu n pool l t w c).tk0 ⟨1,7,0,(d:Int),⟨#[]⟩⟩ X T=(170,Nu n pool l t w c):=by
  have ea:=zlB (most:=4096) (s:=Ud n (Go.Proofs.Lg.tgr l)) (x:=⟨0,1,Go.Proofs.Lg.tgr l⟩) (y:=(0,[],l)) (zgs i) (by simpa using hold);rw[<-eT] at ea;unfold Nd.tk0;rw[zpZ (d:Int) _ hw ht,if_neg (fun k=>k rfl)];have ea':Sto.adp 4096 (Nu n pool l t w c).s (Nu n pool l t w c).x (Nu n pool l t w c).y T.data.toList=_:=ea;rw[ea'];rfl
 unfold Nd.take;rw[ek,if_neg (fun k=>k rfl)];rfl
theorem zoe (tt:Int):(Nu n pool l t w c).tickS tt=Nu n pool l (Go.Proofs.Wh.advS t tt) (w.filter fun p=>!decide ((p.1:Int)∈Go.Proofs.Wh.advV t tt)) c:=rfl
end
end Go.Proofs.YtjcppbhgjchjaaaGreatDoor
namespace Go.Proofs.YtjcppbhgjchjaaaGreatDoor
open Go.RowKit Go.Proofs.Fd
theorem Ni.did {nd:Nd} (h:Ni nd) (low:∀x∈nd.w,x.1<=nd.c.on) (hp:Go.Proofs.Rt.Hp) (n:Ba) (hE:hp.k=1->Go.Proofs.Wh.putE nd.t ((nd.t.now:Int)+1+hp.d)=0):Ni (nd.did hp n):=by
 unfold Nd.did;by_cases k1:hp.k=1
 ·rw[if_pos k1]
  have e:=hE k1;refine⟨?_,?_⟩
  ·show ((Go.Proofs.Wh.putS nd.t ((nd.t.now:Int)+1+hp.d) ((nd.c.on+1:Nat):Int)).l.map Go.Proofs.Wh.Tm.i).Perm ((nd.w++[(nd.c.on+1,(hp.n,n))]).map fun x=>(x.1:Int))
   unfold Go.Proofs.Wh.putS;rw[if_pos e,List.map_append];refine ((Go.Proofs.Wh.ins_perm _ _).map _).trans ?_;rw[List.map_cons];exact (h.perm.cons _).trans (List.perm_append_singleton _ _).symm
  ·show (nd.w++[(nd.c.on+1,(hp.n,n))]).Pairwise fun x y=>x.1≠y.1
   rw[List.pairwise_append];refine⟨h.apart,List.pairwise_singleton _ _,fun a ha b hb => ?_⟩;rw[List.mem_singleton] at hb;subst hb;have:=low a ha;show a.1≠nd.c.on+1
   omega
 ·rw[if_neg k1]
  by_cases k3:hp.k=3
  ·rw[if_pos k3];exact⟨h.perm,h.apart⟩
  ·rw[if_neg k3]
   by_cases k4:hp.k=4
   ·rw[if_pos k4];exact⟨h.perm,h.apart⟩
   ·rw[if_neg k4];exact h
theorem zb2:∀{l:List Go.Proofs.Wh.Tm},(l.map Go.Proofs.Wh.Tm.i).Nodup->∀{x y:Go.Proofs.Wh.Tm},x∈l->y∈l->x.i=y.i->x=y
 | [],_,_,_,hx,_,_=>by cases hx
 | a::l,h,x,y,hx,hy,e=>by
  rw[List.map_cons,List.nodup_cons] at h;rcases List.mem_cons.1 hx with e1|h1
  ·rcases List.mem_cons.1 hy with e2|h2
   ·rw[e1,e2]
   ·exact absurd (by rw[<-e1,e];exact List.mem_map_of_mem h2) h.1
  ·rcases List.mem_cons.1 hy with e2|h2
   ·exact absurd (by rw[<-e2,<-e];exact List.mem_map_of_mem h1) h.1
   ·exact zb2 h.2 h1 h2 e
theorem Ni.tick {nd:Nd} (h:Ni nd) (tt:Int):Ni (nd.tickS tt):=by
 refine⟨?_,List.Pairwise.filter _ h.apart⟩;show ((Go.Proofs.Wh.advS nd.t tt).l.map Go.Proofs.Wh.Tm.i).Perm ((nd.w.filter fun p=>!decide ((p.1:Int)∈Go.Proofs.Wh.advV nd.t tt)).map fun x=>(x.1:Int))
 unfold Go.Proofs.Wh.advS Go.Proofs.Wh.advV;by_cases e:Go.Proofs.Wh.advE nd.t tt=0
 ·rw[if_pos e,if_pos e]
  have h1:=h.perm.filter (fun i=>!decide (i∈(Go.Proofs.Wh.due tt nd.t.l).map Go.Proofs.Wh.Tm.i));rw[List.filter_map,List.filter_map] at h1;have h2:nd.t.l.filter ((fun i=>!decide (i∈(Go.Proofs.Wh.due tt nd.t.l).map Go.Proofs.Wh.Tm.i)) ∘ Go.Proofs.Wh.Tm.i)=Go.Proofs.Wh.rest tt nd.t.l:=by
   unfold Go.Proofs.Wh.rest;refine List.filter_congr fun t ht => ?_
   have:(t.i∈(Go.Proofs.Wh.due tt nd.t.l).map Go.Proofs.Wh.Tm.i)↔(t.a:Int)<=tt:=by
    rw[List.mem_map];constructor
    ·rintro ⟨u,hu,eu⟩
     have hu2:=List.mem_filter.1 hu;have:=zb2 h.ids hu2.1 ht eu;subst this
     simpa using hu2.2
    ·intro c
     exact⟨t,List.mem_filter.2 ⟨ht,by simpa using c⟩,rfl⟩
   simp[Function.comp,this]
  rw[h2] at h1;exact h1
 ·rw[if_neg e,if_neg e]
  have:(nd.w.filter fun p=>!decide ((p.1:Int)∈([]:List Int)))=nd.w:=by
   rw[List.filter_eq_self];intro x _;simp
  rw[this];exact h.perm
end Go.Proofs.YtjcppbhgjchjaaaGreatDoor
namespace Go.Proofs.YtjcppbhgjchjaaaGreatDoor
open Go.RowKit Go.Proofs.Fd Go.Proofs.Hs Go.Proofs.Cc Go.Proofs.Hd Go.Proofs.Rt Go.Proofs.Wd
theorem zjm {w:Wo} {a:Option Addr} {n c:Nat} {l:List (Int×Ba)} (h:zb8 w (.slice a n c) l):n=l.length:=by
 rcases h.2 with ⟨h1,h2⟩|⟨g,cap,cur,h1,-⟩
 ·injection h1 with e1 e2 e3
  omega
 ·injection h1 with e1 e2 e3
theorem zlF {w:Wo} {a:Option Addr} {n c:Nat} {l:List (Int×Ba)} (h:zb8 w (.slice a n c) l) (k:Nat) (hk:k < l.length) :
  ∃g,a=some ⟨g,0,none⟩/\w.cell? ⟨g,k*2,none⟩=some (.int .i64 l[k].1)/\w.cell? ⟨g,k*2+1,none⟩=some (.string l[k].2):=by
 obtain⟨g1,g2⟩:=zi9 l k hk;rcases h.2 with ⟨h1,h2⟩|⟨g,cap,cur,h1,-⟩
 ·omega
 ·have h1':=h1
  injection h1' with e1 e2 e3
  subst e1;subst e2;rw[h1] at h;refine⟨g,rfl,?_,?_⟩
  ·rw[h.cellAt (k*2) (by omega)]
   rw[<-g1]
  ·rw[h.cellAt (k*2+1) (by omega)]
   rw[<-g2]
def No (w:Wo) (p m:Nat) (key:Ba) (nd:Nd) (lab:Nat->Nat) (W:Wo):Prop:=∃F q v b va vh pw G bm D vl,Nr w W p m key nd lab F q v b va vh pw G bm D vl
section
variable {w W:Wo} {p m:Nat} {key:Ba} {nd:Nd} {lab:Nat->Nat}
theorem No.below (h:No w p m key nd lab W):Bw w W:=by
 obtain⟨F,q,v,b,va,vh,pw,G,bm,D,vl,N⟩:=h;exact N.pz.lz.hd_.dl.below
theorem No.later (h:No w p m key nd lab W) {W':Wo} (hb:Bw W W'):No w p m key nd lab W':=by
 obtain⟨F,q,v,b,va,vh,pw,G,bm,D,vl,N⟩:=h;exact⟨F,q,v,b,va,vh,pw,G,bm,D,vl,N.later hb⟩
theorem No.aside (h:No w p m key nd lab W) {W':Wo} {K:Nat->Prop} {lab':Nat->Nat} (hb:Sto.Bf K W W') (hK:∀z,K z->z < W.heap.size->5<=lab z) (hw:∀z,K z->w.heap.size<=z) (hl:∀z,z < W.heap.size->lab' z=lab z):No w p m key nd lab' W':=by
 obtain⟨F,q,v,b,va,vh,pw,G,bm,D,vl,N⟩:=h;exact⟨F,q,v,b,va,vh,pw,G,bm,D,vl,N.other hb hK hw hl⟩
theorem No.relab (h:No w p m key nd lab W) {W':Wo} (hb:Bw W W') {lab':Nat->Nat} (hl:∀z,z < W.heap.size->lab' z=lab z):No w p m key nd lab' W' :=
 h.aside (K:=fun _=>False) (Sto.Bf.of hb) (fun _ c=>c.elim) (fun _ c=>c.elim) hl
theorem No.disk (h:No w p m key nd lab W):∃F,Sto.Dl w W p F nd.s/\Lbl lab 0 F w.heap.size W.heap.size:=by
 obtain⟨F,q,v,b,va,vh,pw,G,bm,D,vl,N⟩:=h;exact⟨F,N.pz.lz.hd_.dl,fun z hz=>N.l0 z (.inl (.inl hz))⟩
theorem zp0 {W':Wo} (h:Na w p m key nd W lab W'):∃lab',No w p m key nd lab' W'/\Fr w W lab lab' W':=by
 obtain⟨lab',F,q,v,b,va,vh,pw,G,bm,D,vl,N,R⟩:=h;exact⟨lab',⟨F,q,v,b,va,vh,pw,G,bm,D,vl,N⟩,R⟩
theorem zgt (CL:Hid zc0) (zk:key.size=32) (P:Ba) (zP:P.size<=140737488355328) (B:Nb nd) (hk:Hid (Kh w)) (h:No w p m key nd lab W) :
  Cl 24 #[.pointer (some ⟨m,0,none⟩),.string P] W fun e w'=>e = .returned (.int .i64 (nd.takeP key P).1)/\∃lab',No w p m key (nd.takeP key P).2 lab' w'/\Fr w W lab lab' w':=by
 obtain⟨F,q,v,b,va,vh,pw,G,bm,D,vl,N⟩:=h;refine (zhd CL w W p m key P zk zP nd lab F q v b va vh pw G bm D vl B hk N).mono ?_;rintro e w' ⟨he,hn⟩;exact⟨he,zp0 hn⟩
theorem zjn (tt:Int) (I:Ni nd) (B:Nb nd) (h:No w p m key nd lab W) :
  Cl 23 #[.pointer (some ⟨m,0,none⟩),.int .i64 tt] W fun e w'=>∃da dn dc,e = .returned (.tuple #[.slice da dn dc,.int .i64 (nd.tickE tt)])/\dn=(nd.tickV tt).length/\zb8 w' (.slice da dn dc) (nd.tickV tt)/\∃lab',No w p m key (nd.tickS tt) lab' w'/\Fr w W lab lab' w'/\∀z,(Value.slice da dn dc).ownBlock=some z->5<=lab' z/\W.heap.size<=z:=by
 obtain⟨F,q,v,b,va,vh,pw,G,bm,D,vl,N⟩:=h;refine (zjd w W p m key nd lab F q v b va vh pw G bm D vl tt I B N).mono ?_;rintro e w' ⟨da,dn,dc,he,lab',G',D',N',R,O,L⟩;exact⟨da,dn,dc,he,zjm O,O,lab',⟨F,q,v,b,va,vh,pw,G',bm,D',vl,N'⟩,R,L⟩
theorem zlG (h:No w p m key nd lab W) :
  Cl 16 #[.pointer (some ⟨m,0,none⟩)] W fun e w'=>e = .returned (ctv nd.c)/\Bw W w':=by
 obtain⟨F,q,v,b,va,vh,pw,G,bm,D,vl,N⟩:=h;exact zfv N
end
def Do (w:Wo) (p:Nat) (s:Go.Proofs.Dk.St) (lab:Nat->Nat) (W:Wo):Prop:=∃F,Sto.Dl w W p F s/\Lbl lab 0 F w.heap.size W.heap.size
section
variable {w W:Wo} {p:Nat} {s:Go.Proofs.Dk.St} {lab:Nat->Nat}
theorem Do.later (h:Do w p s lab W) {W':Wo} (hb:Bw W W'):Do w p s lab W':=by
 obtain⟨F,d,l⟩:=h;exact⟨F,d.later hb,l.up hb.size⟩
theorem Do.below (h:Do w p s lab W):Bw w W:=by
 obtain⟨F,d,l⟩:=h;exact d.below
theorem zp1 (hb:Bw w W) (n:Nat) (h1:1<=n) (h2:n<=1024) :
  Cl 11 #[.int .i64 (n:Int)] W fun e w'=>∃p,e = .returned (.tuple #[.pointer (some ⟨p,0,none⟩),.int .i64 0])/\Do w p (Go.Proofs.Dk.St.init n) (relab (fun _=>9) W.heap.size 0) w'/\Bw W w':=by
 refine (Sto.newL w W n h1 h2 hb).mono ?_;rintro e w' ⟨p,F,he,d,hF,b⟩;exact⟨p,he,⟨F,d,fun z hz=>⟨zar (hF z hz),Nat.le_trans hb.size (hF z hz),d.at_.lt hz⟩⟩,b⟩
theorem zof (pa:Option Addr) (pn pc:Nat) (ps:List Int) (hpn:ps.length=pn) (hl:s.l.length<=1000000) (hp:Sto.IntAt W pa ps) (hF:∀x,pa=some x->0 < ps.length->x.block < w.heap.size) (h:Do w p s lab W) :
  Cl 21 #[.pointer (some ⟨p,0,none⟩),.slice pa pn pc] W fun e w'=>e = .returned (.int .i64 0)/\∃lab',Do w p (Go.Proofs.Dk.crS s ps) lab' w'/\Fr w W lab lab' w':=by
 obtain⟨F,d,l⟩:=h;refine (Sto.crashL w W p F s pa pn pc ps hpn hl hp (fun x e h0 c=>by
  have:=hF x e h0;have:=(l _ c).2.1;omega) d).mono ?_
 rintro e w' ⟨he,F',d1,d2,d3⟩;exact⟨he,relab lab W.heap.size 0,⟨F',d1,l.next (fun z=>zaq) (fun z hz _=>zar hz) d2 (fun z hz=>d1.at_.lt hz) d.below.size⟩,fun z=>zaq,d3.wide fun z hz=>⟨by rw[(l z hz).1];decide,(l z hz).2.1⟩⟩
theorem zog (key:Ba) (pool:Int) (hn:s.n<=1024) (hl:s.l.length+5000<=1000000) (hk:Hid (Kh w)) (h:Do w p s lab W) {s':Go.Proofs.Dk.St} {nd:Nd} (hx:nwX key pool s=((0,s'),some nd)) :
  Cl 18 #[.string key,.pointer (some ⟨p,0,none⟩),.int .i64 pool] W fun e w'=>∃m,e = .returned (.tuple #[.pointer (some ⟨m,0,none⟩),.int .i64 0])/\∃lab',No w p m key nd lab' w'/\Fr w W lab lab' w':=by
 obtain⟨F,d,l⟩:=h;refine (zlA w W p key pool lab F s hn hl hk d l).mono ?_;rintro e w' h;rw[hx] at h;obtain⟨m,he,-,hm⟩:=h;exact⟨m,he,zp0 hm⟩
end
section
variable {n pool:Nat} {l:List By} {t:Go.Proofs.Wh.St} {ws:List (Nat×(Int×Ba))} {c:Ct}
theorem zjo (hp:pool<=4096) (hw:ws.length<=4096) (hc:c.on<=900000/\c.home<=900000/\c.loop<=900000/\c.drop<=900000/\c.twice<=900000/\c.bad<=900000) (ht:t.many<=900000) (hl:∀x∈ws,x.1<=c.on) (hg:Sto.Gd (0,[],l)):Nb (Nu n pool l t ws c) :=
 ⟨hp,hw,hc.1,hc.2.1,hc.2.2.1,hc.2.2.2.1,hc.2.2.2.2.1,hc.2.2.2.2.2,ht,Nat.zero_le _,hl,hg,Nat.zero_le _⟩
end
end Go.Proofs.YtjcppbhgjchjaaaGreatDoor
namespace Go.Proofs.YtjcppbhgjchjaaaGreatDoor
open Go.RowKit Go.Proofs.Fd Go.Proofs.Hs Go.Proofs.Cc Go.Proofs.Hd Go.Proofs.Rt
theorem zt5 (s:Ba) (l:List UInt8) (n:Nat):(hdk s l n).data.toList=drv s.data.toList l n:=by unfold hdk;simp
theorem zvV (n:Nat):Lib.repeatL [0] n=List.replicate n 0:=by
 induction n with
 | zero=>rfl
 | succ n ih=>rw[Lib.repeatL,ih];rfl
theorem zsC (n:Nat) (h2:2<=n) (hn:n<=1000) (w:Wo) :
  Cl 180 #[.int .i64 (n:Int)] w fun e w'=>e = .returned (.string (zba n))/\Bw w w':=by
 have RE:Hid (∀w,Cl 258 #[.string ⟨#[0]⟩,.int .i64 (n:Int)] w fun e w'=>e = .returned (.string (zba n))/\Bw w w'):=fun w=>by
  have h:=Any.strings_Repeat_main repLies repMore ⟨#[0]⟩ n w h2 (by omega) (by show 1*n<=_;omega) (by decide);have e:(⟨#[0]⟩:Ba).data.toList=[0]:=rfl;rw[e,zvV] at h;exact h
 generalize zba n=Z at *;clear h2 hn;go_enter Tryz.func180, Tryz.ntmps180;go_wp2_with fail;refine cM (RE.out _) ?_;rintro e w1 ⟨rfl,hb1⟩;have B1:Hid (Bw w w1):=hb1;clear hb1 RE;go_wp2;go_ret;exact⟨rfl,B1.out⟩
theorem zsj (s:Ba) (l:List UInt8) (n:Nat) (hn:n<=255) (hl:l.length<=100) (hs:Hid (s.size+64<=140737488355328)) (w:Wo) (hK:Hid (Kh w)) :
  Cl 257 #[.agg #[.string s],.string ⟨l.toArray⟩,.int .i64 (n:Int)] w fun e w'=>e = .returned (.string (hdk s l n))/\Bw w w':=by
 obtain⟨Lb,hLb⟩:∃L:Ba,⟨l.toArray⟩=L:=⟨_,rfl⟩;have DV:Hid (∀w,Kh w->Cl 29 #[.string s,.string Lb,.int .i64 (n:Int)] w fun e w'=>e = .returned (.tuple #[.string (hdk s l n),.int .i64 0])/\Bw w w'):=fun w h=>by
  have:=zfQ s Lb n w hs (by rw[<-hLb];show (⟨l.toArray⟩:Ba).size+97<=_;rw[zko];omega) h;unfold drV at this;rw[if_neg (by omega)] at this;rw[<-hLb] at this ⊢;exact this
 rw[hLb];generalize hdk s l n=X at *;clear hLb hn;go_enter Tryz.func257, Tryz.ntmps257;go_wp2_with fail;refine cM (DV.out _ (hK.out.alloc _)) ?_;rintro e w1 ⟨rfl,hb1⟩;have B1:Hid (Bw w w1):=chain ((bQ _ _).alloc (nL _) _) hb1;clear hb1 DV;go_wp2;go_ret;exact⟨rfl,B1.out⟩
theorem zu7 (s:Ba) (hs:Hid (s.size+64<=140737488355328)) (w:Wo) (hK:Hid (Kh w)) :
  Cl 181 #[.string s] w fun e w'=>e = .returned (.string (hdk s zr9 200))/\Bw w w':=by
 have DV:Hid (∀w,Kh w->Cl 257 #[.agg #[.string s],.string ⟨#[112,97,100]⟩,.int .i64 200] w fun e w'=>e = .returned (.string (hdk s zr9 200))/\Bw w w'):=fun w h=>zsj s zr9 200 (by decide) (by decide) hs w h
 generalize hdk s zr9 200=X at *;go_enter Tryz.func181, Tryz.ntmps181;go_wp2_with fail;refine cM (DV.out _ hK.out) ?_;rintro e w1 ⟨rfl,hb1⟩;have B1:Hid (Bw w w1):=hb1;clear hb1 DV;go_wp2;go_ret;exact⟨rfl,B1.out⟩
theorem zsF (s t:Ba) (ht:t.size<=240) (w:Wo) :
  Cl 184 #[hk6 s,.string t] w fun e w'=>e = .returned (.string (htn s t))/\Bw w w':=by
 have ZE:Hid (∀w,Cl 180 #[.int .i64 12] w fun e w'=>e = .returned (.string (zba 12))/\Bw w w'):=fun w=>zsC 12 (by decide) (by decide) w
 have SX:Hid (∀w,Cl 259 #[.string (hdk s zo9 32),.string (zba 12),.int .i64 0,.string t] w fun e w'=>e = .returned (.tuple #[.string (htn s t),.int .i64 0])/\Bw w w'):=fun w=>by
  have h:=zuK (hdk s zo9 32) (zba 12) 0 t (zkL _ _ _) (zsi _) (by omega) w;rw[zxc s t ht] at h;exact h
 unfold hk6;generalize htn s t=Y at *;generalize hdk s zo9 32=k1 at *;generalize hdk s zr8 32=k2 at *;generalize hdk s zpa 32=k3 at *;generalize bld s=k4 at *;generalize hdk s zqe 16=k5 at *;generalize zba 12=Z at *;clear ht;go_enter Tryz.func184, Tryz.ntmps184;go_wp2;obtain⟨A,hA⟩:∃A,w.alloc (.cells #[.string s,.string k1,.string k2,.string k3,.string k4,.string k5] 208)=A:=⟨_,rfl⟩;have I:Hid (Six A w.heap.size s k1 k2 k3 k4 k5/\Bw w A):=by
  rw[<-hA];exact⟨Six.new _ _ _ _ _ _ _ _,(bQ _ _).alloc (nL _) _⟩
 rw[hA];clear hA;have c1:=I.out.1.2.2.1;have J:Hid (Six A.drew w.heap.size s k1 k2 k3 k4 k5/\Bw w A.drew):=⟨I.out.1,I.out.2.drew⟩;clear I;go_region_with (first|(go_at_call 180;refine cM (ZE.out _) ?_;rintro e w1 ⟨rfl,hb1⟩;have H1:Hid (Six w1 w.heap.size s k1 k2 k3 k4 k5/\Below w.heap.size w w1):=⟨J.out.1.later hb1,chain J.out.2 hb1⟩;have c11:=H1.out.1.2.2.1)|(go_at_call 259;refine cM (SX.out _) ?_;rintro e w2 ⟨rfl,hb2⟩;have B2:Hid (Below w.heap.size w w2):=chain H1.out.2 hb2))
 all_goals
  go_wp2;go_ret;exact⟨rfl,B2.out⟩
theorem ztu (s l:Ba) (hl:l.size<=140737488355328) (w:Wo) (hK:Hid (Kh w)) :
  Cl 185 #[hk6 s,.string l] w fun e w'=>e = .returned (.string (hmb s l))/\Bw w w':=by
 obtain⟨X,hX⟩:∃X:Ba,⟨(zd2 (hdk s zr8 32).data.toList l.data.toList).toArray⟩=X:=⟨_,rfl⟩;have zX:X.size=32:=by rw[<-hX,zko,zcb]
 have eX:Hid (hmb s l=X.extract 0 16):=by
  show _=_;have:(X.extract 0 16).data.toList=zbS s l.data.toList:=by
   rw[<-hX,zoU,List.drop_zero,zt5];unfold zbS
   with_reducible rfl
  unfold hmb;exact (ztL this).symm
 have TG:Hid (∀(B:Nat) (w:Wo),Kh w->w.cell? ⟨B,0,none⟩=some (.string l)->Cl 101 #[.string (hdk s zr8 32),.slice (some ⟨B,0,none⟩) 1 1] w fun e w'=>e = .returned (.string X)/\Bw w w'):=fun B w h h0=>by
  have:=zqD (hdk s zr8 32) (some ⟨B,0,none⟩) [l] 1 1 w rfl (by show (1:Nat)*16+1024<=_;decide) (by show (hdk s zr8 32).size<=_;rw[zkL];decide) (fun x hx=>by simp at hx;subst hx;exact hl) h (zhM h0);rw[zmG,hX] at this;exact this
 rw[eX.out];unfold hk6;generalize hdk s zo9 32=k1 at *;generalize hdk s zr8 32=k2 at *;generalize hdk s zpa 32=k3 at *;generalize bld s=k4 at *;generalize hdk s zqe 16=k5 at *;have zXi:(X.size:Int)=32:=by omega
 clear hl hX eX;go_enter Tryz.func185, Tryz.ntmps185;go_wp2_with fail;refine cM (TG.out _ _ ((hK.out.alloc _).alloc _) (by simp[go_sem])) ?_;rintro e w1 ⟨rfl,hb1⟩;have B1:Hid (Bw w w1):=chain (((bQ _ _).alloc (nL _) _).alloc (by simp[go_sem]) _) hb1;clear hb1 TG;go_wp2;go_ret;exact⟨rfl,B1.out⟩
theorem zta (a:Option Addr) (ss:List Ba) (n cap:Nat) (hn:Hid (ss.length=n)) (hm:n<=9223372036854775807) (w:Wo) (hc:Hid (StrAt w a ss)) :
  Cl 177 #[.slice a n cap] w fun e w'=>e = .returned (.bool (Crv.wh ss))/\Bw w w':=by
 go_enter Tryz.func177, Tryz.ntmps177;go_wp2;go_loopw [7] (fun i wr=>∃k:Nat,k<=n/\i = .int .i64 k/\Hid (Crv.wh (ss.take k)=true/\Bw w wr)) (fun i _=>n - (intOf i).toNat)
 case atStart=>exact⟨0,Nat.zero_le _,rfl,rfl,bQ _ _⟩
 case round =>
  obtain⟨k,hk,rfl,I⟩:=hrel;by_cases hlt:k < n
  ·have hk':k < ss.length:=by have:=hn.out;omega
   obtain⟨b,o,rfl,hcell⟩:=StrAt.later hc.out I.out.2 rfl k hk';have HT:Hid (ss[k].size=32->Crv.wh (ss.take (k+1))=true):=fun h=>Crv.wh_take hk' I.out.1 h
   have HN:Hid (¬ss[k].size=32->Crv.wh ss=false):=fun h=>Crv.wh_not hk' h
   generalize ss[k]=s at *;by_cases h0:s.size=32
   ·have hz:((s.size:Int) != 32)=false:=by simp[h0]
    have fin:=HT.out h0;have FIN:Hid (Crv.wh (ss.take (k+1))=true):=fin;clear fin h0;go_wp2;go_roundw
    case rel=>exact⟨k+1,by omega,by go_num,FIN.out,I.out.2⟩
    case measure=>simp[intOf];omega
   ·have hz:((s.size:Int) != 32)=true:=by simp;omega
    have FIN:Hid (Crv.wh ss=false):=HN.out h0;clear h0;go_wp2;go_ret;exact⟨Crv.ret_bool FIN.out.symm,I.out.2⟩
  ·have hkn:k=n:=by omega
   subst hkn;have CA:Hid (Crv.wh ss=true):=by
    have:=I.out.1;rw[List.take_of_length_le (by have:=hn.out;omega)] at this;exact this
   go_wp2;go_ret;exact⟨Crv.ret_bool CA.out.symm,I.out.2⟩
theorem zsv (s:Ba) (B:Nat) (w:Wo) (h0:w.cell? ⟨B,0,none⟩=some (.string s)) :
  Cl 177 #[.slice (some ⟨B,0,none⟩) 1 1] w fun e w'=>e = .returned (.bool (decide (s.size=32)))/\Bw w w':=by
 have:=zta (some ⟨B,0,none⟩) [s] 1 1 rfl (by omega) w (zhM h0);have e:Crv.wh [s]=decide (s.size=32):=by simp[Crv.wh]
 rw[e] at this;exact this
def zsQ (w:Wo) (a:Option Addr) (ss:List Ba):Prop:=∀i,i < ss.length->∃b o,a=some ⟨b,o,none⟩
  /\ w.cell? ⟨b,o+i*6,none⟩=some (.string (nth ss i))/\w.cell? ⟨b,o+i*6+1,none⟩=some (.string (hdk (nth ss i) zo9 32))/\w.cell? ⟨b,o+i*6+2,none⟩=some (.string (hdk (nth ss i) zr8 32))/\w.cell? ⟨b,o+i*6+3,none⟩=some (.string (hdk (nth ss i) zpa 32))
  /\ w.cell? ⟨b,o+i*6+4,none⟩=some (.string (bld (nth ss i)))/\w.cell? ⟨b,o+i*6+5,none⟩=some (.string (hdk (nth ss i) zqe 16))
theorem zsQ.later {w w':Wo} {a:Option Addr} {ss:List Ba} (h:zsQ w a ss) (hb:Bw w w'):zsQ w' a ss:=fun i hi=>by
 obtain⟨b,o,ha,c0,c1,c2,c3,c4,c5⟩:=h i hi;exact⟨b,o,ha,cell_later hb c0,cell_later hb c1,cell_later hb c2,cell_later hb c3,cell_later hb c4,cell_later hb c5⟩
theorem zsD (a b:Ba):(a++b).data.toList=a.data.toList++b.data.toList:=by simp
theorem zsN (a b:Ba):(a++b).size=a.size+b.size:=by simp
def fbs (ss:List Ba) (i:Nat):Ba:=⟨(fil (fun i=>zig (nth ss i)) i).toArray⟩
theorem zt6 (ss:List Ba) (i:Nat) (hi:i<=6):(fbs ss i).size=40*i:=by
 unfold fbs;rw[zko,zdk _ (fun _=>zih _) i hi]
theorem zvW (ss:List Ba) (i m:Nat) (hi:i<=4) (hm:m+40*(i+1)=240):(htn (nth ss i) (zba m++(fbs ss i++zba 40))).extract m 240=fbs ss (i+1):=by
 have hl:(fil (fun i=>zig (nth ss i)) i).length=40*i:=zdk _ (fun _=>zih _) i (by omega);have e:((htn (nth ss i) (zba m++(fbs ss i++zba 40))).extract m 240).data.toList=fil (fun i=>zig (nth ss i)) (i+1):=by
  unfold htn;rw[zoU,zie,zsD,zsT,List.drop_append_of_le_length (by rw[List.length_replicate];exact nL _),List.drop_of_length_le (by rw[List.length_replicate];exact nL _),List.nil_append,zsD,zsT,zfY,show 240 - 40*(i+1)=m by omega];have eq:(fbs ss i).data.toList=fil (fun i=>zig (nth ss i)) i:=rfl;rw[eq];apply List.take_of_length_le;rw[zaQ _ _ (by rw[List.length_append,hl,List.length_replicate,List.length_drop,zih];omega),List.length_append,hl,List.length_replicate];omega
 exact ztL e
theorem zuo (a:Option Addr) (ss:List Ba) (n cap:Nat) (hn:Hid (n<=ss.length)) (h4:n<=4) (w:Wo) (hc:Hid (zsQ w a ss)) :
  Cl 182 #[.slice a n cap] w fun e w'=>e = .returned (.string (fbs ss n))/\Below w.heap.size w w':=by
 have Z40:Hid (∀w,Cl 180 #[.int .i64 40] w fun e w'=>e = .returned (.string (zba 40))/\Below w.heap.size w w'):=fun w=>zsC 40 (by decide) (by decide) w
 go_enter Tryz.func182, Tryz.ntmps182;go_wp2_with fail;go_loopw [3,9] (fun fv iv wr=>∃k:Nat,k<=n/\iv = .int .i64 (k:Int)/\fv = .string (fbs ss k)/\Hid (Below w.heap.size w wr)) (fun _ iv _=>n - (intOf iv).toNat)
 case atStart=>exact⟨0,Nat.zero_le _,rfl,rfl,bQ _ _⟩
 case round =>
  obtain⟨k,hk,rfl,rfl,I⟩:=hrel;by_cases hlt:k < n
  ·have g1:(k:Int) < (n:Int):=by omega
   obtain⟨b,o,rfl,c0,c1,c2,c3,c4,c5⟩:=zsQ.later hc.out I.out k (by have:=hn.out;omega);obtain⟨m,hm⟩:∃m,m+40*(k+1)=240:=⟨200 - 40*k,by omega⟩;obtain⟨G,hG⟩:∃G:Ba,fbs ss k++zba 40=G:=⟨_,rfl⟩;have zF:=zt6 ss k (by omega);have zG:G.size=40*(k+1):=by rw[<-hG,zsN,zF,zsi];omega
   obtain⟨H,hH⟩:∃H:Ba,zba m++G=H:=⟨_,rfl⟩;have zH:H.size=240:=by rw[<-hH,zsN,zsi,zG];omega
   obtain⟨Y,hY⟩:∃Y:Ba,htn (nth ss k) H=Y:=⟨_,rfl⟩;have zY:Y.size=240:=by rw[<-hY,zsU _ _ (by omega),zH]
   have ST:Hid (Y.extract m 240=fbs ss (k+1)):=by
    rw[<-hY,<-hH,<-hG];exact zvW ss k m (by omega) hm
   have A1:∀w,(Op.stringOp .add (fbs ss k) (zba 40)).run Tryz.prog w = .ok (.string G) w:=fun w=>by
    rw[<-hG];exact run_string_add_sum _ _ _ (by rw[zF,zsi];omega)
   have A2:∀w,(Op.stringOp .add (zba m) G).run Tryz.prog w = .ok (.string H) w:=fun w=>by
    rw[<-hH];exact run_string_add_sum _ _ _ (by rw[zsi,zG];omega)
   have ZM:Hid (∀w,Cl 180 #[.int .i64 (m:Int)] w fun e w'=>e = .returned (.string (zba m))/\Below w.heap.size w w'):=fun w=>zsC m (by omega) (by omega) w
   have TU:Hid (∀w,Cl 184 #[hk6 (nth ss k),.string H] w fun e w'=>e = .returned (.string Y)/\Below w.heap.size w w'):=fun w=>by
    rw[<-hY];exact zsF _ _ (by omega) w
   unfold hk6 at TU;have zM:=zsi m;have zMi:((zba m).size:Int)=(m:Int):=by omega
   have zYi:(Y.size:Int)=240:=by omega
   have s1:IntKind.i64.wrap (240 - (G.size:Int))=(m:Int):=by rw[IntKind.wrap_i64];omega
   have s2:wrap64 (240 - (G.size:Int))=(m:Int):=by unfold wrap64;omega
   have m240:(m:Int)<=240:=by omega
   clear hG hH hY zG zH zF;generalize zba m=Zm at *;generalize zba 40=Z at *;obtain⟨F,hF⟩:∃F:Ba,fbs ss k=F:=⟨_,rfl⟩;rw[hF] at A1 ⊢;clear hF;generalize nth ss k=s at *;generalize hdk s zo9 32=k1 at *;generalize hdk s zr8 32=k2 at *;generalize hdk s zpa 32=k3 at *;generalize bld s=k4 at *;generalize hdk s zqe 16=k5 at *;go_wp2_with fail;obtain⟨A,hA⟩:∃A,wr.alloc (.cells #[.string s,.string k1,.string k2,.string k3,.string k4,.string k5] 208)=A:=⟨_,rfl⟩;have J:Hid (Six A wr.heap.size s k1 k2 k3 k4 k5/\Below w.heap.size w A):=by
    rw[<-hA];exact⟨Six.new _ _ _ _ _ _ _ _,I.out.alloc I.out.size _⟩
   rw[hA];clear hA c0 c1 c2 c3 c4 c5 I;generalize wr.heap.size=g at *;refine cM (Z40.out _) ?_;rintro e w1 ⟨rfl,hb1⟩;have J1:Hid (Six w1 g s k1 k2 k3 k4 k5/\Below w.heap.size w w1):=⟨J.out.1.later hb1,chain J.out.2 hb1⟩;clear hb1 J Z40;go_wp2_with fail;refine cM (ZM.out _) ?_;rintro e w2 ⟨rfl,hb2⟩;have J2:Hid (Six w2 g s k1 k2 k3 k4 k5/\Below w.heap.size w w2):=⟨J1.out.1.later hb2,chain J1.out.2 hb2⟩;clear hb2 J1 ZM;obtain⟨-,c0,c1,c2,c3,c4,c5⟩:=J2.out.1;go_wp2_with fail;refine cM (TU.out _) ?_;rintro e w3 ⟨rfl,hb3⟩;have B3:Hid (Below w.heap.size w w3):=chain J2.out.2 hb3;clear hb3 J2 TU c0 c1 c2 c3 c4 c5;go_wp2;go_roundw
   case rel=>exact⟨k+1,by omega,by go_num,by rw[ST.out],B3.out⟩
   case measure=>simp[intOf];omega
  ·obtain rfl:k=n:=by omega
   have g1:¬(k:Int) < (k:Int):=by omega
   go_wp2;go_ret;exact⟨rfl,I.out⟩
def Lb (seed:Ba) (ss:List Ba) (hs:List Hp) (j:Nat):Ba:=⟨(zom hs.length (fun i=>zig (nth ss i)) (fun i=>byt (hs.getD i zh)) (fun i l=>zbS (nth ss i) l) (drv seed.data.toList zr9 200) j).toArray⟩
theorem zs0 (seed:Ba) (ss:List Ba) (hs:List Hp) (j:Nat):(Lb seed ss hs j).data.toList=zom hs.length (fun i=>zig (nth ss i)) (fun i=>byt (hs.getD i zh)) (fun i l=>zbS (nth ss i) l) (drv seed.data.toList zr9 200) j:=by unfold Lb;simp
theorem zu8 (seed:Ba) (ss:List Ba) (hs:List Hp) (i:Nat):(Lb seed ss hs (hs.length - 1 - i)).data.toList=ze4 seed ss hs i:=by rw[zs0];unfold ze4;with_reducible rfl
def Ins (seed:Ba) (ss:List Ba) (hs:List Hp):Nat->Ba
 | 0=>zba 16++hdk seed zr9 200
 | j+1=>hmb (nth ss (hs.length - 1 - j)) (Lb seed ss hs j)++Lb seed ss hs j
def En (ss:List Ba) (m:Nat):Nat->Ba
 | 0=>fbs ss m
 | _+1=>⟨#[]⟩
theorem ztj (seed:Ba) (ss:List Ba) (hs:List Hp):Ins seed ss hs 0=zba 16++hdk seed zr9 200:=by rw[Ins]
theorem zsV (seed:Ba) (ss:List Ba) (hs:List Hp) (j:Nat):Ins seed ss hs (j+1)=hmb (nth ss (hs.length - 1 - j)) (Lb seed ss hs j)++Lb seed ss hs j:=by rw[Ins]
theorem ztQ (seed:Ba) (ss:List Ba) (hs:List Hp) (h:hs.all ok=true) (hn:1<=hs.length/\hs.length<=5) (j:Nat) (hj:j < hs.length):(Lb seed ss hs j).size=200:=by
 obtain⟨e,-⟩:=(zf0 seed ss hs h hn).ends (hs.length - 1 - j) (by omega);rw[<-zu8,zcg,show hs.length - 1 - (hs.length - 1 - j)=j by omega] at e;exact e
theorem ztk (seed:Ba) (ss:List Ba) (hs:List Hp) (h:hs.all ok=true) (hn:1<=hs.length/\hs.length<=5) (j:Nat) (hj:j<=hs.length):(Ins seed ss hs j).size=216:=by
 cases j with
 | zero=>rw[ztj,zsN,zsi,zkL]
 | succ j=>rw[zsV,zsN,zti,ztQ seed ss hs h hn j (by omega)]
theorem zu9 (ss:List Ba) (m:Nat) (hm:m<=6) (j:Nat):(En ss m j).size=if j=0 then 40*m else 0:=by
 cases j with
 | zero=>show (fbs ss m).size=_;rw[zt6 ss m hm,if_pos rfl]
 | succ j=>rw[if_neg (by omega)];rfl
theorem zwH (seed:Ba) (ss:List Ba) (hs:List Hp) (h:hs.all ok=true) (hn:1<=hs.length/\hs.length<=5) (m j i:Nat) (hm:m+1=hs.length) (hi:i+j=m) :
  htn (nth ss i) ((⟨(byt (hs.getD i zh)).toArray⟩++Ins seed ss hs j).extract 0 (200 - (En ss m j).size))++En ss m j=Lb seed ss hs j:=by
 have e:(htn (nth ss i) ((⟨(byt (hs.getD i zh)).toArray⟩++Ins seed ss hs j).extract 0 (200 - (En ss m j).size))++En ss m j).data.toList=(Lb seed ss hs j).data.toList:=by
  rw[zsD];unfold htn;have x1:∀l:List UInt8,((⟨l.toArray⟩:Ba).data.toList)=l:=fun l=>by simp
  rw[x1];have x2:((⟨(byt (hs.getD i zh)).toArray⟩++Ins seed ss hs j).extract 0 (200 - (En ss m j).size)).data.toList=(byt (hs.getD i zh)++(Ins seed ss hs j).data.toList).take (200 - (En ss m j).size):=by
   rw[ByteArray.data_extract,Array.toList_extract,List.extract_eq_take_drop,List.drop_zero,zsD,x1,Nat.sub_zero]
  rw[x2,zs0,zu9 ss m (by omega) j];cases j with
  | zero =>
   obtain rfl:i=m:=by omega
   rw[zom,if_pos rfl,ztj,zsD,zsT,zt5,show hs.length - 1=i by omega,List.append_assoc];rfl
  | succ j =>
   have l1:(byt (hs.getD i zh)).length=24:=zkK hs h i;have l2:(zom hs.length (fun i=>zig (nth ss i)) (fun i=>byt (hs.getD i zh)) (fun i l=>zbS (nth ss i) l) (drv seed.data.toList zr9 200) j).length=200:=by
    rw[<-zs0,zcg,ztQ seed ss hs h hn j (by omega)]
   rw[zom,if_neg (by omega),zsV,zsD,zs0];have x3:(hmb (nth ss (hs.length - 1 - j)) (Lb seed ss hs j)).data.toList=zbS (nth ss (hs.length - 1 - j)) (zom hs.length (fun i=>zig (nth ss i)) (fun i=>byt (hs.getD i zh)) (fun i l=>zbS (nth ss i) l) (drv seed.data.toList zr9 200) j):=by
    unfold hmb;rw[x1,zs0]
   rw[x3,show hs.length - 2 - j=i by omega];have x4:(En ss m (j+1)).data.toList=[]:=rfl;rw[x4,List.append_nil];generalize zom hs.length (fun i=>zig (nth ss i)) (fun i=>byt (hs.getD i zh)) (fun i l=>zbS (nth ss i) l) (drv seed.data.toList zr9 200) j=L at *;have l3:=zbc (nth ss (hs.length - 1 - j)) L;generalize zbS (nth ss (hs.length - 1 - j)) L=M at *;generalize byt (hs.getD i zh)=C at *;congr 1;rw[<-List.append_assoc,List.take_append,List.length_append,l1,l3,List.take_of_length_le (by rw[List.length_append,l1,l3];decide)]
 exact ByteArray.ext (Array.toList_inj.1 e)
theorem zva (seed:Ba) (ss:List Ba) (hs:List Hp) (hn:1<=hs.length):ptB seed []++Ins seed ss hs hs.length=⟨(za3 seed ss hs 0).toArray⟩:=by
 obtain⟨m,hm⟩:∃m,hs.length=m+1:=⟨hs.length - 1,by omega⟩;apply ztL;have e:hs.length - 1 - m=0:=by omega
 rw[zsD]
 conv=>lhs;rw[hm]
 rw[zsV,e,zsD];unfold za3;have x:(hmb (nth ss 0) (Lb seed ss hs m)).data.toList=zbS (nth ss 0) (Lb seed ss hs m).data.toList:=by unfold hmb;simp
 have y:(Lb seed ss hs m).data.toList=ze4 seed ss hs 0:=by rw[<-zu8,hm];rfl
 rw[x,y,List.take_zero,List.map_nil,List.append_assoc]
end Go.Proofs.YtjcppbhgjchjaaaGreatDoor
namespace Go.Proofs.YtjcppbhgjchjaaaGreatDoor
open Go.RowKit Go.Proofs.Fd Go.Proofs.Hs Go.Proofs.Cc Go.Proofs.Hd Go.Proofs.Rt Go.Proofs.Wd
theorem zxt (seed:Ba) (pts:List Ba) (hs:List Hp) (h:mkE seed pts hs=0):(mkH seed pts hs).size=248/\1<=(mkS seed pts hs).length/\(mkS seed pts hs).length<=5:=by
 have eH:mkH seed pts hs=⟨(za3 seed (mkS seed pts hs) hs 0).toArray⟩:=by unfold mkH;rw[if_pos h]
 have eS:mkS seed pts hs=(zpb seed pts []).getD []:=by unfold mkS;rw[if_pos h]
 have hp:pth hs=0:=by
  unfold mkE at h;by_cases q:pth hs=0
  ·exact q
  ·rw[if_neg q] at h;exact h
 have h':=h;unfold mkE at h';rw[if_pos hp] at h';by_cases q2:pts.length=hs.length
 ·rw[if_pos q2] at h'
  by_cases q3:seed.size=32/\(pts.all fun p=>p.size == 32)=true
  ·rw[if_pos q3] at h'
   obtain⟨r1,r2,r3,-⟩:=zdf hs hp;cases hsec:zpb seed pts [] with
   | none=>rw[hsec] at h';cases h'
   | some ss =>
    have e:mkS seed pts hs=ss:=by rw[eS,hsec];rfl
    have l:ss.length=pts.length:=ztr _ _ _ _ _ hsec;refine⟨?_,by rw[e];omega,by rw[e];omega⟩;rw[eH,<-zva seed _ hs r2,zsN,zfZ,ztk seed _ hs r1 ⟨r2,r3⟩ _ (nL _)]
  ·rw[if_neg q3] at h';cases h'
 ·rw[if_neg q2] at h';cases h'
def pbd (ss:List Ba) (t:Ba) (i:Nat):Ba:=⟨(pld (ss.drop i) t.data.toList).toArray⟩
theorem zsW (ss:List Ba) (t:Ba) (i:Nat) (ht:t.size<=222):(pbd ss t i).size=256:=by unfold pbd;rw[zko,znd _ _ (by rw[zcg];exact ht)]
theorem zt7 (ss:List Ba) (i:Nat) (hi:i < ss.length):ss.drop i=nth ss i::ss.drop (i+1):=by
 unfold nth;rw[List.getD_eq_getElem?_getD,List.getElem?_eq_getElem hi];exact List.drop_eq_getElem_cons hi
theorem zwI (ss:List Ba) (t:Ba) (i:Nat) (hi:i < ss.length) (ht:t.size<=222):shV (hdk (nth ss i) zpa 32) (pbd ss t (i+1))=#[.string (pbd ss t i),.int .i64 0]:=by
 rw[zwb _ _ (by rw[zsW _ _ _ ht];decide) (by rw[zsW _ _ _ ht];decide)];have e:pbd ss t i=⟨(zmM (hdk (nth ss i) zpa 32).data.toList (pbd ss t (i+1)).data.toList).toArray⟩:=by
  show (⟨(pld (ss.drop i) t.data.toList).toArray⟩:Ba)=_;rw[zt7 ss i hi,zkM];rfl
 rw[<-e]
theorem zwJ (ss:List Ba) (t:Ba) (i:Nat) (hi:i+1=ss.length) (ht:t.size<=222):wrV (hdk (nth ss i) zpa 32) t 256=#[.string (pbd ss t i),.int .i64 0]:=by
 have h:=zwd (hdk (nth ss i) zpa 32) t 256 (by decide) (by decide) (by omega);have e:pbd ss t i=⟨(zmM (hdk (nth ss i) zpa 32).data.toList (zfU t.data.toList 256)).toArray⟩:=by
  show (⟨(pld (ss.drop i) t.data.toList).toArray⟩:Ba)=_;rw[zt7 ss i (by omega),zkM,List.drop_of_length_le (by omega),znc];rfl
 rw[e];exact h
theorem zvX (seed:Ba) (pts:List Ba) (t:Ba) (hs:List Hp) (h:mkE seed pts hs=0) (ht:t.size<=222):pmE seed pts t hs=0/\pmB seed pts t hs=mkH seed pts hs++pbd (mkS seed pts hs) t 0:=by
 obtain⟨h1,h2⟩:=zrL seed pts t hs h ht;refine⟨h1,?_⟩;rw[h2];apply ByteArray.ext;simp[pbd]
theorem Six.drew {w:Wo} {g:Nat} {k0 k1 k2 k3 k4 k5:Ba} (h:Six w g k0 k1 k2 k3 k4 k5):Six w.drew g k0 k1 k2 k3 k4 k5:=h.later (bQ _ _).drew
theorem Six.put5 {w:Wo} {g:Nat} {k0 k1 k2 k3 k4 k5:Ba} (h:Six w g k0 k1 k2 k3 k4 k5) (y0 y1 y2 y3 y4:Ba) :
  Six (((((w.setCell ⟨g,0,none⟩ (.string y0)).setCell ⟨g,1,none⟩ (.string y1)).setCell ⟨g,2,none⟩ (.string y2)).setCell ⟨g,3,none⟩ (.string y3)).setCell ⟨g,4,none⟩ (.string y4)) g y0 y1 y2 y3 y4 k5:=by
 obtain⟨f,h0,h1,h2,h3,h4,h5⟩:=h;refine⟨fun o=>by simp[go_sem,f],?_,?_,?_,?_,?_,?_⟩ <;> simp[go_sem,h0,h1,h2,h3,h4,h5]
theorem zvb (g:Nat) (k0 k1 k2 k3 k4 k5 t R:Ba) (w:Wo) (hS:Hid (Six w g k0 k1 k2 k3 k4 k5)) (hK:Hid (Kh w))
  (WR:Hid (∀w,Kh w->Cl 186 #[.string k2,.string t,.int .i64 256] w fun e w'=>e = .returned (.tuple #[.string R,.int .i64 0])/\Bw w w')) :
  Cl 105 #[.pointer (some ⟨g,0,none⟩),.string t] w fun e w'=>e = .returned (.tuple #[])/\Six w' g k0 k1 k2 k3 k4 R/\Below g w w':=by
 obtain⟨fz,-,-,c2,-,-,c5⟩:=hS.out;have gl:=hS.out.lt;go_enter Tryz.func105, Tryz.ntmps105;go_wp2_with fail;refine cM (WR.out _ hK.out) ?_;rintro e w1 ⟨rfl,hb1⟩;have H1:Hid (Six w1 g k0 k1 k2 k3 k4 k5/\Below g w w1):=⟨Six.later hS.out hb1,hb1.mono (Nat.le_of_lt hS.out.lt)⟩;have c51:=H1.out.1.2.2.2.2.2.2;have f51:=H1.out.1.1 5;clear hb1 WR c2 c5;go_wp2;exact bodyPost_end (results_none Tryz.results105 _ _ _) rfl ⟨rfl,H1.out.1.set5 R,H1.out.2.setCell (p:=⟨g,5,none⟩) (nL _) _⟩
theorem zvc (g:Nat) (k0 k1 k2 k3 k4 k5 R:Ba) (w:Wo) (hS:Hid (Six w g k0 k1 k2 k3 k4 k5)) (hK:Hid (Kh w))
  (WR:Hid (∀w,Kh w->Cl 187 #[.string k2,.string k5] w fun e w'=>e = .returned (.tuple #[.string R,.int .i64 0])/\Bw w w')) :
  Cl 106 #[.pointer (some ⟨g,0,none⟩)] w fun e w'=>e = .returned (.tuple #[])/\Six w' g k0 k1 k2 k3 k4 R/\Below g w w':=by
 obtain⟨fz,-,-,c2,-,-,c5⟩:=hS.out;have gl:=hS.out.lt;go_enter Tryz.func106, Tryz.ntmps106;go_wp2;go_region_with (first|(go_at_call 187;refine cM (WR.out _ (Kh.later hK.out (bQ _ _).drew)) ?_;rintro e w1 ⟨rfl,hb1⟩;have H1:Hid (Six w1 g k0 k1 k2 k3 k4 k5):=Six.later (Six.drew hS.out) hb1;have c51:=H1.out.2.2.2.2.2.2;have f51:=H1.out.1 5))
 all_goals
  exact bodyPost_end (results_none Tryz.results106 _ _ _) rfl ⟨rfl,H1.out.set5 R,((chain (bQ _ _).drew hb1).mono (Nat.le_of_lt hS.out.lt)).setCell (p:=⟨g,5,none⟩) (nL _) _⟩
theorem zvd (g:Nat) (k0 k1 k2 k3 k4 k5 R:Ba) (w:Wo) (hS:Hid (Six w g k0 k1 k2 k3 k4 k5)) (hK:Hid (Kh w))
  (WR:Hid (∀w,Kh w->Cl 243 #[.string k2,.string k5] w fun e w'=>e = .returned (.tuple #[.string R,.int .i64 0])/\Bw w w')) :
  Cl 163 #[.pointer (some ⟨g,0,none⟩)] w fun e w'=>e = .returned (.tuple #[])/\Six w' g k0 k1 k2 k3 k4 R/\Below g w w':=by
 obtain⟨fz,-,-,c2,-,-,c5⟩:=hS.out;have gl:=hS.out.lt;go_enter Tryz.func163, Tryz.ntmps163;go_wp2;go_region_with (first|(go_at_call 243;refine cM (WR.out _ (Kh.later hK.out (bQ _ _).drew)) ?_;rintro e w1 ⟨rfl,hb1⟩;have H1:Hid (Six w1 g k0 k1 k2 k3 k4 k5):=Six.later (Six.drew hS.out) hb1;have c51:=H1.out.2.2.2.2.2.2;have f51:=H1.out.1 5))
 all_goals
  exact bodyPost_end (results_none Tryz.results163 _ _ _) rfl ⟨rfl,H1.out.set5 R,((chain (bQ _ _).drew hb1).mono (Nat.le_of_lt hS.out.lt)).setCell (p:=⟨g,5,none⟩) (nL _) _⟩
theorem zve (g:Nat) (k0 k1 k2 k3 k4 k5 R:Ba) (E:Int) (w:Wo) (hS:Hid (Six w g k0 k1 k2 k3 k4 k5)) (hK:Hid (Kh w))
  (WR:Hid (∀w,Kh w->Cl 244 #[.string k2,.string k5] w fun e w'=>e = .returned (.tuple #[.string R,.int .i64 E])/\Bw w w')) :
  Cl 164 #[.pointer (some ⟨g,0,none⟩)] w fun e w'=>e = .returned (.tuple #[.string R,.int .i64 E])/\Bw w w':=by
 obtain⟨fz,-,-,c2,-,-,c5⟩:=hS.out;have gl:=hS.out.lt;go_enter Tryz.func164, Tryz.ntmps164;go_wp2;go_region_with (first|(go_at_call 244;refine cM (WR.out _ (Kh.later hK.out (bQ _ _).drew)) ?_;rintro e w1 ⟨rfl,hb1⟩;have H1:Hid (Below w.heap.size w w1):=chain (bQ _ _).drew hb1))
 all_goals
  go_wp2;go_ret2;exact⟨rfl,H1.out⟩
theorem ztR (CW:Hid zvP) (CS:Hid zvO) (t:Ba) (ht:t.size<=222) (ss:List Ba) (L:Nat) (hL:ss.length=L+1) (l4:L<=4) (ka:Option Addr) (kc:Nat) (_:L+1<=kc) (w:Wo) (hK:Hid (Kh w)) (hk:Hid (zsM w (.slice ka (L+1) kc) ss)) :
  Cl 61 #[.string t,.slice ka (L+1) kc] w fun e w'=>e = .returned (.string (pbd ss t 0))/\Below w.heap.size w w':=by
 have WP:Hid (∀(g:Nat) (k0 k1 k3 k4:Ba) (w:Wo),Six w g k0 k1 (hdk (nth ss L) zpa 32) k3 k4 ⟨#[]⟩->Kh w->Cl 105 #[.pointer (some ⟨g,0,none⟩),.string t] w fun e w'=>e = .returned (.tuple #[])/\Six w' g k0 k1 (hdk (nth ss L) zpa 32) k3 k4 (pbd ss t L)/\Below g w w'):=fun g k0 k1 k3 k4 w h hK =>
  zvb g k0 k1 _ k3 k4 _ t _ w h hK (fun w hw=>by
   rw[<-zwJ ss t L hL.symm ht];exact CW.out _ _ _ w (by rw[zkL];show (32:Nat)+64<=_;decide) (by show t.size<=_;omega) hw)
 have SP:Hid (∀(i:Nat) (g:Nat) (k0 k1 k3 k4:Ba) (w:Wo),i < L+1->Six w g k0 k1 (hdk (nth ss i) zpa 32) k3 k4 (pbd ss t (i+1))->Kh w->Cl 106 #[.pointer (some ⟨g,0,none⟩)] w fun e w'=>e = .returned (.tuple #[])/\Six w' g k0 k1 (hdk (nth ss i) zpa 32) k3 k4 (pbd ss t i)/\Below g w w'):=fun i g k0 k1 k3 k4 w hi h hK =>
  zvc g k0 k1 _ k3 k4 _ _ w h hK (fun w hw=>by
   rw[<-zwI ss t i (by omega) ht];exact CS.out _ _ w (by rw[zkL];show (32:Nat)+64<=_;decide) (by show (pbd ss t (i+1)).size<=_;rw[zsW _ _ _ ht];decide) hw)
 have KC:Hid (∀w' i,Below w.heap.size w w'->i < L+1->∃b o,ka=some ⟨b,o,none⟩
   /\ w'.cell? ⟨b,o+i*5,none⟩=some (.string (hdk (nth ss i) zo9 32))/\w'.cell? ⟨b,o+i*5+1,none⟩=some (.string (hdk (nth ss i) zr8 32))/\w'.cell? ⟨b,o+i*5+2,none⟩=some (.string (hdk (nth ss i) zpa 32))
   /\ w'.cell? ⟨b,o+i*5+3,none⟩=some (.string (bld (nth ss i)))/\w'.cell? ⟨b,o+i*5+4,none⟩=some (.string (hdk (nth ss i) zqe 16))):=fun w' i hb hi=>by
  obtain⟨a,c,e,-,-,kcs⟩:=hk.out;rw[hL] at e;cases e;obtain⟨b,o,e,c0,c1,c2,c3,c4⟩:=kcs i (by omega);exact⟨b,o,e,cell_later hb c0,cell_later hb c1,cell_later hb c2,cell_later hb c3,cell_later hb c4⟩
 clear CW CS hk;obtain⟨b1,o1,hka,c0,c1,c2,c3,c4⟩:=KC.out w L (bQ _ _) (by omega);have n1:IntKind.i64.wrap (((L+1:Nat):Int) - 1)=(L:Int):=by rw[IntKind.wrap_i64];omega
 have n2:wrap64 (((L+1:Nat):Int) - 1)=(L:Int):=by unfold wrap64;omega
 have n1':IntKind.i64.wrap ((L:Int)+1 - 1)=(L:Int):=by rw[IntKind.wrap_i64];omega
 have n2':wrap64 ((L:Int)+1 - 1)=(L:Int):=by unfold wrap64;omega
 have n3:(L:Int) < ((L+1:Nat):Int):=by omega
 have n3':(L:Int) < (L:Int)+1:=by omega
 subst hka;go_enter Tryz.func61, Tryz.ntmps61;go_wp2_with fail;obtain⟨A,hA⟩:∃A,w.alloc (.cells #[.string (hdk (nth ss L) zo9 32),.string (hdk (nth ss L) zr8 32),.string (hdk (nth ss L) zpa 32),.string (bld (nth ss L)),.string (hdk (nth ss L) zqe 16),.string ⟨#[]⟩] 211)=A:=⟨_,rfl⟩;have J:Hid (Six A w.heap.size (hdk (nth ss L) zo9 32) (hdk (nth ss L) zr8 32) (hdk (nth ss L) zpa 32) (bld (nth ss L)) (hdk (nth ss L) zqe 16) ⟨#[]⟩/\Below w.heap.size w A):=by
  rw[<-hA];exact⟨Six.new _ _ _ _ _ _ _ _,(bQ _ _).alloc (nL _) _⟩
 rw[hA];clear hA c0 c1 c2 c3 c4;refine cM (WP.out _ _ _ _ _ _ J.out.1 (hK.out.later J.out.2)) ?_;rintro e w1 ⟨rfl,h1,hb1⟩;have J1:Hid (∃k0 k1 k2 k3 k4,Six w1 w.heap.size k0 k1 k2 k3 k4 (pbd ss t L)/\Below w.heap.size w w1):=⟨_,_,_,_,_,h1,J.out.2.trans hb1⟩;clear h1 hb1 J WP;obtain⟨g,hg⟩:∃g,w.heap.size=g:=⟨_,rfl⟩;have HG:Hid (w.heap.size=g):=hg;rw[hg] at J1 ⊢;clear hg;go_wp2_with fail;go_loopw [7] (fun iv wr=>∃j:Nat,j<=L/\iv = .int .i64 ((j:Int) - 1)/\Hid (∃k0 k1 k2 k3 k4,Six wr g k0 k1 k2 k3 k4 (pbd ss t j)/\Below g w wr)) (fun iv _=>(intOf iv+1).toNat)
 case atStart=>exact⟨L,nL _,by go_num,J1.out⟩
 case round =>
  obtain⟨j,hj,rfl,I⟩:=hrel;clear J1;obtain⟨y0,y1,y2,y3,y4,hsix,hbel⟩:=I.out;have I2:Hid (Six wr g y0 y1 y2 y3 y4 (pbd ss t j)/\Below g w wr):=⟨hsix,hbel⟩;clear I hsix hbel;obtain⟨fz,d0,d1,d2,d3,d4,d5⟩:=I2.out.1;have f0:=fz 0;have f1:=fz 1;have f2:=fz 2;have f3:=fz 3;have f4:=fz 4;have gl:=I2.out.1.lt;clear fz;cases j with
  | zero =>
   have q1:¬(0:Int)<=((0:Nat):Int) - 1:=by omega
   go_wp2;go_ret;exact⟨rfl,by have:=I2.out.2;rw[<-HG.out] at this;exact this⟩
  | succ i =>
   have q0:((i+1:Nat):Int) - 1=(i:Int):=by omega
   rw[q0];have q1:(0:Int)<=(i:Int):=by omega
   have BW:Below w.heap.size w wr:=by rw[HG.out];exact I2.out.2
   obtain⟨b2,o2,he,c0,c1,c2,c3,c4⟩:=KC.out wr i BW (by omega);cases he;have n4:(i:Int) < ((L+1:Nat):Int):=by omega
   have n4':(i:Int) < (L:Int)+1:=by omega
   have SX:Hid (_/\_):=And.intro (I2.out.1.put5 (hdk (nth ss i) zo9 32) (hdk (nth ss i) zr8 32) (hdk (nth ss i) zpa 32) (bld (nth ss i)) (hdk (nth ss i) zqe 16)) (zs9 I2.out.2 (nL g) (.string (hdk (nth ss i) zo9 32)) (.string (hdk (nth ss i) zr8 32)) (.string (hdk (nth ss i) zpa 32)) (.string (bld (nth ss i))) (.string (hdk (nth ss i) zqe 16)));have gne:¬g=b1:=by
    obtain⟨b3,o3,he3,e0,-⟩:=KC.out w i (bQ _ _) (by omega);cases he3;have:=World.block_lt_of_cell? _ _ e0;have:=HG.out;simp at *;omega
   have gne2:¬b1=g:=fun h=>gne h.symm
   have GK:Hid (0 < g):=by rw[<-HG.out];exact hK.out.1
   go_wp2_with fail;refine cM (SP.out i _ _ _ _ _ _ (by omega) SX.out.1 (Kh.above hK.out GK.out SX.out.2)) ?_;rintro e w3 ⟨rfl,h3,hb3⟩;have J3:Hid (∃k0 k1 k2 k3 k4,Six w3 g k0 k1 k2 k3 k4 (pbd ss t i)/\Below g w w3):=⟨_,_,_,_,_,h3,SX.out.2.trans hb3⟩;clear h3 hb3 SX I2 c0 c1 c2 c3 c4 d0 d1 d2 d3 d4 d5;go_wp2;exact⟨⟨i,by omega,by go_num,J3.out⟩,by simp[intOf]⟩
theorem zvY (seed:Ba) (a:Option Addr) (n cap:Nat) (t:Ba) (b:Option Addr) (m cap2:Nat) (w:Wo) (H:Ba) (e:Int) (he:¬e=0)
  (RM:Hid (Cl 59 #[.string seed,.slice a n cap,.slice b m cap2] w fun x w'=>∃v,x = .returned (.tuple #[.string H,v,.int .i64 e])/\Bw w w')) :
  Cl 30 #[.string seed,.slice a n cap,.string t,.slice b m cap2] w fun x w'=>x = .returned (.tuple #[.string ⟨#[]⟩,.int .i64 e])/\Bw w w':=by
 go_enter Tryz.func30, Tryz.ntmps30;go_wp2_with fail;refine cM RM.out ?_;rintro x w1 ⟨v,rfl,hb1⟩;have B1:Hid (Bw w w1):=hb1;clear hb1 RM;go_wp2;go_ret2;exact⟨rfl,B1.out⟩
theorem zup (seed:Ba) (a:Option Addr) (n cap:Nat) (t:Ba) (b:Option Addr) (m cap2:Nat) (w:Wo) (H:Ba) (ht:222 < t.size)
  (RM:Hid (Cl 59 #[.string seed,.slice a n cap,.slice b m cap2] w fun x w'=>∃v,x = .returned (.tuple #[.string H,v,.int .i64 0])/\Bw w w')) :
  Cl 30 #[.string seed,.slice a n cap,.string t,.slice b m cap2] w fun x w'=>x = .returned (.tuple #[.string ⟨#[]⟩,.int .i64 2])/\Bw w w':=by
 have gi:(222:Int) < (t.size:Int):=by omega
 go_enter Tryz.func30, Tryz.ntmps30;go_wp2_with fail;refine cM RM.out ?_;rintro x w1 ⟨v,rfl,hb1⟩;have B1:Hid (Bw w w1):=hb1;clear hb1 RM;go_wp2_with fail;refine cM (zt4 _) ?_;rintro x w2 ⟨rfl,rfl⟩;go_wp2;go_ret2;exact⟨rfl,B1.out⟩
theorem zvZ (CW:Hid zvP) (CS:Hid zvO) (seed:Ba) (a:Option Addr) (n cap:Nat) (t:Ba) (b:Option Addr) (m cap2:Nat) (w:Wo) (hK:Hid (Kh w)) (H:Ba) (ss:List Ba) (ht:t.size<=222) (zH:H.size=248) (hl:1<=ss.length/\ss.length<=5)
  (RM:Hid (Cl 59 #[.string seed,.slice a n cap,.slice b m cap2] w fun x w'=>∃v,x = .returned (.tuple #[.string H,v,.int .i64 0])/\zsM w' v ss/\Bw w w')) :
  Cl 30 #[.string seed,.slice a n cap,.string t,.slice b m cap2] w fun x w'=>x = .returned (.tuple #[.string (H++pbd ss t 0),.int .i64 0])/\Bw w w':=by
 have gi:¬(222:Int) < (t.size:Int):=by omega
 obtain⟨L,hL⟩:∃L,ss.length=L+1:=⟨ss.length - 1,by omega⟩;have AD:∀w,(Op.stringOp .add H (pbd ss t 0)).run Tryz.prog w = .ok (.string (H++pbd ss t 0)) w:=fun w=>run_string_add_sum _ _ _ (by rw[zH,zsW _ _ _ ht];decide)
 have PL:Hid (∀(ka:Option Addr) (kc:Nat) (w:Wo),L+1<=kc->Kh w->zsM w (.slice ka (L+1) kc) ss->Cl 61 #[.string t,.slice ka (L+1) kc] w fun e w'=>e = .returned (.string (pbd ss t 0))/\Bw w w'):=fun ka kc w hc h hk =>
  ztR CW CS t ht ss L hL (by omega) ka kc hc w h hk
 generalize H++pbd ss t 0=R at *;generalize pbd ss t 0=B at *;clear CW CS;go_enter Tryz.func30, Tryz.ntmps30;go_wp2_with fail;refine cM RM.out ?_;rintro x w1 ⟨v,rfl,⟨ka,kc,rfl,kl,kx,kcs⟩,hb1⟩;have B1:Hid (Bw w w1):=hb1;have KY:Hid (zsM w1 (.slice ka (L+1) kc) ss):=⟨ka,kc,by rw[hL],kl,kx,kcs⟩;rw[hL] at kl;rw[hL];clear hb1 RM kcs;go_wp2_with fail;refine cM (zt4 _) ?_;rintro x w2 ⟨rfl,rfl⟩;go_wp2_with fail;refine cM (PL.out ka kc _ kl (hK.out.later B1.out) KY.out) ?_;rintro x w3 ⟨rfl,hb3⟩;have B3:Hid (Bw w w3):=chain B1.out hb3;clear hb3 PL KY B1;go_wp2;go_ret2;exact⟨rfl,B3.out⟩
theorem zv0 (CM:Hid zxa) (CW:Hid zvP) (CS:Hid zvO):zjf:=fun seed a pts n cap t b hs m cap2 w hl hb zs zp hid zt hK hc hp=>by
 have M:=CM.out seed a pts n cap b hs m cap2 w hl hb zs zp hid hK hc hp;by_cases h0:mkE seed pts hs=0
 ·rw[h0] at M
  rcases Nat.lt_or_ge 222 t.size with ht|ht
  ·obtain⟨e1,e2⟩:=zwG seed pts t hs h0 ht
   rw[e1,e2];exact zup seed a n cap t b m cap2 w _ ht (M.mono fun x w' ⟨v,q1,_,q3⟩=>⟨v,q1,q3⟩)
  ·obtain⟨e1,e2⟩:=zvX seed pts t hs h0 ht
   rw[e1,e2];obtain⟨z1,z2,z3⟩:=zxt seed pts hs h0;exact zvZ CW CS seed a n cap t b m cap2 w hK _ _ ht z1 ⟨z2,z3⟩ M
 ·obtain⟨e1,e2⟩:=zxs seed pts t hs h0
  rw[e1,e2];exact zvY seed a n cap t b m cap2 w _ _ h0 (M.mono fun x w' ⟨v,q1,_,q3⟩=>⟨v,q1,q3⟩)
theorem zvf {p h:Ba} {e:Int} (q:hpl p h = .error e):¬e=0:=by
 unfold hpl at q
 split at q
 ·split at q
  ·cases q;decide
  ·split at q
   ·split at q
    ·cases q;decide
    ·cases q
   ·cases q;decide
 ·cases q;decide
theorem zs1 {p h:Ba} {x:Hp} {n s:Ba} (q:hpl p h = .ok (x,n,s)):n.size<=248:=by
 unfold hpl at q
 split at q
 ·rename_i hz
  split at q
  ·cases q
  ·split at q
   ·split at q
    ·cases q
    ·cases q
     split
     ·rw[zko,List.length_append,zcg,Crv.ek_size,List.length_drop]
      unfold zbd;rw[zaQ _ _ (by rw[List.length_append,List.length_replicate,List.length_drop,zcg,zih,hz.2];decide),List.length_append,List.length_replicate,List.length_drop,zcg,hz.2];decide
     ·decide
   ·cases q
 ·cases q
theorem ztv (tmps:Array Value) (w:Wo) (b:Nat) (x:Hp) (n t s:Ba) (e:Int) (h4:tmps.getD 4 undef = .pointer (some ⟨b,0,none⟩)) (h5:tmps.getD 5 undef = .int .i64 e) (l:zsy w b x n t s) :
  (results Tryz.f86 tmps).run Tryz.prog w = .ok (.tuple #[pdv x n t s,.int .i64 e]) w:=by
 have l1:=run_loadVar_mid (P:=Tryz.prog) w b 0 148 [.int .i64 x.k,.int .i64 x.n,.int .i64 x.u,.int .i64 x.d,.string x.id,.string n,.string t,.string s] _ l.range Tryz.underlying148 rfl (by kernel_rfl);unfold results;rw[Tryz.results86];have h4':tmps[4]?.getD undef = .pointer (some ⟨b,0,none⟩):=by simpa using h4
 have h5':tmps[5]?.getD undef = .int .i64 e:=by simpa using h5
 unfold pdv;simp[h4',h5',l1,asAddr]
theorem zsy.zero (w:Wo):zsy (w.alloc (.cells #[.int .i64 0,.int .i64 0,.int .i64 0,.int .i64 0,.string ⟨#[]⟩,.string ⟨#[]⟩,.string ⟨#[]⟩,.string ⟨#[]⟩] 148)) w.heap.size zh ⟨#[]⟩ ⟨#[]⟩ ⟨#[]⟩:=zsy.new w 148 0 0 0 0 ⟨#[]⟩ ⟨#[]⟩ ⟨#[]⟩ ⟨#[]⟩
theorem zuq (p b:Ba) (hb:b.size≠504) (w:Wo) :
  Cl 86 #[.string p,.string b] w fun e w'=>e = .returned (.tuple #[pdz,.int .i64 3])/\Bw w w':=by
 have g1:((b.size:Int) != 504)=true:=by simp;omega
 obtain⟨A,hA⟩:∃A,w.alloc (.cells #[.int .i64 0,.int .i64 0,.int .i64 0,.int .i64 0,.string ⟨#[]⟩,.string ⟨#[]⟩,.string ⟨#[]⟩,.string ⟨#[]⟩] 148)=A:=⟨_,rfl⟩;have J:Hid (zsy A w.heap.size zh ⟨#[]⟩ ⟨#[]⟩ ⟨#[]⟩/\Bw w A):=by
  rw[<-hA];exact⟨zsy.new _ _ 0 0 0 0 _ _ _ _,(bQ _ _).alloc (nL _) _⟩
 have F:Hid (zsy (ztt A w.heap.size zh ⟨#[]⟩ ⟨#[]⟩ ⟨#[]⟩) w.heap.size zh ⟨#[]⟩ ⟨#[]⟩ ⟨#[]⟩/\Bw w (ztt A w.heap.size zh ⟨#[]⟩ ⟨#[]⟩ ⟨#[]⟩)):=⟨J.out.1.put _ _ _ _,zsP J.out.2 (nL _) _ _ _ _⟩;unfold ztt zh at F;obtain⟨⟨h0,h1,h2,h3,h4,h5,h6,h7⟩,z0,z1,z2,z3,z4,z5,z6,z7⟩:=zsy.cells (k:=0) (n:=0) (u:=0) (d:=0) (id:=⟨#[]⟩) J.out.1;go_enter Tryz.func86, Tryz.ntmps86;go_wp2;refine bodyPost_ret (v := .tuple #[pdz,.int .i64 3]) ?_ rfl ⟨rfl,F.out.2⟩;exact ztv _ _ w.heap.size zh _ _ _ 3 (by kernel_rfl) (by kernel_rfl) F.out.1
theorem zsy.above {g:Nat} {w w':Wo} {b:Nat} {x:Hp} {n t s:Ba} (h:zsy w b x n t s) (hb:Below g w w') (hlt:b < g):zsy w' b x n t s:=by
 obtain⟨f,h0,h1,h2,h3,h4,h5,h6,h7⟩:=h;have e:∀j,w'.cell? ⟨b,j,none⟩=w.cell? ⟨b,j,none⟩:=fun j=>hb.cell hlt
 have e2:∀j,w'.frozen? ⟨b,j,none⟩=w.frozen? ⟨b,j,none⟩:=fun j=>hb.frozen hlt
 exact⟨fun j=>by rw[e2,f],by rw[e,h0],by rw[e,h1],by rw[e,h2],by rw[e,h3],by rw[e,h4],by rw[e,h5],by rw[e,h6],by rw[e,h7]⟩
theorem zsd.above {g:Nat} {w w':Wo} {b:Nat} {x:Hp} (h:zsd w b x) (hb:Below g w w') (hlt:b < g):zsd w' b x:=by
 obtain⟨f,h0,h1,h2,h3,h4⟩:=h;have e:∀j,w'.cell? ⟨b,j,none⟩=w.cell? ⟨b,j,none⟩:=fun j=>hb.cell hlt
 have e2:∀j,w'.frozen? ⟨b,j,none⟩=w.frozen? ⟨b,j,none⟩:=fun j=>hb.frozen hlt
 exact⟨fun j=>by rw[e2,f],by rw[e,h0],by rw[e,h1],by rw[e,h2],by rw[e,h3],by rw[e,h4]⟩
end Go.Proofs.YtjcppbhgjchjaaaGreatDoor
