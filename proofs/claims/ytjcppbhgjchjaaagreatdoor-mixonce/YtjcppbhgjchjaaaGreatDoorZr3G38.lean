/- A part of the walk. -/
import Derived.Test.YtjcppbhgjchjaaaGreatDoorZr3G37
set_option maxHeartbeats 8000000
set_option maxRecDepth 20000
namespace Go.Proofs.YtjcppbhgjchjaaaGreatDoor
open Go.RowKit Go.Proofs.Fd
theorem zbY {P:Program} (w:Wo) {ops:Array Oper} {rest:List Oper} {o:Oper} {a:Act} {Q:Exit->Act->Wo->Prop} (hgd:o.guard=none) (s x:Operand) (t tn:TypeId)
  (ho:o.op = .call { callee := .builtin .delete,args:=#[s,x],argTypes:=#[t,tn] }) (vs vx:Value) (hs:a.eval s=vs) (hx:a.eval x=vx)
  (v':Value) (w':Wo) (hr:(Builtin.delete_ #[t,tn] o.type #[vs,vx]).run P w = .ok v' w') (h:wpList P ops Q rest (a.put o.dst v') w'):wpList P ops Q (o::rest) a w :=
 wpList_plain hgd fun _ hK=>Whl.wp_delete_run w s x t tn ho vs vx hs hx v' w' hr (hK _ _ h)
theorem zjc {l:List Int} {k:Nat} (hk:k < l.length):l.take (k+1)=l.take k++[l[k]]:=List.take_succ_eq_append_getElem hk
theorem zgo:∀{l:List Int} {k:Nat} (_:k < l.length),l.Nodup->l[k] ∉ l.take k
 | [],_,hk,_=>absurd hk (Nat.not_lt_zero _)
 | x::l,0,_,_=>by simp
 | x::l,k+1,hk,h=>by
  rw[List.nodup_cons] at h;have hk':k < l.length:=by simpa using hk
  rw[List.take_succ_cons,List.getElem_cons_succ,List.mem_cons];rintro (c|c)
  ·exact h.1 (by rw[<-c];exact List.getElem_mem hk')
  ·exact zgo hk' h.2 c
theorem zjd (w wr:Wo) (p m:Nat) (key:Ba) (nd:Nd) (lab:Nat->Nat) (F:Nat->Prop) (q:Nat) (v:Value) (b:Nat) (va vh:Value) (pw:Nat) (G:Nat->Prop) (bm:Nat) (D:DataW Unit) (vl:Value)
  (tt:Int) (I:Ni nd) (B:Nb nd) (H:Hid (Nr w wr p m key nd lab F q v b va vh pw G bm D vl)) :
  Cl 23 #[.pointer (some ⟨m,0,none⟩),.int .i64 tt] wr fun e w'=>TkP w wr p m key (nd.tickS tt) lab F q v b va vh pw bm vl (nd.tickE tt) (nd.tickV tt) e w':=by
 have AV:Hid _:=Whl.adv_any pw G nd.t tt (by have:=B.many;omega) wr H.out.wt;have c1:=H.out.c1;have ET:nd.tickS tt={ nd with t:=Go.Proofs.Wh.advS nd.t tt,w:=nd.left (Go.Proofs.Wh.advV nd.t tt) }:=rfl;have EV:nd.tickV tt=nd.vals (Go.Proofs.Wh.advV nd.t tt):=rfl;have EE:nd.tickE tt=Go.Proofs.Wh.advE nd.t tt:=rfl;have START:Hid (∀G' ia im ic w2,Whl.WAt w2 pw G' (Go.Proofs.Wh.advS nd.t tt)->Whl.Nx wr G G'->Whl.Bf G wr w2->Whl.OwnsI w2 (.slice ia im ic) (Go.Proofs.Wh.advV nd.t tt)->(∀g,(Value.slice ia im ic).ownBlock=some g->¬G' g/\wr.heap.size<=g) ->
   ∃lab2,TkI w wr p m key { nd with t:=Go.Proofs.Wh.advS nd.t tt } lab F q v b va vh pw G' bm vl (Go.Proofs.Wh.advV nd.t tt) (.slice ia im ic) 0 (.slice none 0 0) D lab2 w2):=fun G' ia im ic w2 z1 z2 z3 z4 z5=>by
  have N2:=H.out.wheelL (lab':=fun z=>if z < wr.heap.size then lab z else if (Value.slice ia im ic).ownBlock=some z then 7 else 1) z1 z2 z3 (fun z hz=>if_pos hz) (fun z hz hg=>by
   simp only[if_neg (show ¬z < wr.heap.size by omega)];exact if_neg (fun e=>(z5 z e).1 hg))
  refine⟨_,?_,N2.2,z4,fun z e => ?_,World.ownsRow_nil _ _ _ _,fun z e=>(by cases e),H.out.nw⟩
  ·rw[List.take_zero,zlx]
   exact N2.1
  ·have:=(z5 z e).2
   simp only[if_neg (show ¬z < wr.heap.size by omega),if_pos e]
 have KEY:Hid (∀k (hk:k < (Go.Proofs.Wh.advV nd.t tt).length),∃x∈nd.w,(x.1:Int)=(Go.Proofs.Wh.advV nd.t tt)[k]/\nd.vals [(x.1:Int)]=[x.2]/\x.1<=1000000):=fun k hk=>by
  obtain⟨x,hx,e⟩:=I.mem (List.getElem_mem hk);exact⟨x,hx,e,zly I hx,by have:=B.low x hx;have:=B.on;omega⟩
 have ND:Hid ((Go.Proofs.Wh.advV nd.t tt).Nodup/\(Go.Proofs.Wh.advV nd.t tt).length<=4096):=⟨I.nodup tt,by
  have h1:=(zfx nd.t tt).length_le;have h2:=I.len;have h3:=B.w;rw[List.length_map] at h1;omega⟩
 have AP:Hid (nd.w.Pairwise fun x y=>x.1≠y.1):=I.apart;have EVN:Hid (Go.Proofs.Wh.advE nd.t tt≠0->Go.Proofs.Wh.advV nd.t tt=[]):=fun h=>by unfold Go.Proofs.Wh.advV;rw[if_neg h]
 rw[ET,EV,EE];obtain⟨x,hx⟩:∃x,Go.Proofs.Wh.advE nd.t tt=x:=⟨_,rfl⟩;obtain⟨t',ht'⟩:∃x,Go.Proofs.Wh.advS nd.t tt=x:=⟨_,rfl⟩;obtain⟨ids,hids⟩:∃x,Go.Proofs.Wh.advV nd.t tt=x:=⟨_,rfl⟩;rw[hx,hids] at EVN;rw[hids] at ND KEY;rw[ht',hids] at START ⊢;rw[hx,ht',hids] at AV;rw[hx];clear hx ht' hids ET EV EE I B H;by_cases x0:x=0
 ·subst x0
  clear EVN;go_enter Tryz.func23, Tryz.ntmps23;go_wp2_with (go_at_call 49;refine cM AV.out ?_;rintro e w2 ⟨G',ia,im,ic,rfl,z1,z2,z3,z4,z5⟩);obtain⟨lab2,T0⟩:=START.out G' ia im ic w2 z1 z2 z3 z4 z5;have TT:Hid (∃D' labk,TkI w wr p m key { nd with t:=t' } lab F q v b va vh pw G' bm vl ids (.slice ia im ic) 0 (.slice none 0 0) D' labk w2):=⟨D,lab2,T0⟩;have HL:Hid (ids.length=im):=(Whl.owns_int z4).2;have h4:im<=4096:=by have:=ND.out.2;have:=HL.out;omega
  clear z1 z2 z3 z4 z5 T0 START AV c1;obtain⟨wo,rfl⟩:∃V,V=wr:=⟨_,rfl⟩;go_loopw [25,8] (fun i d wq=>∃(k:Nat) (da:Option Addr) (dn dc:Nat),k<=im/\i = .int .i64 (k:Int)/\d = .slice da dn dc/\Hid (∃D' labk,TkI w wo p m key { nd with t:=t' } lab F q v b va vh pw G' bm vl ids (.slice ia im ic) k (.slice da dn dc) D' labk wq)) (fun i _ _=>im - (intOf i).toNat)
  case atStart=>exact⟨0,none,0,0,Nat.zero_le _,rfl,rfl,TT⟩
  case round =>
   obtain⟨k,da,dn,dc,hk,rfl,rfl,J⟩:=hrel;clear TT;by_cases hlt:k < im
   ·have hkl:k < ids.length:=by rw[HL.out];exact hlt
    have g1:(k:Int) < (im:Int):=by omega
    obtain⟨D',labk,T⟩:=J.out;obtain⟨x,hx,e1,e2,e3⟩:=KEY.out k hkl;obtain⟨b1,o1,rfl,k1⟩:=(Whl.owns_int T.oi).1 k hkl;have ST:=T.step AP.out x hx e3 (by rw[zjc hkl,e1]) (by rw[e1];exact zgo hkl ND.out.1) e2 ND.out.2;rw[<-e1] at k1;have c4:=T.nr.c4;obtain⟨n,s,q1,ea,en,ec,w4,q2,q3,w5,q4,FF⟩:=ST;obtain⟨X,hX⟩:∃X:Int,(x.1:Int)=X:=⟨_,rfl⟩;rw[hX] at k1 q1 q4;have LOW:Hid (k < im):=hlt;clear T J KEY e1 e2 e3 hX hx AP ND;go_wp2_with (first|(at_builtin;refine Go.Lib.wpList_append_run _ rfl _ _ _ _ rfl _ _ rfl rfl _ _ q2 ?_)|(at_delete;refine zbY _ rfl _ _ _ _ rfl _ _ rfl rfl _ _ q4 ?_));go_roundw
    case rel=>exact⟨k+1,ea,en,ec,by omega,by go_num,rfl,FF.out⟩
    case measure=>simp[intOf];omega
   ·have g1:¬(k:Int) < (im:Int):=by omega
    have hkn:k=im:=by omega
    subst hkn;have HF:Hid (∃D' labk,Nr w wr p m key { nd with t:=t',w:=nd.left ids } labk F q v b va vh pw G' bm D' vl/\Fr w wo lab labk wr/\zb8 wr (.slice da dn dc) (nd.vals ids)/\∀z,(Value.slice da dn dc).ownBlock=some z->5<=labk z/\wo.heap.size<=z):=by
     obtain⟨D',labk,T⟩:=J.out;have N:=T.nr;have O:=T.ou;rw[List.take_of_length_le (Nat.le_of_eq HL.out)] at N O;exact⟨D',labk,N,T.fr,O,fun z e=>⟨by rw[(T.lu z e).1];decide,(T.lu z e).2⟩⟩
    clear J KEY AP ND;go_wp2;go_ret2;obtain⟨D',labk,N,R,O,L⟩:=HF.out;exact⟨da,dn,dc,rfl,labk,G',D',N,R,O,L⟩
 ·have E0:Hid (ids=[]):=EVN.out x0
  go_enter Tryz.func23, Tryz.ntmps23;go_wp2_with (go_at_call 49;refine cM AV.out ?_;rintro e w2 ⟨G',ia,im,ic,rfl,z1,z2,z3,z4,z5⟩);go_ret2;obtain⟨lab2,T0⟩:=START.out G' ia im ic w2 z1 z2 z3 z4 z5;have N:=T0.nr;rw[E0.out] at N ⊢;exact⟨none,0,0,rfl,lab2,G',D,N,T0.fr,World.ownsRow_nil _ _ _ _,fun z e=>(by cases e)⟩
def nwX (key:Ba) (pool:Int) (s:Go.Proofs.Dk.St):(Int×Go.Proofs.Dk.St)×Option Nd :=
 if key.size≠32 then ((3,s),none)
 else if pool < 1\/4096 < pool then ((1,s),none)
 else match (Sto.opz 4096 s (Go.Proofs.Lg.opn s)) with
  | (r,none)=>(r,none)
  | (r,some (x,y))=>((0,r.2),some ⟨pool.toNat,r.2,x,y,Go.Proofs.Wh.St.init,[],[],⟨0,0,0,0,0,0⟩⟩)
def Dn (w wr:Wo) (p:Nat) (s:Go.Proofs.Dk.St) (lab:Nat->Nat) (w':Wo):Prop:=∃lab' F',Sto.Dl w w' p F' s/\Lbl lab' 0 F' w.heap.size w'.heap.size/\Fr w wr lab lab' w'
def NwP (w wr:Wo) (p:Nat) (key:Ba) (lab:Nat->Nat) (r:(Int×Go.Proofs.Dk.St)×Option Nd) (e:Ending) (w':Wo):Prop :=
 match r.2 with
 | none=>e = .returned (.tuple #[.pointer none,.int .i64 r.1.1])/\Dn w wr p r.1.2 lab w'
 | some nd=>∃m,e = .returned (.tuple #[.pointer (some ⟨m,0,none⟩),.int .i64 0])/\r.1.1=0/\Na w p m key nd wr lab w'
theorem zgp {w wr:Wo} {p:Nat} {key:Ba} {lab:Nat->Nat} {r:(Int×Go.Proofs.Dk.St)×Option Nd} {z:Int} {s:Go.Proofs.Dk.St} {w':Wo} (h:r=((z,s),none)) (k:Dn w wr p s lab w'):NwP w wr p key lab r (.returned (.tuple #[.pointer none,.int .i64 z])) w':=by
 subst h;exact⟨rfl,k⟩
theorem zje {w wr w1 w2 w3:Wo} {p:Nat} {key:Ba} {lab:Nat->Nat} {F:Nat->Prop} {s:Go.Proofs.Dk.St} {x:Go.Proofs.Lg.Lo} {y:Sto.Ey} {q b pw pool:Nat} {G:Nat->Prop} (hF:Lbl lab 0 F w.heap.size wr.heap.size) (k:Sto.PzP w wr F p q b 4096 s x y w1)
  (hG:Whl.WAt w2 pw G Go.Proofs.Wh.St.init) (hG2:∀g,G g->w1.heap.size<=g) (hb:Below w1.heap.size w1 w2) (hb3:Below w2.heap.size w2 w3) (hn:w.heap.size<=wr.heap.size) :
  Na w p (w3.heap.size+1) key ⟨pool,s,x,y,Go.Proofs.Wh.St.init,[],[],⟨0,0,0,0,0,0⟩⟩ wr lab ((w3.alloc (.map #[] 0)).alloc (.cells #[.pointer (some ⟨b,0,none⟩),.pointer (some ⟨pw,0,none⟩),.string key,.int .i64 (pool:Int),.map (some w3.heap.size),.slice none 0 0,.int .i64 0,.int .i64 0,.int .i64 0,.int .i64 0,.int .i64 0,.int .i64 0] 110)):=by
 obtain⟨F',v,va,vh,z,n,f⟩:=k;have e1:((w3.alloc (.map #[] 0)).alloc (.cells #[.pointer (some ⟨b,0,none⟩),.pointer (some ⟨pw,0,none⟩),.string key,.int .i64 (pool:Int),.map (some w3.heap.size),.slice none 0 0,.int .i64 0,.int .i64 0,.int .i64 0,.int .i64 0,.int .i64 0,.int .i64 0] 110)).heap.size=w3.heap.size+2:=by simp
 have b4:Below w3.heap.size w3 (w3.alloc (.map #[] 0)):=(bQ _ _).alloc (nL _) _;have hs4:(w3.alloc (.map #[] 0)).heap.size=w3.heap.size+1:=by simp
 have b5:Below w3.heap.size w3 ((w3.alloc (.map #[] 0)).alloc (.cells #[.pointer (some ⟨b,0,none⟩),.pointer (some ⟨pw,0,none⟩),.string key,.int .i64 (pool:Int),.map (some w3.heap.size),.slice none 0 0,.int .i64 0,.int .i64 0,.int .i64 0,.int .i64 0,.int .i64 0,.int .i64 0] 110)):=b4.alloc (by simp) _;have OM:zdJ ((w3.alloc (.map #[] 0)).alloc (.cells #[.pointer (some ⟨b,0,none⟩),.pointer (some ⟨pw,0,none⟩),.string key,.int .i64 (pool:Int),.map (some w3.heap.size),.slice none 0 0,.int .i64 0,.int .i64 0,.int .i64 0,.int .i64 0,.int .i64 0,.int .i64 0] 110)) w3.heap.size (.map []):=(zlq w3).alloc _;have BK:=Sto.Blk.new (w3.alloc (.map #[] 0)) (mxc b pw w3.heap.size key pool (.slice none 0 0) ⟨0,0,0,0,0,0⟩) 110 (by simp);rw[hs4] at BK;obtain⟨W5,h5⟩:∃V,(w3.alloc (.map #[] 0)).alloc (.cells #[.pointer (some ⟨b,0,none⟩),.pointer (some ⟨pw,0,none⟩),.string key,.int .i64 (pool:Int),.map (some w3.heap.size),.slice none 0 0,.int .i64 0,.int .i64 0,.int .i64 0,.int .i64 0,.int .i64 0,.int .i64 0] 110)=V:=⟨_,rfl⟩;have BK2:Sto.Blk W5 (w3.heap.size+1) (mxc b pw w3.heap.size key pool (.slice none 0 0) ⟨0,0,0,0,0,0⟩):=by rw[<-h5];exact BK
 rw[h5] at e1 b5 OM ⊢;have s1:=f.size;have s2:=hb.size;have s3:=hb3.size;have hb15:Below w1.heap.size w1 W5:=chain hb (chain hb3 b5);have hb25:Below w2.heap.size w2 W5:=chain hb3 b5;have lt0:∀g,Sto.FP F' q v b va vh g->g < w1.heap.size:=fun g hg=>by
  rcases hg with c|c
  ·exact (z.lz.fh c).1
  ·exact z.es.lt c
 have lt1:∀g,G g->g < w2.heap.size:=fun g hg=>hG.lt hg
 refine⟨fun g=>if g < wr.heap.size then lab g else if g < w1.heap.size then 0 else if g < w2.heap.size then 1 else if g=w3.heap.size then 2 else 4,F',q,v,b,va,vh,pw,G,w3.heap.size,.map [],.slice none 0 0,⟨⟨z.lz.later hb15,z.es.later hb15,z.ap⟩,hG.later hb25,OM,Mo.init,World.ownsRow_nil _ _ _ _,BK2,fun g hg => ?_,fun g hg => ?_,fun g hg => ?_,fun g hg=>(by cases hg),fun g hg => ?_⟩,fun g hg=>if_pos hg,(f.wide fun g hg=>⟨by rw[(hF g hg).1];decide,(hF g hg).2.1⟩).later hb15⟩
 ·have h0:=lt0 g hg
  rcases n g hg with c|c
  ·refine⟨?_,(hF g c).2.1,by omega⟩
   simp only[if_pos (hF g c).2.2];exact (hF g c).1
  ·refine⟨?_,by omega,by omega⟩
   simp only[if_neg (show ¬g < wr.heap.size by omega),if_pos h0]
 ·have h0:=lt1 g hg
  have h1:=hG2 g hg;refine⟨?_,by omega,by omega⟩;simp only[if_neg (show ¬g < wr.heap.size by omega),if_neg (show ¬g < w1.heap.size by omega),if_pos h0]
 ·subst hg
  refine⟨?_,by omega,by omega⟩;simp only[if_neg (show ¬w3.heap.size < wr.heap.size by omega),if_neg (show ¬w3.heap.size < w1.heap.size by omega),if_neg (show ¬w3.heap.size < w2.heap.size by omega),if_true]
 ·subst hg
  refine⟨?_,by omega,by omega⟩;simp only[if_neg (show ¬w3.heap.size+1 < wr.heap.size by omega),if_neg (show ¬w3.heap.size+1 < w1.heap.size by omega),if_neg (show ¬w3.heap.size+1 < w2.heap.size by omega),if_neg (show ¬w3.heap.size+1=w3.heap.size by omega)]
theorem zlz {most:Int} {s:Go.Proofs.Dk.St} {o:(Int×Go.Proofs.Dk.St)×Go.Proofs.Lg.Lo} {r:Int×Go.Proofs.Dk.St} (h:Sto.opz most s o=(r,none)):r.1≠0:=by
 unfold Sto.opz at h
 split at h
 ·injection h with h _
  rw[<-h];show (1:Int)≠0
  decide
 ·split at h
  ·rename_i h0
   injection h with h _
   rw[<-h];exact h0
  ·split at h
   ·injection h with h _
    rw[<-h];show (160:Int)≠0
    decide
   ·injection h with _ h
    cases h
theorem zlA (w wr:Wo) (p:Nat) (key:Ba) (pool:Int) (lab:Nat->Nat) (F:Nat->Prop) (s:Go.Proofs.Dk.St) (hn:s.n<=1024) (hl:s.l.length+5000<=1000000) (hk:Hid (Kh w)) (DD:Hid (Sto.Dl w wr p F s)) (LF:Hid (Lbl lab 0 F w.heap.size wr.heap.size)) :
  Cl 18 #[.string key,.pointer (some ⟨p,0,none⟩),.int .i64 pool] wr fun e w'=>NwP w wr p key lab (nwX key pool s) e w':=by
 have D0:Hid (Dn w wr p s lab wr):=⟨lab,F,DD.out,LF.out,Fr.refl _ _ _⟩;have hw:w.heap.size<=wr.heap.size:=DD.out.below.size;obtain⟨X,hX⟩:∃X,nwX key pool s=X:=⟨_,rfl⟩;rw[hX];unfold nwX at hX;by_cases h1:key.size=32
 ·rw[if_neg (by omega)] at hX
  have g1:((key.size:Nat):Int)=32:=by omega
  by_cases h2:pool < 1
  ·rw[if_pos (.inl h2)] at hX
   have FF:Hid (NwP w wr p key lab X (.returned (.tuple #[.pointer none,.int .i64 1])) wr):=zgp hX.symm D0.out;clear hX D0 DD LF hk;go_enter Tryz.func18, Tryz.ntmps18;go_wp2;go_ret2;exact FF.out
  ·by_cases h3:4096 < pool
   ·rw[if_pos (.inr h3)] at hX
    have FF:Hid (NwP w wr p key lab X (.returned (.tuple #[.pointer none,.int .i64 1])) wr):=zgp hX.symm D0.out;clear hX D0 DD LF hk;go_enter Tryz.func18, Tryz.ntmps18;go_wp2;go_ret2;exact FF.out
   ·rw[if_neg (by omega)] at hX
    have OP:Hid _:=Sto.pzopen_any Sto.take_c w wr p F s 4096 hn hl hk DD;obtain⟨N,hN⟩:∃N:Nat,pool=(N:Int):=⟨pool.toNat,by omega⟩;subst hN;obtain⟨⟨⟨re,rs⟩,ro⟩,hr⟩:∃r,Sto.opz 4096 s (Go.Proofs.Lg.opn s)=r:=⟨_,rfl⟩;rw[hr] at OP hX;cases ro with
    | none =>
     have OP1:Hid (Cl 44 #[.pointer (some ⟨p,0,none⟩),.int .i64 4096] wr fun e w'=>e = .returned (.tuple #[.pointer none,.int .i64 re])/\Sto.Ds w wr p F rs w'):=OP.out;have hre:Hid (re≠0):=zlz hr;have FF:Hid (∀w',Sto.Ds w wr p F rs w'->NwP w wr p key lab X (.returned (.tuple #[.pointer none,.int .i64 re])) w'):=fun w' ⟨F',d1,d2,d3⟩=>zgp hX.symm ⟨relab lab wr.heap.size 0,F',d1,LF.out.next (fun z=>zaq) (fun z hz _=>zar hz) d2 (fun z hz=>d1.at_.lt hz) hw,fun z=>zaq,d3.wide fun z hz=>⟨by rw[(LF.out z hz).1];decide,(LF.out z hz).2.1⟩⟩
     have hr0:=hre.out;clear hX D0 DD LF hk OP hr hre;go_enter Tryz.func18, Tryz.ntmps18;go_wp2_with (go_at_call 44;refine cM OP1.out ?_;rintro e w2 ⟨rfl,d2⟩);go_ret2;exact FF.out _ d2
    | some xy =>
     obtain⟨x,y⟩:=xy;have OP1:Hid (Cl 44 #[.pointer (some ⟨p,0,none⟩),.int .i64 4096] wr fun e w'=>∃q b,e = .returned (.tuple #[.pointer (some ⟨b,0,none⟩),.int .i64 0])/\re=0/\Sto.PzP w wr F p q b 4096 rs x y w'):=OP.out;have CL:Hid (∀W,Cl 46 #[.string key] W fun e w'=>e = .returned (.string key)/\Bw W w'):=fun W=>zbU key (by omega) W
     have NW:Hid (∀W,Cl 45 #[] W fun e w'=>∃p F,e = .returned (.pointer (some ⟨p,0,none⟩))/\Whl.WAt w' p F Go.Proofs.Wh.St.init/\(∀g,F g->W.heap.size<=g)/\Bw W w'):=fun W=>Whl.new_any W
     have FF:Hid (∀q b pw G w1 w2 w3,Sto.PzP w wr F p q b 4096 rs x y w1->Whl.WAt w2 pw G Go.Proofs.Wh.St.init->(∀g,G g->w1.heap.size<=g)->Bw w1 w2->Bw w2 w3 ->
       NwP w wr p key lab X (.returned (.tuple #[.pointer (some ⟨w3.heap.size+1,0,none⟩),.int .i64 0])) ((w3.alloc (.map #[] 0)).alloc (.cells #[.pointer (some ⟨b,0,none⟩),.pointer (some ⟨pw,0,none⟩),.string key,.int .i64 (N:Int),.map (some w3.heap.size),.slice none 0 0,.int .i64 0,.int .i64 0,.int .i64 0,.int .i64 0,.int .i64 0,.int .i64 0] 110))):=fun q b pw G w1 w2 w3 k1 k2 k3 k4 k5=>by
      rw[<-hX];exact⟨w3.heap.size+1,rfl,rfl,zje (pool:=N) LF.out k1 k2 k3 k4 k5 hw⟩
     have hmm:=@run_makeMap Tryz.prog;clear hX D0 DD LF hk OP hr;go_enter Tryz.func18, Tryz.ntmps18;go_wp2_with (first|(go_at_call 44;refine cM OP1.out ?_;rintro e w1 ⟨q,b,rfl,-,k1⟩)|(go_at_call 45;refine cM (NW.out _) ?_;rintro e w2 ⟨pw,G,rfl,k2,k3,k4⟩)|(go_at_call 46;refine cM (CL.out _) ?_;rintro e w3 ⟨rfl,k5⟩));go_ret2;have:=FF.out q b pw G w1 w2 w3 k1 k2 k3 k4 k5
     simpa using this
 ·rw[if_pos h1] at hX
  have g1:¬((key.size:Nat):Int)=32:=by omega
  have FF:Hid (NwP w wr p key lab X (.returned (.tuple #[.pointer none,.int .i64 3])) wr):=zgp hX.symm D0.out;clear hX D0 DD LF hk;go_enter Tryz.func18, Tryz.ntmps18;go_wp2;go_ret2;exact FF.out
end Go.Proofs.YtjcppbhgjchjaaaGreatDoor
namespace Go.Proofs.YtjcppbhgjchjaaaGreatDoor
open Go.RowKit Go.Proofs.Fd Go.Proofs.Dk Go.Proofs.Lg
theorem zlB {most:Nat} {s:St} {x:Lo} {y:Sto.Ey} {t:Bs} (ht:t.length=16) (hy:t∈y.2.1++y.2.2):Sto.adp most s x y t=(((170,s),x),y):=by
 unfold Sto.adp;rw[if_neg (fun c=>c ht),if_pos hy]
end Go.Proofs.YtjcppbhgjchjaaaGreatDoor
namespace Go.Proofs.YtjcppbhgjchjaaaGreatDoor
open Go.RowKit Go.Proofs.Fd Go.Proofs.Hs Go.Proofs.Cc Go.Proofs.Hd Go.Proofs.Rt Go.Proofs.Wd
theorem zlC {a b:Ba} (h:kv a=kv b):bdy a=bdy b/\rtg a=rtg b:=by
 unfold kv at h;simp only[Value.agg.injEq] at h;have h':=congrArg Array.toList h;simp only[List.cons.injEq,Value.string.injEq] at h';exact⟨h'.2.2.1,h'.2.2.2.2.1⟩
theorem zrK (s:Ba):kz≠kv s:=by
 intro h;unfold kz kv at h;simp only[Value.agg.injEq] at h;have h':=congrArg Array.toList h;simp only[List.cons.injEq,Value.string.injEq] at h';have:=congrArg ByteArray.size h'.1;rw[zkL] at this;exact absurd this (by decide)
theorem zpQ {p h:Ba} {x:Hp} {n s:Ba} (e:plV p h=#[hv x,.string n,kv s,.int .i64 0]):∃s',hpl p h = .ok (x,n,s')/\bdy s'=bdy s/\rtg s'=rtg s:=by
 rw[zne] at e;obtain⟨s',h1,h2⟩:=zpc e (fun c hc=>by
  rw[hc] at e;simp only[h8V] at e;have h':=congrArg Array.toList e;simp only[List.cons.injEq] at h';exact zrK s h'.2.2.1)
 exact⟨s',h1,zlC h2⟩
end Go.Proofs.YtjcppbhgjchjaaaGreatDoor
namespace Go.Proofs.YtjcppbhgjchjaaaGreatDoor
open Go.RowKit Go.Proofs.Fd
end Go.Proofs.YtjcppbhgjchjaaaGreatDoor
namespace Go.Proofs.YtjcppbhgjchjaaaGreatDoor
open Go.RowKit Go.Proofs.Fd Go.Proofs.Hs Go.Proofs.Cc Go.Proofs.Hd Go.Proofs.Rt
end Go.Proofs.YtjcppbhgjchjaaaGreatDoor
namespace Go.Proofs.YtjcppbhgjchjaaaGreatDoor
open Go.RowKit Go.Proofs.Fd Go.Proofs.Hs Go.Proofs.Cc Go.Proofs.Hd Go.Proofs.Rt Go.Proofs.Wd
def pmE (seed:Ba) (pts:List Ba) (t:Ba) (hs:List Hp):Int:=if mkE seed pts hs=0 then (if t.size<=222 then 0 else 2) else mkE seed pts hs
def pmB (seed:Ba) (pts:List Ba) (t:Ba) (hs:List Hp):Ba:=if pmE seed pts t hs=0 then ⟨((mkH seed pts hs).data.toList++pld (mkS seed pts hs) t.data.toList).toArray⟩ else ⟨#[]⟩
theorem zxs (seed:Ba) (pts:List Ba) (t:Ba) (hs:List Hp) (h:¬mkE seed pts hs=0):pmE seed pts t hs=mkE seed pts hs/\pmB seed pts t hs=⟨#[]⟩:=by
 have e:pmE seed pts t hs=mkE seed pts hs:=if_neg h;exact⟨e,if_neg (by rw[e];exact h)⟩
theorem zwG (seed:Ba) (pts:List Ba) (t:Ba) (hs:List Hp) (h:mkE seed pts hs=0) (ht:222 < t.size):pmE seed pts t hs=2/\pmB seed pts t hs=⟨#[]⟩:=by
 have e:pmE seed pts t hs=2:=by unfold pmE;rw[if_pos h,if_neg (by omega)]
 exact⟨e,if_neg (by rw[e];decide)⟩
theorem zrL (seed:Ba) (pts:List Ba) (t:Ba) (hs:List Hp) (h:mkE seed pts hs=0) (ht:t.size<=222):pmE seed pts t hs=0/\pmB seed pts t hs=⟨((mkH seed pts hs).data.toList++pld (mkS seed pts hs) t.data.toList).toArray⟩:=by
 have e:pmE seed pts t hs=0:=by unfold pmE;rw[if_pos h,if_pos ht]
 exact⟨e,if_pos e⟩
def zjf:Prop:=∀(seed:Ba) (a:Option Addr) (pts:List Ba) (n cap:Nat) (t:Ba) (b:Option Addr) (hs:List Hp) (m cap2:Nat) (w:Wo),Hid (pts.length=n/\hs.length=m)->Hid (n*16<=140737488351232/\m*48<=140737488351232) ->
  Hid (seed.size+64<=140737488355328)->Hid (∀p∈pts,p.size<=140737488355328)->Hid (∀h∈hs,h.id.size<=140737488355328)->Hid (t.size<=140737488355328)->Hid (Kh w)->Hid (StrAt w a pts)->Hid (zfS w b hs) ->
  Cl 30 #[.string seed,.slice a n cap,.string t,.slice b m cap2] w fun e w'=>e = .returned (.tuple #[.string (pmB seed pts t hs),.int .i64 (pmE seed pts t hs)])/\Bw w w'
def zc0:Prop:=∀(p b:Ba) (w:Wo),Hid (p.size<=140737488355328)->Hid (b.size<=140737488355328)->Hid (Kh w) ->
  Cl 86 #[.string p,.string b] w fun e w'=>e = .returned (.tuple (ppV p b))/\Bw w w'
def zap:Ba:=⟨#[104,111,112,115]⟩
theorem zpR:Hid (zap.size+64<=140737488355328):=by show (4:Nat)+64<=_;decide
theorem zaZ (i:Nat) (hi:i < 200) (w:Wo) (hK:Hid (Kh w)) :
  Cl 13 #[.int .i64 (i:Int)] w fun e w'=>e = .returned (.string (pv zap i))/\Bw w w':=by
 obtain⟨Lbl,hLb⟩:∃L:Ba,⟨(pvL i).toArray⟩=L:=⟨_,rfl⟩;have DV:Hid (∀w,Kh w->Cl 29 #[.string zap,.string Lbl,.int .i64 32] w fun e w'=>e = .returned (.tuple #[.string (pv zap i),.int .i64 0])/\Bw w w'):=fun w h=>by
  have:=zfQ zap Lbl 32 w zpR (by rw[<-hLb];show (8:Nat)+97<=_;decide) h;unfold drV at this;rw[if_neg (by decide)] at this;rw[<-hLb] at this ⊢;exact this
 generalize pv zap i=X at *;obtain⟨b,hb⟩:∃b,UInt8.ofNat (48+i)=b:=⟨_,rfl⟩;have bn:(b.toNat:Int)=48+(i:Int):=by rw[<-hb,UInt8.toNat_ofNat'];omega
 have t1:IntKind.i64.wrap (48+(i:Int))=48+(i:Int):=by rw[IntKind.wrap_i64];omega
 have t2:IntKind.u8.wrap (48+(i:Int))=48+(i:Int):=by rw[IntKind.wrap_u8];omega
 have t3:(48+(i:Int)) % 256=48+(i:Int):=by omega
 obtain⟨W,hW⟩:∃W,w.alloc (.cells #[.int .u8 (48+(i:Int))] 5)=W:=⟨_,rfl⟩;have CB:(convert 99 9 (.slice (some ⟨w.heap.size,0,none⟩) 1 1)).run Tryz.prog W = .ok (.string ⟨[b].toArray⟩) W:=by
  have h:BytesAt W w.heap.size [b]:=fun j hj=>by
   obtain rfl:j=0:=by simp at hj;omega
   rw[<-hW];exact⟨by rw[World.cell?_alloc_new];simp[bn],by simp[go_sem]⟩
  exact h.string rfl
 have AD:∀w,(Op.stringOp .add ⟨#[112,114,105,118,97,116,101]⟩ ⟨[b].toArray⟩).run Tryz.prog w = .ok (.string Lbl) w:=fun w=>by
  have e:(⟨#[112,114,105,118,97,116,101]⟩:Ba)++⟨[b].toArray⟩=Lbl:=by
   rw[<-hLb,<-hb];apply ByteArray.ext;simp[pvL]
  rw[<-e];exact run_string_add_sum _ _ _ (by show (7:Nat)+1<=_;decide)
 have BW:Hid (Bw w W/\Kh W):=by
  rw[<-hW];exact⟨(bQ _ _).alloc (nL _) _,hK.out.alloc _⟩
 unfold zap at DV;clear hb bn hLb;go_enter Tryz.func13, Tryz.ntmps13;go_wp2_with fail;refine cM (DV.out _ BW.out.2) ?_;rintro e w1 ⟨rfl,hb1⟩;have B1:Hid (Bw w w1):=chain BW.out.1 hb1;clear hb1 DV;go_wp2;go_ret;exact⟨rfl,B1.out⟩
theorem zb1 (i:Nat) (hi:i < 200) (w:Wo) (hK:Hid (Kh w)) :
  Cl 9 #[.int .i64 (i:Int)] w fun e w'=>e = .returned (.string (pp zap i))/\Bw w w':=by
 have P1:Hid (∀w,Kh w->Cl 13 #[.int .i64 (i:Int)] w fun e w'=>e = .returned (.string (pv zap i))/\Bw w w'):=fun w h=>zaZ i hi w h
 have P2:Hid (∀w,Cl 31 #[.string (pv zap i)] w fun e w'=>e = .returned (.tuple #[.string (pp zap i),.int .i64 0])/\Bw w w'):=fun w=>Crv.Public_ok (pv zap i) (zbe zap i) w
 generalize pp zap i=X at *;generalize pv zap i=Y at *;go_enter Tryz.func9, Tryz.ntmps9;go_wp2_with fail;refine cM (P1.out _ hK.out) ?_;rintro e w1 ⟨rfl,hb1⟩;have B1:Hid (Bw w w1):=hb1;clear hb1 P1;go_wp2_with fail;refine cM (P2.out _) ?_;rintro e w2 ⟨rfl,hb2⟩;have B2:Hid (Bw w w2):=chain B1.out hb2;clear hb2 P2;go_wp2;go_ret;exact⟨rfl,B2.out⟩
def zsy (w:Wo) (b:Nat) (x:Hp) (n t s:Ba):Prop :=
 (∀o,w.frozen? ⟨b,o,none⟩=false)/\w.cell? ⟨b,0,none⟩=some (.int .i64 x.k)/\w.cell? ⟨b,1,none⟩=some (.int .i64 x.n)/\w.cell? ⟨b,2,none⟩=some (.int .i64 x.u)/\w.cell? ⟨b,3,none⟩=some (.int .i64 x.d)/\w.cell? ⟨b,4,none⟩=some (.string x.id)
  /\ w.cell? ⟨b,5,none⟩=some (.string n)/\w.cell? ⟨b,6,none⟩=some (.string t)/\w.cell? ⟨b,7,none⟩=some (.string s)
theorem zsy.new (w:Wo) (ty:TypeId) (k n u d:Int) (id nx t s:Ba):zsy (w.alloc (.cells #[.int .i64 k,.int .i64 n,.int .i64 u,.int .i64 d,.string id,.string nx,.string t,.string s] ty)) w.heap.size ⟨k,n,u,d,id⟩ nx t s :=
 ⟨fun o=>by simp[go_sem],by simp[go_sem],by simp[go_sem],by simp[go_sem],by simp[go_sem],by simp[go_sem],by simp[go_sem],by simp[go_sem],by simp[go_sem]⟩
theorem zsy.later {w w':Wo} {b:Nat} {x:Hp} {n t s:Ba} (h:zsy w b x n t s) (hb:Bw w w'):zsy w' b x n t s:=by
 obtain⟨f,h0,h1,h2,h3,h4,h5,h6,h7⟩:=h;exact⟨fun o=>(zae hb (World.block_lt_of_cell? _ _ h0)).trans (f o),cell_later hb h0,cell_later hb h1,cell_later hb h2,cell_later hb h3,cell_later hb h4,cell_later hb h5,cell_later hb h6,cell_later hb h7⟩
theorem zsy.lt {w:Wo} {b:Nat} {x:Hp} {n t s:Ba} (h:zsy w b x n t s):b < w.heap.size:=World.block_lt_of_cell? _ _ h.2.1
def ztt (w:Wo) (b:Nat) (x:Hp) (n t s:Ba):Wo:=(((((((w.setCell ⟨b,0,none⟩ (.int .i64 x.k)).setCell ⟨b,1,none⟩ (.int .i64 x.n)).setCell ⟨b,2,none⟩ (.int .i64 x.u)).setCell ⟨b,3,none⟩ (.int .i64 x.d)).setCell ⟨b,4,none⟩ (.string x.id)).setCell ⟨b,5,none⟩ (.string n)).setCell ⟨b,6,none⟩ (.string t)).setCell ⟨b,7,none⟩ (.string s)
theorem zsy.put {w:Wo} {b:Nat} {x:Hp} {n t s:Ba} (h:zsy w b x n t s) (y:Hp) (n' t' s':Ba):zsy (ztt w b y n' t' s') b y n' t' s':=by
 obtain⟨f,h0,h1,h2,h3,h4,h5,h6,h7⟩:=h;unfold ztt;refine⟨fun o=>by simp[go_sem,f],?_,?_,?_,?_,?_,?_,?_,?_⟩ <;> simp[go_sem,h0,h1,h2,h3,h4,h5,h6,h7]
theorem zsP {B:Nat} {a w:Wo} (h:Below B a w) {b:Nat} (hb:B<=b) (x:Hp) (n t s:Ba):Below B a (ztt w b x n t s):=by
 unfold ztt;exact (((((((h.setCell (p:=⟨b,0,none⟩) hb _).setCell (p:=⟨b,1,none⟩) hb _).setCell (p:=⟨b,2,none⟩) hb _).setCell (p:=⟨b,3,none⟩) hb _).setCell (p:=⟨b,4,none⟩) hb _).setCell (p:=⟨b,5,none⟩) hb _).setCell (p:=⟨b,6,none⟩) hb _).setCell (p:=⟨b,7,none⟩) hb _
theorem zsy.range {w:Wo} {b:Nat} {x:Hp} {n t s:Ba} (h:zsy w b x n t s):w.rangeAt b 0 [.int .i64 x.k,.int .i64 x.n,.int .i64 x.u,.int .i64 x.d,.string x.id,.string n,.string t,.string s]:=by
 obtain⟨-,h0,h1,h2,h3,h4,h5,h6,h7⟩:=h;intro j v hv;rcases (by have:=(List.getElem?_eq_some_iff.1 hv).1;simp at this;omega:j=0\/j=1\/j=2\/j=3\/j=4\/j=5\/j=6\/j=7) with rfl|rfl|rfl|rfl|rfl|rfl|rfl|rfl
 ·simp at hv;subst hv;simpa using h0
 ·simp at hv;subst hv;simpa using h1
 ·simp at hv;subst hv;simpa using h2
 ·simp at hv;subst hv;simpa using h3
 ·simp at hv;subst hv;simpa using h4
 ·simp at hv;subst hv;simpa using h5
 ·simp at hv;subst hv;simpa using h6
 ·simp at hv;subst hv;simpa using h7
theorem zsy.cells {w:Wo} {b:Nat} {k n u d:Int} {id nx t s:Ba} (h:zsy w b ⟨k,n,u,d,id⟩ nx t s) :
  (w.cell? ⟨b,0,none⟩=some (.int .i64 k)/\w.cell? ⟨b,1,none⟩=some (.int .i64 n)/\w.cell? ⟨b,2,none⟩=some (.int .i64 u)/\w.cell? ⟨b,3,none⟩=some (.int .i64 d)/\w.cell? ⟨b,4,none⟩=some (.string id)
  /\ w.cell? ⟨b,5,none⟩=some (.string nx)/\w.cell? ⟨b,6,none⟩=some (.string t)/\w.cell? ⟨b,7,none⟩=some (.string s))
  /\ w.frozen? ⟨b,0,none⟩=false/\w.frozen? ⟨b,1,none⟩=false/\w.frozen? ⟨b,2,none⟩=false/\w.frozen? ⟨b,3,none⟩=false/\w.frozen? ⟨b,4,none⟩=false/\w.frozen? ⟨b,5,none⟩=false/\w.frozen? ⟨b,6,none⟩=false/\w.frozen? ⟨b,7,none⟩=false :=
 ⟨h.2,h.1 0,h.1 1,h.1 2,h.1 3,h.1 4,h.1 5,h.1 6,h.1 7⟩
theorem zt4 (w:Wo):Cl 60 #[] w fun e w'=>e = .returned (.int .i64 222)/\w'=w:=by
 go_enter Tryz.func60, Tryz.ntmps60;go_wp2;go_ret;exact⟨rfl,rfl⟩
def opw1:Oper:={ dst:=some 26,op := .fieldAddr 148 (.tmp 3) 1,type:=0,pos := "theorems.go:28", after:=#[],guard:=none }
def opw2:Oper:={ dst:=some 27,op := .load 9 (.tmp 26),type := 9, pos := "theorems.go:28", after:=#[eD 1],guard:=none }
def opw3:Oper:={ dst:=some 28,op := .call { callee:=Go.Callee.value (.func 86),args:=#[Go.Operand.tmp 25,Go.Operand.tmp 27],argTypes:=#[9, 9] },type := 149, pos := "theorems.go:28", after:=#[eD 0,eD 2,eC 0],guard:=none }
def opw4:Oper:={ dst:=some 24,op := .move (.tmp 28),type := 149, pos := "theorems.go:28", after:=#[eD 3],guard:=none }
def opw5:Oper:={ dst:=some 29,op := .extract (.tmp 24) 0,type := 148, pos := "theorems.go:28", after:=#[eD 4],guard:=none }
def opw6:Oper:={ dst:=some 30,op := .extract (.tmp 24) 1,type := 32, pos := "theorems.go:28", after:=#[eD 4,{ on:=8,ground:=Go.Ground.gcOnly Go.Departure.lateStores }],guard:=none }
def opw7:Oper:={ dst:=some 5,op := .alloc 148, type:=0,pos := "theorems.go:28", after:=#[],guard:=none }
def opw8:Oper:={ dst:=none,op := .store 148 (.tmp 5) (.tmp 29),type:=0,pos := "theorems.go:28", after:=#[eD 7,eD 5,eC 3,eP 0,eP 1,eP 2,eP 3,eP 4,eP 5,{ on:=6,ground:=Go.Ground.textOnly Go.Departure.lateStores },eP 7],guard:=none }
def opw9:Oper:={ dst:=some 6,op := .assign (.tmp 30),type := 32, pos := "theorems.go:28", after:=#[eD 6,eC 8,eP 0,eP 1,eP 2,eP 3,eP 4,eP 5,eP 6,eP 7,eP 8],guard:=none }
def zeF:Ba:=⟨#[115,101,101,100]⟩
def zfy:Ba:=⟨#[116,101,120,116]⟩
def zhc (n:Nat):Ba:=⟨[UInt8.ofNat n,0].toArray⟩
def za4 (n:Nat):Ba:=⟨(drv zeF.data.toList (zhc n).data.toList 32).toArray⟩
def zaM (d:Nat):List Hp:=[⟨1,7,0,(d:Int),⟨#[]⟩⟩,⟨4,0,0,0,⟨#[]⟩⟩]
def zeG (n d:Nat):Ba:=pmB (za4 n) [pp zap 0,pp zap 1] zfy (zaM d)
theorem zc1 (CM:Hid zjf) (n d:Nat) (hn:n < 256) (w:Wo) (hK:Hid (Kh w)) :
  Cl 25 #[.int .i64 (n:Int),.int .i64 (d:Int)] w fun e w'=>e = .returned (.string (zeG n d))/\Bw w w':=by
 obtain⟨Lbl,hLb⟩:∃L:Ba,zhc n=L:=⟨_,rfl⟩;have DV:Hid (∀w,Kh w->Cl 29 #[.string zeF,.string Lbl,.int .i64 32] w fun e w'=>e = .returned (.tuple #[.string (za4 n),.int .i64 0])/\Bw w w'):=fun w h=>by
  have:=zfQ zeF Lbl 32 w (by show (4:Nat)+64<=_;decide) (by rw[<-hLb];show (2:Nat)+97<=_;decide) h;unfold drV at this;rw[if_neg (by decide)] at this;rw[<-hLb] at this ⊢;exact this
 unfold zeF at DV;obtain⟨SD,hSD⟩:∃S,za4 n=S:=⟨_,rfl⟩;have zS:SD.size=32:=by
  rw[<-hSD];show (drv zeF.data.toList (zhc n).data.toList 32).toArray.size=32
  unfold drv;simp[zbs]
 obtain⟨QA,hQA⟩:∃S,pp zap 0=S:=⟨_,rfl⟩;obtain⟨QB,hQB⟩:∃S,pp zap 1=S:=⟨_,rfl⟩;have zQ:QA.size=32:=by rw[<-hQA];exact zik _ _
 have zQ2:QB.size=32:=by rw[<-hQB];exact zik _ _
 have V4:Hid (∀w,Kh w->Cl 9 #[.int .i64 0] w fun e w'=>e = .returned (.string QA)/\Bw w w'):=fun w h=>by
  rw[<-hQA];exact zb1 0 (by decide) w h
 have V5:Hid (∀w,Kh w->Cl 9 #[.int .i64 1] w fun e w'=>e = .returned (.string QB)/\Bw w w'):=fun w h=>by
  rw[<-hQB];exact zb1 1 (by decide) w h
 obtain⟨PK,hPK⟩:∃P,zeG n d=P:=⟨_,rfl⟩;have M1:Hid (∀(A B:Nat) (w:Wo),Kh w->w.cell? ⟨A,0,none⟩=some (.string QA)->w.cell? ⟨A,1,none⟩=some (.string QB)->zfS w (some ⟨B,0,none⟩) (zaM d)->Cl 30 #[.string SD,.slice (some ⟨A,0,none⟩) 2 2,.string ⟨#[116,101,120,116]⟩,.slice (some ⟨B,0,none⟩) 2 2] w fun e w'=>(∃z:Int,e = .returned (.tuple #[.string PK,.int .i64 z]))/\Bw w w'):=fun A B w h h0 h1 h2=>by
  have:=CM.out SD (some ⟨A,0,none⟩) [QA,QB] 2 2 ⟨#[116,101,120,116]⟩ (some ⟨B,0,none⟩) (zaM d) 2 2 w ⟨rfl,rfl⟩ (by show (2:Nat)*16<=_/\(2:Nat)*48<=_;decide) (by show SD.size+64<=_;omega) (fun p hp=>by
   simp at hp;rcases hp with rfl|rfl
   ·omega
   ·omega) (fun x hx=>by
   simp[zaM] at hx;rcases hx with rfl|rfl
   ·show (0:Nat)<=_;decide
   ·show (0:Nat)<=_;decide) (by show (4:Nat)<=_;decide) h (strAt2 h0 h1) h2
  have e:pmB SD [QA,QB] ⟨#[116,101,120,116]⟩ (zaM d)=PK:=by rw[<-hPK,<-hSD,<-hQA,<-hQB];rfl
  rw[e] at this;exact this.mono fun _ _ ⟨e1,e2⟩=>⟨⟨_,e1⟩,e2⟩
 obtain⟨W,hW⟩:∃W,w.alloc (.cells #[.int .u8 (n:Int),.int .u8 ((n:Int) / 256)] 5)=W:=⟨_,rfl⟩;have CB:(convert 99 9 (.slice (some ⟨w.heap.size,0,none⟩) 2 2)).run Tryz.prog W = .ok (.string Lbl) W:=by
  have h:BytesAt W w.heap.size [UInt8.ofNat n,0]:=fun j hj=>by
   have hj2:j=0\/j=1:=by simp at hj;omega
   rw[<-hW];rcases hj2 with rfl|rfl
   ·refine⟨?_,by simp[go_sem]⟩
    rw[World.cell?_alloc_new];simp[UInt8.toNat_ofNat',Nat.mod_eq_of_lt hn]
   ·refine⟨?_,by simp[go_sem]⟩
    rw[World.cell?_alloc_new];have:(n:Int) / 256=0:=by omega
    simp[this]
  rw[<-hLb];exact h.string rfl
 have BW:Hid (Bw w W/\Kh W):=by
  rw[<-hW];exact⟨(bQ _ _).alloc (nL _) _,hK.out.alloc _⟩
 rw[hSD] at DV;rw[hPK];clear hLb hSD hQA hQB hPK CM zS zQ zQ2;have hn':n < 256:=hn;go_enter Tryz.func25, Tryz.ntmps25;go_wp2_with fail;refine cM (DV.out _ BW.out.2) ?_;rintro e w1 ⟨rfl,hb⟩;have B1:Hid (Bw w w1):=chain BW.out.1 hb;clear hb DV CB hW BW;go_wp2_with fail;refine cM (V4.out _ (hK.out.later B1.out)) ?_;rintro e w2 ⟨rfl,hb⟩;have B2:Hid (Bw w w2):=chain B1.out hb;clear hb V4 B1;go_wp2_with fail;refine cM (V5.out _ (hK.out.later B2.out)) ?_;rintro e w3 ⟨rfl,hb⟩;have B3:Hid (Bw w w3):=chain B2.out hb;clear hb V5 B2;go_wp2_with fail;have BA:Hid (Bw w ((w3.alloc (.cells #[.string QA,.string QB] 9)).alloc (.cells #[.int .i64 1,.int .i64 7,.int .i64 0,.int .i64 (d:Int),.string ⟨#[]⟩,.int .i64 4,.int .i64 0,.int .i64 0,.int .i64 0,.string ⟨#[]⟩] 82))):=(B3.out.alloc B3.out.size _).alloc (by have:=B3.out.size;simp;omega) _;have HW:∀(w:Wo) (t:TypeId) (g:Nat),g=w.heap.size->zfS (w.alloc (.cells #[.int .i64 1,.int .i64 7,.int .i64 0,.int .i64 (d:Int),.string ⟨#[]⟩,.int .i64 4,.int .i64 0,.int .i64 0,.int .i64 0,.string ⟨#[]⟩] t)) (some ⟨g,0,none⟩) (zaM d):=fun w t g hg=>by
  subst hg;exact zkm w t ⟨1,7,0,(d:Int),⟨#[]⟩⟩ ⟨4,0,0,0,⟨#[]⟩⟩
 refine cM (M1.out _ _ _ (hK.out.later BA.out) (by simp[go_sem]) (by simp[go_sem]) (HW _ _ _ (by simp[go_sem]))) ?_;rintro e w4 ⟨⟨z,rfl⟩,hb⟩;have FF:Hid (Bw w w4):=chain BA.out hb;clear hb M1 BA B3;go_wp2;go_ret;exact⟨rfl,FF.out⟩
theorem zjg (n:Nat):(za4 n).size=32:=by
 show (drv zeF.data.toList (zhc n).data.toList 32).toArray.size=32;unfold drv;simp[zbs]
theorem zlD (d:Nat) (hd:d<=4096):pth (zaM d)=0:=by
 have h1:(zaM d).all Rt.ok=true:=by
  have e:(d:Int)<=4096:=by omega
  simp[zaM,Rt.ok,e]
  first
  | done
  | rfl
  | decide
 have h2:shp (zaM d)=true:=rfl;unfold pth;rw[if_pos h1,if_neg (by show ¬((2:Nat)=0\/5 < 2);omega),if_pos h2]
def ppD (p b:Ba):(Hp×Ba×Ba×Ba)×Int :=
 if b.size=504 then (match hpl p (b.extract 0 248) with
  | .error e=>((zh,⟨#[]⟩,⟨#[]⟩,⟨#[]⟩),e)
  | .ok (x,n,s)=>if x.k=1 then ((x,⟨(n.data.toList++zb4 (bdy s).data.toList (b.data.toList.drop 248)).toArray⟩,rtg s,⟨#[]⟩),0)
   else (match zgK (zb4 (bdy s).data.toList (b.data.toList.drop 248)) with
    | none=>((zh,⟨#[]⟩,⟨#[]⟩,⟨#[]⟩),90)
    | some t=>((x,⟨#[]⟩,rtg s,⟨t.toArray⟩),0)))
 else ((zh,⟨#[]⟩,⟨#[]⟩,⟨#[]⟩),3)
theorem zjh (p b:Ba):ppV p b=#[pdv (ppD p b).1.1 (ppD p b).1.2.1 (ppD p b).1.2.2.1 (ppD p b).1.2.2.2,.int .i64 (ppD p b).2]:=by
 unfold ppV ppD;by_cases hz:b.size=504
 ·simp only[if_pos hz]
  cases hpl p (b.extract 0 248) with
  | error e=>rfl
  | ok z =>
   obtain⟨x,n,s⟩:=z;by_cases hk:x.k=1
   ·simp only[if_pos hk]
   ·simp only[if_neg hk]
    cases zgK (zb4 (bdy s).data.toList (b.data.toList.drop 248)) with
    | none=>rfl
    | some t=>rfl
 ·simp only[if_neg hz]
  rfl
theorem zn5 {p h:Ba} {x:Hp} {n s:Ba} (e:hpl p h = .ok (x,n,s)):ok x=true:=by
 unfold hpl at e
 split at e
 ·split at e
  ·cases e
  ·split at e
   ·split at e
    ·cases e
    ·rename_i y hy
     injection e with e
     injection e with e _
     rw[<-e];exact (zkl _ _ hy).1
   ·cases e
 ·cases e
theorem zn6 (p b:Ba):(ppD p b).1.1.k=1->0<=(ppD p b).1.1.d/\(ppD p b).1.1.d<=4096:=by
 have hz:zh.k=1->0<=zh.d/\zh.d<=4096:=fun _=>by decide
 unfold ppD
 split
 ·split
  ·exact hz
  ·rename_i x n s hx
   split
   ·intro hk
    rcases zde x (zn5 hx) with h|h|h|h
    ·exact⟨h.2.2.2.1,h.2.2.2.2.1⟩
    ·have h1:=h.1;have h2:x.k=1:=hk;omega
    ·have h1:=h.1;have h2:x.k=1:=hk;omega
    ·have h1:=h.1;have h2:x.k=1:=hk;omega
   ·rename_i hk
    split
    ·exact hz
    ·exact fun h=>absurd h hk
 ·exact hz
def Nd.takeP (nd:Nd) (key P:Ba):Int×Nd:=nd.take (ppD key P).2 (ppD key P).1.1 (ppD key P).1.2.1 (ppD key P).1.2.2.1
theorem zhd (CL:Hid zc0) (w wr:Wo) (p m:Nat) (key P:Ba) (zk:key.size=32) (zP:P.size<=140737488355328) (nd:Nd) (lab:Nat->Nat) (F:Nat->Prop) (q:Nat) (v:Value) (b:Nat) (va vh:Value) (pw:Nat) (G:Nat->Prop) (bm:Nat) (D:DataW Unit) (vl:Value)
  (B:Nb nd) (hk:Hid (Kh w)) (H:Hid (Nr w wr p m key nd lab F q v b va vh pw G bm D vl)) :
  Cl 24 #[.pointer (some ⟨m,0,none⟩),.string P] wr fun e w'=>e = .returned (.int .i64 (nd.takeP key P).1)/\Na w p m key (nd.takeP key P).2 wr lab w' :=
 zi6 w wr p m key P nd lab F q v b va vh pw G bm D vl (ppD key P).1.1 (ppD key P).1.2.1 (ppD key P).1.2.2.1 (ppD key P).1.2.2.2 (ppD key P).2 (zn6 key P) B hk
  (fun W hb=>by
   have:=CL.out key P W (by show key.size<=_;omega) zP (hk.out.later (H.out.pz.lz.hd_.dl.below.trans (hb.mono H.out.nw)));rw[zjh] at this;exact this) H
end Go.Proofs.YtjcppbhgjchjaaaGreatDoor
namespace Go.Proofs.Lg
open Go.Proofs.Dk
def zf:Nat->Bs:=fun _=>zr 64
def Im (n:Nat) (ts:List Bs):Nat->Bs:=bgf 0 (n / 2) (hd 1++rcs (hm 1) ts) zf
theorem zgq:∀(l:List Bs) (a t:Bs),rcs a (l++[t])=rcs a l++rcd (mks a l) t
 | [],a,t=>by
  show rcd a t++[]=[]++rcd a t;simp
 | x::l,a,t=>by
  show rcd a x++rcs (rmk a x) (l++[t])=rcd a x++rcs (rmk a x) l++rcd (mks (rmk a x) l) t;rw[zgq l,List.append_assoc]
theorem zl8 (ts:List Bs):(hd 1++rcs (hm 1) ts).length=64*(1+sns ts):=by
 rw[List.length_append,zbi,zcq];omega
theorem zn7 (n:Nat) (ts:List Bs) (t:Bs):lay (Im n ts) (wts (1+sns ts) (chs (sn t) (rcd (mks (hm 1) ts) t)))=Im n (ts++[t]):=by
 have e1:=zl8 ts;have e2:=zaF (mks (hm 1) ts) t;unfold Im bgf;rw[<-zdv,zgq,<-List.append_assoc,@List.length_append _ (hd 1++rcs (hm 1) ts) _,e1,e2,show 64*(1+sns ts) / 64=1+sns ts by omega,show (64*(1+sns ts)+64*sn t) / 64=1+sns ts+sn t by omega,
  zdx (1+sns ts) (hd 1++rcs (hm 1) ts) (rcd (mks (hm 1) ts) t) (sn t) e1,zdw,zaL,Nat.zero_add]
theorem zpS (n:Nat) (ts:List Bs) (hs:1+sns ts<=n / 2):gen (hb (up n (Im n ts) []) ((1 - 0)*(n / 2)) (n / 2))=0:=by
 rw[zdy (n / 2) _ (fun i hi => ?_)]
 ·exact zl0 _
 ·show Im n ts ((1 - 0)*(n / 2)+i)=zr 64
  unfold Im;rw[znC zf (by rw[zl8];omega) (.inr (by omega))];rfl
theorem im_open (n:Nat) (ts:List Bs) (hH:2<=n / 2) (hs:1+sns ts<=n / 2) (ht:∀t∈ts,1<=t.length/\t.length<=2000):opn (up n (Im n ts) [])=((0,up n (Im n ts) []),⟨0,1,ts⟩):=by
 have h:=zkX (n:=n) (h:=0) (g:=1) (ts:=ts) zf hH (by omega) (by omega) (by omega) hs ht;rw[Nat.zero_mul] at h;exact h (by
  have:=zpS n ts hs;unfold Im at this;rw[this];omega)
theorem im_new (n:Nat) (hH:2<=n / 2):opn (up n zf [])=((0,up n (Im n []) []),⟨0,1,[]⟩):=ziD zf (fun _=>rfl) hH
theorem im_app (n:Nat) (ts:List Bs) (t:Bs) (hm1:may t=0) (hs:1+sns ts+sn t<=n / 2):app (up n (Im n ts) []) ⟨0,1,ts⟩ t=((0,up n (Im n ts) (wts (1+sns ts) (chs (sn t) (rcd (mks (hm 1) ts) t)))),⟨0,1,ts++[t]⟩):=by
 have ek:(⟨0,1,ts⟩:Lo).tk=1+sns ts:=zaY ts 1;have ew:=znA (zaF (mks (hm 1) ts) t) (n:=n) (k:=0*(n / 2)+(1+sns ts)) (by omega) (Im n ts) [];unfold app;rw[ek,if_neg (by rw[hm1];simp),if_neg (by show ¬n / 2 < 1+sns ts+sn t;omega)];show (wrb (up n (Im n ts) []) (0*(n / 2)+(1+sns ts)) (rcd (mks (hm 1) ts) t),if (wrb (up n (Im n ts) []) (0*(n / 2)+(1+sns ts)) (rcd (mks (hm 1) ts) t)).1=0 then _ else _)=_
 rw[ew,if_pos rfl,Nat.zero_mul,Nat.zero_add,List.nil_append]
theorem im_sync (n:Nat) (ts:List Bs) (t:Bs):syE (up n (Im n ts) (wts (1+sns ts) (chs (sn t) (rcd (mks (hm 1) ts) t))))=0/\syS (up n (Im n ts) (wts (1+sns ts) (chs (sn t) (rcd (mks (hm 1) ts) t))))=up n (Im n (ts++[t])) []:=by
 obtain⟨h1,h2⟩:=zrv n (Im n ts) (wts (1+sns ts) (chs (sn t) (rcd (mks (hm 1) ts) t)));rw[zn7] at h2;exact⟨h1,h2⟩
def tgr (l:List Bs):List Bs:=l.map (84::·)
theorem tgr_snoc (l:List Bs) (t:Bs):tgr (l++[t])=tgr l++[84::t]:=by unfold tgr;rw[List.map_append];rfl
theorem sn_tag {t:Bs} (h:t.length=16):sn (84::t)=1:=by unfold sn;rw[List.length_cons,h]
theorem sns_tgr:∀(l:List Bs),(∀t∈l,t.length=16)->sns (tgr l)=l.length
 | [],_=>rfl
 | t::l,h=>by
  show sn (84::t)+sns (tgr l)=l.length+1;rw[sn_tag (h t (List.mem_cons_self ..)),sns_tgr l (fun x hx=>h x (List.mem_cons_of_mem _ hx))];omega
theorem tgr_may {t:Bs} (h:t.length=16):may (84::t)=0:=by unfold may;rw[List.length_cons,h];rfl
theorem tgr_len (l:List Bs) (h:∀t∈l,t.length=16):∀r∈tgr l,1<=r.length/\r.length<=2000:=fun r hr=>by
 obtain⟨t,ht,rfl⟩:=List.mem_map.1 hr;rw[List.length_cons,h t ht];omega
end Go.Proofs.Lg
namespace Go.Proofs.Tg
open Go.Proofs.Hs Go.Proofs.Fd Go.Proofs.Ed
set_option maxRecDepth 100000
def zpT (a:K):K:=⟨pw 256 a.val (p - 2) p % q,Nat.mod_lt _ (by decide)⟩
theorem zpU (a:K):zhu a=zpT a:=by
 apply Fin.ext;show a.val ^ (p - 2) % p=pw 256 a.val (p - 2) p % q
 rw[zqs 256 a.val (p - 2) p (by decide +kernel)];exact (Nat.mod_mod _ _).symm
def zn8 (k:Nat) (u:K):K:=let r:=(run u k 255).1;r.1*zpT r.2
theorem zdL (k:Nat) (u:K):lad k u=zn8 k u:=by
 unfold lad zn8;rw[zpU]
def hopsL:List UInt8:=[104,111,112,115]
def pvL0:List UInt8:=[112,114,105,118,97,116,101,48]
def pvL1:List UInt8:=[112,114,105,118,97,116,101,49]
def seedL:List UInt8:=[115,101,101,100]
def tagL:List UInt8:=[116,97,103]
def bldL:List UInt8:=[98,108,105,110,100]
def kA:Nat:=num (drv hopsL pvL0 32)
def kB:Nat:=num (drv hopsL pvL1 32)
def sN (a:UInt8):Nat:=num (drv seedL [a,0] 32)
def nA:Nat:=25119527131946135389420132055013078704108789481448111971970725953094971675926
def nP:K:=39610091214842223822867017882537436885703987902387643316149707737255382796250
def nQ:K:=50462879978743513556989293106685525176208826301663095827983128774481957810030
theorem zn9:kA=nA:=by decide +kernel
theorem zrM:lad (clampN kA) 9=nP:=by rw[zn9,zdL];decide +kernel
theorem zrN:lad (clampN kB) 9=nQ:=by rw[zdL];decide +kernel
def dat:List (Nat×Nat×Nat):=[(76409650970651564921584480165921317281305548735199572873551053267529898526652,24931835611060182869828241161405475589025624515675004043047934602030019152120,38551261794406396111039957956210599782663973635027451648717200834112797404493),(99271444327569743550514581826076278444055879499066240497391931750955000497361,28959877370141638670391653531537631353207915649301350794329755017658952820935,56109929519390293393291027255455091298626780995222744755148447047800557187982),(99561098538186502759502948353798826480202068047673992323226653787597975929480,35599799569826900314220264099589782993161251664563792613203500790691775651042,46142589216297912122985464765224697315216199644586517767354255344491450670114),(99232940224892988930372433942257450045007381857248988806227485196372939989986,49724030763930783594497591946011431948989399342272261652409527915008072667103,54455470615670955342172097935157816145409812747993325154826702651472216601018),(32330110761270355045924224234306894806019112523289263190607919959164116798709,21738072964806797807072936085396229774502360801082733716175458149889063131181,35099003091460550337554745642274681800446490874789086345371009890058320552892),(9233088966861516245970041583099010401586701947958707615909867625855993033242,28737952516338549399399065597902928560159290958846094896141159790013362244177,6045561375789855634803776459178825547723375698482574971166319756638945470383),(19196557131240013347019609858551310252291459115656412335985262005528517843228,12372682100519634578612598753413819030610055153243521283544675314070262646544,32627808564542374053834379390747856955324454027864897779092743329484623314835),(90912400491044702395834100620034715989980845811110738951094632821086981547730,6682309375310462431484942331391278375048887179370390688631904887899184257912,57632621566399206527825187356014959742758338611144800162430825161725383356120),(12158870455450051803371100116739070975272716173430492417854612108077662570493,47284778862290441224741098644524810262270032480252023118571666554418441368006,26599330632494679161518276980113541885186465244339871239119031404605615625824),(56526744259945910880100849944393953403842421845678851961821979519856203387127,56157542289315350499392175927265553629859503247692967272431735122381149216933,46666511134077016720253408010600421649777710593687639331155096227340433828079)]
def kk (n:Nat):K:=⟨n % q,Nat.mod_lt _ (by decide)⟩
def chk (i:Nat):Bool:=let x:=dat.getD i (0,0,0)
 decide (sN (UInt8.ofNat i)=x.1) && decide (zn8 (clampN x.1) nP=kk x.2.1) && decide (zn8 (clampN nA) (zn8 (clampN x.1) 9)=kk x.2.1) && decide (kk x.2.1≠0) && decide (zn8 (clampN x.1) nQ=kk x.2.2) && decide (kk x.2.2≠0) && decide (zn8 (clampN (num (drv (za2 32 (kk x.2.1).val) bldL 32))) (kk x.2.2)≠0)
theorem zrO:chk 0=true:=by decide +kernel
theorem zrP:chk 1=true:=by decide +kernel
theorem zrQ:chk 2=true:=by decide +kernel
theorem zrR:chk 3=true:=by decide +kernel
theorem zrS:chk 4=true:=by decide +kernel
theorem zrT:chk 5=true:=by decide +kernel
theorem zrU:chk 6=true:=by decide +kernel
theorem zrV:chk 7=true:=by decide +kernel
theorem zrW:chk 8=true:=by decide +kernel
theorem zrX:chk 9=true:=by decide +kernel
theorem zji (i:Nat) (hi:i < 10):chk i=true:=by
 rcases (by omega:i=0\/i=1\/i=2\/i=3\/i=4\/i=5\/i=6\/i=7\/i=8\/i=9) with rfl|rfl|rfl|rfl|rfl|rfl|rfl|rfl|rfl|rfl
 ·exact zrO
 ·exact zrP
 ·exact zrQ
 ·exact zrR
 ·exact zrS
 ·exact zrT
 ·exact zrU
 ·exact zrV
 ·exact zrW
 ·exact zrX
theorem both_have (i:Nat) (hi:i < 10):∃s a:K,lad (clampN (sN (UInt8.ofNat i))) (lad (clampN kA) 9)=s/\s≠0/\lad (clampN kA) (lad (clampN (sN (UInt8.ofNat i))) 9)=s/\lad (clampN (sN (UInt8.ofNat i))) (lad (clampN kB) 9)=a/\a≠0/\lad (clampN (num (drv (za2 32 s.val) bldL 32))) a≠0:=by
 have h:=zji i hi;unfold chk at h;simp only[Bool.and_eq_true,decide_eq_true_eq] at h;obtain⟨⟨⟨⟨⟨⟨h1,h2⟩,h3⟩,h4⟩,h5⟩,h6⟩,h7⟩:=h;refine⟨kk (dat.getD i (0,0,0)).2.1,kk (dat.getD i (0,0,0)).2.2,?_,h4,?_,?_,h6,?_⟩
 ·rw[zrM,h1,zdL,h2]
 ·rw[zn9,h1,zdL,zdL,h3]
 ·rw[zrN,h1,zdL,h5]
 ·rw[zdL];exact h7
def tagS (s:K):List UInt8:=drv (za2 32 s.val) tagL 16
def tag19 (a:UInt8):List UInt8:=tagS (lad (clampN kA) (lad (clampN (sN a)) 9))
theorem zl9 (i:Nat) (hi:i < 10):tag19 (UInt8.ofNat i)=tagS (kk (dat.getD i (0,0,0)).2.1):=by
 have h:=zji i hi;unfold chk at h;simp only[Bool.and_eq_true,decide_eq_true_eq] at h;obtain⟨⟨⟨⟨⟨⟨h1,h2⟩,h3⟩,h4⟩,h5⟩,h6⟩,h7⟩:=h;unfold tag19;rw[zn9,h1,zdL,zdL,h3]
def zc2:List (List UInt8):=(List.range 10).map fun i=>(tagS (kk (dat.getD i (0,0,0)).2.1)).take 2
theorem zjj:zc2=[[218,78],[67,81],[232,226],[95,158],[141,85],[96,2],[161,209],[212,118],[4,135],[4,255]]:=by decide +kernel
theorem tag_apart (i j:Nat) (hi:i < 10) (hj:j < 10) (h:tag19 (UInt8.ofNat i)=tag19 (UInt8.ofNat j)):i=j:=by
 rw[zl9 i hi,zl9 j hj] at h;have key:∀i,i < 10->(tagS (kk (dat.getD i (0,0,0)).2.1)).take 2=zc2.getD i []:=by
  intro i hi;have e:zc2[i]?=some ((tagS (kk (dat.getD i (0,0,0)).2.1)).take 2):=by
   unfold zc2;rw[List.getElem?_map,List.getElem?_range hi];rfl
  have e2:zc2.getD i []=(zc2[i]?).getD []:=List.getD_eq_getElem?_getD ..;rw[e2,e];rfl
 have h1:=key i hi;rw[h,key j hj,zjj] at h1;have fin:∀i,i < 10->∀j,j < 10->([[218,78],[67,81],[232,226],[95,158],[141,85],[96,2],[161,209],[212,118],[4,135],[4,255]]:List (List UInt8)).getD j []=([[218,78],[67,81],[232,226],[95,158],[141,85],[96,2],[161,209],[212,118],[4,135],[4,255]]:List (List UInt8)).getD i []->i=j:=by decide
 exact fin i hi j hj h1
end Go.Proofs.Tg
namespace Go.Proofs.YtjcppbhgjchjaaaGreatDoor
open Go.RowKit Go.Proofs.Fd Go.Proofs.Ed Go.Proofs.Hs Go.Proofs.Cc Go.Proofs.Hd Go.Proofs.Rt Go.Proofs.Wd
section
open Go.Proofs.YtjcppbhgjchjaaaGreatDoor.Crv
theorem zoa (seed:Ba) (ks:List Ba) (hs:List Hp) (ss:List Ba) (hk:∀k∈ks,k.size=32) (hp:pth hs=0) (hl:hs.length=ks.length) (h2:ss.length=ks.length) (i:Nat) (hi:i < ks.length)
  (hsi:nth ss i=ek (tm ks[i] (ptB seed ((ss.take i).map bld)))) (hne:tm ks[i] (ptB seed ((ss.take i).map bld))≠0) :
  plV ks[i] ⟨(za3 seed ss hs i).toArray⟩=#[hv (hs.getD i zh),.string (if i+1 < ks.length then ⟨(za3 seed ss hs (i+1)).toArray⟩ else ⟨#[]⟩),kv (nth ss i),.int .i64 0]/\(za3 seed ss hs i).length=248:=by
 obtain⟨g1,g2,g3,g4⟩:=zdf hs hp;have LS:=zf0 seed ss hs g1 ⟨g2,g3⟩;obtain⟨e1,-⟩:=LS.ends i (by omega);have okx:ok (hs.getD i zh)=true:=by
  rw[List.getD_eq_getElem?_getD,List.getElem?_eq_getElem (by omega)];exact List.all_eq_true.1 g1 _ (List.getElem_mem (by omega))
 have lP:(ptB seed ((ss.take i).map bld)).data.toList.length=32:=by
  have:(ptB seed ((ss.take i).map bld)).data.toList.length=(ptB seed ((ss.take i).map bld)).size:=by simp
  rw[this,zfZ]
 have ePt:(⟨(ptB seed ((ss.take i).map bld)).data.toList.toArray⟩:Ba)=ptB seed ((ss.take i).map bld):=rfl;refine⟨?_,by unfold za3;rw[List.length_append,List.length_append,lP,zbc,e1]⟩;by_cases hlast:i+1 < ks.length
 ·have hpl:zbd (nth ss i) (ze4 seed ss hs i)=byt (hs.getD i zh)++zbS (nth ss (i+1)) (ze4 seed ss hs (i+1))++ze4 seed ss hs (i+1):=LS.peel i (by omega)
  have hb:=ze0 _ okx;have hd:dcd ((zbd (nth ss i) (ze4 seed ss hs i)).take 24)=some (hs.getD i zh):=by
   rw[hpl,List.append_assoc,List.take_append_of_le_length (by omega),List.take_of_length_le (by omega)];exact zhX _ okx
  have hk1:(hs.getD i zh).k=1:=(g4 i (by omega)).2 (by omega);rw[zf1 ks[i] _ (nth ss i) (ptB seed ((ss.take i).map bld)).data.toList (zbS (nth ss i) (ze4 seed ss hs i)) (ze4 seed ss hs i) (hs.getD i zh) (hk _ (List.getElem_mem hi)) rfl lP (zbc _ _) e1 (by rw[ePt];exact hne) (by rw[ePt];exact hsi) rfl hd,if_pos hk1,if_pos hlast,ePt];congr 4;unfold za3;have e5:(zbd (nth ss i) (ze4 seed ss hs i)).drop 24=zbS (nth ss (i+1)) (ze4 seed ss hs (i+1))++ze4 seed ss hs (i+1):=by
   rw[hpl,List.append_assoc,List.drop_append_of_le_length (by omega),List.drop_of_length_le (by omega),List.nil_append]
  have e6:(ss.take (i+1)).map bld=(ss.take i).map bld++[bld (nth ss i)]:=by
   rw[List.take_succ_eq_append_getElem (by omega:i < ss.length),List.map_append];unfold nth;rw[List.getD_eq_getElem?_getD,List.getElem?_eq_getElem (by omega)];rfl
  rw[e5,e6,zkI,List.append_assoc]
 ·have hin:i=hs.length - 1:=by omega
  have hpl:(zbd (nth ss i) (ze4 seed ss hs i)).take 24=byt (hs.getD i zh):=by rw[hin];exact LS.peel_last
  have hk1:¬(hs.getD i zh).k=1:=fun q=>by have:=(g4 i (by omega)).1 q;omega
  rw[zf1 ks[i] _ (nth ss i) (ptB seed ((ss.take i).map bld)).data.toList (zbS (nth ss i) (ze4 seed ss hs i)) (ze4 seed ss hs i) (hs.getD i zh) (hk _ (List.getElem_mem hi)) rfl lP (zbc _ _) e1 (by rw[ePt];exact hne) (by rw[ePt];exact hsi) rfl (by rw[hpl];exact zhX _ okx),if_neg hk1,if_neg hlast]
end
theorem zob (seed:Ba) (ks:List Ba) (hs:List Hp) (ss:List Ba) (hz:seed.size=32) (hp:pth hs=0) (hl:hs.length=ks.length) (h1:zpb seed (ks.map fun k=>Crv.ek (Crv.pub k)) []=some ss) :
  mkE seed (ks.map fun k=>Crv.ek (Crv.pub k)) hs=0/\mkS seed (ks.map fun k=>Crv.ek (Crv.pub k)) hs=ss/\mkH seed (ks.map fun k=>Crv.ek (Crv.pub k)) hs=⟨(za3 seed ss hs 0).toArray⟩:=by
 have e:mkE seed (ks.map fun k=>Crv.ek (Crv.pub k)) hs=0:=by
  have ha:((ks.map fun k=>Crv.ek (Crv.pub k)).all fun p=>p.size == 32)=true:=by
   rw[List.all_eq_true];intro x hx;obtain⟨k,-,rfl⟩:=List.mem_map.1 hx;simp[Crv.ek_size]
  unfold mkE;rw[if_pos hp,if_pos (by rw[List.length_map];exact hl.symm),if_pos ⟨hz,ha⟩,h1]
 have es:mkS seed (ks.map fun k=>Crv.ek (Crv.pub k)) hs=ss:=by unfold mkS;rw[if_pos e,h1];rfl
 exact⟨e,es,by unfold mkH;rw[if_pos e,es]⟩
theorem zoc (seed:Ba) (ks:List Ba) (hs:List Hp) (ss:List Ba) (hp:pth hs=0) (hl:hs.length=ks.length) (i:Nat) (hi:i < ks.length)
  (p1:plV ks[i] ⟨(za3 seed ss hs i).toArray⟩=#[hv (hs.getD i zh),.string (if i+1 < ks.length then ⟨(za3 seed ss hs (i+1)).toArray⟩ else ⟨#[]⟩),kv (nth ss i),.int .i64 0]) (p2:(za3 seed ss hs i).length=248) :
  (za3 seed ss hs i).length=248/\∀B:List UInt8,B.length=256->ppV ks[i] ⟨(za3 seed ss hs i++B).toArray⟩ =
    if i+1 < ks.length then #[pdv (hs.getD i zh) ⟨(za3 seed ss hs (i+1)++zb4 (bdy (nth ss i)).data.toList B).toArray⟩ (rtg (nth ss i)) ⟨#[]⟩,.int .i64 0]
    else (match zgK (zb4 (bdy (nth ss i)).data.toList B) with
     | none=>#[pdz,.int .i64 90]
     | some t=>#[pdv (hs.getD i zh) ⟨#[]⟩ (rtg (nth ss i)) ⟨t.toArray⟩,.int .i64 0]):=by
 obtain⟨g1,g2,g3,g4⟩:=zdf hs hp;refine⟨p2,fun B hB => ?_⟩;obtain⟨s',q1,q2,q3⟩:=zpQ p1;have:=zpd ks[i] ⟨(za3 seed ss hs i).toArray⟩ B _ _ _ (by rw[zko];exact p2) hB q1;rw[this,q2,q3];by_cases hlast:i+1 < ks.length
 ·have hk1:(hs.getD i zh).k=1:=(g4 i (by omega)).2 (by omega)
  rw[if_pos hk1,if_pos hlast,if_pos hlast]
 ·have hk1:¬(hs.getD i zh).k=1:=fun q=>by have:=(g4 i (by omega)).1 q;omega
  first
  | (rw[if_neg hk1,if_neg hlast];done)
  | (rw[if_neg hk1,if_neg hlast];cases zgK (zb4 (bdy (nth ss i)).data.toList B) <;> rfl)
end Go.Proofs.YtjcppbhgjchjaaaGreatDoor
