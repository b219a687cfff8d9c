/- A part of the walk. -/
import Derived.Test.YtjcppbhgjchjaaaGreatDoorZr3G31
set_option maxHeartbeats 8000000
set_option maxRecDepth 20000
namespace Go.Proofs.YtjcppbhgjchjaaaGreatDoor.Sto
open Go.RowKit Go.Proofs.Fd Go.Proofs.Dk Go.Proofs.Lg
structure Fi (va:Wo) (p fr mn g:Nat) (q c:Nat) (v:Value) (ts:List Bs) (tk:Nat) (m:Bs) (wr:Wo):Prop where
 hf:Hf wr q p fr mn g v ts tk m []
 bk:Blk wr c hz0
 bl:Bw va wr
 nq:va.heap.size<=q
 nc:va.heap.size<=c
 qc:c≠q
 vc:v.ownBlock≠some c
 nv:∀x,v.ownBlock=some x->va.heap.size<=x
section
variable {va:Wo} {p fr mn g q c:Nat} {v:Value} {ts:List Bs} {tk:Nat} {m:Bs} {wr:Wo}
theorem Fi.later (h:Fi va p fr mn g q c v ts tk m wr) {w':Wo} (hb:Bw wr w'):Fi va p fr mn g q c v ts tk m w':=⟨h.hf.later hb,h.bk.later hb,chain h.bl hb,h.nq,h.nc,h.qc,h.vc,h.nv⟩
theorem Fi.half (h:Fi va p fr mn g q c v ts tk m wr) {w':Wo} {v':Value} {ts':List Bs} {tk':Nat} {m':Bs} (k:Hf w' q p fr mn g v' ts' tk' m' []) (hb:Bf (HFt q v) wr w') (hx:Nx wr (HFt q v) (HFt q v')):Fi va p fr mn g q c v' ts' tk' m' w':=by
 have ca:¬HFt q v c:=fun e=>by
  rcases e with e|e
  ·exact h.qc e
  ·exact h.vc e
 refine⟨k,h.bk.bf hb ca,h.bl.trans (hb.below (fun x e => ?_) h.bl.size),h.nq,h.nc,h.qc,fun e => ?_,fun x e => ?_⟩
 ·rcases e with rfl|e
  ·exact h.nq
  ·exact h.nv x e
 ·rcases hx c (.inr e) with d|d
  ·exact ca d
  ·have:=h.bk.lt
   omega
 ·rcases hx x (.inr e) with d|d
  ·rcases d with rfl|d
   ·exact h.nq
   ·exact h.nv x d
  ·exact Nat.le_trans h.bl.size d
end
theorem ziI {m:Nat} {b a:Bs} (h:rof b a=none):zb7 m b a=[]:=by
 cases m with
 | zero=>rfl
 | succ m=>rw[zb7,h]
theorem ziJ {m:Nat} {b a t:Bs} (hm:1<=m) (h:rof b a=some t):zb7 m b a=t::zb7 (m - 1) (b.drop (64*sn t)) (rmk a t):=by
 obtain⟨k,rfl⟩:∃k,m=k+1:=⟨m - 1,by omega⟩;rw[zb7,h];rfl
theorem zbW (ts:List Bs):1+ts.length<=tkn 1 ts:=by
 rw[zaY];have:=zfa ts;omega
theorem zl3 {va:Wo} {p fr mn g q c:Nat} {v:Value} {ts:List Bs} {tk:Nat} {m:Bs} {wr:Wo} (h:Fi va p fr mn g q c v ts tk m wr):Blk (wr.setCells c 0 (hc p fr mn g v tk m [])) c (hc p fr mn g v tk m [])/\Bw va (wr.setCells c 0 (hc p fr mn g v tk m []))/\OwnsS (wr.setCells c 0 (hc p fr mn g v tk m [])) v ts :=
 ⟨h.bk.put _ rfl,zah h.nc _ 0 h.bl,ownsRow_same h.hf.row (fun x e=>zac wr c 0 _ x (fun d=>h.vc (by rw[e,d])))⟩
def zcV (q mn:Nat) (w:Wo):Nat:=mn - (intOf ((w.cell? ⟨q,5,none⟩).getD undef)).toNat
theorem zew {w:Wo} {q p fr mn g:Nat} {v:Value} {ts:List Bs} {tk:Nat} {m:Bs} {more:List Value} (h:Hf w q p fr mn g v ts tk m more):zcV q mn w=mn - tk:=by
 unfold zcV;rw[h.bk.c 5 _ rfl];rfl
theorem zk5 (X:Ba) (i:Nat) (x:Int) (hx:x=(i:Int)) (h2:i<=X.size) (w:Wo):(Instr.slice 9 (.string X) (some (.int .i64 x)) none none).run Tryz.prog w = .ok (.string (X.extract i X.size)) w:=by
 subst hx;have h6:(i:Int)<=(X.size:Int):=by omega
 simp[Instr.slice,Instr.sliceBounds,Instr.sliceBound,asIntOf,run_underlying Tryz.underlying9, h2]
def FdP (va:Wo) (p:Nat) (s:St) (fr mn:Nat) (e:Ending) (w':Wo):Prop:=∃v,e = .returned (.tuple #[hv p fr mn (gen (hb s fr mn)) v (fK s fr mn) (fM s fr mn),.int .i64 0])/\OwnsS w' v (fT s fr mn)/\(∀x,v.ownBlock=some x->va.heap.size<=x)/\Bw va w'
theorem zk6 (w va:Wo) (p:Nat) (F:Nat->Prop) (s:St) (fr mn:Nat) (h1:1<=mn) (h2:fr+mn<=s.n) (hd:s.down=false) (hk:Hid (Kh w)) (h:Hid (Dl w va p F s)) :
  Cl 216 #[plc p fr mn] va fun e w'=>FdP va p s fr mn e w':=by
 have OK:=h.out.at_.1;have hn:=OK.n2;have e2:rdA s fr mn = .tuple #[.string (st (hb s fr mn)),.int .i64 0]:=if_neg (by rw[hd];simp);have RD:Hid (∀W,Bw va W->Cl 220 #[.agg #[.pointer (some ⟨p,0,none⟩),.int .i64 (fr:Int),.int .i64 (mn:Int)]] W fun e w'=>e = .returned (.tuple #[.string (st (hb s fr mn)),.int .i64 0])/\Bw W w'):=fun W hb=>by
  have:=zcu w W p F s fr mn h1 h2 (h.out.later hb);rw[e2] at this;exact this
 have HL:Hid ((hb s fr mn).length=64*mn):=zcQ OK fr mn;have KH:Hid (∀W,Bw va W->Kh W):=fun W hb=>hk.out.later (chain h.out.below hb)
 have GN:Hid (∀W,Kh W->Cl 285 #[.string (st (hb s fr mn))] W fun e w'=>e = .returned (.int .i64 (gen (hb s fr mn):Int))/\Bw W w'):=fun W k=>zkZ _ (by rw[HL.out];omega) W k
 have J0:Hid (Blk (va.alloc (.cells #[.pointer (some ⟨p,0,none⟩),.int .i64 (fr:Int),.int .i64 (mn:Int)] 235)) va.heap.size [.pointer (some ⟨p,0,none⟩),.int .i64 (fr:Int),.int .i64 (mn:Int)]):=Blk.new va _ _ (by simp);have I0:Hid (Blk ((va.alloc (.cells #[.pointer (some ⟨p,0,none⟩),.int .i64 (fr:Int),.int .i64 (mn:Int)] 235)).alloc (.cells hz0.toArray 237)) va.heap.size [.pointer (some ⟨p,0,none⟩),.int .i64 (fr:Int),.int .i64 (mn:Int)]/\Blk ((va.alloc (.cells #[.pointer (some ⟨p,0,none⟩),.int .i64 (fr:Int),.int .i64 (mn:Int)] 235)).alloc (.cells hz0.toArray 237)) (va.heap.size+1) hz0/\Bw va ((va.alloc (.cells #[.pointer (some ⟨p,0,none⟩),.int .i64 (fr:Int),.int .i64 (mn:Int)] 235)).alloc (.cells hz0.toArray 237))):=⟨J0.out.later (nb _ _),zct va _ hz0 _ (by simp),chain (nb _ _) (nb _ _)⟩;have gm:mn<=1024:=by omega
 have gf:fr<=1024:=by omega
 unfold FdP;have ER:Hid (∀g,g=gen (hb s fr mn)->g≠0->fT s fr mn=zb7 mn ((hb s fr mn).drop 64) (hm g)/\fK s fr mn=tkn 1 (fT s fr mn)/\fM s fr mn=mks (hm g) (fT s fr mn)):=fun g e h0=>by
  subst e;exact⟨by rw[fT,if_neg h0];rfl,by rw[fK,if_neg h0],by rw[fM,if_neg h0]⟩
 have EZ:Hid (gen (hb s fr mn)=0->fT s fr mn=[]/\fK s fr mn=0/\fM s fr mn=[]):=fun e=>⟨by rw[fT,if_pos e],by rw[fK,if_pos e],by rw[fM,if_pos e]⟩
 obtain⟨b,hbb⟩:∃b,hb s fr mn=b:=⟨_,rfl⟩;rw[hbb] at RD HL GN ER EZ ⊢;obtain⟨g,hg⟩:∃g,gen b=g:=⟨_,rfl⟩;rw[hg] at GN EZ ⊢;have EG:=ER.out g hg.symm;have EG2:Hid (g≠0->_):=EG;obtain⟨kT,hkT⟩:∃kT,fT s fr mn=kT:=⟨_,rfl⟩;obtain⟨kK,hkK⟩:∃kK,fK s fr mn=kK:=⟨_,rfl⟩;obtain⟨kM,hkM⟩:∃kM,fM s fr mn=kM:=⟨_,rfl⟩;rw[hkT,hkK,hkM] at EG2 EZ ⊢;have H1:Hid (1<=mn):=h1;clear e2 h hd h1 h2 OK J0 hk EG ER hbb hg hkT hkK hkM;unfold plc;go_enter Tryz.func216, Tryz.ntmps216;go_wp2_with fail;refine cM (RD.out _ I0.out.2.2) ?_;rintro e w1 ⟨rfl,hb⟩;have I1:Hid (Blk w1 va.heap.size [.pointer (some ⟨p,0,none⟩),.int .i64 (fr:Int),.int .i64 (mn:Int)]/\Blk w1 (va.heap.size+1) hz0/\Bw va w1):=⟨I0.out.1.later hb,I0.out.2.1.later hb,chain I0.out.2.2 hb⟩;clear hb I0 RD;obtain⟨X,hX⟩:∃X,st b=X:=⟨_,rfl⟩;have HX:Hid (st b=X):=hX;rw[hX] at GN ⊢;clear hX;have k0:=I1.out.1.c 0 _ rfl;have k1:=I1.out.1.c 1 _ rfl;have k2:=I1.out.1.c 2 _ rfl;have IA:Hid (Blk (w1.alloc (.cells hz0.toArray 237)).drew w1.heap.size hz0/\Bw va (w1.alloc (.cells hz0.toArray 237)).drew/\Bw w1 (w1.alloc (.cells hz0.toArray 237)).drew):=⟨(Blk.new w1 hz0 _ (by simp)).drew,(chain I1.out.2.2 (nb _ _)).drew,(nb _ _).drew⟩;have G1:Hid (Cl 285 #[.string X] w1.drew fun e w'=>e = .returned (.int .i64 (g:Int))/\Bw w1 w'):=(GN.out w1.drew (KH.out _ (I1.out.2.2.drew))).mono fun _ _ ⟨he,hb⟩=>⟨he,chain (bQ _ _).drew hb⟩
 have G2:Hid (Cl 285 #[.string X] (w1.alloc (.cells hz0.toArray 237)).drew fun e w'=>e = .returned (.int .i64 (g:Int))/\Bw w1 w'/\Blk w' w1.heap.size hz0):=(GN.out _ (KH.out _ IA.out.2.1)).mono fun _ _ ⟨he,hb⟩=>⟨he,chain IA.out.2.2 hb,IA.out.1.later hb⟩
 clear GN IA;have a0:=zab (o:=(.cells #[.pointer none,.int .i64 0,.int .i64 0,.int .i64 0,.slice none 0 0,.int .i64 0,.string ⟨#[]⟩] 237)) k0;have a1:=zab (o:=(.cells #[.pointer none,.int .i64 0,.int .i64 0,.int .i64 0,.slice none 0 0,.int .i64 0,.string ⟨#[]⟩] 237)) k1;have a2:=zab (o:=(.cells #[.pointer none,.int .i64 0,.int .i64 0,.int .i64 0,.slice none 0 0,.int .i64 0,.string ⟨#[]⟩] 237)) k2;have FA:Hid (∀w2,Bw w1 w2->Hid (Fi va p fr mn g w2.heap.size (va.heap.size+1) (.slice none 0 0) [] 0 [] (w2.alloc (.cells #[.pointer (some ⟨p,0,none⟩),.int .i64 (fr:Int),.int .i64 (mn:Int),.int .i64 (g:Int),.slice none 0 0,.int .i64 0,.string ⟨#[]⟩] 237)))):=fun w2 hb=>by
  have h1:=I1.out.2.1.lt;have h2:=hb.size;exact⟨⟨Blk.new w2 (hc p fr mn g (.slice none 0 0) 0 [] []) _ (by simp),zan _,nofun⟩,(I1.out.2.1.later hb).later (nb _ _),chain (chain I1.out.2.2 hb) (nb _ _),by omega,Nat.le_succ _,by omega,nofun,nofun⟩
 have FB:Hid (∀w2,Bw w1 w2->Blk w2 w1.heap.size hz0->Hid (Fi va p fr mn g w1.heap.size (va.heap.size+1) (.slice none 0 0) [] 0 [] (((((((w2.setCell ⟨w1.heap.size,0,none⟩ (.pointer (some ⟨p,0,none⟩))).setCell ⟨w1.heap.size,1,none⟩ (.int .i64 (fr:Int))).setCell ⟨w1.heap.size,2,none⟩ (.int .i64 (mn:Int))).setCell ⟨w1.heap.size,3,none⟩ (.int .i64 (g:Int))).setCell ⟨w1.heap.size,4,none⟩ (.slice none 0 0)).setCell ⟨w1.heap.size,5,none⟩ (.int .i64 0)).setCell ⟨w1.heap.size,6,none⟩ (.string ⟨#[]⟩)))):=fun w2 hb bk=>by
  have h1:=I1.out.2.1.lt;have h2:=I1.out.2.2.size;show Fi va p fr mn g w1.heap.size (va.heap.size+1) (.slice none 0 0) [] 0 [] (w2.setCells w1.heap.size 0 (hc p fr mn g (.slice none 0 0) 0 [] []))
  exact⟨⟨bk.put _ rfl,zan _,nofun⟩,(I1.out.2.1.later hb).same (zac _ _ _ _ _ (by omega)),zah (by omega) _ 0 (chain I1.out.2.2 hb),h2,Nat.le_succ _,by omega,nofun,nofun⟩
 go_upto_region 4 with fail
 go_cut [6] (fun s6 wx=>∃q,s6 = .pointer (some ⟨q,0,none⟩)/\Hid (Fi va p fr mn g q (va.heap.size+1) (.slice none 0 0) [] 0 [] wx))
 case first =>
  clear I1;go_wp2_with fail;go_region_with (first|(go_at_call 285;with_reducible refine cM G1.out ?_;rintro e w2 ⟨rfl,hb2⟩;have q0:=cell_later hb2 k0;have q1:=cell_later hb2 k1;have q2:=cell_later hb2 k2;have b0:=zab (o:=(.cells #[.pointer none,.int .i64 0,.int .i64 0,.int .i64 0,.slice none 0 0,.int .i64 0,.string ⟨#[]⟩] 237)) q0;have b1:=zab (o:=(.cells #[.pointer none,.int .i64 0,.int .i64 0,.int .i64 0,.slice none 0 0,.int .i64 0,.string ⟨#[]⟩] 237)) q1;have b2:=zab (o:=(.cells #[.pointer none,.int .i64 0,.int .i64 0,.int .i64 0,.slice none 0 0,.int .i64 0,.string ⟨#[]⟩] 237)) q2)|(go_at_call 285;with_reducible refine cM G2.out ?_;rintro e w2 ⟨rfl,hb2,bk2⟩;have q0:=cell_later hb2 k0;have q1:=cell_later hb2 k1;have q2:=cell_later hb2 k2;have z0:=bk2.c 0 _ rfl;have z1:=bk2.c 1 _ rfl;have z2:=bk2.c 2 _ rfl;have z3:=bk2.c 3 _ rfl;have z4:=bk2.c 4 _ rfl;have z5:=bk2.c 5 _ rfl;have z6:=bk2.c 6 _ rfl;have zf:=bk2.f))
  all_goals (go_wp2;go_meet)
  all_goals first
   | (refine⟨w2.heap.size,rfl,?_⟩;have FA':=FA.out w2 (by assumption);clear FA FB;with_reducible exact FA')
   | (refine⟨w1.heap.size,rfl,?_⟩;have FB':=FB.out w2 (by assumption) (by assumption);clear FA FB;with_reducible exact FB')
 case rest =>
  obtain⟨q,rfl,I2⟩:=hcut;clear I1 FA FB k0 k1 k2 a0 a1 a2 G1 G2;have k3:=I2.out.hf.bk.c 3 _ rfl;by_cases h0:g=0
  ·subst h0
   have k0:=I2.out.hf.bk.c 0 _ rfl;have k1:=I2.out.hf.bk.c 1 _ rfl;have k2:=I2.out.hf.bk.c 2 _ rfl;have k4:=I2.out.hf.bk.c 4 _ rfl;have k5:=I2.out.hf.bk.c 5 _ rfl;have k6:=I2.out.hf.bk.c 6 _ rfl;have z0:=I2.out.bk.c 0 _ rfl;have z1:=I2.out.bk.c 1 _ rfl;have z2:=I2.out.bk.c 2 _ rfl;have z3:=I2.out.bk.c 3 _ rfl;have z4:=I2.out.bk.c 4 _ rfl;have z5:=I2.out.bk.c 5 _ rfl;have z6:=I2.out.bk.c 6 _ rfl;have zf:=I2.out.bk.f;have FI:Hid _:=zl3 I2.out;have hne:=I2.out.qc;clear I2 EG2;go_wp2;refine bodyPost_ret (v := .tuple #[hv p fr mn 0 (.slice none 0 0) 0 [],.int .i64 0]) ?_ rfl ⟨.slice none 0 0,?_,?_,nofun,FI.out.2.1⟩
   ·exact zaS Tryz.results216 _ _ (va.heap.size+1) _ _ (by kernel_rfl) (by kernel_rfl) (run_loadVar_mid _ (va.heap.size+1) 0 237 (hc p fr mn 0 (.slice none 0 0) 0 [] []) _ FI.out.1.r Tryz.underlying237 rfl (by kernel_rfl))
   ·obtain⟨-,rfl,rfl⟩:=EZ.out (by first|rfl|trivial)
    rfl
   ·obtain⟨rfl,-,-⟩:=EZ.out (by first|rfl|trivial)
    exact FI.out.2.2
  ·have hg0:¬(g:Int)=0:=by omega
   have C1:Hid _:=zev q p fr mn g (.slice none 0 0) [] 0 [] [] wc (KH.out wc I2.out.bl) I2.out.hf;have EG:=EG2.out h0;have HT:Hid (kT=zb7 mn (b.drop 64) (hm g)):=EG.1;have HKM:Hid (kK=tkn 1 kT/\kM=mks (hm g) kT):=EG.2;clear EG EG2 EZ;go_wp2_with fail;refine cM C1.out ?_;rintro e w3 ⟨rfl,h3,hb3⟩;have I3:Hid (Fi va p fr mn g q (va.heap.size+1) (.slice none 0 0) [] 1 (hm g) w3):=I2.out.half h3 (hb3.wide fun x e => .inl e) (Nx.refl _ _);clear h3 hb3 I2 C1 k3;go_wp2;go_loopw [] (fun wr=>∃(v:Value) (ts:List Bs),Hid (Fi va p fr mn g q (va.heap.size+1) v ts (tkn 1 ts) (mks (hm g) ts) wr/\kT=ts++zb7 (mn - ts.length) (b.drop (64*tkn 1 ts)) (mks (hm g) ts)/\tkn 1 ts<=mn)) (fun wr=>zcV q mn wr)
   case atStart=>exact⟨.slice none 0 0,[],I3.out,HT.out,H1.out⟩
   case round =>
    obtain⟨v,ts,I⟩:=hrel;clear I3;obtain⟨tk,htk⟩:∃tk,tkn 1 ts=tk:=⟨_,rfl⟩;obtain⟨m,hmm⟩:∃m,mks (hm g) ts=m:=⟨_,rfl⟩;have hm16:m.length=16:=by rw[<-hmm];exact zdu ts _ rfl
    have hln:=zbW ts;have hla:=zds ts 1;have hma:=zdt ts (hm g);rw[htk] at I hln hla;rw[hmm] at I hma;have hts:ts.length < mn:=by have:=I.out.2.2;omega
    have htm:tk<=mn:=I.out.2.2;have HLA:Hid (∀t,tkn 1 (ts++[t])=tk+sn t):=hla;have HMA:Hid (∀t,mks (hm g) (ts++[t])=rmk m t):=hma;have HTK:Hid (tkn 1 ts=tk/\mks (hm g) ts=m):=⟨htk,hmm⟩;have HXS:Hid (X.size=64*mn):=by
     show X.size=_;rw[<-HX.out,zaf,HL.out]
    have RC:Hid (∀W,Kh W->Cl 287 #[.string (st (b.drop (64*tk))),.string (st m)] W fun e w'=>e = .returned (znJ (b.drop (64*tk)) m)/\Bw W w'):=fun W k=>zdA (b.drop (64*tk)) m hm16 W k
    have SLI:∀W,(Instr.slice 9 (.string X) (some (.int .i64 ((tk:Int)*64))) none none).run Tryz.prog W = .ok (.string (st (b.drop (64*tk)))) W:=fun W=>by
     have e1:X.extract (64*tk) X.size=st (b.drop (64*tk)):=by
      rw[HXS.out,<-HX.out,zco,List.take_of_length_le (by rw[HL.out];omega)]
     rw[<-e1];exact zk5 X (64*tk) _ (by omega) (by rw[HXS.out];omega) W
    have y1:IntKind.i64.wrap ((tk:Int)*64)=(tk:Int)*64:=by rw[IntKind.wrap_i64];omega
    obtain⟨R1,R2,ok,hR⟩:∃R1 R2 ok,znJ (b.drop (64*tk)) m = .tuple #[.agg #[.string R1,.string R2],.bool ok]:=by
     unfold znJ
     split
     ·exact⟨_,_,_,rfl⟩
     ·exact⟨_,_,_,rfl⟩
    rw[hR] at RC;have HR:Hid (znJ (b.drop (64*tk)) m = .tuple #[.agg #[.string R1,.string R2],.bool ok]):=hR;have IM:Hid (zcV q mn wr=mn - tk):=zew I.out.1.hf;clear htk hmm hln hla hma hR HX;have k5:=I.out.1.hf.bk.c 5 _ rfl;have k6:=I.out.1.hf.bk.c 6 _ rfl;unfold sv at k6;obtain⟨A,hA⟩:∃A,st m=A:=⟨_,rfl⟩;obtain⟨Y,hY⟩:∃Y,st (b.drop (64*tk))=Y:=⟨_,rfl⟩;rw[hA] at RC k6;rw[hY] at RC SLI;clear hA hY;have IA:Hid (Blk (wr.alloc (.cells #[.string ⟨#[]⟩,.string ⟨#[]⟩] 337)).drew wr.heap.size [.string ⟨#[]⟩,.string ⟨#[]⟩]/\Bw wr (wr.alloc (.cells #[.string ⟨#[]⟩,.string ⟨#[]⟩] 337)).drew):=⟨(Blk.new wr _ _ (by simp)).drew,(nb _ _).drew⟩;have G1:Hid (Cl 287 #[.string Y,.string A] wr.drew fun e w'=>e = .returned (.tuple #[.agg #[.string R1,.string R2],.bool ok])/\Bw wr w'):=(RC.out wr.drew (KH.out _ (I.out.1.bl.drew))).mono fun _ _ ⟨he,hb⟩=>⟨he,chain (bQ _ _).drew hb⟩
    have G2:Hid (Cl 287 #[.string Y,.string A] (wr.alloc (.cells #[.string ⟨#[]⟩,.string ⟨#[]⟩] 337)).drew fun e w'=>e = .returned (.tuple #[.agg #[.string R1,.string R2],.bool ok])/\Bw wr w'/\Blk w' wr.heap.size [.string ⟨#[]⟩,.string ⟨#[]⟩]):=(RC.out _ (KH.out _ (chain I.out.1.bl IA.out.2))).mono fun _ _ ⟨he,hb⟩=>⟨he,chain IA.out.2 hb,IA.out.1.later hb⟩
    have a5:=zab (o:=(.cells #[.string ⟨#[]⟩,.string ⟨#[]⟩] 337)) k5;have a6:=zab (o:=(.cells #[.string ⟨#[]⟩,.string ⟨#[]⟩] 337)) k6;have FA:Hid (∀w2,Bw wr w2->Hid (Fi va p fr mn g q (va.heap.size+1) v ts tk m (w2.alloc (.cells #[.string R1,.string R2] 337))/\Blk (w2.alloc (.cells #[.string R1,.string R2] 337)) w2.heap.size [.string R1,.string R2])):=fun w2 hb=>⟨(I.out.1.later hb).later (nb _ _),Blk.new w2 [.string R1,.string R2] _ (by simp)⟩
    have FB:Hid (∀w2,Bw wr w2->Blk w2 wr.heap.size [.string ⟨#[]⟩,.string ⟨#[]⟩]->Hid (Fi va p fr mn g q (va.heap.size+1) v ts tk m ((w2.setCell ⟨wr.heap.size,0,none⟩ (.string R1)).setCell ⟨wr.heap.size,1,none⟩ (.string R2))/\Blk ((w2.setCell ⟨wr.heap.size,0,none⟩ (.string R1)).setCell ⟨wr.heap.size,1,none⟩ (.string R2)) wr.heap.size [.string R1,.string R2])):=fun w2 hb bk =>
     ⟨I.out.1.later (zah (nL _) [.string R1,.string R2] 0 hb),bk.put [.string R1,.string R2] rfl⟩
    clear IA RC;go_upto_region 8 with fail
    go_cut [7,8] (fun s7 s8 wx=>∃B,s7 = .pointer (some ⟨B,0,none⟩)/\s8 = .bool ok/\Hid (Fi va p fr mn g q (va.heap.size+1) v ts tk m wx/\Blk wx B [.string R1,.string R2]))
    case first =>
     clear I;go_wp2_with fail;go_region_with (first|(go_at_call 287;with_reducible refine cM G1.out ?_;rintro e w2 ⟨rfl,hb2⟩;have q5:=cell_later hb2 k5;have q6:=cell_later hb2 k6;have b5:=zab (o:=(.cells #[.string ⟨#[]⟩,.string ⟨#[]⟩] 337)) q5;have b6:=zab (o:=(.cells #[.string ⟨#[]⟩,.string ⟨#[]⟩] 337)) q6)|(go_at_call 287;with_reducible refine cM G2.out ?_;rintro e w2 ⟨rfl,hb2,bk2⟩;have q5:=cell_later hb2 k5;have q6:=cell_later hb2 k6;have z0:=bk2.c 0 _ rfl;have z1:=bk2.c 1 _ rfl;have zf:=bk2.f))
     all_goals (go_wp2;go_meet)
     all_goals first
      | (refine⟨w2.heap.size,rfl,rfl,?_⟩;have FA':=FA.out w2 (by assumption);clear FA FB;with_reducible exact FA')
      | (refine⟨wr.heap.size,rfl,rfl,?_⟩;have FB':=FB.out w2 (by assumption) (by assumption);clear FA FB;with_reducible exact FB')
    case rest =>
     obtain⟨B,rfl,rfl,J⟩:=hcut;obtain⟨xa,xn,xc,rfl⟩:=owns_sliceS J.out.1.hf.row;have IK:Hid (kT=ts++zb7 (mn - ts.length) (b.drop (64*tk)) m):=I.out.2.1;clear I FA FB G1 G2 a5 a6 k5 k6 SLI y1;have HR':=HR.out;unfold znJ at HR';cases hro:rof (b.drop (64*tk)) m with
     | none =>
      rw[hro] at HR';injection HR' with HR'
      injection HR' with HR'
      injection HR' with e1 e2
      injection e2 with e2 e3
      injection e2 with e2
      subst e2;have EK:Hid (kT=ts/\kK=tk/\kM=m):=by
       have h1:kT=ts:=by rw[IK.out,ziI hro,List.append_nil]
       exact⟨h1,by rw[HKM.out.1,h1];exact HTK.out.1,by rw[HKM.out.2,h1];exact HTK.out.2⟩
      have k0:=J.out.1.hf.bk.c 0 _ rfl;have k1:=J.out.1.hf.bk.c 1 _ rfl;have k2:=J.out.1.hf.bk.c 2 _ rfl;have k3:=J.out.1.hf.bk.c 3 _ rfl;have k4:=J.out.1.hf.bk.c 4 _ rfl;have k5:=J.out.1.hf.bk.c 5 _ rfl;have k6:=J.out.1.hf.bk.c 6 _ rfl;have z0:=J.out.1.bk.c 0 _ rfl;have z1:=J.out.1.bk.c 1 _ rfl;have z2:=J.out.1.bk.c 2 _ rfl;have z3:=J.out.1.bk.c 3 _ rfl;have z4:=J.out.1.bk.c 4 _ rfl;have z5:=J.out.1.bk.c 5 _ rfl;have z6:=J.out.1.bk.c 6 _ rfl;have zf:=J.out.1.bk.f;have FI:Hid _:=zl3 J.out.1;have NV:Hid _:=J.out.1.nv;have hne:=J.out.1.qc;clear J HR e1 e3 IK hro;go_wp2;refine bodyPost_ret (v := .tuple #[hv p fr mn g (.slice xa xn xc) tk m,.int .i64 0]) ?_ rfl ⟨.slice xa xn xc,?_,?_,NV.out,FI.out.2.1⟩
      ·exact zaS Tryz.results216 _ _ (va.heap.size+1) _ _ (by kernel_rfl) (by kernel_rfl) (run_loadVar_mid _ (va.heap.size+1) 0 237 (hc p fr mn g (.slice xa xn xc) tk m []) _ FI.out.1.r Tryz.underlying237 rfl (by kernel_rfl))
      ·obtain⟨-,rfl,rfl⟩:=EK.out
       rfl
      ·obtain⟨rfl,-,-⟩:=EK.out
       exact FI.out.2.2
     | some t =>
      rw[hro] at HR';injection HR' with HR'
      injection HR' with HR'
      injection HR' with e1 e2
      injection e2 with e2 e3
      injection e2 with e2
      subst e2;injection e1 with e1
      injection e1 with e1
      injection e1 with e1 e4
      injection e4 with e4 e5
      injection e1 with e1
      injection e4 with e4
      have hrl:=zen hro;have hdl:64*sn t<=64*mn - 64*tk:=by
       have:=hrl.1;rw[List.length_drop,HL.out] at this;exact this
      have HS:Hid _:=zge q p fr mn g (.slice xa xn xc) ts tk m [] (rmk m t) t hrl.2.2 (by omega) (by omega) wc J.out.1.hf;unfold rv sv at HS;rw[e1,e4] at HS;have r0:=J.out.2.c 0 _ rfl;have r1:=J.out.2.c 1 _ rfl;have EK:Hid (kT=(ts++[t])++zb7 (mn - (ts++[t]).length) (b.drop (64*(tk+sn t))) (rmk m t)):=by
       show kT=_;rw[IK.out,ziJ (by omega) hro,List.length_append,List.length_singleton,List.drop_drop,show 64*tk+64*sn t=64*(tk+sn t) by omega,show mn - ts.length - 1=mn - (ts.length+1) by omega,List.append_assoc,List.singleton_append]
      have MS:Hid (zcV q mn wr=mn - tk):=IM.out;clear HR e1 e4 e3 e5 IK hro hrl;have hsn:=zf7 t;go_wp2_with fail;refine cM HS.out ?_;rintro e w5 ⟨rfl,v5,h5,hb5,hx5⟩;have I5:Hid (Fi va p fr mn g q (va.heap.size+1) v5 (ts++[t]) (tk+sn t) (rmk m t) w5):=J.out.1.half h5 hb5 hx5;have M5:Hid (zcV q mn w5=mn - (tk+sn t)):=zew h5;clear h5 hb5 hx5 HS J r0 r1;go_wp2;go_roundw
      case rel=>exact⟨v5,ts++[t],by rw[HLA.out,HMA.out];exact⟨I5.out,EK.out,by omega⟩⟩
      case measure=>rw[MS.out,M5.out];omega
def gO (s:St) (mn:Nat):Option Nat->Nat
 | none=>0
 | some fr=>gen (hb s fr mn)
def cO (s:St) (p mn:Nat) (v:Value):Option Nat->List Value
 | none=>hz0
 | some fr=>hc p fr mn (gen (hb s fr mn)) v (fK s fr mn) (fM s fr mn) []
def tO (s:St) (mn:Nat):Option Nat->List Bs
 | none=>[]
 | some fr=>fT s fr mn
def us (s:St) (mn:Nat):Nat->Option Nat
 | 0=>none
 | k+1=>if gO s mn (us s mn k) < gen (hb s (k*mn) mn) then some (k*mn) else us s mn k
theorem zbJ (s:St) (p mn:Nat) (v:Value) (o:Option Nat):(cO s p mn v o).length=7:=by cases o <;> rfl
theorem cO_g (s:St) (p mn:Nat) (v:Value) (o:Option Nat):(cO s p mn v o)[3]?=some (.int .i64 (gO s mn o:Int)):=by cases o <;> rfl
structure Us (va:Wo) (p:Nat) (s:St) (mn P c b:Nat) (o:Option Nat) (v:Value) (wr:Wo):Prop where
 bc:Blk wr c hz0
 bb:Blk wr b (cO s p mn v o)
 pl:Blk wr P [.pointer (some ⟨p,0,none⟩),.int .i64 0,.int .i64 (mn:Int),.pointer (some ⟨p,0,none⟩),.int .i64 (mn:Int),.int .i64 (mn:Int)]
 row:OwnsS wr v (tO s mn o)
 bl:Bw va wr
 nc:va.heap.size<=c
 nb:va.heap.size<=b
 cb:c≠b
 pv:P < va.heap.size
 vc:v.ownBlock≠some c
 vb:v.ownBlock≠some b
 nv:∀x,v.ownBlock=some x->va.heap.size<=x
section
variable {va:Wo} {p:Nat} {s:St} {mn P c b:Nat} {o:Option Nat} {v:Value} {wr:Wo}
theorem Us.later (h:Us va p s mn P c b o v wr) {w':Wo} (hb:Bw wr w'):Us va p s mn P c b o v w' :=
 ⟨h.bc.later hb,h.bb.later hb,h.pl.later hb,ownsRow_same h.row (fun x e=>hb.block x (h.row.lt x e).2),chain h.bl hb,h.nc,h.nb,h.cb,h.pv,h.vc,h.vb,h.nv⟩
theorem Us.better (h:Us va p s mn P c b o v wr) {o':Option Nat} {v':Value} (r:OwnsS wr v' (tO s mn o')) (hc':v'.ownBlock≠some c) (hb':v'.ownBlock≠some b) (hn:∀x,v'.ownBlock=some x->va.heap.size<=x):Us va p s mn P c b o' v' (wr.setCells b 0 (cO s p mn v' o')):=by
 have hx:∀x,x≠b->(wr.setCells b 0 (cO s p mn v' o')).heap[x]?=wr.heap[x]?:=fun x e=>zac wr b 0 _ x e
 have:=h.pv;have:=h.nb;exact⟨h.bc.same (hx c h.cb),h.bb.put _ (by rw[zbJ,zbJ]),h.pl.same (hx P (by omega)),ownsRow_same r (fun x e=>hx x (fun d=>hb' (by rw[e,d]))),zah h.nb _ 0 h.bl,h.nc,h.nb,h.cb,h.pv,hc',hb',hn⟩
theorem Us.ret (h:Us va p s mn P c b o v wr):Blk (wr.setCells c 0 (cO s p mn v o)) c (cO s p mn v o)/\Bw va (wr.setCells c 0 (cO s p mn v o))/\OwnsS (wr.setCells c 0 (cO s p mn v o)) v (tO s mn o) :=
 ⟨h.bc.put _ (by rw[zbJ];rfl),zah h.nc _ 0 h.bl,ownsRow_same h.row (fun x e=>zac wr c 0 _ x (fun d=>h.vc (by rw[e,d])))⟩
end
theorem Blk.ex {w:Wo} {b:Nat} {cs:List Value} (h:Blk w b cs) (j:Nat) (hj:j < cs.length):∃x,w.cell? ⟨b,j,none⟩=some x:=⟨_,h.c j _ (List.getElem?_eq_getElem hj)⟩
theorem zff (w va:Wo) (p:Nat) (F:Nat->Prop) (s:St) (mn P:Nat) (h1:1<=mn) (h2:2*mn<=s.n) (hd:s.down=true) (h:Hid (Dl w va p F s)) (hp:Hid (Blk va P [.pointer (some ⟨p,0,none⟩),.int .i64 0,.int .i64 (mn:Int),.pointer (some ⟨p,0,none⟩),.int .i64 (mn:Int),.int .i64 (mn:Int)])) :
  Cl 138 #[.slice (some ⟨P,0,none⟩) 2 2] va fun e w'=>e = .returned (.tuple #[.agg hz0.toArray,.int .i64 150])/\Bw va w':=by
 have I0:Hid (Us va p s mn P va.heap.size (va.heap.size+1) none (.slice none 0 0) ((va.alloc (.cells hz0.toArray 237)).alloc (.cells hz0.toArray 237))) :=
  ⟨(Blk.new va hz0 _ (by simp)).later (nb _ _),zct va _ hz0 _ (by simp),hp.out.later (chain (nb _ _) (nb _ _)),zan _,chain (nb _ _) (nb _ _),nL _,Nat.le_succ _,by omega,hp.out.lt,nofun,nofun,nofun⟩
 have gm:mn<=512:=by have:=h.out.at_.1.n2;omega
 have FD:Hid (∀W,Bw va W->Cl 216 #[.agg #[.pointer (some ⟨p,0,none⟩),.int .i64 0,.int .i64 (mn:Int)]] W fun e w'=>e = .returned (.tuple #[.agg hz0.toArray,.int .i64 150])/\Bw W w'):=fun W hb=>zgX w W p F s 0 mn h1 (by omega) hd (h.out.later hb)
 clear h hp h1 h2 hd;go_enter Tryz.func138, Tryz.ntmps138;go_wp2;go_loopw [11] (fun i wr=>i = .int .i64 0/\Hid (Us va p s mn P va.heap.size (va.heap.size+1) none (.slice none 0 0) wr)) (fun _ _=>0)
 case atStart=>exact⟨rfl,I0.out⟩
 case round =>
  obtain⟨rfl,I⟩:=hrel;clear I0;have c0:=I.out.pl.c 0 _ rfl;have c1:=I.out.pl.c 1 _ rfl;have c2:=I.out.pl.c 2 _ rfl;have I1:Hid (Us va p s mn P va.heap.size (va.heap.size+1) none (.slice none 0 0) (wr.alloc (.cells #[.pointer (some ⟨p,0,none⟩),.int .i64 0,.int .i64 (mn:Int)] 235))):=I.out.later (nb _ _);clear I;go_wp2_with fail;refine cM (FD.out _ I1.out.bl) ?_;rintro e w2 ⟨rfl,hb2⟩;have I2:Hid (Us va p s mn P va.heap.size (va.heap.size+1) none (.slice none 0 0) (w2.alloc (.cells #[.pointer none,.int .i64 0,.int .i64 0,.int .i64 0,.slice none 0 0,.int .i64 0,.string ⟨#[]⟩] 237))):=(I1.out.later hb2).later (nb _ _);clear I1 hb2 c0 c1 c2 FD;have z0:=I2.out.bc.c 0 _ rfl;have z1:=I2.out.bc.c 1 _ rfl;have z2:=I2.out.bc.c 2 _ rfl;have z3:=I2.out.bc.c 3 _ rfl;have z4:=I2.out.bc.c 4 _ rfl;have z5:=I2.out.bc.c 5 _ rfl;have z6:=I2.out.bc.c 6 _ rfl;have zf:=I2.out.bc.f;have FI:Hid (Blk ((w2.alloc (.cells #[.pointer none,.int .i64 0,.int .i64 0,.int .i64 0,.slice none 0 0,.int .i64 0,.string ⟨#[]⟩] 237)).setCells va.heap.size 0 hz0) va.heap.size hz0/\Bw va ((w2.alloc (.cells #[.pointer none,.int .i64 0,.int .i64 0,.int .i64 0,.slice none 0 0,.int .i64 0,.string ⟨#[]⟩] 237)).setCells va.heap.size 0 hz0)):=⟨I2.out.bc.put _ rfl,zah (nL _) _ 0 I2.out.bl⟩;clear I2;go_wp2;refine bodyPost_ret (v := .tuple #[.agg hz0.toArray,.int .i64 150]) ?_ rfl ⟨rfl,FI.out.2⟩
  exact zaS Tryz.results138 _ _ va.heap.size _ _ (by kernel_rfl) (by kernel_rfl) (run_loadVar_mid _ va.heap.size 0 237 hz0 _ FI.out.1.r Tryz.underlying237 rfl (by kernel_rfl))
theorem zex (w va:Wo) (p:Nat) (F:Nat->Prop) (s:St) (mn P:Nat) (h1:1<=mn) (h2:2*mn<=s.n) (hd:s.down=false) (hk:Hid (Kh w)) (h:Hid (Dl w va p F s)) (hp:Hid (Blk va P [.pointer (some ⟨p,0,none⟩),.int .i64 0,.int .i64 (mn:Int),.pointer (some ⟨p,0,none⟩),.int .i64 (mn:Int),.int .i64 (mn:Int)])) :
  Cl 138 #[.slice (some ⟨P,0,none⟩) 2 2] va fun e w'=>∃v,e = .returned (.tuple #[.agg (cO s p mn v (us s mn 2)).toArray,.int .i64 0])/\OwnsS w' v (tO s mn (us s mn 2))/\(∀x,v.ownBlock=some x->va.heap.size<=x)/\Bw va w':=by
 have I0:Hid (Us va p s mn P va.heap.size (va.heap.size+1) none (.slice none 0 0) ((va.alloc (.cells hz0.toArray 237)).alloc (.cells hz0.toArray 237))) :=
  ⟨(Blk.new va hz0 _ (by simp)).later (nb _ _),zct va _ hz0 _ (by simp),hp.out.later (chain (nb _ _) (nb _ _)),zan _,chain (nb _ _) (nb _ _),nL _,Nat.le_succ _,by omega,hp.out.lt,nofun,nofun,nofun⟩
 have gm:mn<=512:=by have:=h.out.at_.1.n2;omega
 have FU:Hid (∀W fr,Bw va W->fr+mn<=s.n->Cl 216 #[.agg #[.pointer (some ⟨p,0,none⟩),.int .i64 (fr:Int),.int .i64 (mn:Int)]] W fun e w'=>FdP W p s fr mn e w'):=fun W fr hb hf=>zk6 w W p F s fr mn h1 hf hd hk (h.out.later hb)
 have H2:Hid (2*mn<=s.n):=h2;clear h hp hk h1 h2 hd;go_enter Tryz.func138, Tryz.ntmps138;go_wp2;go_loopw [11] (fun i wr=>∃(k:Nat) (v:Value),k<=2/\i = .int .i64 (k:Int)/\Hid (Us va p s mn P va.heap.size (va.heap.size+1) (us s mn k) v wr)) (fun i _=>2 - (intOf i).toNat)
 case atStart=>exact⟨0,_,by decide,rfl,I0.out⟩
 case round =>
  obtain⟨k,v,hk2,rfl,I⟩:=hrel;clear I0;by_cases hlt:k < 2
  ·have HU:Hid (us s mn (k+1)=if gO s mn (us s mn k) < gen (hb s (k*mn) mn) then some (k*mn) else us s mn k):=rfl
   obtain⟨o,ho⟩:∃o,us s mn k=o:=⟨_,rfl⟩;rw[ho] at I HU;clear ho;obtain⟨fr,hfr⟩:∃fr,k*mn=fr:=⟨_,rfl⟩;rw[hfr] at HU;have CP:wr.cell? ⟨P,k*3,none⟩=some (.pointer (some ⟨p,0,none⟩))/\wr.cell? ⟨P,k*3+1,none⟩=some (.int .i64 (fr:Int))/\wr.cell? ⟨P,k*3+2,none⟩=some (.int .i64 (mn:Int))/\fr+mn<=s.n/\fr<=512:=by
    have:=H2.out;rcases (by omega:k=0\/k=1) with rfl|rfl
    ·have e:fr=0:=by omega
     subst e;exact⟨I.out.pl.c 0 _ rfl,I.out.pl.c 1 _ rfl,I.out.pl.c 2 _ rfl,by omega,by omega⟩
    ·have e:fr=mn:=by omega
     subst e;exact⟨I.out.pl.c 3 _ rfl,I.out.pl.c 4 _ rfl,I.out.pl.c 5 _ rfl,by omega,by omega⟩
   obtain⟨c0,c1,c2,c3,c4⟩:=CP;have I1:Hid (Us va p s mn P va.heap.size (va.heap.size+1) o v (wr.alloc (.cells #[.pointer (some ⟨p,0,none⟩),.int .i64 (fr:Int),.int .i64 (mn:Int)] 235))):=I.out.later (nb _ _);have g1:(k:Int) < 2:=by omega
   have F1:Hid _:=FU.out _ fr I1.out.bl c3;have I1N:Hid (va.heap.size+2<=wr.heap.size):=I.out.bb.lt;clear I hfr;go_wp2_with fail;refine cM F1.out ?_;rintro e w2 ⟨v2,rfl,r2,n2,b2⟩;obtain⟨xa,xn,xc,rfl⟩:=owns_sliceS r2;have I2:Hid (Us va p s mn P va.heap.size (va.heap.size+1) o v w2/\OwnsS w2 (.slice xa xn xc) (fT s fr mn)/\(∀x,(Value.slice xa xn xc).ownBlock=some x->wr.heap.size<=x)):=⟨I1.out.later b2,r2,fun x e=>by have:=n2 x e;simp at this;omega⟩;have N2:Hid (va.heap.size+2<=wr.heap.size):=I1N.out;clear r2 n2 b2 I1 F1 c0 c1 c2;have HO:Hid (cO s p mn (.slice xa xn xc) (some fr)=hc p fr mn (gen (hb s fr mn)) (.slice xa xn xc) (fK s fr mn) (fM s fr mn) []/\tO s mn (some fr)=fT s fr mn):=⟨rfl,rfl⟩;obtain⟨g,hg⟩:∃g,gen (hb s fr mn)=g:=⟨_,rfl⟩;obtain⟨tk,htk⟩:∃tk,fK s fr mn=tk:=⟨_,rfl⟩;obtain⟨m,hmm⟩:∃m,fM s fr mn=m:=⟨_,rfl⟩;rw[hg,htk,hmm] at HO;rw[hg] at HU;rw[hg,htk,hmm];clear hg htk hmm;have e7:hv p fr mn g (.slice xa xn xc) tk m = .agg #[.pointer (some ⟨p,0,none⟩),.int .i64 (fr:Int),.int .i64 (mn:Int),.int .i64 (g:Int),.slice xa xn xc,.int .i64 (tk:Int),.string (st m)]:=rfl;rw[e7];clear e7
   have I3:Hid (Us va p s mn P va.heap.size (va.heap.size+1) o v (w2.alloc (.cells #[.pointer (some ⟨p,0,none⟩),.int .i64 (fr:Int),.int .i64 (mn:Int),.int .i64 (g:Int),.slice xa xn xc,.int .i64 (tk:Int),.string (st m)] 237))/\OwnsS (w2.alloc (.cells #[.pointer (some ⟨p,0,none⟩),.int .i64 (fr:Int),.int .i64 (mn:Int),.int .i64 (g:Int),.slice xa xn xc,.int .i64 (tk:Int),.string (st m)] 237)) (.slice xa xn xc) (fT s fr mn)):=⟨I2.out.1.later (nb _ _),ownsRow_same I2.out.2.1 (fun x e=>(nb w2 (.cells #[.pointer (some ⟨p,0,none⟩),.int .i64 (fr:Int),.int .i64 (mn:Int),.int .i64 (g:Int),.slice xa xn xc,.int .i64 (tk:Int),.string (st m)] 237)).block x (I2.out.2.1.lt x e).2)⟩;have NN:Hid ((Value.slice xa xn xc).ownBlock≠some va.heap.size/\(Value.slice xa xn xc).ownBlock≠some (va.heap.size+1)/\∀x,(Value.slice xa xn xc).ownBlock=some x->va.heap.size<=x):=by
    have h1:=N2.out;exact⟨fun e=>by have:=I2.out.2.2 _ e;omega,fun e=>by have:=I2.out.2.2 _ e;omega,fun x e=>by have:=I2.out.2.2 _ e;omega⟩
   have q3:=I3.out.1.bb.c 3 _ (cO_g s p mn v o);obtain⟨y,hy⟩:∃y,gO s mn o=y:=⟨_,rfl⟩;rw[hy] at q3 HU;clear hy I2;by_cases hgt:y < g
   ·have g2:(y:Int) < (g:Int):=by omega
    rw[if_pos hgt] at HU;obtain⟨x0,q0⟩:=I3.out.1.bb.ex 0 (by rw[zbJ];decide);obtain⟨x1,q1⟩:=I3.out.1.bb.ex 1 (by rw[zbJ];decide);obtain⟨x2,q2⟩:=I3.out.1.bb.ex 2 (by rw[zbJ];decide);obtain⟨x4,q4⟩:=I3.out.1.bb.ex 4 (by rw[zbJ];decide);obtain⟨x5,q5⟩:=I3.out.1.bb.ex 5 (by rw[zbJ];decide);obtain⟨x6,q6⟩:=I3.out.1.bb.ex 6 (by rw[zbJ];decide);have qf:=I3.out.1.bb.f;have FI:Hid (Us va p s mn P va.heap.size (va.heap.size+1) (some fr) (.slice xa xn xc) ((w2.alloc (.cells #[.pointer (some ⟨p,0,none⟩),.int .i64 (fr:Int),.int .i64 (mn:Int),.int .i64 (g:Int),.slice xa xn xc,.int .i64 (tk:Int),.string (st m)] 237)).setCells (va.heap.size+1) 0 (hc p fr mn g (.slice xa xn xc) tk m []))):=by
     have:=I3.out.1.better (o':=some fr) (v' := .slice xa xn xc) I3.out.2 NN.out.1 NN.out.2.1 NN.out.2.2;rw[HO.out.1] at this;exact this
    clear I3 HO NN;go_wp2;go_roundw
    case rel=>exact⟨k+1,.slice xa xn xc,by omega,rfl,by rw[HU.out];exact FI.out⟩
    case measure=>simp[intOf];omega
   ·have g2:¬(y:Int) < (g:Int):=by omega
    rw[if_neg hgt] at HU;have FI:Hid (Us va p s mn P va.heap.size (va.heap.size+1) o v (w2.alloc (.cells #[.pointer (some ⟨p,0,none⟩),.int .i64 (fr:Int),.int .i64 (mn:Int),.int .i64 (g:Int),.slice xa xn xc,.int .i64 (tk:Int),.string (st m)] 237))):=I3.out.1;clear I3 HO NN;go_wp2;go_roundw
    case rel=>exact⟨k+1,v,by omega,rfl,by rw[HU.out];exact FI.out⟩
    case measure=>simp[intOf];omega
  ·obtain rfl:k=2:=by omega
   obtain⟨o,ho⟩:∃o,us s mn 2=o:=⟨_,rfl⟩;rw[ho] at I;have HO:Hid (us s mn 2=o):=ho;clear ho;obtain⟨xa,xn,xc,rfl⟩:=owns_sliceS I.out.row;have z0:=I.out.bc.c 0 _ rfl;have z1:=I.out.bc.c 1 _ rfl;have z2:=I.out.bc.c 2 _ rfl;have z3:=I.out.bc.c 3 _ rfl;have z4:=I.out.bc.c 4 _ rfl;have z5:=I.out.bc.c 5 _ rfl;have z6:=I.out.bc.c 6 _ rfl;have zf:=I.out.bc.f;have FI:Hid _:=I.out.ret;have NV:Hid _:=I.out.nv;cases o with
   | none =>
    have k0:=I.out.bb.c 0 _ rfl;have k1:=I.out.bb.c 1 _ rfl;have k2:=I.out.bb.c 2 _ rfl;have k3:=I.out.bb.c 3 _ rfl;have k4:=I.out.bb.c 4 _ rfl;have k5:=I.out.bb.c 5 _ rfl;have k6:=I.out.bb.c 6 _ rfl;clear I;go_wp2;refine bodyPost_ret (v := .tuple #[.agg (cO s p mn (.slice xa xn xc) none).toArray,.int .i64 0]) ?_ rfl ⟨.slice xa xn xc,by rw[HO.out],by rw[HO.out];exact FI.out.2.2,NV.out,FI.out.2.1⟩;exact zaS Tryz.results138 _ _ va.heap.size _ _ (by kernel_rfl) (by kernel_rfl) (run_loadVar_mid _ va.heap.size 0 237 (cO s p mn (.slice xa xn xc) none) _ FI.out.1.r Tryz.underlying237 rfl (by kernel_rfl))
   | some fr =>
    have k0:=I.out.bb.c 0 _ rfl;have k1:=I.out.bb.c 1 _ rfl;have k2:=I.out.bb.c 2 _ rfl;have k3:=I.out.bb.c 3 _ rfl;have k4:=I.out.bb.c 4 _ rfl;have k5:=I.out.bb.c 5 _ rfl;have k6:=I.out.bb.c 6 _ rfl;clear I;go_wp2;refine bodyPost_ret (v := .tuple #[.agg (cO s p mn (.slice xa xn xc) (some fr)).toArray,.int .i64 0]) ?_ rfl ⟨.slice xa xn xc,by rw[HO.out],by rw[HO.out];exact FI.out.2.2,NV.out,FI.out.2.1⟩;exact zaS Tryz.results138 _ _ va.heap.size _ _ (by kernel_rfl) (by kernel_rfl) (run_loadVar_mid _ va.heap.size 0 237 (cO s p mn (.slice xa xn xc) (some fr)) _ FI.out.1.r Tryz.underlying237 rfl (by kernel_rfl))
def zey (P:Wo->Prop) (E:Int->Wo->Prop) (e:Ending) (w':Wo):Prop:=∃x,e = .returned (.int .i64 x)/\(x=0/\P w'\/x≠0/\E x w')
def fsv (q p fr mn:Nat):List Value:=[.func (.func 141) #[.pointer (some ⟨q,0,none⟩)] #[],.func (.func 218) #[.pointer (some ⟨q,0,none⟩)] #[],.func (.func 209) #[plc p fr mn] #[],.func (.func 219) #[.pointer (some ⟨q,0,none⟩)] #[],.func (.func 209) #[plc p fr mn] #[]]
theorem zez (q p fr mn C:Nat) (P:Nat->Wo->Prop) (E:Int->Wo->Prop)
  (hc:Hid (∀k wr,k < 5->P k wr->Blk wr C (fsv q p fr mn)))
  (S0:Hid (∀wr,P 0 wr->Cl 141 #[.pointer (some ⟨q,0,none⟩)] wr fun e w'=>zey (P 1) E e w'))
  (S1:Hid (∀wr,P 1 wr->Cl 218 #[.pointer (some ⟨q,0,none⟩)] wr fun e w'=>zey (P 2) E e w'))
  (S2:Hid (∀wr,P 2 wr->Cl 209 #[plc p fr mn] wr fun e w'=>zey (P 3) E e w'))
  (S3:Hid (∀wr,P 3 wr->Cl 219 #[.pointer (some ⟨q,0,none⟩)] wr fun e w'=>zey (P 4) E e w'))
  (S4:Hid (∀wr,P 4 wr->Cl 209 #[plc p fr mn] wr fun e w'=>zey (P 5) E e w'))
  (va:Wo) (h:Hid (P 0 va)):Cl 217 #[.slice (some ⟨C,0,none⟩) 5 5] va fun e w'=>zey (P 5) E e w':=by
 unfold plc at *;go_enter Tryz.func217, Tryz.ntmps217;go_wp2;go_loopw [8] (fun i wr=>∃k:Nat,k<=5/\i = .int .i64 (k:Int)/\Hid (P k wr)) (fun i _=>5 - (intOf i).toNat)
 case atStart=>exact⟨0,by decide,rfl,h.out⟩
 case round =>
  obtain⟨k,hk5,rfl,I⟩:=hrel;clear h;by_cases hlt:k < 5
  ·have B:=hc.out k wr hlt I.out
   rcases (by omega:k=0\/k=1\/k=2\/k=3\/k=4) with rfl|rfl|rfl|rfl|rfl
   ·have c0:=B.c 0 _ rfl
    have ST:Hid _:=S0.out wr I.out;clear S0 S1 S2 S3 S4 hc B I;unfold plc at *;go_wp2_with fail;refine cM ST.out ?_;rintro e w1 ⟨x,rfl,hx⟩;by_cases h0:x=0
    ·subst h0
     have J:Hid (P 1 w1):=by
      rcases hx with ⟨-,h⟩|⟨h,-⟩
      ·exact h
      ·exact absurd rfl h
     clear hx c0 ST;go_wp2;go_roundw
     case rel=>exact⟨1,by decide,rfl,J.out⟩
     case measure=>simp[intOf]
    ·have J:Hid (E x w1):=by
      rcases hx with ⟨h,-⟩|⟨-,h⟩
      ·exact absurd h h0
      ·exact h
     clear hx c0 ST;go_wp2;go_ret;exact⟨x,rfl,.inr ⟨h0,J.out⟩⟩
   ·have c0:=B.c 1 _ rfl
    have ST:Hid _:=S1.out wr I.out;clear S0 S1 S2 S3 S4 hc B I;unfold plc at *;go_wp2_with fail;refine cM ST.out ?_;rintro e w1 ⟨x,rfl,hx⟩;by_cases h0:x=0
    ·subst h0
     have J:Hid (P 2 w1):=by
      rcases hx with ⟨-,h⟩|⟨h,-⟩
      ·exact h
      ·exact absurd rfl h
     clear hx c0 ST;go_wp2;go_roundw
     case rel=>exact⟨2,by decide,rfl,J.out⟩
     case measure=>simp[intOf]
    ·have J:Hid (E x w1):=by
      rcases hx with ⟨h,-⟩|⟨-,h⟩
      ·exact absurd h h0
      ·exact h
     clear hx c0 ST;go_wp2;go_ret;exact⟨x,rfl,.inr ⟨h0,J.out⟩⟩
   ·have c0:=B.c 2 _ rfl
    have ST:Hid _:=S2.out wr I.out;clear S0 S1 S2 S3 S4 hc B I;unfold plc at *;go_wp2_with fail;refine cM ST.out ?_;rintro e w1 ⟨x,rfl,hx⟩;by_cases h0:x=0
    ·subst h0
     have J:Hid (P 3 w1):=by
      rcases hx with ⟨-,h⟩|⟨h,-⟩
      ·exact h
      ·exact absurd rfl h
     clear hx c0 ST;go_wp2;go_roundw
     case rel=>exact⟨3,by decide,rfl,J.out⟩
     case measure=>simp[intOf]
    ·have J:Hid (E x w1):=by
      rcases hx with ⟨h,-⟩|⟨-,h⟩
      ·exact absurd h h0
      ·exact h
     clear hx c0 ST;go_wp2;go_ret;exact⟨x,rfl,.inr ⟨h0,J.out⟩⟩
   ·have c0:=B.c 3 _ rfl
    have ST:Hid _:=S3.out wr I.out;clear S0 S1 S2 S3 S4 hc B I;unfold plc at *;go_wp2_with fail;refine cM ST.out ?_;rintro e w1 ⟨x,rfl,hx⟩;by_cases h0:x=0
    ·subst h0
     have J:Hid (P 4 w1):=by
      rcases hx with ⟨-,h⟩|⟨h,-⟩
      ·exact h
      ·exact absurd rfl h
     clear hx c0 ST;go_wp2;go_roundw
     case rel=>exact⟨4,by decide,rfl,J.out⟩
     case measure=>simp[intOf]
    ·have J:Hid (E x w1):=by
      rcases hx with ⟨h,-⟩|⟨-,h⟩
      ·exact absurd h h0
      ·exact h
     clear hx c0 ST;go_wp2;go_ret;exact⟨x,rfl,.inr ⟨h0,J.out⟩⟩
   ·have c0:=B.c 4 _ rfl
    have ST:Hid _:=S4.out wr I.out;clear S0 S1 S2 S3 S4 hc B I;unfold plc at *;go_wp2_with fail;refine cM ST.out ?_;rintro e w1 ⟨x,rfl,hx⟩;by_cases h0:x=0
    ·subst h0
     have J:Hid (P 5 w1):=by
      rcases hx with ⟨-,h⟩|⟨h,-⟩
      ·exact h
      ·exact absurd rfl h
     clear hx c0 ST;go_wp2;go_roundw
     case rel=>exact⟨5,by decide,rfl,J.out⟩
     case measure=>simp[intOf]
    ·have J:Hid (E x w1):=by
      rcases hx with ⟨h,-⟩|⟨-,h⟩
      ·exact absurd h h0
      ·exact h
     clear hx c0 ST;go_wp2;go_ret;exact⟨x,rfl,.inr ⟨h0,J.out⟩⟩
  ·obtain rfl:k=5:=by omega
   have FF:Hid (P 5 wr):=I.out;clear S0 S1 S2 S3 S4 hc;go_wp2;go_ret;exact⟨0,rfl,.inl ⟨rfl,FF.out⟩⟩
def zbq (w:Wo) (a:Option Addr) (l:List Bs):Prop:=∀i (hi:i < l.length),∃b o,a=some ⟨b,o,none⟩/\w.cell? ⟨b,o+i,none⟩=some (sv l[i])
theorem zbq.nil (w:Wo) (a:Option Addr):zbq w a []:=fun _ hi=>absurd hi (Nat.not_lt_zero _)
theorem zbq.later {w w':Wo} {a:Option Addr} {l:List Bs} (h:zbq w a l) (hb:Bw w w'):zbq w' a l:=fun i hi=>by
 obtain⟨b,o,e,hc⟩:=h i hi;exact⟨b,o,e,cell_later hb hc⟩
def Ap (a:Option Addr) (l:List Bs) (G:Nat->Prop):Prop:=∀x,a=some x->0 < l.length->¬G x.block
theorem zbq.lt {w:Wo} {a:Option Addr} {l:List Bs} (h:zbq w a l):∀x,a=some x->0 < l.length->x.block < w.heap.size:=fun x e h0=>by
 obtain⟨b,o,e',hc⟩:=h 0 h0;rw[e'] at e;injection e with e
 subst e;exact World.block_lt_of_cell? _ _ hc
theorem zbq.bf {w w':Wo} {a:Option Addr} {l:List Bs} (h:zbq w a l) {G:Nat->Prop} (hb:Bf G w w') (ha:Ap a l G):zbq w' a l:=fun i hi=>by
 obtain⟨b,o,e,hc⟩:=h i hi;exact⟨b,o,e,hb.cell hc (show ¬G b from ha ⟨b,o,none⟩ e (by omega))⟩
theorem Ap.nx {w:Wo} {a:Option Addr} {l:List Bs} {G G':Nat->Prop} (ha:Ap a l G) (h:zbq w a l) (hx:Nx w G G'):Ap a l G':=fun x e h0=>hx.apart (ha x e h0) (h.lt x e h0)
theorem ziK:∀(bs:List Bs) (s:St) (k:Nat),(wrs s k bs).2.l.length<=s.l.length+bs.length
 | [],_,_=>nL _
 | b::bs,s,k=>by
  rw[wrs];have h1:=zdB s (k:Int) b;by_cases h:wrE s (k:Int) b=0
  ·rw[zao h]
   have:=ziK bs (wrS s (k:Int) b) (k+1);rw[List.length_cons];exact Nat.le_trans this (by omega)
  ·rw[zaA h,List.length_cons]
   exact Nat.le_trans h1 (by omega)
theorem zcv (s:St) (k:Nat) (b:Bs):(wrb s k b).2.l.length<=s.l.length+b.length / 64:=by
 have:=ziK (chs (b.length / 64) b) s k;rw[zaL] at this;exact this
structure Fl (w va:Wo) (p:Nat) (F:Nat->Prop) (s:St) (q fr mn g:Nat) (v:Value) (a:Option Addr) (n c:Nat) (l:List Bs) (r:Int×St) (k:Nat) (wr:Wo) (F':Nat->Prop) (s':St) (v':Value):Prop where
 hd:HD w wr p F' s' q fr mn g v' (l.take k) (tkn 1 (l.take k)) (mks (hm g) (l.take k)) [.slice a n c]
 nx:Nx2 va F q v F' v'
 bf:Bf (FH F q v) va wr
 ln:s'.l.length+1<=s.l.length+tkn 1 (l.take k)
 eq:r=pts s' fr (tkn 1 (l.take k)) (mks (hm g) (l.take k)) (l.drop k)
 tx:zbq wr a l
def FlP (w va:Wo) (p:Nat) (F:Nat->Prop) (q fr mn g:Nat) (v:Value) (more:List Value) (l:List Bs) (y:Int×St) (w':Wo):Prop :=
 ∃F' v' ts' tk' m',Nx2 va F q v F' v'/\Bf (FH F q v) va w'/\HD w w' p F' y.2 q fr mn g v' ts' tk' m' more/\(y.1=0->ts'=l/\tk'=tkn 1 l/\m'=mks (hm g) l)
theorem zk7 (l:List Bs) (k:Nat) (hk:k < l.length):tkn 1 (l.take (k+1))=tkn 1 (l.take k)+sn l[k]:=by
 rw[List.take_succ_eq_append_getElem hk,zds]
theorem zk8 (a:Bs) (l:List Bs) (k:Nat) (hk:k < l.length):mks a (l.take (k+1))=rmk (mks a (l.take k)) l[k]:=by
 rw[List.take_succ_eq_append_getElem hk,zdt]
theorem zgg (l:List Bs) (k:Nat):tkn 1 (l.take k)<=tkn 1 l:=by
 rw[zaY,zaY];have:∀(l:List Bs) (k:Nat),sns (l.take k)<=sns l:=fun l=>by
  induction l with
  | nil=>intro k;rw[List.take_nil];exact nL _
  | cons t l ih =>
   intro k;cases k with
   | zero=>exact Nat.zero_le _
   | succ k=>rw[List.take_succ_cons,sns,sns];have:=ih k;omega
 have:=this l k;omega
theorem ziL (w va:Wo) (p:Nat) (F:Nat->Prop) (s:St) (q fr mn g:Nat) (v:Value) (tk:Nat) (m:Bs) (a:Option Addr) (n c:Nat) (l:List Bs) (hn:l.length=n) (ht:∀t∈l,t.length<=2000) (hs:tkn 1 l<=mn) (hz:fr+mn<=3000) (hl:s.l.length+mn+200<=1000000) (hk:Hid (Kh w)) (h:Hid (HD w va p F s q fr mn g v [] tk m [.slice a n c])) (hx:Hid (zbq va a l)) (ha:Hid (Ap a l (FH F q v))) :
  Cl 218 #[.pointer (some ⟨q,0,none⟩)] va fun e w'=>e = .returned (.int .i64 (pts s fr 1 (hm g) l).1)/\FlP w va p F q fr mn g v [.slice a n c] l (pts s fr 1 (hm g) l) w':=by
 have GO:Hid _:=zev q p fr mn g v [] tk m [.slice a n c] va (h.out.kh hk.out) h.out.hf;obtain⟨r,hr⟩:∃r,pts s fr 1 (hm g) l=r:=⟨_,rfl⟩;rw[hr];have HLL:Hid (∀t∈l,t.length<=2000):=ht;have HN:Hid (l.length=n):=hn;have hnn:n<=5000:=by
  have:=zbW l;omega
 have I0:Hid (∀W,Hf W q p fr mn g v [] 1 (hm g) [.slice a n c]->Bf (fun x=>x=q) va W->Fl w va p F s q fr mn g v a n c l r 0 W F s v):=fun W k hb=>by
  have hw:∀x,x=q->FH F q v x:=fun x e => .inr (.inl e)
  exact⟨h.out.half k (hb.wide fun x e => .inl e) (Nx.refl _ _),Nx2.refl _ _ _ _,hb.wide hw,nL _,hr.symm,hx.out.bf (hb.wide hw) ha.out⟩
 have HAP:Hid (∀(W:Wo) (G':Nat->Prop),Nx va (FH F q v) G'->Ap a l G'):=fun W G' k=>ha.out.nx hx.out k
 have AD:Hid (∀W F' s' v' (k:Nat) (hk':k < l.length),s'.l.length+100<=1000000->HD w W p F' s' q fr mn g v' (l.take k) (tkn 1 (l.take k)) (mks (hm g) (l.take k)) [.slice a n c]->Cl 206 #[.pointer (some ⟨q,0,none⟩),sv l[k]] W fun e w'=>e = .returned (.int .i64 (wrb s' (fr+tkn 1 (l.take k)) (rcd (mks (hm g) (l.take k)) l[k])).1)/\AdP w W p F' q fr mn g v' (l.take k) (tkn 1 (l.take k)) (mks (hm g) (l.take k)) [.slice a n c] l[k] (wrb s' (fr+tkn 1 (l.take k)) (rcd (mks (hm g) (l.take k)) l[k])) w'):=fun W F' s' v' k hk' hb hd =>
  zgf w W p F' s' q fr mn g v' (l.take k) _ _ _ l[k] (zdu _ _ rfl) (ht _ (List.getElem_mem hk')) (by rw[List.length_take];omega) (by have:=zgg l k;omega) hb hk hd
 clear hr h hx ha hk ht hn;go_enter Tryz.func218, Tryz.ntmps218;go_wp2_with fail;refine cM GO.out ?_;rintro e w1 ⟨rfl,h1,h2⟩;have I1:Hid _:=I0.out w1 h1 h2;clear h1 h2 GO I0;have k7:=I1.out.hd.hf.bk.c 7 _ rfl;go_wp2;clear k7;go_loopw [15] (fun i wr=>∃(k:Nat) (F':Nat->Prop) (s':St) (v':Value),k<=n/\i = .int .i64 (k:Int)/\Hid (Fl w va p F s q fr mn g v a n c l r k wr F' s' v')) (fun i _=>n - (intOf i).toNat)
 case atStart=>exact⟨0,F,s,v,Nat.zero_le _,rfl,I1.out⟩
 case round =>
  obtain⟨k,F',s',v',hkn,rfl,I⟩:=hrel;clear I1;by_cases hlt:k < n
  ·have hkl:k < l.length:=by rw[HN.out];exact hlt
   have g1:(k:Int) < (n:Int):=by omega
   obtain⟨b,o,rfl,c0⟩:=I.out.tx k hkl;have hr2:=I.out.eq;rw[List.drop_eq_getElem_cons hkl,pts] at hr2;have hln:=I.out.ln;have hmo:=zgg l k;have A1:Hid _:=AD.out wr F' s' v' k hkl (by omega) I.out.hd;have HW:=zcv s' (fr+tkn 1 (l.take k)) (rcd (mks (hm g) (l.take k)) l[k]);rw[zaF,show 64*sn l[k] / 64=sn l[k] by omega] at HW;have EK:=zk7 l k hkl;have EM:=zk8 (hm g) l k hkl;have ET:l.take (k+1)=l.take k++[l[k]]:=List.take_succ_eq_append_getElem hkl;obtain⟨y,hy⟩:∃y,wrb s' (fr+tkn 1 (l.take k)) (rcd (mks (hm g) (l.take k)) l[k])=y:=⟨_,rfl⟩;rw[hy] at hr2 A1 HW;obtain⟨t,ht⟩:∃t,l[k]=t:=⟨_,rfl⟩;rw[ht] at A1 c0 EK EM ET hr2 HW;have HR:Hid (r=thn y fun s''=>pts s'' fr (tkn 1 (l.take k)+sn t) (rmk (mks (hm g) (l.take k)) t) (l.drop (k+1))):=hr2;have HEQ:Hid (tkn 1 (l.take (k+1))=tkn 1 (l.take k)+sn t/\mks (hm g) (l.take (k+1))=rmk (mks (hm g) (l.take k)) t/\l.take (k+1)=l.take k++[t]):=⟨EK,EM,ET⟩;have HLN:Hid (y.2.l.length+1<=s.l.length+(tkn 1 (l.take k)+sn t)):=(show y.2.l.length+1<=s.l.length+(tkn 1 (l.take k)+sn t) by omega);have HAW:Hid (Ap (some ⟨b,o,none⟩) l (FH F' q v')):=HAP.out wr _ I.out.nx.fh;clear hy ht hr2 EK EM ET hln hmo AD HAP;obtain⟨x,hx⟩:∃x,y.1=x:=⟨_,rfl⟩;rw[hx] at A1;have HX:Hid (y.1=x):=hx;clear hx;unfold sv at A1 c0;go_wp2_with fail;refine cM A1.out ?_;rintro e w2 ⟨rfl,F2,v2,n2,b2,hd2⟩;by_cases h0:x=0
   ·subst h0
    have J:Hid (Fl w va p F s q fr mn g v (some ⟨b,o,none⟩) n c l r (k+1) w2 F2 y.2 v2):=by
     rcases hd2 with ⟨-,hd2⟩|⟨hne,-⟩
     ·refine⟨?_,I.out.nx.trans n2 I.out.bf.size,I.out.bf.trans I.out.nx.fh b2,?_,?_,I.out.tx.bf b2 HAW.out⟩
      ·rw[HEQ.out.1,HEQ.out.2.1,HEQ.out.2.2]
       exact hd2
      ·rw[HEQ.out.1]
       exact HLN.out
      ·rw[HEQ.out.1,HEQ.out.2.1]
       exact HR.out.trans (zao HX.out)
     ·exact absurd HX.out hne
    clear hd2 n2 b2 I A1 c0;go_wp2;go_roundw
    case rel=>exact⟨k+1,F2,y.2,v2,by omega,rfl,J.out⟩
    case measure=>simp[intOf];omega
   ·have J:Hid (r=y/\FlP w va p F q fr mn g v [.slice (some ⟨b,o,none⟩) n c] l y w2):=by
     rcases hd2 with ⟨he,-⟩|⟨-,hd2⟩
     ·exact absurd (HX.out.symm.trans he) h0
     ·exact⟨HR.out.trans (zaA (by rw[HX.out];exact h0)),F2,v2,_,_,_,I.out.nx.trans n2 I.out.bf.size,I.out.bf.trans I.out.nx.fh b2,hd2,fun e=>absurd (HX.out.symm.trans e) h0⟩
    clear hd2 n2 b2 I A1 c0;go_wp2;go_ret;exact⟨by rw[J.out.1,HX.out];rfl,by rw[J.out.1];exact J.out.2⟩
  ·obtain rfl:k=n:=by omega
   have J:Hid (r=(0,s')/\FlP w va p F q fr mn g v [.slice a k c] l (0,s') wr):=by
    have h1:=I.out.eq;have e1:l.take k=l:=List.take_of_length_le (by rw[HN.out];exact nL _);have e2:l.drop k=[]:=List.drop_of_length_le (by rw[HN.out];exact nL _);rw[e2,pts] at h1;have h2:=I.out.hd;rw[e1] at h2;exact⟨h1,F',v',_,_,_,I.out.nx,I.out.bf,h2,fun _=>⟨rfl,rfl,rfl⟩⟩
   clear I;go_wp2;go_ret;exact⟨by rw[J.out.1];rfl,by rw[J.out.1];exact J.out.2⟩
theorem keepE {wa wb:Wo} {q:Nat} {x0 x1 x2 x3:Value} (hb:Bw wa wb) (h:wa.cell? ⟨q,0,none⟩=some x0/\wa.cell? ⟨q,1,none⟩=some x1/\wa.cell? ⟨q,2,none⟩=some x2/\wa.cell? ⟨q,3,none⟩=some x3) :
  wb.cell? ⟨q,0,none⟩=some x0/\wb.cell? ⟨q,1,none⟩=some x1/\wb.cell? ⟨q,2,none⟩=some x2/\wb.cell? ⟨q,3,none⟩=some x3:=⟨cell_later hb h.1,cell_later hb h.2.1,cell_later hb h.2.2.1,cell_later hb h.2.2.2⟩
theorem zpC {w wa wb:Wo} {p:Nat} {F:Nat->Prop} {s:St} {q:Nat} {x0 x1 x2 x3:Value} (hq:¬F q) (hd:Ds w wa p F s wb) (h:wa.cell? ⟨q,0,none⟩=some x0/\wa.cell? ⟨q,1,none⟩=some x1/\wa.cell? ⟨q,2,none⟩=some x2/\wa.cell? ⟨q,3,none⟩=some x3) :
  wb.cell? ⟨q,0,none⟩=some x0/\wb.cell? ⟨q,1,none⟩=some x1/\wb.cell? ⟨q,2,none⟩=some x2/\wb.cell? ⟨q,3,none⟩=some x3:=by
 obtain⟨F',-,-,hb⟩:=hd;exact⟨hb.cell h.1 hq,hb.cell h.2.1 hq,hb.cell h.2.2.1 hq,hb.cell h.2.2.2 hq⟩
theorem zgY (w va:Wo) (p:Nat) (F:Nat->Prop) (s:St) (q fr mn g:Nat) (v:Value) (ts:List Bs) (tk:Nat) (m:Bs) (more:List Value) (hz:fr<=4000) (hl:s.l.length+1<=1000000) (hk:Hid (Kh w)) (h:Hid (HD w va p F s q fr mn g v ts tk m more)) :
  Cl 219 #[.pointer (some ⟨q,0,none⟩)] va fun e w'=>e = .returned (.int .i64 (wrb s fr (hd g)).1)/\Ds w va p F (wrb s fr (hd g)).2 w':=by
 have HH:Hid (∀W,Kh W->Cl 288 #[.int .i64 (g:Int)] W fun e w'=>e = .returned (.string (st (hd g)))/\Bw W w'):=fun W k=>zer g W k
 have WR:Hid (∀W,Dl w W p F s->Cl 222 #[.agg #[.pointer (some ⟨p,0,none⟩),.int .i64 (fr:Int),.int .i64 (mn:Int)],.int .i64 0,.string (st (hd g))] W fun e w'=>e = .returned (.int .i64 (wrb s fr (hd g)).1)/\Ds w W p F (wrb s fr (hd g)).2 w'):=fun W k=>zbV w W p F s fr 0 mn (hd g) 1 (zbi g) (by decide) (by omega) (by omega) k
 have c0:=h.out.hf.bk.c 0 _ rfl;have c1:=h.out.hf.bk.c 1 _ rfl;have c2:=h.out.hf.bk.c 2 _ rfl;have c3:=h.out.hf.bk.c 3 _ rfl;have NQ:Hid (¬F q):=(h.out.ap q (.inl rfl)).1;have KK:Hid (∀W,Below va.drew.heap.size va.drew W->Dl w W p F s):=fun W hb=>(h.out.dl.later (bQ _ _).drew).later hb
 have KD:Hid (Kh va.drew):=hk.out.later (h.out.dl.below.drew);have HF:Hid (∀W W',Below va.drew.heap.size va.drew W->Ds w W p F (wrb s fr (hd g)).2 W'->Ds w va p F (wrb s fr (hd g)).2 W'):=fun W W' hb ⟨F',k1,k2,k3⟩=>by
  have b0:Bw va W:=chain (bQ _ _).drew hb;exact⟨F',k1,(Nx.refl va F).trans k2 b0.size,(Bf.of b0).trans (Nx.refl _ _) k3⟩
 obtain⟨y,hy⟩:∃y,wrb s fr (hd g)=y:=⟨_,rfl⟩;obtain⟨x,hx⟩:∃x,y.1=x:=⟨_,rfl⟩;rw[hy] at WR HF ⊢;rw[hx] at WR ⊢;obtain⟨X,hX⟩:∃X,st (hd g)=X:=⟨_,rfl⟩;rw[hX] at HH WR;clear hy hx hX h hk hl;go_enter Tryz.func219, Tryz.ntmps219;go_wp2_with fail;go_region_held3 (fun w'=>w'.cell? ⟨q,0,none⟩=some (.pointer (some ⟨p,0,none⟩))/\w'.cell? ⟨q,1,none⟩=some (.int .i64 (fr:Int))/\w'.cell? ⟨q,2,none⟩=some (.int .i64 (mn:Int))/\w'.cell? ⟨q,3,none⟩=some (.int .i64 (g:Int))) (first|exact⟨c0,c1,c2,c3⟩|assumption|exact keepE (by assumption) (by assumption)|exact zpC NQ.out (by assumption) (by assumption)) (first|(go_at_call 288;refine cM (HH.out _ KD.out) ?_;rintro e w3 ⟨rfl,hb3⟩)|(go_at_call 222;refine cM (WR.out _ (KK.out _ (by assumption))) ?_;rintro e w4 ⟨rfl,hd4⟩));have FF:Hid (Ds w va p F y.2 w4):=HF.out w3 w4 hb3 hd4;clear hd4 hb3 KK KD HF WR HH;go_wp2;go_ret;exact⟨rfl,FF.out⟩
theorem zfg:∀(m:Nat) (s:St) (k:Nat) (d:Bool),(cls s k m d).2.l.length<=s.l.length+m
 | 0,s,k,d=>by
  rw[cls]
  split
  ·show (syS s).l.length<=_
   unfold syS
   split
   ·omega
   ·split
    ·show s.l.length<=_
     omega
    ·exact Nat.zero_le _
  ·exact nL _
 | m+1,s,k,d=>by
  rw[cls]
  split
  ·have:=zfg m s (k+1) d
   omega
  ·have h1:=zdB s (k:Int) (zr 64)
   by_cases h:wrE s (k:Int) (zr 64)=0
   ·rw[zao h]
    have:=zfg m (wrS s (k:Int) (zr 64)) (k+1) true;exact Nat.le_trans this (by omega)
   ·rw[zaA h]
    exact Nat.le_trans h1 (by omega)
theorem ziM (s:St) (k m:Nat):(cln s k m).2.l.length<=s.l.length+m:=by
 rw[cln]
 split
 ·exact Nat.le_add_right _ _
 ·exact zfg m s k false
theorem zfh:∀(l:List Bs) (s:St) (k tk:Nat) (a:Bs),(pts s k tk a l).2.l.length<=s.l.length+sns l
 | [],_,_,_,_=>nL _
 | t::l,s,k,tk,a=>by
  rw[pts,sns];have h1:=zcv s (k+tk) (rcd a t);rw[zaF,show 64*sn t / 64=sn t by omega] at h1;by_cases h:(wrb s (k+tk) (rcd a t)).1=0
  ·rw[zao h]
   have:=zfh l (wrb s (k+tk) (rcd a t)).2 k (tk+sn t) (rmk a t);omega
  ·rw[zaA h]
   omega
theorem zfi (s:St):(syS s).l.length<=s.l.length:=by
 unfold syS
 split
 ·omega
 ·split
  ·exact nL _
  ·exact Nat.zero_le _
structure Bq (w va:Wo) (p:Nat) (F:Nat->Prop) (fr mn g:Nat) (a:Option Addr) (n c:Nat) (l:List Bs) (q C R:Nat) (wr:Wo) (F':Nat->Prop) (s':St) (v':Value) (ts':List Bs) (tk':Nat) (m':Bs):Prop where
 hd:HD w wr p F' s' q fr mn g v' ts' tk' m' [.slice a n c]
 nx:Nx va F F'
 bf:Bf F va wr
 bc:Blk wr C (fsv q p fr mn)
 br:Blk wr R hz0
 tx:zbq wr a l
 ap:Ap a l (FH F' q v')
 nq:va.heap.size<=q
 nC:va.heap.size<=C
 nR:va.heap.size<=R
 qC:C≠q
 qR:R≠q
 fC:¬F' C
 fR:¬F' R
 vC:v'.ownBlock≠some C
 vR:v'.ownBlock≠some R
 nv:∀x,v'.ownBlock=some x->va.heap.size<=x
section
variable {w va:Wo} {p:Nat} {F:Nat->Prop} {fr mn g:Nat} {a:Option Addr} {n c:Nat} {l:List Bs} {q C R:Nat} {wr:Wo} {F':Nat->Prop} {s':St} {v':Value} {ts':List Bs} {tk':Nat} {m':Bs}
theorem Bq.disk (h:Bq w va p F fr mn g a n c l q C R wr F' s' v' ts' tk' m') {w':Wo} {F2:Nat->Prop} {s2:St} (k:Dl w w' p F2 s2) (hx:Nx wr F' F2) (hb:Bf F' wr w'):Bq w va p F fr mn g a n c l q C R w' F2 s2 v' ts' tk' m' :=
 ⟨h.hd.disk k hx hb,h.nx.trans hx h.bf.size,h.bf.trans h.nx hb,h.bc.bf hb h.fC,h.br.bf hb h.fR,h.tx.bf (hb.wide fun _ e => .inl e) h.ap,h.ap.nx h.tx (FH.left hx),h.nq,h.nC,h.nR,h.qC,h.qR,hx.apart h.fC h.bc.lt,hx.apart h.fR h.br.lt,h.vC,h.vR,h.nv⟩
theorem Bq.fill (h:Bq w va p F fr mn g a n c l q C R wr F' s' v' ts' tk' m') {w':Wo} {F2:Nat->Prop} {s2:St} {v2:Value} {ts2:List Bs} {tk2:Nat} {m2:Bs} (k:HD w w' p F2 s2 q fr mn g v2 ts2 tk2 m2 [.slice a n c]) (hx2:Nx2 wr F' q v' F2 v2) (hb:Bf (FH F' q v') wr w'):Bq w va p F fr mn g a n c l q C R w' F2 s2 v2 ts2 tk2 m2:=by
 have hx:=hx2.fh;have cC:¬FH F' q v' C:=fun e=>by
  rcases e with e|e|e
  ·exact h.fC e
  ·exact h.qC e
  ·exact h.vC e
 have cR:¬FH F' q v' R:=fun e=>by
  rcases e with e|e|e
  ·exact h.fR e
  ·exact h.qR e
  ·exact h.vR e
 have hs:=h.bf.size;have dC:=hx.apart cC h.bc.lt;have dR:=hx.apart cR h.br.lt;have nn:∀x,FH F' q v' x->F x\/va.heap.size<=x:=fun x e=>by
  rcases e with e|e|e
  ·exact h.nx x e
  ·exact .inr (by rw[e];exact h.nq)
  ·exact .inr (h.nv x e)
 refine⟨k,fun x e => ?_,?_,h.bc.bf hb cC,h.br.bf hb cR,h.tx.bf hb h.ap,h.ap.nx h.tx hx,h.nq,h.nC,h.nR,h.qC,h.qR,fun e=>dC (.inl e),fun e=>dR (.inl e),fun e=>dC (.inr (.inr e)),fun e=>dR (.inr (.inr e)),fun x e => ?_⟩
 ·rcases hx x (.inl e) with d|d
  ·exact nn x d
  ·exact .inr (by omega)
 ·exact h.bf.trans (fun x e=>nn x e) hb
 ·rcases hx2.2 x (.inr e) with d|d
  ·rcases d with d|d
   ·rw[d];exact h.nq
   ·exact h.nv x d
  ·omega
end
def k4 (s:St):Int×St:=thn (syE s,syS s) fun s5=>(0,s5)
def k3 (fr g:Nat) (s:St):Int×St:=thn (wrb s fr (hd g)) k4
def k2 (fr g:Nat) (s:St):Int×St:=thn (syE s,syS s) (k3 fr g)
def k1 (fr g:Nat) (l:List Bs) (s:St):Int×St:=thn (pts s fr 1 (hm g) l) (k2 fr g)
theorem zrH (s:St):k4 s=(syE s,syS s):=by
 unfold k4;by_cases h:syE s=0
 ·rw[zao h,h]
 ·rw[zaA h]
theorem zpD (s:St) (fr mn g:Nat) (l:List Bs):bgn s fr mn g l=thn (cln s fr mn) (k1 fr g l):=by
 have e:k4=fun s=>(syE s,syS s):=funext zrH
 unfold bgn k1 k2 k3;rw[e]
def BgE (w va:Wo) (p:Nat) (F:Nat->Prop) (R:Nat) (y:Int×St) (x:Int) (w':Wo):Prop:=y.1=x/\∃F',Dl w w' p F' y.2/\Nx va F F'/\Bf F va w'/\Blk w' R hz0/\¬F' R
def BgP (w va:Wo) (p:Nat) (F:Nat->Prop) (fr mn g:Nat) (a:Option Addr) (n c:Nat) (l:List Bs) (q C R:Nat) (B:Nat) (y:Int×St) (k:Nat) (wr:Wo):Prop :=
 ∃F' s' v' ts' tk' m',Bq w va p F fr mn g a n c l q C R wr F' s' v' ts' tk' m'/\(2<=k->ts'=l/\tk'=tkn 1 l/\m'=mks (hm g) l) /\
  match k with
  | 0=>ts'=[]/\tk'=0/\s'.n=B/\s'.l.length+2*mn+300<=1000000/\y=thn (cln s' fr mn) (k1 fr g l)
  | 1=>ts'=[]/\s'.l.length+mn+300<=1000000/\y=k1 fr g l s'
  | 2=>s'.l.length+300<=1000000/\y=k2 fr g s'
  | 3=>s'.l.length+300<=1000000/\y=k3 fr g s'
  | 4=>s'.l.length+200<=1000000/\y=k4 s'
  | _=>y=(0,s')
theorem zdF {w va:Wo} {p:Nat} {F:Nat->Prop} {fr mn g:Nat} {a:Option Addr} {n c:Nat} {l:List Bs} {q C R:Nat} {wr:Wo} {F':Nat->Prop} {s':St} {v':Value} {ts':List Bs} {tk':Nat} {m':Bs} {y z:Int×St} {kk:St->Int×St} {P:Wo->Prop}
  (h:Bq w va p F fr mn g a n c l q C R wr F' s' v' ts' tk' m') (hy:y=thn z kk) (hP:∀w' F2,Bq w va p F fr mn g a n c l q C R w' F2 z.2 v' ts' tk' m'->y=kk z.2->P w') {f:Nat} {args:Array Value} (hc:Calls Tryz.prog f args wr fun e w'=>e = .returned (.int .i64 z.1)/\Ds w wr p F' z.2 w') :
  Calls Tryz.prog f args wr fun e w'=>zey P (BgE w va p F R y) e w' :=
 hc.mono fun e w' ⟨he,F2,d1,d2,d3⟩=>by
  have k:=h.disk d1 d2 d3;refine⟨z.1,he,?_⟩;by_cases h0:z.1=0
  ·exact .inl ⟨h0,hP w' F2 k (hy.trans (zao h0))⟩
  ·have e1:y=z:=hy.trans (zaA h0)
   exact .inr ⟨h0,by rw[e1],F2,by rw[e1];exact k.hd.dl,k.nx,k.bf,k.br,k.fR⟩
theorem zfj (w va:Wo) (p:Nat) (F:Nat->Prop) (fr mn g:Nat) (a:Option Addr) (n c:Nat) (l:List Bs) (q C R B:Nat) (y:Int×St) (h1:1<=mn) (h2:fr+mn<=B) (hB:B<=1024) (hn:l.length=n) (ht:∀t∈l,t.length<=2000) (hs:tkn 1 l<=mn) (hk:Kh w) (v0:Wo) (h:BgP w va p F fr mn g a n c l q C R B y 0 v0) :
  Cl 217 #[.slice (some ⟨C,0,none⟩) 5 5] v0 fun e w'=>zey (BgP w va p F fr mn g a n c l q C R B y 5) (BgE w va p F R y) e w':=by
 have hsn:1+sns l<=mn:=by rw[<-zaY];exact hs
 refine zez q p fr mn C (BgP w va p F fr mn g a n c l q C R B y) (BgE w va p F R y) ?_ ?_ ?_ ?_ ?_ ?_ v0 h
 ·rintro k wr - ⟨F',s',v',ts',tk',m',hq,-,-⟩
  exact hq.bc
 ·rintro wr ⟨F',s',v',ts',tk',m',hq,-,rfl,rfl,hb,hl,hy⟩
  refine zdF hq hy (fun w' F2 k e=>⟨F2,_,v',[],0,m',k,fun c=>absurd c (by decide),rfl,?_,e⟩) (zcU w wr p F' s' q fr mn g v' [] 0 m' _ h1 (by omega) (Nat.zero_le _) (by omega) hq.hd);have:=ziM s' fr mn;omega
 ·rintro wr ⟨F',s',v',ts',tk',m',hq,-,rfl,hl,hy⟩
  refine (ziL w wr p F' s' q fr mn g v' tk' m' a n c l hn ht hs (by omega) (by omega) hk hq.hd hq.tx hq.ap).mono ?_;rintro e w' ⟨he,F2,v2,ts2,tk2,m2,x1,x2,x3,x4⟩;have k:=hq.fill x3 x1 x2;refine⟨_,he,?_⟩;by_cases h0:(pts s' fr 1 (hm g) l).1=0
  ·refine .inl ⟨h0,F2,_,v2,ts2,tk2,m2,k,fun _=>x4 h0,?_,hy.trans (zao h0)⟩
   have:=zfh l s' fr 1 (hm g);omega
  ·have e1:y=pts s' fr 1 (hm g) l:=hy.trans (zaA h0)
   exact .inr ⟨h0,by rw[e1],F2,by rw[e1];exact k.hd.dl,k.nx,k.bf,k.br,k.fR⟩
 ·rintro wr ⟨F',s',v',ts',tk',m',hq,hf,hl,hy⟩
  refine zdF hq hy (fun w' F2 k e=>⟨F2,_,v',ts',tk',m',k,fun _=>hf (nL _),?_,e⟩) (zbI w wr p F' s' fr mn (by omega) hq.hd.dl);have:=zfi s';show (syS s').l.length+300<=_
  omega
 ·rintro wr ⟨F',s',v',ts',tk',m',hq,hf,hl,hy⟩
  refine zdF hq hy (fun w' F2 k e=>⟨F2,_,v',ts',tk',m',k,fun _=>hf (by decide),?_,e⟩) (zgY w wr p F' s' q fr mn g v' ts' tk' m' _ (by omega) (by omega) hk hq.hd);have:=zcv s' fr (hd g);rw[zbi] at this;omega
 ·rintro wr ⟨F',s',v',ts',tk',m',hq,hf,hl,hy⟩
  exact zdF hq hy (fun w' F2 k e=>⟨F2,_,v',ts',tk',m',k,fun _=>hf (by decide),e⟩) (zbI w wr p F' s' fr mn (by omega) hq.hd.dl)
theorem zk9 (s:St):(syS s).n=s.n:=by
 unfold syS
 split
 ·rfl
 ·split <;> rfl
theorem zpE:∀(bs:List Bs) (s:St) (k:Nat),(wrs s k bs).2.n=s.n
 | [],_,_=>rfl
 | b::bs,s,k=>by
  rw[wrs];by_cases h:wrE s (k:Int) b=0
  ·rw[zao h]
   exact (zpE bs _ _).trans (zk1 s _ b)
  ·rw[zaA h]
   exact zk1 s _ b
theorem zla (s:St) (k:Nat) (b:Bs):(wrb s k b).2.n=s.n:=zpE _ s k
theorem znL:∀(m:Nat) (s:St) (k:Nat) (d:Bool),(cls s k m d).2.n=s.n
 | 0,s,k,d=>by
  rw[cls]
  split
  ·exact zk9 s
  ·rfl
 | m+1,s,k,d=>by
  rw[cls]
  split
  ·exact znL m s _ d
  ·by_cases h:wrE s (k:Int) (zr 64)=0
   ·rw[zao h]
    exact (znL m _ _ true).trans (zk1 s _ _)
   ·rw[zaA h]
    exact zk1 s _ _
theorem zpF (s:St) (k m:Nat):(cln s k m).2.n=s.n:=by
 unfold cln
 split
 ·rfl
 ·exact znL m s k false
section
variable {w:Wo} {d:Nat} {G:Nat->Prop} {wr:Wo} {G':Nat->Prop} {s:St} {q h g:Nat} {v:Value} {ts:List Bs} {tk:Nat} {m:Bs}
end
end Go.Proofs.YtjcppbhgjchjaaaGreatDoor.Sto
