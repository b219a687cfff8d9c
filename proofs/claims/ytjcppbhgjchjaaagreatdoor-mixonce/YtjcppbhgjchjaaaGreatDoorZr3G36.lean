/- A part of the walk. -/
import Derived.Test.YtjcppbhgjchjaaaGreatDoorZr3G35
import Derived.Test.YtjcppbhgjchjaaaGreatDoorZr3G25
set_option maxHeartbeats 8000000
set_option maxRecDepth 20000
namespace Go.Proofs.YtjcppbhgjchjaaaGreatDoor.Sto
open Go.RowKit Go.Proofs.Fd Go.Proofs.Dk Go.Proofs.Lg
def zlr:Prop:=∀(b q most:Nat) (va vh:Value) (y:Ey) (r:Bs) (W:Wo),Gd y->r.length<=2000->Es W b q y.1 most va vh y.2.1 y.2.2 ->
 Cl 78 #[.pointer (some ⟨b,1,none⟩),.string (st r)] W fun e w'=>e = .returned (.bool (tkE y r).isSome)/\∃va' vh',Es w' b q ((tkE y r).getD y).1 most va' vh' ((tkE y r).getD y).2.1 ((tkE y r).getD y).2.2/\Bf (EFt b va vh) W w'/\Nx W (EFt b va vh) (EFt b va' vh')
structure Pz (w wr:Wo) (p:Nat) (F:Nat->Prop) (s:St) (q:Nat) (v:Value) (x:Lo) (b most:Nat) (va vh:Value) (y:Ey):Prop where
 lz:Lz w wr p F s q v x
 es:Es wr b q y.1 most va vh y.2.1 y.2.2
 ap:∀z,EFt b va vh z->¬FH F q v z/\w.heap.size<=z
def FP (F:Nat->Prop) (q:Nat) (v:Value) (b:Nat) (va vh:Value) (z:Nat):Prop:=FH F q v z\/EFt b va vh z
def PzP (w w0:Wo) (F0:Nat->Prop) (p q b most:Nat) (s:St) (x:Lo) (y:Ey) (w':Wo):Prop:=∃F v va vh,Pz w w' p F s q v x b most va vh y/\Nx w0 F0 (FP F q v b va vh)/\Bf F0 w0 w'
section
variable {w w0:Wo} {F0:Nat->Prop} {p q b most:Nat} {s:St} {x:Lo} {y:Ey} {w1:Wo}
theorem PzP.later (k:PzP w w0 F0 p q b most s x y w1) {w2:Wo} (hb:Bw w1 w2):PzP w w0 F0 p q b most s x y w2:=by
 obtain⟨F,v,va,vh,z,n,f⟩:=k;exact⟨F,v,va,vh,⟨z.lz.later hb,z.es.later hb,z.ap⟩,n,f.later hb⟩
theorem Pz.log {F:Nat->Prop} {v va vh:Value} (k:Pz w w1 p F s q v x b most va vh y) {w2:Wo} {s':St} {x':Lo} (z:LzP w w1 p F q v s' x' w2) (hn:Nx w0 F0 (FP F q v b va vh)) (hf:Bf F0 w0 w1):PzP w w0 F0 p q b most s' x' y w2:=by
 obtain⟨F',v',r,n1,f⟩:=z;have nq:=n1.fh;have hs:=hf.size;refine⟨F',v',va,vh,⟨r,k.es.bf f (fun g hg=>(k.ap g hg).1),fun g hg=>⟨nq.apart (k.ap g hg).1 (k.es.lt hg),(k.ap g hg).2⟩⟩,fun g hg => ?_,hf.trans hn (f.wide fun g e => .inl e)⟩;rcases hg with e|e
 ·rcases nq g e with c|c
  ·exact hn g (.inl c)
  ·exact .inr (by omega)
 ·exact hn g (.inr e)
theorem Pz.set {F:Nat->Prop} {v va vh:Value} (k:Pz w w1 p F s q v x b most va vh y) {w2:Wo} {y':Ey} {va' vh':Value} (r:Es w2 b q y'.1 most va' vh' y'.2.1 y'.2.2) (f:Bf (EFt b va vh) w1 w2) (n:Nx w1 (EFt b va vh) (EFt b va' vh')) (hn:Nx w0 F0 (FP F q v b va vh)) (hf:Bf F0 w0 w1):PzP w w0 F0 p q b most s x y' w2:=by
 have hs:=hf.size;have hw:=k.lz.hd_.dl.below.size;refine⟨F,v,va',vh',⟨k.lz.other f (fun g hg c=>(k.ap g c).1 hg) (fun g c=>(k.ap g c).2),r,fun g hg => ?_⟩,fun g hg => ?_,hf.trans hn (f.wide fun g e => .inr e)⟩
 ·rcases n g hg with c|c
  ·exact k.ap g c
  ·exact⟨fun e=>by have:=(k.lz.fh e).1;omega,by omega⟩
 ·rcases hg with e|e
  ·exact hn g (.inl e)
  ·rcases n g e with c|c
   ·exact hn g (.inr c)
   ·exact .inr (by omega)
end
def wry (s:St) (x:Lo) (y:Ey) (r:Bs):Ey:=if (wrp s x (sht y.1 y.2.1 y.2.2) r).1.1=0 then (tkE y r).getD y else y
theorem zft (TC:zlr) (w w0:Wo) (F0:Nat->Prop) (p q b most:Nat) (s:St) (x:Lo) (y:Ey) (r:Bs) (hr:r.length<=2000) (hy:Gd y) (hl:s.l.length+6000<=1000000) (hk:Hid (Kh w)) (w1:Wo) (k:Hid (PzP w w0 F0 p q b most s x y w1)) :
  Cl 71 #[.pointer (some ⟨b,0,none⟩),.string (st r)] w1 fun e w'=>e = .returned (.int .i64 (wrp s x (sht y.1 y.2.1 y.2.2) r).1.1)/\PzP w w0 F0 p q b most (wrp s x (sht y.1 y.2.1 y.2.2) r).1.2 (wrp s x (sht y.1 y.2.1 y.2.2) r).2 (wry s x y r) w':=by
 have hyn:=hy.n;have hye:=hy.e;have K0:Hid (∀W s x y,PzP w w0 F0 p q b most s x y W->W.cell? ⟨b,0,none⟩=some (.pointer (some ⟨q,0,none⟩))):=fun W s x y ⟨F,v,va,vh,z,_,_⟩=>z.es.bk.c 0 _ rfl
 have AP:Hid (∀W s x,s.l.length+100<=1000000->PzP w w0 F0 p q b most s x y W->Cl 130 #[.pointer (some ⟨q,0,none⟩),.string (st r)] W fun e w'=>e = .returned (.int .i64 (app s x r).1.1)/\PzP w w0 F0 p q b most (app s x r).1.2 (app s x r).2 y w'):=fun W s x hl ⟨F,v,va,vh,z,n,f⟩ =>
  (zeC w W p F s q v x (st r) hl hk.out z.lz).mono fun _ _ ⟨e1,e2⟩=>⟨e1,z.log e2 n f⟩
 have SY:Hid (∀W s x,s.l.length<=1000000->PzP w w0 F0 p q b most s x y W->Cl 132 #[.pointer (some ⟨q,0,none⟩)] W fun e w'=>e = .returned (.int .i64 (syE s))/\PzP w w0 F0 p q b most (syS s) x y w'):=fun W s x hl ⟨F,v,va,vh,z,n,f⟩ =>
  (zg4 w W p F s q v x hl z.lz).mono fun _ _ ⟨e1,e2⟩=>⟨e1,z.log e2 n f⟩
 have TK:Hid (∀W s x,PzP w w0 F0 p q b most s x y W->Cl 78 #[.pointer (some ⟨b,1,none⟩),.string (st r)] W fun e w'=>∃z:Bool,e = .returned (.bool z)/\PzP w w0 F0 p q b most s x ((tkE y r).getD y) w'):=fun W s x ⟨F,v,va,vh,z,n,f⟩ =>
  (TC b q most va vh y r W hy hr z.es).mono fun _ _ ⟨e1,va',vh',e2,e3,e4⟩=>⟨_,e1,z.set e2 e3 e4 n f⟩
 have hshl:(sht y.1 y.2.1 y.2.2).length<=100000:=by
  unfold sht;by_cases e:y.2.1=[]
  ·rw[if_pos e];simp;omega
  ·rw[if_neg e];simp;omega
 have SH:Hid (∀W,PzP w w0 F0 p q b most s x y W->Cl 208 #[.pointer (some ⟨b,1,none⟩)] W fun e w'=>∃a c,e = .returned (.slice a (sht y.1 y.2.1 y.2.2).length c)/\w'.cell? ⟨b,0,none⟩=some (.pointer (some ⟨q,0,none⟩))/\Hid (zbq w' a (sht y.1 y.2.1 y.2.2)/\∀z,a=some z->W.heap.size<=z.block)/\Bw W w'):=fun W ⟨F,v,va,vh,z,n,f⟩ =>
  (zg8 b q y.1 most va vh y.2.1 y.2.2 (by omega) (by omega) (by omega) hy.z (fun t ht=>by have:=hy.t t ht;omega) W z.es).mono fun _ w' ⟨a,c,e1,e2,e3,e4⟩=>⟨a,c,e1,(z.es.later e3).bk.c 0 _ rfl,⟨e2,e4⟩,e3⟩
 have CP:Hid (∀W W2 a c,PzP w w0 F0 p q b most s x y W->Bw W W2->zbq W2 a (sht y.1 y.2.1 y.2.2)->(∀z,a=some z->W.heap.size<=z.block)->Cl 207 #[.pointer (some ⟨q,0,none⟩),.slice a (sht y.1 y.2.1 y.2.2).length c] W2 fun e w'=>e = .returned (.int .i64 (cmp s x (sht y.1 y.2.1 y.2.2)).1.1)/\w'.cell? ⟨b,0,none⟩=some (.pointer (some ⟨q,0,none⟩))/\Hid (PzP w w0 F0 p q b most (cmp s x (sht y.1 y.2.1 y.2.2)).1.2 (cmp s x (sht y.1 y.2.1 y.2.2)).2 y w')):=fun W W2 a c ⟨F,v,va,vh,z,n,f⟩ hb tx hn=>by
  have z2:Pz w W2 p F s q v x b most va vh y:=⟨z.lz.later hb,z.es.later hb,z.ap⟩;refine (zdH w W2 p F s q v x a _ c (sht y.1 y.2.1 y.2.2) rfl (by omega) (by omega) hk.out z2.lz tx (fun g e _ cc => ?_)).mono ?_
  ·have:=hn g e
   have:=z.lz.hd_.dl.at_.lt cc;omega
  ·rintro e w' ⟨e1,e2⟩
   have zz:=z2.log (w0:=w0) (F0:=F0) e2 n (f.later hb);exact⟨e1,by obtain⟨F',v',va',vh',g,_,_⟩:=zz;exact g.es.bk.c 0 _ rfl,zz⟩
 have hal:=zfp s x r;have hcl:=ziW s x (sht y.1 y.2.1 y.2.2);have hn2:s.n<=1024:=by obtain⟨F,v,va,vh,z,-,-⟩:=k.out;exact z.lz.n2
 have hac:=zfp (cmp s x (sht y.1 y.2.1 y.2.2)).1.2 (cmp s x (sht y.1 y.2.1 y.2.2)).2 r;have hwl:(wrA s x (sht y.1 y.2.1 y.2.2) r).1.2.l.length<=1000000:=by
  unfold wrA;by_cases e1:(app s x r).1.1=151
  ·rw[if_pos e1]
   by_cases e2:(cmp s x (sht y.1 y.2.1 y.2.2)).1.1=0
   ·rw[if_pos e2];omega
   ·rw[if_neg e2];omega
  ·rw[if_neg e1];omega
 have hcl2:(cmp s x (sht y.1 y.2.1 y.2.2)).1.2.l.length+100<=1000000:=by omega
 have A0:Hid _:=AP.out w1 s x (by omega) k.out;have EWP:Hid (wrp s x (sht y.1 y.2.1 y.2.2) r=if (wrA s x (sht y.1 y.2.1 y.2.2) r).1.1≠0 then wrA s x (sht y.1 y.2.1 y.2.2) r else ((syE (wrA s x (sht y.1 y.2.1 y.2.2) r).1.2,syS (wrA s x (sht y.1 y.2.1 y.2.2) r).1.2),(wrA s x (sht y.1 y.2.1 y.2.2) r).2)):=rfl;have EWY:Hid (wry s x y r=if (wrp s x (sht y.1 y.2.1 y.2.2) r).1.1=0 then (tkE y r).getD y else y):=rfl;have ASH:Hid (∀W,(app s x r).1.1=151->PzP w w0 F0 p q b most s x y W->Cl 131 #[.pointer (some ⟨b,0,none⟩),.string (st r)] W fun e w'=>e = .returned (.int .i64 (wrA s x (sht y.1 y.2.1 y.2.2) r).1.1)/\PzP w w0 F0 p q b most (wrA s x (sht y.1 y.2.1 y.2.2) r).1.2 (wrA s x (sht y.1 y.2.1 y.2.2) r).2 y w'):=fun W e151 kW=>by
  have EW2:wrA s x (sht y.1 y.2.1 y.2.2) r=(if (cmp s x (sht y.1 y.2.1 y.2.2)).1.1=0 then app (cmp s x (sht y.1 y.2.1 y.2.2)).1.2 (cmp s x (sht y.1 y.2.1 y.2.2)).2 r else cmp s x (sht y.1 y.2.1 y.2.2)):=if_pos e151;have AP2:Hid _:=fun W z=>AP.out W (cmp s x (sht y.1 y.2.1 y.2.2)).1.2 (cmp s x (sht y.1 y.2.1 y.2.2)).2 hcl2 z
  obtain⟨wA,hA⟩:∃z,wrA s x (sht y.1 y.2.1 y.2.2) r=z:=⟨_,rfl⟩;rw[hA] at EW2 ⊢;obtain⟨⟨⟨yc,sc⟩,xc⟩,hcx⟩:∃z,cmp s x (sht y.1 y.2.1 y.2.2)=z:=⟨_,rfl⟩;rw[hcx] at CP AP2 EW2;obtain⟨N,hN⟩:∃N,(sht y.1 y.2.1 y.2.2).length=N:=⟨_,rfl⟩;rw[hN] at SH CP;have EA:Hid (yc=0->wA=app sc xc r):=fun h=>by rw[EW2];exact if_pos h
  have EB:Hid (yc≠0->wA=((yc,sc),xc)):=fun h=>by rw[EW2];exact if_neg h
  have J2:Hid (PzP w w0 F0 p q b most s x y W.drew):=PzP.later kW (bQ _ _).drew;have q0:=K0.out W s x y kW;have SH3:Hid _:=SH.out W.drew J2.out;have CP3:Hid _:=fun W2 a c hb tx hn=>CP.out W.drew W2 a c J2.out hb tx hn
  obtain⟨R,hR⟩:∃R,st r=R:=⟨_,rfl⟩;rw[hR] at AP2 ⊢;clear EW2 hA hcx hN hR SH CP J2 e151 kW A0 AP SY TK EWP EWY hwl hcl2 hal hac hcl hshl k;go_enter Tryz.func131, Tryz.ntmps131;go_wp2_with fail;go_region_held3 (fun w'=>w'.cell? ⟨b,0,none⟩=some (.pointer (some ⟨q,0,none⟩))) (first|exact q0|assumption) (first|(go_at_call 208;refine cM SH3.out ?_;rintro e w3 ⟨a3,c3,rfl,hc3,H3,hb3⟩)|(go_at_call 207;refine cM (CP3.out _ _ _ hb3 H3.out.1 H3.out.2) ?_;rintro e w4 ⟨rfl,hc4,H4⟩));clear SH3 CP3 hb3 H3 hc3 q0;by_cases h0:yc=0
  ·have A4:Hid _:=AP2.out w4 H4.out
   have EA1:=EA.out h0;rw[<-EA1] at A4;subst h0;clear AP2 H4 EA EB EA1;go_wp2_with fail;refine cM A4.out ?_;rintro e w5 ⟨rfl,z5⟩;have FF:Hid _:=z5;clear z5 A4 hc4;go_wp2;go_ret;exact⟨rfl,FF.out⟩
  ·have EB1:=EB.out h0
   have FF:Hid (wA.1.1=yc/\PzP w w0 F0 p q b most wA.1.2 wA.2 y w4):=by rw[EB1];exact⟨rfl,H4.out⟩
   clear H4 AP2 EA EB EB1 hc4;go_wp2;go_ret;exact⟨by rw[FF.out.1];rfl,FF.out.2⟩
 have TAIL:Hid (∀W,PzP w w0 F0 p q b most (wrA s x (sht y.1 y.2.1 y.2.2) r).1.2 (wrA s x (sht y.1 y.2.1 y.2.2) r).2 y W->(wrA s x (sht y.1 y.2.1 y.2.2) r).1.1=0->Cl 132 #[.pointer (some ⟨q,0,none⟩)] W fun e w'=>e = .returned (.int .i64 (wrp s x (sht y.1 y.2.1 y.2.2) r).1.1)/\PzP w w0 F0 p q b most (wrp s x (sht y.1 y.2.1 y.2.2) r).1.2 (wrp s x (sht y.1 y.2.1 y.2.2) r).2 y w'):=fun W z e0=>by
  have ew:wrp s x (sht y.1 y.2.1 y.2.2) r=((syE (wrA s x (sht y.1 y.2.1 y.2.2) r).1.2,syS (wrA s x (sht y.1 y.2.1 y.2.2) r).1.2),(wrA s x (sht y.1 y.2.1 y.2.2) r).2):=by rw[EWP.out,if_neg (by rw[e0];simp)]
  rw[ew];exact SY.out W _ _ hwl z
 have FNO:Hid (∀W,PzP w w0 F0 p q b most (wrA s x (sht y.1 y.2.1 y.2.2) r).1.2 (wrA s x (sht y.1 y.2.1 y.2.2) r).2 y W->(wrA s x (sht y.1 y.2.1 y.2.2) r).1.1≠0->(wrA s x (sht y.1 y.2.1 y.2.2) r).1.1=(wrp s x (sht y.1 y.2.1 y.2.2) r).1.1/\PzP w w0 F0 p q b most (wrp s x (sht y.1 y.2.1 y.2.2) r).1.2 (wrp s x (sht y.1 y.2.1 y.2.2) r).2 (wry s x y r) W):=fun W z e0=>by
  have ew:wrp s x (sht y.1 y.2.1 y.2.2) r=wrA s x (sht y.1 y.2.1 y.2.2) r:=by rw[EWP.out,if_pos e0]
  rw[EWY.out,ew,if_neg e0];exact⟨rfl,z⟩
 have EA0:Hid ((app s x r).1.1≠151->wrA s x (sht y.1 y.2.1 y.2.2) r=app s x r):=fun h=>if_neg h
 have k0:=K0.out w1 s x y k.out;obtain⟨R,hR⟩:∃R,st r=R:=⟨_,rfl⟩;rw[hR] at A0 ASH TK ⊢;obtain⟨wP,hP⟩:∃z,wrp s x (sht y.1 y.2.1 y.2.2) r=z:=⟨_,rfl⟩;rw[hP] at TAIL FNO EWY ⊢;obtain⟨wY,hY⟩:∃z,wry s x y r=z:=⟨_,rfl⟩;rw[hY] at FNO EWY ⊢;obtain⟨wA,hA⟩:∃z,wrA s x (sht y.1 y.2.1 y.2.2) r=z:=⟨_,rfl⟩;rw[hA] at TAIL FNO ASH EA0;clear hR hP hY hA hal hac hwl hcl hcl2 hshl SH CP SY EWP AP;have REST:Hid (∀W,PzP w w0 F0 p q b most wP.1.2 wP.2 y W->wP.1.1=0->Cl 78 #[.pointer (some ⟨b,1,none⟩),.string R] W fun e w'=>∃z:Bool,e = .returned (.bool z)/\PzP w w0 F0 p q b most wP.1.2 wP.2 wY w'):=fun W z e0=>by
  rw[EWY.out,if_pos e0];exact TK.out W _ _ z
 have RNO:Hid (∀W,PzP w w0 F0 p q b most wP.1.2 wP.2 y W->wP.1.1≠0->PzP w w0 F0 p q b most wP.1.2 wP.2 wY W):=fun W z e0=>by
  rw[EWY.out,if_neg e0];exact z
 obtain⟨pv,hpv⟩:∃z,wP.1.1=z:=⟨_,rfl⟩;rw[hpv] at TAIL FNO REST RNO ⊢;clear hpv EWY TK;by_cases e151:(app s x r).1.1=151
 ·have e2:=znR e151
  rw[e2] at A0;have A1:Hid _:=fun W z=>ASH.out W e151 z
  obtain⟨av,hav⟩:∃z,wA.1.1=z:=⟨_,rfl⟩;rw[hav] at A1 TAIL FNO;clear ASH EA0 e2 e151 hav k;go_enter Tryz.func71, Tryz.ntmps71;go_wp2_with fail;refine cM A0.out ?_;rintro e w2 ⟨rfl,z2⟩;have A2:Hid _:=A1.out w2 z2;clear z2 A0 k0 A1;go_wp2_with fail;refine cM A2.out ?_;rintro e w3 ⟨rfl,z3⟩;have J3:Hid _:=z3;have q0:=K0.out w3 _ _ _ z3;clear z3 A2;by_cases h0:av=0
  ·have S3:Hid _:=TAIL.out w3 J3.out h0
   subst h0;clear TAIL FNO J3;go_wp2_with fail;refine cM S3.out ?_;rintro e w4 ⟨rfl,z4⟩;have J4:Hid _:=z4;have q1:=K0.out w4 _ _ _ z4;clear z4 S3 q0;by_cases h1:pv=0
   ·have T4:Hid _:=REST.out w4 J4.out h1
    subst h1;clear REST RNO J4;go_wp2_with fail;refine cM T4.out ?_;rintro e w5 ⟨zz,rfl,z5⟩;have FF:Hid _:=z5;clear z5 T4 q1;go_wp2;go_ret;exact⟨rfl,FF.out⟩
   ·have FF:Hid _:=RNO.out w4 J4.out h1
    clear REST RNO J4 q1;go_wp2;go_ret;exact⟨rfl,FF.out⟩
  ·have FF:Hid _:=FNO.out w3 J3.out h0
   clear TAIL FNO J3 REST RNO q0;go_wp2;go_ret;exact⟨by rw[<-FF.out.1];rfl,FF.out.2⟩
 ·have ea:=EA0.out e151
  rw[<-ea] at A0 e151;obtain⟨av,hav⟩:∃z,wA.1.1=z:=⟨_,rfl⟩;rw[hav] at A0 TAIL FNO e151;clear ASH EA0 ea hav k;go_enter Tryz.func71, Tryz.ntmps71;go_wp2_with fail;refine cM A0.out ?_;rintro e w3 ⟨rfl,z3⟩;have J3:Hid _:=z3;have q0:=K0.out w3 _ _ _ z3;clear z3 A0 k0;by_cases h0:av=0
  ·have S3:Hid _:=TAIL.out w3 J3.out h0
   subst h0;clear TAIL FNO J3;go_wp2_with fail;refine cM S3.out ?_;rintro e w4 ⟨rfl,z4⟩;have J4:Hid _:=z4;have q1:=K0.out w4 _ _ _ z4;clear z4 S3 q0;by_cases h1:pv=0
   ·have T4:Hid _:=REST.out w4 J4.out h1
    subst h1;clear REST RNO J4;go_wp2_with fail;refine cM T4.out ?_;rintro e w5 ⟨zz,rfl,z5⟩;have FF:Hid _:=z5;clear z5 T4 q1;go_wp2;go_ret;exact⟨rfl,FF.out⟩
   ·have FF:Hid _:=RNO.out w4 J4.out h1
    clear REST RNO J4 q1;go_wp2;go_ret;exact⟨rfl,FF.out⟩
  ·have FF:Hid _:=FNO.out w3 J3.out h0
   clear TAIL FNO J3 REST RNO q0;go_wp2;go_ret;exact⟨by rw[<-FF.out.1];rfl,FF.out.2⟩
theorem zls (c:UInt8) (w:Wo) :
  Cl 142 #[.string (st []),.string ⟨#[c]⟩] w fun e w'=>e = .returned (.tuple #[.string (st []),.bool false])/\w'=w:=by
 have hs:(st []).size=0:=by rw[zaf];rfl
 have hc:(⟨#[c]⟩:Ba).size=1:=rfl;obtain⟨S,hS⟩:∃S,st []=S:=⟨_,rfl⟩;obtain⟨C,hC⟩:∃C:Ba,⟨#[c]⟩=C:=⟨_,rfl⟩;rw[hS] at hs ⊢;rw[hC] at hc ⊢;clear hS hC;have HP:Hid (∀w,Cl 293 #[.string S,.string C] w fun e w'=>e = .returned (.bool false)/\w'=w):=fun w=>by
  go_enter Tryz.func293, Tryz.ntmps293;go_wp2;go_ret;exact⟨rfl,rfl⟩
 have CP:Hid (∀w,Cl 223 #[.string S,.string C] w fun e w'=>e = .returned (.tuple #[.string S,.bool false])/\w'=w):=fun w=>by
  go_enter Tryz.func223, Tryz.ntmps223;go_wp2_with fail;refine cM (HP.out _) ?_;rintro e w1 ⟨rfl,rfl⟩;go_wp2;go_ret2;exact⟨rfl,rfl⟩
 go_enter Tryz.func142, Tryz.ntmps142;go_wp2_with fail;refine cM (CP.out _) ?_;rintro e w1 ⟨rfl,rfl⟩;go_wp2;go_ret2;exact⟨rfl,rfl⟩
theorem zfu (r:Bs) (c:UInt8) (hr:r.length<=100000) (h:r.head?≠some c) (w:Wo) :
  Cl 142 #[.string (st r),.string ⟨#[c]⟩] w fun e w'=>e = .returned (.tuple #[.string (st r),.bool false])/\w'=w:=by
 match r,hr,h with
 | [],_,_=>exact zls c w
 | d::t,hr,h =>
  have hd:¬d=c:=fun e=>h (by rw[e];rfl)
  have:=zbo d c t (by rw[List.length_cons] at hr;omega) w;rw[if_neg hd,decide_eq_false hd] at this;exact this
theorem zgm (r:Bs) (c:UInt8) (hr:r.length<=100000) (h:r.head?=some c) (w:Wo) :
  Cl 142 #[.string (st r),.string ⟨#[c]⟩] w fun e w'=>e = .returned (.tuple #[.string (st r.tail),.bool true])/\w'=w:=by
 match r,hr,h with
 | [],_,h=>cases h
 | d::t,hr,h =>
  have hd:d=c:=by injection h
  have:=zbo d c t (by rw[List.length_cons] at hr;omega) w;rw[if_pos hd,decide_eq_true hd] at this;exact this
theorem zlt (b:Nat) (r:Bs) (hr:r.length<=2000) (h1:¬(r.length=17/\r.head?=some 84)) (h2:¬(r.length=5/\r.head?=some 69)) (w:Wo) :
  Cl 78 #[.pointer (some ⟨b,1,none⟩),.string (st r)] w fun e w'=>e = .returned (.bool false)/\w'=w:=by
 have hs:(st r.tail).size=r.length - 1:=by rw[zaf,List.length_tail]
 by_cases a:r.head?=some 84
 ·have C1:Hid _:=zgm r 84 (by omega) a w
  have C2:Hid _:=zfu r 69 (by omega) (by rw[a];decide) w;have hl:0 < r.length:=by cases r with
   | nil=>cases a
   | cons=>simp
  have g1:¬((st r.tail).size:Int)=16:=fun c=>h1 ⟨by omega,a⟩
  obtain⟨S,hS⟩:∃S,st r=S:=⟨_,rfl⟩;obtain⟨T,hT⟩:∃S,st r.tail=S:=⟨_,rfl⟩;rw[hS] at C1 C2 ⊢;rw[hT] at C1 g1;clear hS hT hs a h1 h2 hr hl;go_enter Tryz.func78, Tryz.ntmps78;go_wp2_with fail;refine cM C1.out ?_;rintro e w1 ⟨rfl,rfl⟩;clear C1;go_wp2_with fail;refine cM C2.out ?_;rintro e w1 ⟨rfl,rfl⟩;clear C2;go_wp2;go_ret;exact⟨rfl,rfl⟩
 ·have C1:Hid _:=zfu r 84 (by omega) a w
  by_cases c:r.head?=some 69
  ·have C2:Hid _:=zgm r 69 (by omega) c w
   have hl:0 < r.length:=by cases r with
    | nil=>cases c
    | cons=>simp
   have g1:¬((st r.tail).size:Int)=4:=fun e=>h2 ⟨by omega,c⟩
   obtain⟨S,hS⟩:∃S,st r=S:=⟨_,rfl⟩;obtain⟨T,hT⟩:∃S,st r.tail=S:=⟨_,rfl⟩;rw[hS] at C1 C2 ⊢;rw[hT] at C2 g1;clear hS hT hs a c h1 h2 hr hl;go_enter Tryz.func78, Tryz.ntmps78;go_wp2_with fail;refine cM C1.out ?_;rintro e w1 ⟨rfl,rfl⟩;clear C1;go_wp2_with fail;refine cM C2.out ?_;rintro e w1 ⟨rfl,rfl⟩;clear C2;go_wp2;go_ret;exact⟨rfl,rfl⟩
  ·have C2:Hid _:=zfu r 69 (by omega) c w
   obtain⟨S,hS⟩:∃S,st r=S:=⟨_,rfl⟩;rw[hS] at C1 C2 ⊢;clear hS hs a c h1 h2 hr;go_enter Tryz.func78, Tryz.ntmps78;go_wp2_with fail;refine cM C1.out ?_;rintro e w1 ⟨rfl,rfl⟩;clear C1;go_wp2_with fail;refine cM C2.out ?_;rintro e w1 ⟨rfl,rfl⟩;clear C2;go_wp2;go_ret;exact⟨rfl,rfl⟩
theorem zi1 (b q ep most:Nat) (va vh:Value) (ah he:List Bs) (h1:ah.length<=100000) (h2:he.length<=100000) (t:Bs) (ht:t.length=16) (hm:t∈ah++he) (w:Wo) (h:Hid (Es w b q ep most va vh ah he)) :
  Cl 78 #[.pointer (some ⟨b,1,none⟩),.string (st (84::t))] w fun e w'=>e = .returned (.bool true)/\w'=w:=by
 have C1:Hid _:=zbo 84 84 t (by omega) w;rw[if_pos rfl,decide_eq_true rfl] at C1;have HS:Hid _:=zdI b q ep most va vh ah he h1 h2 (st t) w h;rw[zdp,decide_eq_true hm] at HS;have hs:(st t).size=16:=by rw[zaf,ht]
 obtain⟨T,hT⟩:∃T,st t=T:=⟨_,rfl⟩;obtain⟨S,hS⟩:∃S,st (84::t)=S:=⟨_,rfl⟩;rw[hT] at C1 HS hs;rw[hS] at C1 ⊢;have A1:Hid (Cl 143 #[.pointer (some ⟨b,1,none⟩),.string T] w fun e w'=>e = .returned (.tuple #[])/\w'=w):=by
  clear C1 hT hS h hm;go_enter Tryz.func143, Tryz.ntmps143;go_wp2_with fail;refine cM HS.out ?_;rintro e w1 ⟨rfl,rfl⟩;clear HS;go_wp2;go_end0;exact⟨rfl,rfl⟩
 clear hT hS h hm HS;go_enter Tryz.func78, Tryz.ntmps78;go_wp2_with fail;refine cM C1.out ?_;rintro e w1 ⟨rfl,rfl⟩;clear C1;go_wp2_with fail;refine cM A1.out ?_;rintro e w2 ⟨rfl,rfl⟩;clear A1;go_wp2;go_ret;exact⟨rfl,rfl⟩
theorem Es.far {w:Wo} {b q ep most:Nat} {va vh:Value} {ah he:List Bs} (h:Es w b q ep most va vh ah he) (k:Nat) :
  Es (((w.setCell ⟨b,2,none⟩ (.slice none 0 0)).setCell ⟨b,3,none⟩ (.slice none 0 0)).setCell ⟨b,1,none⟩ (.int .i64 (k:Int))) b q k most (.slice none 0 0) (.slice none 0 0) [] [] :=
 ⟨((h.bk.set 2 (show 2 < 5 by decide) (.slice none 0 0)).set 3 (show 3 < 5 by decide) (.slice none 0 0)).set 1 (show 1 < 5 by decide) (.int .i64 (k:Int)),zan _,zan _,(fun c=>by cases c),(fun c=>by cases c),fun g _ c=>by cases c⟩
def TuP (w:Wo) (b q most:Nat) (va vh:Value) (y:Ey) (w':Wo):Prop:=∃va' vh',Es w' b q y.1 most va' vh' y.2.1 y.2.2/\Bf (EFt b va vh) w w'/\Nx w (EFt b va vh) (EFt b va' vh')
theorem zlu (b q ep most:Nat) (va vh:Value) (ah he:List Bs) (n:Nat) (hn:n < ep\/2147483647 < n) (w:Wo) (h:Hid (Es w b q ep most va vh ah he)) :
  Cl 144 #[.pointer (some ⟨b,1,none⟩),.int .i64 (n:Int)] w fun e w'=>e = .returned (.bool false)/\w'=w:=by
 have k1:=h.out.bk.c 1 _ rfl;obtain⟨z,hz⟩:∃z:Int,(n:Int)=z:=⟨_,rfl⟩;obtain⟨y,hy⟩:∃z:Int,(ep:Int)=z:=⟨_,rfl⟩;rw[hy] at k1;rw[hz];by_cases c:z < y
 ·clear h hz hy hn
  go_enter Tryz.func144, Tryz.ntmps144;go_wp2;go_ret;exact⟨rfl,rfl⟩
 ·have g:2147483647 < z:=by omega
  clear h hz hy hn;go_enter Tryz.func144, Tryz.ntmps144;go_wp2;go_ret;exact⟨rfl,rfl⟩
theorem zi2 (b q ep most:Nat) (va vh:Value) (ah he:List Bs) (n:Nat) (h1:ep<=n) (h2:n<=2147483647) (w:Wo) (h:Hid (Es w b q ep most va vh ah he)) :
  Cl 144 #[.pointer (some ⟨b,1,none⟩),.int .i64 (n:Int)] w fun e w'=>e = .returned (.bool true)/\TuP w b q most va vh (n,tun ep ah he n) w':=by
 by_cases e1:n=ep+1
 ·subst e1
  have et:tun ep ah he (ep+1)=(he,[]):=by unfold tun;rw[if_neg (by omega),if_pos rfl]
  rw[et];exact (zi0 b q ep most va vh ah he h2 w h).mono fun _ _ ⟨x1,x2,x3,x4⟩=>⟨x1,_,_,x2,x3,x4⟩
 have k1:=h.out.bk.c 1 _ rfl;have k2:=h.out.bk.c 2 _ rfl;have k3:=h.out.bk.c 3 _ rfl;have kf:=h.out.bk.f;by_cases e0:n=ep
 ·subst e0
  have et:tun n ah he n=(ah,he):=if_pos rfl;rw[et];have E2:Hid (TuP w b q most va vh (n,ah,he) (w.setCell ⟨b,1,none⟩ (.int .i64 (n:Int)))):=⟨va,vh,h.out.setEp n,bf_set (Bf.refl _ _) (.inl rfl),Nx.refl _ _⟩;have g1:¬(n:Int) < (n:Int):=by omega
  have g3:¬(2147483647:Int) < (n:Int):=by omega
  have g2:(n:Int) - (n:Int)=0:=by omega
  obtain⟨z,hz⟩:∃z:Int,(n:Int)=z:=⟨_,rfl⟩;rw[hz] at g1 g2 g3 E2 k1 ⊢;clear h hz e1 et;go_enter Tryz.func144, Tryz.ntmps144;go_wp2;go_ret;exact⟨rfl,E2.out⟩
 ·have et:tun ep ah he n=([],[]):=by unfold tun;rw[if_neg e0,if_neg e1]
  rw[et];have E2:Hid (TuP w b q most va vh (n,[],[]) (((w.setCell ⟨b,2,none⟩ (.slice none 0 0)).setCell ⟨b,3,none⟩ (.slice none 0 0)).setCell ⟨b,1,none⟩ (.int .i64 (n:Int)))):=⟨_,_,h.out.far n,bf_set (bf_set (bf_set (Bf.refl _ _) (.inl rfl)) (.inl rfl)) (.inl rfl),fun x hx=>by
   rcases hx with e|e|e
   ·exact .inl (.inl e)
   ·cases e
   ·cases e⟩
  have g1:¬(n:Int) < (ep:Int):=by omega
  have g3:¬(2147483647:Int) < (n:Int):=by omega
  obtain⟨f,hf⟩:∃f:Int,(n:Int) - (ep:Int)=f:=⟨_,rfl⟩;have g4:¬f=0:=by omega
  have g5:¬f=1:=by omega
  have g6:IntKind.i64.wrap f=f:=by rw[IntKind.wrap_i64];omega
  obtain⟨z,hz⟩:∃z:Int,(n:Int)=z:=⟨_,rfl⟩;obtain⟨y,hy⟩:∃z:Int,(ep:Int)=z:=⟨_,rfl⟩;rw[hz] at g1 g3 hf E2 ⊢;rw[hy] at g1 hf k1;obtain⟨a1,n1,c1,rfl⟩:=owns_sliceS h.out.ra;obtain⟨a2,n2,c2,rfl⟩:=owns_sliceS h.out.rh;clear h hz hy e0 e1 et;go_enter Tryz.func144, Tryz.ntmps144;go_wp2;go_ret;exact⟨rfl,E2.out⟩
theorem zlv (b q ep most:Nat) (va vh:Value) (ah he:List Bs) (t:Bs) (ht:t.length=4) (w:Wo) (h:Hid (Es w b q ep most va vh ah he)) :
  Cl 78 #[.pointer (some ⟨b,1,none⟩),.string (st (69::t))] w fun e w'=>e = .returned (.bool (!decide (nm t < ep\/2147483647 < nm t)))/\TuP w b q most va vh (if nm t < ep\/2147483647 < nm t then (ep,ah,he) else (nm t,tun ep ah he (nm t))) w':=by
 have TN:Hid (Cl 144 #[.pointer (some ⟨b,1,none⟩),.int .i64 (nm t:Int)] w fun e w'=>e = .returned (.bool (!decide (nm t < ep\/2147483647 < nm t)))/\TuP w b q most va vh (if nm t < ep\/2147483647 < nm t then (ep,ah,he) else (nm t,tun ep ah he (nm t))) w'):=by
  by_cases c:nm t < ep\/2147483647 < nm t
  ·rw[if_pos c,decide_eq_true c]
   exact (zlu b q ep most va vh ah he (nm t) c w h).mono fun _ _ ⟨x1,x2⟩=>⟨x1,by subst x2;exact⟨va,vh,h.out,Bf.refl _ _,Nx.refl _ _⟩⟩
  ·rw[if_neg c,decide_eq_false c]
   exact (zi2 b q ep most va vh ah he (nm t) (by omega) (by omega) w h).mono fun _ _ x=>x
 have C1:Hid _:=zbo 69 84 t (by omega) w;rw[if_neg (by decide),decide_eq_false (by decide)] at C1;have C2:Hid _:=zbo 69 69 t (by omega) w;rw[if_pos rfl,decide_eq_true rfl] at C2;have N1:Hid (Cl 145 #[.string (st t)] w fun e w'=>e = .returned (.int .i64 (nm t:Int))/\w'=w):=zfr t ht w;have hs:(st t).size=4:=by rw[zaf,ht]
 obtain⟨T,hT⟩:∃T,st t=T:=⟨_,rfl⟩;obtain⟨S,hS⟩:∃S,st (69::t)=S:=⟨_,rfl⟩;obtain⟨Y,hY⟩:∃Y,(if nm t < ep\/2147483647 < nm t then (ep,ah,he) else (nm t,tun ep ah he (nm t)))=Y:=⟨_,rfl⟩;obtain⟨d,hd⟩:∃d,(!decide (nm t < ep\/2147483647 < nm t))=d:=⟨_,rfl⟩;obtain⟨z,hz⟩:∃z:Int,(nm t:Int)=z:=⟨_,rfl⟩;rw[hY,hd] at TN ⊢;rw[hz] at TN N1;rw[hT] at C2 N1 hs;rw[hS] at C1 C2 ⊢;clear hT hS h hz hY hd ht;go_enter Tryz.func78, Tryz.ntmps78;go_wp2_with fail;refine cM C1.out ?_;rintro e w1 ⟨rfl,rfl⟩;clear C1;go_wp2_with fail;refine cM C2.out ?_;rintro e w1 ⟨rfl,rfl⟩;clear C2;go_wp2_with fail;refine cM N1.out ?_;rintro e w1 ⟨rfl,rfl⟩;clear N1;go_wp2_with fail;refine cM TN.out ?_;rintro e w2 ⟨rfl,E2⟩;have FF:Hid _:=E2;clear TN E2;go_wp2;go_ret;exact⟨rfl,FF.out⟩
theorem take_c:zlr:=by
 intro b q most va vh y r W hy hr h;obtain⟨ep,ah,he⟩:=y;have hn:=hy.n;simp only at hn h;have go:∀(o:Option Ey),tkE (ep,ah,he) r=o->(Cl 78 #[.pointer (some ⟨b,1,none⟩),.string (st r)] W fun e w'=>e = .returned (.bool o.isSome)/\TuP W b q most va vh (o.getD (ep,ah,he)) w')->Cl 78 #[.pointer (some ⟨b,1,none⟩),.string (st r)] W fun e w'=>e = .returned (.bool (tkE (ep,ah,he) r).isSome)/\∃va' vh',Es w' b q ((tkE (ep,ah,he) r).getD (ep,ah,he)).1 most va' vh' ((tkE (ep,ah,he) r).getD (ep,ah,he)).2.1 ((tkE (ep,ah,he) r).getD (ep,ah,he)).2.2/\Bf (EFt b va vh) W w'/\Nx W (EFt b va vh) (EFt b va' vh'):=fun o e c=>by
  rw[e];exact c
 by_cases h1:r.length=17/\r.head?=some 84
 ·obtain⟨t,rfl⟩:∃t,r=84::t:=by
   cases r with
   | nil=>cases h1.2
   | cons d t=>exact⟨t,by have:=h1.2;injection this with this;rw[this]⟩
  have ht:t.length=16:=by have:=h1.1;rw[List.length_cons] at this;omega
  have ek:tkE (ep,ah,he) (84::t)=some (ep,ah,if t∈ah++he then he else he++[t]):=if_pos h1;refine go _ ek ?_;by_cases hm:t∈ah++he
  ·rw[if_pos hm]
   exact (zi1 b q ep most va vh ah he (by omega) (by omega) t ht hm W h).mono fun _ _ ⟨x1,x2⟩=>⟨x1,by subst x2;exact⟨va,vh,h,Bf.refl _ _,Nx.refl _ _⟩⟩
  ·rw[if_neg hm]
   exact (zg6 b q ep most va vh ah he (by omega) (by omega) t ht hm W h).mono fun _ _ ⟨x1,v',x2,x3,x4⟩=>⟨x1,va,v',x2,x3,x4⟩
 ·by_cases h2:r.length=5/\r.head?=some 69
  ·obtain⟨t,rfl⟩:∃t,r=69::t:=by
    cases r with
    | nil=>cases h2.2
    | cons d t=>exact⟨t,by have:=h2.2;injection this with this;rw[this]⟩
   have ht:t.length=4:=by have:=h2.1;rw[List.length_cons] at this;omega
   have ek:tkE (ep,ah,he) (69::t)=if nm t < ep\/2147483647 < nm t then none else some (nm t,tun ep ah he (nm t)):=by
    unfold tkE tkp;rw[if_neg h1,if_pos h2];rfl
   have T:=zlv b q ep most va vh ah he t ht W h;by_cases c:nm t < ep\/2147483647 < nm t
   ·rw[if_pos c] at ek T
    rw[decide_eq_true c] at T;exact go _ ek T
   ·rw[if_neg c] at ek T
    rw[decide_eq_false c] at T;exact go _ ek T
  ·have ek:tkE (ep,ah,he) r=none:=by
    unfold tkE tkp;rw[if_neg h1,if_neg h2]
   refine go _ ek ?_;exact (zlt b r hr h1 h2 W).mono fun _ _ ⟨x1,x2⟩=>⟨x1,by subst x2;exact⟨va,vh,h,Bf.refl _ _,Nx.refl _ _⟩⟩
end Go.Proofs.YtjcppbhgjchjaaaGreatDoor.Sto
namespace Go.Proofs.YtjcppbhgjchjaaaGreatDoor
open Go.RowKit Go.Proofs.Fd
def Lbl (lab:Nat->Nat) (i:Nat) (P:Nat->Prop) (B N:Nat):Prop:=∀z,P z->lab z=i/\B<=z/\z < N
def relab (lab:Nat->Nat) (N i:Nat) (z:Nat):Nat:=if z < N then lab z else i
section
variable {lab:Nat->Nat} {i j B N N':Nat} {P Q:Nat->Prop}
theorem zaq {z:Nat} (h:z < N):relab lab N i z=lab z:=if_pos h
theorem zar {z:Nat} (h:N<=z):relab lab N i z=i:=if_neg (by omega)
theorem Lbl.up (h:Lbl lab j P B N) (hN:N<=N'):Lbl lab j P B N':=fun z hz=>⟨(h z hz).1,(h z hz).2.1,by have:=(h z hz).2.2;omega⟩
theorem Lbl.as (h:Lbl lab j P B N) {lab':Nat->Nat} (hl:∀z,z < N->lab' z=lab z) (hN:N<=N'):Lbl lab' j P B N':=fun z hz=>⟨(hl z (h z hz).2.2).trans (h z hz).1,(h z hz).2.1,by have:=(h z hz).2.2;omega⟩
theorem Lbl.next (h:Lbl lab i P B N) {P':Nat->Prop} {lab':Nat->Nat} (hl:∀z,z < N->lab' z=lab z) (hu:∀z,N<=z->P' z->lab' z=i) (hn:∀z,P' z->P z\/N<=z) (ht:∀z,P' z->z < N') (hB:B<=N):Lbl lab' i P' B N':=fun z hz=>by
 rcases hn z hz with c|c
 ·exact⟨(hl z (h z c).2.2).trans (h z c).1,(h z c).2.1,ht z hz⟩
 ·exact⟨hu z c hz,by omega,ht z hz⟩
theorem Lbl.apart (h:Lbl lab i P B N) {B' N':Nat} (k:Lbl lab j Q B' N') (hij:i≠j) {z:Nat} (hz:P z):¬Q z:=fun c=>hij ((h z hz).1.symm.trans (k z c).1)
end
def Fm (w:Wo) (lab:Nat->Nat) (z:Nat):Prop:=lab z < 5/\w.heap.size<=z
structure Fr (w wr:Wo) (lab lab':Nat->Nat) (w':Wo):Prop where
 lo:∀z,z < wr.heap.size->lab' z=lab z
 bf:Sto.Bf (Fm w lab) wr w'
theorem Fr.refl (w wr:Wo) (lab:Nat->Nat):Fr w wr lab lab wr:=⟨fun _ _=>rfl,Sto.Bf.refl _ _⟩
theorem Fr.of {w wr w':Wo} {lab:Nat->Nat} (h:Bw wr w'):Fr w wr lab lab w':=⟨fun _ _=>rfl,Sto.Bf.of h⟩
theorem Fr.trans {w a b c:Wo} {l1 l2 l3:Nat->Nat} (h:Fr w a l1 l2 b) (k:Fr w b l2 l3 c):Fr w a l1 l3 c :=
 ⟨fun z hz=>(k.lo z (Nat.lt_of_lt_of_le hz h.bf.size)).trans (h.lo z hz),h.bf.trans (fun z hz=>by
  rcases Nat.lt_or_ge z a.heap.size with c|c
  ·exact .inl ⟨by rw[<-h.lo z c];exact hz.1,hz.2⟩
  ·exact .inr c) k.bf⟩
theorem zpP {F:Nat->Prop} {w w':Wo} (h:Whl.Bf F w w'):Sto.Bf F w w':=⟨h.os,h.tape,h.output,h.size,h.block⟩
theorem zi3 {F:Nat->Prop} {w w':Wo} (h:Sto.Bf F w w'):Whl.Bf F w w':=⟨h.os,h.tape,h.output,h.size,h.block⟩
structure Mo (D:DataW Unit) (l:List (Nat×(Int×Ba))):Prop where
 has:∀n:Int,Maps.has D (.int .i64 n)=l.any fun t=>decide ((t.1:Int)=n)
 at_:∀t∈l,D.atKey (.int .i64 (t.1:Int)) (zhf 0 ⟨#[]⟩)=zhf t.2.1 t.2.2
 size:Maps.size D=l.length
theorem Mo.init:Mo (.map []) []:=⟨fun _=>rfl,nofun,rfl⟩
theorem Mo.put {D:DataW Unit} {l:List (Nat×(Int×Ba))} (h:Mo D l) (hD:Maps.Tidy D) {t:Nat×(Int×Ba)} (ht:∀x∈l,x.1≠t.1):Mo (D.put (.int .i64 (t.1:Int)) (zhf t.2.1 t.2.2)) (l++[t]):=by
 have h0:Maps.has D (.int .i64 (t.1:Int))=false:=by
  rw[h.has,List.any_eq_false];intro x hx;have:=ht x hx;simp;omega
 refine⟨fun n => ?_,fun x hx => ?_,?_⟩
 ·rw[List.any_append]
  by_cases e:(t.1:Int)=n
  ·subst e
   rw[Maps.has_put_same hD.isMap (by trivial)];simp
  ·rw[Maps.has_put_other (Whl.key_ne (Ne.symm e)),h.has]
   simp[e]
 ·rcases List.mem_append.1 hx with hx|hx
  ·have:=ht x hx
   rw[Maps.atKey_put_other (Whl.key_ne (by omega))];exact h.at_ x hx
  ·rw[List.mem_singleton] at hx
   subst hx;exact Maps.atKey_put_same hD.isMap (by trivial) _ _
 ·rw[Maps.size_put hD,h0,h.size]
  simp
theorem zcY:∀{l:List (Nat×(Int×Ba))},(l.Pairwise fun x y=>x.1≠y.1)->∀{t:Nat×(Int×Ba)},t∈l->(l.filter fun x=>!decide ((x.1:Int)=t.1)).length+1=l.length
 | [],_,_,ht=>by cases ht
 | y::l,h,t,ht=>by
  rw[List.pairwise_cons] at h;by_cases e:y.1=t.1
  ·have:(l.filter fun x=>!decide ((x.1:Int)=t.1))=l:=by
    rw[List.filter_eq_self];intro x hx;have:=h.1 x hx;simp;omega
   simp[e,this]
  ·rcases List.mem_cons.1 ht with rfl|ht
   ·exact absurd rfl e
   ·have ih:=zcY h.2 ht
    have e':¬((y.1:Int)=t.1):=by omega
    simp only[List.filter_cons,e',decide_false,Bool.not_false,if_true,List.length_cons];omega
theorem Mo.del {D:DataW Unit} {l:List (Nat×(Int×Ba))} (h:Mo D l) (hD:Maps.Tidy D) (hl:l.Pairwise fun x y=>x.1≠y.1) {t:Nat×(Int×Ba)} (ht:t∈l):Mo (D.del (.int .i64 (t.1:Int))) (l.filter fun x=>!decide ((x.1:Int)=t.1)):=by
 have h0:Maps.has D (.int .i64 (t.1:Int))=true:=by
  rw[h.has,List.any_eq_true];exact⟨t,ht,by simp⟩
 refine⟨fun n => ?_,fun x hx => ?_,?_⟩
 ·by_cases e:(t.1:Int)=n
  ·subst e
   rw[Maps.has_del_same]
   symm
   rw[List.any_eq_false];intro x hx
   simpa using (List.mem_filter.1 hx).2
  ·rw[Maps.has_del_other (Whl.key_ne (Ne.symm e)),h.has,List.any_filter]
   refine congrArg l.any (funext fun x => ?_);by_cases q:(x.1:Int)=n
   ·have:¬(x.1:Int)=t.1:=by omega
    simp[q];omega
   ·simp[q]
 ·have:=(List.mem_filter.1 hx).2
  simp at this;rw[Maps.atKey_del_other (Whl.key_ne (by omega))];exact h.at_ x (List.mem_filter.1 hx).1
 ·have h1:=Maps.size_del (k := .int .i64 (t.1:Int)) hD
  have h2:=zcY hl ht;rw[h0,h.size] at h1;simp at h1;omega
abbrev mxc (b pw bm:Nat) (key:Ba) (pool:Nat) (vl:Value) (c:Ct):List Value:=[.pointer (some ⟨b,0,none⟩),.pointer (some ⟨pw,0,none⟩),.string key,.int .i64 (pool:Int),.map (some bm),vl,.int .i64 (c.on:Int),.int .i64 (c.home:Int),.int .i64 (c.loop:Int),.int .i64 (c.drop:Int),.int .i64 (c.twice:Int),.int .i64 (c.bad:Int)]
structure Nr (w wr:Wo) (p m:Nat) (key:Ba) (nd:Nd) (lab:Nat->Nat) (F:Nat->Prop) (q:Nat) (v:Value) (b:Nat) (va vh:Value) (pw:Nat) (G:Nat->Prop) (bm:Nat) (D:DataW Unit) (vl:Value):Prop where
 pz:Sto.Pz w wr p F nd.s q v nd.x b 4096 va vh nd.y
 wt:Whl.WAt wr pw G nd.t
 mp:zdJ wr bm D
 mo:Mo D nd.w
 ls:Sto.OwnsS wr vl (nd.l.map fun x=>x.data.toList)
 bk:Sto.Blk wr m (mxc b pw bm key nd.pool vl nd.c)
 l0:Lbl lab 0 (Sto.FP F q v b va vh) w.heap.size wr.heap.size
 l1:Lbl lab 1 G w.heap.size wr.heap.size
 l2:Lbl lab 2 (fun z=>z=bm) w.heap.size wr.heap.size
 l3:Lbl lab 3 (fun z=>vl.ownBlock=some z) w.heap.size wr.heap.size
 l4:Lbl lab 4 (fun z=>z=m) w.heap.size wr.heap.size
section
variable {w wr:Wo} {p m:Nat} {key:Ba} {nd:Nd} {lab:Nat->Nat} {F:Nat->Prop} {q:Nat} {v:Value} {b:Nat} {va vh:Value} {pw:Nat} {G:Nat->Prop} {bm:Nat} {D:DataW Unit} {vl:Value}
theorem Nr.nw (h:Nr w wr p m key nd lab F q v b va vh pw G bm D vl):w.heap.size<=wr.heap.size:=h.pz.lz.hd_.dl.below.size
theorem Nr.later (h:Nr w wr p m key nd lab F q v b va vh pw G bm D vl) {w':Wo} (hb:Bw wr w'):Nr w w' p m key nd lab F q v b va vh pw G bm D vl :=
 ⟨⟨h.pz.lz.later hb,h.pz.es.later hb,h.pz.ap⟩,h.wt.later hb,Whl.ownsMap_same h.mp (hb.block _ h.mp.lt),h.mo,Sto.ownsRow_same h.ls (fun g e=>hb.block g (h.ls.lt g e).2),h.bk.later hb,h.l0.up hb.size,h.l1.up hb.size,h.l2.up hb.size,h.l3.up hb.size,h.l4.up hb.size⟩
theorem Nr.other (h:Nr w wr p m key nd lab F q v b va vh pw G bm D vl) {w':Wo} {K:Nat->Prop} {lab':Nat->Nat} (hb:Sto.Bf K wr w') (hK:∀z,K z->z < wr.heap.size->5<=lab z) (hw:∀z,K z->w.heap.size<=z) (hl:∀z,z < wr.heap.size->lab' z=lab z):Nr w w' p m key nd lab' F q v b va vh pw G bm D vl:=by
 have key0:∀{i:Nat} {P:Nat->Prop} {z:Nat},Lbl lab i P w.heap.size wr.heap.size->i < 5->P z->¬K z:=fun {i P z} hl hi hz c=>by
  have:=hK z c (hl z hz).2.2;have:=(hl z hz).1;omega
 have s:=hb.size;exact⟨⟨h.pz.lz.other hb (fun z hz=>key0 h.l0 (by decide) (.inl hz)) hw,h.pz.es.bf hb (fun z hz=>key0 h.l0 (by decide) (.inr hz)),h.pz.ap⟩,
  h.wt.other (zi3 hb) (fun z hz=>key0 h.l1 (by decide) hz),Whl.ownsMap_same h.mp (hb.block _ h.mp.lt (key0 h.l2 (by decide) rfl)),h.mo,Sto.ownsRow_same h.ls (fun g e=>hb.block g (h.ls.lt g e).2 (key0 h.l3 (by decide) e)),h.bk.bf hb (key0 h.l4 (by decide) rfl),
  h.l0.as hl s,h.l1.as hl s,h.l2.as hl s,h.l3.as hl s,h.l4.as hl s⟩
theorem Nr.set (h:Nr w wr p m key nd lab F q v b va vh pw G bm D vl) {w':Wo} {s':Go.Proofs.Dk.St} {x':Go.Proofs.Lg.Lo} {y':Sto.Ey} (k:Sto.PzP w wr (Sto.FP F q v b va vh) p q b 4096 s' x' y' w') :
  ∃lab' F' v' va' vh',Nr w w' p m key { nd with s:=s',x:=x',y:=y' } lab' F' q v' b va' vh' pw G bm D vl/\Fr w wr lab lab' w':=by
 obtain⟨F',v',va',vh',zz,n,f⟩:=k;have hl:∀z,z < wr.heap.size->relab lab wr.heap.size 0 z=lab z:=fun z=>zaq
 have s:=f.size;have ap:∀{i:Nat} {P:Nat->Prop} {z:Nat},Lbl lab i P w.heap.size wr.heap.size->i≠0->P z->¬Sto.FP F q v b va vh z:=fun {i P z} k hi hz=>k.apart h.l0 hi hz
 refine⟨relab lab wr.heap.size 0,F',v',va',vh',⟨zz,h.wt.other (zi3 f) (fun z hz=>ap h.l1 (by decide) hz),Whl.ownsMap_same h.mp (f.block _ h.mp.lt (ap h.l2 (by decide) rfl)),h.mo,Sto.ownsRow_same h.ls (fun g e=>f.block g (h.ls.lt g e).2 (ap h.l3 (by decide) e)),h.bk.bf f (ap h.l4 (by decide) rfl),
  h.l0.next hl (fun z hz _=>zar hz) n (fun z hz => ?_) h.nw,h.l1.as hl s,h.l2.as hl s,h.l3.as hl s,h.l4.as hl s⟩,hl,f.wide fun z hz=>⟨by rw[(h.l0 z hz).1];decide,(h.l0 z hz).2.1⟩⟩
 rcases hz with c|c
 ·exact (zz.lz.fh c).1
 ·exact zz.es.lt c
theorem Nr.wheel (h:Nr w wr p m key nd lab F q v b va vh pw G bm D vl) {w':Wo} {t':Go.Proofs.Wh.St} {G':Nat->Prop} (k:Whl.WAt w' pw G' t') (n:Whl.Nx wr G G') (f:Whl.Bf G wr w') :
  ∃lab',Nr w w' p m key { nd with t:=t' } lab' F q v b va vh pw G' bm D vl/\Fr w wr lab lab' w'/\∀z,wr.heap.size<=z->lab' z=1:=by
 have hl:∀z,z < wr.heap.size->relab lab wr.heap.size 1 z=lab z:=fun z=>zaq
 have s:=f.size;have fs:=zpP f;have ap:∀{i:Nat} {P:Nat->Prop} {z:Nat},Lbl lab i P w.heap.size wr.heap.size->i≠1->P z->¬G z:=fun {i P z} k hi hz=>k.apart h.l1 hi hz
 exact⟨relab lab wr.heap.size 1,⟨⟨h.pz.lz.other fs (fun z hz=>ap h.l0 (by decide) (.inl hz)) (fun z hz=>(h.l1 z hz).2.1),h.pz.es.bf fs (fun z hz=>ap h.l0 (by decide) (.inr hz)),h.pz.ap⟩,k,Whl.ownsMap_same h.mp (fs.block _ h.mp.lt (ap h.l2 (by decide) rfl)),h.mo,Sto.ownsRow_same h.ls (fun g e=>fs.block g (h.ls.lt g e).2 (ap h.l3 (by decide) e)),h.bk.bf fs (ap h.l4 (by decide) rfl),
  h.l0.as hl s,h.l1.next hl (fun z hz _=>zar hz) n (fun z hz=>k.lt hz) h.nw,h.l2.as hl s,h.l3.as hl s,h.l4.as hl s⟩,⟨hl,fs.wide fun z hz=>⟨by rw[(h.l1 z hz).1];decide,(h.l1 z hz).2.1⟩⟩,fun z hz=>zar hz⟩
theorem Nr.map (h:Nr w wr p m key nd lab F q v b va vh pw G bm D vl) {w':Wo} {D':DataW Unit} {ws:List (Nat×(Int×Ba))} (k:zdJ w' bm D') (o:Mo D' ws) (g:wr.grownBy w' (some bm)) :
  Nr w w' p m key { nd with w:=ws } lab F q v b va vh pw G bm D' vl/\Fr w wr lab lab w':=by
 have f:Sto.Bf (fun z=>z=bm) wr w':=Sto.Bf.grown g fun z e => .inl (by injection e with e;exact e.symm)
 have s:=f.size;have ap:∀{i:Nat} {P:Nat->Prop} {z:Nat},Lbl lab i P w.heap.size wr.heap.size->i≠2->P z->¬z=bm:=fun {i P z} k hi hz=>k.apart h.l2 hi hz
 exact⟨⟨⟨h.pz.lz.other f (fun z hz=>ap h.l0 (by decide) (.inl hz)) (fun z hz=>(h.l2 z hz).2.1),h.pz.es.bf f (fun z hz=>ap h.l0 (by decide) (.inr hz)),h.pz.ap⟩,h.wt.other (zi3 f) (fun z hz=>ap h.l1 (by decide) hz),k,o,Sto.ownsRow_same h.ls (fun g e=>f.block g (h.ls.lt g e).2 (ap h.l3 (by decide) e)),h.bk.bf f (ap h.l4 (by decide) rfl),h.l0.up s,h.l1.up s,h.l2.up s,h.l3.up s,h.l4.up s⟩,fun _ _=>rfl,f.wide fun z hz=>⟨by rw[(h.l2 z hz).1];decide,(h.l2 z hz).2.1⟩⟩
theorem Nr.cells (h:Nr w wr p m key nd lab F q v b va vh pw G bm D vl) (i:Nat) (u:Value) (hi:i < 12) {c':Ct} (e:(mxc b pw bm key nd.pool vl nd.c).set i u=mxc b pw bm key nd.pool vl c') :
  Nr w (wr.setCell ⟨m,i,none⟩ u) p m key { nd with c:=c' } lab F q v b va vh pw G bm D vl/\Fr w wr lab lab (wr.setCell ⟨m,i,none⟩ u):=by
 have f:Sto.Bf (fun z=>z=m) wr (wr.setCell ⟨m,i,none⟩ u):=Sto.bf_set (Sto.Bf.refl _ _) rfl;have s:=f.size;have ap:∀{i:Nat} {P:Nat->Prop} {z:Nat},Lbl lab i P w.heap.size wr.heap.size->i≠4->P z->¬z=m:=fun {i P z} k hi hz=>k.apart h.l4 hi hz
 have b1:=h.bk.set i hi u;rw[e] at b1;exact⟨⟨⟨h.pz.lz.other f (fun z hz=>ap h.l0 (by decide) (.inl hz)) (fun z hz=>(h.l4 z hz).2.1),h.pz.es.bf f (fun z hz=>ap h.l0 (by decide) (.inr hz)),h.pz.ap⟩,h.wt.other (zi3 f) (fun z hz=>ap h.l1 (by decide) hz),Whl.ownsMap_same h.mp (f.block _ h.mp.lt (ap h.l2 (by decide) rfl)),h.mo,Sto.ownsRow_same h.ls (fun g e=>f.block g (h.ls.lt g e).2 (ap h.l3 (by decide) e)),b1,h.l0.up s,h.l1.up s,h.l2.up s,h.l3.up s,h.l4.up s⟩,fun _ _=>rfl,f.wide fun z hz=>⟨by rw[(h.l4 z hz).1];decide,(h.l4 z hz).2.1⟩⟩
theorem Nr.loops (h:Nr w wr p m key nd lab F q v b va vh pw G bm D vl) {w':Wo} {vl':Value} {ls':List Ba} (g:wr.grownBy w' vl.ownBlock) (o:Sto.OwnsS w' vl' (ls'.map fun x=>x.data.toList)) (hn:∀z,vl'.ownBlock=some z->vl.ownBlock=some z\/wr.heap.size<=z) :
  ∃lab',Nr w (w'.setCell ⟨m,5,none⟩ vl') p m key { nd with l:=ls' } lab' F q v b va vh pw G bm D vl'/\Fr w wr lab lab' (w'.setCell ⟨m,5,none⟩ vl'):=by
 have f:Sto.Bf (fun z=>vl.ownBlock=some z\/z=m) wr (w'.setCell ⟨m,5,none⟩ vl'):=Sto.bf_set ((Sto.Bf.grown g fun z e => .inl e).wide fun z e => .inl e) (.inr rfl);have s:=f.size;have hl:∀z,z < wr.heap.size->relab lab wr.heap.size 3 z=lab z:=fun z=>zaq
 have ap:∀{i:Nat} {P:Nat->Prop} {z:Nat},Lbl lab i P w.heap.size wr.heap.size->i≠3->i≠4->P z->¬(vl.ownBlock=some z\/z=m):=fun {i P z} k h3 h4 hz c=>by
  rcases c with c|c
  ·exact k.apart h.l3 h3 hz c
  ·exact k.apart h.l4 h4 hz c
 have hm:vl.ownBlock≠some m:=fun c=>h.l4.apart h.l3 (by decide) (rfl:m=m) c
 have hm':vl'.ownBlock≠some m:=fun c=>by
  rcases hn m c with e|e
  ·exact hm e
  ·have:=h.bk.lt;omega
 have b0:Sto.Blk w' m (mxc b pw bm key nd.pool vl nd.c):=h.bk.same (g.block m h.bk.lt (fun e=>hm e.symm));have b1:Sto.Blk (w'.setCell ⟨m,5,none⟩ vl') m (mxc b pw bm key nd.pool vl' nd.c):=b0.set 5 (by simp) vl';have o1:Sto.OwnsS (w'.setCell ⟨m,5,none⟩ vl') vl' (ls'.map fun x=>x.data.toList):=Sto.ownsRow_same o (fun x e=>Below.heap_setCell w' ⟨m,5,none⟩ vl' x (fun c=>hm' (by rw[e,c])));refine⟨relab lab wr.heap.size 3,⟨⟨h.pz.lz.other f (fun z hz=>ap h.l0 (by decide) (by decide) (.inl hz)) (fun z hz => ?_),h.pz.es.bf f (fun z hz=>ap h.l0 (by decide) (by decide) (.inr hz)),h.pz.ap⟩,h.wt.other (zi3 f) (fun z hz=>ap h.l1 (by decide) (by decide) hz),Whl.ownsMap_same h.mp (f.block _ h.mp.lt (ap h.l2 (by decide) (by decide) rfl)),h.mo,o1,b1,
  h.l0.as hl s,h.l1.as hl s,h.l2.as hl s,h.l3.next hl (fun z hz _=>zar hz) hn (fun z hz=>(o1.lt z hz).2) h.nw,h.l4.as hl s⟩,hl,f.wide fun z hz => ?_⟩
 ·rcases hz with c|c
  ·exact (h.l3 z c).2.1
  ·exact (h.l4 z c).2.1
 ·rcases hz with c|c
  ·exact⟨by rw[(h.l3 z c).1];decide,(h.l3 z c).2.1⟩
  ·exact⟨by rw[(h.l4 z c).1];decide,(h.l4 z c).2.1⟩
end
section
variable {w wr:Wo} {p m:Nat} {key:Ba} {nd:Nd} {lab:Nat->Nat} {F:Nat->Prop} {q:Nat} {v:Value} {b:Nat} {va vh:Value} {pw:Nat} {G:Nat->Prop} {bm:Nat} {D:DataW Unit} {vl:Value}
theorem Nr.c1 (h:Nr w wr p m key nd lab F q v b va vh pw G bm D vl):wr.cell? ⟨m,1,none⟩=some (.pointer (some ⟨pw,0,none⟩)):=h.bk.c 1 _ rfl
theorem Nr.c4 (h:Nr w wr p m key nd lab F q v b va vh pw G bm D vl):wr.cell? ⟨m,4,none⟩=some (.map (some bm)):=h.bk.c 4 _ rfl
theorem Nr.c6 (h:Nr w wr p m key nd lab F q v b va vh pw G bm D vl):wr.cell? ⟨m,6,none⟩=some (.int .i64 (nd.c.on:Int)):=h.bk.c 6 _ rfl
end
def Nd.put (nd:Nd) (h:Go.Proofs.Rt.Hp) (n:Ba):Nd:={ nd with t:=Go.Proofs.Wh.putS nd.t ((nd.t.now:Int)+1+h.d) (nd.c.on:Int),w:=nd.w++[(nd.c.on,(h.n,n))] }
theorem zi4 (w wr:Wo) (p m:Nat) (key:Ba) (nd:Nd) (lab:Nat->Nat) (F:Nat->Prop) (q:Nat) (v:Value) (b:Nat) (va vh:Value) (pw:Nat) (G:Nat->Prop) (bm:Nat) (D:DataW Unit) (vl:Value)
  (h:Go.Proofs.Rt.Hp) (n t s:Ba) (hd:0<=h.d/\h.d<=4096) (hw:nd.w.length < 4096) (hon:nd.c.on<=1000000) (hm:nd.t.many<=1000000) (hk:∀x∈nd.w,x.1≠nd.c.on) (H:Hid (Nr w wr p m key nd lab F q v b va vh pw G bm D vl)) :
  Cl 89 #[.pointer (some ⟨m,0,none⟩),pdv h n t s] wr fun e w'=>e = .returned (.tuple #[])/\∃lab' G' D',Nr w w' p m key (nd.put h n) lab' F q v b va vh pw G' bm D' vl/\Fr w wr lab lab' w':=by
 obtain⟨k,hn,u,dl,id⟩:=h;unfold pdv;have nb1:Below wr.heap.size wr (wr.alloc (.cells #[.int .i64 k,.int .i64 hn,.int .i64 u,.int .i64 dl,.string id,.string n,.string t,.string s] 148)):=(bQ _ _).alloc (nL _) _;have a0:∀i x,(#[.int .i64 k,.int .i64 hn,.int .i64 u,.int .i64 dl,.string id,.string n,.string t,.string s]:Array Value)[i]?=some x->(wr.alloc (.cells #[.int .i64 k,.int .i64 hn,.int .i64 u,.int .i64 dl,.string id,.string n,.string t,.string s] 148)).cell? ⟨wr.heap.size,i,none⟩=some x:=fun i x e=>by simp[go_sem,e]
 have hA0:wr.heap.size < (wr.alloc (.cells #[.int .i64 k,.int .i64 hn,.int .i64 u,.int .i64 dl,.string id,.string n,.string t,.string s] 148)).heap.size:=by simp
 have N1:=H.out.later nb1;obtain⟨A,hA⟩:∃A,wr.heap.size=A:=⟨_,rfl⟩;have hlA:∀z,G z->z < A:=fun z hz=>by rw[<-hA];exact (H.out.l1 z hz).2.2
 obtain⟨W1,hW1⟩:∃W,wr.alloc (.cells #[.int .i64 k,.int .i64 hn,.int .i64 u,.int .i64 dl,.string id,.string n,.string t,.string s] 148)=W:=⟨_,rfl⟩;rw[hW1] at a0 nb1 N1 hA0;rw[hA] at a0 hA0;have NN:Hid (Nr w W1 p m key nd lab F q v b va vh pw G bm D vl):=N1;have FR1:Hid (Fr w wr lab lab W1):=Fr.of nb1;have c1:=N1.c1;have c4:=N1.c4;have c6:=N1.c6;have x0:=a0 0 _ rfl;have x1:=a0 1 _ rfl;have x2:=a0 2 _ rfl;have x3:=a0 3 _ rfl;have x4:=a0 4 _ rfl;have x5:=a0 5 _ rfl;have DU:Hid (Cl 165 #[.pointer (some ⟨m,0,none⟩),.agg #[.int .i64 k,.int .i64 hn,.int .i64 u,.int .i64 dl,.string id]] W1.drew fun e w'=>e = .returned (.int .i64 ((nd.t.now:Int)+1+dl))/\(w'.cell? ⟨m,1,none⟩=some (.pointer (some ⟨pw,0,none⟩))/\w'.cell? ⟨A,0,none⟩=some (.int .i64 k)/\w'.cell? ⟨A,1,none⟩=some (.int .i64 hn)/\w'.cell? ⟨A,2,none⟩=some (.int .i64 u)/\w'.cell? ⟨A,3,none⟩=some (.int .i64 dl)/\w'.cell? ⟨A,4,none⟩=some (.string id))/\Hid (Below W1.heap.size W1 w')) :=
  (zgl m pw G nd.t k hn u dl id hd.1 hd.2 W1.drew c1 ((NN.out.later (bQ _ _).drew).wt)).mono fun _ w' ⟨e1,e2⟩=>⟨e1,⟨cell_later e2 c1,cell_later e2 x0,cell_later e2 x1,cell_later e2 x2,cell_later e2 x3,cell_later e2 x4⟩,chain (bQ W1.heap.size W1).drew e2⟩
 have PU:Hid (∀W2,Below W1.heap.size W1 W2->Cl 169 #[.pointer (some ⟨pw,0,none⟩),.int .i64 ((nd.t.now:Int)+1+dl),.int .i64 (nd.c.on:Int)] W2 fun e w'=>∃r,e = .returned r/\(w'.cell? ⟨m,1,none⟩=some (.pointer (some ⟨pw,0,none⟩))/\w'.cell? ⟨A,0,none⟩=some (.int .i64 k)/\w'.cell? ⟨A,1,none⟩=some (.int .i64 hn)/\w'.cell? ⟨A,2,none⟩=some (.int .i64 u)/\w'.cell? ⟨A,3,none⟩=some (.int .i64 dl)/\w'.cell? ⟨A,4,none⟩=some (.string id))/\w'.cell? ⟨m,4,none⟩=some (.map (some bm))/\w'.cell? ⟨A,5,none⟩=some (.string n)/\∃w5,(Instr.mapUpdate 108 (.map (some bm)) (.int .i64 (nd.c.on:Int)) (.agg #[.int .i64 hn,.string n])).run Tryz.prog w'.drew = .ok () w5/\Hid (∃lab' G' D',Nr w w5 p m key (nd.put ⟨k,hn,u,dl,id⟩ n) lab' F q v b va vh pw G' bm D' vl/\Fr w wr lab lab' w5)):=fun W2 hb=>by
  have N2:=NN.out.later hb;refine (Whl.put_any pw G nd.t ((nd.t.now:Int)+1+dl) (nd.c.on:Int) (by omega) (by omega) W2 N2.wt).mono ?_;rintro e w4 ⟨rfl,G',z1,z2,z3⟩;obtain⟨lab4,N4,F4,-⟩:=N2.wheel z1 z2 z3;have hAm:¬G A:=fun c=>Nat.lt_irrefl _ (hlA A c)
  have hA2:A < W2.heap.size:=Nat.lt_of_lt_of_le hA0 hb.size;have keep:∀i x,W1.cell? ⟨A,i,none⟩=some x->w4.cell? ⟨A,i,none⟩=some x:=fun i x e=>z3.cell (cell_later hb e) hAm
  obtain⟨w5,r1,r2,r3⟩:=znU w4.drew bm D (Whl.ownsMap_same N4.mp rfl) (by rw[N4.mo.size];exact Nat.le_of_lt hw) (nd.c.on:Int) hn n (by omega) (by omega);have N4d:=N4.later (bQ _ _).drew;have M5:=N4.mo.put (t:=(nd.c.on,(hn,n))) (N4.mp.tidy Whl.int_key) hk;obtain⟨N5,F5⟩:=N4d.map (Whl.ownsMap_size r2) M5 r3;exact⟨_,rfl,⟨N4.c1,keep 0 _ x0,keep 1 _ x1,keep 2 _ x2,keep 3 _ x3,keep 4 _ x4⟩,N4.c4,keep 5 _ x5,w5,r1,lab4,G',_,N5,((FR1.out.trans (Fr.of hb)).trans F4).trans ((Fr.of (bQ _ _).drew).trans F5)⟩
 obtain⟨O,hO⟩:∃O:Int,(nd.c.on:Int)=O:=⟨_,rfl⟩;obtain⟨T,hT⟩:∃T:Int,(nd.t.now:Int)+1+dl=T:=⟨_,rfl⟩;rw[hO] at c6 PU;rw[hT] at DU PU;have AA:Hid (A < W1.heap.size):=hA0;clear a0 nb1 N1 hA0 hd hw hon hm hk H hlA hO hT NN FR1 c4;go_enter Tryz.func89, Tryz.ntmps89;go_wp2_with fail;clear hA hW1;have s0:W1.drew.cell? ⟨m,1,none⟩=some (.pointer (some ⟨pw,0,none⟩))/\W1.drew.cell? ⟨A,0,none⟩=some (.int .i64 k)/\W1.drew.cell? ⟨A,1,none⟩=some (.int .i64 hn)/\W1.drew.cell? ⟨A,2,none⟩=some (.int .i64 u)/\W1.drew.cell? ⟨A,3,none⟩=some (.int .i64 dl)/\W1.drew.cell? ⟨A,4,none⟩=some (.string id):=⟨c1,x0,x1,x2,x3,x4⟩;clear x0 x1 x2 x3 x4 x5 c1 c6;go_region_held3 (fun w'=>w'.cell? ⟨m,1,none⟩=some (.pointer (some ⟨pw,0,none⟩))/\w'.cell? ⟨A,0,none⟩=some (.int .i64 k)/\w'.cell? ⟨A,1,none⟩=some (.int .i64 hn)/\w'.cell? ⟨A,2,none⟩=some (.int .i64 u)/\w'.cell? ⟨A,3,none⟩=some (.int .i64 dl)/\w'.cell? ⟨A,4,none⟩=some (.string id)) (first|exact s0|assumption) (first|(go_at_call 165;refine cM DU.out ?_;rintro e w2 ⟨rfl,hc2,hb2⟩)|(go_at_call 169;refine cM (PU.out _ hb2.out) ?_;rintro e w4 ⟨r4,rfl,hc4,d4,d5,w5,hu5,FF⟩));clear DU PU s0 hb2;obtain⟨-,-,d1,-⟩:=hc4;go_wp2_with fail
 all_goals
  try go_region_with (fail)
 all_goals
  try go_wp2
 all_goals
  go_end0;exact⟨rfl,FF.out⟩
end Go.Proofs.YtjcppbhgjchjaaaGreatDoor
namespace Go.Proofs.YtjcppbhgjchjaaaGreatDoor.Sto
open Go.RowKit Go.Proofs.Fd Go.Proofs.Dk Go.Proofs.Lg
theorem znX {y:Ey} {t:Bs} (ht:t.length=16) (hm:t ∉ y.2.1++y.2.2):tkE y (84::t)=some (y.1,y.2.1,y.2.2++[t]):=by
 unfold tkE tkp;rw[if_pos ⟨by rw[List.length_cons,ht],rfl⟩];show some (y.1,y.2.1,if t∈y.2.1++y.2.2 then y.2.2 else y.2.2++[t])=_
 rw[if_neg hm]
theorem zi5 (w w0:Wo) (F0:Nat->Prop) (p q b most:Nat) (s:St) (x:Lo) (y:Ey) (hy:Gd y) (X:Ba) (w1:Wo) (k:PzP w w0 F0 p q b most s x y w1) :
  Cl 166 #[.pointer (some ⟨b,0,none⟩),.string X] w1 fun e w'=>e = .returned (.bool (decide (X.data.toList∈y.2.1++y.2.2)))/\w'=w1:=by
 obtain⟨F,v,va,vh,z,-,-⟩:=k;have:=hy.n;exact zlk b q y.1 most va vh y.2.1 y.2.2 (by omega) (by omega) X w1 z.es
theorem pzadd_any (TC:zlr) (w w0:Wo) (F0:Nat->Prop) (p q b most:Nat) (s:St) (x:Lo) (y:Ey) (hy:Gd y) (hl:s.l.length+6000<=1000000) (hk:Hid (Kh w)) (X:Ba) (w1:Wo) (k:Hid (PzP w w0 F0 p q b most s x y w1)) :
  Cl 88 #[.pointer (some ⟨b,0,none⟩),.string X] w1 fun e w'=>e = .returned (.int .i64 (adp most s x y X.data.toList).1.1.1)/\PzP w w0 F0 p q b most (adp most s x y X.data.toList).1.1.2 (adp most s x y X.data.toList).1.2 (adp most s x y X.data.toList).2 w':=by
 have HS:Hid _:=zi5 w w0 F0 p q b most s x y hy X w1 k.out;have hXs:X.data.toList.length=X.size:=by simp
 obtain⟨t,ht⟩:∃t,X.data.toList=t:=⟨_,rfl⟩;have hX:Hid (X=st t):=by show X=st t;rw[<-ht];rfl
 rw[ht] at HS hXs ⊢;clear ht;obtain⟨r,hr⟩:∃r,adp most s x y t=r:=⟨_,rfl⟩;rw[hr];unfold adp at hr;by_cases h16:t.length≠16
 ·rw[if_pos h16] at hr
  have g1:¬(X.size:Int)=16:=by omega
  have FF:Hid (r.1.1.1=3/\PzP w w0 F0 p q b most r.1.1.2 r.1.2 r.2 w1):=by rw[<-hr];exact⟨rfl,k.out⟩
  clear hr k HS hX hXs h16;go_enter Tryz.func88, Tryz.ntmps88;go_wp2;go_ret;exact⟨by rw[FF.out.1];rfl,FF.out.2⟩
 ·rw[if_neg h16] at hr
  have hX16:X.size=16:=by omega
  by_cases hm:t∈y.2.1++y.2.2
  ·rw[if_pos hm] at hr
   rw[decide_eq_true hm] at HS;have FF:Hid (r.1.1.1=170/\PzP w w0 F0 p q b most r.1.1.2 r.1.2 r.2 w1):=by rw[<-hr];exact⟨rfl,k.out⟩
   clear hr k hX hXs h16 hm;go_enter Tryz.func88, Tryz.ntmps88;go_wp2_with fail;refine cM HS.out ?_;rintro e w2 ⟨rfl,rfl⟩;go_wp2;go_ret;exact⟨by rw[FF.out.1];rfl,FF.out.2⟩
  ·rw[if_neg hm] at hr
   rw[decide_eq_false hm] at HS;have hyn:=hy.n;have KK:w1.cell? ⟨b,4,none⟩=some (.int .i64 (most:Int))/\w1.cell? ⟨b,0,none⟩=some (.pointer (some ⟨q,0,none⟩))/\Hid (∀W,Bw w1 W->Cl 167 #[.pointer (some ⟨b,1,none⟩)] W fun e w'=>e = .returned (.int .i64 ((y.2.1.length+y.2.2.length:Nat):Int))/\Bw w1 w'):=by
    obtain⟨F,v,va,vh,z,-,-⟩:=k.out;exact⟨z.es.bk.c 4 _ rfl,z.es.bk.c 0 _ rfl,fun W hW=>(ziZ b q y.1 most va vh y.2.1 y.2.2 (by omega) (by omega) W (z.es.later hW)).mono fun _ _ ⟨e1,hb⟩=>⟨e1,chain hW hb⟩⟩
   obtain⟨k4,k0,MN⟩:=KK;by_cases hf:most<=y.2.1.length+y.2.2.length
   ·rw[if_pos hf] at hr
    have FF:Hid (r.1.1.1=180/\∀W,Bw w1 W->PzP w w0 F0 p q b most r.1.1.2 r.1.2 r.2 W):=by rw[<-hr];exact⟨rfl,fun W hb=>PzP.later k.out hb⟩
    obtain⟨m,hmm⟩:∃m,y.2.1.length+y.2.2.length=m:=⟨_,rfl⟩;rw[hmm] at MN hf;have g1:(most:Int)<=(m:Int):=by omega
    clear hr k hX hXs h16 hm hmm hyn;go_enter Tryz.func88, Tryz.ntmps88;go_wp2_with fail;refine cM HS.out ?_;rintro e w2 ⟨rfl,rfl⟩;clear HS;go_wp2_with fail;go_region_held3 (fun w'=>w'.cell? ⟨b,4,none⟩=some (.int .i64 (most:Int))/\Below w2.heap.size w2 w') (first|exact⟨k4,(bQ _ _).drew⟩|assumption|exact⟨cell_later (by assumption) k4,by assumption⟩) (first|(go_at_call 167;refine cM (MN.out _ (by first|assumption|exact (bQ _ _).drew)) ?_;rintro e w3 ⟨rfl,hb3⟩));have F3:Hid _:=FF.out.2 w3 hb3;have F1:Hid _:=FF.out.1;clear hb3 MN k4 FF;go_wp2;go_ret;exact⟨by rw[F1.out];rfl,F3.out⟩
   ·rw[if_neg hf] at hr
    have TR:Hid (∀W,Cl 168 #[.string X] W fun e w'=>e = .returned (.string (st (84::t)))/\w'=W):=fun W=>by rw[hX.out];exact zeD t (by omega) W
    have WR:Hid (∀W,Bw w1 W->Cl 71 #[.pointer (some ⟨b,0,none⟩),.string (st (84::t))] W fun e w'=>e = .returned (.int .i64 r.1.1.1)/\PzP w w0 F0 p q b most r.1.1.2 r.1.2 r.2 w'):=fun W hb=>by
     have:=zft TC w w0 F0 p q b most s x y (84::t) (by rw[List.length_cons];omega) hy hl hk W (PzP.later k.out hb);unfold wry at this;rw[znX (by omega) hm] at this;rw[<-hr];exact this
    obtain⟨m,hmm⟩:∃m,y.2.1.length+y.2.2.length=m:=⟨_,rfl⟩;rw[hmm] at MN hf;have g1:¬(most:Int)<=(m:Int):=by omega
    obtain⟨T,hT⟩:∃T,st (84::t)=T:=⟨_,rfl⟩;rw[hT] at TR WR;clear hr k hX hXs h16 hm hmm hyn hT;go_enter Tryz.func88, Tryz.ntmps88;go_wp2_with fail;refine cM HS.out ?_;rintro e w2 ⟨rfl,rfl⟩;clear HS;go_wp2_with fail;go_region_held3 (fun w'=>w'.cell? ⟨b,4,none⟩=some (.int .i64 (most:Int))/\Below w2.heap.size w2 w') (first|exact⟨k4,(bQ _ _).drew⟩|assumption|exact⟨cell_later (by assumption) k4,by assumption⟩) (first|(go_at_call 167;refine cM (MN.out _ (by first|assumption|exact (bQ _ _).drew)) ?_;rintro e w3 ⟨rfl,hb3⟩));have W3:Hid _:=WR.out w3 hb3;clear hb3 MN k4 WR;go_wp2_with fail;refine cM (TR.out _) ?_;rintro e w4 ⟨rfl,rfl⟩;clear TR;go_wp2_with fail;refine cM W3.out ?_;rintro e w5 ⟨rfl,z5⟩;have FF:Hid _:=z5;clear z5 W3;go_wp2;go_ret;exact⟨rfl,FF.out⟩
end Go.Proofs.YtjcppbhgjchjaaaGreatDoor.Sto
