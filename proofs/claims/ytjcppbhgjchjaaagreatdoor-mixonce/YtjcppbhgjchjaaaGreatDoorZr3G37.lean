/- A part of the walk. -/
import Derived.Test.YtjcppbhgjchjaaaGreatDoorZr3G36
import Derived.Laws.Rows
set_option maxHeartbeats 8000000
set_option maxRecDepth 20000
namespace Go.Proofs.YtjcppbhgjchjaaaGreatDoor.Sto
open Go.RowKit Go.Proofs.Fd Go.Proofs.Dk Go.Proofs.Lg
theorem PzP.trans {w w0 w1:Wo} {F0 F1:Nat->Prop} {p q b most:Nat} {s:St} {x:Lo} {y:Ey} {w2:Wo} (k:PzP w w1 F1 p q b most s x y w2) (hn:Nx w0 F0 F1) (hf:Bf F0 w0 w1):PzP w w0 F0 p q b most s x y w2:=by
 obtain⟨F,v,va,vh,z,n,f⟩:=k;exact⟨F,v,va,vh,z,hn.trans n hf.size,hf.trans hn f⟩
def PoR (w w0:Wo) (F0:Nat->Prop) (p:Nat) (most:Int) (r:(Int×St)×Option (Lo×Ey)) (e:Ending) (w':Wo):Prop :=
 match r.2 with
 | none=>e = .returned (.tuple #[.pointer none,.int .i64 r.1.1])/\Ds w w0 p F0 r.1.2 w'
 | some (x,y)=>∃q b,e = .returned (.tuple #[.pointer (some ⟨b,0,none⟩),.int .i64 0])/\r.1.1=0/\PzP w w0 F0 p q b most.toNat r.1.2 x y w'
theorem zgn {w w0:Wo} {F0:Nat->Prop} {p:Nat} {most:Int} {r:(Int×St)×Option (Lo×Ey)} {z:Int} {s:St} {w':Wo} (h:r=((z,s),none)) (k:Ds w w0 p F0 s w'):PoR w w0 F0 p most r (.returned (.tuple #[.pointer none,.int .i64 z])) w':=by
 subst h;exact⟨rfl,k⟩
theorem PzP.ds {w w0:Wo} {F0:Nat->Prop} {p q b most:Nat} {s:St} {x:Lo} {y:Ey} {w1:Wo} (k:PzP w w0 F0 p q b most s x y w1):Ds w w0 p F0 s w1:=by
 obtain⟨F,v,va,vh,z,n,f⟩:=k;exact⟨F,z.lz.hd_.dl,fun y hy=>n y (.inl (.inl hy)),f⟩
theorem pzopen_any (TC:zlr) (w w0:Wo) (p:Nat) (F0:Nat->Prop) (s:St) (most:Int) (hn:s.n<=1024) (hl:s.l.length+5000<=1000000) (hk:Hid (Kh w)) (D:Hid (Dl w w0 p F0 s)) :
  Cl 44 #[.pointer (some ⟨p,0,none⟩),.int .i64 most] w0 fun e w'=>PoR w w0 F0 p most (opz most s (opn s)) e w':=by
 obtain⟨r,hr⟩:∃r,opz most s (opn s)=r:=⟨_,rfl⟩;rw[hr];unfold opz at hr;by_cases h1:most < 1
 ·rw[if_pos (.inl h1)] at hr
  have FF:Hid (PoR w w0 F0 p most r (.returned (.tuple #[.pointer none,.int .i64 1])) w0):=zgn hr.symm ⟨F0,D.out,Nx.refl _ _,Bf.refl _ _⟩;clear hr D;go_enter Tryz.func44, Tryz.ntmps44;go_wp2;go_ret2;exact FF.out
 ·by_cases h2:4096 < most
  ·rw[if_pos (.inr h2)] at hr
   have FF:Hid (PoR w w0 F0 p most r (.returned (.tuple #[.pointer none,.int .i64 1])) w0):=zgn hr.symm ⟨F0,D.out,Nx.refl _ _,Bf.refl _ _⟩;clear hr D;go_enter Tryz.func44, Tryz.ntmps44;go_wp2;go_ret2;exact FF.out
  ·rw[if_neg (by omega)] at hr
   have OP:Hid _:=ziY w w0 p F0 s (by omega) hk D;have OK:Hid _:=fun (h:(opn s).1.1=0)=>zpM h D.out.at_.1
   obtain⟨⟨⟨oe,os⟩,ox⟩,ho⟩:∃o,opn s=o:=⟨_,rfl⟩;rw[ho] at hr OP OK;have hr':(if oe≠0 then ((oe,os),(none:Option (Lo×Ey))) else match tks (0,[],[]) ox.ts with
    | none=>((160,os),none)
    | some y=>((0,os),some (ox,y)))=r:=hr
   have HR:Hid _:=hr';obtain⟨M,hM⟩:∃M:Nat,most=(M:Int):=⟨most.toNat,by omega⟩;subst hM;clear hr hr' ho D;go_enter Tryz.func44, Tryz.ntmps44;go_wp2_with fail;refine cM OP.out ?_;rintro e w1 ⟨F1,dl,nx,bf,hres⟩;clear OP;rcases hres with ⟨h0,q,v,rfl,hd,hnew⟩|⟨h0,rfl⟩
   ·have h0':oe=0:=h0
    obtain⟨o4,oh,on,otk,og,ook⟩:=OK.out h0;have on':os.n=s.n:=on;have HR2:=HR.out;rw[if_neg (by rw[h0'];simp)] at HR2;have ER:Hid _:=HR2;have LZ:Lz w w1 p F1 os q v ox:=⟨by rw[on'];exact hd,oh,by rw[on'];exact o4,by rw[on'];exact hn,by rw[on'];exact otk,ook,og⟩;have tl:=LZ.tlen;have TOK:Hid (∀t∈ox.ts,t.length<=2000):=fun t ht=>(ook t ht).2
    have E1:Es (w1.alloc (.cells #[.pointer (some ⟨q,0,none⟩),.int .i64 ((0:Nat):Int),.slice none 0 0,.slice none 0 0,.int .i64 (M:Int)] 157)) w1.heap.size q 0 M (.slice none 0 0) (.slice none 0 0) [] [] :=
     ⟨Blk.new w1 (stc q 0 (.slice none 0 0) (.slice none 0 0) M) _ (by simp),zan _,zan _,(fun c=>by cases c),(fun c=>by cases c),fun g c=>by cases c⟩
    have Z1:Hid (Pz w (w1.alloc (.cells #[.pointer (some ⟨q,0,none⟩),.int .i64 ((0:Nat):Int),.slice none 0 0,.slice none 0 0,.int .i64 (M:Int)] 157)) p F1 os q v ox w1.heap.size M (.slice none 0 0) (.slice none 0 0) (0,[],[])/\Nx w0 F0 (FP F1 q v w1.heap.size (.slice none 0 0) (.slice none 0 0))/\Bf F0 w0 (w1.alloc (.cells #[.pointer (some ⟨q,0,none⟩),.int .i64 ((0:Nat):Int),.slice none 0 0,.slice none 0 0,.int .i64 (M:Int)] 157))):=by
     refine⟨⟨LZ.later (nb _ _),E1,fun z hz => ?_⟩,fun z hz => ?_,bf.later (nb _ _)⟩
     ·rcases hz with rfl|e|e
      ·exact⟨fun c=>Nat.lt_irrefl _ (LZ.fh c).1,LZ.hd_.dl.below.size⟩
      ·cases e
      ·cases e
     ·rcases hz with (e|e)|e
      ·exact nx z e
      ·exact .inr (hnew z e)
      ·rcases e with rfl|e|e
       ·exact .inr bf.size
       ·cases e
       ·cases e
    obtain⟨b,hb⟩:∃b,w1.heap.size=b:=⟨_,rfl⟩;rw[hb] at Z1;have RC:Hid (Cl 77 #[.pointer (some ⟨q,0,none⟩)] (w1.alloc (.cells #[.pointer (some ⟨q,0,none⟩),.int .i64 0,.slice none 0 0,.slice none 0 0,.int .i64 (M:Int)] 157)) fun e w'=>∃a c,e = .returned (.slice a ox.ts.length c)/\Hid (zbq w' a ox.ts/\Pz w w' p F1 os q v ox b M (.slice none 0 0) (.slice none 0 0) (0,[],[])/\Nx w0 F0 (FP F1 q v b (.slice none 0 0) (.slice none 0 0))/\Bf F0 w0 w'/\Ap a ox.ts (FP F1 q v b (.slice none 0 0) (.slice none 0 0)))):=by
     obtain⟨z1,z2,z3⟩:=Z1.out;refine (zeA q p _ _ ox.g v ox.ts ox.tk ox.mr [] _ (by omega) (fun t ht=>(ook t ht).2) z1.lz.hd_.hf).mono ?_;rintro e w' ⟨u,he,ho,hb'⟩;obtain⟨a,c,rfl,tx,hbase⟩:=zgk rfl ho;refine⟨a,c,he,tx,⟨z1.lz.later hb',z1.es.later hb',z1.ap⟩,z2,z3.later hb',fun g e _ cc => ?_⟩;have h3:=hbase g e;rcases cc with cc|cc
     ·have h4:=(z1.lz.fh cc).1
      exact absurd h4 (Nat.not_lt.2 h3)
     ·have h4:=z1.es.lt cc
      exact absurd h4 (Nat.not_lt.2 h3)
    subst h0';obtain⟨N,hN⟩:∃N,ox.ts.length=N:=⟨_,rfl⟩;have HN:Hid (ox.ts.length=N):=hN;rw[hN] at RC tl;clear dl nx bf hd hnew HR HR2 LZ E1 Z1 OK hN o4 oh on on' otk ook h0;go_wp2_with fail;refine cM RC.out ?_;rintro e w3 ⟨a3,c3,rfl,H3⟩;clear RC;go_wp2;obtain⟨FS,hFS⟩:∃FS,FP F1 q v b (.slice none 0 0) (.slice none 0 0)=FS:=⟨_,rfl⟩;have P3:Hid (PzP w w3 FS p q b M os ox (0,[],[]) w3):=⟨F1,v,_,_,H3.out.2.1,by rw[hFS];exact Nx.refl _ _,Bf.refl _ _⟩;have T3:Hid (zbq w3 a3 ox.ts/\Ap a3 ox.ts FS/\Nx w0 F0 FS/\Bf F0 w0 w3):=⟨H3.out.1,by rw[<-hFS];exact H3.out.2.2.2.2,by rw[<-hFS];exact H3.out.2.2.1,H3.out.2.2.2.1⟩;clear H3 hFS hb;go_loopw [35] (fun i wr=>∃(k:Nat) (y:Ey),k<=N/\i = .int .i64 (k:Int)/\Hid (tks (0,[],[]) (ox.ts.take k)=some y/\Gn k y/\PzP w w3 FS p q b M os ox y wr)) (fun i _=>N - (intOf i).toNat)
    case atStart=>exact⟨0,(0,[],[]),Nat.zero_le _,rfl,by rw[List.take_zero];rfl,Gn.start,P3.out⟩
    case round =>
     obtain⟨k,y,hk',rfl,J⟩:=hrel;clear P3;obtain⟨F2,v2,va2,vh2,z2,n2,f2⟩:=J.out.2.2;by_cases hlt:k < N
     ·have hkl:k < ox.ts.length:=by rw[HN.out];exact hlt
      have g1:(k:Int) < (N:Int):=by omega
      obtain⟨g,o,rfl,c1⟩:=(T3.out.1.bf f2 T3.out.2.1) k hkl;have ET:Hid (ox.ts.take (k+1)=ox.ts.take k++[ox.ts[k]]):=List.take_succ_eq_append_getElem hkl;have ED:Hid (ox.ts=ox.ts.take (k+1)++ox.ts.drop (k+1)):=(List.take_append_drop _ _).symm;have htl:=TOK.out _ (List.getElem_mem hkl);have TK:Hid _:=TC b q M va2 vh2 y ox.ts[k] wr (J.out.2.1.gd (by omega)) htl z2.es;have b0:=z2.es.bk.c 0 _ rfl;obtain⟨t,ht⟩:∃t,ox.ts[k]=t:=⟨_,rfl⟩;rw[ht] at c1 ET TK;unfold sv at c1;have TK2:Hid (Cl 78 #[.pointer (some ⟨b,1,none⟩),.string (st t)] wr fun e w'=>e = .returned (.bool (tkE y t).isSome)/\PzP w w3 FS p q b M os ox ((tkE y t).getD y) w'):=cM TK.out fun e w' ⟨e1,va',vh',e2,e3,e4⟩=>⟨e1,z2.set e2 e3 e4 n2 f2⟩
      obtain⟨T,hT⟩:∃T,st t=T:=⟨_,rfl⟩;rw[hT] at TK2 c1;have JJ:Hid (tks (0,[],[]) (ox.ts.take k)=some y/\Gn k y):=⟨J.out.1,J.out.2.1⟩;clear TK z2 n2 f2 J hT ht htl;cases htk:tkE y t with
      | none =>
       rw[htk] at TK2;have FR:Hid (tks (0,[],[]) ox.ts=none):=by
        show _=_;rw[ED.out,ET.out];refine zpN ?_;rw[zfs,JJ.out.1];exact htk
       have ER2:=ER.out;rw[FR.out] at ER2;have FF:Hid (∀w',PzP w w3 FS p q b M os ox y w'->PoR w w0 F0 p (M:Int) r (.returned (.tuple #[.pointer none,.int .i64 160])) w'):=fun w' k=>zgn ER2.symm (k.trans T3.out.2.2.1 T3.out.2.2.2).ds
       clear JJ ET ED FR ER2 htk;go_wp2_with fail;refine cM TK2.out ?_;rintro e w2 ⟨rfl,z4⟩;have F3:Hid _:=FF.out w2 z4;clear TK2 FF z4;go_wp2;go_ret2;exact F3.out
      | some z =>
       rw[htk] at TK2;have FR:Hid (tks (0,[],[]) (ox.ts.take (k+1))=some z/\Gn (k+1) z):=⟨by rw[ET.out,zfs,JJ.out.1];exact htk,zpO JJ.out.2 htk⟩;clear JJ ET ED htk;go_wp2_with fail;refine cM TK2.out ?_;rintro e w2 ⟨rfl,z4⟩;have F3:Hid _:=z4;clear TK2 z4;go_wp2;go_roundw
       case rel=>exact⟨k+1,z,by omega,rfl,FR.out.1,FR.out.2,F3.out⟩
       case measure=>simp[intOf];omega
     ·have g1:¬(k:Int) < (N:Int):=by omega
      have FR:tks (0,[],[]) ox.ts=some y:=by
       have:=J.out.1;rw[List.take_of_length_le (by rw[HN.out];omega)] at this;exact this
      have ER2:=ER.out;rw[FR] at ER2;have FF:Hid (PoR w w0 F0 p (M:Int) r (.returned (.tuple #[.pointer (some ⟨b,0,none⟩),.int .i64 0])) wr):=by
       rw[<-ER2];exact⟨q,b,rfl,rfl,J.out.2.2.trans T3.out.2.2.1 T3.out.2.2.2⟩
      clear J ER2 FR z2 n2 f2;go_wp2;go_ret2;exact FF.out
   ·have h0':oe≠0:=h0
    have HR2:=HR.out;rw[if_pos h0'] at HR2;have FF:Hid (PoR w w0 F0 p (M:Int) r (.returned (.tuple #[.pointer none,.int .i64 oe])) w1):=zgn HR2.symm ⟨F1,dl,nx,bf⟩;clear HR HR2 dl nx bf OK h0;go_wp2;go_ret2;exact FF.out
end Go.Proofs.YtjcppbhgjchjaaaGreatDoor.Sto
namespace Go.Proofs.YtjcppbhgjchjaaaGreatDoor
open Go.RowKit Go.Proofs.Fd
structure Nb (nd:Nd):Prop where
 pool:nd.pool<=4096
 w:nd.w.length<=4096
 on:nd.c.on<=900000
 home:nd.c.home<=900000
 loop:nd.c.loop<=900000
 drop:nd.c.drop<=900000
 twice:nd.c.twice<=900000
 bad:nd.c.bad<=900000
 many:nd.t.many<=900000
 l:nd.l.length<=900000
 low:∀x∈nd.w,x.1<=nd.c.on
 gd:Sto.Gd nd.y
 sl:nd.s.l.length<=990000
def Na (w:Wo) (p m:Nat) (key:Ba) (nd:Nd) (wr:Wo) (lab:Nat->Nat) (w':Wo):Prop :=
 ∃lab' F q v b va vh pw G bm D vl,Nr w w' p m key nd lab' F q v b va vh pw G bm D vl/\Fr w wr lab lab' w'
def znY:Oper:={ dst:=some 66,op := .move (.tmp 0),type := 39, pos := "mix.go:106", after:=#[],guard:=none }
def znZ:Oper:={ dst:=some 67,op := .move (.tmp 0),type := 39, pos := "mix.go:106", after:=#[],guard:=none }
def zn0:Oper:={ dst:=some 68,op := .nilCheck (.tmp 67),type:=0,pos := "mix.go:106", after:=#[eD 1],guard:=none }
def zn1:Oper:={ dst:=some 69,op := .fieldAddr 110 (.tmp 68) 5,type:=0,pos := "mix.go:106", after:=#[eD 2],guard:=none }
def zg9:Oper:={ dst:=some 70,op := .load 25 (.tmp 69),type := 25, pos := "mix.go:106", after:=#[eD 3],guard:=none }
def zn2:Oper:={ dst:=some 71,op := .fieldAddr 148 (.tmp 5) 0,type:=0,pos := "mix.go:106", after:=#[],guard:=none }
def zn3:Oper:={ dst:=some 72,op := .fieldAddr 82 (.tmp 71) 4,type:=0,pos := "mix.go:106", after:=#[eD 5],guard:=none }
def zlw:Oper:={ dst:=some 73,op := .load 9 (.tmp 72),type := 9, pos := "mix.go:106", after:=#[eD 6],guard:=none }
def zdK:Oper:={ dst:=some 74,op := .buildSlice 25 1 #[(0,Go.Operand.tmp 73)],type := 25, pos := "mix.go:106", after:=#[eD 7],guard:=none }
def zha:Oper:={ dst:=some 75,op := .call { callee:=Go.Callee.builtin Go.Builtin.append,args:=#[Go.Operand.tmp 70,Go.Operand.tmp 74],argTypes:=#[25, 25] },type := 25, pos := "mix.go:106", after:=#[eD 4,eD 8],guard:=none }
def zbL:Oper:={ dst:=some 76,op := .nilCheck (.tmp 66),type:=0,pos := "mix.go:106", after:=#[eD 0,eP 0,eP 1,eP 2,eP 3,eP 4,eP 5,eP 6,eP 7,eP 8,eP 9],guard:=none }
def zbM:Oper:={ dst:=some 77,op := .fieldAddr 110 (.tmp 76) 5,type:=0,pos := "mix.go:106", after:=#[eD 10,eP 0,eP 1,eP 2,eP 3,eP 4,eP 5,eP 6,eP 7,eP 8,eP 9],guard:=none }
def zcZ:Oper:={ dst:=none,op := .store 25 (.tmp 77) (.tmp 75),type:=0,pos := "mix.go:106", after:=#[eD 11,eD 9,eC 9,eP 0,eP 1,eP 2,eP 3,eP 4,eP 5,eP 6,eP 7,eP 8,eP 9],guard:=none }
theorem zhb (w wr:Wo) (p m:Nat) (key P:Ba) (nd:Nd) (lab:Nat->Nat) (F:Nat->Prop) (q:Nat) (v:Value) (b:Nat) (va vh:Value) (pw:Nat) (G:Nat->Prop) (bm:Nat) (D:DataW Unit) (vl:Value)
  (h:Go.Proofs.Rt.Hp) (n t s:Ba) (e0:Int) (hd:h.k=1->0<=h.d/\h.d<=4096) (B:Nb nd) (hk:Hid (Kh w))
  (PE:Hid (∀W,Below wr.heap.size wr W->Cl 86 #[.string key,.string P] W fun e w'=>e = .returned (.tuple #[pdv h n t s,.int .i64 e0])/\Below W.heap.size W w'))
  (H:Hid (Nr w wr p m key nd lab F q v b va vh pw G bm D vl)) :
  Cl 50 #[.pointer (some ⟨m,0,none⟩),.string P] wr fun e w'=>e = .returned (.int .i64 (if e0≠0 then e0 else (nd.tk0 h n t).1))/\Na w p m key (if e0≠0 then nd else (nd.tk0 h n t).2) wr lab w':=by
 have PE1:Hid _:=PE.out wr (bQ _ _);have c2:wr.cell? ⟨m,2,none⟩=some (.string key):=H.out.bk.c 2 _ rfl;unfold pdv at PE1;by_cases he:e0=0
 ·subst he
  rw[if_neg (by decide),if_neg (by decide)];obtain⟨k,hn,u,dl,id⟩:=h;have ND:Hid (∀W2,Below wr.heap.size wr W2->∃lab3,lab3 W2.heap.size=9/\Nr w (W2.alloc (.cells #[.int .i64 k,.int .i64 hn,.int .i64 u,.int .i64 dl,.string id,.string n,.string t,.string s] 148)) p m key nd lab3 F q v b va vh pw G bm D vl/\Fr w wr lab lab3 (W2.alloc (.cells #[.int .i64 k,.int .i64 hn,.int .i64 u,.int .i64 dl,.string id,.string n,.string t,.string s] 148))):=fun W2 hb=>by
   have hb3:Below wr.heap.size wr (W2.alloc (.cells #[.int .i64 k,.int .i64 hn,.int .i64 u,.int .i64 dl,.string id,.string n,.string t,.string s] 148)):=hb.alloc hb.size _;exact⟨relab lab wr.heap.size 9,zar hb.size,H.out.other (K:=fun _=>False) (Sto.Bf.of hb3) (fun _ c=>c.elim) (fun _ c=>c.elim) (fun z=>zaq),fun z=>zaq,Sto.Bf.of hb3⟩
  have TK:Hid (nd.tk0 ⟨k,hn,u,dl,id⟩ n t=if nd.rf ⟨k,hn,u,dl,id⟩≠0 then (nd.rf ⟨k,hn,u,dl,id⟩,nd) else if (Sto.adp 4096 nd.s nd.x nd.y t.data.toList).1.1.1≠0 then ((Sto.adp 4096 nd.s nd.x nd.y t.data.toList).1.1.1,{ nd with s:=(Sto.adp 4096 nd.s nd.x nd.y t.data.toList).1.1.2,x:=(Sto.adp 4096 nd.s nd.x nd.y t.data.toList).1.2,y:=(Sto.adp 4096 nd.s nd.x nd.y t.data.toList).2 }) else (0,Nd.did { nd with s:=(Sto.adp 4096 nd.s nd.x nd.y t.data.toList).1.1.2,x:=(Sto.adp 4096 nd.s nd.x nd.y t.data.toList).1.2,y:=(Sto.adp 4096 nd.s nd.x nd.y t.data.toList).2 } ⟨k,hn,u,dl,id⟩ n)):=rfl;obtain⟨X,hX⟩:∃X,nd.tk0 ⟨k,hn,u,dl,id⟩ n t=X:=⟨_,rfl⟩;rw[hX] at TK ⊢;clear PE H hX;go_enter Tryz.func50, Tryz.ntmps50;go_wp2_with (go_at_call 86;refine cM PE1.out ?_;rintro e w2 ⟨rfl,hb2⟩);obtain⟨lab3,l3,N3,F3⟩:=ND.out w2 hb2;clear ND PE1 c2;have a0:∀i x,(#[.int .i64 k,.int .i64 hn,.int .i64 u,.int .i64 dl,.string id,.string n,.string t,.string s]:Array Value)[i]?=some x->(w2.alloc (.cells #[.int .i64 k,.int .i64 hn,.int .i64 u,.int .i64 dl,.string id,.string n,.string t,.string s] 148)).cell? ⟨w2.heap.size,i,none⟩=some x:=fun i x e=>by simp[go_sem,e]
  have hA0:w2.heap.size < (w2.alloc (.cells #[.int .i64 k,.int .i64 hn,.int .i64 u,.int .i64 dl,.string id,.string n,.string t,.string s] 148)).heap.size:=by simp
  obtain⟨A,hA⟩:∃A,w2.heap.size=A:=⟨_,rfl⟩;obtain⟨W3,hW3⟩:∃W,w2.alloc (.cells #[.int .i64 k,.int .i64 hn,.int .i64 u,.int .i64 dl,.string id,.string n,.string t,.string s] 148)=W:=⟨_,rfl⟩;rw[hW3] at N3 F3 a0 hA0 ⊢;rw[hA] at a0 hA0 l3 ⊢;have AM:Hid (A≠m):=fun c=>by
   have:=(N3.l4 m rfl).1;rw[<-c,l3] at this;omega
  have RF:Hid _:=zeE m pw bm G nd D ⟨k,hn,u,dl,id⟩ hd W3 N3.c1 (N3.bk.c 3 _ rfl) N3.c4 N3.wt ⟨N3.mp,N3.mo.size⟩;have RB:Hid (nd.rf ⟨k,hn,u,dl,id⟩=0->k=1->nd.w.length < 4096):=fun hr hk1=>by
   subst hk1;unfold Nd.rf at hr;simp only at hr;rw[if_neg (by decide),if_neg (by decide)] at hr;by_cases g:nd.pool<=nd.w.length
   ·rw[if_pos g] at hr;cases hr
   ·have:=B.pool;omega
  obtain⟨R,hR⟩:∃R,nd.rf ⟨k,hn,u,dl,id⟩=R:=⟨_,rfl⟩;rw[hR] at RF TK RB;have AD:Hid (∀W,Below W3.heap.size W3 W->Cl 88 #[.pointer (some ⟨b,0,none⟩),.string t] W fun e w'=>e = .returned (.int .i64 (Sto.adp 4096 nd.s nd.x nd.y t.data.toList).1.1.1)/\(w'.cell? ⟨m,0,none⟩=some (.pointer (some ⟨b,0,none⟩))/\w'.cell? ⟨A,6,none⟩=some (.string t))/\Hid (∃lab5 F5 v5 va5 vh5,Nr w w' p m key { nd with s:=(Sto.adp 4096 nd.s nd.x nd.y t.data.toList).1.1.2,x:=(Sto.adp 4096 nd.s nd.x nd.y t.data.toList).1.2,y:=(Sto.adp 4096 nd.s nd.x nd.y t.data.toList).2 } lab5 F5 q v5 b va5 vh5 pw G bm D vl/\Fr w wr lab lab5 w'/\lab5 A=9/\A < w'.heap.size/\∀i x,W3.cell? ⟨A,i,none⟩=some x->w'.cell? ⟨A,i,none⟩=some x)):=fun W hb=>by
   have N4:=N3.later hb;refine (Sto.pzadd_any Sto.take_c w W (Sto.FP F q v b va vh) p q b 4096 nd.s nd.x nd.y B.gd (by have:=B.sl;omega) hk t W ⟨F,v,va,vh,N4.pz,Sto.Nx.refl _ _,Sto.Bf.refl _ _⟩).mono ?_;rintro e w5 ⟨rfl,z5⟩;obtain⟨lab5,F5,v5,va5,vh5,N5,R5⟩:=N4.set z5;have hA2:A < W.heap.size:=Nat.lt_of_lt_of_le hA0 hb.size;have keep:∀i x,W3.cell? ⟨A,i,none⟩=some x->w5.cell? ⟨A,i,none⟩=some x:=fun i x e=>R5.bf.cell (cell_later hb e) (fun c=>by have:=c.1;rw[l3] at this;omega)
   exact⟨rfl,⟨N5.bk.c 0 _ rfl,keep 6 _ (a0 6 _ rfl)⟩,lab5,F5,v5,va5,vh5,N5,(F3.trans (Fr.of hb)).trans R5,(R5.lo A hA2).trans l3,Nat.lt_of_lt_of_le hA2 R5.bf.size,keep⟩
  have e0:W3.cell? ⟨A,0,none⟩=some (.int .i64 k):=a0 0 _ rfl;have e1:W3.cell? ⟨A,1,none⟩=some (.int .i64 hn):=a0 1 _ rfl;have e2:W3.cell? ⟨A,2,none⟩=some (.int .i64 u):=a0 2 _ rfl;have e3:W3.cell? ⟨A,3,none⟩=some (.int .i64 dl):=a0 3 _ rfl;have e4:W3.cell? ⟨A,4,none⟩=some (.string id):=a0 4 _ rfl;have e5:W3.cell? ⟨A,5,none⟩=some (.string n):=a0 5 _ rfl;have e6:W3.cell? ⟨A,6,none⟩=some (.string t):=a0 6 _ rfl;have e7:W3.cell? ⟨A,7,none⟩=some (.string s):=a0 7 _ rfl;have NA:Hid (Na w p m key nd wr lab W3):=⟨lab3,F,q,v,b,va,vh,pw,G,bm,D,vl,N3,F3⟩;have m0:W3.cell? ⟨m,0,none⟩=some (.pointer (some ⟨b,0,none⟩)):=N3.bk.c 0 _ rfl;refine cM RF.out ?_;rintro e w4 ⟨rfl,hb4⟩;clear RF a0;by_cases hR0:R=0
  ·subst hR0
   obtain⟨⟨⟨⟨r1,s1⟩,x1⟩,y1⟩,hr1⟩:∃z,Sto.adp 4096 nd.s nd.x nd.y t.data.toList=z:=⟨_,rfl⟩;rw[hr1] at AD TK;have TK1:Hid (X=if r1≠0 then (r1,{ nd with s:=s1,x:=x1,y:=y1 }) else (0,Nd.did { nd with s:=s1,x:=x1,y:=y1 } ⟨k,hn,u,dl,id⟩ n)):=TK.out;have AD1:Hid _:=AD.out w4.drew (hb4.drew);have s0:w4.drew.cell? ⟨m,0,none⟩=some (.pointer (some ⟨b,0,none⟩))/\w4.drew.cell? ⟨A,6,none⟩=some (.string t):=⟨cell_later hb4.drew m0,cell_later hb4.drew e6⟩;have RB1:Hid (k=1->nd.w.length < 4096):=RB.out rfl;have BB:Hid (Nb nd):=B;have HD:Hid (k=1->0<=dl/\dl<=4096):=hd;clear TK AD hR hr1 N3 F3 l3 hW3 hA hA0 m0 NA RB B hd;go_wp2_with fail;go_region_held3 (fun w'=>w'.cell? ⟨m,0,none⟩=some (.pointer (some ⟨b,0,none⟩))/\w'.cell? ⟨A,6,none⟩=some (.string t)) (first|exact s0|assumption) (first|(go_at_call 88;refine cM AD1.out ?_;rintro e w5 ⟨rfl,hc5,H5⟩));clear s0 AD1 hc5;obtain⟨lab5,F5,v5,va5,vh5,N5,R5,l5,hA5,k5⟩:=H5.out;by_cases hr:r1=0
   ·subst hr
    have TK2:Hid (X=(0,Nd.did { nd with s:=s1,x:=x1,y:=y1 } ⟨k,hn,u,dl,id⟩ n)):=TK1.out;clear TK1;have HK5:Hid (∀i x,W3.cell? ⟨A,i,none⟩=some x->w5.cell? ⟨A,i,none⟩=some x):=k5;have AM1:Hid (m≠A):=fun c=>AM.out c.symm
    have b0:=k5 0 _ e0;by_cases h1:k=1
    ·subst h1
     have z1:IntKind.i64.wrap ((nd.c.on:Int)+1)=((nd.c.on+1:Nat):Int):=by have:=BB.out.on;rw[IntKind.wrap_i64];omega
     have c6:w5.cell? ⟨m,6,none⟩=some (.int .i64 (nd.c.on:Int)):=N5.bk.c 6 _ rfl;have f6:=N5.bk.f 6;obtain⟨N6,R6⟩:=N5.cells 6 (.int .i64 ((nd.c.on+1:Nat):Int)) (by decide) (c':={ nd.c with on:=nd.c.on+1 }) rfl;have WT:Hid _:=zi4 w _ p m key { nd with s:=s1,x:=x1,y:=y1,c:={ nd.c with on:=nd.c.on+1 } } lab5 F5 q v5 b va5 vh5 pw G bm D vl ⟨1,hn,u,dl,id⟩ n t s (HD.out rfl) (RB1.out rfl) (by show nd.c.on+1<=1000000;have:=BB.out.on;omega) (by show nd.t.many<=1000000;have:=BB.out.many;omega) (fun x hx=>by have:=BB.out.low x hx;show x.1≠nd.c.on+1;omega) N6;have WT1:Hid (Cl 89 #[.pointer (some ⟨m,0,none⟩),.agg #[.int .i64 1,.int .i64 hn,.int .i64 u,.int .i64 dl,.string id,.string n,.string t,.string s]] (w5.setCell ⟨m,6,none⟩ (.int .i64 ((nd.c.on+1:Nat):Int))) fun e w'=>e = .returned (.tuple #[])/\Hid (0=X.1/\Na w p m key X.2 wr lab w')):=cM WT.out (by
      rintro e w7 ⟨rfl,lab7,G7,D7,N7,R7⟩;rw[TK2.out];exact⟨rfl,rfl,lab7,F5,q,v5,b,va5,vh5,pw,G7,bm,D7,vl,N7,(R5.trans R6).trans R7⟩)
     have g0:=zaa (b:=⟨m,6,none⟩) (x := .int .i64 ((nd.c.on+1:Nat):Int)) b0 AM1.out;have g1:=zaa (b:=⟨m,6,none⟩) (x := .int .i64 ((nd.c.on+1:Nat):Int)) (k5 1 _ e1) AM1.out;have g2:=zaa (b:=⟨m,6,none⟩) (x := .int .i64 ((nd.c.on+1:Nat):Int)) (k5 2 _ e2) AM1.out;have g3:=zaa (b:=⟨m,6,none⟩) (x := .int .i64 ((nd.c.on+1:Nat):Int)) (k5 3 _ e3) AM1.out;have g4:=zaa (b:=⟨m,6,none⟩) (x := .int .i64 ((nd.c.on+1:Nat):Int)) (k5 4 _ e4) AM1.out;have g5:=zaa (b:=⟨m,6,none⟩) (x := .int .i64 ((nd.c.on+1:Nat):Int)) (k5 5 _ e5) AM1.out;have g6:=zaa (b:=⟨m,6,none⟩) (x := .int .i64 ((nd.c.on+1:Nat):Int)) (k5 6 _ e6) AM1.out;have g7:=zaa (b:=⟨m,6,none⟩) (x := .int .i64 ((nd.c.on+1:Nat):Int)) (k5 7 _ e7) AM1.out;obtain⟨O,hO⟩:∃O:Int,(nd.c.on:Int)=O:=⟨_,rfl⟩;obtain⟨O1,hO1⟩:∃O:Int,((nd.c.on+1:Nat):Int)=O:=⟨_,rfl⟩;rw[hO1] at z1 WT1 g0 g1 g2 g3 g4 g5 g6 g7;rw[hO] at z1 c6;clear WT N6 R6 N5 R5 l5 hA5 k5 H5 RB1 HD BB hO hO1 TK2 e0 e1 e2 e3 e4 e5 e6 e7;go_wp2_with (go_at_call 89;refine cM WT1.out ?_;rintro e w7 ⟨rfl,FF⟩);go_ret;exact⟨by rw[<-FF.out.1];rfl,FF.out.2⟩
    ·by_cases h3:k=3
     ·subst h3
      have z1:IntKind.i64.wrap ((nd.c.loop:Int)+1)=((nd.c.loop+1:Nat):Int):=by have:=BB.out.loop;rw[IntKind.wrap_i64];omega
      have c8:w5.cell? ⟨m,8,none⟩=some (.int .i64 (nd.c.loop:Int)):=N5.bk.c 8 _ rfl;have f8:=N5.bk.f 8;obtain⟨N6,R6⟩:=N5.cells 8 (.int .i64 ((nd.c.loop+1:Nat):Int)) (by decide) (c':={ nd.c with loop:=nd.c.loop+1 }) rfl;have g4:(w5.setCell ⟨m,8,none⟩ (.int .i64 ((nd.c.loop+1:Nat):Int))).drew.cell? ⟨A,4,none⟩=some (.string id):=zaa (b:=⟨m,8,none⟩) (x := .int .i64 ((nd.c.loop+1:Nat):Int)) (k5 4 _ e4) AM1.out;have g5:(w5.setCell ⟨m,8,none⟩ (.int .i64 ((nd.c.loop+1:Nat):Int))).drew.cell? ⟨m,5,none⟩=some vl:=N6.bk.c 5 _ rfl;obtain⟨W6,hW6⟩:∃W,w5.setCell ⟨m,8,none⟩ (.int .i64 ((nd.c.loop+1:Nat):Int))=W:=⟨_,rfl⟩;rw[hW6] at N6 R6 g4 g5;have nb:Below W6.heap.size W6 (W6.drew.alloc (.cells #[.string id] 9)):=(bQ _ _).drew.alloc (nL _) _;have N7:=N6.later nb;have nbK:Hid (Below W6.drew.heap.size W6.drew (W6.drew.alloc (.cells #[.string id] 9))):=(bQ _ _).alloc (nL _) _;obtain⟨v7,w7,q1,q2,q3,q4⟩:=Sto.app_str (W6.drew.alloc (.cells #[.string id] 9)) 25 vl (nd.l.map fun x=>x.data.toList) N7.ls (by rw[List.length_map];have:=BB.out.l;omega) id.data.toList W6.drew.heap.size (by simp[go_sem];rfl);obtain⟨xa,xn,xc,rfl⟩:=Sto.owns_sliceS q2;obtain⟨lab8,N8,R8⟩:=N7.loops (ls':=nd.l++[id]) q3 (by rw[List.map_append];exact q2) (fun z e=>by
       rcases q4 with c|c
       ·exact .inl (by rw[<-c];exact e)
       ·rw[c] at e
        injection e with e
        exact .inr (by omega))
      have FF:Hid (0=X.1/\Na w p m key X.2 wr lab (w7.setCell ⟨m,5,none⟩ (.slice xa xn xc))):=by
       rw[TK2.out];exact⟨rfl,lab8,F5,q,v5,b,va5,vh5,pw,G,bm,D,.slice xa xn xc,N8,(R5.trans R6).trans ((Fr.of nb).trans R8)⟩
      have hvm:vl.ownBlock≠some m:=fun c=>N7.l4.apart N7.l3 (by decide) (rfl:m=m) c
      have b7:=N7.bk.same (q3.block m N7.bk.lt (fun e=>hvm e.symm));have c5:=b7.c 5 _ rfl;have f5:=b7.f 5;obtain⟨O,hO⟩:∃O:Int,(nd.c.loop:Int)=O:=⟨_,rfl⟩;obtain⟨O1,hO1⟩:∃O:Int,((nd.c.loop+1:Nat):Int)=O:=⟨_,rfl⟩;rw[hO1] at z1 hW6;rw[hO] at z1 c8;clear N5 R5 l5 hA5 k5 H5 RB1 HD TK2 N6 R6 nb N7 q2 q3 q4 N8 R8 hvm b7 hO hO1 e0 e1 e2 e3 e4 e5 e6 e7 BB HK5;go_wp2_with fail
      try rw[hW6]
      clear hW6 c8 f8 b0;have K0:Hid (W6.drew.cell? ⟨m,5,none⟩=some vl):=g5;have K1:Hid ((W6.drew.alloc (.cells #[.string id] 9)).cell? ⟨m,5,none⟩=some vl):=cell_later nbK.out g5;have KI:Hid (W6.drew.cell? ⟨A,4,none⟩=some (.string id)):=g4;have KQ:Hid _:=q1;have KC:Hid (w7.cell? ⟨m,5,none⟩=some vl/\w7.frozen? ⟨m,5,none⟩=false):=⟨c5,f5⟩;clear g4 g5 q1 c5 f5;obtain⟨Z,hZ⟩:∃Z,W6.drew=Z:=⟨_,rfl⟩;rw[hZ] at K0 K1 KI KQ;clear nbK;refine wp_region_noPanic ?_;refine wp_region_held_drew (S:=fun _=>True) (by kernel_rfl) (trivial) (fun hHeld => ?_);rw[hZ];clear hZ;refine wT 0 znY ?_ ?_ ?_;rotate_left
      ·intro w' hSw;clear hSw;unfold znY;first|(go_simp;done)|(go_simp;with_reducible rfl)
      simp only[znY,Act.put,wA,wB,wC];refine wT 1 znZ ?_ ?_ ?_;rotate_left
      ·intro w' hSw;clear hSw;unfold znZ;first|(go_simp;done)|(go_simp;with_reducible rfl)
      simp only[znZ,Act.put,wA,wB,wC];refine wT 2 zn0 ?_ ?_ ?_;rotate_left
      ·intro w' hSw;clear hSw;unfold zn0;first|(go_simp;done)|(go_simp;with_reducible rfl)
      simp only[zn0,Act.put,wA,wB,wC];refine wT 3 zn1 ?_ ?_ ?_;rotate_left
      ·intro w' hSw;clear hSw;unfold zn1;first|(go_simp;done)|(go_simp;with_reducible rfl)
      simp only[zn1,Act.put,wA,wB,wC];refine wT 5 zn2 ?_ ?_ ?_;rotate_left
      ·intro w' hSw;clear hSw;unfold zn2;first|(go_simp;done)|(go_simp;with_reducible rfl)
      simp only[zn2,Act.put,wA,wB,wC];refine wT 6 zn3 ?_ ?_ ?_;rotate_left
      ·intro w' hSw;clear hSw;unfold zn3;first|(go_simp;done)|(go_simp;with_reducible rfl)
      simp only[zn3,Act.put,wA,wB,wC];refine wpAnyH_ready (rs:=[4,7]) (by kernel_rfl) (by simp) ?_;refine AllReadyH.cons (o:=zg9) rfl (fun KK hKK => ?_) (AllReadyH.cons (o:=zlw) rfl (fun KK hKK => ?_) AllReadyH.nil)
      ·have lc:=K0.out
       unfold zg9;go_simp;refine hKK.out _ _ trivial (fun hHeld4 => ?_);clear hKK KK lc;refine wpAnyH_ready (rs:=[7]) (by kernel_rfl) (by simp) ?_;refine AllReadyH.cons (o:=zlw) rfl (fun KK hKK => ?_) AllReadyH.nil;have lc:=KI.out;unfold zlw;go_simp;refine hKK.out _ _ trivial (fun hHeld7 => ?_);clear hKK KK lc;refine wpAnyH_ready (rs:=[8]) (by kernel_rfl) (by simp) ?_;refine AllReadyH.cons (o:=zdK) rfl (fun KK hKK => ?_) AllReadyH.nil;unfold zdK;go_simp;refine hKK.out _ _ trivial (fun hHeld8 => ?_);clear hKK KK
       try simp only[zdK,Act.put,wA,wB,wC]
       refine wpAnyH_ready (rs:=[9]) (by kernel_rfl) (by simp) ?_;refine AllReadyH.cons (o:=zha) rfl (fun KK hKK => ?_) AllReadyH.nil;have hr:=KQ.out;rw[if_pos (by kernel_rfl)];refine Go.Lib.wp_append_run _ _ _ _ _ rfl _ _ rfl rfl _ _ hr ?_;refine hKK.out _ _ trivial (fun hHeldA => ?_);clear hKK KK hr;simp only[zha,Act.put,wA,wB,wC];refine wT 10 zbL ?_ ?_ ?_;rotate_left
       ·intro w' hSw;clear hSw;unfold zbL;first|(go_simp;done)|(go_simp;with_reducible rfl)
       simp only[zbL,Act.put,wA,wB,wC];refine wT 11 zbM ?_ ?_ ?_;rotate_left
       ·intro w' hSw;clear hSw;unfold zbM;first|(go_simp;done)|(go_simp;with_reducible rfl)
       simp only[zbM,Act.put,wA,wB,wC];refine wpAnyH_ready (rs:=[12]) (by kernel_rfl) (by simp) ?_;refine AllReadyH.cons (o:=zcZ) rfl (fun KK hKK => ?_) AllReadyH.nil;obtain⟨sc,sf⟩:=KC.out;unfold zcZ;go_simp;refine hKK.out _ _ trivial (fun hHeldS => ?_);clear hKK KK sc sf;refine wpAnyH_done (by kernel_rfl) ?_ _;refine NoPanic.normal ?_;clear K0 K1 KI KQ KC;go_wp2;go_ret;exact⟨by rw[<-FF.out.1];rfl,FF.out.2⟩
      ·have lc:=KI.out
       unfold zlw;go_simp;refine hKK.out _ _ trivial (fun hHeld7 => ?_);clear hKK KK lc;refine wpAnyH_ready (rs:=[4,8]) (by kernel_rfl) (by simp) ?_;refine AllReadyH.cons (o:=zg9) rfl (fun KK hKK => ?_) (AllReadyH.cons (o:=zdK) rfl (fun KK hKK => ?_) AllReadyH.nil)
       ·have lc:=K0.out
        unfold zg9;go_simp;refine hKK.out _ _ trivial (fun hHeld4 => ?_);clear hKK KK lc;refine wpAnyH_ready (rs:=[8]) (by kernel_rfl) (by simp) ?_;refine AllReadyH.cons (o:=zdK) rfl (fun KK hKK => ?_) AllReadyH.nil;unfold zdK;go_simp;refine hKK.out _ _ trivial (fun hHeld8 => ?_);clear hKK KK
        try simp only[zdK,Act.put,wA,wB,wC]
        refine wpAnyH_ready (rs:=[9]) (by kernel_rfl) (by simp) ?_;refine AllReadyH.cons (o:=zha) rfl (fun KK hKK => ?_) AllReadyH.nil;have hr:=KQ.out;rw[if_pos (by kernel_rfl)];refine Go.Lib.wp_append_run _ _ _ _ _ rfl _ _ rfl rfl _ _ hr ?_;refine hKK.out _ _ trivial (fun hHeldA => ?_);clear hKK KK hr;simp only[zha,Act.put,wA,wB,wC];refine wT 10 zbL ?_ ?_ ?_;rotate_left
        ·intro w' hSw;clear hSw;unfold zbL;first|(go_simp;done)|(go_simp;with_reducible rfl)
        simp only[zbL,Act.put,wA,wB,wC];refine wT 11 zbM ?_ ?_ ?_;rotate_left
        ·intro w' hSw;clear hSw;unfold zbM;first|(go_simp;done)|(go_simp;with_reducible rfl)
        simp only[zbM,Act.put,wA,wB,wC];refine wpAnyH_ready (rs:=[12]) (by kernel_rfl) (by simp) ?_;refine AllReadyH.cons (o:=zcZ) rfl (fun KK hKK => ?_) AllReadyH.nil;obtain⟨sc,sf⟩:=KC.out;unfold zcZ;go_simp;refine hKK.out _ _ trivial (fun hHeldS => ?_);clear hKK KK sc sf;refine wpAnyH_done (by kernel_rfl) ?_ _;refine NoPanic.normal ?_;clear K0 K1 KI KQ KC;go_wp2;go_ret;exact⟨by rw[<-FF.out.1];rfl,FF.out.2⟩
       ·unfold zdK
        go_simp;refine hKK.out _ _ trivial (fun hHeld8 => ?_);clear hKK KK
        try simp only[zdK,Act.put,wA,wB,wC]
        refine wpAnyH_ready (rs:=[4]) (by kernel_rfl) (by simp) ?_;refine AllReadyH.cons (o:=zg9) rfl (fun KK hKK => ?_) AllReadyH.nil;have lc:=K1.out;unfold zg9;go_simp;refine hKK.out _ _ trivial (fun hHeld4 => ?_);clear hKK KK lc;refine wpAnyH_ready (rs:=[9]) (by kernel_rfl) (by simp) ?_;refine AllReadyH.cons (o:=zha) rfl (fun KK hKK => ?_) AllReadyH.nil;have hr:=KQ.out;rw[if_pos (by kernel_rfl)];refine Go.Lib.wp_append_run _ _ _ _ _ rfl _ _ rfl rfl _ _ hr ?_;refine hKK.out _ _ trivial (fun hHeldA => ?_);clear hKK KK hr;simp only[zha,Act.put,wA,wB,wC];refine wT 10 zbL ?_ ?_ ?_;rotate_left
        ·intro w' hSw;clear hSw;unfold zbL;first|(go_simp;done)|(go_simp;with_reducible rfl)
        simp only[zbL,Act.put,wA,wB,wC];refine wT 11 zbM ?_ ?_ ?_;rotate_left
        ·intro w' hSw;clear hSw;unfold zbM;first|(go_simp;done)|(go_simp;with_reducible rfl)
        simp only[zbM,Act.put,wA,wB,wC];refine wpAnyH_ready (rs:=[12]) (by kernel_rfl) (by simp) ?_;refine AllReadyH.cons (o:=zcZ) rfl (fun KK hKK => ?_) AllReadyH.nil;obtain⟨sc,sf⟩:=KC.out;unfold zcZ;go_simp;refine hKK.out _ _ trivial (fun hHeldS => ?_);clear hKK KK sc sf;refine wpAnyH_done (by kernel_rfl) ?_ _;refine NoPanic.normal ?_;clear K0 K1 KI KQ KC;go_wp2;go_ret;exact⟨by rw[<-FF.out.1];rfl,FF.out.2⟩
     ·by_cases h4:k=4
      ·subst h4
       have z1:IntKind.i64.wrap ((nd.c.drop:Int)+1)=((nd.c.drop+1:Nat):Int):=by have:=BB.out.drop;rw[IntKind.wrap_i64];omega
       have c9:w5.cell? ⟨m,9,none⟩=some (.int .i64 (nd.c.drop:Int)):=N5.bk.c 9 _ rfl;have f9:=N5.bk.f 9;obtain⟨N6,R6⟩:=N5.cells 9 (.int .i64 ((nd.c.drop+1:Nat):Int)) (by decide) (c':={ nd.c with drop:=nd.c.drop+1 }) rfl;have FF:Hid (0=X.1/\Na w p m key X.2 wr lab (w5.setCell ⟨m,9,none⟩ (.int .i64 ((nd.c.drop+1:Nat):Int)))):=by
        rw[TK2.out];exact⟨rfl,lab5,F5,q,v5,b,va5,vh5,pw,G,bm,D,vl,N6,R5.trans R6⟩
       clear N5 R5 l5 hA5 k5 H5 RB1 HD TK2 N6 R6;go_wp2;go_ret;exact⟨by rw[<-FF.out.1];rfl,FF.out.2⟩
      ·have FF:Hid (0=X.1/\Na w p m key X.2 wr lab w5):=by
        have e:Nd.did { nd with s:=s1,x:=x1,y:=y1 } ⟨k,hn,u,dl,id⟩ n={ nd with s:=s1,x:=x1,y:=y1 }:=by
         unfold Nd.did;rw[if_neg h1,if_neg h3,if_neg h4]
        rw[TK2.out,e];exact⟨rfl,lab5,F5,q,v5,b,va5,vh5,pw,G,bm,D,vl,N5,R5⟩
       clear N5 R5 l5 hA5 k5 H5 RB1 HD TK2;go_wp2;go_ret;exact⟨by rw[<-FF.out.1];rfl,FF.out.2⟩
   ·have FF:Hid (X.1=r1/\Na w p m key X.2 wr lab w5):=by
     rw[TK1.out,if_pos hr];exact⟨rfl,lab5,F5,q,v5,b,va5,vh5,pw,G,bm,D,vl,N5,R5⟩
    clear TK1 N5 R5 l5 hA5 k5 H5 RB1 HD;go_wp2;go_ret;exact⟨by rw[FF.out.1];rfl,FF.out.2⟩
  ·have FF:Hid (X.1=R/\Na w p m key X.2 wr lab w4):=by
    rw[TK.out,if_pos hR0];obtain⟨g1,g2,g3,g4,g5,g6,g7,g8,g9,ga,gb,gc,gd,ge⟩:=NA.out;exact⟨rfl,g1,g2,g3,g4,g5,g6,g7,g8,g9,ga,gb,gc,gd.later hb4,ge.trans (Fr.of hb4)⟩
   clear TK AD NA hR RB;go_wp2;go_ret;exact⟨by rw[FF.out.1];rfl,FF.out.2⟩
 ·rw[if_pos he,if_pos he]
  have FF:Hid (∀W2,Below wr.heap.size wr W2->Na w p m key nd wr lab (W2.alloc (.cells #[.int .i64 h.k,.int .i64 h.n,.int .i64 h.u,.int .i64 h.d,.string h.id,.string n,.string t,.string s] 148))):=fun W2 hb=>by
   have hb3:=hb.alloc hb.size (.cells #[.int .i64 h.k,.int .i64 h.n,.int .i64 h.u,.int .i64 h.d,.string h.id,.string n,.string t,.string s] 148);exact⟨lab,F,q,v,b,va,vh,pw,G,bm,D,vl,H.out.later hb3,Fr.of hb3⟩
  clear PE H B hd hk;go_enter Tryz.func50, Tryz.ntmps50;go_wp2_with (go_at_call 86;refine cM PE1.out ?_;rintro e w2 ⟨rfl,hb2⟩);go_ret;exact⟨rfl,FF.out _ hb2⟩
theorem zrI (nd:Nd) (h:Go.Proofs.Rt.Hp) (n t:Ba) (hr:(nd.tk0 h n t).1≠0):(nd.tk0 h n t).2.c=nd.c:=by
 unfold Nd.tk0 at hr ⊢;by_cases h1:nd.rf h≠0
 ·rw[if_pos h1]
 ·rw[if_neg h1] at hr ⊢
  by_cases h2:(Sto.adp 4096 nd.s nd.x nd.y t.data.toList).1.1.1≠0
  ·simp only[if_pos h2]
  ·exfalso
   simp only[if_neg h2] at hr;exact hr rfl
theorem zi6 (w wr:Wo) (p m:Nat) (key P:Ba) (nd:Nd) (lab:Nat->Nat) (F:Nat->Prop) (q:Nat) (v:Value) (b:Nat) (va vh:Value) (pw:Nat) (G:Nat->Prop) (bm:Nat) (D:DataW Unit) (vl:Value)
  (h:Go.Proofs.Rt.Hp) (n t s:Ba) (e0:Int) (hd:h.k=1->0<=h.d/\h.d<=4096) (B:Nb nd) (hk:Hid (Kh w))
  (PE:Hid (∀W,Bw wr W->Cl 86 #[.string key,.string P] W fun e w'=>e = .returned (.tuple #[pdv h n t s,.int .i64 e0])/\Bw W w'))
  (H:Hid (Nr w wr p m key nd lab F q v b va vh pw G bm D vl)) :
  Cl 24 #[.pointer (some ⟨m,0,none⟩),.string P] wr fun e w'=>e = .returned (.int .i64 (nd.take e0 h n t).1)/\Na w p m key (nd.take e0 h n t).2 wr lab w':=by
 have T0:Hid _:=zhb w wr p m key P nd lab F q v b va vh pw G bm D vl h n t s e0 hd B hk PE H;obtain⟨r,hr⟩:∃r,(if e0≠0 then e0 else (nd.tk0 h n t).1)=r:=⟨_,rfl⟩;obtain⟨n2,hn2⟩:∃x,(if e0≠0 then nd else (nd.tk0 h n t).2)=x:=⟨_,rfl⟩;have hc:r≠0->n2.c=nd.c:=fun h0=>by
  rw[<-hn2];rw[<-hr] at h0;by_cases c:e0≠0
  ·rw[if_pos c]
  ·rw[if_neg c] at h0 ⊢
   exact zrI nd h n t h0
 have ET:nd.take e0 h n t=(r,Nd.cnt r n2):=by
  unfold Nd.take;by_cases c:e0≠0
  ·rw[if_pos c] at hr hn2 ⊢
   rw[<-hr,<-hn2]
  ·rw[if_neg c] at hr hn2 ⊢
   rw[<-hr,<-hn2]
 rw[hr,hn2] at T0;rw[ET];have HB:Hid (r≠0->n2.c.twice<=900000/\n2.c.bad<=900000):=fun h0=>by rw[hc h0];exact⟨B.twice,B.bad⟩
 clear hr hn2 hc ET PE H B hd hk;by_cases r0:r=0
 ·subst r0
  clear HB;go_enter Tryz.func24, Tryz.ntmps24;go_wp2_with (go_at_call 50;refine cM T0.out ?_;rintro e w2 ⟨rfl,FF⟩);go_ret;exact⟨rfl,FF⟩
 ·obtain⟨hb1,hb2⟩:=HB.out r0
  by_cases r1:r=170
  ·subst r1
   have z1:IntKind.i64.wrap ((n2.c.twice:Int)+1)=((n2.c.twice+1:Nat):Int):=by rw[IntKind.wrap_i64];omega
   have EC:Hid (Nd.cnt 170 n2={ n2 with c:={ n2.c with twice:=n2.c.twice+1 } }):=rfl;have NX:Hid (∀w2,Na w p m key n2 wr lab w2->w2.cell? ⟨m,10,none⟩=some (.int .i64 (n2.c.twice:Int))/\w2.frozen? ⟨m,10,none⟩=false/\Hid (Na w p m key (Nd.cnt 170 n2) wr lab (w2.setCell ⟨m,10,none⟩ (.int .i64 ((n2.c.twice+1:Nat):Int))))):=fun w2 h2=>by
    obtain⟨lab',F,q,v,b,va,vh,pw,G,bm,D,vl,N,R⟩:=h2;obtain⟨N6,R6⟩:=N.cells 10 (.int .i64 ((n2.c.twice+1:Nat):Int)) (by decide) (c':={ n2.c with twice:=n2.c.twice+1 }) rfl;exact⟨N.bk.c 10 _ rfl,N.bk.f 10,lab',F,q,v,b,va,vh,pw,G,bm,D,vl,N6,R.trans R6⟩
   obtain⟨O,hO⟩:∃O:Int,(n2.c.twice:Int)=O:=⟨_,rfl⟩;obtain⟨O1,hO1⟩:∃O:Int,((n2.c.twice+1:Nat):Int)=O:=⟨_,rfl⟩;rw[hO1] at z1 NX;rw[hO] at z1 NX;clear hO hO1 EC HB hb1 hb2;go_enter Tryz.func24, Tryz.ntmps24;go_wp2_with (go_at_call 50;refine cM T0.out ?_;rintro e w2 ⟨rfl,F0⟩;obtain⟨c1,c2,FF⟩:=NX.out w2 F0);go_ret;exact⟨rfl,FF.out⟩
  ·have z1:IntKind.i64.wrap ((n2.c.bad:Int)+1)=((n2.c.bad+1:Nat):Int):=by rw[IntKind.wrap_i64];omega
   have NX:Hid (∀w2,Na w p m key n2 wr lab w2->w2.cell? ⟨m,11,none⟩=some (.int .i64 (n2.c.bad:Int))/\w2.frozen? ⟨m,11,none⟩=false/\Hid (Na w p m key (Nd.cnt r n2) wr lab (w2.setCell ⟨m,11,none⟩ (.int .i64 ((n2.c.bad+1:Nat):Int))))):=fun w2 h2=>by
    obtain⟨lab',F,q,v,b,va,vh,pw,G,bm,D,vl,N,R⟩:=h2;obtain⟨N6,R6⟩:=N.cells 11 (.int .i64 ((n2.c.bad+1:Nat):Int)) (by decide) (c':={ n2.c with bad:=n2.c.bad+1 }) rfl;have e:Nd.cnt r n2={ n2 with c:={ n2.c with bad:=n2.c.bad+1 } }:=by unfold Nd.cnt;rw[if_neg r0,if_neg r1]
    rw[e];exact⟨N.bk.c 11 _ rfl,N.bk.f 11,lab',F,q,v,b,va,vh,pw,G,bm,D,vl,N6,R.trans R6⟩
   obtain⟨O,hO⟩:∃O:Int,(n2.c.bad:Int)=O:=⟨_,rfl⟩;obtain⟨O1,hO1⟩:∃O:Int,((n2.c.bad+1:Nat):Int)=O:=⟨_,rfl⟩;rw[hO1] at z1 NX;rw[hO] at z1 NX;clear hO hO1 HB hb1 hb2;go_enter Tryz.func24, Tryz.ntmps24;go_wp2_with (go_at_call 50;refine cM T0.out ?_;rintro e w2 ⟨rfl,F0⟩;obtain⟨c1,c2,FF⟩:=NX.out w2 F0);go_ret;exact⟨rfl,FF.out⟩
def ctv (c:Ct):Value := .agg #[.int .i64 (c.on:Int),.int .i64 (c.home:Int),.int .i64 (c.loop:Int),.int .i64 (c.drop:Int),.int .i64 (c.twice:Int),.int .i64 (c.bad:Int)]
section
variable {w wr:Wo} {p m:Nat} {key:Ba} {nd:Nd} {lab:Nat->Nat} {F:Nat->Prop} {q:Nat} {v:Value} {b:Nat} {va vh:Value} {pw:Nat} {G:Nat->Prop} {bm:Nat} {D:DataW Unit} {vl:Value}
theorem zfv (h:Nr w wr p m key nd lab F q v b va vh pw G bm D vl) :
  Cl 16 #[.pointer (some ⟨m,0,none⟩)] wr fun e w'=>e = .returned (ctv nd.c)/\Bw wr w':=by
 have nb:Bw wr (wr.alloc (.cells #[.int .i64 0,.int .i64 0,.int .i64 0,.int .i64 0,.int .i64 0,.int .i64 0] 49)):=(bQ _ _).alloc (nL _) _;have nb2:∀cs,Bw wr (wr.alloc (.cells cs 49)):=fun cs=>(bQ _ _).alloc (nL _) _
 have c6:(wr.alloc (.cells #[.int .i64 0,.int .i64 0,.int .i64 0,.int .i64 0,.int .i64 0,.int .i64 0] 49)).cell? ⟨m,6,none⟩=some (.int .i64 (nd.c.on:Int)):=cell_later nb (h.bk.c 6 _ rfl);have c7:(wr.alloc (.cells #[.int .i64 0,.int .i64 0,.int .i64 0,.int .i64 0,.int .i64 0,.int .i64 0] 49)).cell? ⟨m,7,none⟩=some (.int .i64 (nd.c.home:Int)):=cell_later nb (h.bk.c 7 _ rfl);have c8:(wr.alloc (.cells #[.int .i64 0,.int .i64 0,.int .i64 0,.int .i64 0,.int .i64 0,.int .i64 0] 49)).cell? ⟨m,8,none⟩=some (.int .i64 (nd.c.loop:Int)):=cell_later nb (h.bk.c 8 _ rfl);have c9:(wr.alloc (.cells #[.int .i64 0,.int .i64 0,.int .i64 0,.int .i64 0,.int .i64 0,.int .i64 0] 49)).cell? ⟨m,9,none⟩=some (.int .i64 (nd.c.drop:Int)):=cell_later nb (h.bk.c 9 _ rfl);have ca:(wr.alloc (.cells #[.int .i64 0,.int .i64 0,.int .i64 0,.int .i64 0,.int .i64 0,.int .i64 0] 49)).cell? ⟨m,10,none⟩=some (.int .i64 (nd.c.twice:Int)):=cell_later nb (h.bk.c 10 _ rfl);have cb:(wr.alloc (.cells #[.int .i64 0,.int .i64 0,.int .i64 0,.int .i64 0,.int .i64 0,.int .i64 0] 49)).cell? ⟨m,11,none⟩=some (.int .i64 (nd.c.bad:Int)):=cell_later nb (h.bk.c 11 _ rfl);unfold ctv;clear h;go_enter Tryz.func16, Tryz.ntmps16;go_wp2
 refine bodyPost_ret (v := .agg #[.int .i64 (nd.c.on:Int),.int .i64 (nd.c.home:Int),.int .i64 (nd.c.loop:Int),.int .i64 (nd.c.drop:Int),.int .i64 (nd.c.twice:Int),.int .i64 (nd.c.bad:Int)]) ?_ rfl ⟨rfl,nb2 _⟩;exact Sto.res_c1 Tryz.results16 _ _ wr.heap.size _ (by kernel_rfl) (Go.run_loadVar_row _ _ _ _ _ _ _ (heap_alloc_new _ _) Tryz.underlying49 rfl (by kernel_rfl))
end
def oc (t:Int×Ba):List Value:=[.int .i64 t.1,.string t.2]
def ocs:List (Int×Ba)->List Value
 | []=>[]
 | t::l=>oc t++ocs l
theorem zi7:∀l m:List (Int×Ba),ocs (l++m)=ocs l++ocs m
 | [],_=>rfl
 | t::l,m=>by rw[List.cons_append,ocs,zi7 l m,ocs,List.append_assoc]
theorem zi8:∀(l:List (Int×Ba)),∀u∈ocs l,u.oneCell'=true
 | [],u,h=>by cases h
 | t::l,u,h=>by
  rw[ocs,List.mem_append] at h;rcases h with h|h
  ·simp only[oc,List.mem_cons,List.not_mem_nil,or_false] at h
   rcases h with rfl|rfl <;> rfl
  ·exact zi8 l u h
theorem zi9:∀(l:List (Int×Ba)) (i:Nat) (hi:i < l.length),(ocs l)[i*2]?=some (.int .i64 l[i].1)/\(ocs l)[i*2+1]?=some (.string l[i].2)
 | [],i,hi=>absurd hi (Nat.not_lt_zero _)
 | t::l,0,_=>⟨rfl,rfl⟩
 | t::l,i+1,hi=>by
  have ih:=zi9 l i (by simpa using hi);rw[show (i+1)*2=i*2+2 by omega];exact ih
theorem zrJ:(Tryz.prog.info? 87).map (fun i=>(i.zero,i.size,i.bytes))=some (some (.agg #[.int .i64 0,.string ⟨#[]⟩]),2,24):=by kernel_rfl
abbrev zb8 (w:Wo) (v:Value) (l:List (Int×Ba)):Prop:=w.ownsRow 0 87 2 v l.length (ocs l)
theorem zn4 (w:Wo) (ty:TypeId) (v:Value) (l:List (Int×Ba)) (h:zb8 w v l) (hl:l.length<=100000) (t:Int×Ba) (b:Nat) (c0:w.cell? ⟨b,0,none⟩=some (.int .i64 t.1)) (c1:w.cell? ⟨b,1,none⟩=some (.string t.2)) :
  ∃v' w',(Builtin.append_ #[53, 53] ty #[v,.slice (some ⟨b,0,none⟩) 1 1]).run Tryz.prog w = .ok v' w'/\zb8 w' v' (l++[t])/\w.grownBy w' v.ownBlock/\(v'.ownBlock=v.ownBlock\/v'.ownBlock=some w.heap.size):=by
 obtain⟨i0,hi,hz0,hz1,hz2⟩:=info_parts zrJ;obtain⟨v',w',r1,r2,r3,-,r5⟩:=run_append_own_at (P:=Tryz.prog) w 0 53 ty 87 i0 _ 2 24 Tryz.underlying53 hi hz0 hz1 hz2 rfl (by decide) v l.length (ocs l) h ⟨b,0,none⟩ 1 1 (oc t) rfl (fun j u hu=>by
   have q:Addr.add ⟨b,0,none⟩ j=⟨b,j,none⟩:=by simp[Addr.add];intro h;exact h.symm
   rw[q]
   match j,hu with
   | 0,hu=>simp[oc] at hu;subst hu;exact c0
   | 1,hu=>simp[oc] at hu;subst hu;exact c1
   | j+2,hu=>simp[oc] at hu) (zi8 [t]) (by unfold maxLen;omega) (by omega) (Nat.zero_le _)
 refine⟨v',w',r1,?_,r3,r5⟩;unfold zb8;rw[zi7,List.length_append]
 simpa[ocs] using r2
theorem zfw {w:Wo} {v:Value} {l:List (Int×Ba)} (h:zb8 w v l):∃a n c,v = .slice a n c:=by
 rcases h.2 with ⟨rfl,-⟩|⟨g,cap,cur,rfl,-⟩
 ·exact⟨_,_,_,rfl⟩
 ·exact⟨_,_,_,rfl⟩
structure Ni (nd:Nd):Prop where
 perm:(nd.t.l.map Go.Proofs.Wh.Tm.i).Perm (nd.w.map fun x=>(x.1:Int))
 apart:nd.w.Pairwise fun x y=>x.1≠y.1
section
variable {nd:Nd}
theorem Ni.keys (h:Ni nd):(nd.w.map fun x=>(x.1:Int)).Nodup:=by
 have:nd.w.Pairwise fun x y=>(x.1:Int)≠(y.1:Int):=h.apart.imp (fun e c=>e (by omega))
 exact List.pairwise_map.2 this
theorem Ni.ids (h:Ni nd):(nd.t.l.map Go.Proofs.Wh.Tm.i).Nodup:=h.perm.nodup_iff.2 h.keys
theorem zfx (t:Go.Proofs.Wh.St) (tt:Int):(Go.Proofs.Wh.advV t tt).Sublist (t.l.map Go.Proofs.Wh.Tm.i):=by
 unfold Go.Proofs.Wh.advV
 split
 ·exact List.Sublist.map _ List.filter_sublist
 ·exact List.nil_sublist _
theorem Ni.nodup (h:Ni nd) (tt:Int):(Go.Proofs.Wh.advV nd.t tt).Nodup:=(zfx nd.t tt).nodup h.ids
theorem Ni.mem (h:Ni nd) {tt i:Int} (hi:i∈Go.Proofs.Wh.advV nd.t tt):∃x∈nd.w,(x.1:Int)=i:=by
 have:=h.perm.mem_iff.1 ((zfx nd.t tt).subset hi);obtain⟨x,hx,e⟩:=List.mem_map.1 this;exact⟨x,hx,e⟩
theorem Ni.len (h:Ni nd):nd.t.l.length=nd.w.length:=by
 have:=h.perm.length_eq
 simpa using this
theorem Ni.find (h:Ni nd) {x:Nat×(Int×Ba)} (hx:x∈nd.w):nd.w.find? (fun p=>decide ((p.1:Int)=(x.1:Int)))=some x:=by
 have gen:∀l:List (Nat×(Int×Ba)),(l.Pairwise fun x y=>x.1≠y.1)->x∈l->l.find? (fun p=>decide ((p.1:Int)=(x.1:Int)))=some x:=by
  intro l
  induction l with
  | nil=>intro _ hx;cases hx
  | cons y l ih =>
   intro hl hx;rw[List.pairwise_cons] at hl;rw[List.find?_cons];by_cases e:(y.1:Int)=(x.1:Int)
   ·rcases List.mem_cons.1 hx with rfl|hx
    ·simp
    ·exact absurd (by omega) (hl.1 x hx)
   ·rcases List.mem_cons.1 hx with rfl|hx
    ·exact absurd rfl e
    ·simp only[e,decide_false]
     exact ih hl.2 hx
 exact gen nd.w h.apart hx
end
def Nd.vals (nd:Nd) (l:List Int):List (Int×Ba):=l.map fun i=>((nd.w.find? fun p=>decide ((p.1:Int)=i)).map fun p=>p.2).getD (0,⟨#[]⟩)
def Nd.left (nd:Nd) (l:List Int):List (Nat×(Int×Ba)):=nd.w.filter fun p=>!decide ((p.1:Int)∈l)
theorem zlx (nd:Nd):nd.left []=nd.w:=by
 unfold Nd.left;rw[List.filter_eq_self];intro x _;simp
theorem zja (nd:Nd) (l:List Int) (x:Nat):nd.left (l++[(x:Int)])=(nd.left l).filter fun p=>!decide ((p.1:Int)=(x:Int)):=by
 unfold Nd.left;rw[List.filter_filter];refine List.filter_congr fun p _ => ?_
 by_cases h1:(p.1:Int)∈l <;> by_cases h2:(p.1:Int)=(x:Int) <;> simp[h1,h2]
theorem zjb (nd:Nd) (l:List Int) (i:Int):nd.vals (l++[i])=nd.vals l++nd.vals [i]:=by unfold Nd.vals;rw[List.map_append]
theorem zly {nd:Nd} (h:Ni nd) {x:Nat×(Int×Ba)} (hx:x∈nd.w):nd.vals [(x.1:Int)]=[x.2]:=by
 unfold Nd.vals;rw[List.map_cons,List.map_nil,h.find hx];rfl
section
variable {w wr:Wo} {p m:Nat} {key:Ba} {nd:Nd} {lab:Nat->Nat} {F:Nat->Prop} {q:Nat} {v:Value} {b:Nat} {va vh:Value} {pw:Nat} {G:Nat->Prop} {bm:Nat} {D:DataW Unit} {vl:Value}
theorem Nr.wheelL (h:Nr w wr p m key nd lab F q v b va vh pw G bm D vl) {w':Wo} {t':Go.Proofs.Wh.St} {G':Nat->Prop} (k:Whl.WAt w' pw G' t') (n:Whl.Nx wr G G') (f:Whl.Bf G wr w') {lab':Nat->Nat} (hl:∀z,z < wr.heap.size->lab' z=lab z) (hu:∀z,wr.heap.size<=z->G' z->lab' z=1) :
  Nr w w' p m key { nd with t:=t' } lab' F q v b va vh pw G' bm D vl/\Fr w wr lab lab' w':=by
 have s:=f.size;have fs:=zpP f;have ap:∀{i:Nat} {P:Nat->Prop} {z:Nat},Lbl lab i P w.heap.size wr.heap.size->i≠1->P z->¬G z:=fun {i P z} k hi hz=>k.apart h.l1 hi hz
 exact⟨⟨⟨h.pz.lz.other fs (fun z hz=>ap h.l0 (by decide) (.inl hz)) (fun z hz=>(h.l1 z hz).2.1),h.pz.es.bf fs (fun z hz=>ap h.l0 (by decide) (.inr hz)),h.pz.ap⟩,k,Whl.ownsMap_same h.mp (fs.block _ h.mp.lt (ap h.l2 (by decide) rfl)),h.mo,Sto.ownsRow_same h.ls (fun g e=>fs.block g (h.ls.lt g e).2 (ap h.l3 (by decide) e)),h.bk.bf fs (ap h.l4 (by decide) rfl),
  h.l0.as hl s,h.l1.next hl hu n (fun z hz=>k.lt hz) h.nw,h.l2.as hl s,h.l3.as hl s,h.l4.as hl s⟩,⟨hl,fs.wide fun z hz=>⟨by rw[(h.l1 z hz).1];decide,(h.l1 z hz).2.1⟩⟩⟩
end
def TkP (w wr:Wo) (p m:Nat) (key:Ba) (nd:Nd) (lab:Nat->Nat) (F:Nat->Prop) (q:Nat) (v:Value) (b:Nat) (va vh:Value) (pw bm:Nat) (vl:Value) (x:Int) (d:List (Int×Ba)) (e:Ending) (w':Wo):Prop :=
 ∃da dn dc,e = .returned (.tuple #[.slice da dn dc,.int .i64 x])/\∃lab' G' D',Nr w w' p m key nd lab' F q v b va vh pw G' bm D' vl/\Fr w wr lab lab' w'/\zb8 w' (.slice da dn dc) d/\∀z,(Value.slice da dn dc).ownBlock=some z->5<=lab' z/\wr.heap.size<=z
structure TkI (w wr:Wo) (p m:Nat) (key:Ba) (nd:Nd) (lab:Nat->Nat) (F:Nat->Prop) (q:Nat) (v:Value) (b:Nat) (va vh:Value) (pw:Nat) (G:Nat->Prop) (bm:Nat) (vl:Value) (ids:List Int) (iv:Value) (k:Nat) (d:Value) (D:DataW Unit) (labk:Nat->Nat) (W:Wo):Prop where
 nr:Nr w W p m key { nd with w:=nd.left (ids.take k) } labk F q v b va vh pw G bm D vl
 fr:Fr w wr lab labk W
 oi:Whl.OwnsI W iv ids
 li:∀z,iv.ownBlock=some z->labk z=7
 ou:zb8 W d (nd.vals (ids.take k))
 lu:∀z,d.ownBlock=some z->labk z=6/\wr.heap.size<=z
 n0:w.heap.size<=wr.heap.size
theorem TkI.step {w wr:Wo} {p m:Nat} {key:Ba} {nd:Nd} {lab:Nat->Nat} {F:Nat->Prop} {q:Nat} {v:Value} {b:Nat} {va vh:Value} {pw:Nat} {G:Nat->Prop} {bm:Nat} {vl:Value} {ids:List Int} {iv:Value} {k:Nat} {d:Value} {D:DataW Unit} {labk:Nat->Nat} {W:Wo}
  (T:TkI w wr p m key nd lab F q v b va vh pw G bm vl ids iv k d D labk W) (ap:nd.w.Pairwise fun x y=>x.1≠y.1) (x:Nat×(Int×Ba)) (hx:x∈nd.w) (hb:x.1<=1000000) (hk:ids.take (k+1)=ids.take k++[(x.1:Int)]) (hn:(x.1:Int) ∉ ids.take k) (hv:nd.vals [(x.1:Int)]=[x.2]) (hlen:ids.length<=4096) :
  ∃n s,(Instr.lookup 108 (.map (some bm)) (.int .i64 (x.1:Int)) false).run Tryz.prog W = .ok (.agg #[.int .i64 n,.string s]) W/\∃da dn dc w2,(Builtin.append_ #[53, 53] 53 #[d,.slice (some ⟨W.heap.size,0,none⟩) 1 1]).run Tryz.prog (W.alloc (.cells #[.int .i64 n,.string s] 87)) = .ok (.slice da dn dc) w2/\w2.cell? ⟨m,4,none⟩=some (.map (some bm)) /\
   ∃w3,(Builtin.delete_ #[108, 3] 0 #[.map (some bm),.int .i64 (x.1:Int)]).run Tryz.prog w2 = .ok (.tuple #[]) w3/\Hid (∃D' labk',TkI w wr p m key nd lab F q v b va vh pw G bm vl ids iv (k+1) (.slice da dn dc) D' labk' w3):=by
 have hxl:x∈nd.left (ids.take k):=List.mem_filter.2 ⟨hx,by simpa using hn⟩;obtain⟨n,s,l1,l2⟩:=zlp W bm D T.nr.mp (x.1:Int) (by omega) (by omega);have l3:=T.nr.mo.at_ x hxl;rw[l2] at l3;obtain⟨rfl,rfl⟩:=zlo l3;refine⟨x.2.1,x.2.2,l1,?_⟩;have nb:Bw W (W.alloc (.cells #[.int .i64 x.2.1,.string x.2.2] 87)):=(bQ _ _).alloc (nL _) _;have z0:(W.alloc (.cells #[.int .i64 x.2.1,.string x.2.2] 87)).cell? ⟨W.heap.size,0,none⟩=some (.int .i64 x.2.1):=by simp[go_sem]
 have z1:(W.alloc (.cells #[.int .i64 x.2.1,.string x.2.2] 87)).cell? ⟨W.heap.size,1,none⟩=some (.string x.2.2):=by simp[go_sem]
 have hsz:W.heap.size < (W.alloc (.cells #[.int .i64 x.2.1,.string x.2.2] 87)).heap.size:=by simp
 obtain⟨W1,hW1⟩:∃V,W.alloc (.cells #[.int .i64 x.2.1,.string x.2.2] 87)=V:=⟨_,rfl⟩;rw[hW1] at nb z0 z1 hsz ⊢;have hWr:wr.heap.size<=W.heap.size:=T.fr.bf.size;have N1:=T.nr.later nb;have O1:zb8 W1 d (nd.vals (ids.take k)):=Sto.ownsRow_same T.ou (fun g e=>nb.block g (T.ou.lt g e).2);have I1:=Whl.OwnsI.later T.oi nb;obtain⟨d',w2,r1,r2,r3,r4⟩:=zn4 W1 53 d (nd.vals (ids.take k)) O1 (by unfold Nd.vals;rw[List.length_map,List.length_take];omega) (x.2.1,x.2.2) W.heap.size z0 z1;obtain⟨da,dn,dc,rfl⟩:=zfw r2;have gr:Sto.Bf (fun z=>d.ownBlock=some z) W1 w2:=Sto.Bf.grown r3 fun z e => .inl e
 have hl2:∀z,z < W1.heap.size->relab labk W1.heap.size 6 z=labk z:=fun z=>zaq
 have N2:=N1.other (lab':=relab labk W1.heap.size 6) gr (fun z e _=>by rw[(T.lu z e).1];decide) (fun z e=>Nat.le_trans T.n0 (T.lu z e).2) hl2;have B2:Sto.Bf (Fm w lab) wr w2:=(T.fr.bf.later nb).trans (fun z e => .inr (T.lu z e).2) gr;have I2:Whl.OwnsI w2 iv ids:=Sto.ownsRow_same I1 (fun z e=>gr.block z (I1.lt z e).2 (fun c=>by have h1:=T.li z e;have h2:=(T.lu z c).1;omega));refine⟨da,dn,dc,w2,r1,N2.c4,?_⟩;obtain⟨w3,q1,q2,q3⟩:=znV w2 bm D N2.mp (x.1:Int) (by omega) (by omega) 0;have MO:Mo (D.del (.int .i64 (x.1:Int))) (nd.left (ids.take (k+1))):=by
  have:=T.nr.mo.del (T.nr.mp.tidy Whl.int_key) (List.Pairwise.filter _ ap) hxl;rw[hk,zja];exact this
 obtain⟨N3,F3⟩:=N2.map (Whl.ownsMap_size q2) MO q3;have b3:Sto.Bf (fun z=>z=bm) w2 w3:=Sto.Bf.grown q3 fun z e => .inl (by injection e with e;exact e.symm)
 have hbm:relab labk W1.heap.size 6 bm=2:=(N2.l2 bm rfl).1;have e6:∀z,(Value.slice da dn dc).ownBlock=some z->relab labk W1.heap.size 6 z=6/\wr.heap.size<=z:=fun z e=>by
  rcases r4 with c|c
  ·rw[c] at e
   have h1:=T.lu z e;refine⟨?_,h1.2⟩;by_cases hz:z < W1.heap.size
   ·rw[hl2 z hz];exact h1.1
   ·exact zar (by omega)
  ·rw[c] at e
   injection e with e
   subst e;exact⟨zar (nL _),by have:=nb.size;omega⟩
 have e7:∀z,iv.ownBlock=some z->relab labk W1.heap.size 6 z=7:=fun z e=>by
  rw[hl2 z (I1.lt z e).2];exact T.li z e
 refine⟨w3,q1,D.del (.int .i64 (x.1:Int)),relab labk W1.heap.size 6,N3,⟨fun z hz=>(hl2 z (by have:=nb.size;omega)).trans (T.fr.lo z hz),B2.trans (fun z e => ?_) b3⟩,Sto.ownsRow_same I2 (fun z e=>b3.block z (I2.lt z e).2 (fun c=>by have:=e7 z e;rw[c,hbm] at this;omega)),e7,?_,e6,T.n0⟩
 ·subst e
  rcases Nat.lt_or_ge z wr.heap.size with c|c
  ·have h1:=T.fr.lo z c
   rw[(T.nr.l2 z rfl).1] at h1;exact .inl ⟨by rw[<-h1];decide,(T.nr.l2 z rfl).2.1⟩
  ·exact .inr c
 ·have:zb8 w2 (.slice da dn dc) (nd.vals (ids.take (k+1))):=by
   rw[hk,zjb,hv];exact r2
  exact Sto.ownsRow_same this (fun z e=>b3.block z (this.lt z e).2 (fun c=>by have:=(e6 z e).1;rw[c,hbm] at this;omega))
end Go.Proofs.YtjcppbhgjchjaaaGreatDoor
