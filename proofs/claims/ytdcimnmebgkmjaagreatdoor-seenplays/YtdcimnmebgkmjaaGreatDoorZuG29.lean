/- Parts: SrI,SzA,SzC. -/
import Derived.Test.YtdcimnmebgkmjaaGreatDoorZuG28
namespace Go.Proofs.YtdcimnmebgkmjaaGreatDoor
open Go.RowKit Go.Proofs.Fd Go.Proofs.Dk Go.Proofs.Lg
set_option maxRecDepth 20000
def tkE (y:Ey) (r:Bs):Option Ey:=tkp y.1 y.2.1 y.2.2 r
def tks:Ey→List Bs→Option Ey
 | y,[]=>some y
 | y,r::l=>(tkE y r).bind fun z=>tks z l
theorem tks_app:∀(l:List Bs) (y:Ey) (r:Bs),tks y (l++[r])=(tks y l).bind fun z=>tkE z r
 | [],y,r=>by
  show (tkE y r).bind (fun z=>some z)=tkE y r
  cases tkE y r <;> rfl
 | a::l,y,r=>by
  show (tkE y a).bind (fun z=>tks z (l++[r]))=((tkE y a).bind fun z=>tks z l).bind fun z=>tkE z r
  cases tkE y a with
  | none=>rfl
  | some z=>exact tks_app l z r
theorem tks_no {y:Ey} {l m:List Bs} (h:tks y l=none):tks y (l++m)=none:=by
 induction l generalizing y with
 | nil=>cases h
 | cons a l ih =>
  have h':(tkE y a).bind (fun z=>tks z l)=none:=h
  show (tkE y a).bind (fun z=>tks z (l++m))=none
  cases e:tkE y a with
  | none=>rfl
  | some z =>
   rw[e] at h'
   exact ih h'
structure Gn (n:Nat) (y:Ey):Prop where
 e:y.1≤2147483647
 z:y.1=0→y.2.1=[]
 t:∀t∈y.2.1++y.2.2,t.length=16
 n:y.2.1.length+y.2.2.length≤n
theorem tkE_gn {n:Nat} {y z:Ey} {r:Bs} (g:Gn n y) (h:tkE y r=some z):Gn (n+1) z:=by
 unfold tkE tkp at h
 by_cases h1:r.length=17∧r.head?=some 84
 ·rw[if_pos h1] at h
  injection h with h
  subst h
  have gn:=g.n
  by_cases hm:r.tail∈y.2.1++y.2.2
  ·refine⟨g.e,g.z,?_,?_⟩
   ·show ∀t∈y.2.1++(if r.tail∈y.2.1++y.2.2 then _ else _),_
    rw[if_pos hm];exact g.t
   ·show y.2.1.length+(if r.tail∈y.2.1++y.2.2 then _ else _:List Bs).length≤_
    rw[if_pos hm];omega
  ·refine⟨g.e,g.z,?_,?_⟩
   ·show ∀t∈y.2.1++(if r.tail∈y.2.1++y.2.2 then _ else _),_
    rw[if_neg hm,←List.append_assoc]
    intro t ht
    rcases List.mem_append.1 ht with ht|ht
    ·exact g.t t ht
    ·rw[List.mem_singleton] at ht
     subst ht
     rw[List.length_tail,h1.1]
   ·show y.2.1.length+(if r.tail∈y.2.1++y.2.2 then _ else _:List Bs).length≤_
    rw[if_neg hm,List.length_append,List.length_singleton];omega
 ·rw[if_neg h1] at h
  by_cases h2:r.length=5∧r.head?=some 69
  ·rw[if_pos h2] at h
   by_cases h3:nm r.tail < y.1∨2147483647 < nm r.tail
   ·rw[if_pos h3] at h;cases h
   ·rw[if_neg h3] at h
    injection h with h
    subst h
    have gn:=g.n
    unfold tun
    by_cases e1:nm r.tail=y.1
    ·rw[if_pos e1]
     exact⟨by show nm r.tail≤_;omega,fun e=>g.z (e1.symm.trans e),g.t,by show y.2.1.length+y.2.2.length≤_;omega⟩
    ·rw[if_neg e1]
     by_cases e2:nm r.tail=y.1+1
     ·rw[if_pos e2]
      exact⟨by show nm r.tail≤_;omega,fun e=>absurd (show nm r.tail=0 from e) (by omega),fun t ht=>g.t t (List.mem_append_right _ (by simpa using ht)),by show y.2.2.length+0≤_;omega⟩
     ·rw[if_neg e2]
      exact⟨by show nm r.tail≤_;omega,fun _=>rfl,(fun t ht=>absurd ht List.not_mem_nil),by show 0+0≤_;omega⟩
  ·rw[if_neg h2] at h;cases h
theorem Gn.start:Gn 0 (0,[],[]):=⟨by decide,fun _=>rfl,(fun t ht=>absurd ht List.not_mem_nil),Nat.le_refl _⟩
theorem Gn.gd {n:Nat} {y:Ey} (g:Gn n y) (h:n≤10000):Gd y:=⟨g.e,g.z,g.t,Nat.le_trans g.n h⟩
theorem tks_gn:∀(l:List Bs) (n:Nat) (y z:Ey),Gn n y→tks y l=some z→Gn (n+l.length) z
 | [],n,y,z,g,h=>by
  have e:some y=some z:=h
  injection e with e
  subst e
  exact g
 | a::l,n,y,z,g,h=>by
  have h':(tkE y a).bind (fun z=>tks z l)=some z:=h
  cases e:tkE y a with
  | none=>rw[e] at h';cases h'
  | some x =>
   rw[e] at h'
   have:=tks_gn l (n+1) x z (tkE_gn g e) h'
   rw[List.length_cons,show n+(l.length+1)=n+1+l.length by omega]
   exact this
def opz (most:Int) (s:St) (o:(Int×St)×Lo):(Int×St)×Option (Lo×Ey) :=
 if most < 1∨4096 < most then ((1,s),none)
 else if o.1.1≠0 then (o.1,none)
 else match tks (0,[],[]) o.2.ts with
  | none=>((160,o.1.2),none)
  | some y=>((0,o.1.2),some (o.2,y))
def OzR (w:World) (d:Nat) (G:Nat→Prop) (most:Int) (r:(Int×St)×Option (Lo×Ey)) (e:Ending) (w':World):Prop :=
 match r.2 with
 | none=>e = .returned (.tuple #[.pointer none,.int .i64 r.1.1])∧∃G',Dw w d G w' G' r.1.2
 | some (x,y)=>∃q b,e = .returned (.tuple #[.pointer (some ⟨b,0,none⟩),.int .i64 0])∧r.1.1=0∧RzY w G d q b most.toNat r.1.2 x y w'
theorem ozr_no {w:World} {d:Nat} {G G':Nat→Prop} {most:Int} {r:(Int×St)×Option (Lo×Ey)} {z:Int} {s:St} {w':World} (h:r=((z,s),none)) (k:Dw w d G w' G' s):OzR w d G most r (.returned (.tuple #[.pointer none,.int .i64 z])) w':=by
 subst h
 exact⟨rfl,G',k⟩
theorem RzP.dw {w:World} {G:Nat→Prop} {d q b most:Nat} {s:St} {x:Lo} {ep:Nat} {ah he:List Bs} {w1:World} (k:RzP w G d q b most s x ep ah he w1):∃G',Dw w d G w1 G' s:=by
 obtain⟨G',v,u,z,n,f⟩:=k
 exact⟨G',z.rl.rd.at_,fun y hy=>n y (.inl (.inl hy)),f⟩
set_option maxHeartbeats 2000000 in
theorem rzopen_any (w:World) (d:Nat) (G:Nat→Prop) (s:St) (most:Int) (hn:s.n≤1024) (hl:s.l.length+5000≤1000000) (D:Hid (DAt w d G s)) :
  Calls Tryz.prog 44 #[.pointer (some ⟨d,0,none⟩),.int .i64 most] w fun e w'=>OzR w d G most (opz most s (opnr s)) e w':=by
 obtain⟨r,hr⟩:∃r,opz most s (opnr s)=r:=⟨_,rfl⟩
 rw[hr]
 unfold opz at hr
 by_cases h1:most < 1
 ·rw[if_pos (.inl h1)] at hr
  have FF:Hid (OzR w d G most r (.returned (.tuple #[.pointer none,.int .i64 1])) w):=ozr_no hr.symm ⟨D.out,Nx.refl _ _,Bf.refl _ _⟩
  clear hr D
  go_enter Tryz.func44, Tryz.ntmps44
  go_wp2
  go_ret2
  exact FF.out
 ·by_cases h2:4096 < most
  ·rw[if_pos (.inr h2)] at hr
   have FF:Hid (OzR w d G most r (.returned (.tuple #[.pointer none,.int .i64 1])) w):=ozr_no hr.symm ⟨D.out,Nx.refl _ _,Bf.refl _ _⟩
   clear hr D
   go_enter Tryz.func44, Tryz.ntmps44
   go_wp2
   go_ret2
   exact FF.out
  ·rw[if_neg (by omega)] at hr
   have OP:Hid _:=ropen_any w d G s hn hl D
   obtain⟨⟨⟨oe,os⟩,ox⟩,ho⟩:∃o,opnr s=o:=⟨_,rfl⟩
   rw[ho] at hr OP
   have hr':(if oe≠0 then ((oe,os),(none:Option (Lo×Ey))) else match tks (0,[],[]) ox.ts with
    | none=>((160,os),none)
    | some y=>((0,os),some (ox,y)))=r:=hr
   have HR:Hid _:=hr'
   obtain⟨M,hM⟩:∃M:Nat,most=(M:Int):=⟨most.toNat,by omega⟩
   subst hM
   clear hr hr' ho D
   go_enter Tryz.func44, Tryz.ntmps44
   go_wp2_with fail
   refine Calls.mono OP.out ?_
   rintro e w1 ⟨pv,G1,rfl,dw,hno,hok⟩
   clear OP
   by_cases h0:oe=0
   ·obtain⟨q,v,rfl,rl,hnew⟩:=hok h0
    have HR2:=HR.out
    rw[if_neg (by rw[h0];simp)] at HR2
    have ER:Hid _:=HR2
    have tl:=rl.tlen
    have TOK:Hid (∀t∈ox.ts,t.length≤2000):=fun t ht=>(rl.ok t ht).2
    have Z1:Hid (RzY w G d q w1.heap.size M os ox (0,[],[]) (w1.alloc (.cells #[.pointer (some ⟨q,0,none⟩),.int .i64 (M:Int),.int .i64 ((0:Nat):Int),.slice none 0 0] 57))):=by
     refine⟨G1,v,.slice none 0 0,⟨rl.later (nb _ _),⟨Blk.new w1 (rsc q M 0 (.slice none 0 0)) _ (by simp),owns_nilH _,fun c=>by cases c⟩,fun y hy c => ?_⟩,fun y hy => ?_,dw.bf.later (nb _ _)⟩
     ·rcases hy with rfl|e
      ·exact Nat.lt_irrefl _ (rl.fq c)
      ·cases e
     ·rcases hy with (e|e)|e
      ·exact dw.nx y e
      ·exact .inr (hnew y e)
      ·rcases e with rfl|e
       ·exact .inr dw.bf.size
       ·cases e
    subst h0
    clear dw hno hok rl hnew HR HR2
    obtain⟨b,hb⟩:∃b,w1.heap.size=b:=⟨_,rfl⟩
    rw[hb] at Z1
    have Z2:Hid (RzY w G d q b M os ox (0,[],[]) (w1.alloc (.cells #[.pointer (some ⟨q,0,none⟩),.int .i64 (M:Int),.int .i64 0,.slice none 0 0] 57))):=Z1.out
    clear Z1
    go_wp2
    obtain⟨W0,hW0⟩:∃W0,w1.alloc (.cells #[.pointer (some ⟨q,0,none⟩),.int .i64 (M:Int),.int .i64 0,.slice none 0 0] 57)=W0:=⟨_,rfl⟩
    rw[hW0] at Z2 ⊢
    clear hW0 hb
    obtain⟨N,hN⟩:∃N,ox.ts.length=N:=⟨_,rfl⟩
    have HN:Hid (ox.ts.length=N):=hN
    rw[hN] at tl
    clear hN
    go_loopw [9] (fun i wr=>∃(k:Nat) (y:Ey),k≤N∧i = .int .i64 (k:Int)∧Hid (tks (0,[],[]) (ox.ts.take k)=some y∧Gn k y∧RzY w G d q b M os ox y wr)) (fun i _=>N - (intOf i).toNat)
    case atStart=>exact⟨0,(0,[],[]),Nat.zero_le _,rfl,by rw[List.take_zero];rfl,Gn.start,Z2.out⟩
    case round =>
     obtain⟨k,y,hk,rfl,J⟩:=hrel
     clear Z2
     obtain⟨G2,v2,u2,z2,n2,f2⟩:=J.out.2.2
     obtain⟨va,vc,rfl,tx,-⟩:=owns_tx HN.out (by have:=z2.rl.rd.rf.row;rw[OwnsS,HN.out] at this;exact this)
     have c3:=z2.rl.rd.rf.bk.c 3 _ rfl
     by_cases hlt:k < N
     ·have hkl:k < ox.ts.length:=by rw[HN.out];exact hlt
      have g1:(k:Int) < (N:Int):=by omega
      obtain⟨g,o,rfl,c1⟩:=tx k hkl
      have ET:Hid (ox.ts.take (k+1)=ox.ts.take k++[ox.ts[k]]):=List.take_succ_eq_append_getElem hkl
      have ED:Hid (ox.ts=ox.ts.take (k+1)++ox.ts.drop (k+1)):=(List.take_append_drop _ _).symm
      have htl:=TOK.out _ (List.getElem_mem hkl)
      have gn:=J.out.2.1.n
      have TK:Hid _:=rstake_any b q M y.1 u2 y.2.1 y.2.2 (by omega) ox.ts[k] htl wr z2.rs
      obtain⟨t,ht⟩:∃t,ox.ts[k]=t:=⟨_,rfl⟩
      rw[ht] at c1 ET TK
      unfold sv at c1
      have TK2:Hid (Calls Tryz.prog 84 #[.pointer (some ⟨b,0,none⟩),.string (st t)] wr fun e w'=>e = .returned (.bool (tkE y t).isSome)∧∀z,tkE y t=some z→RzY w G d q b M os ox z w'):=Calls.mono TK.out fun e w' ⟨e1,e2⟩=>⟨e1,fun z hz=>by
       have hz':tkp y.1 y.2.1 y.2.2 t=some z:=hz
       rw[hz'] at e2
       exact z2.set e2 n2 f2⟩
      have TK3:Hid (Calls Tryz.prog 84 #[.pointer (some ⟨b,0,none⟩),.string (st t)] wr fun e w'=>e = .returned (.bool (tkE y t).isSome)∧∃G',Dw w d G w' G' os):=Calls.mono TK.out fun e w' ⟨e1,e2⟩=>⟨e1,(z2.set e2 n2 f2).dw⟩
      obtain⟨T,hT⟩:∃T,st t=T:=⟨_,rfl⟩
      rw[hT] at TK2 TK3 c1
      have JJ:Hid (tks (0,[],[]) (ox.ts.take k)=some y∧Gn k y):=⟨J.out.1,J.out.2.1⟩
      clear TK tx z2 n2 f2 J hT ht htl
      cases htk:tkE y t with
      | none =>
       rw[htk] at TK3
       have FR:Hid (tks (0,[],[]) ox.ts=none):=by
        show _=_
        rw[ED.out,ET.out]
        refine tks_no ?_
        rw[tks_app,JJ.out.1]
        exact htk
       have ER2:=ER.out
       rw[FR.out] at ER2
       have FF:Hid (∀w' G',Dw w d G w' G' os→OzR w d G (M:Int) r (.returned (.tuple #[.pointer none,.int .i64 160])) w'):=fun w' G' k=>ozr_no ER2.symm k
       clear TK2 JJ ET ED FR ER2 htk
       go_wp2_with fail
       refine Calls.mono TK3.out ?_
       rintro e w2 ⟨rfl,G3,dw3⟩
       have F3:Hid _:=FF.out w2 G3 dw3
       clear TK3 FF dw3
       go_wp2
       go_ret2
       exact F3.out
      | some z =>
       rw[htk] at TK2
       have FR:Hid (tks (0,[],[]) (ox.ts.take (k+1))=some z∧Gn (k+1) z):=⟨by rw[ET.out,tks_app,JJ.out.1];exact htk,tkE_gn JJ.out.2 htk⟩
       clear TK3 JJ ET ED htk
       go_wp2_with fail
       refine Calls.mono TK2.out ?_
       rintro e w2 ⟨rfl,z3⟩
       have F3:Hid _:=z3 z rfl
       clear TK2 z3
       go_wp2
       go_roundw
       case rel=>exact⟨k+1,z,by omega,rfl,FR.out.1,FR.out.2,F3.out⟩
       case measure=>simp[intOf];omega
     ·have g1:¬(k:Int) < (N:Int):=by omega
      have FR:tks (0,[],[]) ox.ts=some y:=by
       have:=J.out.1
       rw[List.take_of_length_le (by rw[HN.out];omega)] at this
       exact this
      have ER2:=ER.out
      rw[FR] at ER2
      have FF:Hid (OzR w d G (M:Int) r (.returned (.tuple #[.pointer (some ⟨b,0,none⟩),.int .i64 0])) wr):=by
       rw[←ER2]
       exact⟨q,b,rfl,rfl,J.out.2.2⟩
      clear J ER2 FR tx z2 n2 f2
      go_wp2
      go_ret2
      exact FF.out
   ·have HR2:=HR.out
    rw[if_pos h0] at HR2
    obtain rfl:=hno h0
    have FF:Hid (OzR w d G (M:Int) r (.returned (.tuple #[.pointer none,.int .i64 oe])) w1):=ozr_no HR2.symm dw
    clear hno hok HR HR2 dw
    go_wp2
    go_ret2
    exact FF.out
end Go.Proofs.YtdcimnmebgkmjaaGreatDoor
namespace Go.Proofs.YtdcimnmebgkmjaaGreatDoor
open Go.RowKit Go.Proofs.Fd Go.Proofs.Dk Go.Proofs.Lg
set_option maxRecDepth 20000
theorem Ow.slice {w W:World} {v:Value} {xs:List Bs} (h:Ow w W v xs):∃a n c,v = .slice a n c:=by
 obtain⟨a,c,e,-,-⟩:=owns_tx rfl (owns_low2 h.1 (Nat.zero_le _))
 exact⟨a,_,c,e⟩
set_option maxHeartbeats 2000000 in
theorem eappend_any (w W:World) (v:Value) (xs:List Bs) (o:Hid (Ow w W v xs)) (hx:xs.length≤20000) (ep:Nat) (a:Option Addr) (n c:Nat) (tags:List Bs) (hn:tags.length=n) (hn2:n≤20000) (ht:∀t∈tags,t.length≤2000) (tx:Hid (TxAt w a tags)) :
  Calls Tryz.prog 142 #[v,.int .i64 (ep:Int),.slice a n c] W fun e w'=>∃ya yn yc,e = .returned (.slice ya yn yc)∧Ow w w' (.slice ya yn yc) (xs++(69::ben ep 4)::tags.map (84::·)):=by
 have HN:Hid (tags.length=n):=hn
 have HT:Hid (∀t∈tags,t.length≤2000):=ht
 have ER:Hid _:=sepr_any ep W
 have ON:Hid (∀W1,Below W.heap.size W W1→_):=fun W1 (hb:Below W.heap.size W W1)=>(o.out.later hb).one (by omega) (69::ben ep 4)
 obtain⟨E,hE⟩:∃E,st (69::ben ep 4)=E:=⟨_,rfl⟩
 rw[hE] at ER ON
 obtain⟨va,vn,vc,rfl⟩:=o.out.slice
 have HL:Hid (∀k,xs++[69::ben ep 4]++(tags.take k).map (84::·)=xs++(69::ben ep 4)::(tags.take k).map (84::·)):=fun k=>by rw[List.append_assoc];rfl
 clear hE o hn ht
 go_enter Tryz.func142, Tryz.ntmps142
 go_wp2_with fail
 refine Calls.mono ER.out ?_
 rintro e w1 ⟨rfl,hb⟩
 obtain⟨xa,xn,xc,w2,r1,O2⟩:=ON.out w1 hb
 clear ER ON hb
 go_wp2_with (first|(at_builtin;refine Go.Lib.wpList_append_run _ rfl _ _ _ _ rfl _ _ rfl rfl _ _ r1 ?_))
 clear r1
 go_loopw [0,16] (fun sl i wr=>∃k:Nat,k≤n∧i = .int .i64 (k:Int)∧Hid (Ow w wr sl (xs++[69::ben ep 4]++(tags.take k).map (84::·)))) (fun _ i _=>n - (intOf i).toNat)
 case atStart=>exact⟨0,Nat.zero_le _,rfl,by rw[List.take_zero,List.map_nil,List.append_nil];exact O2.out⟩
 case round =>
  obtain⟨k,hk,rfl,J⟩:=hrel
  clear O2
  by_cases hlt:k < n
  ·have hkl:k < tags.length:=by rw[HN.out];exact hlt
   have g1:(k:Int) < (n:Int):=by omega
   obtain⟨g,p,rfl,c1⟩:=(tx.out.later J.out.2) k hkl
   have ET:Hid (tags.take (k+1)=tags.take k++[tags[k]]):=List.take_succ_eq_append_getElem hkl
   have htl:=HT.out _ (List.getElem_mem hkl)
   obtain⟨t,ht⟩:∃t,tags[k]=t:=⟨_,rfl⟩
   rw[ht] at c1 ET htl
   unfold sv at c1
   have TR:Hid (Calls Tryz.prog 81 #[.string (st t)] wr fun e w'=>e = .returned (.string (st (84::t)))∧w'=wr):=stagr_any t (by omega) wr
   obtain⟨ya,yn,yc,w3,r1,O3⟩:=J.out.one (by rw[List.length_append,List.length_append,List.length_map,List.length_take,List.length_singleton];omega) (84::t)
   have O4:Hid (Ow w w3 (.slice ya yn yc) (xs++[69::ben ep 4]++(tags.take (k+1)).map (84::·))):=by
    have:=O3.out
    rw[List.append_assoc] at this
    rw[ET.out,List.map_append]
    exact this
   obtain⟨T,hT⟩:∃T,st t=T:=⟨_,rfl⟩
   obtain⟨R,hR⟩:∃T,st (84::t)=T:=⟨_,rfl⟩
   rw[hT] at c1 TR
   rw[hR] at TR r1
   clear hT hR ht O3 J ET htl
   go_wp2_with fail
   refine Calls.mono TR.out ?_
   rintro e w4 ⟨rfl,rfl⟩
   clear TR c1
   go_wp2_with (first|(at_builtin;refine Go.Lib.wpList_append_run _ rfl _ _ _ _ rfl _ _ rfl rfl _ _ r1 ?_))
   go_roundw
   case rel=>exact⟨k+1,by omega,rfl,O4.out⟩
   case measure=>simp[intOf];omega
  ·have g1:¬(k:Int) < (n:Int):=by omega
   have J1:Hid (Ow w wr u0 (xs++(69::ben ep 4)::tags.map (84::·))):=by
    have:=J.out
    rw[HL.out,List.take_of_length_le (show tags.length≤k by rw[HN.out];omega)] at this
    exact this
   obtain⟨ya,yn,yc,rfl⟩:=J1.out.slice
   clear J
   go_wp2
   go_ret
   exact⟨ya,yn,yc,by first|rfl|trivial,J1.out⟩
set_option maxHeartbeats 2000000 in
theorem eshort_any (b q ep most:Nat) (va vh:Value) (ah he:List Bs) (h1:ah.length≤10000) (h2:he.length≤10000) (hep:ep≤4294967296) (h0:ep=0→ah=[]) (hb:∀t∈ah++he,t.length≤2000) (w:World) (h:Hid (Es w b q ep most va vh ah he)) :
  Calls Tryz.prog 127 #[.pointer (some ⟨b,1,none⟩)] w fun e w'=>∃a c,e = .returned (.slice a (sht ep ah he).length c)∧TxAt w' a (sht ep ah he)∧Below w.heap.size w w'∧(∀x,a=some x→w.heap.size≤x.block):=by
 obtain⟨a1,c1,rfl,t1,-⟩:=owns_tx rfl h.out.ra
 obtain⟨a2,c2,rfl,t2,-⟩:=owns_tx rfl h.out.rh
 have T1:Hid _:=t1
 have T2:Hid _:=t2
 have k1:=h.out.bk.c 1 _ rfl
 have k2:=h.out.bk.c 2 _ rfl
 have k3:=h.out.bk.c 3 _ rfl
 have FIN:Hid (∀(W:World) (xa:Option Addr) (xn xc:Nat),Ow w W (.slice xa xn xc) (sht ep ah he)→xn=(sht ep ah he).length∧TxAt W xa (sht ep ah he)∧Below w.heap.size w W∧(∀x,xa=some x→w.heap.size≤x.block)):=fun W xa xn xc o=>by
  obtain⟨ya,yc,e,tz,nz⟩:=owns_txn rfl o.1
  injection e with e1 e2 e3
  subst e1
  exact⟨e2,tz,o.2,nz⟩
 have LAST:Hid (∀(W:World) (v:Value) (xs:List Bs),xs.length≤10001→Ow w W v xs→Calls Tryz.prog 142 #[v,.int .i64 (ep:Int),.slice a2 he.length c2] W fun e w'=>∃ya yn yc,e = .returned (.slice ya yn yc)∧Hid (Ow w w' (.slice ya yn yc) (xs++(69::ben ep 4)::he.map (84::·)))∧Below w.heap.size w w'):=fun W v xs hx o =>
  (eappend_any w W v xs o (by omega) ep a2 he.length c2 he rfl (by omega) (fun t ht=>hb t (List.mem_append_right _ ht)) T2).mono fun _ _ ⟨ya,yn,yc,e1,e2⟩=>⟨ya,yn,yc,e1,e2,e2.2⟩
 have y1:IntKind.i64.wrap ((ep:Int) - 1)=(ep:Int) - 1:=by rw[IntKind.wrap_i64];omega
 have S0:Hid (∀W,Below w.heap.size w W→W.cell? ⟨b,1,none⟩=some (.int .i64 (ep:Int))∧W.cell? ⟨b,2,none⟩=some (.slice a1 ah.length c1)∧W.cell? ⟨b,3,none⟩=some (.slice a2 he.length c2)):=fun W hb=>⟨cell_later hb k1,cell_later hb k2,cell_later hb k3⟩
 by_cases hah:ah=[]
 ·have hs:sht ep ah he=[]++(69::ben ep 4)::he.map (84::·):=by rw[sht,if_pos hah]
  have hz:ah.length=0:=by rw[hah];rfl
  rw[hz] at k2 S0
  have L0:Hid _:=LAST.out w.drew (.slice none 0 0) [] (by simp) ⟨World.ownsRow_nil _ _ _ _,(Below.refl _ _).drew⟩
  rw[←hs] at L0
  obtain⟨m2,hm2⟩:∃m,he.length=m:=⟨_,rfl⟩
  rw[hm2] at k3 L0 S0
  clear hs hz hah LAST h h0 hb hm2 T1 T2 t1 t2
  go_enter Tryz.func127, Tryz.ntmps127
  go_wp2_with fail
  go_region_held3 (fun w'=>w'.cell? ⟨b,1,none⟩=some (.int .i64 (ep:Int))∧w'.cell? ⟨b,2,none⟩=some (.slice a1 0 c1)∧w'.cell? ⟨b,3,none⟩=some (.slice a2 m2 c2)) (first|exact⟨k1,k2,k3⟩|assumption|exact S0.out _ (by assumption)) (first|(go_at_call 142;refine Calls.mono L0.out ?_;rintro e w2 ⟨ya,yn,yc,rfl,O2,hb2⟩))
  obtain⟨rfl,F2⟩:=FIN.out w2 ya yn yc O2.out
  have FF:Hid _:=F2
  clear F2 O2 hb2 L0 FIN S0 k1 k2 k3
  go_wp2
  go_ret
  first|exact⟨ya,yc,rfl,FF.out⟩|exact⟨ya,⟨yc,rfl⟩,FF.out⟩
 ·have hep1:1≤ep:=by
   rcases Nat.eq_zero_or_pos ep with e|e
   ·exact absurd (h0 e) hah
   ·exact e
  have hs:sht ep ah he=([]++(69::ben (ep - 1) 4)::ah.map (84::·))++(69::ben ep 4)::he.map (84::·):=by rw[sht,if_neg hah];rfl
  have hz:0 < ah.length:=List.length_pos_iff.2 hah
  have g1:(0:Int) < (ah.length:Int):=by omega
  have A0:Hid (Calls Tryz.prog 142 #[.slice none 0 0,.int .i64 ((ep:Int) - 1),.slice a1 ah.length c1] w.drew fun e w'=>∃ya yn yc,e = .returned (.slice ya yn yc)∧Hid (Ow w w' (.slice ya yn yc) ([]++(69::ben (ep - 1) 4)::ah.map (84::·)))∧Below w.heap.size w w'):=by
   have:=eappend_any w w.drew (.slice none 0 0) [] ⟨World.ownsRow_nil _ _ _ _,(Below.refl _ _).drew⟩ (by simp) (ep - 1) a1 ah.length c1 ah rfl (by omega) (fun t ht=>hb t (List.mem_append_left _ ht)) T1
   rw[show ((ep - 1:Nat):Int)=(ep:Int) - 1 by omega] at this
   exact this.mono fun _ _ ⟨ya,yn,yc,e1,e2⟩=>⟨ya,yn,yc,e1,e2,e2.2⟩
  have L0:Hid (∀W v,Ow w W v ([]++(69::ben (ep - 1) 4)::ah.map (84::·))→_):=fun W v (o:Ow w W v ([]++(69::ben (ep - 1) 4)::ah.map (84::·)))=>LAST.out W v _ (by simp;omega) o
  rw[←hs] at L0
  obtain⟨m1,hm1⟩:∃m,ah.length=m:=⟨_,rfl⟩
  obtain⟨m2,hm2⟩:∃m,he.length=m:=⟨_,rfl⟩
  rw[hm1] at k2 A0 S0 g1
  rw[hm2] at k3 L0 S0
  clear hs hz hah LAST h h0 hb hm1 hm2 T1 T2 t1 t2
  go_enter Tryz.func127, Tryz.ntmps127
  go_wp2_with fail
  go_region_held3 (fun w'=>w'.cell? ⟨b,1,none⟩=some (.int .i64 (ep:Int))∧w'.cell? ⟨b,2,none⟩=some (.slice a1 m1 c1)∧w'.cell? ⟨b,3,none⟩=some (.slice a2 m2 c2)) (first|exact⟨k1,k2,k3⟩|assumption|exact S0.out _ (by assumption)) (first|(go_at_call 142;refine Calls.mono A0.out ?_;rintro e w2 ⟨ya,yn,yc,rfl,O2,hb2⟩))
  obtain⟨q1,q2,q3⟩:=S0.out w2 hb2
  have L2:Hid _:=L0.out w2.drew (.slice ya yn yc) (O2.out.later (Below.refl _ _).drew)
  clear A0 O2 L0 k1 k2 k3 hb2
  go_wp2_with fail
  go_region_held3 (fun w'=>w'.cell? ⟨b,1,none⟩=some (.int .i64 (ep:Int))∧w'.cell? ⟨b,2,none⟩=some (.slice a1 m1 c1)∧w'.cell? ⟨b,3,none⟩=some (.slice a2 m2 c2)) (first|exact⟨q1,q2,q3⟩|assumption|exact S0.out _ (by assumption)) (first|(go_at_call 142;refine Calls.mono L2.out ?_;rintro e w3 ⟨za,zn,zc,rfl,O3,hb3⟩))
  obtain⟨rfl,F3⟩:=FIN.out w3 za zn zc O3.out
  have FF:Hid _:=F3
  clear F3 O3 hb3 L2 FIN S0 q1 q2 q3
  go_wp2
  go_ret
  first|exact⟨za,zc,rfl,FF.out⟩|exact⟨za,⟨zc,rfl⟩,FF.out⟩
end Go.Proofs.YtdcimnmebgkmjaaGreatDoor
namespace Go.Proofs.YtdcimnmebgkmjaaGreatDoor
open Go.RowKit Go.Proofs.Fd Go.Proofs.Dk Go.Proofs.Lg
set_option maxRecDepth 20000
def TakeC:Prop:=∀(b q most:Nat) (va vh:Value) (y:Ey) (r:Bs) (W:World),Gd y→r.length≤2000→Es W b q y.1 most va vh y.2.1 y.2.2 →
 Calls Tryz.prog 78 #[.pointer (some ⟨b,1,none⟩),.string (st r)] W fun e w'=>e = .returned (.bool (tkE y r).isSome)∧∃va' vh',Es w' b q ((tkE y r).getD y).1 most va' vh' ((tkE y r).getD y).2.1 ((tkE y r).getD y).2.2∧Bf (EFt b va vh) W w'∧Nx W (EFt b va vh) (EFt b va' vh')
structure Pz (w wr:World) (p:Nat) (F:Nat→Prop) (s:St) (q:Nat) (v:Value) (x:Lo) (b most:Nat) (va vh:Value) (y:Ey):Prop where
 lz:Lz w wr p F s q v x
 es:Es wr b q y.1 most va vh y.2.1 y.2.2
 ap:∀z,EFt b va vh z→¬FH F q v z∧w.heap.size≤z
def FP (F:Nat→Prop) (q:Nat) (v:Value) (b:Nat) (va vh:Value) (z:Nat):Prop:=FH F q v z∨EFt b va vh z
def PzP (w w0:World) (F0:Nat→Prop) (p q b most:Nat) (s:St) (x:Lo) (y:Ey) (w':World):Prop:=∃F v va vh,Pz w w' p F s q v x b most va vh y∧Nx w0 F0 (FP F q v b va vh)∧Bf F0 w0 w'
section
variable {w w0:World} {F0:Nat→Prop} {p q b most:Nat} {s:St} {x:Lo} {y:Ey} {w1:World}
theorem PzP.later (k:PzP w w0 F0 p q b most s x y w1) {w2:World} (hb:Below w1.heap.size w1 w2):PzP w w0 F0 p q b most s x y w2:=by
 obtain⟨F,v,va,vh,z,n,f⟩:=k
 exact⟨F,v,va,vh,⟨z.lz.later hb,z.es.later hb,z.ap⟩,n,f.later hb⟩
theorem Pz.log {F:Nat→Prop} {v va vh:Value} (k:Pz w w1 p F s q v x b most va vh y) {w2:World} {s':St} {x':Lo} (z:LzP w w1 p F q v s' x' w2) (hn:Nx w0 F0 (FP F q v b va vh)) (hf:Bf F0 w0 w1):PzP w w0 F0 p q b most s' x' y w2:=by
 obtain⟨F',v',r,n1,f⟩:=z
 have nq:=n1.fh
 have hs:=hf.size
 refine⟨F',v',va,vh,⟨r,k.es.bf f (fun g hg=>(k.ap g hg).1),fun g hg=>⟨nq.apart (k.ap g hg).1 (k.es.lt hg),(k.ap g hg).2⟩⟩,fun g hg => ?_,hf.trans hn (f.wide fun g e => .inl e)⟩
 rcases hg with e|e
 ·rcases nq g e with c|c
  ·exact hn g (.inl c)
  ·exact .inr (by omega)
 ·exact hn g (.inr e)
theorem Pz.set {F:Nat→Prop} {v va vh:Value} (k:Pz w w1 p F s q v x b most va vh y) {w2:World} {y':Ey} {va' vh':Value} (r:Es w2 b q y'.1 most va' vh' y'.2.1 y'.2.2) (f:Bf (EFt b va vh) w1 w2) (n:Nx w1 (EFt b va vh) (EFt b va' vh')) (hn:Nx w0 F0 (FP F q v b va vh)) (hf:Bf F0 w0 w1):PzP w w0 F0 p q b most s x y' w2:=by
 have hs:=hf.size
 have hw:=k.lz.hd_.dl.below.size
 refine⟨F,v,va',vh',⟨k.lz.other f (fun g hg c=>(k.ap g c).1 hg) (fun g c=>(k.ap g c).2),r,fun g hg => ?_⟩,fun g hg => ?_,hf.trans hn (f.wide fun g e => .inr e)⟩
 ·rcases n g hg with c|c
  ·exact k.ap g c
  ·exact⟨fun e=>by have:=(k.lz.fh e).1;omega,by omega⟩
 ·rcases hg with e|e
  ·exact hn g (.inl e)
  ·rcases n g e with c|c
   ·exact hn g (.inr c)
   ·exact .inr (by omega)
end
def wry (s:St) (x:Lo) (y:Ey) (r:Bs):Ey:=if (wrp s x (sht y.1 y.2.1 y.2.2) r).1.1=0 then (tkE y r).getD y else y
set_option maxHeartbeats 4000000 in
theorem pzwrite_any (TC:TakeC) (w w0:World) (F0:Nat→Prop) (p q b most:Nat) (s:St) (x:Lo) (y:Ey) (r:Bs) (hr:r.length≤2000) (hy:Gd y) (hl:s.l.length+6000≤1000000) (hk:Hid (Kh w)) (w1:World) (k:Hid (PzP w w0 F0 p q b most s x y w1)) :
  Calls Tryz.prog 80 #[.pointer (some ⟨b,0,none⟩),.string (st r)] w1 fun e w'=>e = .returned (.int .i64 (wrp s x (sht y.1 y.2.1 y.2.2) r).1.1)∧PzP w w0 F0 p q b most (wrp s x (sht y.1 y.2.1 y.2.2) r).1.2 (wrp s x (sht y.1 y.2.1 y.2.2) r).2 (wry s x y r) w':=by
 have hyn:=hy.n
 have hye:=hy.e
 have K0:Hid (∀W s x y,PzP w w0 F0 p q b most s x y W→W.cell? ⟨b,0,none⟩=some (.pointer (some ⟨q,0,none⟩))):=fun W s x y ⟨F,v,va,vh,z,_,_⟩=>z.es.bk.c 0 _ rfl
 have AP:Hid (∀W s x,s.l.length+100≤1000000→PzP w w0 F0 p q b most s x y W→Calls Tryz.prog 21 #[.pointer (some ⟨q,0,none⟩),.string (st r)] W fun e w'=>e = .returned (.int .i64 (app s x r).1.1)∧PzP w w0 F0 p q b most (app s x r).1.2 (app s x r).2 y w'):=fun W s x hl ⟨F,v,va,vh,z,n,f⟩ =>
  (lzappend_any w W p F s q v x (st r) hl hk.out z.lz).mono fun _ _ ⟨e1,e2⟩=>⟨e1,z.log e2 n f⟩
 have SY:Hid (∀W s x,s.l.length≤1000000→PzP w w0 F0 p q b most s x y W→Calls Tryz.prog 22 #[.pointer (some ⟨q,0,none⟩)] W fun e w'=>e = .returned (.int .i64 (syE s))∧PzP w w0 F0 p q b most (syS s) x y w'):=fun W s x hl ⟨F,v,va,vh,z,n,f⟩ =>
  (lzsync_any w W p F s q v x hl z.lz).mono fun _ _ ⟨e1,e2⟩=>⟨e1,z.log e2 n f⟩
 have TK:Hid (∀W s x,PzP w w0 F0 p q b most s x y W→Calls Tryz.prog 78 #[.pointer (some ⟨b,1,none⟩),.string (st r)] W fun e w'=>∃z:Bool,e = .returned (.bool z)∧PzP w w0 F0 p q b most s x ((tkE y r).getD y) w'):=fun W s x ⟨F,v,va,vh,z,n,f⟩ =>
  (TC b q most va vh y r W hy hr z.es).mono fun _ _ ⟨e1,va',vh',e2,e3,e4⟩=>⟨_,e1,z.set e2 e3 e4 n f⟩
 have hshl:(sht y.1 y.2.1 y.2.2).length≤100000:=by
  unfold sht
  by_cases e:y.2.1=[]
  ·rw[if_pos e];simp;omega
  ·rw[if_neg e];simp;omega
 have SH:Hid (∀W,PzP w w0 F0 p q b most s x y W→Calls Tryz.prog 127 #[.pointer (some ⟨b,1,none⟩)] W fun e w'=>∃a c,e = .returned (.slice a (sht y.1 y.2.1 y.2.2).length c)∧w'.cell? ⟨b,0,none⟩=some (.pointer (some ⟨q,0,none⟩))∧Hid (TxAt w' a (sht y.1 y.2.1 y.2.2)∧∀z,a=some z→W.heap.size≤z.block)∧Below W.heap.size W w'):=fun W ⟨F,v,va,vh,z,n,f⟩ =>
  (eshort_any b q y.1 most va vh y.2.1 y.2.2 (by omega) (by omega) (by omega) hy.z (fun t ht=>by have:=hy.t t ht;omega) W z.es).mono fun _ w' ⟨a,c,e1,e2,e3,e4⟩=>⟨a,c,e1,(z.es.later e3).bk.c 0 _ rfl,⟨e2,e4⟩,e3⟩
 have CP:Hid (∀W W2 a c,PzP w w0 F0 p q b most s x y W→Below W.heap.size W W2→TxAt W2 a (sht y.1 y.2.1 y.2.2)→(∀z,a=some z→W.heap.size≤z.block)→Calls Tryz.prog 38 #[.pointer (some ⟨q,0,none⟩),.slice a (sht y.1 y.2.1 y.2.2).length c] W2 fun e w'=>e = .returned (.int .i64 (cmp s x (sht y.1 y.2.1 y.2.2)).1.1)∧w'.cell? ⟨b,0,none⟩=some (.pointer (some ⟨q,0,none⟩))∧Hid (PzP w w0 F0 p q b most (cmp s x (sht y.1 y.2.1 y.2.2)).1.2 (cmp s x (sht y.1 y.2.1 y.2.2)).2 y w')):=fun W W2 a c ⟨F,v,va,vh,z,n,f⟩ hb tx hn=>by
  have z2:Pz w W2 p F s q v x b most va vh y:=⟨z.lz.later hb,z.es.later hb,z.ap⟩
  refine (lzcompact_any w W2 p F s q v x a _ c (sht y.1 y.2.1 y.2.2) rfl (by omega) (by omega) hk.out z2.lz tx (fun g e _ cc => ?_)).mono ?_
  ·have:=hn g e
   have:=z.lz.hd_.dl.at_.lt cc
   omega
  ·rintro e w' ⟨e1,e2⟩
   have zz:=z2.log (w0:=w0) (F0:=F0) e2 n (f.later hb)
   exact⟨e1,by obtain⟨F',v',va',vh',g,_,_⟩:=zz;exact g.es.bk.c 0 _ rfl,zz⟩
 have hal:=app_len s x r
 have hcl:=cmp_len s x (sht y.1 y.2.1 y.2.2)
 have hn2:s.n≤1024:=by obtain⟨F,v,va,vh,z,-,-⟩:=k.out;exact z.lz.n2
 have hac:=app_len (cmp s x (sht y.1 y.2.1 y.2.2)).1.2 (cmp s x (sht y.1 y.2.1 y.2.2)).2 r
 have hwl:(wrA s x (sht y.1 y.2.1 y.2.2) r).1.2.l.length≤1000000:=by
  unfold wrA
  by_cases e1:(app s x r).1.1=151
  ·rw[if_pos e1]
   by_cases e2:(cmp s x (sht y.1 y.2.1 y.2.2)).1.1=0
   ·rw[if_pos e2];omega
   ·rw[if_neg e2];omega
  ·rw[if_neg e1];omega
 have hcl2:(cmp s x (sht y.1 y.2.1 y.2.2)).1.2.l.length+100≤1000000:=by omega
 have A0:Hid _:=AP.out w1 s x (by omega) k.out
 have EWP:Hid (wrp s x (sht y.1 y.2.1 y.2.2) r=if (wrA s x (sht y.1 y.2.1 y.2.2) r).1.1≠0 then wrA s x (sht y.1 y.2.1 y.2.2) r else ((syE (wrA s x (sht y.1 y.2.1 y.2.2) r).1.2,syS (wrA s x (sht y.1 y.2.1 y.2.2) r).1.2),(wrA s x (sht y.1 y.2.1 y.2.2) r).2)):=rfl
 have EWY:Hid (wry s x y r=if (wrp s x (sht y.1 y.2.1 y.2.2) r).1.1=0 then (tkE y r).getD y else y):=rfl
 have ASH:Hid (∀W,(app s x r).1.1=151→PzP w w0 F0 p q b most s x y W→Calls Tryz.prog 110 #[.pointer (some ⟨b,0,none⟩),.string (st r)] W fun e w'=>e = .returned (.int .i64 (wrA s x (sht y.1 y.2.1 y.2.2) r).1.1)∧PzP w w0 F0 p q b most (wrA s x (sht y.1 y.2.1 y.2.2) r).1.2 (wrA s x (sht y.1 y.2.1 y.2.2) r).2 y w'):=fun W e151 kW=>by
  have EW2:wrA s x (sht y.1 y.2.1 y.2.2) r=(if (cmp s x (sht y.1 y.2.1 y.2.2)).1.1=0 then app (cmp s x (sht y.1 y.2.1 y.2.2)).1.2 (cmp s x (sht y.1 y.2.1 y.2.2)).2 r else cmp s x (sht y.1 y.2.1 y.2.2)):=if_pos e151
  have AP2:Hid _:=fun W z=>AP.out W (cmp s x (sht y.1 y.2.1 y.2.2)).1.2 (cmp s x (sht y.1 y.2.1 y.2.2)).2 hcl2 z
  obtain⟨wA,hA⟩:∃z,wrA s x (sht y.1 y.2.1 y.2.2) r=z:=⟨_,rfl⟩
  rw[hA] at EW2 ⊢
  obtain⟨⟨⟨yc,sc⟩,xc⟩,hcx⟩:∃z,cmp s x (sht y.1 y.2.1 y.2.2)=z:=⟨_,rfl⟩
  rw[hcx] at CP AP2 EW2
  obtain⟨N,hN⟩:∃N,(sht y.1 y.2.1 y.2.2).length=N:=⟨_,rfl⟩
  rw[hN] at SH CP
  have EA:Hid (yc=0→wA=app sc xc r):=fun h=>by rw[EW2];exact if_pos h
  have EB:Hid (yc≠0→wA=((yc,sc),xc)):=fun h=>by rw[EW2];exact if_neg h
  have J2:Hid (PzP w w0 F0 p q b most s x y W.drew):=PzP.later kW (Below.refl _ _).drew
  have q0:=K0.out W s x y kW
  have SH3:Hid _:=SH.out W.drew J2.out
  have CP3:Hid _:=fun W2 a c hb tx hn=>CP.out W.drew W2 a c J2.out hb tx hn
  obtain⟨R,hR⟩:∃R,st r=R:=⟨_,rfl⟩
  rw[hR] at AP2 ⊢
  clear EW2 hA hcx hN hR SH CP J2 e151 kW A0 AP SY TK EWP EWY hwl hcl2 hal hac hcl hshl k
  go_enter Tryz.func110, Tryz.ntmps110
  go_wp2_with fail
  go_region_held3 (fun w'=>w'.cell? ⟨b,0,none⟩=some (.pointer (some ⟨q,0,none⟩))) (first|exact q0|assumption) (first|(go_at_call 127;refine Calls.mono SH3.out ?_;rintro e w3 ⟨a3,c3,rfl,hc3,H3,hb3⟩)|(go_at_call 38;refine Calls.mono (CP3.out _ _ _ hb3 H3.out.1 H3.out.2) ?_;rintro e w4 ⟨rfl,hc4,H4⟩))
  clear SH3 CP3 hb3 H3 hc3 q0
  by_cases h0:yc=0
  ·have A4:Hid _:=AP2.out w4 H4.out
   have EA1:=EA.out h0
   rw[←EA1] at A4
   subst h0
   clear AP2 H4 EA EB EA1
   go_wp2_with fail
   refine Calls.mono A4.out ?_
   rintro e w5 ⟨rfl,z5⟩
   have FF:Hid _:=z5
   clear z5 A4 hc4
   go_wp2
   go_ret
   exact⟨rfl,FF.out⟩
  ·have EB1:=EB.out h0
   have FF:Hid (wA.1.1=yc∧PzP w w0 F0 p q b most wA.1.2 wA.2 y w4):=by rw[EB1];exact⟨rfl,H4.out⟩
   clear H4 AP2 EA EB EB1 hc4
   go_wp2
   go_ret
   exact⟨by rw[FF.out.1];rfl,FF.out.2⟩
 have TAIL:Hid (∀W,PzP w w0 F0 p q b most (wrA s x (sht y.1 y.2.1 y.2.2) r).1.2 (wrA s x (sht y.1 y.2.1 y.2.2) r).2 y W→(wrA s x (sht y.1 y.2.1 y.2.2) r).1.1=0→Calls Tryz.prog 22 #[.pointer (some ⟨q,0,none⟩)] W fun e w'=>e = .returned (.int .i64 (wrp s x (sht y.1 y.2.1 y.2.2) r).1.1)∧PzP w w0 F0 p q b most (wrp s x (sht y.1 y.2.1 y.2.2) r).1.2 (wrp s x (sht y.1 y.2.1 y.2.2) r).2 y w'):=fun W z e0=>by
  have ew:wrp s x (sht y.1 y.2.1 y.2.2) r=((syE (wrA s x (sht y.1 y.2.1 y.2.2) r).1.2,syS (wrA s x (sht y.1 y.2.1 y.2.2) r).1.2),(wrA s x (sht y.1 y.2.1 y.2.2) r).2):=by rw[EWP.out,if_neg (by rw[e0];simp)]
  rw[ew]
  exact SY.out W _ _ hwl z
 have FNO:Hid (∀W,PzP w w0 F0 p q b most (wrA s x (sht y.1 y.2.1 y.2.2) r).1.2 (wrA s x (sht y.1 y.2.1 y.2.2) r).2 y W→(wrA s x (sht y.1 y.2.1 y.2.2) r).1.1≠0→(wrA s x (sht y.1 y.2.1 y.2.2) r).1.1=(wrp s x (sht y.1 y.2.1 y.2.2) r).1.1∧PzP w w0 F0 p q b most (wrp s x (sht y.1 y.2.1 y.2.2) r).1.2 (wrp s x (sht y.1 y.2.1 y.2.2) r).2 (wry s x y r) W):=fun W z e0=>by
  have ew:wrp s x (sht y.1 y.2.1 y.2.2) r=wrA s x (sht y.1 y.2.1 y.2.2) r:=by rw[EWP.out,if_pos e0]
  rw[EWY.out,ew,if_neg e0]
  exact⟨rfl,z⟩
 have EA0:Hid ((app s x r).1.1≠151→wrA s x (sht y.1 y.2.1 y.2.2) r=app s x r):=fun h=>if_neg h
 have k0:=K0.out w1 s x y k.out
 obtain⟨R,hR⟩:∃R,st r=R:=⟨_,rfl⟩
 rw[hR] at A0 ASH TK ⊢
 obtain⟨wP,hP⟩:∃z,wrp s x (sht y.1 y.2.1 y.2.2) r=z:=⟨_,rfl⟩
 rw[hP] at TAIL FNO EWY ⊢
 obtain⟨wY,hY⟩:∃z,wry s x y r=z:=⟨_,rfl⟩
 rw[hY] at FNO EWY ⊢
 obtain⟨wA,hA⟩:∃z,wrA s x (sht y.1 y.2.1 y.2.2) r=z:=⟨_,rfl⟩
 rw[hA] at TAIL FNO ASH EA0
 clear hR hP hY hA hal hac hwl hcl hcl2 hshl SH CP SY EWP AP
 have REST:Hid (∀W,PzP w w0 F0 p q b most wP.1.2 wP.2 y W→wP.1.1=0→Calls Tryz.prog 78 #[.pointer (some ⟨b,1,none⟩),.string R] W fun e w'=>∃z:Bool,e = .returned (.bool z)∧PzP w w0 F0 p q b most wP.1.2 wP.2 wY w'):=fun W z e0=>by
  rw[EWY.out,if_pos e0]
  exact TK.out W _ _ z
 have RNO:Hid (∀W,PzP w w0 F0 p q b most wP.1.2 wP.2 y W→wP.1.1≠0→PzP w w0 F0 p q b most wP.1.2 wP.2 wY W):=fun W z e0=>by
  rw[EWY.out,if_neg e0]
  exact z
 obtain⟨pv,hpv⟩:∃z,wP.1.1=z:=⟨_,rfl⟩
 rw[hpv] at TAIL FNO REST RNO ⊢
 clear hpv EWY TK
 by_cases e151:(app s x r).1.1=151
 ·have e2:=app_151 e151
  rw[e2] at A0
  have A1:Hid _:=fun W z=>ASH.out W e151 z
  obtain⟨av,hav⟩:∃z,wA.1.1=z:=⟨_,rfl⟩
  rw[hav] at A1 TAIL FNO
  clear ASH EA0 e2 e151 hav k
  go_enter Tryz.func80, Tryz.ntmps80
  go_wp2_with fail
  refine Calls.mono A0.out ?_
  rintro e w2 ⟨rfl,z2⟩
  have A2:Hid _:=A1.out w2 z2
  clear z2 A0 k0 A1
  go_wp2_with fail
  refine Calls.mono A2.out ?_
  rintro e w3 ⟨rfl,z3⟩
  have J3:Hid _:=z3
  have q0:=K0.out w3 _ _ _ z3
  clear z3 A2
  by_cases h0:av=0
  ·have S3:Hid _:=TAIL.out w3 J3.out h0
   subst h0
   clear TAIL FNO J3
   go_wp2_with fail
   refine Calls.mono S3.out ?_
   rintro e w4 ⟨rfl,z4⟩
   have J4:Hid _:=z4
   have q1:=K0.out w4 _ _ _ z4
   clear z4 S3 q0
   by_cases h1:pv=0
   ·have T4:Hid _:=REST.out w4 J4.out h1
    subst h1
    clear REST RNO J4
    go_wp2_with fail
    refine Calls.mono T4.out ?_
    rintro e w5 ⟨zz,rfl,z5⟩
    have FF:Hid _:=z5
    clear z5 T4 q1
    go_wp2
    go_ret
    exact⟨rfl,FF.out⟩
   ·have FF:Hid _:=RNO.out w4 J4.out h1
    clear REST RNO J4 q1
    go_wp2
    go_ret
    exact⟨rfl,FF.out⟩
  ·have FF:Hid _:=FNO.out w3 J3.out h0
   clear TAIL FNO J3 REST RNO q0
   go_wp2
   go_ret
   exact⟨by rw[←FF.out.1];rfl,FF.out.2⟩
 ·have ea:=EA0.out e151
  rw[←ea] at A0 e151
  obtain⟨av,hav⟩:∃z,wA.1.1=z:=⟨_,rfl⟩
  rw[hav] at A0 TAIL FNO e151
  clear ASH EA0 ea hav k
  go_enter Tryz.func80, Tryz.ntmps80
  go_wp2_with fail
  refine Calls.mono A0.out ?_
  rintro e w3 ⟨rfl,z3⟩
  have J3:Hid _:=z3
  have q0:=K0.out w3 _ _ _ z3
  clear z3 A0 k0
  by_cases h0:av=0
  ·have S3:Hid _:=TAIL.out w3 J3.out h0
   subst h0
   clear TAIL FNO J3
   go_wp2_with fail
   refine Calls.mono S3.out ?_
   rintro e w4 ⟨rfl,z4⟩
   have J4:Hid _:=z4
   have q1:=K0.out w4 _ _ _ z4
   clear z4 S3 q0
   by_cases h1:pv=0
   ·have T4:Hid _:=REST.out w4 J4.out h1
    subst h1
    clear REST RNO J4
    go_wp2_with fail
    refine Calls.mono T4.out ?_
    rintro e w5 ⟨zz,rfl,z5⟩
    have FF:Hid _:=z5
    clear z5 T4 q1
    go_wp2
    go_ret
    exact⟨rfl,FF.out⟩
   ·have FF:Hid _:=RNO.out w4 J4.out h1
    clear REST RNO J4 q1
    go_wp2
    go_ret
    exact⟨rfl,FF.out⟩
  ·have FF:Hid _:=FNO.out w3 J3.out h0
   clear TAIL FNO J3 REST RNO q0
   go_wp2
   go_ret
   exact⟨by rw[←FF.out.1];rfl,FF.out.2⟩
end Go.Proofs.YtdcimnmebgkmjaaGreatDoor
