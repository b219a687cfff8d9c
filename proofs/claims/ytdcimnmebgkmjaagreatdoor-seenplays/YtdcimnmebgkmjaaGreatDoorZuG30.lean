/- Parts: SzD,SzE,LzB,SyB. -/
import Derived.Test.YtdcimnmebgkmjaaGreatDoorZuG29
import Derived.Test.YtdcimnmebgkmjaaGreatDoorZuG24
namespace Go.Proofs.YtdcimnmebgkmjaaGreatDoor
open Go.RowKit Go.Proofs.Fd Go.Proofs.Dk Go.Proofs.Lg
set_option maxRecDepth 20000
theorem tkE_tag {y:Ey} {t:Bs} (ht:t.length=16) (hm:t ∉ y.2.1++y.2.2):tkE y (84::t)=some (y.1,y.2.1,y.2.2++[t]):=by
 unfold tkE tkp
 rw[if_pos ⟨by rw[List.length_cons,ht],rfl⟩]
 show some (y.1,y.2.1,if t∈y.2.1++y.2.2 then y.2.2 else y.2.2++[t])=_
 rw[if_neg hm]
theorem tkE_ep {y:Ey} (h:y.1 < 2147483647):tkE y (69::ben (y.1+1) 4)=some (y.1+1,y.2.2,[]):=by
 unfold tkE tkp
 have hn:nm (ben (y.1+1) 4)=y.1+1:=nm_ben4 (by omega)
 rw[if_neg (fun c=>absurd c.1 (by rw[List.length_cons,ben_len];decide)),if_pos ⟨by rw[List.length_cons,ben_len],rfl⟩]
 show (if nm (ben (y.1+1) 4) < y.1∨2147483647 < nm (ben (y.1+1) 4) then none else some (nm (ben (y.1+1) 4),tun y.1 y.2.1 y.2.2 (nm (ben (y.1+1) 4))))=_
 rw[hn,if_neg (by omega),tun,if_neg (by omega),if_pos rfl]
theorem pzhas_any (w w0:World) (F0:Nat→Prop) (p q b most:Nat) (s:St) (x:Lo) (y:Ey) (hy:Gd y) (X:ByteArray) (w1:World) (k:PzP w w0 F0 p q b most s x y w1) :
  Calls Tryz.prog 43 #[.pointer (some ⟨b,0,none⟩),.string X] w1 fun e w'=>e = .returned (.bool (decide (X.data.toList∈y.2.1++y.2.2)))∧w'=w1:=by
 obtain⟨F,v,va,vh,z,-,-⟩:=k
 have:=hy.n
 exact shas_any b q y.1 most va vh y.2.1 y.2.2 (by omega) (by omega) X w1 z.es
theorem pzepoch_any (w w0:World) (F0:Nat→Prop) (p q b most:Nat) (s:St) (x:Lo) (y:Ey) (w1:World) (k:PzP w w0 F0 p q b most s x y w1) :
  Calls Tryz.prog 14 #[.pointer (some ⟨b,0,none⟩)] w1 fun e w'=>e = .returned (.int .i64 (y.1:Int))∧w'=w1:=by
 obtain⟨F,v,va,vh,z,-,-⟩:=k
 exact sepoch_any b q y.1 most va vh y.2.1 y.2.2 w1 z.es
theorem pztags_any (w w0:World) (F0:Nat→Prop) (p q b most:Nat) (s:St) (x:Lo) (y:Ey) (hy:Gd y) (w1:World) (k:PzP w w0 F0 p q b most s x y w1) :
  Calls Tryz.prog 16 #[.pointer (some ⟨b,0,none⟩)] w1 fun e w'=>∃a c,e = .returned (.slice a (y.2.1++y.2.2).length c)∧TxAt w' a (y.2.1++y.2.2)∧Below w1.heap.size w1 w':=by
 obtain⟨F,v,va,vh,z,-,-⟩:=k
 have:=hy.n
 exact stags_any b q y.1 most va vh y.2.1 y.2.2 (by omega) (by omega) (fun t ht=>by have:=hy.t t ht;omega) w1 z.es
set_option maxHeartbeats 2000000 in
theorem pzadd_any (TC:TakeC) (w w0:World) (F0:Nat→Prop) (p q b most:Nat) (s:St) (x:Lo) (y:Ey) (hy:Gd y) (hl:s.l.length+6000≤1000000) (hk:Hid (Kh w)) (X:ByteArray) (w1:World) (k:Hid (PzP w w0 F0 p q b most s x y w1)) :
  Calls Tryz.prog 41 #[.pointer (some ⟨b,0,none⟩),.string X] w1 fun e w'=>e = .returned (.int .i64 (adp most s x y X.data.toList).1.1.1)∧PzP w w0 F0 p q b most (adp most s x y X.data.toList).1.1.2 (adp most s x y X.data.toList).1.2 (adp most s x y X.data.toList).2 w':=by
 have HS:Hid _:=pzhas_any w w0 F0 p q b most s x y hy X w1 k.out
 have hXs:X.data.toList.length=X.size:=by simp
 obtain⟨t,ht⟩:∃t,X.data.toList=t:=⟨_,rfl⟩
 have hX:Hid (X=st t):=by show X=st t;rw[←ht];rfl
 rw[ht] at HS hXs ⊢
 clear ht
 obtain⟨r,hr⟩:∃r,adp most s x y t=r:=⟨_,rfl⟩
 rw[hr]
 unfold adp at hr
 by_cases h16:t.length≠16
 ·rw[if_pos h16] at hr
  have g1:¬(X.size:Int)=16:=by omega
  have FF:Hid (r.1.1.1=3∧PzP w w0 F0 p q b most r.1.1.2 r.1.2 r.2 w1):=by rw[←hr];exact⟨rfl,k.out⟩
  clear hr k HS hX hXs h16
  go_enter Tryz.func41, Tryz.ntmps41
  go_wp2
  go_ret
  exact⟨by rw[FF.out.1];rfl,FF.out.2⟩
 ·rw[if_neg h16] at hr
  have hX16:X.size=16:=by omega
  by_cases hm:t∈y.2.1++y.2.2
  ·rw[if_pos hm] at hr
   rw[decide_eq_true hm] at HS
   have FF:Hid (r.1.1.1=170∧PzP w w0 F0 p q b most r.1.1.2 r.1.2 r.2 w1):=by rw[←hr];exact⟨rfl,k.out⟩
   clear hr k hX hXs h16 hm
   go_enter Tryz.func41, Tryz.ntmps41
   go_wp2_with fail
   refine Calls.mono HS.out ?_
   rintro e w2 ⟨rfl,rfl⟩
   go_wp2
   go_ret
   exact⟨by rw[FF.out.1];rfl,FF.out.2⟩
  ·rw[if_neg hm] at hr
   rw[decide_eq_false hm] at HS
   have hyn:=hy.n
   have KK:w1.cell? ⟨b,4,none⟩=some (.int .i64 (most:Int))∧w1.cell? ⟨b,0,none⟩=some (.pointer (some ⟨q,0,none⟩))∧Hid (∀W,Below w1.heap.size w1 W→Calls Tryz.prog 79 #[.pointer (some ⟨b,1,none⟩)] W fun e w'=>e = .returned (.int .i64 ((y.2.1.length+y.2.2.length:Nat):Int))∧Below w1.heap.size w1 w'):=by
    obtain⟨F,v,va,vh,z,-,-⟩:=k.out
    exact⟨z.es.bk.c 4 _ rfl,z.es.bk.c 0 _ rfl,fun W hW=>(emany_any b q y.1 most va vh y.2.1 y.2.2 (by omega) (by omega) W (z.es.later hW)).mono fun _ _ ⟨e1,hb⟩=>⟨e1,chain hW hb⟩⟩
   obtain⟨k4,k0,MN⟩:=KK
   by_cases hf:most≤y.2.1.length+y.2.2.length
   ·rw[if_pos hf] at hr
    have FF:Hid (r.1.1.1=180∧∀W,Below w1.heap.size w1 W→PzP w w0 F0 p q b most r.1.1.2 r.1.2 r.2 W):=by rw[←hr];exact⟨rfl,fun W hb=>PzP.later k.out hb⟩
    obtain⟨m,hmm⟩:∃m,y.2.1.length+y.2.2.length=m:=⟨_,rfl⟩
    rw[hmm] at MN hf
    have g1:(most:Int)≤(m:Int):=by omega
    clear hr k hX hXs h16 hm hmm hyn
    go_enter Tryz.func41, Tryz.ntmps41
    go_wp2_with fail
    refine Calls.mono HS.out ?_
    rintro e w2 ⟨rfl,rfl⟩
    clear HS
    go_wp2_with fail
    go_region_held3 (fun w'=>w'.cell? ⟨b,4,none⟩=some (.int .i64 (most:Int))∧Below w2.heap.size w2 w') (first|exact⟨k4,(Below.refl _ _).drew⟩|assumption|exact⟨cell_later (by assumption) k4,by assumption⟩) (first|(go_at_call 79;refine Calls.mono (MN.out _ (by first|assumption|exact (Below.refl _ _).drew)) ?_;rintro e w3 ⟨rfl,hb3⟩))
    have F3:Hid _:=FF.out.2 w3 hb3
    have F1:Hid _:=FF.out.1
    clear hb3 MN k4 FF
    go_wp2
    go_ret
    exact⟨by rw[F1.out];rfl,F3.out⟩
   ·rw[if_neg hf] at hr
    have TR:Hid (∀W,Calls Tryz.prog 81 #[.string X] W fun e w'=>e = .returned (.string (st (84::t)))∧w'=W):=fun W=>by rw[hX.out];exact stagr_any t (by omega) W
    have WR:Hid (∀W,Below w1.heap.size w1 W→Calls Tryz.prog 80 #[.pointer (some ⟨b,0,none⟩),.string (st (84::t))] W fun e w'=>e = .returned (.int .i64 r.1.1.1)∧PzP w w0 F0 p q b most r.1.1.2 r.1.2 r.2 w'):=fun W hb=>by
     have:=pzwrite_any TC w w0 F0 p q b most s x y (84::t) (by rw[List.length_cons];omega) hy hl hk W (PzP.later k.out hb)
     unfold wry at this
     rw[tkE_tag (by omega) hm] at this
     rw[←hr]
     exact this
    obtain⟨m,hmm⟩:∃m,y.2.1.length+y.2.2.length=m:=⟨_,rfl⟩
    rw[hmm] at MN hf
    have g1:¬(most:Int)≤(m:Int):=by omega
    obtain⟨T,hT⟩:∃T,st (84::t)=T:=⟨_,rfl⟩
    rw[hT] at TR WR
    clear hr k hX hXs h16 hm hmm hyn hT
    go_enter Tryz.func41, Tryz.ntmps41
    go_wp2_with fail
    refine Calls.mono HS.out ?_
    rintro e w2 ⟨rfl,rfl⟩
    clear HS
    go_wp2_with fail
    go_region_held3 (fun w'=>w'.cell? ⟨b,4,none⟩=some (.int .i64 (most:Int))∧Below w2.heap.size w2 w') (first|exact⟨k4,(Below.refl _ _).drew⟩|assumption|exact⟨cell_later (by assumption) k4,by assumption⟩) (first|(go_at_call 79;refine Calls.mono (MN.out _ (by first|assumption|exact (Below.refl _ _).drew)) ?_;rintro e w3 ⟨rfl,hb3⟩))
    have W3:Hid _:=WR.out w3 hb3
    clear hb3 MN k4 WR
    go_wp2_with fail
    refine Calls.mono (TR.out _) ?_
    rintro e w4 ⟨rfl,rfl⟩
    clear TR
    go_wp2_with fail
    refine Calls.mono W3.out ?_
    rintro e w5 ⟨rfl,z5⟩
    have FF:Hid _:=z5
    clear z5 W3
    go_wp2
    go_ret
    exact⟨rfl,FF.out⟩
set_option maxHeartbeats 2000000 in
theorem pzrot_any (TC:TakeC) (w w0:World) (F0:Nat→Prop) (p q b most:Nat) (s:St) (x:Lo) (y:Ey) (hy:Gd y) (hl:s.l.length+6000≤1000000) (hk:Hid (Kh w)) (w1:World) (k:Hid (PzP w w0 F0 p q b most s x y w1)) :
  Calls Tryz.prog 42 #[.pointer (some ⟨b,0,none⟩)] w1 fun e w'=>e = .returned (.int .i64 (rop s x y).1.1.1)∧PzP w w0 F0 p q b most (rop s x y).1.1.2 (rop s x y).1.2 (rop s x y).2 w':=by
 have hye:=hy.e
 have KK:w1.cell? ⟨b,1,none⟩=some (.int .i64 (y.1:Int))∧w1.cell? ⟨b,0,none⟩=some (.pointer (some ⟨q,0,none⟩)):=by
  obtain⟨F,v,va,vh,z,-,-⟩:=k.out
  exact⟨z.es.bk.c 1 _ rfl,z.es.bk.c 0 _ rfl⟩
 obtain⟨k1,k0⟩:=KK
 obtain⟨r,hr⟩:∃r,rop s x y=r:=⟨_,rfl⟩
 rw[hr]
 unfold rop at hr
 by_cases hm:2147483647≤y.1
 ·rw[if_pos hm] at hr
  have FF:Hid (r.1.1.1=1∧PzP w w0 F0 p q b most r.1.1.2 r.1.2 r.2 w1):=by rw[←hr];exact⟨rfl,k.out⟩
  obtain⟨ep,hep⟩:∃e:Int,(y.1:Int)=e:=⟨_,rfl⟩
  obtain rfl:ep=2147483647:=by omega
  rw[hep] at k1
  clear hr k hm hep hye
  go_enter Tryz.func42, Tryz.ntmps42
  go_wp2
  go_ret
  exact⟨by rw[FF.out.1];rfl,FF.out.2⟩
 ·rw[if_neg hm] at hr
  have EP:Hid (Calls Tryz.prog 82 #[.int .i64 ((y.1:Int)+1)] w1 fun e w'=>e = .returned (.string (st (69::ben (y.1+1) 4)))∧Below w1.heap.size w1 w'):=sepr_any (y.1+1) w1
  have WR:Hid (∀W,Below w1.heap.size w1 W→Calls Tryz.prog 80 #[.pointer (some ⟨b,0,none⟩),.string (st (69::ben (y.1+1) 4))] W fun e w'=>e = .returned (.int .i64 r.1.1.1)∧PzP w w0 F0 p q b most r.1.1.2 r.1.2 r.2 w'):=fun W hb=>by
   have:=pzwrite_any TC w w0 F0 p q b most s x y (69::ben (y.1+1) 4) (by rw[List.length_cons,ben_len];decide) hy hl hk W (PzP.later k.out hb)
   unfold wry at this
   rw[tkE_ep (by omega)] at this
   rw[←hr]
   exact this
  obtain⟨ep,hep⟩:∃e:Int,(y.1:Int)=e:=⟨_,rfl⟩
  have g1:¬ep=2147483647:=by omega
  have y1:IntKind.i64.wrap (ep+1)=ep+1:=by rw[IntKind.wrap_i64];omega
  rw[hep] at k1 EP
  obtain⟨E,hE⟩:∃E,st (69::ben (y.1+1) 4)=E:=⟨_,rfl⟩
  rw[hE] at EP WR
  clear hr k hm hep hE hye
  go_enter Tryz.func42, Tryz.ntmps42
  go_wp2_with fail
  refine Calls.mono EP.out ?_
  rintro e w2 ⟨rfl,hb2⟩
  have W2:Hid _:=WR.out w2 hb2
  clear WR EP hb2
  go_wp2_with fail
  refine Calls.mono W2.out ?_
  rintro e w3 ⟨rfl,z3⟩
  have FF:Hid _:=z3
  clear z3 W2
  go_wp2
  go_ret
  exact⟨rfl,FF.out⟩
end Go.Proofs.YtdcimnmebgkmjaaGreatDoor
namespace Go.Proofs.YtdcimnmebgkmjaaGreatDoor
open Go.RowKit Go.Proofs.Fd Go.Proofs.Dk Go.Proofs.Lg
set_option maxRecDepth 20000
theorem PzP.trans {w w0 w1:World} {F0 F1:Nat→Prop} {p q b most:Nat} {s:St} {x:Lo} {y:Ey} {w2:World} (k:PzP w w1 F1 p q b most s x y w2) (hn:Nx w0 F0 F1) (hf:Bf F0 w0 w1):PzP w w0 F0 p q b most s x y w2:=by
 obtain⟨F,v,va,vh,z,n,f⟩:=k
 exact⟨F,v,va,vh,z,hn.trans n hf.size,hf.trans hn f⟩
def PoR (w w0:World) (F0:Nat→Prop) (p:Nat) (most:Int) (r:(Int×St)×Option (Lo×Ey)) (e:Ending) (w':World):Prop :=
 match r.2 with
 | none=>e = .returned (.tuple #[.pointer none,.int .i64 r.1.1])∧Ds w w0 p F0 r.1.2 w'
 | some (x,y)=>∃q b,e = .returned (.tuple #[.pointer (some ⟨b,0,none⟩),.int .i64 0])∧r.1.1=0∧PzP w w0 F0 p q b most.toNat r.1.2 x y w'
theorem por_no {w w0:World} {F0:Nat→Prop} {p:Nat} {most:Int} {r:(Int×St)×Option (Lo×Ey)} {z:Int} {s:St} {w':World} (h:r=((z,s),none)) (k:Ds w w0 p F0 s w'):PoR w w0 F0 p most r (.returned (.tuple #[.pointer none,.int .i64 z])) w':=by
 subst h
 exact⟨rfl,k⟩
theorem PzP.ds {w w0:World} {F0:Nat→Prop} {p q b most:Nat} {s:St} {x:Lo} {y:Ey} {w1:World} (k:PzP w w0 F0 p q b most s x y w1):Ds w w0 p F0 s w1:=by
 obtain⟨F,v,va,vh,z,n,f⟩:=k
 exact⟨F,z.lz.hd_.dl,fun y hy=>n y (.inl (.inl hy)),f⟩
set_option maxHeartbeats 4000000 in
theorem pzopen_any (TC:TakeC) (w w0:World) (p:Nat) (F0:Nat→Prop) (s:St) (most:Int) (hn:s.n≤1024) (hl:s.l.length+5000≤1000000) (hk:Hid (Kh w)) (D:Hid (Dl w w0 p F0 s)) :
  Calls Tryz.prog 40 #[.pointer (some ⟨p,0,none⟩),.int .i64 most] w0 fun e w'=>PoR w w0 F0 p most (opz most s (opn s)) e w':=by
 obtain⟨r,hr⟩:∃r,opz most s (opn s)=r:=⟨_,rfl⟩
 rw[hr]
 unfold opz at hr
 by_cases h1:most < 1
 ·rw[if_pos (.inl h1)] at hr
  have FF:Hid (PoR w w0 F0 p most r (.returned (.tuple #[.pointer none,.int .i64 1])) w0):=por_no hr.symm ⟨F0,D.out,Nx.refl _ _,Bf.refl _ _⟩
  clear hr D
  go_enter Tryz.func40, Tryz.ntmps40
  go_wp2
  go_ret2
  exact FF.out
 ·by_cases h2:4096 < most
  ·rw[if_pos (.inr h2)] at hr
   have FF:Hid (PoR w w0 F0 p most r (.returned (.tuple #[.pointer none,.int .i64 1])) w0):=por_no hr.symm ⟨F0,D.out,Nx.refl _ _,Bf.refl _ _⟩
   clear hr D
   go_enter Tryz.func40, Tryz.ntmps40
   go_wp2
   go_ret2
   exact FF.out
  ·rw[if_neg (by omega)] at hr
   have OP:Hid _:=lopen_all w w0 p F0 s (by omega) hk D
   have OK:Hid _:=fun (h:(opn s).1.1=0)=>opn_ok h D.out.at_.1
   obtain⟨⟨⟨oe,os⟩,ox⟩,ho⟩:∃o,opn s=o:=⟨_,rfl⟩
   rw[ho] at hr OP OK
   have hr':(if oe≠0 then ((oe,os),(none:Option (Lo×Ey))) else match tks (0,[],[]) ox.ts with
    | none=>((160,os),none)
    | some y=>((0,os),some (ox,y)))=r:=hr
   have HR:Hid _:=hr'
   obtain⟨M,hM⟩:∃M:Nat,most=(M:Int):=⟨most.toNat,by omega⟩
   subst hM
   clear hr hr' ho D
   go_enter Tryz.func40, Tryz.ntmps40
   go_wp2_with fail
   refine Calls.mono OP.out ?_
   rintro e w1 ⟨F1,dl,nx,bf,hres⟩
   clear OP
   rcases hres with ⟨h0,q,v,rfl,hd,hnew⟩|⟨h0,rfl⟩
   ·have h0':oe=0:=h0
    obtain⟨o4,oh,on,otk,og,ook⟩:=OK.out h0
    have on':os.n=s.n:=on
    have HR2:=HR.out
    rw[if_neg (by rw[h0'];simp)] at HR2
    have ER:Hid _:=HR2
    have LZ:Lz w w1 p F1 os q v ox:=⟨by rw[on'];exact hd,oh,by rw[on'];exact o4,by rw[on'];exact hn,by rw[on'];exact otk,ook,og⟩
    have tl:=LZ.tlen
    have TOK:Hid (∀t∈ox.ts,t.length≤2000):=fun t ht=>(ook t ht).2
    have E1:Es (w1.alloc (.cells #[.pointer (some ⟨q,0,none⟩),.int .i64 ((0:Nat):Int),.slice none 0 0,.slice none 0 0,.int .i64 (M:Int)] 94)) w1.heap.size q 0 M (.slice none 0 0) (.slice none 0 0) [] [] :=
     ⟨Blk.new w1 (stc q 0 (.slice none 0 0) (.slice none 0 0) M) _ (by simp),owns_nilS _,owns_nilS _,(fun c=>by cases c),(fun c=>by cases c),fun g c=>by cases c⟩
    have Z1:Hid (Pz w (w1.alloc (.cells #[.pointer (some ⟨q,0,none⟩),.int .i64 ((0:Nat):Int),.slice none 0 0,.slice none 0 0,.int .i64 (M:Int)] 94)) p F1 os q v ox w1.heap.size M (.slice none 0 0) (.slice none 0 0) (0,[],[])∧Nx w0 F0 (FP F1 q v w1.heap.size (.slice none 0 0) (.slice none 0 0))∧Bf F0 w0 (w1.alloc (.cells #[.pointer (some ⟨q,0,none⟩),.int .i64 ((0:Nat):Int),.slice none 0 0,.slice none 0 0,.int .i64 (M:Int)] 94))):=by
     refine⟨⟨LZ.later (nb _ _),E1,fun z hz => ?_⟩,fun z hz => ?_,bf.later (nb _ _)⟩
     ·rcases hz with rfl|e|e
      ·exact⟨fun c=>Nat.lt_irrefl _ (LZ.fh c).1,LZ.hd_.dl.below.size⟩
      ·cases e
      ·cases e
     ·rcases hz with (e|e)|e
      ·exact nx z e
      ·exact .inr (hnew z e)
      ·rcases e with rfl|e|e
       ·exact .inr bf.size
       ·cases e
       ·cases e
    obtain⟨b,hb⟩:∃b,w1.heap.size=b:=⟨_,rfl⟩
    rw[hb] at Z1
    have RC:Hid (Calls Tryz.prog 24 #[.pointer (some ⟨q,0,none⟩)] (w1.alloc (.cells #[.pointer (some ⟨q,0,none⟩),.int .i64 0,.slice none 0 0,.slice none 0 0,.int .i64 (M:Int)] 94)) fun e w'=>∃a c,e = .returned (.slice a ox.ts.length c)∧Hid (TxAt w' a ox.ts∧Pz w w' p F1 os q v ox b M (.slice none 0 0) (.slice none 0 0) (0,[],[])∧Nx w0 F0 (FP F1 q v b (.slice none 0 0) (.slice none 0 0))∧Bf F0 w0 w'∧Ap a ox.ts (FP F1 q v b (.slice none 0 0) (.slice none 0 0)))):=by
     obtain⟨z1,z2,z3⟩:=Z1.out
     refine (lrecords_any q p _ _ ox.g v ox.ts ox.tk ox.mr [] _ (by omega) (fun t ht=>(ook t ht).2) z1.lz.hd_.hf).mono ?_
     rintro e w' ⟨u,he,ho,hb'⟩
     obtain⟨a,c,rfl,tx,hbase⟩:=owns_txn rfl ho
     refine⟨a,c,he,tx,⟨z1.lz.later hb',z1.es.later hb',z1.ap⟩,z2,z3.later hb',fun g e _ cc => ?_⟩
     have h3:=hbase g e
     rcases cc with cc|cc
     ·have h4:=(z1.lz.fh cc).1
      exact absurd h4 (Nat.not_lt.2 h3)
     ·have h4:=z1.es.lt cc
      exact absurd h4 (Nat.not_lt.2 h3)
    subst h0'
    obtain⟨N,hN⟩:∃N,ox.ts.length=N:=⟨_,rfl⟩
    have HN:Hid (ox.ts.length=N):=hN
    rw[hN] at RC tl
    clear dl nx bf hd hnew HR HR2 LZ E1 Z1 OK hN o4 oh on on' otk ook h0
    go_wp2_with fail
    refine Calls.mono RC.out ?_
    rintro e w3 ⟨a3,c3,rfl,H3⟩
    clear RC
    go_wp2
    obtain⟨FS,hFS⟩:∃FS,FP F1 q v b (.slice none 0 0) (.slice none 0 0)=FS:=⟨_,rfl⟩
    have P3:Hid (PzP w w3 FS p q b M os ox (0,[],[]) w3):=⟨F1,v,_,_,H3.out.2.1,by rw[hFS];exact Nx.refl _ _,Bf.refl _ _⟩
    have T3:Hid (TxAt w3 a3 ox.ts∧Ap a3 ox.ts FS∧Nx w0 F0 FS∧Bf F0 w0 w3):=⟨H3.out.1,by rw[←hFS];exact H3.out.2.2.2.2,by rw[←hFS];exact H3.out.2.2.1,H3.out.2.2.2.1⟩
    clear H3 hFS hb
    go_loopw [35] (fun i wr=>∃(k:Nat) (y:Ey),k≤N∧i = .int .i64 (k:Int)∧Hid (tks (0,[],[]) (ox.ts.take k)=some y∧Gn k y∧PzP w w3 FS p q b M os ox y wr)) (fun i _=>N - (intOf i).toNat)
    case atStart=>exact⟨0,(0,[],[]),Nat.zero_le _,rfl,by rw[List.take_zero];rfl,Gn.start,P3.out⟩
    case round =>
     obtain⟨k,y,hk',rfl,J⟩:=hrel
     clear P3
     obtain⟨F2,v2,va2,vh2,z2,n2,f2⟩:=J.out.2.2
     by_cases hlt:k < N
     ·have hkl:k < ox.ts.length:=by rw[HN.out];exact hlt
      have g1:(k:Int) < (N:Int):=by omega
      obtain⟨g,o,rfl,c1⟩:=(T3.out.1.bf f2 T3.out.2.1) k hkl
      have ET:Hid (ox.ts.take (k+1)=ox.ts.take k++[ox.ts[k]]):=List.take_succ_eq_append_getElem hkl
      have ED:Hid (ox.ts=ox.ts.take (k+1)++ox.ts.drop (k+1)):=(List.take_append_drop _ _).symm
      have htl:=TOK.out _ (List.getElem_mem hkl)
      have TK:Hid _:=TC b q M va2 vh2 y ox.ts[k] wr (J.out.2.1.gd (by omega)) htl z2.es
      have b0:=z2.es.bk.c 0 _ rfl
      obtain⟨t,ht⟩:∃t,ox.ts[k]=t:=⟨_,rfl⟩
      rw[ht] at c1 ET TK
      unfold sv at c1
      have TK2:Hid (Calls Tryz.prog 78 #[.pointer (some ⟨b,1,none⟩),.string (st t)] wr fun e w'=>e = .returned (.bool (tkE y t).isSome)∧PzP w w3 FS p q b M os ox ((tkE y t).getD y) w'):=Calls.mono TK.out fun e w' ⟨e1,va',vh',e2,e3,e4⟩=>⟨e1,z2.set e2 e3 e4 n2 f2⟩
      obtain⟨T,hT⟩:∃T,st t=T:=⟨_,rfl⟩
      rw[hT] at TK2 c1
      have JJ:Hid (tks (0,[],[]) (ox.ts.take k)=some y∧Gn k y):=⟨J.out.1,J.out.2.1⟩
      clear TK z2 n2 f2 J hT ht htl
      cases htk:tkE y t with
      | none =>
       rw[htk] at TK2
       have FR:Hid (tks (0,[],[]) ox.ts=none):=by
        show _=_
        rw[ED.out,ET.out]
        refine tks_no ?_
        rw[tks_app,JJ.out.1]
        exact htk
       have ER2:=ER.out
       rw[FR.out] at ER2
       have FF:Hid (∀w',PzP w w3 FS p q b M os ox y w'→PoR w w0 F0 p (M:Int) r (.returned (.tuple #[.pointer none,.int .i64 160])) w'):=fun w' k=>por_no ER2.symm (k.trans T3.out.2.2.1 T3.out.2.2.2).ds
       clear JJ ET ED FR ER2 htk
       go_wp2_with fail
       refine Calls.mono TK2.out ?_
       rintro e w2 ⟨rfl,z4⟩
       have F3:Hid _:=FF.out w2 z4
       clear TK2 FF z4
       go_wp2
       go_ret2
       exact F3.out
      | some z =>
       rw[htk] at TK2
       have FR:Hid (tks (0,[],[]) (ox.ts.take (k+1))=some z∧Gn (k+1) z):=⟨by rw[ET.out,tks_app,JJ.out.1];exact htk,tkE_gn JJ.out.2 htk⟩
       clear JJ ET ED htk
       go_wp2_with fail
       refine Calls.mono TK2.out ?_
       rintro e w2 ⟨rfl,z4⟩
       have F3:Hid _:=z4
       clear TK2 z4
       go_wp2
       go_roundw
       case rel=>exact⟨k+1,z,by omega,rfl,FR.out.1,FR.out.2,F3.out⟩
       case measure=>simp[intOf];omega
     ·have g1:¬(k:Int) < (N:Int):=by omega
      have FR:tks (0,[],[]) ox.ts=some y:=by
       have:=J.out.1
       rw[List.take_of_length_le (by rw[HN.out];omega)] at this
       exact this
      have ER2:=ER.out
      rw[FR] at ER2
      have FF:Hid (PoR w w0 F0 p (M:Int) r (.returned (.tuple #[.pointer (some ⟨b,0,none⟩),.int .i64 0])) wr):=by
       rw[←ER2]
       exact⟨q,b,rfl,rfl,J.out.2.2.trans T3.out.2.2.1 T3.out.2.2.2⟩
      clear J ER2 FR z2 n2 f2
      go_wp2
      go_ret2
      exact FF.out
   ·have h0':oe≠0:=h0
    have HR2:=HR.out
    rw[if_pos h0'] at HR2
    have FF:Hid (PoR w w0 F0 p (M:Int) r (.returned (.tuple #[.pointer none,.int .i64 oe])) w1):=por_no HR2.symm ⟨F1,dl,nx,bf⟩
    clear HR HR2 dl nx bf OK h0
    go_wp2
    go_ret2
    exact FF.out
end Go.Proofs.YtdcimnmebgkmjaaGreatDoor
namespace Go.Proofs.YtdcimnmebgkmjaaGreatDoor
open Go.RowKit Go.Proofs.Fd Go.Proofs.Dk Go.Proofs.Lg
set_option maxRecDepth 20000
structure Clo (P:Bs→Prop):Prop where
 zr:P (zr 64)
 mix:∀{p:Nat} {a b:Bs},P a→P b→a.length=64→P (mix p a b)
theorem getD_mix {p i:Nat} {a b:Bs} (la:a.length=64) (hi:i < 64):(mix p a b).getD i 0=if i < p then a.getD i 0 else b.getD i 0:=by
 unfold mix
 by_cases hp:i < p
 ·rw[if_pos hp,List.getD_eq_getElem?_getD,List.getD_eq_getElem?_getD,List.getElem?_append_left (by rw[List.length_take];omega),List.getElem?_take_of_lt hp]
 ·rw[if_neg hp,List.getD_eq_getElem?_getD,List.getD_eq_getElem?_getD,List.getElem?_append_right (by rw[List.length_take];omega),List.length_take,List.getElem?_drop,show p+(i - min p a.length)=i by omega]
def Hd4 (b:Bs):Prop:=(b.getD 4 0).toNat < 128
theorem hd4_hd {g:Nat} (h:g≤2147483647):Hd4 (hd g):=by
 have e:hd g=[76,79,71,0]++(ben g 4++(hm g++zr ((64 - (hf g++hm g).length % 64) % 64))):=by simp[hd,pdd,hf]
 unfold Hd4
 rw[e,rben4]
 show (UInt8.ofNat (g / 16777216)).toNat < 128
 rw[UInt8.toNat_ofNat']
 omega
theorem cl4:Clo Hd4:=by
 refine⟨by unfold Hd4 Lg.zr;decide,fun {p a b} ha hb la => ?_⟩
 unfold Hd4 at *
 rw[getD_mix la (by decide)]
 split
 ·exact ha
 ·exact hb
def Hd7 (N:Nat) (b:Bs):Prop:=b.getD 4 0=0∧b.getD 5 0=0∧b.getD 6 0=0∧(b.getD 7 0).toNat≤N
theorem Hd7.mono {N M:Nat} (h:N≤M) {b:Bs} (k:Hd7 N b):Hd7 M b:=⟨k.1,k.2.1,k.2.2.1,Nat.le_trans k.2.2.2 h⟩
def Bg (n k:Nat):Prop:=k=0∨k=n / 2
structure Hp (P:Bs→Prop) (s:St):Prop where
 f:∀k,Bg s.n k→P (s.f k)
 l:∀x∈s.l,Bg s.n x.k→P x.b
theorem Hp.imp {P Q:Bs→Prop} {s:St} (h:Hp P s) (k:∀b,P b→Q b):Hp Q s:=⟨fun i hi=>k _ (h.f i hi),fun x hx hb=>k _ (h.l x hx hb)⟩
abbrev Hh (s:St):Prop:=Hp Hd4 s
section
variable {P:Bs→Prop}
theorem lay_hp:∀(l:List Wt) (f:Nat→Bs) (k:Nat),P (f k)→(∀x∈l,x.k=k→P x.b)→P (lay f l k)
 | [],_,_,h,_=>h
 | x::l,f,k,h,hl=>by
  refine lay_hp l _ k ?_ (fun y hy=>hl y (List.mem_cons_of_mem _ hy))
  unfold upd
  split
  ·rename_i e
   exact hl x (List.mem_cons_self ..) e.symm
  ·exact h
theorem Hp.sh {s:St} (h:Hp P s) {k:Nat} (hk:Bg s.n k):P (s.sh k):=lay_hp _ _ k (h.f k hk) (fun x hx e=>h.l x hx (by rw[e];exact hk))
theorem tear_hp (cl:Clo P) (ps:List Int):∀(l:List Wt) (f:Nat→Bs) (i k:Nat),(∀k,(f k).length=64)→(∀x∈l,x.b.length=64)→P (f k)→(∀x∈l,x.k=k→P x.b)→P (tear ps f l i k)
 | [],_,_,_,_,_,h,_=>h
 | x::l,f,i,k,hf,hl,h,hk=>by
  refine tear_hp cl ps l _ _ k (upd_64 hf _ (mix_len (pkAt_lt ps i) (hl x (List.mem_cons_self ..)) (hf _))) (fun y hy=>hl y (List.mem_cons_of_mem _ hy)) ?_ (fun y hy=>hk y (List.mem_cons_of_mem _ hy))
  unfold upd
  split
  ·rename_i e
   rw[←e]
   exact cl.mix (hk x (List.mem_cons_self ..) e.symm) h (hl x (List.mem_cons_self ..))
  ·exact h
theorem Hp.crash (cl:Clo P) {s:St} (h:Hp P s) (ok:Ok s) (ps:List Int):Hp P (crS s ps) :=
 ⟨fun k hk=>tear_hp cl ps s.l s.f 0 k ok.f64 (fun x hx=>(ok.wk x hx).2) (h.f k hk) (fun x hx e=>h.l x hx (by rw[e];exact hk)),nofun⟩
theorem Hp.fuse {s:St} (h:Hp P s) (n:Int):Hp P (fuS s n):=by
 unfold fuS
 split
 ·exact h
 ·split
  ·exact h
  ·exact⟨h.f,h.l⟩
theorem Hp.sync {s:St} (h:Hp P s):Hp P (syS s):=by
 unfold syS
 split
 ·exact h
 ·split
  ·exact⟨h.f,h.l⟩
  ·exact⟨fun k hk=>h.sh hk,nofun⟩
theorem Hp.write {s:St} (h:Hp P s) (k:Nat) (b:Bs) (hb:Bg s.n k→P b):Hp P (wrS s (k:Int) b):=by
 unfold wrS
 split
 ·exact h
 ·split
  ·exact h
  ·split
   ·exact⟨h.f,h.l⟩
   ·refine⟨h.f,fun x hx hx2 => ?_⟩
    rcases List.mem_append.1 hx with hx|hx
    ·exact h.l x hx hx2
    ·rw[List.mem_singleton] at hx
     subst hx
     rw[Int.toNat_natCast] at hx2
     exact hb hx2
theorem Hp.thn {z:Int×St} {f:St→Int×St} (h:Hp P z.2) (hf:∀s,Hp P s→s.n=z.2.n→Hp P (f s).2):Hp P (thn z f).2:=by
 by_cases h0:z.1=0
 ·rw[thn_ok h0];exact hf _ h rfl
 ·rw[thn_no h0];exact h
theorem Hp.wrs:∀(bs:List Bs) (s:St) (k:Nat),Hp P s→(∀j,j < bs.length→¬Bg s.n (k+j))→Hp P (wrs s k bs).2
 | [],_,_,h,_=>h
 | b::bs,s,k,h,hk=>by
  rw[Lg.wrs]
  refine Hp.thn (z:=(wrE s (k:Int) b,wrS s (k:Int) b)) (h.write k b (fun c=>absurd c (hk 0 (by simp)))) (fun s' h' hn => ?_)
  have hn':s'.n=s.n:=hn.trans (wrS_n s _ b)
  exact Hp.wrs bs s' (k+1) h' (fun j hj=>by rw[hn',show k+1+j=k+(j+1) by omega];exact hk (j+1) (by simpa using hj))
theorem Hp.wrb {s:St} (h:Hp P s) (k:Nat) (b:Bs) (hk:∀j,j < b.length / 64→¬Bg s.n (k+j)):Hp P (wrb s k b).2:=Hp.wrs _ s k h (fun j hj=>hk j (by rw[chs_len] at hj;exact hj))
theorem Hp.cls (cl:Clo P):∀(m:Nat) (s:St) (k:Nat) (d:Bool),Hp P s→Hp P (cls s k m d).2
 | 0,s,k,d,h=>by
  rw[Lg.cls]
  split
  ·exact h.sync
  ·exact h
 | m+1,s,k,d,h=>by
  rw[Lg.cls]
  split
  ·exact Hp.cls cl m s _ d h
  ·exact Hp.thn (z:=(wrE s (k:Int) (Lg.zr 64),wrS s (k:Int) (Lg.zr 64))) (h.write k _ (fun _=>cl.zr)) (fun s' h' _=>Hp.cls cl m s' _ true h')
theorem Hp.cln (cl:Clo P) {s:St} (h:Hp P s) (k m:Nat):Hp P (cln s k m).2:=by
 unfold Lg.cln
 split
 ·exact h
 ·exact Hp.cls cl m s k false h
theorem half_in {n h tk m j:Nat} (hh:h≤1) (h1:1≤tk) (h2:tk+m≤n / 2) (hj:j < m):¬Bg n (h*(n / 2)+tk+j):=by
 unfold Bg
 rcases (by omega:h=0∨h=1) with rfl|rfl
 ·rw[Nat.zero_mul];omega
 ·rw[Nat.one_mul];omega
theorem Hp.pts {h:Nat} (hh:h≤1):∀(l:List Bs) (s:St) (tk:Nat) (a:Bs),Hp P s→1≤tk→tk+sns l≤s.n / 2→Hp P (pts s (h*(s.n / 2)) tk a l).2
 | [],_,_,_,k,_,_=>k
 | t::l,s,tk,a,k,h1,h2=>by
  have h2':tk+(sn t+sns l)≤s.n / 2:=h2
  rw[Lg.pts]
  refine Hp.thn (k.wrb _ _ (fun j hj=>half_in hh h1 (show tk+sn t≤s.n / 2 by omega) (by rw[rcd_len] at hj;omega))) (fun s' k' hn => ?_)
  have hn':s'.n=s.n:=hn.trans (wrb_n s _ _)
  have:=Hp.pts hh l s' (tk+sn t) (rmk a t) k' (by omega) (by rw[hn'];omega)
  rw[hn'] at this
  exact this
theorem Hp.bgn (cl:Clo P) {s:St} (k:Hp P s) {h g:Nat} (hh:h≤1) (hg:P (hd g)) (ts:List Bs) (hs:1+sns ts≤s.n / 2):Hp P (bgn s (h*(s.n / 2)) (s.n / 2) g ts).2:=by
 unfold Lg.bgn
 refine Hp.thn (k.cln cl _ _) (fun s1 k1 n1 => ?_)
 have n1':s1.n=s.n:=n1.trans (cln_n _ _ _)
 have p1:=Hp.pts hh ts s1 1 (hm g) k1 (Nat.le_refl _) (by rw[n1'];exact hs)
 rw[n1'] at p1
 refine Hp.thn p1 (fun s2 k2 n2 => ?_)
 refine Hp.thn (z:=(syE s2,syS s2)) k2.sync (fun s3 k3 n3 => ?_)
 have e1:=wrb_one s3 (h*(s.n / 2)) (hd g) (hd_len g)
 rw[e1]
 refine Hp.thn (z:=(wrE s3 ((h*(s.n / 2):Nat):Int) (hd g),wrS s3 ((h*(s.n / 2):Nat):Int) (hd g))) (k3.write _ _ (fun _=>hg)) (fun s4 k4 _=>k4.sync)
theorem Hp.app {s:St} (k:Hp P s) {x:Lo} (hh:x.h≤1) (t:Bs):Hp P (app s x t).1.2:=by
 unfold Lg.app
 split
 ·exact k
 ·split
  ·exact k
  ·rename_i h2
   have h1:1≤x.tk:=tkn_ge x.ts 1
   exact k.wrb _ _ (fun j hj=>half_in hh h1 (show x.tk+sn t≤s.n / 2 by omega) (by rw[rcd_len] at hj;omega))
theorem Hp.cmp (cl:Clo P) {s:St} (k:Hp P s) {x:Lo} (hg:x.g < 2147483647→P (hd (x.g+1))) (hh:x.h≤1) (hn:4≤s.n) (ts:List Bs):Hp P (cmp s x ts).1.2:=by
 unfold Lg.cmp
 split
 ·exact k
 ·split
  ·exact k
  ·rename_i h2
   split
   ·exact k
   ·rename_i h3
    exact k.bgn cl (by omega) (hg (by omega)) ts (by omega)
end
theorem gen_same {s:St} (ok:Ok s) {k:Nat} {H:Nat} (hH:1≤H):genr (s.sh k)=gen (hb s k H):=by
 have l64:=ok.sh64 k
 obtain⟨m,rfl⟩:∃m,H=1+m:=⟨H - 1,by omega⟩
 have e1:hb s k 1=s.sh k:=by simp[hb]
 rw[hb_app,e1]
 obtain⟨b,hbb⟩:∃b,s.sh k=b:=⟨_,rfl⟩
 rw[hbb] at l64 ⊢
 obtain⟨r,hr⟩:∃r,hb s (k+1) m=r:=⟨_,rfl⟩
 rw[hr]
 have e4:((b++r).drop 4).take 4=(b.drop 4).take 4:=by
  rw[List.drop_append_of_le_length (by omega),List.take_append_of_le_length (by rw[List.length_drop];omega)]
 unfold gen genr
 rw[e4]
 obtain⟨n,hnn⟩:∃n,nm ((b.drop 4).take 4)=n:=⟨_,rfl⟩
 rw[hnn]
 have hp:(hd n).isPrefixOf (b++r)=true↔b=hd n:=by
  rw[List.isPrefixOf_iff_prefix]
  constructor
  ·rintro ⟨t,ht⟩
   have:=congrArg (List.take 64) ht
   rw[List.take_left' (hd_len n),List.take_left' l64] at this
   exact this.symm
  ·intro e
   rw[e]
   exact List.prefix_append _ _
 by_cases hb2:b=hd n
 ·by_cases hn:n≤2147483647
  ·by_cases h0:n < 1
   ·rw[if_pos (.inl h0),if_pos ⟨hn,hp.2 hb2⟩]
    omega
   ·rw[if_neg (by rintro (c|c|c);omega;omega;exact c hb2),if_pos ⟨hn,hp.2 hb2⟩]
  ·rw[if_pos (.inr (.inl (by omega))),if_neg (fun c=>hn c.1)]
 ·rw[if_pos (.inr (.inr hb2)),if_neg (fun c=>hb2 (hp.1 c.2))]
theorem opn_same {s:St} (ok:Ok s):opnr s=opn s:=by
 unfold opnr opn
 by_cases h1:s.n / 2 < 2
 ·rw[if_pos h1,if_pos h1]
 ·rw[if_neg h1,if_neg h1]
  have e0:=gen_same ok (k:=0) (H:=s.n / 2) (by omega)
  have eH:=gen_same ok (k:=s.n / 2) (H:=s.n / 2) (by omega)
  have eu:user s=use s:=by
   unfold user use
   rw[e0,eH]
  rw[eu]
theorem Hp.opn {P:Bs→Prop} (cl:Clo P) (hg:P (hd 1)) {s:St} (h:Hp P s):Hp P (opn s).1.2:=by
 unfold Lg.opn
 by_cases h1:s.n / 2 < 2
 ·rw[if_pos h1];exact h
 ·rw[if_neg h1]
  by_cases h2:s.down=true
  ·rw[if_pos h2];exact h
  ·rw[if_neg h2]
   by_cases h3:(use s).2=0
   ·rw[if_pos h3]
    have:=h.bgn cl (h:=0) (g:=1) (by decide) hg [] (by show 1+0≤_;omega)
    rw[Nat.zero_mul] at this
    exact this
   ·rw[if_neg h3]
    exact h.cln cl _ _
theorem cmp_h {s:St} {x:Lo} (hh:x.h≤1) (ts:List Bs):(cmp s x ts).2.h≤1:=by
 unfold cmp
 by_cases h1:mays ts≠0
 ·rw[if_pos h1];exact hh
 ·rw[if_neg h1]
  by_cases h2:s.n / 2 - 1 < sns ts
  ·rw[if_pos h2];exact hh
  ·rw[if_neg h2]
   by_cases h3:2147483647≤x.g
   ·rw[if_pos h3];exact hh
   ·rw[if_neg h3]
    show (if (bgn s ((1 - x.h)*(s.n / 2)) (s.n / 2) (x.g+1) ts).1=0 then (⟨1 - x.h,x.g+1,ts⟩:Lo) else x).h≤1
    by_cases h4:(bgn s ((1 - x.h)*(s.n / 2)) (s.n / 2) (x.g+1) ts).1=0
    ·rw[if_pos h4];show 1 - x.h≤1;omega
    ·rw[if_neg h4];exact hh
structure Kp (s s':St) (m:Nat):Prop where
 n:s'.n=s.n
 h:Hh s→Hh s'
 l:s'.l.length≤s.l.length+m
theorem Kp.refl (s:St) (m:Nat):Kp s s m:=⟨rfl,id,Nat.le_add_right _ _⟩
theorem kp_app {s:St} {x:Lo} (hh:x.h≤1) (t:Bs):Kp s (app s x t).1.2 40:=⟨(app_len s x t).2,fun k=>k.app hh t,(app_len s x t).1⟩
theorem kp_cmp {s:St} {x:Lo} (hh:x.h≤1) (hn:4≤s.n) (ts:List Bs):Kp s (cmp s x ts).1.2 (s.n+1):=⟨(cmp_len s x ts).2,fun k=>k.cmp cl4 (fun c=>hd4_hd (by omega)) hh hn ts,by have:=(cmp_len s x ts).1;omega⟩
theorem kp_sync (s:St):Kp s (syS s) 0:=⟨syS_n s,fun k=>k.sync,syS_len s⟩
theorem Kp.trans {a b c:St} {m k:Nat} (h:Kp a b m) (j:Kp b c k):Kp a c (m+k):=⟨j.n.trans h.n,fun z=>j.h (h.h z),by have:=h.l;have:=j.l;omega⟩
theorem Kp.mono {a b:St} {m k:Nat} (h:Kp a b m) (hm:m≤k):Kp a b k:=⟨h.n,h.h,by have:=h.l;omega⟩
theorem kp_opn {s:St} (_ok:Ok s):Kp s (opn s).1.2 (2*s.n+2):=by
 refine⟨?_,fun k=>k.opn cl4 (hd4_hd (by decide)),?_⟩
 ·unfold opn
  by_cases h1:s.n / 2 < 2
  ·rw[if_pos h1]
  ·rw[if_neg h1]
   by_cases h2:s.down=true
   ·rw[if_pos h2]
   ·rw[if_neg h2]
    by_cases h3:(use s).2=0
    ·rw[if_pos h3];exact bgn_n _ _ _ _ _
    ·rw[if_neg h3];exact cln_n _ _ _
 ·unfold opn
  by_cases h1:s.n / 2 < 2
  ·rw[if_pos h1];show s.l.length≤_;omega
  ·rw[if_neg h1]
   by_cases h2:s.down=true
   ·rw[if_pos h2];show s.l.length≤_;omega
   ·rw[if_neg h2]
    by_cases h3:(use s).2=0
    ·rw[if_pos h3]
     have:=bgn_len s 0 (s.n / 2) 1 []
     have e:sns ([]:List Bs)=0:=rfl
     rw[e] at this
     show (bgn s 0 (s.n / 2) 1 []).2.l.length≤_
     omega
    ·rw[if_neg h3]
     have:=cln_len s ((use s).1*(s.n / 2)+tkn 1 (recs s ((use s).1*(s.n / 2)) (s.n / 2) (use s).2)) (s.n / 2 - tkn 1 (recs s ((use s).1*(s.n / 2)) (s.n / 2) (use s).2))
     show (cln s _ _).2.l.length≤_
     omega
theorem kp_crash {s:St} (ok:Ok s) (ps:List Int):Kp s (crS s ps) 0:=⟨rfl,fun k=>k.crash cl4 ok ps,Nat.zero_le _⟩
theorem kp_fuse (s:St) (n:Int):Kp s (fuS s n) 0:=by
 refine⟨?_,fun k=>k.fuse n,?_⟩
 ·unfold fuS
  split
  ·rfl
  ·split <;> rfl
 ·unfold fuS
  split
  ·exact Nat.le_refl _
  ·split
   ·exact Nat.le_refl _
   ·exact Nat.le_refl _
theorem hh_init (n:Nat):Hh (St.init n):=⟨fun _ _=>cl4.zr,nofun⟩
end Go.Proofs.YtdcimnmebgkmjaaGreatDoor
namespace Go.Proofs.YtdcimnmebgkmjaaGreatDoor
open Go.RowKit Go.Proofs.Fd Go.Proofs.Dk Go.Proofs.Lg
set_option maxRecDepth 20000
theorem kp_wrA {s:St} {x:Lo} (hh:x.h≤1) (hn:4≤s.n) (sh:List Bs) (r:Bs):Kp s (wrA s x sh r).1.2 (s.n+41):=by
 unfold wrA
 by_cases h1:(app s x r).1.1=151
 ·rw[if_pos h1]
  by_cases h2:(cmp s x sh).1.1=0
  ·rw[if_pos h2]
   exact ((kp_cmp hh hn sh).trans (kp_app (cmp_h hh sh) r)).mono (by omega)
  ·rw[if_neg h2]
   exact (kp_cmp hh hn sh).mono (by omega)
 ·rw[if_neg h1]
  exact (kp_app hh r).mono (by omega)
theorem kp_wrp {s:St} {x:Lo} (hh:x.h≤1) (hn:4≤s.n) (sh:List Bs) (r:Bs):Kp s (wrp s x sh r).1.2 (s.n+41):=by
 unfold wrp
 by_cases h1:(wrA s x sh r).1.1≠0
 ·rw[if_pos h1];exact kp_wrA hh hn sh r
 ·rw[if_neg h1]
  exact ((kp_wrA hh hn sh r).trans (kp_sync _)).mono (by omega)
theorem kp_adp {most:Nat} {s:St} {x:Lo} (hh:x.h≤1) (hn:4≤s.n) (y:Ey) (t:Bs):Kp s (adp most s x y t).1.1.2 (s.n+41):=by
 unfold adp
 split
 ·exact Kp.refl _ _
 ·split
  ·exact Kp.refl _ _
  ·split
   ·exact Kp.refl _ _
   ·exact kp_wrp hh hn _ _
theorem kp_rop {s:St} {x:Lo} (hh:x.h≤1) (hn:4≤s.n) (y:Ey):Kp s (rop s x y).1.1.2 (s.n+41):=by
 unfold rop
 split
 ·exact Kp.refl _ _
 ·exact kp_wrp hh hn _ _
theorem gn_adp {n most:Nat} {s:St} {x:Lo} {y:Ey} (g:Gn n y) (t:Bs):Gn (n+1) (adp most s x y t).2:=by
 have up:Gn (n+1) y:=⟨g.e,g.z,g.t,by have:=g.n;omega⟩
 unfold adp
 by_cases h1:t.length≠16
 ·rw[if_pos h1];exact up
 ·rw[if_neg h1]
  by_cases h2:t∈y.2.1++y.2.2
  ·rw[if_pos h2];exact up
  ·rw[if_neg h2]
   by_cases h3:most≤y.2.1.length+y.2.2.length
   ·rw[if_pos h3];exact up
   ·rw[if_neg h3]
    show Gn (n+1) (if (wrp s x (sht y.1 y.2.1 y.2.2) (84::t)).1.1=0 then (y.1,y.2.1,y.2.2++[t]) else y)
    by_cases h4:(wrp s x (sht y.1 y.2.1 y.2.2) (84::t)).1.1=0
    ·rw[if_pos h4]
     refine⟨g.e,g.z,fun u hu => ?_,?_⟩
     ·have hu':u∈y.2.1++(y.2.2++[t]):=hu
      rw[←List.append_assoc] at hu'
      rcases List.mem_append.1 hu' with hu'|hu'
      ·exact g.t u hu'
      ·rw[List.mem_singleton] at hu'
       subst hu'
       omega
     ·show y.2.1.length+(y.2.2++[t]).length≤n+1
      have:=g.n
      rw[List.length_append,List.length_singleton]
      omega
    ·rw[if_neg h4];exact up
theorem gn_rop {n:Nat} {s:St} {x:Lo} {y:Ey} (g:Gn n y):Gn (n+1) (rop s x y).2:=by
 have up:Gn (n+1) y:=⟨g.e,g.z,g.t,by have:=g.n;omega⟩
 unfold rop
 by_cases h1:2147483647≤y.1
 ·rw[if_pos h1];exact up
 ·rw[if_neg h1]
  show Gn (n+1) (if (wrp s x (sht y.1 y.2.1 y.2.2) (69::ben (y.1+1) 4)).1.1=0 then (y.1+1,y.2.2,[]) else y)
  by_cases h4:(wrp s x (sht y.1 y.2.1 y.2.2) (69::ben (y.1+1) 4)).1.1=0
  ·rw[if_pos h4]
   exact⟨by show y.1+1≤_;omega,fun e=>absurd (show y.1+1=0 from e) (by omega),fun u hu=>g.t u (List.mem_append_right _ (by simpa using hu)),by show y.2.2.length+0≤_;have:=g.n;omega⟩
  ·rw[if_neg h4];exact up
theorem kp_opz {s:St} (ok:Ok s) (most:Int):Kp s (opz most s (opn s)).1.2 (2*s.n+2):=by
 unfold opz
 split
 ·exact Kp.refl _ _
 ·split
  ·exact kp_opn ok
  ·split
   ·exact kp_opn ok
   ·exact kp_opn ok
theorem gn_opz {s:St} {most:Int} {x:Lo} {y:Ey} (h:(opz most s (opn s)).2=some (x,y)):Gn x.ts.length y∧x=(opn s).2∧(opn s).1.1=0:=by
 unfold opz at h
 by_cases h1:most < 1∨4096 < most
 ·rw[if_pos h1] at h;cases h
 ·rw[if_neg h1] at h
  by_cases h2:(opn s).1.1≠0
  ·rw[if_pos h2] at h;cases h
  ·rw[if_neg h2] at h
   cases h3:tks (0,[],[]) (opn s).2.ts with
   | none=>rw[h3] at h;cases h
   | some z =>
    rw[h3] at h
    injection h with h
    injection h with e1 e2
    subst e1
    subst e2
    have:=tks_gn _ 0 _ _ Gn.start h3
    rw[Nat.zero_add] at this
    exact⟨this,rfl,by simpa using h2⟩
end Go.Proofs.YtdcimnmebgkmjaaGreatDoor
