/- Boxes of the program: Open. -/
import Derived.Test.YtjpaodepnacimaaGreatDoorZdG26
namespace Go.Proofs.YtjpaodepnacimaaGreatDoor
open Go.RowKit Go.Proofs.Fd Go.Proofs.Dk Go.Proofs.Lg Go.Proofs.Bx
set_option maxRecDepth 20000
theorem build_bx (w:World) (q M:Nat):(Instr.build 88 #[(0,.pointer (some ⟨q,0,none⟩)),(2,.int .i64 (M:Int))]).run Tryz.prog w = .ok (.agg (bxc q zsh M).toArray) w:=by kernel_rfl
theorem box_bx (w:World) (l:List Value):(Instr.box 88 (.agg l.toArray)).run Tryz.prog w = .ok (.pointer (some ⟨w.heap.size,0,none⟩)) (w.alloc (.cells l.toArray 88)):=by
 simp[Instr.box,newVar,newRow,Value.cells]
theorem wp_box_run {P:Program} {o:Oper} {a:Act} {w:World} {K:Act→World→Prop} {Q:Exit→Act→World→Prop} (t:TypeId) (x:Operand) (ho:o.op = .box t x) (u:Value) (hu:a.eval x=u) (v:Value) (w':World) (hr:(Instr.box t u).run P w = .ok v w') (h:K (a.put o.dst v) w'):o.wp P a w K Q:=by
 unfold Oper.wp execOp
 simp only[ho,hu,Sem.run_bind,hr,Result.andThen_ok]
 exact h
def XoR (w w0:World) (F0:Nat→Prop) (p:Nat) (quota:Int) (r:(Int×St)×Option (Lo×Bxs)) (e:Ending) (w':World):Prop :=
 match r.2 with
 | none=>e = .returned (.tuple #[.pointer none,.int .i64 r.1.1])∧Ds w w0 p F0 r.1.2 w'
 | some (x,y)=>∃q b,e = .returned (.tuple #[.pointer (some ⟨b,0,none⟩),.int .i64 0])∧r.1.1=0∧PyP w w0 F0 p q b quota.toNat r.1.2 x y w'
theorem xor_no {w w0:World} {F0:Nat→Prop} {p:Nat} {quota:Int} {r:(Int×St)×Option (Lo×Bxs)} {z:Int} {s:St} {w':World} (h:r=((z,s),none)) (k:Ds w w0 p F0 s w'):XoR w w0 F0 p quota r (.returned (.tuple #[.pointer none,.int .i64 z])) w':=by
 subst h
 exact⟨rfl,k⟩
theorem PyP.ds {w w0:World} {F0:Nat→Prop} {p q b quota:Nat} {s:St} {x:Lo} {y:Bxs} {w1:World} (k:PyP w w0 F0 p q b quota s x y w1):Ds w w0 p F0 s w1:=by
 obtain⟨F,v,vs,z,n,f⟩:=k
 exact⟨F,z.lz.hd_.dl,fun y hy=>n y (.inl (.inl hy)),f⟩
theorem lf_zero {z:Nat} (h:LF zsh z):False:=((bvs_zero (fun _=>False) (default:World)).lf h).1
theorem py_new {w w0 w1:World} {p q:Nat} {F0 F1:Nat→Prop} {s:St} {v:Value} {x:Lo} (M:Nat) (z:Lz w w1 p F1 s q v x) (nx:Nx w0 F0 F1) (bf:Bf F0 w0 w1) (hnew:∀z,HFt q v z→w0.heap.size≤z) :
  Py w (w1.alloc (.cells (bxc q zsh M).toArray 88)) p F1 s q v x w1.heap.size M zsh (fun _=>[])∧Nx w0 F0 (FB F1 q v w1.heap.size zsh)∧Bf F0 w0 (w1.alloc (.cells (bxc q zsh M).toArray 88)):=by
 refine⟨⟨z.later (nb _ _),Blk.new w1 (bxc q zsh M) _ (by unfold bxc;simp),bvs_zero _ _,fun g c=>(lf_zero c).elim,fun c=>Nat.lt_irrefl _ (z.fh c).1,z.hd_.dl.below.size⟩,fun g hg => ?_,bf.later (nb _ _)⟩
 rcases hg with (e|e)|e|e
 ·exact nx g e
 ·exact .inr (hnew g e)
 ·rw[e];exact .inr bf.size
 ·exact (lf_zero e).elim
theorem py_done {w w0 D W:World} {F0 F:Nat→Prop} {p q b M P:Nat} {s:St} {v:Value} {x:Lo} {us:List Value} {c:Bxs} (k:Py w D p F s q v x b M zsh (fun _=>[])) (n:Nx w0 F0 (FB F q v b zsh)) (f:Bf F0 w0 D) (h:Below D.heap.size D W) (hP:D.heap.size≤P) (bk:Blk W P zsh) (hv:Bvs (fun z=>D.heap.size≤z∧z≠P) W us c) :
  (Instr.storeAt 86 (.pointer (some ⟨P,0,none⟩)) (.agg us.toArray)).run Tryz.prog W = .ok () (W.setCells P 0 us)∧Below D.heap.size D (W.setCells P 0 us)∧Hid (Ds w w0 p F0 s (W.setCells P 0 us)∧(Instr.loadAt 86 (.pointer (some ⟨P,0,none⟩))).run Tryz.prog (W.setCells P 0 us) = .ok (.agg us.toArray) (W.setCells P 0 us)∧(Instr.storeAt 86 (.pointer (some ⟨b,1,none⟩)) (.agg us.toArray)).run Tryz.prog (W.setCells P 0 us) = .ok () ((W.setCells P 0 us).setCells b 1 us)∧PyP w w0 F0 p q b M s x c ((W.setCells P 0 us).setCells b 1 us)):=by
 have hln:=hv.ln
 have ht:W.there P 0 64:=by have:=bk.there;rw[zsh_len] at this;exact this
 have bf:Bf (fun z=>z=P) W (W.setCells P 0 us):=Bf.sets (fun z=>z=P) P rfl us 0 W
 have hb:Below D.heap.size D (W.setCells P 0 us):=h.trans (bf.below (fun g e=>by rw[e];exact hP) h.size)
 have k2:=k.later hb
 have hv2:=hv.bf bf (fun z hz e=>hz.2 e)
 have hm:=k2.bk.mid.2
 rw[zsh_len] at hm
 refine⟨store_sh ht hln hv.one,hb,PyP.ds ⟨F,v,zsh,k2,n,f.later hb⟩,load_sh (World.rangeAt_setCells_same W _ 0 us (by rw[hln];exact ht)) hln,store_sh hm hln hv.one,k2.set hv2 (fun z hz _=>⟨.inr ?_,fun c => ?_,fun c => ?_,?_⟩) n (f.later hb)⟩
 ·have:=f.size;omega
 ·have:=(k.lz.fh c).1;omega
 ·have:=k.bk.lt;omega
 ·have:=k.bk.lt;have:=k.nb.2;omega
def opon0:Oper:={ dst:=some 30,op:=Go.Op.move (Go.Operand.tmp 8),type := 32, pos := "boxes.go:32", after:=#[],guard:=none }
def opon1:Oper:={ dst:=some 31,op:=Go.Op.nilCheck (Go.Operand.tmp 30),type:=0,pos := "boxes.go:32", after:=#[{ on:=0,ground:=Go.Ground.data }],guard:=none }
def opon2:Oper:={ dst:=some 32,op:=Go.Op.fieldAddr 88 (Go.Operand.tmp 31) 1,type:=0,pos := "boxes.go:32", after:=#[{ on:=1,ground:=Go.Ground.data }],guard:=none }
def opon3:Oper:={ dst:=some 33,op:=Go.Op.load 86 (Go.Operand.tmp 32),type := 86, pos := "boxes.go:32", after:=#[{ on:=2,ground:=Go.Ground.data }],guard:=none }
def opon4:Oper:={ dst:=some 34,op:=Go.Op.move (Go.Operand.tmp 8),type := 32, pos := "boxes.go:32", after:=#[],guard:=none }
def opon5:Oper:={ dst:=some 35,op:=Go.Op.nilCheck (Go.Operand.tmp 34),type:=0,pos := "boxes.go:32", after:=#[{ on:=4,ground:=Go.Ground.data }],guard:=none }
def opon6:Oper:={ dst:=some 36,op:=Go.Op.fieldAddr 88 (Go.Operand.tmp 35) 0,type:=0,pos := "boxes.go:32", after:=#[{ on:=5,ground:=Go.Ground.data }],guard:=none }
def opon7:Oper:={ dst:=some 37,op:=Go.Op.load 84 (Go.Operand.tmp 36),type := 84, pos := "boxes.go:32", after:=#[{ on:=6,ground:=Go.Ground.data }],guard:=none }
def opon8:Oper:={ dst:=some 38,op:=Go.Op.call { callee:=Go.Callee.value (Go.Operand.func 37),args:=#[Go.Operand.tmp 37],argTypes:=#[84] },type := 37, pos := "boxes.go:32", after:=#[{ on:=7,ground:=Go.Ground.data }],guard:=none }
def opon9:Oper:={ dst:=some 39,op:=Go.Op.call { callee:=Go.Callee.value (Go.Operand.func 36),args:=#[Go.Operand.tmp 33,Go.Operand.tmp 38],argTypes:=#[86, 37] },type := 101, pos := "boxes.go:32", after:=#[{ on:=3,ground:=Go.Ground.data },{ on:=8,ground:=Go.Ground.data },{ on:=8,ground:=Go.Ground.chain }],guard:=none }
def opon10:Oper:={ dst:=some 29,op:=Go.Op.move (Go.Operand.tmp 39),type := 101, pos := "boxes.go:32", after:=#[{ on:=9,ground:=Go.Ground.data }],guard:=none }
def opon11:Oper:={ dst:=some 40,op:=Go.Op.extract (Go.Operand.tmp 29) 0,type := 86, pos := "boxes.go:32", after:=#[{ on:=10,ground:=Go.Ground.data }],guard:=none }
def opon12:Oper:={ dst:=some 41,op:=Go.Op.extract (Go.Operand.tmp 29) 1,type := 4, pos := "boxes.go:32", after:=#[{ on:=10,ground:=Go.Ground.data },{ on:=14,ground:=Go.Ground.gcOnly Go.Departure.lateStores }],guard:=none }
def opon13:Oper:={ dst:=some 9,op:=Go.Op.alloc 86, type:=0,pos := "boxes.go:32", after:=#[],guard:=none }
def opon14:Oper:={ dst:=none,op:=Go.Op.store 86 (Go.Operand.tmp 9) (Go.Operand.tmp 40),type:=0,pos := "boxes.go:32", after:=#[{ on:=13,ground:=Go.Ground.data },{ on:=11,ground:=Go.Ground.data },{ on:=9,ground:=Go.Ground.chain },{ on:=0,ground:=Go.Ground.phase },{ on:=1,ground:=Go.Ground.phase },{ on:=2,ground:=Go.Ground.phase },{ on:=3,ground:=Go.Ground.phase },{ on:=4,ground:=Go.Ground.phase },{ on:=5,ground:=Go.Ground.phase },{ on:=6,ground:=Go.Ground.phase },{ on:=7,ground:=Go.Ground.phase },{ on:=8,ground:=Go.Ground.phase },{ on:=9,ground:=Go.Ground.phase },{ on:=10,ground:=Go.Ground.phase },{ on:=11,ground:=Go.Ground.phase },{ on:=12,ground:=Go.Ground.textOnly Go.Departure.lateStores },{ on:=13,ground:=Go.Ground.phase }],guard:=none }
def opon15:Oper:={ dst:=some 10,op:=Go.Op.assign (Go.Operand.tmp 41),type := 4, pos := "boxes.go:32", after:=#[{ on:=12,ground:=Go.Ground.data },{ on:=14,ground:=Go.Ground.chain },{ on:=0,ground:=Go.Ground.phase },{ on:=1,ground:=Go.Ground.phase },{ on:=2,ground:=Go.Ground.phase },{ on:=3,ground:=Go.Ground.phase },{ on:=4,ground:=Go.Ground.phase },{ on:=5,ground:=Go.Ground.phase },{ on:=6,ground:=Go.Ground.phase },{ on:=7,ground:=Go.Ground.phase },{ on:=8,ground:=Go.Ground.phase },{ on:=9,ground:=Go.Ground.phase },{ on:=10,ground:=Go.Ground.phase },{ on:=11,ground:=Go.Ground.phase },{ on:=12,ground:=Go.Ground.phase },{ on:=13,ground:=Go.Ground.phase },{ on:=14,ground:=Go.Ground.phase }],guard:=none }
set_option maxHeartbeats 8000000 in
theorem xopen_any (w w0:World) (p:Nat) (F0:Nat→Prop) (s:St) (quota:Int) (hn:s.n≤1024) (hl:s.l.length+5000≤1000000) (hk:Hid (Kh w)) (D:Hid (Dl w w0 p F0 s)) :
  Calls Tryz.prog 15 #[.pointer (some ⟨p,0,none⟩),.int .i64 quota] w0 fun e w'=>XoR w w0 F0 p quota (opX quota s (opn s)) e w':=by
 obtain⟨r,hr⟩:∃r,opX quota s (opn s)=r:=⟨_,rfl⟩
 rw[hr]
 unfold opX at hr
 by_cases h1:quota < 1
 ·rw[if_pos (.inl h1)] at hr
  have FF:Hid (XoR w w0 F0 p quota r (.returned (.tuple #[.pointer none,.int .i64 1])) w0):=xor_no hr.symm ⟨F0,D.out,Nx.refl _ _,Bf.refl _ _⟩
  clear hr D
  go_enter Tryz.func15, Tryz.ntmps15
  go_wp2
  go_ret2
  exact FF.out
 ·by_cases h2:256 < quota
  ·rw[if_pos (.inr h2)] at hr
   have FF:Hid (XoR w w0 F0 p quota r (.returned (.tuple #[.pointer none,.int .i64 1])) w0):=xor_no hr.symm ⟨F0,D.out,Nx.refl _ _,Bf.refl _ _⟩
   clear hr D
   go_enter Tryz.func15, Tryz.ntmps15
   go_wp2
   go_ret2
   exact FF.out
  ·rw[if_neg (by omega)] at hr
   have OP:Hid _:=lopen_all w w0 p F0 s (by omega) hk D
   have OK:Hid _:=fun (h:(opn s).1.1=0)=>opn_ok h D.out.at_.1
   obtain⟨⟨⟨oe,os⟩,ox⟩,ho⟩:∃o,opn s=o:=⟨_,rfl⟩
   rw[ho] at hr OP OK
   have hr':(if oe≠0 then ((oe,os),(none:Option (Lo×Bxs))) else match tksX (fun _=>[]) ox.ts with
    | none=>((160,os),none)
    | some y=>((0,os),some (ox,y)))=r:=hr
   have HR:Hid _:=hr'
   obtain⟨M,hM⟩:∃M:Nat,quota=(M:Int):=⟨quota.toNat,by omega⟩
   subst hM
   clear hr hr' ho D
   go_enter Tryz.func15, Tryz.ntmps15
   go_wp2_with fail
   refine Calls.mono OP.out ?_
   rintro e w1 ⟨F1,dl,nx,bf,hres⟩
   clear OP
   rcases hres with ⟨h0,q,v,rfl,hd,hnew⟩|⟨h0,rfl⟩
   ·have h0':oe=0:=h0
    obtain⟨o4,oh,on,otk,og,ook⟩:=OK.out h0
    have on':os.n=s.n:=on
    have HR2:=HR.out
    rw[if_neg (by rw[h0'];simp)] at HR2
    have ER:Hid _:=HR2
    have LZ:Lz w w1 p F1 os q v ox:=⟨by rw[on'];exact hd,oh,by rw[on'];exact o4,by rw[on'];exact hn,by rw[on'];exact otk,ook,og⟩
    have tl:=LZ.tlen
    obtain⟨PY,NX,BF⟩:=py_new M LZ nx bf hnew
    have BX:Hid _:=box_bx w1 (bxc q zsh M)
    have BU:Hid (∀W:World,_):=fun W:World=>build_bx W q M
    obtain⟨D,hD⟩:∃D,w1.alloc (.cells (bxc q zsh M).toArray 88)=D:=⟨_,rfl⟩
    obtain⟨b,hb⟩:∃b,w1.heap.size=b:=⟨_,rfl⟩
    rw[hD] at PY BF BX
    rw[hb] at PY NX BX
    have LDS:Hid (∀W,Below D.heap.size D W→_):=fun W h=>load_sh (PY.later h).bk.mid.1 zsh_len
    have C0:Hid (∀W,Below D.heap.size D W→W.cell? ⟨b,0,none⟩=some (.pointer (some ⟨q,0,none⟩))):=fun W h=>(PY.later h).bk.c 0 _ rfl
    obtain⟨N,hN⟩:∃N,ox.ts.length=N:=⟨_,rfl⟩
    have RC:Hid (∀W,Below D.heap.size D W→Calls Tryz.prog 37 #[.pointer (some ⟨q,0,none⟩)] W fun e w'=>∃a c,e = .returned (.slice a N c)∧Hid (TxAt w' a ox.ts)∧Below W.heap.size W w'):=fun W h=>by
     refine (lrecords_any q p _ _ ox.g v ox.ts ox.tk ox.mr [] _ (by omega) (fun t ht=>(ook t ht).2) (PY.later h).lz.hd_.hf).mono ?_
     rintro e w' ⟨u,he,ho,hb'⟩
     obtain⟨a,c,rfl,tx,-⟩:=owns_tx rfl (owns_zero ho)
     exact⟨a,c,by rw[he,hN],tx,hb'⟩
    have BH:Hid (∀(Kq:Nat→Prop) W a c,(∀z,W.heap.size≤z→Kq z)→TxAt W a ox.ts→Calls Tryz.prog 36 #[.agg zsh.toArray,.slice a N c] W fun e w'=>BhP Kq W (tksX (fun _=>[]) ox.ts) e w'):=fun Kq W a c hK tx =>
     xbehind_any Kq W zsh (fun _=>[]) a N c ox.ts hN (by omega) ook (fun v=>by simp) hK (bvs_zero _ _) tx
    have DN:Hid (∀W P us c,Below D.heap.size D W→D.heap.size≤P→Blk W P zsh→Bvs (fun z=>D.heap.size≤z∧z≠P) W us c→_):=fun W P us c h1 h2 h3 h4=>py_done (c:=c) PY NX BF h1 h2 h3 h4
    subst h0'
    clear dl nx bf hd hnew HR HR2 LZ PY NX BF OK hN o4 oh on on' otk ook og h0 tl hn hl hD hb hk
    go_upto_region 6 with fail
    refine wp_region_lit ?_
    refine wpList_plain rfl (fun K2 hK2 => ?_)
    go_simp
    refine hK2 _ _ ?_
    clear hK2 K2
    refine wpList_plain rfl (fun K2 hK2 => ?_)
    go_simp
    refine hK2 _ _ ?_
    clear hK2 K2
    refine wpList_plain rfl (fun K2 hK2=>wp_build_run _ _ rfl #[(0,.pointer (some ⟨q,0,none⟩)),(2,.int .i64 (M:Int))] (by first|rfl|(simp[Act.eval];done)|kernel_rfl) _ (BU.out _) (hK2 _ _ ?_))
    refine wpList_plain rfl (fun K2 hK2=>wp_box_run _ _ rfl _ rfl _ _ BX.out (hK2 _ _ ?_))
    refine wpList_plain rfl (fun K2 hK2 => ?_)
    go_simp
    refine hK2 _ _ ?_
    clear hK2 K2
    refine wpList_nil ?_
    try simp only[Act.put,wA,wB,wC]
    clear BX BU
    cases ho:tksX (fun _=>[]) ox.ts with
    | none =>
     have ER2:=ER.out
     rw[ho] at ER2 BH
     have B2:Hid (∀(Kq:Nat→Prop) W a c,(∀z,W.heap.size≤z→Kq z)→TxAt W a ox.ts→Calls Tryz.prog 36 #[.agg zsh.toArray,.slice a N c] W fun e w'=>∃us,e = .returned (.tuple #[.agg us.toArray,.bool false])∧Bvs Kq w' us (fun _=>[])∧Below W.heap.size W w'):=BH.out
     have FF:Hid (∀W,Ds w w0 p F0 os W→XoR w w0 F0 p (M:Int) r (.returned (.tuple #[.pointer none,.int .i64 160])) W):=fun W k=>xor_no ER2.symm k
     clear BH ER ER2 ho
     go_upto_region 7 with fail
     refine wp_region_noPanic ?_
     refine wp_region_held_drew (S:=fun W=>Below D.heap.size D W) (by kernel_rfl) ((Below.refl _ _).drew) (fun hHeld => ?_)
     obtain⟨Z,hZ⟩:∃Z,D.drew=Z:=⟨_,rfl⟩
     rw[hZ] at hHeld ⊢
     clear hZ
     refine wT 0 opon0 ?_ ?_ ?_;rotate_left
     ·intro w' hSw;clear hSw;unfold opon0;first|(go_simp;done)|(go_simp;with_reducible rfl)
     simp only[opon0,Act.put,wA,wB,wC]
     refine wT 1 opon1 ?_ ?_ ?_;rotate_left
     ·intro w' hSw;clear hSw;unfold opon1;first|(go_simp;done)|(go_simp;with_reducible rfl)
     simp only[opon1,Act.put,wA,wB,wC]
     refine wT 2 opon2 ?_ ?_ ?_;rotate_left
     ·intro w' hSw;clear hSw;unfold opon2;first|(go_simp;done)|(go_simp;with_reducible rfl)
     simp only[opon2,Act.put,wA,wB,wC]
     refine wT 4 opon4 ?_ ?_ ?_;rotate_left
     ·intro w' hSw;clear hSw;unfold opon4;first|(go_simp;done)|(go_simp;with_reducible rfl)
     simp only[opon4,Act.put,wA,wB,wC]
     refine wT 5 opon5 ?_ ?_ ?_;rotate_left
     ·intro w' hSw;clear hSw;unfold opon5;first|(go_simp;done)|(go_simp;with_reducible rfl)
     simp only[opon5,Act.put,wA,wB,wC]
     refine wT 6 opon6 ?_ ?_ ?_;rotate_left
     ·intro w' hSw;clear hSw;unfold opon6;first|(go_simp;done)|(go_simp;with_reducible rfl)
     simp only[opon6,Act.put,wA,wB,wC]
     refine wT 7 opon7 ?_ ?_ ?_;rotate_left
     ·intro w' hSw;have s1:=C0.out _ hSw;unfold opon7;first|(go_simp;done)|(go_simp;with_reducible rfl)
     simp only[opon7,Act.put,wA,wB,wC]
     refine wpAnyH_ready (rs:=[3,8,13]) (by kernel_rfl) (by simp) ?_
     refine AllReadyH.cons (o:=opon3) rfl (fun KK hKK => ?_) (AllReadyH.cons (o:=opon8) rfl (fun KK hKK => ?_) (AllReadyH.cons (o:=opon13) rfl (fun KK hKK => ?_) AllReadyH.nil))
     ·refine wp_load_run _ _ rfl _ rfl _ (LDS.out _ hHeld) ?_
      refine hKK.out _ _ hHeld (fun hH1 => ?_)
      clear hKK KK
      try simp only[opon3,Act.put,wA,wB,wC]
      refine wpAnyH_ready (rs:=[8,13]) (by kernel_rfl) (by simp) ?_
      refine AllReadyH.cons (o:=opon8) rfl (fun KK hKK => ?_) (AllReadyH.cons (o:=opon13) rfl (fun KK hKK => ?_) AllReadyH.nil)
      ·unfold opon8
       go_simp
       refine Calls.mono (RC.out _ hH1) ?_
       rintro e y2 ⟨a8,c8,rfl,T2,b2⟩
       refine hKK.out _ _ (chain hH1 b2) (fun hH2 => ?_)
       clear hKK KK
       try simp only[opon8,Act.put,wA,wB,wC]
       refine wpAnyH_ready (rs:=[9,13]) (by kernel_rfl) (by simp) ?_
       refine AllReadyH.cons (o:=opon9) rfl (fun KK hKK => ?_) (AllReadyH.cons (o:=opon13) rfl (fun KK hKK => ?_) AllReadyH.nil)
       ·unfold opon9
        go_simp
        refine Calls.mono (B2.out (fun z=>D.heap.size≤z) _ a8 c8 (fun z hz=>Nat.le_trans hH2.size hz) T2.out) ?_
        rintro e y3 ⟨us,rfl,v9,b3⟩
        have V3:Hid _:=v9
        refine hKK.out _ _ (chain hH2 b3) (fun hH3 => ?_)
        clear hKK KK v9 b3
        try simp only[opon9,Act.put,wA,wB,wC]
        refine wT 10 opon10 ?_ ?_ ?_;rotate_left
        ·intro w' hSw;clear hSw;unfold opon10;first|(go_simp;done)|(go_simp;with_reducible rfl)
        simp only[opon10,Act.put,wA,wB,wC]
        refine wT 11 opon11 ?_ ?_ ?_;rotate_left
        ·intro w' hSw;clear hSw;unfold opon11;first|(go_simp;done)|(go_simp;with_reducible rfl)
        simp only[opon11,Act.put,wA,wB,wC]
        refine wT 12 opon12 ?_ ?_ ?_;rotate_left
        ·intro w' hSw;clear hSw;unfold opon12;first|(go_simp;done)|(go_simp;with_reducible rfl)
        simp only[opon12,Act.put,wA,wB,wC]
        refine wpAnyH_ready (rs:=[13]) (by kernel_rfl) (by simp) ?_
        refine AllReadyH.cons (o:=opon13) rfl (fun KK hKK => ?_) AllReadyH.nil
        refine wp_alloc_run _ rfl _ _ (alloc_sh _) ?_
        have K4:Hid (Blk (y3.alloc (.cells zsh.toArray 86)) y3.heap.size zsh):=Blk.new _ zsh _ zsh_ne
        have hP:Hid (D.heap.size≤y3.heap.size):=hH3.size
        have V4:Hid (Bvs (fun z=>D.heap.size≤z∧z≠y3.heap.size) (y3.alloc (.cells zsh.toArray 86)) us (fun _=>[])):=(V3.out.imp (K':=fun z=>D.heap.size≤z∧z≠y3.heap.size) (fun z hz hlt=>⟨hz,by omega⟩)).later (nb _ _)
        refine hKK.out _ _ (chain hH3 (nb _ _)) (fun hH4 => ?_)
        clear hKK KK
        obtain⟨y4,hy4⟩:∃Y,(y3.alloc (.cells zsh.toArray 86))=Y:=⟨_,rfl⟩
        rw[hy4] at hH4 K4 V4 ⊢
        clear hy4
        try simp only[opon13,Act.put,wA,wB,wC]
        refine wpAnyH_ready (rs:=[14]) (by kernel_rfl) (by simp) ?_
        refine AllReadyH.cons (o:=opon14) rfl (fun KK hKK => ?_) AllReadyH.nil
        obtain⟨s1,s2,s3⟩:=DN.out y4 _ us (fun _=>[]) hH4 hP.out K4.out V4.out
        refine wp_store_run _ _ _ rfl _ rfl _ rfl _ s1 ?_
        refine hKK.out _ _ s2 (fun hHz => ?_)
        clear hKK KK
        try simp only[opon14,Act.put]
        refine wT 15 opon15 ?_ ?_ ?_;rotate_left
        ·intro w' hSw;clear hSw;unfold opon15;first|(go_simp;done)|(go_simp;with_reducible rfl)
        simp only[opon15,Act.put,wA,wB,wC]
        refine wpAnyH_done (by kernel_rfl) ?_ _
        refine NoPanic.normal ?_
        have G:Hid _:=FF.out _ s3.out.1
        clear FF s1 s2 s3 DN B2 RC LDS C0
        go_wp2
        go_ret2
        exact G.out
       ·refine wp_alloc_run _ rfl _ _ (alloc_sh _) ?_
        have K3:Hid (Blk (y2.alloc (.cells zsh.toArray 86)) y2.heap.size zsh):=Blk.new _ zsh _ zsh_ne
        have hP:Hid (D.heap.size≤y2.heap.size):=hH2.size
        have T3:Hid (TxAt (y2.alloc (.cells zsh.toArray 86)) a8 ox.ts):=T2.out.later (nb _ _)
        refine hKK.out _ _ (chain hH2 (nb _ _)) (fun hH3 => ?_)
        clear hKK KK
        obtain⟨y3,hy3⟩:∃Y,(y2.alloc (.cells zsh.toArray 86))=Y:=⟨_,rfl⟩
        rw[hy3] at hH3 K3 T3 ⊢
        clear hy3
        try simp only[opon13,Act.put,wA,wB,wC]
        refine wpAnyH_ready (rs:=[9]) (by kernel_rfl) (by simp) ?_
        refine AllReadyH.cons (o:=opon9) rfl (fun KK hKK => ?_) AllReadyH.nil
        unfold opon9
        go_simp
        refine Calls.mono (B2.out (fun z=>D.heap.size≤z∧z≠y2.heap.size) _ a8 c8 (fun z hz=>⟨Nat.le_trans hH3.size hz,fun c=>by have:=K3.out.lt;omega⟩) T3.out) ?_
        rintro e y4 ⟨us,rfl,v9,b4⟩
        have V4:Hid _:=v9
        have K4:Hid (Blk y4 y2.heap.size zsh):=K3.out.later b4
        refine hKK.out _ _ (chain hH3 b4) (fun hH4 => ?_)
        clear hKK KK v9 b4
        try simp only[opon9,Act.put,wA,wB,wC]
        refine wT 10 opon10 ?_ ?_ ?_;rotate_left
        ·intro w' hSw;clear hSw;unfold opon10;first|(go_simp;done)|(go_simp;with_reducible rfl)
        simp only[opon10,Act.put,wA,wB,wC]
        refine wT 11 opon11 ?_ ?_ ?_;rotate_left
        ·intro w' hSw;clear hSw;unfold opon11;first|(go_simp;done)|(go_simp;with_reducible rfl)
        simp only[opon11,Act.put,wA,wB,wC]
        refine wT 12 opon12 ?_ ?_ ?_;rotate_left
        ·intro w' hSw;clear hSw;unfold opon12;first|(go_simp;done)|(go_simp;with_reducible rfl)
        simp only[opon12,Act.put,wA,wB,wC]
        refine wpAnyH_ready (rs:=[14]) (by kernel_rfl) (by simp) ?_
        refine AllReadyH.cons (o:=opon14) rfl (fun KK hKK => ?_) AllReadyH.nil
        obtain⟨s1,s2,s3⟩:=DN.out y4 _ us (fun _=>[]) hH4 hP.out K4.out V4.out
        refine wp_store_run _ _ _ rfl _ rfl _ rfl _ s1 ?_
        refine hKK.out _ _ s2 (fun hHz => ?_)
        clear hKK KK
        try simp only[opon14,Act.put]
        refine wT 15 opon15 ?_ ?_ ?_;rotate_left
        ·intro w' hSw;clear hSw;unfold opon15;first|(go_simp;done)|(go_simp;with_reducible rfl)
        simp only[opon15,Act.put,wA,wB,wC]
        refine wpAnyH_done (by kernel_rfl) ?_ _
        refine NoPanic.normal ?_
        have G:Hid _:=FF.out _ s3.out.1
        clear FF s1 s2 s3 DN B2 RC LDS C0
        go_wp2
        go_ret2
        exact G.out
      ·refine wp_alloc_run _ rfl _ _ (alloc_sh _) ?_
       have K2:Hid (Blk (Z.alloc (.cells zsh.toArray 86)) Z.heap.size zsh):=Blk.new _ zsh _ zsh_ne
       have hP:Hid (D.heap.size≤Z.heap.size):=hH1.size
       refine hKK.out _ _ (chain hH1 (nb _ _)) (fun hH2 => ?_)
       clear hKK KK
       obtain⟨y2,hy2⟩:∃Y,(Z.alloc (.cells zsh.toArray 86))=Y:=⟨_,rfl⟩
       rw[hy2] at hH2 K2 ⊢
       clear hy2
       try simp only[opon13,Act.put,wA,wB,wC]
       refine wpAnyH_ready (rs:=[8]) (by kernel_rfl) (by simp) ?_
       refine AllReadyH.cons (o:=opon8) rfl (fun KK hKK => ?_) AllReadyH.nil
       unfold opon8
       go_simp
       refine Calls.mono (RC.out _ hH2) ?_
       rintro e y3 ⟨a8,c8,rfl,T3,b3⟩
       have K3:Hid (Blk y3 Z.heap.size zsh):=K2.out.later b3
       refine hKK.out _ _ (chain hH2 b3) (fun hH3 => ?_)
       clear hKK KK
       try simp only[opon8,Act.put,wA,wB,wC]
       refine wpAnyH_ready (rs:=[9]) (by kernel_rfl) (by simp) ?_
       refine AllReadyH.cons (o:=opon9) rfl (fun KK hKK => ?_) AllReadyH.nil
       unfold opon9
       go_simp
       refine Calls.mono (B2.out (fun z=>D.heap.size≤z∧z≠Z.heap.size) _ a8 c8 (fun z hz=>⟨Nat.le_trans hH3.size hz,fun c=>by have:=K3.out.lt;omega⟩) T3.out) ?_
       rintro e y4 ⟨us,rfl,v9,b4⟩
       have V4:Hid _:=v9
       have K4:Hid (Blk y4 Z.heap.size zsh):=K3.out.later b4
       refine hKK.out _ _ (chain hH3 b4) (fun hH4 => ?_)
       clear hKK KK v9 b4
       try simp only[opon9,Act.put,wA,wB,wC]
       refine wT 10 opon10 ?_ ?_ ?_;rotate_left
       ·intro w' hSw;clear hSw;unfold opon10;first|(go_simp;done)|(go_simp;with_reducible rfl)
       simp only[opon10,Act.put,wA,wB,wC]
       refine wT 11 opon11 ?_ ?_ ?_;rotate_left
       ·intro w' hSw;clear hSw;unfold opon11;first|(go_simp;done)|(go_simp;with_reducible rfl)
       simp only[opon11,Act.put,wA,wB,wC]
       refine wT 12 opon12 ?_ ?_ ?_;rotate_left
       ·intro w' hSw;clear hSw;unfold opon12;first|(go_simp;done)|(go_simp;with_reducible rfl)
       simp only[opon12,Act.put,wA,wB,wC]
       refine wpAnyH_ready (rs:=[14]) (by kernel_rfl) (by simp) ?_
       refine AllReadyH.cons (o:=opon14) rfl (fun KK hKK => ?_) AllReadyH.nil
       obtain⟨s1,s2,s3⟩:=DN.out y4 _ us (fun _=>[]) hH4 hP.out K4.out V4.out
       refine wp_store_run _ _ _ rfl _ rfl _ rfl _ s1 ?_
       refine hKK.out _ _ s2 (fun hHz => ?_)
       clear hKK KK
       try simp only[opon14,Act.put]
       refine wT 15 opon15 ?_ ?_ ?_;rotate_left
       ·intro w' hSw;clear hSw;unfold opon15;first|(go_simp;done)|(go_simp;with_reducible rfl)
       simp only[opon15,Act.put,wA,wB,wC]
       refine wpAnyH_done (by kernel_rfl) ?_ _
       refine NoPanic.normal ?_
       have G:Hid _:=FF.out _ s3.out.1
       clear FF s1 s2 s3 DN B2 RC LDS C0
       go_wp2
       go_ret2
       exact G.out
     ·unfold opon8
      go_simp
      refine Calls.mono (RC.out _ hHeld) ?_
      rintro e y1 ⟨a8,c8,rfl,T1,b1⟩
      refine hKK.out _ _ (chain hHeld b1) (fun hH1 => ?_)
      clear hKK KK
      try simp only[opon8,Act.put,wA,wB,wC]
      refine wpAnyH_ready (rs:=[3,13]) (by kernel_rfl) (by simp) ?_
      refine AllReadyH.cons (o:=opon3) rfl (fun KK hKK => ?_) (AllReadyH.cons (o:=opon13) rfl (fun KK hKK => ?_) AllReadyH.nil)
      ·refine wp_load_run _ _ rfl _ rfl _ (LDS.out _ hH1) ?_
       refine hKK.out _ _ hH1 (fun hH2 => ?_)
       clear hKK KK
       try simp only[opon3,Act.put,wA,wB,wC]
       refine wpAnyH_ready (rs:=[9,13]) (by kernel_rfl) (by simp) ?_
       refine AllReadyH.cons (o:=opon9) rfl (fun KK hKK => ?_) (AllReadyH.cons (o:=opon13) rfl (fun KK hKK => ?_) AllReadyH.nil)
       ·unfold opon9
        go_simp
        refine Calls.mono (B2.out (fun z=>D.heap.size≤z) _ a8 c8 (fun z hz=>Nat.le_trans hH2.size hz) T1.out) ?_
        rintro e y3 ⟨us,rfl,v9,b3⟩
        have V3:Hid _:=v9
        refine hKK.out _ _ (chain hH2 b3) (fun hH3 => ?_)
        clear hKK KK v9 b3
        try simp only[opon9,Act.put,wA,wB,wC]
        refine wT 10 opon10 ?_ ?_ ?_;rotate_left
        ·intro w' hSw;clear hSw;unfold opon10;first|(go_simp;done)|(go_simp;with_reducible rfl)
        simp only[opon10,Act.put,wA,wB,wC]
        refine wT 11 opon11 ?_ ?_ ?_;rotate_left
        ·intro w' hSw;clear hSw;unfold opon11;first|(go_simp;done)|(go_simp;with_reducible rfl)
        simp only[opon11,Act.put,wA,wB,wC]
        refine wT 12 opon12 ?_ ?_ ?_;rotate_left
        ·intro w' hSw;clear hSw;unfold opon12;first|(go_simp;done)|(go_simp;with_reducible rfl)
        simp only[opon12,Act.put,wA,wB,wC]
        refine wpAnyH_ready (rs:=[13]) (by kernel_rfl) (by simp) ?_
        refine AllReadyH.cons (o:=opon13) rfl (fun KK hKK => ?_) AllReadyH.nil
        refine wp_alloc_run _ rfl _ _ (alloc_sh _) ?_
        have K4:Hid (Blk (y3.alloc (.cells zsh.toArray 86)) y3.heap.size zsh):=Blk.new _ zsh _ zsh_ne
        have hP:Hid (D.heap.size≤y3.heap.size):=hH3.size
        have V4:Hid (Bvs (fun z=>D.heap.size≤z∧z≠y3.heap.size) (y3.alloc (.cells zsh.toArray 86)) us (fun _=>[])):=(V3.out.imp (K':=fun z=>D.heap.size≤z∧z≠y3.heap.size) (fun z hz hlt=>⟨hz,by omega⟩)).later (nb _ _)
        refine hKK.out _ _ (chain hH3 (nb _ _)) (fun hH4 => ?_)
        clear hKK KK
        obtain⟨y4,hy4⟩:∃Y,(y3.alloc (.cells zsh.toArray 86))=Y:=⟨_,rfl⟩
        rw[hy4] at hH4 K4 V4 ⊢
        clear hy4
        try simp only[opon13,Act.put,wA,wB,wC]
        refine wpAnyH_ready (rs:=[14]) (by kernel_rfl) (by simp) ?_
        refine AllReadyH.cons (o:=opon14) rfl (fun KK hKK => ?_) AllReadyH.nil
        obtain⟨s1,s2,s3⟩:=DN.out y4 _ us (fun _=>[]) hH4 hP.out K4.out V4.out
        refine wp_store_run _ _ _ rfl _ rfl _ rfl _ s1 ?_
        refine hKK.out _ _ s2 (fun hHz => ?_)
        clear hKK KK
        try simp only[opon14,Act.put]
        refine wT 15 opon15 ?_ ?_ ?_;rotate_left
        ·intro w' hSw;clear hSw;unfold opon15;first|(go_simp;done)|(go_simp;with_reducible rfl)
        simp only[opon15,Act.put,wA,wB,wC]
        refine wpAnyH_done (by kernel_rfl) ?_ _
        refine NoPanic.normal ?_
        have G:Hid _:=FF.out _ s3.out.1
        clear FF s1 s2 s3 DN B2 RC LDS C0
        go_wp2
        go_ret2
        exact G.out
       ·refine wp_alloc_run _ rfl _ _ (alloc_sh _) ?_
        have K3:Hid (Blk (y1.alloc (.cells zsh.toArray 86)) y1.heap.size zsh):=Blk.new _ zsh _ zsh_ne
        have hP:Hid (D.heap.size≤y1.heap.size):=hH2.size
        have T3:Hid (TxAt (y1.alloc (.cells zsh.toArray 86)) a8 ox.ts):=T1.out.later (nb _ _)
        refine hKK.out _ _ (chain hH2 (nb _ _)) (fun hH3 => ?_)
        clear hKK KK
        obtain⟨y3,hy3⟩:∃Y,(y1.alloc (.cells zsh.toArray 86))=Y:=⟨_,rfl⟩
        rw[hy3] at hH3 K3 T3 ⊢
        clear hy3
        try simp only[opon13,Act.put,wA,wB,wC]
        refine wpAnyH_ready (rs:=[9]) (by kernel_rfl) (by simp) ?_
        refine AllReadyH.cons (o:=opon9) rfl (fun KK hKK => ?_) AllReadyH.nil
        unfold opon9
        go_simp
        refine Calls.mono (B2.out (fun z=>D.heap.size≤z∧z≠y1.heap.size) _ a8 c8 (fun z hz=>⟨Nat.le_trans hH3.size hz,fun c=>by have:=K3.out.lt;omega⟩) T3.out) ?_
        rintro e y4 ⟨us,rfl,v9,b4⟩
        have V4:Hid _:=v9
        have K4:Hid (Blk y4 y1.heap.size zsh):=K3.out.later b4
        refine hKK.out _ _ (chain hH3 b4) (fun hH4 => ?_)
        clear hKK KK v9 b4
        try simp only[opon9,Act.put,wA,wB,wC]
        refine wT 10 opon10 ?_ ?_ ?_;rotate_left
        ·intro w' hSw;clear hSw;unfold opon10;first|(go_simp;done)|(go_simp;with_reducible rfl)
        simp only[opon10,Act.put,wA,wB,wC]
        refine wT 11 opon11 ?_ ?_ ?_;rotate_left
        ·intro w' hSw;clear hSw;unfold opon11;first|(go_simp;done)|(go_simp;with_reducible rfl)
        simp only[opon11,Act.put,wA,wB,wC]
        refine wT 12 opon12 ?_ ?_ ?_;rotate_left
        ·intro w' hSw;clear hSw;unfold opon12;first|(go_simp;done)|(go_simp;with_reducible rfl)
        simp only[opon12,Act.put,wA,wB,wC]
        refine wpAnyH_ready (rs:=[14]) (by kernel_rfl) (by simp) ?_
        refine AllReadyH.cons (o:=opon14) rfl (fun KK hKK => ?_) AllReadyH.nil
        obtain⟨s1,s2,s3⟩:=DN.out y4 _ us (fun _=>[]) hH4 hP.out K4.out V4.out
        refine wp_store_run _ _ _ rfl _ rfl _ rfl _ s1 ?_
        refine hKK.out _ _ s2 (fun hHz => ?_)
        clear hKK KK
        try simp only[opon14,Act.put]
        refine wT 15 opon15 ?_ ?_ ?_;rotate_left
        ·intro w' hSw;clear hSw;unfold opon15;first|(go_simp;done)|(go_simp;with_reducible rfl)
        simp only[opon15,Act.put,wA,wB,wC]
        refine wpAnyH_done (by kernel_rfl) ?_ _
        refine NoPanic.normal ?_
        have G:Hid _:=FF.out _ s3.out.1
        clear FF s1 s2 s3 DN B2 RC LDS C0
        go_wp2
        go_ret2
        exact G.out
      ·refine wp_alloc_run _ rfl _ _ (alloc_sh _) ?_
       have K2:Hid (Blk (y1.alloc (.cells zsh.toArray 86)) y1.heap.size zsh):=Blk.new _ zsh _ zsh_ne
       have hP:Hid (D.heap.size≤y1.heap.size):=hH1.size
       have T2:Hid (TxAt (y1.alloc (.cells zsh.toArray 86)) a8 ox.ts):=T1.out.later (nb _ _)
       refine hKK.out _ _ (chain hH1 (nb _ _)) (fun hH2 => ?_)
       clear hKK KK
       obtain⟨y2,hy2⟩:∃Y,(y1.alloc (.cells zsh.toArray 86))=Y:=⟨_,rfl⟩
       rw[hy2] at hH2 K2 T2 ⊢
       clear hy2
       try simp only[opon13,Act.put,wA,wB,wC]
       refine wpAnyH_ready (rs:=[3]) (by kernel_rfl) (by simp) ?_
       refine AllReadyH.cons (o:=opon3) rfl (fun KK hKK => ?_) AllReadyH.nil
       refine wp_load_run _ _ rfl _ rfl _ (LDS.out _ hH2) ?_
       refine hKK.out _ _ hH2 (fun hH3 => ?_)
       clear hKK KK
       try simp only[opon3,Act.put,wA,wB,wC]
       refine wpAnyH_ready (rs:=[9]) (by kernel_rfl) (by simp) ?_
       refine AllReadyH.cons (o:=opon9) rfl (fun KK hKK => ?_) AllReadyH.nil
       unfold opon9
       go_simp
       refine Calls.mono (B2.out (fun z=>D.heap.size≤z∧z≠y1.heap.size) _ a8 c8 (fun z hz=>⟨Nat.le_trans hH3.size hz,fun c=>by have:=K2.out.lt;omega⟩) T2.out) ?_
       rintro e y4 ⟨us,rfl,v9,b4⟩
       have V4:Hid _:=v9
       have K4:Hid (Blk y4 y1.heap.size zsh):=K2.out.later b4
       refine hKK.out _ _ (chain hH3 b4) (fun hH4 => ?_)
       clear hKK KK v9 b4
       try simp only[opon9,Act.put,wA,wB,wC]
       refine wT 10 opon10 ?_ ?_ ?_;rotate_left
       ·intro w' hSw;clear hSw;unfold opon10;first|(go_simp;done)|(go_simp;with_reducible rfl)
       simp only[opon10,Act.put,wA,wB,wC]
       refine wT 11 opon11 ?_ ?_ ?_;rotate_left
       ·intro w' hSw;clear hSw;unfold opon11;first|(go_simp;done)|(go_simp;with_reducible rfl)
       simp only[opon11,Act.put,wA,wB,wC]
       refine wT 12 opon12 ?_ ?_ ?_;rotate_left
       ·intro w' hSw;clear hSw;unfold opon12;first|(go_simp;done)|(go_simp;with_reducible rfl)
       simp only[opon12,Act.put,wA,wB,wC]
       refine wpAnyH_ready (rs:=[14]) (by kernel_rfl) (by simp) ?_
       refine AllReadyH.cons (o:=opon14) rfl (fun KK hKK => ?_) AllReadyH.nil
       obtain⟨s1,s2,s3⟩:=DN.out y4 _ us (fun _=>[]) hH4 hP.out K4.out V4.out
       refine wp_store_run _ _ _ rfl _ rfl _ rfl _ s1 ?_
       refine hKK.out _ _ s2 (fun hHz => ?_)
       clear hKK KK
       try simp only[opon14,Act.put]
       refine wT 15 opon15 ?_ ?_ ?_;rotate_left
       ·intro w' hSw;clear hSw;unfold opon15;first|(go_simp;done)|(go_simp;with_reducible rfl)
       simp only[opon15,Act.put,wA,wB,wC]
       refine wpAnyH_done (by kernel_rfl) ?_ _
       refine NoPanic.normal ?_
       have G:Hid _:=FF.out _ s3.out.1
       clear FF s1 s2 s3 DN B2 RC LDS C0
       go_wp2
       go_ret2
       exact G.out
     ·refine wp_alloc_run _ rfl _ _ (alloc_sh _) ?_
      have K1:Hid (Blk (Z.alloc (.cells zsh.toArray 86)) Z.heap.size zsh):=Blk.new _ zsh _ zsh_ne
      have hP:Hid (D.heap.size≤Z.heap.size):=hHeld.size
      refine hKK.out _ _ (chain hHeld (nb _ _)) (fun hH1 => ?_)
      clear hKK KK
      obtain⟨y1,hy1⟩:∃Y,(Z.alloc (.cells zsh.toArray 86))=Y:=⟨_,rfl⟩
      rw[hy1] at hH1 K1 ⊢
      clear hy1
      try simp only[opon13,Act.put,wA,wB,wC]
      refine wpAnyH_ready (rs:=[3,8]) (by kernel_rfl) (by simp) ?_
      refine AllReadyH.cons (o:=opon3) rfl (fun KK hKK => ?_) (AllReadyH.cons (o:=opon8) rfl (fun KK hKK => ?_) AllReadyH.nil)
      ·refine wp_load_run _ _ rfl _ rfl _ (LDS.out _ hH1) ?_
       refine hKK.out _ _ hH1 (fun hH2 => ?_)
       clear hKK KK
       try simp only[opon3,Act.put,wA,wB,wC]
       refine wpAnyH_ready (rs:=[8]) (by kernel_rfl) (by simp) ?_
       refine AllReadyH.cons (o:=opon8) rfl (fun KK hKK => ?_) AllReadyH.nil
       unfold opon8
       go_simp
       refine Calls.mono (RC.out _ hH2) ?_
       rintro e y3 ⟨a8,c8,rfl,T3,b3⟩
       have K3:Hid (Blk y3 Z.heap.size zsh):=K1.out.later b3
       refine hKK.out _ _ (chain hH2 b3) (fun hH3 => ?_)
       clear hKK KK
       try simp only[opon8,Act.put,wA,wB,wC]
       refine wpAnyH_ready (rs:=[9]) (by kernel_rfl) (by simp) ?_
       refine AllReadyH.cons (o:=opon9) rfl (fun KK hKK => ?_) AllReadyH.nil
       unfold opon9
       go_simp
       refine Calls.mono (B2.out (fun z=>D.heap.size≤z∧z≠Z.heap.size) _ a8 c8 (fun z hz=>⟨Nat.le_trans hH3.size hz,fun c=>by have:=K3.out.lt;omega⟩) T3.out) ?_
       rintro e y4 ⟨us,rfl,v9,b4⟩
       have V4:Hid _:=v9
       have K4:Hid (Blk y4 Z.heap.size zsh):=K3.out.later b4
       refine hKK.out _ _ (chain hH3 b4) (fun hH4 => ?_)
       clear hKK KK v9 b4
       try simp only[opon9,Act.put,wA,wB,wC]
       refine wT 10 opon10 ?_ ?_ ?_;rotate_left
       ·intro w' hSw;clear hSw;unfold opon10;first|(go_simp;done)|(go_simp;with_reducible rfl)
       simp only[opon10,Act.put,wA,wB,wC]
       refine wT 11 opon11 ?_ ?_ ?_;rotate_left
       ·intro w' hSw;clear hSw;unfold opon11;first|(go_simp;done)|(go_simp;with_reducible rfl)
       simp only[opon11,Act.put,wA,wB,wC]
       refine wT 12 opon12 ?_ ?_ ?_;rotate_left
       ·intro w' hSw;clear hSw;unfold opon12;first|(go_simp;done)|(go_simp;with_reducible rfl)
       simp only[opon12,Act.put,wA,wB,wC]
       refine wpAnyH_ready (rs:=[14]) (by kernel_rfl) (by simp) ?_
       refine AllReadyH.cons (o:=opon14) rfl (fun KK hKK => ?_) AllReadyH.nil
       obtain⟨s1,s2,s3⟩:=DN.out y4 _ us (fun _=>[]) hH4 hP.out K4.out V4.out
       refine wp_store_run _ _ _ rfl _ rfl _ rfl _ s1 ?_
       refine hKK.out _ _ s2 (fun hHz => ?_)
       clear hKK KK
       try simp only[opon14,Act.put]
       refine wT 15 opon15 ?_ ?_ ?_;rotate_left
       ·intro w' hSw;clear hSw;unfold opon15;first|(go_simp;done)|(go_simp;with_reducible rfl)
       simp only[opon15,Act.put,wA,wB,wC]
       refine wpAnyH_done (by kernel_rfl) ?_ _
       refine NoPanic.normal ?_
       have G:Hid _:=FF.out _ s3.out.1
       clear FF s1 s2 s3 DN B2 RC LDS C0
       go_wp2
       go_ret2
       exact G.out
      ·unfold opon8
       go_simp
       refine Calls.mono (RC.out _ hH1) ?_
       rintro e y2 ⟨a8,c8,rfl,T2,b2⟩
       have K2:Hid (Blk y2 Z.heap.size zsh):=K1.out.later b2
       refine hKK.out _ _ (chain hH1 b2) (fun hH2 => ?_)
       clear hKK KK
       try simp only[opon8,Act.put,wA,wB,wC]
       refine wpAnyH_ready (rs:=[3]) (by kernel_rfl) (by simp) ?_
       refine AllReadyH.cons (o:=opon3) rfl (fun KK hKK => ?_) AllReadyH.nil
       refine wp_load_run _ _ rfl _ rfl _ (LDS.out _ hH2) ?_
       refine hKK.out _ _ hH2 (fun hH3 => ?_)
       clear hKK KK
       try simp only[opon3,Act.put,wA,wB,wC]
       refine wpAnyH_ready (rs:=[9]) (by kernel_rfl) (by simp) ?_
       refine AllReadyH.cons (o:=opon9) rfl (fun KK hKK => ?_) AllReadyH.nil
       unfold opon9
       go_simp
       refine Calls.mono (B2.out (fun z=>D.heap.size≤z∧z≠Z.heap.size) _ a8 c8 (fun z hz=>⟨Nat.le_trans hH3.size hz,fun c=>by have:=K2.out.lt;omega⟩) T2.out) ?_
       rintro e y4 ⟨us,rfl,v9,b4⟩
       have V4:Hid _:=v9
       have K4:Hid (Blk y4 Z.heap.size zsh):=K2.out.later b4
       refine hKK.out _ _ (chain hH3 b4) (fun hH4 => ?_)
       clear hKK KK v9 b4
       try simp only[opon9,Act.put,wA,wB,wC]
       refine wT 10 opon10 ?_ ?_ ?_;rotate_left
       ·intro w' hSw;clear hSw;unfold opon10;first|(go_simp;done)|(go_simp;with_reducible rfl)
       simp only[opon10,Act.put,wA,wB,wC]
       refine wT 11 opon11 ?_ ?_ ?_;rotate_left
       ·intro w' hSw;clear hSw;unfold opon11;first|(go_simp;done)|(go_simp;with_reducible rfl)
       simp only[opon11,Act.put,wA,wB,wC]
       refine wT 12 opon12 ?_ ?_ ?_;rotate_left
       ·intro w' hSw;clear hSw;unfold opon12;first|(go_simp;done)|(go_simp;with_reducible rfl)
       simp only[opon12,Act.put,wA,wB,wC]
       refine wpAnyH_ready (rs:=[14]) (by kernel_rfl) (by simp) ?_
       refine AllReadyH.cons (o:=opon14) rfl (fun KK hKK => ?_) AllReadyH.nil
       obtain⟨s1,s2,s3⟩:=DN.out y4 _ us (fun _=>[]) hH4 hP.out K4.out V4.out
       refine wp_store_run _ _ _ rfl _ rfl _ rfl _ s1 ?_
       refine hKK.out _ _ s2 (fun hHz => ?_)
       clear hKK KK
       try simp only[opon14,Act.put]
       refine wT 15 opon15 ?_ ?_ ?_;rotate_left
       ·intro w' hSw;clear hSw;unfold opon15;first|(go_simp;done)|(go_simp;with_reducible rfl)
       simp only[opon15,Act.put,wA,wB,wC]
       refine wpAnyH_done (by kernel_rfl) ?_ _
       refine NoPanic.normal ?_
       have G:Hid _:=FF.out _ s3.out.1
       clear FF s1 s2 s3 DN B2 RC LDS C0
       go_wp2
       go_ret2
       exact G.out
    | some cc =>
     have ER2:=ER.out
     rw[ho] at ER2 BH
     have B2:Hid (∀(Kq:Nat→Prop) W a c,(∀z,W.heap.size≤z→Kq z)→TxAt W a ox.ts→Calls Tryz.prog 36 #[.agg zsh.toArray,.slice a N c] W fun e w'=>∃us,e = .returned (.tuple #[.agg us.toArray,.bool true])∧Bvs Kq w' us cc∧Below W.heap.size W w'):=BH.out
     have FF:Hid (∀W,PyP w w0 F0 p q b M os ox cc W→XoR w w0 F0 p (M:Int) r (.returned (.tuple #[.pointer (some ⟨b,0,none⟩),.int .i64 0])) W):=fun W k=>by
      rw[←ER2]
      exact⟨q,b,rfl,rfl,k⟩
     clear BH ER ER2 ho
     go_upto_region 7 with fail
     refine wp_region_noPanic ?_
     refine wp_region_held_drew (S:=fun W=>Below D.heap.size D W) (by kernel_rfl) ((Below.refl _ _).drew) (fun hHeld => ?_)
     obtain⟨Z,hZ⟩:∃Z,D.drew=Z:=⟨_,rfl⟩
     rw[hZ] at hHeld ⊢
     clear hZ
     refine wT 0 opon0 ?_ ?_ ?_;rotate_left
     ·intro w' hSw;clear hSw;unfold opon0;first|(go_simp;done)|(go_simp;with_reducible rfl)
     simp only[opon0,Act.put,wA,wB,wC]
     refine wT 1 opon1 ?_ ?_ ?_;rotate_left
     ·intro w' hSw;clear hSw;unfold opon1;first|(go_simp;done)|(go_simp;with_reducible rfl)
     simp only[opon1,Act.put,wA,wB,wC]
     refine wT 2 opon2 ?_ ?_ ?_;rotate_left
     ·intro w' hSw;clear hSw;unfold opon2;first|(go_simp;done)|(go_simp;with_reducible rfl)
     simp only[opon2,Act.put,wA,wB,wC]
     refine wT 4 opon4 ?_ ?_ ?_;rotate_left
     ·intro w' hSw;clear hSw;unfold opon4;first|(go_simp;done)|(go_simp;with_reducible rfl)
     simp only[opon4,Act.put,wA,wB,wC]
     refine wT 5 opon5 ?_ ?_ ?_;rotate_left
     ·intro w' hSw;clear hSw;unfold opon5;first|(go_simp;done)|(go_simp;with_reducible rfl)
     simp only[opon5,Act.put,wA,wB,wC]
     refine wT 6 opon6 ?_ ?_ ?_;rotate_left
     ·intro w' hSw;clear hSw;unfold opon6;first|(go_simp;done)|(go_simp;with_reducible rfl)
     simp only[opon6,Act.put,wA,wB,wC]
     refine wT 7 opon7 ?_ ?_ ?_;rotate_left
     ·intro w' hSw;have s1:=C0.out _ hSw;unfold opon7;first|(go_simp;done)|(go_simp;with_reducible rfl)
     simp only[opon7,Act.put,wA,wB,wC]
     refine wpAnyH_ready (rs:=[3,8,13]) (by kernel_rfl) (by simp) ?_
     refine AllReadyH.cons (o:=opon3) rfl (fun KK hKK => ?_) (AllReadyH.cons (o:=opon8) rfl (fun KK hKK => ?_) (AllReadyH.cons (o:=opon13) rfl (fun KK hKK => ?_) AllReadyH.nil))
     ·refine wp_load_run _ _ rfl _ rfl _ (LDS.out _ hHeld) ?_
      refine hKK.out _ _ hHeld (fun hH1 => ?_)
      clear hKK KK
      try simp only[opon3,Act.put,wA,wB,wC]
      refine wpAnyH_ready (rs:=[8,13]) (by kernel_rfl) (by simp) ?_
      refine AllReadyH.cons (o:=opon8) rfl (fun KK hKK => ?_) (AllReadyH.cons (o:=opon13) rfl (fun KK hKK => ?_) AllReadyH.nil)
      ·unfold opon8
       go_simp
       refine Calls.mono (RC.out _ hH1) ?_
       rintro e y2 ⟨a8,c8,rfl,T2,b2⟩
       refine hKK.out _ _ (chain hH1 b2) (fun hH2 => ?_)
       clear hKK KK
       try simp only[opon8,Act.put,wA,wB,wC]
       refine wpAnyH_ready (rs:=[9,13]) (by kernel_rfl) (by simp) ?_
       refine AllReadyH.cons (o:=opon9) rfl (fun KK hKK => ?_) (AllReadyH.cons (o:=opon13) rfl (fun KK hKK => ?_) AllReadyH.nil)
       ·unfold opon9
        go_simp
        refine Calls.mono (B2.out (fun z=>D.heap.size≤z) _ a8 c8 (fun z hz=>Nat.le_trans hH2.size hz) T2.out) ?_
        rintro e y3 ⟨us,rfl,v9,b3⟩
        have V3:Hid _:=v9
        refine hKK.out _ _ (chain hH2 b3) (fun hH3 => ?_)
        clear hKK KK v9 b3
        try simp only[opon9,Act.put,wA,wB,wC]
        refine wT 10 opon10 ?_ ?_ ?_;rotate_left
        ·intro w' hSw;clear hSw;unfold opon10;first|(go_simp;done)|(go_simp;with_reducible rfl)
        simp only[opon10,Act.put,wA,wB,wC]
        refine wT 11 opon11 ?_ ?_ ?_;rotate_left
        ·intro w' hSw;clear hSw;unfold opon11;first|(go_simp;done)|(go_simp;with_reducible rfl)
        simp only[opon11,Act.put,wA,wB,wC]
        refine wT 12 opon12 ?_ ?_ ?_;rotate_left
        ·intro w' hSw;clear hSw;unfold opon12;first|(go_simp;done)|(go_simp;with_reducible rfl)
        simp only[opon12,Act.put,wA,wB,wC]
        refine wpAnyH_ready (rs:=[13]) (by kernel_rfl) (by simp) ?_
        refine AllReadyH.cons (o:=opon13) rfl (fun KK hKK => ?_) AllReadyH.nil
        refine wp_alloc_run _ rfl _ _ (alloc_sh _) ?_
        have K4:Hid (Blk (y3.alloc (.cells zsh.toArray 86)) y3.heap.size zsh):=Blk.new _ zsh _ zsh_ne
        have hP:Hid (D.heap.size≤y3.heap.size):=hH3.size
        have V4:Hid (Bvs (fun z=>D.heap.size≤z∧z≠y3.heap.size) (y3.alloc (.cells zsh.toArray 86)) us cc):=(V3.out.imp (K':=fun z=>D.heap.size≤z∧z≠y3.heap.size) (fun z hz hlt=>⟨hz,by omega⟩)).later (nb _ _)
        refine hKK.out _ _ (chain hH3 (nb _ _)) (fun hH4 => ?_)
        clear hKK KK
        obtain⟨y4,hy4⟩:∃Y,(y3.alloc (.cells zsh.toArray 86))=Y:=⟨_,rfl⟩
        rw[hy4] at hH4 K4 V4 ⊢
        clear hy4
        try simp only[opon13,Act.put,wA,wB,wC]
        refine wpAnyH_ready (rs:=[14]) (by kernel_rfl) (by simp) ?_
        refine AllReadyH.cons (o:=opon14) rfl (fun KK hKK => ?_) AllReadyH.nil
        obtain⟨s1,s2,s3⟩:=DN.out y4 _ us cc hH4 hP.out K4.out V4.out
        refine wp_store_run _ _ _ rfl _ rfl _ rfl _ s1 ?_
        refine hKK.out _ _ s2 (fun hHz => ?_)
        clear hKK KK
        try simp only[opon14,Act.put]
        refine wT 15 opon15 ?_ ?_ ?_;rotate_left
        ·intro w' hSw;clear hSw;unfold opon15;first|(go_simp;done)|(go_simp;with_reducible rfl)
        simp only[opon15,Act.put,wA,wB,wC]
        refine wpAnyH_done (by kernel_rfl) ?_ _
        refine NoPanic.normal ?_
        have G:Hid _:=FF.out _ s3.out.2.2.2
        have L1:Hid _:=s3.out.2.1
        have L2:Hid _:=s3.out.2.2.1
        clear FF s1 s2 s3 DN B2 RC LDS C0
        go_upto_region 10 with fail
        refine wp_region_lit ?_
        refine wpList_plain rfl (fun K2 hK2 => ?_)
        go_simp
        refine hK2 _ _ ?_
        clear hK2 K2
        refine wpList_plain rfl (fun K2 hK2=>wp_load_run _ _ rfl _ rfl _ L1.out (hK2 _ _ ?_))
        refine wpList_plain rfl (fun K2 hK2 => ?_)
        go_simp
        refine hK2 _ _ ?_
        clear hK2 K2
        refine wpList_plain rfl (fun K2 hK2 => ?_)
        go_simp
        refine hK2 _ _ ?_
        clear hK2 K2
        refine wpList_plain rfl (fun K2 hK2=>wp_store_run _ _ _ rfl _ rfl _ rfl _ L2.out (hK2 _ _ ?_))
        refine wpList_nil ?_
        go_wp2
        go_ret2
        exact G.out
       ·refine wp_alloc_run _ rfl _ _ (alloc_sh _) ?_
        have K3:Hid (Blk (y2.alloc (.cells zsh.toArray 86)) y2.heap.size zsh):=Blk.new _ zsh _ zsh_ne
        have hP:Hid (D.heap.size≤y2.heap.size):=hH2.size
        have T3:Hid (TxAt (y2.alloc (.cells zsh.toArray 86)) a8 ox.ts):=T2.out.later (nb _ _)
        refine hKK.out _ _ (chain hH2 (nb _ _)) (fun hH3 => ?_)
        clear hKK KK
        obtain⟨y3,hy3⟩:∃Y,(y2.alloc (.cells zsh.toArray 86))=Y:=⟨_,rfl⟩
        rw[hy3] at hH3 K3 T3 ⊢
        clear hy3
        try simp only[opon13,Act.put,wA,wB,wC]
        refine wpAnyH_ready (rs:=[9]) (by kernel_rfl) (by simp) ?_
        refine AllReadyH.cons (o:=opon9) rfl (fun KK hKK => ?_) AllReadyH.nil
        unfold opon9
        go_simp
        refine Calls.mono (B2.out (fun z=>D.heap.size≤z∧z≠y2.heap.size) _ a8 c8 (fun z hz=>⟨Nat.le_trans hH3.size hz,fun c=>by have:=K3.out.lt;omega⟩) T3.out) ?_
        rintro e y4 ⟨us,rfl,v9,b4⟩
        have V4:Hid _:=v9
        have K4:Hid (Blk y4 y2.heap.size zsh):=K3.out.later b4
        refine hKK.out _ _ (chain hH3 b4) (fun hH4 => ?_)
        clear hKK KK v9 b4
        try simp only[opon9,Act.put,wA,wB,wC]
        refine wT 10 opon10 ?_ ?_ ?_;rotate_left
        ·intro w' hSw;clear hSw;unfold opon10;first|(go_simp;done)|(go_simp;with_reducible rfl)
        simp only[opon10,Act.put,wA,wB,wC]
        refine wT 11 opon11 ?_ ?_ ?_;rotate_left
        ·intro w' hSw;clear hSw;unfold opon11;first|(go_simp;done)|(go_simp;with_reducible rfl)
        simp only[opon11,Act.put,wA,wB,wC]
        refine wT 12 opon12 ?_ ?_ ?_;rotate_left
        ·intro w' hSw;clear hSw;unfold opon12;first|(go_simp;done)|(go_simp;with_reducible rfl)
        simp only[opon12,Act.put,wA,wB,wC]
        refine wpAnyH_ready (rs:=[14]) (by kernel_rfl) (by simp) ?_
        refine AllReadyH.cons (o:=opon14) rfl (fun KK hKK => ?_) AllReadyH.nil
        obtain⟨s1,s2,s3⟩:=DN.out y4 _ us cc hH4 hP.out K4.out V4.out
        refine wp_store_run _ _ _ rfl _ rfl _ rfl _ s1 ?_
        refine hKK.out _ _ s2 (fun hHz => ?_)
        clear hKK KK
        try simp only[opon14,Act.put]
        refine wT 15 opon15 ?_ ?_ ?_;rotate_left
        ·intro w' hSw;clear hSw;unfold opon15;first|(go_simp;done)|(go_simp;with_reducible rfl)
        simp only[opon15,Act.put,wA,wB,wC]
        refine wpAnyH_done (by kernel_rfl) ?_ _
        refine NoPanic.normal ?_
        have G:Hid _:=FF.out _ s3.out.2.2.2
        have L1:Hid _:=s3.out.2.1
        have L2:Hid _:=s3.out.2.2.1
        clear FF s1 s2 s3 DN B2 RC LDS C0
        go_upto_region 10 with fail
        refine wp_region_lit ?_
        refine wpList_plain rfl (fun K2 hK2 => ?_)
        go_simp
        refine hK2 _ _ ?_
        clear hK2 K2
        refine wpList_plain rfl (fun K2 hK2=>wp_load_run _ _ rfl _ rfl _ L1.out (hK2 _ _ ?_))
        refine wpList_plain rfl (fun K2 hK2 => ?_)
        go_simp
        refine hK2 _ _ ?_
        clear hK2 K2
        refine wpList_plain rfl (fun K2 hK2 => ?_)
        go_simp
        refine hK2 _ _ ?_
        clear hK2 K2
        refine wpList_plain rfl (fun K2 hK2=>wp_store_run _ _ _ rfl _ rfl _ rfl _ L2.out (hK2 _ _ ?_))
        refine wpList_nil ?_
        go_wp2
        go_ret2
        exact G.out
      ·refine wp_alloc_run _ rfl _ _ (alloc_sh _) ?_
       have K2:Hid (Blk (Z.alloc (.cells zsh.toArray 86)) Z.heap.size zsh):=Blk.new _ zsh _ zsh_ne
       have hP:Hid (D.heap.size≤Z.heap.size):=hH1.size
       refine hKK.out _ _ (chain hH1 (nb _ _)) (fun hH2 => ?_)
       clear hKK KK
       obtain⟨y2,hy2⟩:∃Y,(Z.alloc (.cells zsh.toArray 86))=Y:=⟨_,rfl⟩
       rw[hy2] at hH2 K2 ⊢
       clear hy2
       try simp only[opon13,Act.put,wA,wB,wC]
       refine wpAnyH_ready (rs:=[8]) (by kernel_rfl) (by simp) ?_
       refine AllReadyH.cons (o:=opon8) rfl (fun KK hKK => ?_) AllReadyH.nil
       unfold opon8
       go_simp
       refine Calls.mono (RC.out _ hH2) ?_
       rintro e y3 ⟨a8,c8,rfl,T3,b3⟩
       have K3:Hid (Blk y3 Z.heap.size zsh):=K2.out.later b3
       refine hKK.out _ _ (chain hH2 b3) (fun hH3 => ?_)
       clear hKK KK
       try simp only[opon8,Act.put,wA,wB,wC]
       refine wpAnyH_ready (rs:=[9]) (by kernel_rfl) (by simp) ?_
       refine AllReadyH.cons (o:=opon9) rfl (fun KK hKK => ?_) AllReadyH.nil
       unfold opon9
       go_simp
       refine Calls.mono (B2.out (fun z=>D.heap.size≤z∧z≠Z.heap.size) _ a8 c8 (fun z hz=>⟨Nat.le_trans hH3.size hz,fun c=>by have:=K3.out.lt;omega⟩) T3.out) ?_
       rintro e y4 ⟨us,rfl,v9,b4⟩
       have V4:Hid _:=v9
       have K4:Hid (Blk y4 Z.heap.size zsh):=K3.out.later b4
       refine hKK.out _ _ (chain hH3 b4) (fun hH4 => ?_)
       clear hKK KK v9 b4
       try simp only[opon9,Act.put,wA,wB,wC]
       refine wT 10 opon10 ?_ ?_ ?_;rotate_left
       ·intro w' hSw;clear hSw;unfold opon10;first|(go_simp;done)|(go_simp;with_reducible rfl)
       simp only[opon10,Act.put,wA,wB,wC]
       refine wT 11 opon11 ?_ ?_ ?_;rotate_left
       ·intro w' hSw;clear hSw;unfold opon11;first|(go_simp;done)|(go_simp;with_reducible rfl)
       simp only[opon11,Act.put,wA,wB,wC]
       refine wT 12 opon12 ?_ ?_ ?_;rotate_left
       ·intro w' hSw;clear hSw;unfold opon12;first|(go_simp;done)|(go_simp;with_reducible rfl)
       simp only[opon12,Act.put,wA,wB,wC]
       refine wpAnyH_ready (rs:=[14]) (by kernel_rfl) (by simp) ?_
       refine AllReadyH.cons (o:=opon14) rfl (fun KK hKK => ?_) AllReadyH.nil
       obtain⟨s1,s2,s3⟩:=DN.out y4 _ us cc hH4 hP.out K4.out V4.out
       refine wp_store_run _ _ _ rfl _ rfl _ rfl _ s1 ?_
       refine hKK.out _ _ s2 (fun hHz => ?_)
       clear hKK KK
       try simp only[opon14,Act.put]
       refine wT 15 opon15 ?_ ?_ ?_;rotate_left
       ·intro w' hSw;clear hSw;unfold opon15;first|(go_simp;done)|(go_simp;with_reducible rfl)
       simp only[opon15,Act.put,wA,wB,wC]
       refine wpAnyH_done (by kernel_rfl) ?_ _
       refine NoPanic.normal ?_
       have G:Hid _:=FF.out _ s3.out.2.2.2
       have L1:Hid _:=s3.out.2.1
       have L2:Hid _:=s3.out.2.2.1
       clear FF s1 s2 s3 DN B2 RC LDS C0
       go_upto_region 10 with fail
       refine wp_region_lit ?_
       refine wpList_plain rfl (fun K2 hK2 => ?_)
       go_simp
       refine hK2 _ _ ?_
       clear hK2 K2
       refine wpList_plain rfl (fun K2 hK2=>wp_load_run _ _ rfl _ rfl _ L1.out (hK2 _ _ ?_))
       refine wpList_plain rfl (fun K2 hK2 => ?_)
       go_simp
       refine hK2 _ _ ?_
       clear hK2 K2
       refine wpList_plain rfl (fun K2 hK2 => ?_)
       go_simp
       refine hK2 _ _ ?_
       clear hK2 K2
       refine wpList_plain rfl (fun K2 hK2=>wp_store_run _ _ _ rfl _ rfl _ rfl _ L2.out (hK2 _ _ ?_))
       refine wpList_nil ?_
       go_wp2
       go_ret2
       exact G.out
     ·unfold opon8
      go_simp
      refine Calls.mono (RC.out _ hHeld) ?_
      rintro e y1 ⟨a8,c8,rfl,T1,b1⟩
      refine hKK.out _ _ (chain hHeld b1) (fun hH1 => ?_)
      clear hKK KK
      try simp only[opon8,Act.put,wA,wB,wC]
      refine wpAnyH_ready (rs:=[3,13]) (by kernel_rfl) (by simp) ?_
      refine AllReadyH.cons (o:=opon3) rfl (fun KK hKK => ?_) (AllReadyH.cons (o:=opon13) rfl (fun KK hKK => ?_) AllReadyH.nil)
      ·refine wp_load_run _ _ rfl _ rfl _ (LDS.out _ hH1) ?_
       refine hKK.out _ _ hH1 (fun hH2 => ?_)
       clear hKK KK
       try simp only[opon3,Act.put,wA,wB,wC]
       refine wpAnyH_ready (rs:=[9,13]) (by kernel_rfl) (by simp) ?_
       refine AllReadyH.cons (o:=opon9) rfl (fun KK hKK => ?_) (AllReadyH.cons (o:=opon13) rfl (fun KK hKK => ?_) AllReadyH.nil)
       ·unfold opon9
        go_simp
        refine Calls.mono (B2.out (fun z=>D.heap.size≤z) _ a8 c8 (fun z hz=>Nat.le_trans hH2.size hz) T1.out) ?_
        rintro e y3 ⟨us,rfl,v9,b3⟩
        have V3:Hid _:=v9
        refine hKK.out _ _ (chain hH2 b3) (fun hH3 => ?_)
        clear hKK KK v9 b3
        try simp only[opon9,Act.put,wA,wB,wC]
        refine wT 10 opon10 ?_ ?_ ?_;rotate_left
        ·intro w' hSw;clear hSw;unfold opon10;first|(go_simp;done)|(go_simp;with_reducible rfl)
        simp only[opon10,Act.put,wA,wB,wC]
        refine wT 11 opon11 ?_ ?_ ?_;rotate_left
        ·intro w' hSw;clear hSw;unfold opon11;first|(go_simp;done)|(go_simp;with_reducible rfl)
        simp only[opon11,Act.put,wA,wB,wC]
        refine wT 12 opon12 ?_ ?_ ?_;rotate_left
        ·intro w' hSw;clear hSw;unfold opon12;first|(go_simp;done)|(go_simp;with_reducible rfl)
        simp only[opon12,Act.put,wA,wB,wC]
        refine wpAnyH_ready (rs:=[13]) (by kernel_rfl) (by simp) ?_
        refine AllReadyH.cons (o:=opon13) rfl (fun KK hKK => ?_) AllReadyH.nil
        refine wp_alloc_run _ rfl _ _ (alloc_sh _) ?_
        have K4:Hid (Blk (y3.alloc (.cells zsh.toArray 86)) y3.heap.size zsh):=Blk.new _ zsh _ zsh_ne
        have hP:Hid (D.heap.size≤y3.heap.size):=hH3.size
        have V4:Hid (Bvs (fun z=>D.heap.size≤z∧z≠y3.heap.size) (y3.alloc (.cells zsh.toArray 86)) us cc):=(V3.out.imp (K':=fun z=>D.heap.size≤z∧z≠y3.heap.size) (fun z hz hlt=>⟨hz,by omega⟩)).later (nb _ _)
        refine hKK.out _ _ (chain hH3 (nb _ _)) (fun hH4 => ?_)
        clear hKK KK
        obtain⟨y4,hy4⟩:∃Y,(y3.alloc (.cells zsh.toArray 86))=Y:=⟨_,rfl⟩
        rw[hy4] at hH4 K4 V4 ⊢
        clear hy4
        try simp only[opon13,Act.put,wA,wB,wC]
        refine wpAnyH_ready (rs:=[14]) (by kernel_rfl) (by simp) ?_
        refine AllReadyH.cons (o:=opon14) rfl (fun KK hKK => ?_) AllReadyH.nil
        obtain⟨s1,s2,s3⟩:=DN.out y4 _ us cc hH4 hP.out K4.out V4.out
        refine wp_store_run _ _ _ rfl _ rfl _ rfl _ s1 ?_
        refine hKK.out _ _ s2 (fun hHz => ?_)
        clear hKK KK
        try simp only[opon14,Act.put]
        refine wT 15 opon15 ?_ ?_ ?_;rotate_left
        ·intro w' hSw;clear hSw;unfold opon15;first|(go_simp;done)|(go_simp;with_reducible rfl)
        simp only[opon15,Act.put,wA,wB,wC]
        refine wpAnyH_done (by kernel_rfl) ?_ _
        refine NoPanic.normal ?_
        have G:Hid _:=FF.out _ s3.out.2.2.2
        have L1:Hid _:=s3.out.2.1
        have L2:Hid _:=s3.out.2.2.1
        clear FF s1 s2 s3 DN B2 RC LDS C0
        go_upto_region 10 with fail
        refine wp_region_lit ?_
        refine wpList_plain rfl (fun K2 hK2 => ?_)
        go_simp
        refine hK2 _ _ ?_
        clear hK2 K2
        refine wpList_plain rfl (fun K2 hK2=>wp_load_run _ _ rfl _ rfl _ L1.out (hK2 _ _ ?_))
        refine wpList_plain rfl (fun K2 hK2 => ?_)
        go_simp
        refine hK2 _ _ ?_
        clear hK2 K2
        refine wpList_plain rfl (fun K2 hK2 => ?_)
        go_simp
        refine hK2 _ _ ?_
        clear hK2 K2
        refine wpList_plain rfl (fun K2 hK2=>wp_store_run _ _ _ rfl _ rfl _ rfl _ L2.out (hK2 _ _ ?_))
        refine wpList_nil ?_
        go_wp2
        go_ret2
        exact G.out
       ·refine wp_alloc_run _ rfl _ _ (alloc_sh _) ?_
        have K3:Hid (Blk (y1.alloc (.cells zsh.toArray 86)) y1.heap.size zsh):=Blk.new _ zsh _ zsh_ne
        have hP:Hid (D.heap.size≤y1.heap.size):=hH2.size
        have T3:Hid (TxAt (y1.alloc (.cells zsh.toArray 86)) a8 ox.ts):=T1.out.later (nb _ _)
        refine hKK.out _ _ (chain hH2 (nb _ _)) (fun hH3 => ?_)
        clear hKK KK
        obtain⟨y3,hy3⟩:∃Y,(y1.alloc (.cells zsh.toArray 86))=Y:=⟨_,rfl⟩
        rw[hy3] at hH3 K3 T3 ⊢
        clear hy3
        try simp only[opon13,Act.put,wA,wB,wC]
        refine wpAnyH_ready (rs:=[9]) (by kernel_rfl) (by simp) ?_
        refine AllReadyH.cons (o:=opon9) rfl (fun KK hKK => ?_) AllReadyH.nil
        unfold opon9
        go_simp
        refine Calls.mono (B2.out (fun z=>D.heap.size≤z∧z≠y1.heap.size) _ a8 c8 (fun z hz=>⟨Nat.le_trans hH3.size hz,fun c=>by have:=K3.out.lt;omega⟩) T3.out) ?_
        rintro e y4 ⟨us,rfl,v9,b4⟩
        have V4:Hid _:=v9
        have K4:Hid (Blk y4 y1.heap.size zsh):=K3.out.later b4
        refine hKK.out _ _ (chain hH3 b4) (fun hH4 => ?_)
        clear hKK KK v9 b4
        try simp only[opon9,Act.put,wA,wB,wC]
        refine wT 10 opon10 ?_ ?_ ?_;rotate_left
        ·intro w' hSw;clear hSw;unfold opon10;first|(go_simp;done)|(go_simp;with_reducible rfl)
        simp only[opon10,Act.put,wA,wB,wC]
        refine wT 11 opon11 ?_ ?_ ?_;rotate_left
        ·intro w' hSw;clear hSw;unfold opon11;first|(go_simp;done)|(go_simp;with_reducible rfl)
        simp only[opon11,Act.put,wA,wB,wC]
        refine wT 12 opon12 ?_ ?_ ?_;rotate_left
        ·intro w' hSw;clear hSw;unfold opon12;first|(go_simp;done)|(go_simp;with_reducible rfl)
        simp only[opon12,Act.put,wA,wB,wC]
        refine wpAnyH_ready (rs:=[14]) (by kernel_rfl) (by simp) ?_
        refine AllReadyH.cons (o:=opon14) rfl (fun KK hKK => ?_) AllReadyH.nil
        obtain⟨s1,s2,s3⟩:=DN.out y4 _ us cc hH4 hP.out K4.out V4.out
        refine wp_store_run _ _ _ rfl _ rfl _ rfl _ s1 ?_
        refine hKK.out _ _ s2 (fun hHz => ?_)
        clear hKK KK
        try simp only[opon14,Act.put]
        refine wT 15 opon15 ?_ ?_ ?_;rotate_left
        ·intro w' hSw;clear hSw;unfold opon15;first|(go_simp;done)|(go_simp;with_reducible rfl)
        simp only[opon15,Act.put,wA,wB,wC]
        refine wpAnyH_done (by kernel_rfl) ?_ _
        refine NoPanic.normal ?_
        have G:Hid _:=FF.out _ s3.out.2.2.2
        have L1:Hid _:=s3.out.2.1
        have L2:Hid _:=s3.out.2.2.1
        clear FF s1 s2 s3 DN B2 RC LDS C0
        go_upto_region 10 with fail
        refine wp_region_lit ?_
        refine wpList_plain rfl (fun K2 hK2 => ?_)
        go_simp
        refine hK2 _ _ ?_
        clear hK2 K2
        refine wpList_plain rfl (fun K2 hK2=>wp_load_run _ _ rfl _ rfl _ L1.out (hK2 _ _ ?_))
        refine wpList_plain rfl (fun K2 hK2 => ?_)
        go_simp
        refine hK2 _ _ ?_
        clear hK2 K2
        refine wpList_plain rfl (fun K2 hK2 => ?_)
        go_simp
        refine hK2 _ _ ?_
        clear hK2 K2
        refine wpList_plain rfl (fun K2 hK2=>wp_store_run _ _ _ rfl _ rfl _ rfl _ L2.out (hK2 _ _ ?_))
        refine wpList_nil ?_
        go_wp2
        go_ret2
        exact G.out
      ·refine wp_alloc_run _ rfl _ _ (alloc_sh _) ?_
       have K2:Hid (Blk (y1.alloc (.cells zsh.toArray 86)) y1.heap.size zsh):=Blk.new _ zsh _ zsh_ne
       have hP:Hid (D.heap.size≤y1.heap.size):=hH1.size
       have T2:Hid (TxAt (y1.alloc (.cells zsh.toArray 86)) a8 ox.ts):=T1.out.later (nb _ _)
       refine hKK.out _ _ (chain hH1 (nb _ _)) (fun hH2 => ?_)
       clear hKK KK
       obtain⟨y2,hy2⟩:∃Y,(y1.alloc (.cells zsh.toArray 86))=Y:=⟨_,rfl⟩
       rw[hy2] at hH2 K2 T2 ⊢
       clear hy2
       try simp only[opon13,Act.put,wA,wB,wC]
       refine wpAnyH_ready (rs:=[3]) (by kernel_rfl) (by simp) ?_
       refine AllReadyH.cons (o:=opon3) rfl (fun KK hKK => ?_) AllReadyH.nil
       refine wp_load_run _ _ rfl _ rfl _ (LDS.out _ hH2) ?_
       refine hKK.out _ _ hH2 (fun hH3 => ?_)
       clear hKK KK
       try simp only[opon3,Act.put,wA,wB,wC]
       refine wpAnyH_ready (rs:=[9]) (by kernel_rfl) (by simp) ?_
       refine AllReadyH.cons (o:=opon9) rfl (fun KK hKK => ?_) AllReadyH.nil
       unfold opon9
       go_simp
       refine Calls.mono (B2.out (fun z=>D.heap.size≤z∧z≠y1.heap.size) _ a8 c8 (fun z hz=>⟨Nat.le_trans hH3.size hz,fun c=>by have:=K2.out.lt;omega⟩) T2.out) ?_
       rintro e y4 ⟨us,rfl,v9,b4⟩
       have V4:Hid _:=v9
       have K4:Hid (Blk y4 y1.heap.size zsh):=K2.out.later b4
       refine hKK.out _ _ (chain hH3 b4) (fun hH4 => ?_)
       clear hKK KK v9 b4
       try simp only[opon9,Act.put,wA,wB,wC]
       refine wT 10 opon10 ?_ ?_ ?_;rotate_left
       ·intro w' hSw;clear hSw;unfold opon10;first|(go_simp;done)|(go_simp;with_reducible rfl)
       simp only[opon10,Act.put,wA,wB,wC]
       refine wT 11 opon11 ?_ ?_ ?_;rotate_left
       ·intro w' hSw;clear hSw;unfold opon11;first|(go_simp;done)|(go_simp;with_reducible rfl)
       simp only[opon11,Act.put,wA,wB,wC]
       refine wT 12 opon12 ?_ ?_ ?_;rotate_left
       ·intro w' hSw;clear hSw;unfold opon12;first|(go_simp;done)|(go_simp;with_reducible rfl)
       simp only[opon12,Act.put,wA,wB,wC]
       refine wpAnyH_ready (rs:=[14]) (by kernel_rfl) (by simp) ?_
       refine AllReadyH.cons (o:=opon14) rfl (fun KK hKK => ?_) AllReadyH.nil
       obtain⟨s1,s2,s3⟩:=DN.out y4 _ us cc hH4 hP.out K4.out V4.out
       refine wp_store_run _ _ _ rfl _ rfl _ rfl _ s1 ?_
       refine hKK.out _ _ s2 (fun hHz => ?_)
       clear hKK KK
       try simp only[opon14,Act.put]
       refine wT 15 opon15 ?_ ?_ ?_;rotate_left
       ·intro w' hSw;clear hSw;unfold opon15;first|(go_simp;done)|(go_simp;with_reducible rfl)
       simp only[opon15,Act.put,wA,wB,wC]
       refine wpAnyH_done (by kernel_rfl) ?_ _
       refine NoPanic.normal ?_
       have G:Hid _:=FF.out _ s3.out.2.2.2
       have L1:Hid _:=s3.out.2.1
       have L2:Hid _:=s3.out.2.2.1
       clear FF s1 s2 s3 DN B2 RC LDS C0
       go_upto_region 10 with fail
       refine wp_region_lit ?_
       refine wpList_plain rfl (fun K2 hK2 => ?_)
       go_simp
       refine hK2 _ _ ?_
       clear hK2 K2
       refine wpList_plain rfl (fun K2 hK2=>wp_load_run _ _ rfl _ rfl _ L1.out (hK2 _ _ ?_))
       refine wpList_plain rfl (fun K2 hK2 => ?_)
       go_simp
       refine hK2 _ _ ?_
       clear hK2 K2
       refine wpList_plain rfl (fun K2 hK2 => ?_)
       go_simp
       refine hK2 _ _ ?_
       clear hK2 K2
       refine wpList_plain rfl (fun K2 hK2=>wp_store_run _ _ _ rfl _ rfl _ rfl _ L2.out (hK2 _ _ ?_))
       refine wpList_nil ?_
       go_wp2
       go_ret2
       exact G.out
     ·refine wp_alloc_run _ rfl _ _ (alloc_sh _) ?_
      have K1:Hid (Blk (Z.alloc (.cells zsh.toArray 86)) Z.heap.size zsh):=Blk.new _ zsh _ zsh_ne
      have hP:Hid (D.heap.size≤Z.heap.size):=hHeld.size
      refine hKK.out _ _ (chain hHeld (nb _ _)) (fun hH1 => ?_)
      clear hKK KK
      obtain⟨y1,hy1⟩:∃Y,(Z.alloc (.cells zsh.toArray 86))=Y:=⟨_,rfl⟩
      rw[hy1] at hH1 K1 ⊢
      clear hy1
      try simp only[opon13,Act.put,wA,wB,wC]
      refine wpAnyH_ready (rs:=[3,8]) (by kernel_rfl) (by simp) ?_
      refine AllReadyH.cons (o:=opon3) rfl (fun KK hKK => ?_) (AllReadyH.cons (o:=opon8) rfl (fun KK hKK => ?_) AllReadyH.nil)
      ·refine wp_load_run _ _ rfl _ rfl _ (LDS.out _ hH1) ?_
       refine hKK.out _ _ hH1 (fun hH2 => ?_)
       clear hKK KK
       try simp only[opon3,Act.put,wA,wB,wC]
       refine wpAnyH_ready (rs:=[8]) (by kernel_rfl) (by simp) ?_
       refine AllReadyH.cons (o:=opon8) rfl (fun KK hKK => ?_) AllReadyH.nil
       unfold opon8
       go_simp
       refine Calls.mono (RC.out _ hH2) ?_
       rintro e y3 ⟨a8,c8,rfl,T3,b3⟩
       have K3:Hid (Blk y3 Z.heap.size zsh):=K1.out.later b3
       refine hKK.out _ _ (chain hH2 b3) (fun hH3 => ?_)
       clear hKK KK
       try simp only[opon8,Act.put,wA,wB,wC]
       refine wpAnyH_ready (rs:=[9]) (by kernel_rfl) (by simp) ?_
       refine AllReadyH.cons (o:=opon9) rfl (fun KK hKK => ?_) AllReadyH.nil
       unfold opon9
       go_simp
       refine Calls.mono (B2.out (fun z=>D.heap.size≤z∧z≠Z.heap.size) _ a8 c8 (fun z hz=>⟨Nat.le_trans hH3.size hz,fun c=>by have:=K3.out.lt;omega⟩) T3.out) ?_
       rintro e y4 ⟨us,rfl,v9,b4⟩
       have V4:Hid _:=v9
       have K4:Hid (Blk y4 Z.heap.size zsh):=K3.out.later b4
       refine hKK.out _ _ (chain hH3 b4) (fun hH4 => ?_)
       clear hKK KK v9 b4
       try simp only[opon9,Act.put,wA,wB,wC]
       refine wT 10 opon10 ?_ ?_ ?_;rotate_left
       ·intro w' hSw;clear hSw;unfold opon10;first|(go_simp;done)|(go_simp;with_reducible rfl)
       simp only[opon10,Act.put,wA,wB,wC]
       refine wT 11 opon11 ?_ ?_ ?_;rotate_left
       ·intro w' hSw;clear hSw;unfold opon11;first|(go_simp;done)|(go_simp;with_reducible rfl)
       simp only[opon11,Act.put,wA,wB,wC]
       refine wT 12 opon12 ?_ ?_ ?_;rotate_left
       ·intro w' hSw;clear hSw;unfold opon12;first|(go_simp;done)|(go_simp;with_reducible rfl)
       simp only[opon12,Act.put,wA,wB,wC]
       refine wpAnyH_ready (rs:=[14]) (by kernel_rfl) (by simp) ?_
       refine AllReadyH.cons (o:=opon14) rfl (fun KK hKK => ?_) AllReadyH.nil
       obtain⟨s1,s2,s3⟩:=DN.out y4 _ us cc hH4 hP.out K4.out V4.out
       refine wp_store_run _ _ _ rfl _ rfl _ rfl _ s1 ?_
       refine hKK.out _ _ s2 (fun hHz => ?_)
       clear hKK KK
       try simp only[opon14,Act.put]
       refine wT 15 opon15 ?_ ?_ ?_;rotate_left
       ·intro w' hSw;clear hSw;unfold opon15;first|(go_simp;done)|(go_simp;with_reducible rfl)
       simp only[opon15,Act.put,wA,wB,wC]
       refine wpAnyH_done (by kernel_rfl) ?_ _
       refine NoPanic.normal ?_
       have G:Hid _:=FF.out _ s3.out.2.2.2
       have L1:Hid _:=s3.out.2.1
       have L2:Hid _:=s3.out.2.2.1
       clear FF s1 s2 s3 DN B2 RC LDS C0
       go_upto_region 10 with fail
       refine wp_region_lit ?_
       refine wpList_plain rfl (fun K2 hK2 => ?_)
       go_simp
       refine hK2 _ _ ?_
       clear hK2 K2
       refine wpList_plain rfl (fun K2 hK2=>wp_load_run _ _ rfl _ rfl _ L1.out (hK2 _ _ ?_))
       refine wpList_plain rfl (fun K2 hK2 => ?_)
       go_simp
       refine hK2 _ _ ?_
       clear hK2 K2
       refine wpList_plain rfl (fun K2 hK2 => ?_)
       go_simp
       refine hK2 _ _ ?_
       clear hK2 K2
       refine wpList_plain rfl (fun K2 hK2=>wp_store_run _ _ _ rfl _ rfl _ rfl _ L2.out (hK2 _ _ ?_))
       refine wpList_nil ?_
       go_wp2
       go_ret2
       exact G.out
      ·unfold opon8
       go_simp
       refine Calls.mono (RC.out _ hH1) ?_
       rintro e y2 ⟨a8,c8,rfl,T2,b2⟩
       have K2:Hid (Blk y2 Z.heap.size zsh):=K1.out.later b2
       refine hKK.out _ _ (chain hH1 b2) (fun hH2 => ?_)
       clear hKK KK
       try simp only[opon8,Act.put,wA,wB,wC]
       refine wpAnyH_ready (rs:=[3]) (by kernel_rfl) (by simp) ?_
       refine AllReadyH.cons (o:=opon3) rfl (fun KK hKK => ?_) AllReadyH.nil
       refine wp_load_run _ _ rfl _ rfl _ (LDS.out _ hH2) ?_
       refine hKK.out _ _ hH2 (fun hH3 => ?_)
       clear hKK KK
       try simp only[opon3,Act.put,wA,wB,wC]
       refine wpAnyH_ready (rs:=[9]) (by kernel_rfl) (by simp) ?_
       refine AllReadyH.cons (o:=opon9) rfl (fun KK hKK => ?_) AllReadyH.nil
       unfold opon9
       go_simp
       refine Calls.mono (B2.out (fun z=>D.heap.size≤z∧z≠Z.heap.size) _ a8 c8 (fun z hz=>⟨Nat.le_trans hH3.size hz,fun c=>by have:=K2.out.lt;omega⟩) T2.out) ?_
       rintro e y4 ⟨us,rfl,v9,b4⟩
       have V4:Hid _:=v9
       have K4:Hid (Blk y4 Z.heap.size zsh):=K2.out.later b4
       refine hKK.out _ _ (chain hH3 b4) (fun hH4 => ?_)
       clear hKK KK v9 b4
       try simp only[opon9,Act.put,wA,wB,wC]
       refine wT 10 opon10 ?_ ?_ ?_;rotate_left
       ·intro w' hSw;clear hSw;unfold opon10;first|(go_simp;done)|(go_simp;with_reducible rfl)
       simp only[opon10,Act.put,wA,wB,wC]
       refine wT 11 opon11 ?_ ?_ ?_;rotate_left
       ·intro w' hSw;clear hSw;unfold opon11;first|(go_simp;done)|(go_simp;with_reducible rfl)
       simp only[opon11,Act.put,wA,wB,wC]
       refine wT 12 opon12 ?_ ?_ ?_;rotate_left
       ·intro w' hSw;clear hSw;unfold opon12;first|(go_simp;done)|(go_simp;with_reducible rfl)
       simp only[opon12,Act.put,wA,wB,wC]
       refine wpAnyH_ready (rs:=[14]) (by kernel_rfl) (by simp) ?_
       refine AllReadyH.cons (o:=opon14) rfl (fun KK hKK => ?_) AllReadyH.nil
       obtain⟨s1,s2,s3⟩:=DN.out y4 _ us cc hH4 hP.out K4.out V4.out
       refine wp_store_run _ _ _ rfl _ rfl _ rfl _ s1 ?_
       refine hKK.out _ _ s2 (fun hHz => ?_)
       clear hKK KK
       try simp only[opon14,Act.put]
       refine wT 15 opon15 ?_ ?_ ?_;rotate_left
       ·intro w' hSw;clear hSw;unfold opon15;first|(go_simp;done)|(go_simp;with_reducible rfl)
       simp only[opon15,Act.put,wA,wB,wC]
       refine wpAnyH_done (by kernel_rfl) ?_ _
       refine NoPanic.normal ?_
       have G:Hid _:=FF.out _ s3.out.2.2.2
       have L1:Hid _:=s3.out.2.1
       have L2:Hid _:=s3.out.2.2.1
       clear FF s1 s2 s3 DN B2 RC LDS C0
       go_upto_region 10 with fail
       refine wp_region_lit ?_
       refine wpList_plain rfl (fun K2 hK2 => ?_)
       go_simp
       refine hK2 _ _ ?_
       clear hK2 K2
       refine wpList_plain rfl (fun K2 hK2=>wp_load_run _ _ rfl _ rfl _ L1.out (hK2 _ _ ?_))
       refine wpList_plain rfl (fun K2 hK2 => ?_)
       go_simp
       refine hK2 _ _ ?_
       clear hK2 K2
       refine wpList_plain rfl (fun K2 hK2 => ?_)
       go_simp
       refine hK2 _ _ ?_
       clear hK2 K2
       refine wpList_plain rfl (fun K2 hK2=>wp_store_run _ _ _ rfl _ rfl _ rfl _ L2.out (hK2 _ _ ?_))
       refine wpList_nil ?_
       go_wp2
       go_ret2
       exact G.out
   ·have h0':oe≠0:=h0
    have HR2:=HR.out
    rw[if_pos h0'] at HR2
    have FF:Hid (XoR w w0 F0 p (M:Int) r (.returned (.tuple #[.pointer none,.int .i64 oe])) w1):=xor_no HR2.symm ⟨F1,dl,nx,bf⟩
    clear HR HR2 dl nx bf OK h0
    go_wp2
    go_ret2
    exact FF.out
end Go.Proofs.YtjpaodepnacimaaGreatDoor
