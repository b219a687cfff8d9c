/- Parts: LgK,LgA,LgC,LgF. -/
import Derived.Test.YtjpaodepnacimaaGreatDoorZdG12
import Derived.Lib.AppendZeros
namespace Go.Proofs.YtjpaodepnacimaaGreatDoor
open Go.RowKit Go.Proofs.Fd Go.Proofs.Dk Go.Proofs.Lg
set_option maxRecDepth 20000
section
variable {w:World} {q p fr mn g:Nat} {v:Value} {ts:List Bs} {tk:Nat} {m:Bs} {more:List Value}
theorem Hf.grown (h:Hf w q p fr mn g v ts tk m more) {w':World} {v':Value} {us:List Bs} (k:w.grownBy w' v.ownBlock) (o:OwnsS w' v' us) (hv:v'.ownBlock=v.ownBlock∨v'.ownBlock=some w.heap.size) :
  Hf (w'.setCell ⟨q,4,none⟩ v') q p fr mn g v' us tk m more:=by
 have hq:w'.heap[q]?=w.heap[q]?:=k.block q h.bk.lt (fun e=>h.qv e.symm)
 have hn:v'.ownBlock≠some q:=fun c=>by
  rcases hv with e|e
  ·exact h.qv (e.symm.trans c)
  ·rw[e] at c
   injection c with c
   have:=h.bk.lt
   omega
 have b1:=(h.bk.same hq).set 4 (by simp) v'
 exact⟨b1,ownsRow_same o (fun x e=>Below.heap_setCell w' ⟨q,4,none⟩ v' x (fun c=>hn (by rw[e,c]))),hn⟩
end
theorem Hf.ft {w w':World} {q:Nat} {v v':Value} (hv:v'.ownBlock=v.ownBlock∨v'.ownBlock=some w'.heap.size) (hs:w.heap.size≤w'.heap.size):Nx w (HFt q v) (HFt q v'):=fun x hx=>by
 rcases hx with rfl|e
 ·exact .inl (.inl rfl)
 ·rcases hv with h|h
  ·exact .inl (.inr (h.symm.trans e))
  ·rw[h] at e
   injection e with e
   exact .inr (by omega)
structure Hs1 (w:World) (q p fr mn g:Nat) (v:Value) (ts:List Bs) (tk:Nat) (m:Bs) (more:List Value) (B:Nat) (M T:ByteArray) (W:World) (x:Value):Prop where
 hf:Hf W q p fr mn g x ts tk m more
 bk:Blk W B [.string M,.string T]
 bf:Bf (HFt q v) w W
 nx:Nx w (HFt q v) (HFt q x)
def oph0:Oper:={ dst:=some 4,op:=Go.Op.move (Go.Operand.tmp 0),type := 156, pos := "half.go:126", after:=#[],guard:=none }
def oph1:Oper:={ dst:=some 5,op:=Go.Op.move (Go.Operand.tmp 0),type := 156, pos := "half.go:126", after:=#[],guard:=none }
def oph2:Oper:={ dst:=some 6,op:=Go.Op.nilCheck (Go.Operand.tmp 5),type:=0,pos := "half.go:126", after:=#[{ on:=1,ground:=Go.Ground.data }],guard:=none }
def oph3:Oper:={ dst:=some 7,op:=Go.Op.fieldAddr 130 (Go.Operand.tmp 6) 2,type:=0,pos := "half.go:126", after:=#[{ on:=2,ground:=Go.Ground.data }],guard:=none }
def oph4:Oper:={ dst:=some 8,op:=Go.Op.load 37 (Go.Operand.tmp 7),type := 37, pos := "half.go:126", after:=#[{ on:=3,ground:=Go.Ground.data }],guard:=none }
def oph5:Oper:={ dst:=some 9,op:=Go.Op.fieldAddr 176 (Go.Operand.tmp 3) 1,type:=0,pos := "half.go:126", after:=#[],guard:=none }
def oph6:Oper:={ dst:=some 10,op:=Go.Op.load 9 (Go.Operand.tmp 9),type := 9, pos := "half.go:126", after:=#[{ on:=5,ground:=Go.Ground.data }],guard:=none }
def oph7:Oper:={ dst:=some 11,op:=Go.Op.call { callee:=Go.Callee.value (Go.Operand.func 43),args:=#[Go.Operand.tmp 10],argTypes:=#[9] },type := 9, pos := "half.go:126", after:=#[{ on:=6,ground:=Go.Ground.data }],guard:=none }
def oph8:Oper:={ dst:=some 12,op:=Go.Op.buildSlice 37 1 #[(0,Go.Operand.tmp 11)],type := 37, pos := "half.go:126", after:=#[{ on:=7,ground:=Go.Ground.data }],guard:=none }
def oph9:Oper:={ dst:=some 13,op:=Go.Op.call { callee:=Go.Callee.builtin Go.Builtin.append,args:=#[Go.Operand.tmp 8,Go.Operand.tmp 12],argTypes:=#[37, 37] },type := 37, pos := "half.go:126", after:=#[{ on:=4,ground:=Go.Ground.data },{ on:=8,ground:=Go.Ground.data },{ on:=7,ground:=Go.Ground.chain }],guard:=none }
def oph10:Oper:={ dst:=some 14,op:=Go.Op.nilCheck (Go.Operand.tmp 4),type:=0,pos := "half.go:126", after:=#[{ on:=0,ground:=Go.Ground.data },{ on:=0,ground:=Go.Ground.phase },{ on:=1,ground:=Go.Ground.phase },{ on:=2,ground:=Go.Ground.phase },{ on:=3,ground:=Go.Ground.phase },{ on:=4,ground:=Go.Ground.phase },{ on:=5,ground:=Go.Ground.phase },{ on:=6,ground:=Go.Ground.phase },{ on:=7,ground:=Go.Ground.phase },{ on:=8,ground:=Go.Ground.phase },{ on:=9,ground:=Go.Ground.phase }],guard:=none }
def oph11:Oper:={ dst:=some 15,op:=Go.Op.fieldAddr 130 (Go.Operand.tmp 14) 2,type:=0,pos := "half.go:126", after:=#[{ on:=10,ground:=Go.Ground.data },{ on:=0,ground:=Go.Ground.phase },{ on:=1,ground:=Go.Ground.phase },{ on:=2,ground:=Go.Ground.phase },{ on:=3,ground:=Go.Ground.phase },{ on:=4,ground:=Go.Ground.phase },{ on:=5,ground:=Go.Ground.phase },{ on:=6,ground:=Go.Ground.phase },{ on:=7,ground:=Go.Ground.phase },{ on:=8,ground:=Go.Ground.phase },{ on:=9,ground:=Go.Ground.phase }],guard:=none }
def oph12:Oper:={ dst:=none,op:=Go.Op.store 37 (Go.Operand.tmp 15) (Go.Operand.tmp 13),type:=0,pos := "half.go:126", after:=#[{ on:=11,ground:=Go.Ground.data },{ on:=9,ground:=Go.Ground.data },{ on:=9,ground:=Go.Ground.chain },{ on:=0,ground:=Go.Ground.phase },{ on:=1,ground:=Go.Ground.phase },{ on:=2,ground:=Go.Ground.phase },{ on:=3,ground:=Go.Ground.phase },{ on:=4,ground:=Go.Ground.phase },{ on:=5,ground:=Go.Ground.phase },{ on:=6,ground:=Go.Ground.phase },{ on:=7,ground:=Go.Ground.phase },{ on:=8,ground:=Go.Ground.phase },{ on:=9,ground:=Go.Ground.phase }],guard:=none }
set_option maxHeartbeats 2000000 in
theorem lhas_any (q p fr mn g:Nat) (v:Value) (ts:List Bs) (tk:Nat) (m:Bs) (more:List Value) (m' t:Bs) (ht:t.length≤2000) (hts:ts.length≤100000) (htk:tk≤100000) (w:World) (h:Hid (Hf w q p fr mn g v ts tk m more)) :
  Calls Tryz.prog 126 #[.pointer (some ⟨q,0,none⟩),rv m' t] w fun e w'=>e = .returned (.tuple #[])∧∃v',Hf w' q p fr mn g v' (ts++[t]) (tk+sn t) m' more∧Bf (HFt q v) w w'∧Nx w (HFt q v) (HFt q v'):=by
 obtain⟨va,vn,vc,rfl⟩:=owns_sliceS h.out.row
 have CL:Hid (∀w,Calls Tryz.prog 43 #[.string (st t)] w fun e w'=>e = .returned (.string (st t))∧Below w.heap.size w w'):=fun w=>sclone_any (st t) (by rw[st_size];omega) w
 have SO:Hid (∀w,Calls Tryz.prog 90 #[.string (st t)] w fun e w'=>e = .returned (.int .i64 (sn t:Int))∧w'=w):=fun w=>lsectorsOf_any t (by omega) w
 have hsn:sn t≤100:=by unfold sn;omega
 obtain⟨n,hn⟩:∃n,sn t=n:=⟨_,rfl⟩
 rw[hn] at SO hsn ⊢
 clear hn
 have HT:Hid (.string (st t)=sv t):=(rfl:Value.string (st t)=sv t)
 have HM:Hid (.string (st m')=sv m'):=(rfl:Value.string (st m')=sv m')
 unfold rv
 unfold sv
 obtain⟨T,hT⟩:∃T,st t=T:=⟨_,rfl⟩
 obtain⟨M,hM⟩:∃M,st m'=M:=⟨_,rfl⟩
 rw[hT] at CL SO HT ⊢
 rw[hM] at HM ⊢
 clear hT hM ht
 have hB:Hid (w.heap.size≠q):=fun e=>by have:=h.out.bk.lt;omega
 have HNB:Hid ((Value.slice va vn vc).ownBlock≠some w.heap.size):=fun e=>Nat.lt_irrefl _ (h.out.row.lt _ e).2
 have I0:Hid (Hs1 w q p fr mn g (.slice va vn vc) ts tk m more w.heap.size M T (w.alloc (.cells #[.string M,.string T] 176)).drew (.slice va vn vc)) :=
  ⟨h.out.later (nb _ _).drew,(Blk.new w [.string M,.string T] 176 (by simp)).drew,Bf.of (nb _ _).drew,Nx.refl _ _⟩
 go_enter Tryz.func126, Tryz.ntmps126
 go_wp2_with fail
 obtain⟨W,hW⟩:∃W,w.alloc (.cells #[.string M,.string T] 176)=W:=⟨_,rfl⟩
 have b1:W.cell? ⟨w.heap.size,1,none⟩=some (.string T):=by rw[←hW,World.cell?_alloc_new];rfl
 rw[hW] at I0 ⊢
 clear hW
 obtain⟨B,hBB⟩:∃B,w.heap.size=B:=⟨_,rfl⟩
 rw[hBB] at I0 hB b1 HNB ⊢
 have HBB:Hid (w.heap.size=B):=hBB
 clear hBB h
 have CK:Hid (∀V,Below W.drew.heap.size W.drew V→V.cell? ⟨q,4,none⟩=some (.slice va vn vc)):=fun V hb=>(I0.out.hf.later hb).bk.c 4 _ rfl
 have AA:Hid (∀V,Below W.drew.heap.size W.drew V→∃xa xn xc w',(Builtin.append_ #[37, 37] 37 #[.slice va vn vc,.slice (some ⟨V.heap.size,0,none⟩) 1 1]).run Tryz.prog (V.alloc (.cells #[.string T] 9)) = .ok (.slice xa xn xc) w'∧Hid (w'.cell? ⟨q,4,none⟩=some (.slice va vn vc)∧w'.frozen? ⟨q,4,none⟩=false∧w'.cell? ⟨B,1,none⟩=some (.string T)∧Hs1 w q p fr mn g (.slice va vn vc) (ts++[t]) tk m more B M T (w'.setCell ⟨q,4,none⟩ (.slice xa xn xc)) (.slice xa xn xc))):=by
  intro V hb
  have hb2:=chain hb (nb V (.cells #[.string T] 9))
  have k1:=I0.out.hf.later hb2
  have k2:=I0.out.bk.later hb2
  obtain⟨v',w',r1,r2,r3,r4⟩:=app_str (V.alloc (.cells #[.string T] 9)) 37 (.slice va vn vc) ts k1.row (by omega) t V.heap.size (by rw[←HT.out,World.cell?_alloc_new];rfl)
  obtain⟨xa,xn,xc,rfl⟩:=owns_sliceS r2
  have hq:w'.heap[q]?=(V.alloc (.cells #[.string T] 9)).heap[q]?:=r3.block q k1.bk.lt (fun e=>k1.qv e.symm)
  have hnB:some B≠(Value.slice va vn vc).ownBlock:=fun e=>HNB.out e.symm
  have hBB:w'.heap[B]?=(V.alloc (.cells #[.string T] 9)).heap[B]?:=r3.block B k2.lt hnB
  have bW:Bf (HFt q (.slice va vn vc)) w (V.alloc (.cells #[.string T] 9)):=I0.out.bf.later hb2
  refine⟨xa,xn,xc,w',r1,?_,?_,?_,⟨k1.grown r3 r2 r4,?_,?_,?_⟩⟩
  ·exact (World.cell?_of_block (a:=⟨q,4,none⟩) hq).trans (k1.bk.c 4 _ rfl)
  ·exact (World.frozen?_of_block (a:=⟨q,4,none⟩) hq).trans (k1.bk.f 4)
  ·exact (World.cell?_of_block (a:=⟨B,1,none⟩) hBB).trans (k2.c 1 _ rfl)
  ·exact (k2.same hBB).same (Below.heap_setCell w' ⟨q,4,none⟩ _ B hB.out)
  ·exact bf_set (bW.trans (Nx.refl _ _) (Bf.grown (F:=HFt q (.slice va vn vc)) r3 (fun x e => .inl (.inr e)))) (.inl rfl)
  ·exact Hf.ft r4 bW.size
 have TL:Hid (∀W x,Hs1 w q p fr mn g (.slice va vn vc) (ts++[t]) tk m more B M T W x→Hf ((W.drew.setCell ⟨q,5,none⟩ (.int .i64 ((tk+n:Nat):Int))).setCell ⟨q,6,none⟩ (.string M)) q p fr mn g x (ts++[t]) (tk+n) m' more∧Bf (HFt q (.slice va vn vc)) w ((W.drew.setCell ⟨q,5,none⟩ (.int .i64 ((tk+n:Nat):Int))).setCell ⟨q,6,none⟩ (.string M))∧Nx w (HFt q (.slice va vn vc)) (HFt q x)):=fun W x k=>by
  rw[HM.out]
  exact⟨((k.hf.later (Below.refl _ _).drew).setTk _).setMk m',bf_set (bf_set (k.bf.later (Below.refl _ _).drew) (.inl rfl)) (.inl rfl),k.nx⟩
 have e1:((tk+n:Nat):Int)=(tk:Int)+(n:Int):=by omega
 rw[e1] at TL
 have y1:IntKind.i64.wrap ((tk:Int)+(n:Int))=(tk:Int)+(n:Int):=by rw[IntKind.wrap_i64];omega
 clear e1 HT HM
 refine wp_region_noPanic ?_
 refine wp_region_held_drew (S:=fun w'=>w'.cell? ⟨B,1,none⟩=some (.string T)) (by kernel_rfl) (b1) (fun hHeld => ?_)
 obtain⟨Z,hZ⟩:∃Z,W.drew=Z:=⟨_,rfl⟩
 rw[hZ] at hHeld CK AA I0 ⊢
 clear hZ b1 I0
 refine wT 0 oph0 ?_ ?_ ?_;rotate_left
 ·intro w' hSw;clear hSw;unfold oph0;first|(go_simp;done)|(go_simp;with_reducible rfl)
 simp only[oph0,Act.put,wA,wB,wC]
 refine wT 1 oph1 ?_ ?_ ?_;rotate_left
 ·intro w' hSw;clear hSw;unfold oph1;first|(go_simp;done)|(go_simp;with_reducible rfl)
 simp only[oph1,Act.put,wA,wB,wC]
 refine wT 2 oph2 ?_ ?_ ?_;rotate_left
 ·intro w' hSw;clear hSw;unfold oph2;first|(go_simp;done)|(go_simp;with_reducible rfl)
 simp only[oph2,Act.put,wA,wB,wC]
 refine wT 3 oph3 ?_ ?_ ?_;rotate_left
 ·intro w' hSw;clear hSw;unfold oph3;first|(go_simp;done)|(go_simp;with_reducible rfl)
 simp only[oph3,Act.put,wA,wB,wC]
 refine wT 5 oph5 ?_ ?_ ?_;rotate_left
 ·intro w' hSw;clear hSw;unfold oph5;first|(go_simp;done)|(go_simp;with_reducible rfl)
 simp only[oph5,Act.put,wA,wB,wC]
 refine wT 6 oph6 ?_ ?_ ?_;rotate_left
 ·intro w' hSw;have s1:=hSw;unfold oph6;first|(go_simp;done)|(go_simp;with_reducible rfl)
 simp only[oph6,Act.put,wA,wB,wC]
 refine wpAnyH_ready (rs:=[4,7]) (by kernel_rfl) (by simp) ?_
 refine AllReadyH.cons (o:=oph4) rfl (fun KK hKK => ?_) (AllReadyH.cons (o:=oph7) rfl (fun KK hKK => ?_) AllReadyH.nil)
 ·have lc:=CK.out _ (Below.refl _ _)
  unfold oph4
  go_simp
  refine hKK.out _ _ hHeld (fun hHeldL => ?_)
  clear hKK KK lc
  refine wpAnyH_ready (rs:=[7]) (by kernel_rfl) (by simp) ?_
  refine AllReadyH.cons (o:=oph7) rfl (fun KK hKK => ?_) AllReadyH.nil
  unfold oph7
  go_simp
  refine Calls.mono (CL.out _) ?_
  rintro e w1 ⟨rfl,hb1⟩
  refine hKK.out _ _ (cell_later hb1 hHeldL) (fun hHeldC => ?_)
  clear hKK KK
  refine wpAnyH_ready (rs:=[8]) (by kernel_rfl) (by simp) ?_
  refine AllReadyH.cons (o:=oph8) rfl (fun KK hKK => ?_) AllReadyH.nil
  unfold oph8
  go_simp
  refine hKK.out _ _ (cell_alloc hHeldC) (fun hHeldB => ?_)
  clear hKK KK
  refine wpAnyH_ready (rs:=[9]) (by kernel_rfl) (by simp) ?_
  refine AllReadyH.cons (o:=oph9) rfl (fun KK hKK => ?_) AllReadyH.nil
  obtain⟨xa,xn,xc,w',hr,AO⟩:=AA.out w1 hb1
  rw[if_pos (by kernel_rfl)]
  refine Go.Lib.wp_append_run _ _ _ _ _ rfl _ _ rfl rfl _ _ hr ?_
  refine hKK.out _ _ AO.out.2.2.1 (fun hHeldA => ?_)
  clear hKK KK hr
  simp only[oph9,Act.put,wA,wB,wC]
  refine wT 10 oph10 ?_ ?_ ?_;rotate_left
  ·intro w' hSw;clear hSw;unfold oph10;first|(go_simp;done)|(go_simp;with_reducible rfl)
  simp only[oph10,Act.put,wA,wB,wC]
  refine wT 11 oph11 ?_ ?_ ?_;rotate_left
  ·intro w' hSw;clear hSw;unfold oph11;first|(go_simp;done)|(go_simp;with_reducible rfl)
  simp only[oph11,Act.put,wA,wB,wC]
  refine wpAnyH_ready (rs:=[12]) (by kernel_rfl) (by simp) ?_
  refine AllReadyH.cons (o:=oph12) rfl (fun KK hKK => ?_) AllReadyH.nil
  have sc:=AO.out.1
  have sf:=AO.out.2.1
  unfold oph12
  go_simp
  refine hKK.out _ _ (cell_setCell hHeldA (Ne.symm hB.out)) (fun hHeldS => ?_)
  clear hKK KK sc sf
  refine wpAnyH_done (by kernel_rfl) ?_ _
  refine NoPanic.normal ?_
  have R1:Hid _:=AO.out.2.2.2
  clear AO AA CK CL
  obtain⟨V,hV⟩:∃V,w'.setCell ⟨q,4,none⟩ (.slice xa xn xc)=V:=⟨_,rfl⟩
  rw[hV] at R1 ⊢
  have k5:=R1.out.hf.bk.c 5 _ rfl
  have k6:=R1.out.hf.bk.c 6 _ rfl
  have kf:=R1.out.hf.bk.f
  have r0:=R1.out.bk.c 0 _ rfl
  have r1:=R1.out.bk.c 1 _ rfl
  have hne:=hB.out
  have FF:Hid _:=TL.out V _ R1.out
  clear R1 TL hV
  go_wp2_with fail
  go_region_with (first|(go_at_call 90;refine Calls.mono (SO.out _) ?_;rintro e w3 ⟨rfl,rfl⟩))
  all_goals
   go_wp2
   go_end0
   exact⟨rfl,_,FF.out⟩
 ·unfold oph7
  go_simp
  refine Calls.mono (CL.out _) ?_
  rintro e w1 ⟨rfl,hb1⟩
  refine hKK.out _ _ (cell_later hb1 hHeld) (fun hHeldC => ?_)
  clear hKK KK
  refine wpAnyH_ready (rs:=[4,8]) (by kernel_rfl) (by simp) ?_
  refine AllReadyH.cons (o:=oph4) rfl (fun KK hKK => ?_) (AllReadyH.cons (o:=oph8) rfl (fun KK hKK => ?_) AllReadyH.nil)
  ·have lc:=CK.out w1 hb1
   unfold oph4
   go_simp
   refine hKK.out _ _ hHeldC (fun hHeldL => ?_)
   clear hKK KK lc
   refine wpAnyH_ready (rs:=[8]) (by kernel_rfl) (by simp) ?_
   refine AllReadyH.cons (o:=oph8) rfl (fun KK hKK => ?_) AllReadyH.nil
   unfold oph8
   go_simp
   refine hKK.out _ _ (cell_alloc hHeldL) (fun hHeldB => ?_)
   clear hKK KK
   refine wpAnyH_ready (rs:=[9]) (by kernel_rfl) (by simp) ?_
   refine AllReadyH.cons (o:=oph9) rfl (fun KK hKK => ?_) AllReadyH.nil
   obtain⟨xa,xn,xc,w',hr,AO⟩:=AA.out w1 hb1
   rw[if_pos (by kernel_rfl)]
   refine Go.Lib.wp_append_run _ _ _ _ _ rfl _ _ rfl rfl _ _ hr ?_
   refine hKK.out _ _ AO.out.2.2.1 (fun hHeldA => ?_)
   clear hKK KK hr
   simp only[oph9,Act.put,wA,wB,wC]
   refine wT 10 oph10 ?_ ?_ ?_;rotate_left
   ·intro w' hSw;clear hSw;unfold oph10;first|(go_simp;done)|(go_simp;with_reducible rfl)
   simp only[oph10,Act.put,wA,wB,wC]
   refine wT 11 oph11 ?_ ?_ ?_;rotate_left
   ·intro w' hSw;clear hSw;unfold oph11;first|(go_simp;done)|(go_simp;with_reducible rfl)
   simp only[oph11,Act.put,wA,wB,wC]
   refine wpAnyH_ready (rs:=[12]) (by kernel_rfl) (by simp) ?_
   refine AllReadyH.cons (o:=oph12) rfl (fun KK hKK => ?_) AllReadyH.nil
   have sc:=AO.out.1
   have sf:=AO.out.2.1
   unfold oph12
   go_simp
   refine hKK.out _ _ (cell_setCell hHeldA (Ne.symm hB.out)) (fun hHeldS => ?_)
   clear hKK KK sc sf
   refine wpAnyH_done (by kernel_rfl) ?_ _
   refine NoPanic.normal ?_
   have R1:Hid _:=AO.out.2.2.2
   clear AO AA CK CL
   obtain⟨V,hV⟩:∃V,w'.setCell ⟨q,4,none⟩ (.slice xa xn xc)=V:=⟨_,rfl⟩
   rw[hV] at R1 ⊢
   have k5:=R1.out.hf.bk.c 5 _ rfl
   have k6:=R1.out.hf.bk.c 6 _ rfl
   have kf:=R1.out.hf.bk.f
   have r0:=R1.out.bk.c 0 _ rfl
   have r1:=R1.out.bk.c 1 _ rfl
   have hne:=hB.out
   have FF:Hid _:=TL.out V _ R1.out
   clear R1 TL hV
   go_wp2_with fail
   go_region_with (first|(go_at_call 90;refine Calls.mono (SO.out _) ?_;rintro e w3 ⟨rfl,rfl⟩))
   all_goals
    go_wp2
    go_end0
    exact⟨rfl,_,FF.out⟩
  ·unfold oph8
   go_simp
   refine hKK.out _ _ (cell_alloc hHeldC) (fun hHeldB => ?_)
   clear hKK KK
   refine wpAnyH_ready (rs:=[4]) (by kernel_rfl) (by simp) ?_
   refine AllReadyH.cons (o:=oph4) rfl (fun KK hKK => ?_) AllReadyH.nil
   have lc:=CK.out _ (chain hb1 (nb w1 (.cells #[.string T] 9)))
   unfold oph4
   go_simp
   refine hKK.out _ _ hHeldB (fun hHeldL => ?_)
   clear hKK KK lc
   refine wpAnyH_ready (rs:=[9]) (by kernel_rfl) (by simp) ?_
   refine AllReadyH.cons (o:=oph9) rfl (fun KK hKK => ?_) AllReadyH.nil
   obtain⟨xa,xn,xc,w',hr,AO⟩:=AA.out w1 hb1
   rw[if_pos (by kernel_rfl)]
   refine Go.Lib.wp_append_run _ _ _ _ _ rfl _ _ rfl rfl _ _ hr ?_
   refine hKK.out _ _ AO.out.2.2.1 (fun hHeldA => ?_)
   clear hKK KK hr
   simp only[oph9,Act.put,wA,wB,wC]
   refine wT 10 oph10 ?_ ?_ ?_;rotate_left
   ·intro w' hSw;clear hSw;unfold oph10;first|(go_simp;done)|(go_simp;with_reducible rfl)
   simp only[oph10,Act.put,wA,wB,wC]
   refine wT 11 oph11 ?_ ?_ ?_;rotate_left
   ·intro w' hSw;clear hSw;unfold oph11;first|(go_simp;done)|(go_simp;with_reducible rfl)
   simp only[oph11,Act.put,wA,wB,wC]
   refine wpAnyH_ready (rs:=[12]) (by kernel_rfl) (by simp) ?_
   refine AllReadyH.cons (o:=oph12) rfl (fun KK hKK => ?_) AllReadyH.nil
   have sc:=AO.out.1
   have sf:=AO.out.2.1
   unfold oph12
   go_simp
   refine hKK.out _ _ (cell_setCell hHeldA (Ne.symm hB.out)) (fun hHeldS => ?_)
   clear hKK KK sc sf
   refine wpAnyH_done (by kernel_rfl) ?_ _
   refine NoPanic.normal ?_
   have R1:Hid _:=AO.out.2.2.2
   clear AO AA CK CL
   obtain⟨V,hV⟩:∃V,w'.setCell ⟨q,4,none⟩ (.slice xa xn xc)=V:=⟨_,rfl⟩
   rw[hV] at R1 ⊢
   have k5:=R1.out.hf.bk.c 5 _ rfl
   have k6:=R1.out.hf.bk.c 6 _ rfl
   have kf:=R1.out.hf.bk.f
   have r0:=R1.out.bk.c 0 _ rfl
   have r1:=R1.out.bk.c 1 _ rfl
   have hne:=hB.out
   have FF:Hid _:=TL.out V _ R1.out
   clear R1 TL hV
   go_wp2_with fail
   go_region_with (first|(go_at_call 90;refine Calls.mono (SO.out _) ?_;rintro e w3 ⟨rfl,rfl⟩))
   all_goals
    go_wp2
    go_end0
    exact⟨rfl,_,FF.out⟩
structure HD (w wr:World) (p:Nat) (F:Nat→Prop) (s:St) (q fr mn g:Nat) (v:Value) (ts:List Bs) (tk:Nat) (m:Bs) (more:List Value):Prop where
 dl:Dl w wr p F s
 hf:Hf wr q p fr mn g v ts tk m more
 ap:∀x,HFt q v x→¬F x∧w.heap.size≤x
def FH (F:Nat→Prop) (q:Nat) (v:Value) (x:Nat):Prop:=F x∨HFt q v x
section
variable {w wr:World} {p:Nat} {F:Nat→Prop} {s:St} {q fr mn g:Nat} {v:Value} {ts:List Bs} {tk:Nat} {m:Bs} {more:List Value}
theorem HD.later (h:HD w wr p F s q fr mn g v ts tk m more) {w':World} (hb:Below wr.heap.size wr w'):HD w w' p F s q fr mn g v ts tk m more:=⟨h.dl.later hb,h.hf.later hb,h.ap⟩
theorem HD.disk (h:HD w wr p F s q fr mn g v ts tk m more) {w':World} {F':Nat→Prop} {s':St} (k:Dl w w' p F' s') (hx:Nx wr F F') (hb:Bf F wr w'):HD w w' p F' s' q fr mn g v ts tk m more :=
 ⟨k,h.hf.bf hb (fun x hx=>(h.ap x hx).1),fun x hh=>⟨hx.apart (h.ap x hh).1 (h.hf.lt hh),(h.ap x hh).2⟩⟩
theorem HD.half (h:HD w wr p F s q fr mn g v ts tk m more) {w':World} {v':Value} {ts':List Bs} {tk' g' fr' mn':Nat} {m':Bs} {more':List Value} (k:Hf w' q p fr' mn' g' v' ts' tk' m' more') (hb:Bf (HFt q v) wr w') (hx:Nx wr (HFt q v) (HFt q v')):HD w w' p F s q fr' mn' g' v' ts' tk' m' more' :=
 ⟨⟨h.dl.at_.other hb (fun x hF hc=>(h.ap x hc).1 hF),h.dl.new,h.dl.below.trans (hb.below (fun x hc=>(h.ap x hc).2) h.dl.below.size)⟩,k,fun x hh=>by
  rcases hx x hh with e|e
  ·exact h.ap x e
  ·exact⟨fun c=>Nat.not_lt.2 e (h.dl.at_.lt c),Nat.le_trans h.dl.below.size e⟩⟩
theorem HD.kh (h:HD w wr p F s q fr mn g v ts tk m more) (hk:Kh w):Kh wr:=hk.later h.dl.below
end
theorem FH.left {F F':Nat→Prop} {q:Nat} {v:Value} {w:World} (h:Nx w F F'):Nx w (FH F q v) (FH F' q v):=fun x hx=>by
 rcases hx with e|e
 ·rcases h x e with e|e
  ·exact .inl (.inl e)
  ·exact .inr e
 ·exact .inl (.inr e)
theorem Bf.wide {F G:Nat→Prop} {w w':World} (h:Bf F w w') (hw:∀x,F x→G x):Bf G w w':=⟨h.os,h.tape,h.output,h.size,fun x hx hG=>h.block x hx (fun c=>hG (hw x c))⟩
def Nx2 (w:World) (F:Nat→Prop) (q:Nat) (v:Value) (F':Nat→Prop) (v':Value):Prop:=Nx w F F'∧Nx w (HFt q v) (HFt q v')
theorem Nx2.fh {w:World} {F F':Nat→Prop} {q:Nat} {v v':Value} (h:Nx2 w F q v F' v'):Nx w (FH F q v) (FH F' q v'):=fun x hx=>by
 rcases hx with e|e
 ·rcases h.1 x e with e|e
  ·exact .inl (.inl e)
  ·exact .inr e
 ·rcases h.2 x e with e|e
  ·exact .inl (.inr e)
  ·exact .inr e
theorem Nx2.refl (w:World) (F:Nat→Prop) (q:Nat) (v:Value):Nx2 w F q v F v:=⟨Nx.refl _ _,Nx.refl _ _⟩
theorem Nx2.trans {w w':World} {F F' F'':Nat→Prop} {q:Nat} {v v' v'':Value} (h:Nx2 w F q v F' v') (k:Nx2 w' F' q v' F'' v'') (hs:w.heap.size≤w'.heap.size):Nx2 w F q v F'' v'':=⟨h.1.trans k.1 hs,h.2.trans k.2 hs⟩
def AdP (w wr:World) (p:Nat) (F:Nat→Prop) (q fr mn g:Nat) (v:Value) (ts:List Bs) (tk:Nat) (m:Bs) (more:List Value) (t:Bs) (y:Int×St) (w':World):Prop :=
 ∃F' v',Nx2 wr F q v F' v'∧Bf (FH F q v) wr w'∧(y.1=0∧HD w w' p F' y.2 q fr mn g v' (ts++[t]) (tk+sn t) (rmk m t) more∨y.1≠0∧HD w w' p F' y.2 q fr mn g v' ts tk m more)
theorem keepA {wa wb:World} {q:Nat} {x0 x1 x2 x5:Value} {B:Nat} {y0 y1:Value} (hb:Below wa.heap.size wa wb) (h:wa.cell? ⟨q,0,none⟩=some x0∧wa.cell? ⟨q,1,none⟩=some x1∧wa.cell? ⟨q,2,none⟩=some x2∧wa.cell? ⟨q,5,none⟩=some x5∧wa.cell? ⟨B,0,none⟩=some y0∧wa.cell? ⟨B,1,none⟩=some y1) :
  wb.cell? ⟨q,0,none⟩=some x0∧wb.cell? ⟨q,1,none⟩=some x1∧wb.cell? ⟨q,2,none⟩=some x2∧wb.cell? ⟨q,5,none⟩=some x5∧wb.cell? ⟨B,0,none⟩=some y0∧wb.cell? ⟨B,1,none⟩=some y1 :=
 ⟨cell_later hb h.1,cell_later hb h.2.1,cell_later hb h.2.2.1,cell_later hb h.2.2.2.1,cell_later hb h.2.2.2.2.1,cell_later hb h.2.2.2.2.2⟩
theorem keepWr {w wa wb:World} {p:Nat} {F:Nat→Prop} {s:St} {q:Nat} {x0 x1 x2 x5:Value} {B:Nat} {y0 y1:Value} (hq:¬F q) (hB:¬F B) (hd:Ds w wa p F s wb) (h:wa.cell? ⟨q,0,none⟩=some x0∧wa.cell? ⟨q,1,none⟩=some x1∧wa.cell? ⟨q,2,none⟩=some x2∧wa.cell? ⟨q,5,none⟩=some x5∧wa.cell? ⟨B,0,none⟩=some y0∧wa.cell? ⟨B,1,none⟩=some y1) :
  wb.cell? ⟨q,0,none⟩=some x0∧wb.cell? ⟨q,1,none⟩=some x1∧wb.cell? ⟨q,2,none⟩=some x2∧wb.cell? ⟨q,5,none⟩=some x5∧wb.cell? ⟨B,0,none⟩=some y0∧wb.cell? ⟨B,1,none⟩=some y1:=by
 obtain⟨F',-,-,hb⟩:=hd
 exact⟨hb.cell h.1 hq,hb.cell h.2.1 hq,hb.cell h.2.2.1 hq,hb.cell h.2.2.2.1 hq,hb.cell h.2.2.2.2.1 hB,hb.cell h.2.2.2.2.2 hB⟩
set_option maxHeartbeats 4000000 in
theorem ladd_any (w va:World) (p:Nat) (F:Nat→Prop) (s:St) (q fr mn g:Nat) (v:Value) (ts:List Bs) (tk:Nat) (m:Bs) (more:List Value) (t:Bs) (hm:m.length=16) (ht:t.length≤2000) (hts:ts.length≤100000) (hz:fr+tk≤4000) (hl:s.l.length+100≤1000000) (hk:Hid (Kh w)) (h:Hid (HD w va p F s q fr mn g v ts tk m more)) :
  Calls Tryz.prog 91 #[.pointer (some ⟨q,0,none⟩),sv t] va fun e w'=>e = .returned (.int .i64 (wrb s (fr+tk) (rcd m t)).1)∧AdP w va p F q fr mn g v ts tk m more t (wrb s (fr+tk) (rcd m t)) w':=by
 have NX:Hid (∀W,Kh W→Calls Tryz.prog 124 #[.string (st m),.string (st t)] W fun e w'=>e = .returned (.agg #[.string (st (rmk m t)),.string (st t)])∧Below W.heap.size W w'):=fun W h=>lnext_any m t hm ht W h
 have SC:Hid (∀W,Calls Tryz.prog 125 #[.agg #[.string (st (rmk m t)),.string (st t)]] W fun e w'=>e = .returned (.string (st (rcd m t)))∧Below W.heap.size W w'):=fun W=>lsectors_any (rmk m t) t rfl ht W
 have hsn:sn t≤100:=by unfold sn;omega
 have WR:Hid (∀W F,Dl w W p F s→Calls Tryz.prog 106 #[plc p fr mn,.int .i64 (tk:Int),.string (st (rcd m t))] W fun e w'=>e = .returned (.int .i64 (wrb s (fr+tk) (rcd m t)).1)∧Ds w W p F (wrb s (fr+tk) (rcd m t)).2 w'):=fun W F k=>lwrite_any w W p F s fr tk mn (rcd m t) (sn t) (rcd_len m t) hsn hz (by omega) k
 have HS:Hid (∀W F s v,HD w W p F s q fr mn g v ts tk m more→Calls Tryz.prog 126 #[.pointer (some ⟨q,0,none⟩),.agg #[.string (st (rmk m t)),.string (st t)]] W fun e w'=>e = .returned (.tuple #[])∧∃v',HD w w' p F s q fr mn g v' (ts++[t]) (tk+sn t) (rmk m t) more∧Bf (HFt q v) W w'∧Nx W (HFt q v) (HFt q v')):=fun W F s v k =>
  (lhas_any q p fr mn g v ts tk m more (rmk m t) t ht hts (by omega) W k.hf).mono fun _ _ ⟨he,v',h1,h2,h3⟩=>⟨he,v',k.half h1 h2 h3,h2,h3⟩
 obtain⟨y,hy⟩:∃y,wrb s (fr+tk) (rcd m t)=y:=⟨_,rfl⟩
 obtain⟨x,hx⟩:∃x,y.1=x:=⟨_,rfl⟩
 rw[hy,hx] at WR ⊢
 unfold plc sv at *
 obtain⟨T,hT⟩:∃T,st t=T:=⟨_,rfl⟩
 obtain⟨A,hA⟩:∃A,st m=A:=⟨_,rfl⟩
 obtain⟨M,hM⟩:∃M,st (rmk m t)=M:=⟨_,rfl⟩
 obtain⟨R,hR⟩:∃R,st (rcd m t)=R:=⟨_,rfl⟩
 rw[hT,hM] at NX SC HS
 rw[hA] at NX
 rw[hR] at SC WR
 rw[hT]
 have k6:va.cell? ⟨q,6,none⟩=some (.string A):=by rw[←hA];exact h.out.hf.bk.c 6 _ rfl
 have HX:Hid (y.1=x):=hx
 clear hT hA hM hR hy hx hm ht hts hl
 go_enter Tryz.func91, Tryz.ntmps91
 go_wp2_with fail
 refine Calls.mono (NX.out _ (h.out.kh hk.out)) ?_
 rintro e w1 ⟨rfl,hb⟩
 have I1:Hid (HD w (w1.alloc (.cells #[.string M,.string T] 176)) p F s q fr mn g v ts tk m more∧Below va.heap.size va (w1.alloc (.cells #[.string M,.string T] 176))):=⟨(h.out.later hb).later (nb _ _),chain hb (nb _ _)⟩
 have J1:Hid (Blk (w1.alloc (.cells #[.string M,.string T] 176)) w1.heap.size [.string M,.string T]):=Blk.new w1 [.string M,.string T] _ (by simp)
 obtain⟨B,hB⟩:∃B,w1.heap.size=B:=⟨_,rfl⟩
 have NF:Hid (∀x,FH F q v x→x≠B):=fun x hx e=>by
  have hl:x < w1.heap.size:=by
   rcases hx with c|c
   ·exact (h.out.later hb).dl.at_.lt c
   ·exact (h.out.later hb).hf.lt c
  omega
 clear hb h k6 NX
 go_wp2_with fail
 obtain⟨V,hV⟩:∃V,w1.alloc (.cells #[.string M,.string T] 176)=V:=⟨_,rfl⟩
 rw[hB] at J1
 rw[hV] at I1 J1 ⊢
 clear hB hV
 have c0:=I1.out.1.hf.bk.c 0 _ rfl
 have c1:=I1.out.1.hf.bk.c 1 _ rfl
 have c2:=I1.out.1.hf.bk.c 2 _ rfl
 have c5:=I1.out.1.hf.bk.c 5 _ rfl
 have r0:=J1.out.c 0 _ rfl
 have r1:=J1.out.c 1 _ rfl
 have NQ:Hid (¬F q):=(I1.out.1.ap q (.inl rfl)).1
 have NB:Hid (¬F B):=fun c=>NF.out B (.inl c) rfl
 have D1:Hid (∀W,Below V.drew.heap.size V.drew W→HD w W p F s q fr mn g v ts tk m more∧Bf (FH F q v) va W∧Blk W B [.string M,.string T]):=fun W hb=>⟨(I1.out.1.later (Below.refl _ _).drew).later hb,Bf.of (chd I1.out.2 hb),J1.out.drew.later hb⟩
 clear I1 J1
 go_region_held3 (fun w'=>w'.cell? ⟨q,0,none⟩=some (.pointer (some ⟨p,0,none⟩))∧w'.cell? ⟨q,1,none⟩=some (.int .i64 (fr:Int))∧w'.cell? ⟨q,2,none⟩=some (.int .i64 (mn:Int))∧w'.cell? ⟨q,5,none⟩=some (.int .i64 (tk:Int))∧w'.cell? ⟨B,0,none⟩=some (.string M)∧w'.cell? ⟨B,1,none⟩=some (.string T)) (first|exact⟨c0,c1,c2,c5,r0,r1⟩|assumption|exact keepA (by assumption) (by assumption)|exact keepWr NQ.out NB.out (by assumption) (by assumption)) (first|(go_at_call 125;refine Calls.mono (SC.out _) ?_;rintro e w2 ⟨rfl,hb2⟩)|(go_at_call 106;refine Calls.mono (WR.out _ _ (D1.out _ (by assumption)).1.dl) ?_;rintro e w3 ⟨rfl,hd3⟩))
 have D2:=D1.out w2 hb2
 obtain⟨F3,d1,d2,d3⟩:=hd3
 have I3:Hid (HD w w3 p F3 y.2 q fr mn g v ts tk m more∧Bf (FH F q v) va w3∧Nx2 va F q v F3 v):=⟨D2.1.disk d1 d2 d3,D2.2.1.trans (Nx.refl _ _) (d3.wide fun _ c => .inl c),(Nx.refl va _).trans d2 D2.2.1.size,Nx.refl _ _⟩
 have J3:Hid (Blk w3 B [.string M,.string T]):=D2.2.2.bf d3 NB.out
 clear D1 D2 d1 d2 d3 hb2 WR SC c0 c1 c2 c5 r0 r1 NQ NB 
 by_cases h0:x=0
 ·subst h0
  have r0:=J3.out.c 0 _ rfl
  have r1:=J3.out.c 1 _ rfl
  have H4:Hid _:=HS.out w3 F3 y.2 v I3.out.1
  clear HS J3
  go_wp2_with fail
  refine Calls.mono H4.out ?_
  rintro e w4 ⟨rfl,v4,h1,h2,h3⟩
  have FF:Hid (AdP w va p F q fr mn g v ts tk m more t y w4):=⟨F3,v4,I3.out.2.2.trans ⟨Nx.refl _ _,h3⟩ I3.out.2.1.size,I3.out.2.1.trans I3.out.2.2.fh (h2.wide fun _ c => .inr c),.inl ⟨HX.out,h1⟩⟩
  clear h1 h2 h3 I3 H4 r0 r1
  go_wp2
  go_ret
  exact⟨rfl,FF.out⟩
 ·have FF:Hid (AdP w va p F q fr mn g v ts tk m more t y w3):=⟨F3,v,I3.out.2.2,I3.out.2.1,.inr ⟨by rw[HX.out];exact h0,I3.out.1⟩⟩
  clear I3 J3 HS
  go_wp2
  go_ret
  exact⟨rfl,FF.out⟩
theorem hb_cut {s:St} (h:Ok s) (k:Nat):∀(H j:Nat),j < H→((hb s k H).drop (64*j)).take 64=s.sh (k+j):=fun H j hj=>by
 obtain⟨d,rfl⟩:∃d,H=j+(1+d):=⟨H - j - 1,by omega⟩
 rw[hb_app,hb_app,List.drop_left' (hb_len h k j)]
 have e:hb s (k+j) 1=s.sh (k+j):=by simp[hb]
 rw[e,List.take_left' (h.sh64 _)]
theorem wrb_one (s:St) (k:Nat) (b:Bs) (hb:b.length=64):wrb s k b=(wrE s (k:Int) b,wrS s (k:Int) b):=by
 have e:chs (b.length / 64) b=[b]:=by
  rw[hb]
  show [b.take 64]=[b]
  rw[List.take_of_length_le (by omega)]
 rw[wrb,e,wrs]
 by_cases h:wrE s (k:Int) b=0
 ·rw[thn_ok h,wrs,h]
 ·rw[thn_no h]
theorem cls_zero {s:St} {k j m:Nat} {d:Bool} (hj:j < m) (hz:s.sh (k+j)=zr 64):cls s (k+j) (m - j) d=cls s (k+(j+1)) (m - (j+1)) d:=by
 obtain⟨q,hq⟩:∃q,m - j=q+1:=⟨m - j - 1,by omega⟩
 rw[hq,cls,if_pos hz,show m - (j+1)=q by omega]
 rfl
theorem cls_some {s:St} {k j m:Nat} {d:Bool} (hj:j < m) (hz:s.sh (k+j)≠zr 64):cls s (k+j) (m - j) d=thn (wrb s (k+j) (zr 64)) fun s'=>cls s' (k+(j+1)) (m - (j+1)) true:=by
 obtain⟨q,hq⟩:∃q,m - j=q+1:=⟨m - j - 1,by omega⟩
 rw[hq,cls,if_neg hz,show m - (j+1)=q by omega,wrb_one s (k+j) (zr 64) (zr_len 64)]
 rfl
theorem wrS_sh (s:St) (k:Nat) (b:Bs) (j:Nat) (hj:j≠k):(wrS s (k:Int) b).sh j=s.sh j:=by
 unfold wrS
 split
 ·rfl
 ·split
  ·rfl
  ·split
   ·rfl
   ·show lay s.f (s.l++[⟨(k:Int).toNat,b⟩]) j=lay s.f s.l j
    rw[lay_app,Int.toNat_natCast,upd_other _ _ hj]
structure Cl (w va:World) (p:Nat) (F:Nat→Prop) (s:St) (q fr mn g:Nat) (v:Value) (ts:List Bs) (tk:Nat) (m:Bs) (more:List Value) (r:Int×St) (j:Nat) (d:Bool) (wr:World) (F':Nat→Prop) (s':St):Prop where
 hd:HD w wr p F' s' q fr mn g v ts tk m more
 nx:Nx va F F'
 bf:Bf F va wr
 ln:s'.l.length≤s.l.length+(j - tk)
 eq:r=cls s' (fr+j) (mn - j) d
 sh:∀i,j≤i→s'.sh (fr+i)=s.sh (fr+i)
section
variable {w va:World} {p:Nat} {F:Nat→Prop} {s:St} {q fr mn g:Nat} {v:Value} {ts:List Bs} {tk:Nat} {m:Bs} {more:List Value} {r:Int×St} {j:Nat} {d:Bool} {wr:World} {F':Nat→Prop} {s':St}
theorem Cl.later (h:Cl w va p F s q fr mn g v ts tk m more r j d wr F' s') {w':World} (hb:Below wr.heap.size wr w'):Cl w va p F s q fr mn g v ts tk m more r j d w' F' s':=⟨h.hd.later hb,h.nx,h.bf.later hb,h.ln,h.eq,h.sh⟩
theorem Cl.skip (h:Cl w va p F s q fr mn g v ts tk m more r j d wr F' s') (hj:j < mn) (hz:s.sh (fr+j)=zr 64):Cl w va p F s q fr mn g v ts tk m more r (j+1) d wr F' s' :=
 ⟨h.hd,h.nx,h.bf,by have:=h.ln;omega,h.eq.trans (cls_zero hj ((h.sh j (Nat.le_refl _)).trans hz)),fun i hi=>h.sh i (by omega)⟩
theorem Cl.ds (h:Cl w va p F s q fr mn g v ts tk m more r j d wr F' s'):Ds w va p F s' wr:=⟨F',h.hd.dl,h.nx,h.bf⟩
end
theorem bytes_ne {a b:Bs} (h:a≠b):((st a).toList == (st b).toList)=false:=beq_eq_false_iff_ne.2 fun e=>h (by
 have:=bytes_ext e
 have:=congrArg (fun x:ByteArray=>x.data.toList) this
 exact this)
theorem keepC {wa wb:World} {q:Nat} {x0 x1 x2:Value} (hb:Below wa.heap.size wa wb) (h:wa.cell? ⟨q,0,none⟩=some x0∧wa.cell? ⟨q,1,none⟩=some x1∧wa.cell? ⟨q,2,none⟩=some x2) :
  wb.cell? ⟨q,0,none⟩=some x0∧wb.cell? ⟨q,1,none⟩=some x1∧wb.cell? ⟨q,2,none⟩=some x2:=⟨cell_later hb h.1,cell_later hb h.2.1,cell_later hb h.2.2⟩
theorem keepCd {w wa wb:World} {p:Nat} {F:Nat→Prop} {s:St} {q:Nat} {x0 x1 x2:Value} (hq:¬F q) (hd:Ds w wa p F s wb) (h:wa.cell? ⟨q,0,none⟩=some x0∧wa.cell? ⟨q,1,none⟩=some x1∧wa.cell? ⟨q,2,none⟩=some x2) :
  wb.cell? ⟨q,0,none⟩=some x0∧wb.cell? ⟨q,1,none⟩=some x1∧wb.cell? ⟨q,2,none⟩=some x2:=by
 obtain⟨F',-,-,hb⟩:=hd
 exact⟨hb.cell h.1 hq,hb.cell h.2.1 hq,hb.cell h.2.2 hq⟩
set_option maxHeartbeats 4000000 in
theorem lclean_any (w va:World) (p:Nat) (F:Nat→Prop) (s:St) (q fr mn g:Nat) (v:Value) (ts:List Bs) (tk:Nat) (m:Bs) (more:List Value) (h1:1≤mn) (h2:fr+mn≤s.n) (h3:tk≤mn) (hl:s.l.length+mn+1≤1000000) (h:Hid (HD w va p F s q fr mn g v ts tk m more)) :
  Calls Tryz.prog 66 #[.pointer (some ⟨q,0,none⟩)] va fun e w'=>e = .returned (.int .i64 (cln s (fr+tk) (mn - tk)).1)∧Ds w va p F (cln s (fr+tk) (mn - tk)).2 w':=by
 have OK:=h.out.dl.at_.1
 have hn:=OK.n2
 have RD:Hid _:=lread_any w va p F s fr mn h1 h2 h.out.dl
 have k0:=h.out.hf.bk.c 0 _ rfl
 have k1:=h.out.hf.bk.c 1 _ rfl
 have k2:=h.out.hf.bk.c 2 _ rfl
 have gm:mn≤1024:=by omega
 have gf:fr≤1024:=by omega
 by_cases hd:s.down=true
 ·have e1:cln s (fr+tk) (mn - tk)=(150,s):=if_pos hd
  have e2:rdA s fr mn = .tuple #[.string ⟨#[]⟩,.int .i64 150]:=if_pos hd
  rw[e1]
  rw[e2] at RD
  clear e1 e2 OK hd
  unfold plc at RD
  go_enter Tryz.func66, Tryz.ntmps66
  go_wp2_with fail
  refine Calls.mono RD.out ?_
  rintro e w1 ⟨rfl,hb⟩
  have FF:Hid (Ds w va p F s w1):=⟨F,h.out.dl.later hb,Nx.refl _ _,Bf.of hb⟩
  clear hb h k0 k1 k2 RD
  go_wp2
  go_ret
  exact⟨rfl,FF.out⟩
 ·obtain⟨r,hr⟩:∃r,cln s (fr+tk) (mn - tk)=r:=⟨_,rfl⟩
  have e1:r=cls s (fr+tk) (mn - tk) false:=by rw[←hr];exact if_neg hd
  have e2:rdA s fr mn = .tuple #[.string (st (hb s fr mn)),.int .i64 0]:=if_neg hd
  rw[hr]
  rw[e2] at RD
  have CUT:Hid (∀j,j < mn→(st (hb s fr mn)).extract (64*j) (64*j+64)=st (s.sh (fr+j))):=fun j hj=>by
   rw[st_cut,List.drop_take,show 64*j+64 - 64*j=64 by omega,hb_cut OK fr mn j hj]
  have HS:Hid ((st (hb s fr mn)).size=64*mn):=by
   show _=_
   rw[st_size,hb_len OK]
  have I0:Hid (∀W,Below va.heap.size va W→Cl w va p F s q fr mn g v ts tk m more r tk false W F s):=fun W hb=>⟨h.out.later hb,Nx.refl _ _,Bf.of hb,Nat.le_add_right _ _,e1,fun _ _=>rfl⟩
  have HL:Hid (s.l.length+mn+1≤1000000):=hl
  have ZR:Hid (∀W,Calls Tryz.prog 105 #[.int .i64 64] W fun e w'=>e = .returned (.string (st (zr 64)))∧Below W.heap.size W w'):=lzeros_any 64 (by decide)
  obtain⟨X,hX⟩:∃X,st (hb s fr mn)=X:=⟨_,rfl⟩
  obtain⟨Z,hZ⟩:∃Z,st (zr 64)=Z:=⟨_,rfl⟩
  rw[hX] at RD CUT HS
  rw[hZ] at ZR
  have HZ:Hid (st (zr 64)=Z):=hZ
  clear e1 e2 hr hX hZ hd OK hl
  unfold plc at RD
  go_enter Tryz.func66, Tryz.ntmps66
  go_wp2_with fail
  refine Calls.mono RD.out ?_
  rintro e w1 ⟨rfl,hb⟩
  have I1:Hid _:=I0.out w1 hb
  clear hb h k0 k1 k2 RD I0
  have k5:=I1.out.hd.hf.bk.c 5 _ rfl
  go_wp2
  clear k5
  go_loopw [5,6] (fun d i wr=>∃(j:Nat) (F':Nat→Prop) (s':St) (b:Bool),tk≤j∧j≤mn∧d = .bool b∧i = .int .i64 (j:Int)∧Hid (Cl w va p F s q fr mn g v ts tk m more r j b wr F' s')) (fun _ i _=>mn - (intOf i).toNat)
  case atStart=>exact⟨tk,F,s,false,Nat.le_refl _,h3,rfl,rfl,I1.out⟩
  case round =>
   obtain⟨j,F',s',b,hj0,hj,rfl,rfl,I⟩:=hrel
   clear I1
   have k2:=I.out.hd.hf.bk.c 2 _ rfl
   by_cases hlt:j < mn
   ·have g1:(j:Int) < (mn:Int):=by omega
    have y1:IntKind.i64.wrap ((j:Int)*64)=(j:Int)*64:=by rw[IntKind.wrap_i64];omega
    have y2:IntKind.i64.wrap ((j:Int)+1)=(j:Int)+1:=by rw[IntKind.wrap_i64];omega
    have y3:IntKind.i64.wrap (((j:Int)+1)*64)=((j:Int)+1)*64:=by rw[IntKind.wrap_i64];omega
    have CT:=CUT.out j hlt
    have SLI:∀W,(Instr.slice 9 (.string X) (some (.int .i64 ((j:Int)*64))) (some (.int .i64 (((j:Int)+1)*64))) none).run Tryz.prog W = .ok (.string (st (s.sh (fr+j)))) W:=fun W=>by
     rw[←CT]
     exact cut_run X (64*j) (64*j+64) _ _ (by omega) (by omega) (by omega) (by rw[HS.out];omega) W
    clear CT
    by_cases hz:s.sh (fr+j)=zr 64
    ·rw[hz,HZ.out] at SLI
     have I2:Hid _:=I.out.skip hlt hz
     clear hz
     go_wp2_with fail
     go_region_with (first|(go_at_call 105;refine Calls.mono (ZR.out _) ?_;rintro e w2 ⟨rfl,hb2⟩))
     all_goals
      have I3:Hid _:=(I2.out.later (Below.refl _ _).drew).later hb2
      clear hb2 I2 I SLI
      go_wp2
      go_roundw
      case rel=>exact⟨j+1,F',s',b,by omega,by omega,rfl,rfl,I3.out⟩
      case measure=>simp[intOf];omega
    ·have hne:=bytes_ne hz
     rw[HZ.out] at hne
     have hsh:s'.sh (fr+j)≠zr 64:=by rw[I.out.sh j (Nat.le_refl _)];exact hz
     have HR:Hid (r=_):=I.out.eq.trans (cls_some hlt hsh)
     have NS:Hid (∀i,j+1≤i→(wrb s' (fr+j) (zr 64)).2.sh (fr+i)=s.sh (fr+i)):=fun i hi=>by
      rw[wrb_one _ _ _ (zr_len 64)]
      exact (wrS_sh _ _ _ _ (by omega)).trans (I.out.sh i (by omega))
     have NL:Hid ((wrb s' (fr+j) (zr 64)).2.l.length≤s.l.length+(j+1 - tk)):=by
      show _≤_
      rw[wrb_one _ _ _ (zr_len 64)]
      have:=wrS_len s' ((fr+j:Nat):Int) (zr 64)
      have:=I.out.ln
      show (wrS s' ((fr+j:Nat):Int) (zr 64)).l.length≤_
      omega
     have WR:Hid (∀W,Dl w W p F' s'→Calls Tryz.prog 106 #[.agg #[.pointer (some ⟨p,0,none⟩),.int .i64 (fr:Int),.int .i64 (mn:Int)],.int .i64 (j:Int),.string Z] W fun e w'=>e = .returned (.int .i64 (wrb s' (fr+j) (zr 64)).1)∧Ds w W p F' (wrb s' (fr+j) (zr 64)).2 w'):=fun W k=>by
      rw[←HZ.out]
      exact lwrite_any w W p F' s' fr j mn (zr 64) 1 (zr_len 64) (by decide) (by omega) (by have:=I.out.ln;have:=HL.out;omega) k
     obtain⟨S,hS⟩:∃S,st (s.sh (fr+j))=S:=⟨_,rfl⟩
     rw[hS] at SLI hne
     obtain⟨y,hy⟩:∃y,wrb s' (fr+j) (zr 64)=y:=⟨_,rfl⟩
     rw[hy] at HR NS NL WR
     obtain⟨x,hx⟩:∃x,y.1=x:=⟨_,rfl⟩
     rw[hx] at WR
     have HX:Hid (y.1=x):=hx
     clear hS hz hsh hy hx
     go_wp2_with fail
     go_region_with (first|(go_at_call 105;refine Calls.mono (ZR.out _) ?_;rintro e w2 ⟨rfl,hb2⟩))
     all_goals
      have I3:Hid _:=(I.out.later (Below.refl _ _).drew).later hb2
      clear hb2 I SLI k2
      go_wp2_with fail
      have c0:=I3.out.hd.hf.bk.c 0 _ rfl
      have c1:=I3.out.hd.hf.bk.c 1 _ rfl
      have c2:=I3.out.hd.hf.bk.c 2 _ rfl
      have NQ:Hid (¬F' q):=(I3.out.hd.ap q (.inl rfl)).1
      have D1:Hid (∀W,Below w2.drew.heap.size w2.drew W→Cl w va p F s q fr mn g v ts tk m more r j b W F' s'):=fun W hb=>(I3.out.later (Below.refl _ _).drew).later hb
      clear I3
      go_region_held3 (fun w'=>w'.cell? ⟨q,0,none⟩=some (.pointer (some ⟨p,0,none⟩))∧w'.cell? ⟨q,1,none⟩=some (.int .i64 (fr:Int))∧w'.cell? ⟨q,2,none⟩=some (.int .i64 (mn:Int))) (first|exact⟨c0,c1,c2⟩|assumption|exact keepC (by assumption) (by assumption)|exact keepCd NQ.out (by assumption) (by assumption)) (first|(go_at_call 105;refine Calls.mono (ZR.out _) ?_;rintro e w3 ⟨rfl,hb3⟩)|(go_at_call 106;refine Calls.mono (WR.out _ (D1.out _ (by assumption)).hd.dl) ?_;rintro e w4 ⟨rfl,hd4⟩))
      have D2:=D1.out w3 hb3
      obtain⟨F4,d1,d2,d3⟩:=hd4
      have I4:Hid (HD w w4 p F4 y.2 q fr mn g v ts tk m more∧Nx va F F4∧Bf F va w4):=⟨D2.hd.disk d1 d2 d3,D2.nx.trans d2 D2.bf.size,D2.bf.trans D2.nx d3⟩
      clear D1 D2 d1 d2 d3 hb3 WR c0 c1 c2 NQ
      by_cases h0:x=0
      ·subst h0
       have I5:Hid (Cl w va p F s q fr mn g v ts tk m more r (j+1) true w4 F4 y.2):=⟨I4.out.1,I4.out.2.1,I4.out.2.2,NL.out,HR.out.trans (thn_ok HX.out),NS.out⟩
       clear I4 HR NS NL
       go_wp2
       go_roundw
       case rel=>exact⟨j+1,F4,y.2,true,by omega,by omega,rfl,rfl,I5.out⟩
       case measure=>simp[intOf];omega
      ·have HR2:Hid (r=y):=HR.out.trans (thn_no (by rw[HX.out];exact h0))
       have FF:Hid (Ds w va p F y.2 w4):=⟨F4,I4.out.1.dl,I4.out.2.1,I4.out.2.2⟩
       clear I4 HR NS NL
       go_wp2
       go_ret
       exact⟨by rw[HR2.out,HX.out];rfl,by rw[HR2.out];exact FF.out⟩
   ·obtain rfl:j=mn:=by omega
    have HR:=I.out.eq
    rw[Nat.sub_self,cls] at HR
    cases b
    ·have HR2:Hid (r=(0,s')):=HR
     have FF:Hid (Ds w va p F s' wr):=I.out.ds
     clear HR
     go_wp2
     go_ret
     exact⟨by rw[HR2.out];rfl,by rw[HR2.out];exact FF.out⟩
    ·have HR2:Hid (r=(syE s',syS s')):=HR
     have SY:Hid _:=lsync_any w wr p F' s' fr j (by have:=I.out.ln;have:=HL.out;omega) I.out.hd.dl
     have c0:=I.out.hd.hf.bk.c 0 _ rfl
     have c1:=I.out.hd.hf.bk.c 1 _ rfl
     have JJ:Hid (Nx va F F'∧Bf F va wr):=⟨I.out.nx,I.out.bf⟩
     unfold plc at SY
     clear HR I
     go_wp2_with fail
     refine Calls.mono SY.out ?_
     rintro e w5 ⟨rfl,F5,d1,d2,d3⟩
     have FF:Hid (Ds w va p F (syS s') w5):=⟨F5,d1,JJ.out.1.trans d2 JJ.out.2.size,JJ.out.2.trans JJ.out.1 d3⟩
     clear d1 d2 d3 SY
     go_wp2
     go_ret
     exact⟨by rw[HR2.out];rfl,by rw[HR2.out];exact FF.out⟩
abbrev hv (p fr mn g:Nat) (v:Value) (tk:Nat) (m:Bs):Value := .agg (hc p fr mn g v tk m []).toArray
abbrev hz0:List Value:=[.pointer none,.int .i64 0,.int .i64 0,.int .i64 0,.slice none 0 0,.int .i64 0,.string ⟨#[]⟩]
def fT (s:St) (fr mn:Nat):List Bs:=if gen (hb s fr mn)=0 then [] else recs s fr mn (gen (hb s fr mn))
def fK (s:St) (fr mn:Nat):Nat:=if gen (hb s fr mn)=0 then 0 else tkn 1 (fT s fr mn)
def fM (s:St) (fr mn:Nat):Bs:=if gen (hb s fr mn)=0 then [] else mks (hm (gen (hb s fr mn))) (fT s fr mn)
theorem lfind_down (w va:World) (p:Nat) (F:Nat→Prop) (s:St) (fr mn:Nat) (h1:1≤mn) (h2:fr+mn≤s.n) (hd:s.down=true) (h:Hid (Dl w va p F s)) :
  Calls Tryz.prog 100 #[plc p fr mn] va fun e w'=>e = .returned (.tuple #[.agg hz0.toArray,.int .i64 150])∧Below va.heap.size va w':=by
 have e2:rdA s fr mn = .tuple #[.string ⟨#[]⟩,.int .i64 150]:=if_pos hd
 have RD:Hid (∀W,Below va.heap.size va W→Calls Tryz.prog 104 #[.agg #[.pointer (some ⟨p,0,none⟩),.int .i64 (fr:Int),.int .i64 (mn:Int)]] W fun e w'=>e = .returned (.tuple #[.string ⟨#[]⟩,.int .i64 150])∧Below W.heap.size W w'):=fun W hb=>by
  have:=lread_any w W p F s fr mn h1 h2 (h.out.later hb)
  rw[e2] at this
  exact this
 have I0:Hid (Blk ((va.alloc (.cells #[.pointer (some ⟨p,0,none⟩),.int .i64 (fr:Int),.int .i64 (mn:Int)] 128)).alloc (.cells hz0.toArray 130)) (va.heap.size+1) hz0∧Below va.heap.size va ((va.alloc (.cells #[.pointer (some ⟨p,0,none⟩),.int .i64 (fr:Int),.int .i64 (mn:Int)] 128)).alloc (.cells hz0.toArray 130))):=⟨blk_two va _ hz0 _ (by simp),chain (nb _ _) (nb _ _)⟩
 clear e2 h hd h1 h2
 unfold plc
 go_enter Tryz.func100, Tryz.ntmps100
 go_wp2_with fail
 refine Calls.mono (RD.out _ I0.out.2) ?_
 rintro e w1 ⟨rfl,hb⟩
 have I1:Hid (_∧_):=And.intro (I0.out.1.later hb) (chain I0.out.2 hb)
 clear hb I0 RD
 have k0:=I1.out.1.c 0 _ rfl
 have k1:=I1.out.1.c 1 _ rfl
 have k2:=I1.out.1.c 2 _ rfl
 have k3:=I1.out.1.c 3 _ rfl
 have k4:=I1.out.1.c 4 _ rfl
 have k5:=I1.out.1.c 5 _ rfl
 have k6:=I1.out.1.c 6 _ rfl
 have kf:=I1.out.1.f
 have FI:Hid (_∧_):=And.intro (I1.out.1.put hz0 rfl) (below_sets (Nat.le_succ _) hz0 0 I1.out.2)
 clear I1
 go_wp2
 refine bodyPost_ret (v := .tuple #[.agg hz0.toArray,.int .i64 150]) ?_ rfl ⟨rfl,FI.out.2⟩
 exact res_c2 Tryz.results100 _ _ (va.heap.size+1) _ _ (by kernel_rfl) (by kernel_rfl) (run_loadVar_mid _ (va.heap.size+1) 0 130 hz0 _ FI.out.1.r Tryz.underlying130 rfl (by kernel_rfl))
end Go.Proofs.YtjpaodepnacimaaGreatDoor
