/- Parts: BpC,BpD. -/
import Derived.Test.YtjpaodepnacimaaGreatDoorZdG22
import Derived.Lib.AppendZerosOnto
import Derived.Deep.MidRow
namespace Go.Proofs.YtjpaodepnacimaaGreatDoor
open Go.RowKit Go.Proofs.Fd Go.Proofs.Dk Go.Proofs.Lg Go.Proofs.Bx
set_option maxRecDepth 20000
set_option maxHeartbeats 1000000 in
theorem xgrow_nil (n:Nat) (h0:0 < n) (hb:n*32≤140737488355328) (w:World) :
  Calls Tryz.prog 158 #[.slice none 0 0,.int .i64 (n:Int)] w fun e w'=>∃v,e = .returned v∧w'.ownsRow w.heap.size 58 2 v 0 []∧Below w.heap.size w w':=by
 obtain⟨i0,hi,hz0,hz1,hz2⟩:=info_parts infoX
 have hr:∀ty,(Builtin.append_ #[83, 3] ty #[.slice none 0 0,.int .i64 (n:Int)]).run Tryz.prog w = .ok (.slice (some ⟨w.heap.size,0,none⟩) n (grownCap w n 0 58)) (w.drew.alloc (.cells (([]:List Value).toArray++Builtin.zeroCells (Value.agg #[.string ⟨#[]⟩,.string ⟨#[]⟩]).cells n++Builtin.zeroCells (Value.agg #[.string ⟨#[]⟩,.string ⟨#[]⟩]).cells (grownCap w n 0 58 - n)) 58)):=fun ty=>by
  have h:=Go.Lib.run_append_grow_zeros w 83 3 ty 58 i0 (.agg #[.string ⟨#[]⟩,.string ⟨#[]⟩]) .i64 .i64 Tryz.underlying83 Tryz.underlying3 hi hz0 none 0 0 [] (run_firstCells_none w.drew _ 0 0 0) n h0 (by rw[hz1];decide) (by omega) (by omega) (by rw[hz2];omega) (by rw[hz2,Nat.zero_add];exact growslice_fits h0 hb)
  rw[Nat.zero_add] at h
  exact h
 have OW:Hid ((w.drew.alloc (.cells (([]:List Value).toArray++Builtin.zeroCells (Value.agg #[.string ⟨#[]⟩,.string ⟨#[]⟩]).cells n++Builtin.zeroCells (Value.agg #[.string ⟨#[]⟩,.string ⟨#[]⟩]).cells (grownCap w n 0 58 - n)) 58)).ownsRow w.heap.size 58 2 (.slice (some ⟨w.heap.size,0,none⟩) 0 (grownCap w n 0 58)) 0 []∧Below w.heap.size w (w.drew.alloc (.cells (([]:List Value).toArray++Builtin.zeroCells (Value.agg #[.string ⟨#[]⟩,.string ⟨#[]⟩]).cells n++Builtin.zeroCells (Value.agg #[.string ⟨#[]⟩,.string ⟨#[]⟩]).cells (grownCap w n 0 58 - n)) 58))):=by
  refine⟨World.ownsRow_made w.drew _ _ (Nat.le_refl _) (grownCap_le_maxLen w n 0 _ (by unfold maxLen;omega)) ?_,(Below.refl _ _).drew.alloc (Nat.le_refl _) _⟩
  have:=grownCap_ge w n 0 58
  rw[Array.size_append,Array.size_append,size_zeroCells,size_zeroCells]
  show 0+n*2+(grownCap w n 0 58 - n)*2=grownCap w n 0 58 * 2
  omega
 have hG:n≤grownCap w n 0 58 := grownCap_ge w _ _ _
 have hG63:grownCap w n 0 58 ≤ 9223372036854775807:=by
  have:=grownCap_le_maxLen w n 0 58 (by unfold maxLen;omega)
  unfold maxLen at this
  omega
 generalize grownCap w n 0 58 = G at *
 generalize w.drew.alloc (.cells (([]:List Value).toArray++Builtin.zeroCells (Value.agg #[.string ⟨#[]⟩,.string ⟨#[]⟩]).cells n++Builtin.zeroCells (Value.agg #[.string ⟨#[]⟩,.string ⟨#[]⟩]).cells (G - n)) 58)=W at *
 have g1:¬((n:Int) < 0):=by omega
 have g2:(0:Int) < (n:Int):=by omega
 go_enter Tryz.func158, Tryz.ntmps158
 go_wp2_with (at_builtin;refine Go.Lib.wpList_append_run _ rfl _ _ _ _ rfl _ _ rfl rfl _ _ (hr _) ?_)
 all_goals
  go_ret
  exact⟨_,rfl,OW.out⟩
theorem xgrow_any (n:Nat) (hb:n≤1000000) (w:World) :
  Calls Tryz.prog 158 #[.slice none 0 0,.int .i64 (n:Int)] w fun e w'=>∃v,e = .returned v∧w'.ownsRow w.heap.size 58 2 v 0 []∧Below w.heap.size w w':=by
 by_cases h0:0 < n
 ·exact xgrow_nil n h0 (by omega) w
 ·obtain rfl:n=0:=by omega
  clear h0 hb
  go_enter Tryz.func158, Tryz.ntmps158
  go_wp2
  go_ret
  exact⟨_,rfl,World.ownsRow_nil _ _ _ _,Below.refl _ _⟩
theorem app_sl (base:Nat) (w:World) (ty:TypeId) (v:Value) (xs:List Sl) (h:w.ownsRow base 58 2 v xs.length (scx xs)) (hbase:base≤w.heap.size) (a:Option Addr) (n c:Nat) (l:List Sl) (hn:l.length=n) (hx:xs.length≤1000000) (hl:n≤1000000) (tx:SlAt w a l) :
  ∃v' w',(Builtin.append_ #[83, 83] ty #[v,.slice a n c]).run Tryz.prog w = .ok v' w'∧w'.ownsRow base 58 2 v' (xs++l).length (scx (xs++l))∧w.grownBy w' v.ownBlock:=by
 obtain⟨i0,hi,hz0,hz1,hz2⟩:=info_parts infoX
 cases a with
 | none =>
  have h0:l=[]:=by
   cases l with
   | nil=>rfl
   | cons k r=>obtain⟨b,o,e,-⟩:=tx 0 (by simp);cases e
  subst h0
  have hn0:n=0:=hn.symm
  subst hn0
  refine⟨v,w,?_,by rw[List.append_nil];exact h,World.grownBy.refl _ _⟩
  rcases h.2 with ⟨rfl,hh⟩|⟨g,c2,cur,rfl,_,_,hnc,_⟩
  ·simp[Builtin.append_,run_underlying Tryz.underlying83, sizeOf,typeInfo,hi,Builtin.lenOf,Builtin.firstCells]
  ·simp[Builtin.append_,run_underlying Tryz.underlying83, sizeOf,typeInfo,hi,Builtin.lenOf,Builtin.firstCells,hnc,storeCells]
 | some ad =>
  obtain⟨v',w',r1,r2,r3,-,-⟩:=run_append_own_at (P:=Tryz.prog) w base 83 ty 58 i0 _ 2 32 Tryz.underlying83 hi hz0 hz1 hz2 rfl (by decide) v xs.length (scx xs) h ad n c (scx l) (by rw[scx_len,hn]) (fun j u hj=>tx.cells j u hj) (scx_one l) (by unfold maxLen;omega) (by omega) hbase
  refine⟨v',w',r1,?_,r3⟩
  rw[scx_app,List.length_append,hn]
  exact r2
set_option maxHeartbeats 2000000 in
theorem xconcat_any (B:Nat) (a1 a2:Option Addr) (n1 n2 c1 c2:Nat) (l1 l2:List Sl) (hn1:l1.length=n1) (hn2:l2.length=n2) (hb1:n1≤100000) (hb2:n2≤100000) (w:World)
  (k0:Hid (w.cell? ⟨B,0,none⟩=some (.slice a1 n1 c1))) (k1:Hid (w.cell? ⟨B,1,none⟩=some (.slice a2 n2 c2))) (t1:Hid (SlAt w a1 l1)) (t2:Hid (SlAt w a2 l2)) :
  Calls Tryz.prog 139 #[.slice (some ⟨B,0,none⟩) 2 2] w fun e w'=>∃a c,e = .returned (.slice a (n1+n2) c)∧Sli w' a (n1+n2) c (l1++l2)∧(∀x,a=some x→w.heap.size≤x.block)∧Below w.heap.size w w':=by
 have H1:Hid (l1.length=n1):=hn1
 have H2:Hid (l2.length=n2):=hn2
 clear hn1 hn2
 go_enter Tryz.func139, Tryz.ntmps139
 go_wp2
 go_loopw [3,11] (fun sz i wr=>∃k:Nat,(k=0∧sz = .int .i64 0∨k=1∧sz = .int .i64 (n1:Int)∨k=2∧sz = .int .i64 ((n1+n2:Nat):Int))∧i = .int .i64 (k:Int)∧w=wr) (fun _ i _=>2 - (intOf i).toNat)
 case atStart=>exact⟨0,.inl ⟨rfl,rfl⟩,rfl,rfl⟩
 case round =>
  obtain⟨k,hk,rfl,rfl⟩:=hrel
  rcases hk with ⟨rfl,rfl⟩|⟨rfl,rfl⟩|⟨rfl,rfl⟩
  ·have cc:=k0.out
   have g1:¬((n1:Int) < 0):=by omega
   go_wp2
   go_roundw
   case rel=>exact⟨1,.inr (.inl ⟨rfl,by go_num⟩),by go_num,trivial⟩
   case measure=>simp[intOf]
  ·have cc:=k1.out
   have e1:IntKind.i64.wrap ((n1:Int)+(n2:Int))=((n1+n2:Nat):Int):=by rw[IntKind.wrap_i64];omega
   have g1:¬(((n1+n2:Nat):Int) < 0):=by omega
   go_wp2
   go_roundw
   case rel=>exact⟨2,.inr (.inr ⟨rfl,by go_num⟩),by go_num,trivial⟩
   case measure=>simp[intOf]
  ·go_wp2_with fail
   refine Calls.mono (xgrow_any (n1+n2) (by omega) _) ?_
   rintro e w1 ⟨v1,rfl,ow,hb1⟩
   have OW:Hid (w1.ownsRow w.heap.size 58 2 v1 ([]:List Sl).length (scx [])∧Below w.heap.size w w1):=⟨ow,hb1⟩
   clear ow hb1
   go_wp2
   go_loopw [6,27] (fun sl i wx=>∃(k:Nat) (xs:List Sl),k≤2∧i = .int .i64 (k:Int)∧(k=0∧xs=[]∨k=1∧xs=l1∨k=2∧xs=l1++l2)∧Hid (wx.ownsRow w.heap.size 58 2 sl xs.length (scx xs)∧Below w.heap.size w wx)) (fun _ i _=>2 - (intOf i).toNat)
   case atStart=>exact⟨0,[],by omega,rfl,.inl ⟨rfl,rfl⟩,OW.out⟩
   case round =>
    obtain⟨k,xs,hk2,rfl,hx,J⟩:=hrel
    clear OW
    rcases hx with ⟨rfl,rfl⟩|⟨rfl,rfl⟩|⟨rfl,rfl⟩
    ·have cc:=cell_later J.out.2 k0.out
     obtain⟨v2,w2,r1,r2,r3⟩:=app_sl w.heap.size wr 83 u6 [] J.out.1 J.out.2.size a1 n1 c1 l1 H1.out (by simp) (by omega) (t1.out.later J.out.2)
     have K:Hid (w2.ownsRow w.heap.size 58 2 v2 l1.length (scx l1)∧Below w.heap.size w w2):=⟨by rw[List.nil_append] at r2;exact r2,J.out.2.grown r3 J.out.2.size (fun q hq=>(J.out.1.lt q hq).1)⟩
     clear r2 r3 J
     go_wp2_with (first|(at_builtin;refine Go.Lib.wpList_append_run _ rfl _ _ _ _ rfl _ _ rfl rfl _ _ r1 ?_))
     go_roundw
     case rel=>exact⟨1,l1,by omega,by go_num,.inr (.inl ⟨rfl,rfl⟩),K.out⟩
     case measure=>simp[intOf]
    ·have cc:=cell_later J.out.2 k1.out
     obtain⟨v2,w2,r1,r2,r3⟩:=app_sl w.heap.size wr 83 u6 xs J.out.1 J.out.2.size a2 n2 c2 l2 H2.out (by have:=H1.out;omega) (by omega) (t2.out.later J.out.2)
     have K:Hid (w2.ownsRow w.heap.size 58 2 v2 (xs++l2).length (scx (xs++l2))∧Below w.heap.size w w2):=⟨r2,J.out.2.grown r3 J.out.2.size (fun q hq=>(J.out.1.lt q hq).1)⟩
     clear r2 r3 J
     go_wp2_with (first|(at_builtin;refine Go.Lib.wpList_append_run _ rfl _ _ _ _ rfl _ _ rfl rfl _ _ r1 ?_))
     go_roundw
     case rel=>exact⟨2,xs++l2,by omega,by go_num,.inr (.inr ⟨rfl,rfl⟩),K.out⟩
     case measure=>simp[intOf]
    ·have e12:(l1++l2).length=n1+n2:=by rw[List.length_append,H1.out,H2.out]
     have J1:=J.out.1
     rw[e12] at J1
     obtain⟨a,cp,rfl,tx,hnw⟩:=owns_sl e12 J1
     have FF:Hid (Sli wr a (n1+n2) cp (l1++l2)∧(∀x,a=some x→w.heap.size≤x.block)∧Below w.heap.size w wr):=⟨tx,hnw,J.out.2⟩
     clear tx J J1 hnw
     go_wp2
     go_ret
     exact⟨a,cp,rfl,FF.out⟩
set_option maxHeartbeats 1000000 in
theorem xclip_any (a:Option Addr) (n c:Nat) (h:n≤c) (hc:c≤9223372036854775807) (h0:a=none→n=0∧c=0) (w:World) :
  Calls Tryz.prog 138 #[.slice a n c] w fun e w'=>e = .returned (.slice a n n)∧w'=w:=by
 cases a with
 | none =>
  obtain⟨rfl,rfl⟩:=h0 rfl
  clear h0
  go_enter Tryz.func138, Tryz.ntmps138
  go_wp2
  go_ret
  exact⟨rfl,rfl⟩
 | some ad =>
  have g1:(n:Int)≤(c:Int):=by omega
  have g2:¬((n:Int) < 0):=by omega
  clear h0
  go_enter Tryz.func138, Tryz.ntmps138
  go_wp2
  go_ret
  exact⟨rfl,rfl⟩
theorem app_one (w:World) (ty:TypeId) (a:Option Addr) (n:Nat) (l:List Sl) (hn:l.length=n) (hb:n≤1000000) (h:SlAt w a l) (h0:a=none→n=0) (g:Nat) (e:Sl) (hg:w.cell? ⟨g,0,none⟩=some (sv e.1)∧w.cell? ⟨g,1,none⟩=some (sv e.2)) :
  ∃a' c' w',(Builtin.append_ #[83, 83] ty #[.slice a n n,.slice (some ⟨g,0,none⟩) 1 1]).run Tryz.prog w = .ok (.slice a' (n+1) c') w'∧Sli w' a' (n+1) c' (l++[e])∧(∀x,a'=some x→w.heap.size≤x.block)∧Below w.heap.size w w':=by
 obtain⟨i0,hi,hz0,hz1,hz2⟩:=info_parts infoX
 have he:SlAt w (some ⟨g,0,none⟩) [e]:=fun i hi=>by
  obtain rfl:i=0:=by simpa using hi
  exact⟨g,0,rfl,hg.1,hg.2⟩
 have hle:(l++[e]).length=n+1:=by rw[List.length_append,hn];rfl
 have fin:∀{v':Value} {w':World},w'.ownsRow w.heap.size 58 2 v' (n+1) (scx (l++[e]))→w.grownBy w' none→∃a' c',v' = .slice a' (n+1) c'∧Sli w' a' (n+1) c' (l++[e])∧(∀x,a'=some x→w.heap.size≤x.block)∧Below w.heap.size w w':=fun {v' w'} o g=>by
  obtain⟨a',c',e1,e2,e3⟩:=owns_sl hle o
  exact⟨a',c',e1,e2,e3,(Below.refl _ _).grown g (Nat.le_refl _) (fun q hq=>by cases hq)⟩
 cases a with
 | none =>
  have hn0:=h0 rfl
  subst hn0
  have hl0:l=[]:=List.length_eq_zero_iff.1 hn
  subst hl0
  obtain⟨v',w',r1,r2,r3,-,-⟩:=run_append_own_at (P:=Tryz.prog) w w.heap.size 83 ty 58 i0 _ 2 32 Tryz.underlying83 hi hz0 hz1 hz2 rfl (by decide) (.slice none 0 0) 0 [] (World.ownsRow_nil _ _ _ _) ⟨g,0,none⟩ 1 1 (scx [e]) rfl (fun j u hj=>he.cells j u hj) (scx_one _) (by unfold maxLen;decide) (by decide) (Nat.le_refl _)
  obtain⟨a',c',e1,e2⟩:=fin r2 r3
  exact⟨a',c',w',by rw[←e1];exact r1,e2⟩
 | some ad =>
  obtain⟨v',w',r1,r2,r3⟩:=run_append_arg_grows (P:=Tryz.prog) w 83 ty 58 i0 _ 2 32 Tryz.underlying83 hi hz0 hz1 hz2 rfl (by decide) ad n n (scx l) (by rw[scx_len,hn]) (fun j u hj=>h.cells j u hj) ⟨g,0,none⟩ 1 1 (scx [e]) rfl (fun j u hj=>he.cells j u hj) (by omega) (by unfold maxLen;omega) (by omega)
  rw[←scx_app] at r2
  obtain⟨a',c',e1,e2⟩:=fin r2 r3
  exact⟨a',c',w',by rw[←e1];exact r1,e2⟩
structure Bvs (K:Nat→Prop) (w:World) (vs:List Value) (b:Bxs):Prop where
 ln:vs.length=64
 bx:∀u,u < 64→∃a n c,vs[u]?=some (.slice a n c)∧Sli w a n c (b u)∧∀x,a=some x→0 < n→K x.block
theorem Bvs.later {K:Nat→Prop} {w w':World} {vs:List Value} {b:Bxs} (h:Bvs K w vs b) (hb:Below w.heap.size w w'):Bvs K w' vs b:=⟨h.ln,fun u hu=>by
 obtain⟨a,n,c,e,s,k⟩:=h.bx u hu
 exact⟨a,n,c,e,s.later hb,k⟩⟩
theorem Bvs.bf {K F:Nat→Prop} {w w':World} {vs:List Value} {b:Bxs} (h:Bvs K w vs b) (hb:Bf F w w') (hF:∀z,K z→¬F z):Bvs K w' vs b:=⟨h.ln,fun u hu=>by
 obtain⟨a,n,c,e,s,k⟩:=h.bx u hu
 exact⟨a,n,c,e,s.bf hb (fun x ex h0=>hF _ (k x ex h0)),k⟩⟩
theorem Bvs.imp {K K':Nat→Prop} {w:World} {vs:List Value} {b:Bxs} (h:Bvs K w vs b) (hK:∀z,K z→z < w.heap.size→K' z):Bvs K' w vs b:=⟨h.ln,fun u hu=>by
 obtain⟨a,n,c,e,s,k⟩:=h.bx u hu
 exact⟨a,n,c,e,s,fun x ex h0=>hK _ (k x ex h0) (s.at_.lt x ex (by rw[s.len];exact h0))⟩⟩
theorem Bvs.set {K:Nat→Prop} {w:World} {vs:List Value} {b:Bxs} (h:Bvs K w vs b) (u:Nat) {a:Option Addr} {n c:Nat} {l:List Sl} (s:Sli w a n c l) (k:∀x,a=some x→0 < n→K x.block):Bvs K w (vs.set u (.slice a n c)) (upB b u l):=⟨by rw[List.length_set];exact h.ln,fun v hv=>by
 by_cases e:v=u
 ·subst e
  rw[upB_same,List.getElem?_set_self (by rw[h.ln];exact hv)]
  exact⟨a,n,c,rfl,s,k⟩
 ·rw[upB_other _ _ e,List.getElem?_set_ne (fun d=>e d.symm)]
  exact h.bx v hv⟩
structure Shl (K:Nat→Prop) (w:World) (S:Nat) (vs:List Value) (b:Bxs):Prop where
 bk:Blk w S vs
 bv:Bvs K w vs b
 ks:¬K S
theorem Shl.later {K:Nat→Prop} {w w':World} {S:Nat} {vs:List Value} {b:Bxs} (h:Shl K w S vs b) (hb:Below w.heap.size w w'):Shl K w' S vs b:=⟨h.bk.later hb,h.bv.later hb,h.ks⟩
def opbp0:Oper:={ dst:=some 31,op:=Go.Op.move (Go.Operand.tmp 0),type := 159, pos := "shelf.go:57", after:=#[],guard:=none }
def opbp1:Oper:={ dst:=some 32,op:=Go.Op.move (Go.Operand.tmp 1),type := 3, pos := "shelf.go:57", after:=#[],guard:=none }
def opbp2:Oper:={ dst:=some 33,op:=Go.Op.move (Go.Operand.tmp 0),type := 159, pos := "shelf.go:57", after:=#[],guard:=none }
def opbp3:Oper:={ dst:=some 34,op:=Go.Op.move (Go.Operand.tmp 1),type := 3, pos := "shelf.go:57", after:=#[],guard:=none }
def opbp4:Oper:={ dst:=some 35,op:=Go.Op.nilCheck (Go.Operand.tmp 33),type:=0,pos := "shelf.go:57", after:=#[{ on:=2,ground:=Go.Ground.data }],guard:=none }
def opbp5:Oper:={ dst:=some 36,op:=Go.Op.indexAddr 86 (Go.Operand.tmp 35) (Go.Operand.tmp 34),type:=0,pos := "shelf.go:57", after:=#[{ on:=4,ground:=Go.Ground.data },{ on:=3,ground:=Go.Ground.data }],guard:=none }
def opbp6:Oper:={ dst:=some 37,op:=Go.Op.load 83 (Go.Operand.tmp 36),type := 83, pos := "shelf.go:57", after:=#[{ on:=5,ground:=Go.Ground.data }],guard:=none }
def opbp7:Oper:={ dst:=some 38,op:=Go.Op.call { callee:=Go.Callee.value (Go.Operand.func 138),args:=#[Go.Operand.tmp 37],argTypes:=#[83] },type := 83, pos := "shelf.go:57", after:=#[{ on:=6,ground:=Go.Ground.data }],guard:=none }
def opbp8:Oper:={ dst:=some 39,op:=Go.Op.move (Go.Operand.tmp 2),type := 9, pos := "shelf.go:57", after:=#[],guard:=none }
def opbp9:Oper:={ dst:=some 40,op:=Go.Op.move (Go.Operand.tmp 3),type := 9, pos := "shelf.go:57", after:=#[],guard:=none }
def opbp10:Oper:={ dst:=some 41,op:=Go.Op.build 58 #[(0,Go.Operand.tmp 39),(1,Go.Operand.tmp 40)],type := 58, pos := "shelf.go:57", after:=#[{ on:=8,ground:=Go.Ground.data },{ on:=9,ground:=Go.Ground.data }],guard:=none }
def opbp11:Oper:={ dst:=some 42,op:=Go.Op.buildSlice 83 1 #[(0,Go.Operand.tmp 41)],type := 83, pos := "shelf.go:57", after:=#[{ on:=10,ground:=Go.Ground.data }],guard:=none }
def opbp12:Oper:={ dst:=some 43,op:=Go.Op.call { callee:=Go.Callee.builtin Go.Builtin.append,args:=#[Go.Operand.tmp 38,Go.Operand.tmp 42],argTypes:=#[83, 83] },type := 83, pos := "shelf.go:57", after:=#[{ on:=7,ground:=Go.Ground.data },{ on:=11,ground:=Go.Ground.data },{ on:=7,ground:=Go.Ground.chain }],guard:=none }
def opbp13:Oper:={ dst:=some 44,op:=Go.Op.nilCheck (Go.Operand.tmp 31),type:=0,pos := "shelf.go:57", after:=#[{ on:=0,ground:=Go.Ground.data }],guard:=none }
def opbp14:Oper:={ dst:=some 45,op:=Go.Op.indexAddr 86 (Go.Operand.tmp 44) (Go.Operand.tmp 32),type:=0,pos := "shelf.go:57", after:=#[{ on:=13,ground:=Go.Ground.data },{ on:=1,ground:=Go.Ground.data },{ on:=0,ground:=Go.Ground.phase },{ on:=1,ground:=Go.Ground.phase },{ on:=2,ground:=Go.Ground.phase },{ on:=3,ground:=Go.Ground.phase },{ on:=4,ground:=Go.Ground.phase },{ on:=5,ground:=Go.Ground.phase },{ on:=6,ground:=Go.Ground.phase },{ on:=7,ground:=Go.Ground.phase },{ on:=8,ground:=Go.Ground.phase },{ on:=9,ground:=Go.Ground.phase },{ on:=10,ground:=Go.Ground.phase },{ on:=11,ground:=Go.Ground.phase },{ on:=12,ground:=Go.Ground.phase }],guard:=none }
def opbp15:Oper:={ dst:=none,op:=Go.Op.store 83 (Go.Operand.tmp 45) (Go.Operand.tmp 43),type:=0,pos := "shelf.go:57", after:=#[{ on:=14,ground:=Go.Ground.data },{ on:=12,ground:=Go.Ground.data },{ on:=12,ground:=Go.Ground.chain },{ on:=0,ground:=Go.Ground.phase },{ on:=1,ground:=Go.Ground.phase },{ on:=2,ground:=Go.Ground.phase },{ on:=3,ground:=Go.Ground.phase },{ on:=4,ground:=Go.Ground.phase },{ on:=5,ground:=Go.Ground.phase },{ on:=6,ground:=Go.Ground.phase },{ on:=7,ground:=Go.Ground.phase },{ on:=8,ground:=Go.Ground.phase },{ on:=9,ground:=Go.Ground.phase },{ on:=10,ground:=Go.Ground.phase },{ on:=11,ground:=Go.Ground.phase },{ on:=12,ground:=Go.Ground.phase }],guard:=none }
def ShP (K:Nat→Prop) (w:World) (S:Nat) (b:Bxs) (w':World):Prop:=∃vs,Shl K w' S vs b∧Bf (fun z=>z=S) w w'
set_option maxHeartbeats 4000000 in
theorem xsput_any (K:Nat→Prop) (w:World) (S:Nat) (vs:List Value) (b:Bxs) (u:Nat) (hu:u < 64) (X T:ByteArray) (hX:okI X.data.toList=true) (hT:T.size≤222) (hm:X.data.toList ∉ ids (b u)) (hl:(b u).length≤100000) (hK:∀z,w.heap.size≤z→K z) (h:Hid (Shl K w S vs b)) :
  Calls Tryz.prog 108 #[.pointer (some ⟨S,0,none⟩),.int .i64 (u:Int),.string X,.string T] w fun e w'=>e = .returned (.bool true)∧ShP K w S (upB b u (b u++[(X.data.toList,T.data.toList)])) w':=by
 obtain⟨a,n,c,ev,sl,kb⟩:=h.out.bv.bx u hu
 have cu:=h.out.bk.c u _ ev
 have fz:=h.out.bk.f
 have len:=sl.len
 have US:Hid (∀W,Calls Tryz.prog 32 #[.int .i64 (u:Int)] W fun e w'=>e = .returned (.bool true)∧w'=W):=fun W=>by
  have:=xuser_any (u:Int) W
  rw[show noU (u:Int)=false by unfold noU;simp;omega] at this
  exact this
 have ID:Hid (∀W,Calls Tryz.prog 38 #[.string X] W fun e w'=>e = .returned (.bool true)∧Below W.heap.size W w'):=fun W=>by
  have:=xid_any X W
  rw[hX] at this
  exact this
 have TX:Hid (∀W,Calls Tryz.prog 39 #[.string T] W fun e w'=>e = .returned (.bool true)∧w'=W):=fun W=>by
  have:=xtext_any T W
  rw[decide_eq_true hT] at this
  exact this
 have HS:Hid (∀W,Below w.heap.size w W→Calls Tryz.prog 40 #[.slice a n c,.string X] W fun e w'=>e = .returned (.bool false)∧Below W.heap.size W w'):=fun W hb=>by
  have:=xhas_any a n c (b u) X len (by omega) W (sl.at_.later hb)
  rw[decide_eq_false hm] at this
  exact this
 have CL:Hid (∀W,Calls Tryz.prog 138 #[.slice a n c] W fun e w'=>e = .returned (.slice a n n)∧w'=W):=fun W=>xclip_any a n c sl.le sl.cm sl.nl W
 have KC:Hid (∀W,Below w.heap.size w W→W.cell? ⟨S,u,none⟩=some (.slice a n c)∧W.frozen? ⟨S,u,none⟩=false∧S < W.heap.size):=fun W hb=>⟨cell_later hb cu,(h.out.bk.later hb).f u,(h.out.bk.later hb).lt⟩
 have AP:Hid (∀W,Below w.heap.size w W→∃a' c' W2,(Builtin.append_ #[83, 83] 83 #[.slice a n n,.slice (some ⟨W.heap.size,0,none⟩) 1 1]).run Tryz.prog (W.alloc (.cells #[.string X,.string T] 58)) = .ok (.slice a' (n+1) c') W2∧(W2.cell? ⟨S,u,none⟩=some (.slice a n c)∧W2.frozen? ⟨S,u,none⟩=false)∧Hid (ShP K w S (upB b u (b u++[(X.data.toList,T.data.toList)])) (W2.setCell ⟨S,u,none⟩ (.slice a' (n+1) c')))):=fun W hb=>by
  have nb1:=nb W (.cells #[.string X,.string T] 58)
  obtain⟨a',c',W2,r1,r2,r3,r4⟩:=app_one (W.alloc (.cells #[.string X,.string T] 58)) 83 a n (b u) len (by omega) (sl.at_.later (chain hb nb1)) (fun e=>(sl.nl e).1) W.heap.size (X.data.toList,T.data.toList) ⟨by rw[World.cell?_alloc_new];rfl,by rw[World.cell?_alloc_new];rfl⟩
  have hb2:Below w.heap.size w W2:=chain (chain hb nb1) r4
  have hbk:=h.out.bk.later hb2
  have bf:Bf (fun z=>z=S) W2 (W2.setCell ⟨S,u,none⟩ (.slice a' (n+1) c')):=Bf.set (fun z=>z=S) W2 S u _ rfl
  have hlen:u < vs.length:=by rw[h.out.bv.ln];exact hu
  have sS:S < w.heap.size:=h.out.bk.lt
  have hw:=hb.size
  have n1:=nb1.size
  refine⟨a',c',W2,r1,⟨cell_later hb2 cu,hbk.f u⟩,vs.set u (.slice a' (n+1) c'),⟨hbk.set u hlen _,?_,h.out.ks⟩,(Bf.of hb2).trans (Nx.refl _ _) bf⟩
  have bv2:Bvs K (W2.setCell ⟨S,u,none⟩ (.slice a' (n+1) c')) vs b:=by
   refine⟨h.out.bv.ln,fun v hv => ?_⟩
   obtain⟨a1,n1,c1,e1,s1,k1⟩:=h.out.bv.bx v hv
   exact⟨a1,n1,c1,e1,(s1.later hb2).bf bf (fun x ex h0 c=>h.out.ks (by rw[←c];exact k1 x ex h0)),k1⟩
  exact bv2.set u (r2.bf bf (fun x ex _ c=>by have:=r3 x ex;omega)) (fun x ex _=>hK _ (by have:=r3 x ex;omega))
 have g0:(0:Int)≤(u:Int):=by omega
 have g64:(u:Int) < 64:=by omega
 clear ev sl kb h hK hX hT hm hl len
 go_enter Tryz.func108, Tryz.ntmps108
 go_wp2_with fail
 refine Calls.mono (US.out _) ?_
 rintro e w1 ⟨rfl,rfl⟩
 clear US
 go_wp2_with fail
 refine Calls.mono (ID.out _) ?_
 rintro e w2 ⟨rfl,hb2⟩
 clear ID
 go_wp2_with fail
 refine Calls.mono (TX.out _) ?_
 rintro e w3 ⟨rfl,rfl⟩
 obtain⟨c2,f2,l2⟩:=KC.out _ hb2
 clear TX cu fz
 go_wp2_with fail
 refine Calls.mono (HS.out _ hb2) ?_
 rintro e w4 ⟨rfl,hb4⟩
 have B4:Below _ _ w4.drew:=(chain hb2 hb4).drew
 obtain⟨c4,f4,l4⟩:=KC.out _ B4
 obtain⟨a',c',W2,r1,⟨c5,f5⟩,FF⟩:=AP.out _ B4
 have AP1:Hid _:=r1
 have c4a:=cell_alloc (o := .cells #[.string X,.string T] 58) c4
 clear HS KC AP r1 c2 f2 l2 hb2 hb4 B4
 go_wp2_with fail
 refine wp_region_noPanic ?_
 refine wp_region_held_drew (S:=fun _=>True) (by kernel_rfl) (trivial) (fun hHeld => ?_)
 obtain⟨D,hD⟩:∃D,w4.drew=D:=⟨_,rfl⟩
 rw[hD] at c4 f4 l4 c4a AP1 ⊢
 clear hD
 refine wT 0 opbp0 ?_ ?_ ?_;rotate_left
 ·intro w' hSw;clear hSw;unfold opbp0;first|(go_simp;done)|(go_simp;with_reducible rfl)
 simp only[opbp0,Act.put,wA,wB,wC]
 refine wT 1 opbp1 ?_ ?_ ?_;rotate_left
 ·intro w' hSw;clear hSw;unfold opbp1;first|(go_simp;done)|(go_simp;with_reducible rfl)
 simp only[opbp1,Act.put,wA,wB,wC]
 refine wT 2 opbp2 ?_ ?_ ?_;rotate_left
 ·intro w' hSw;clear hSw;unfold opbp2;first|(go_simp;done)|(go_simp;with_reducible rfl)
 simp only[opbp2,Act.put,wA,wB,wC]
 refine wT 3 opbp3 ?_ ?_ ?_;rotate_left
 ·intro w' hSw;clear hSw;unfold opbp3;first|(go_simp;done)|(go_simp;with_reducible rfl)
 simp only[opbp3,Act.put,wA,wB,wC]
 refine wT 4 opbp4 ?_ ?_ ?_;rotate_left
 ·intro w' hSw;clear hSw;unfold opbp4;first|(go_simp;done)|(go_simp;with_reducible rfl)
 simp only[opbp4,Act.put,wA,wB,wC]
 refine wT 5 opbp5 ?_ ?_ ?_;rotate_left
 ·intro w' hSw;clear hSw;unfold opbp5;first|(go_simp;done)|(go_simp;with_reducible rfl)
 simp only[opbp5,Act.put,wA,wB,wC]
 refine wT 8 opbp8 ?_ ?_ ?_;rotate_left
 ·intro w' hSw;clear hSw;unfold opbp8;first|(go_simp;done)|(go_simp;with_reducible rfl)
 simp only[opbp8,Act.put,wA,wB,wC]
 refine wT 9 opbp9 ?_ ?_ ?_;rotate_left
 ·intro w' hSw;clear hSw;unfold opbp9;first|(go_simp;done)|(go_simp;with_reducible rfl)
 simp only[opbp9,Act.put,wA,wB,wC]
 refine wT 10 opbp10 ?_ ?_ ?_;rotate_left
 ·intro w' hSw;clear hSw;unfold opbp10;first|(go_simp;done)|(go_simp;with_reducible rfl)
 simp only[opbp10,Act.put,wA,wB,wC]
 refine wT 13 opbp13 ?_ ?_ ?_;rotate_left
 ·intro w' hSw;clear hSw;unfold opbp13;first|(go_simp;done)|(go_simp;with_reducible rfl)
 simp only[opbp13,Act.put,wA,wB,wC]
 refine wpAnyH_ready (rs:=[6,11]) (by kernel_rfl) (by simp) ?_
 refine AllReadyH.cons (o:=opbp6) rfl (fun KK hKK => ?_) (AllReadyH.cons (o:=opbp11) rfl (fun KK hKK => ?_) AllReadyH.nil)
 ·unfold opbp6
  go_simp
  refine hKK.out _ _ trivial (fun _ => ?_)
  clear hKK KK
  try simp only[opbp6,Act.put,wA,wB,wC]
  refine wpAnyH_ready (rs:=[7,11]) (by kernel_rfl) (by simp) ?_
  refine AllReadyH.cons (o:=opbp7) rfl (fun KK hKK => ?_) (AllReadyH.cons (o:=opbp11) rfl (fun KK hKK => ?_) AllReadyH.nil)
  ·unfold opbp7
   go_simp
   refine Calls.mono (CL.out _) ?_
   rintro e wk ⟨rfl,hwk⟩
   subst hwk
   refine hKK.out _ _ trivial (fun _ => ?_)
   clear hKK KK
   try simp only[opbp7,Act.put,wA,wB,wC]
   refine wpAnyH_ready (rs:=[11]) (by kernel_rfl) (by simp) ?_
   refine AllReadyH.cons (o:=opbp11) rfl (fun KK hKK => ?_) AllReadyH.nil
   unfold opbp11
   go_simp
   refine hKK.out _ _ trivial (fun _ => ?_)
   clear hKK KK
   try simp only[opbp11,Act.put,wA,wB,wC]
   refine wpAnyH_ready (rs:=[12]) (by kernel_rfl) (by simp) ?_
   refine AllReadyH.cons (o:=opbp12) rfl (fun KK hKK => ?_) AllReadyH.nil
   have hr:=AP1.out
   rw[if_pos (by kernel_rfl)]
   refine Go.Lib.wp_append_run _ _ _ _ _ rfl _ _ rfl rfl _ _ hr ?_
   refine hKK.out _ _ trivial (fun _ => ?_)
   clear hKK KK hr
   simp only[opbp12,Act.put,wA,wB,wC]
   refine wT 14 opbp14 ?_ ?_ ?_;rotate_left
   ·intro w' hSw;clear hSw;unfold opbp14;first|(go_simp;done)|(go_simp;with_reducible rfl)
   simp only[opbp14,Act.put,wA,wB,wC]
   refine wpAnyH_ready (rs:=[15]) (by kernel_rfl) (by simp) ?_
   refine AllReadyH.cons (o:=opbp15) rfl (fun KK hKK => ?_) AllReadyH.nil
   unfold opbp15
   go_simp
   refine hKK.out _ _ trivial (fun _ => ?_)
   clear hKK KK
   refine wpAnyH_done (by kernel_rfl) ?_ _
   refine NoPanic.normal ?_
   go_wp2
   go_ret
   exact⟨rfl,FF.out⟩
  ·unfold opbp11
   go_simp
   refine hKK.out _ _ trivial (fun _ => ?_)
   clear hKK KK
   try simp only[opbp11,Act.put,wA,wB,wC]
   refine wpAnyH_ready (rs:=[7]) (by kernel_rfl) (by simp) ?_
   refine AllReadyH.cons (o:=opbp7) rfl (fun KK hKK => ?_) AllReadyH.nil
   unfold opbp7
   go_simp
   refine Calls.mono (CL.out _) ?_
   rintro e wk ⟨rfl,hwk⟩
   subst hwk
   refine hKK.out _ _ trivial (fun _ => ?_)
   clear hKK KK
   try simp only[opbp7,Act.put,wA,wB,wC]
   refine wpAnyH_ready (rs:=[12]) (by kernel_rfl) (by simp) ?_
   refine AllReadyH.cons (o:=opbp12) rfl (fun KK hKK => ?_) AllReadyH.nil
   have hr:=AP1.out
   rw[if_pos (by kernel_rfl)]
   refine Go.Lib.wp_append_run _ _ _ _ _ rfl _ _ rfl rfl _ _ hr ?_
   refine hKK.out _ _ trivial (fun _ => ?_)
   clear hKK KK hr
   simp only[opbp12,Act.put,wA,wB,wC]
   refine wT 14 opbp14 ?_ ?_ ?_;rotate_left
   ·intro w' hSw;clear hSw;unfold opbp14;first|(go_simp;done)|(go_simp;with_reducible rfl)
   simp only[opbp14,Act.put,wA,wB,wC]
   refine wpAnyH_ready (rs:=[15]) (by kernel_rfl) (by simp) ?_
   refine AllReadyH.cons (o:=opbp15) rfl (fun KK hKK => ?_) AllReadyH.nil
   unfold opbp15
   go_simp
   refine hKK.out _ _ trivial (fun _ => ?_)
   clear hKK KK
   refine wpAnyH_done (by kernel_rfl) ?_ _
   refine NoPanic.normal ?_
   go_wp2
   go_ret
   exact⟨rfl,FF.out⟩
 ·unfold opbp11
  go_simp
  refine hKK.out _ _ trivial (fun _ => ?_)
  clear hKK KK
  try simp only[opbp11,Act.put,wA,wB,wC]
  refine wpAnyH_ready (rs:=[6]) (by kernel_rfl) (by simp) ?_
  refine AllReadyH.cons (o:=opbp6) rfl (fun KK hKK => ?_) AllReadyH.nil
  unfold opbp6
  go_simp
  refine hKK.out _ _ trivial (fun _ => ?_)
  clear hKK KK
  try simp only[opbp6,Act.put,wA,wB,wC]
  refine wpAnyH_ready (rs:=[7]) (by kernel_rfl) (by simp) ?_
  refine AllReadyH.cons (o:=opbp7) rfl (fun KK hKK => ?_) AllReadyH.nil
  unfold opbp7
  go_simp
  refine Calls.mono (CL.out _) ?_
  rintro e wk ⟨rfl,hwk⟩
  subst hwk
  refine hKK.out _ _ trivial (fun _ => ?_)
  clear hKK KK
  try simp only[opbp7,Act.put,wA,wB,wC]
  refine wpAnyH_ready (rs:=[12]) (by kernel_rfl) (by simp) ?_
  refine AllReadyH.cons (o:=opbp12) rfl (fun KK hKK => ?_) AllReadyH.nil
  have hr:=AP1.out
  rw[if_pos (by kernel_rfl)]
  refine Go.Lib.wp_append_run _ _ _ _ _ rfl _ _ rfl rfl _ _ hr ?_
  refine hKK.out _ _ trivial (fun _ => ?_)
  clear hKK KK hr
  simp only[opbp12,Act.put,wA,wB,wC]
  refine wT 14 opbp14 ?_ ?_ ?_;rotate_left
  ·intro w' hSw;clear hSw;unfold opbp14;first|(go_simp;done)|(go_simp;with_reducible rfl)
  simp only[opbp14,Act.put,wA,wB,wC]
  refine wpAnyH_ready (rs:=[15]) (by kernel_rfl) (by simp) ?_
  refine AllReadyH.cons (o:=opbp15) rfl (fun KK hKK => ?_) AllReadyH.nil
  unfold opbp15
  go_simp
  refine hKK.out _ _ trivial (fun _ => ?_)
  clear hKK KK
  refine wpAnyH_done (by kernel_rfl) ?_ _
  refine NoPanic.normal ?_
  go_wp2
  go_ret
  exact⟨rfl,FF.out⟩
theorem sl_head (b o n c i:Nat) (hi:i≤n) (hc:n≤c) (W:World):(Instr.slice 83 (.slice (some ⟨b,o,none⟩) n c) none (some (.int .i64 (i:Int))) none).run Tryz.prog W = .ok (.slice (some ⟨b,o,none⟩) i c) W:=by
 have h1:(i:Int)≤(c:Int):=by omega
 simp[go_sem,h1]
theorem sl_tail (w:World) (b o n c i:Nat) (l:List Sl) (h:SlAt w (some ⟨b,o,none⟩) l) (hl:l.length=n) (hi:i≤n) (hc:n≤c):∃o2,(∀W,(Instr.slice 83 (.slice (some ⟨b,o,none⟩) n c) (some (.int .i64 (i:Int))) none none).run Tryz.prog W = .ok (.slice (some ⟨b,o2,none⟩) (n - i) (c - i)) W)∧SlAt w (some ⟨b,o2,none⟩) (l.drop i):=by
 have h1:(i:Int)≤(n:Int):=by omega
 by_cases q:c=i
 ·refine⟨o,fun W=>by simp[go_sem,h1,q],?_⟩
  rw[List.drop_of_length_le (by omega)]
  exact SlAt.nil _ _
 ·exact⟨o+i*2,fun W=>by simp[go_sem,h1,q],h.cut i⟩
def opba0:Oper:={ dst:=some 28,op:=Go.Op.move (Go.Operand.tmp 0),type := 159, pos := "shelf.go:66", after:=#[],guard:=none }
def opba1:Oper:={ dst:=some 29,op:=Go.Op.move (Go.Operand.tmp 1),type := 3, pos := "shelf.go:66", after:=#[],guard:=none }
def opba2:Oper:={ dst:=some 30,op:=Go.Op.move (Go.Operand.tmp 0),type := 159, pos := "shelf.go:66", after:=#[],guard:=none }
def opba3:Oper:={ dst:=some 31,op:=Go.Op.move (Go.Operand.tmp 1),type := 3, pos := "shelf.go:66", after:=#[],guard:=none }
def opba4:Oper:={ dst:=some 32,op:=Go.Op.nilCheck (Go.Operand.tmp 30),type:=0,pos := "shelf.go:66", after:=#[{ on:=2,ground:=Go.Ground.data }],guard:=none }
def opba5:Oper:={ dst:=some 33,op:=Go.Op.indexAddr 86 (Go.Operand.tmp 32) (Go.Operand.tmp 31),type:=0,pos := "shelf.go:66", after:=#[{ on:=4,ground:=Go.Ground.data },{ on:=3,ground:=Go.Ground.data }],guard:=none }
def opba6:Oper:={ dst:=some 34,op:=Go.Op.load 83 (Go.Operand.tmp 33),type := 83, pos := "shelf.go:66", after:=#[{ on:=5,ground:=Go.Ground.data }],guard:=none }
def opba7:Oper:={ dst:=some 35,op:=Go.Op.move (Go.Operand.tmp 7),type := 3, pos := "shelf.go:66", after:=#[],guard:=none }
def opba8:Oper:={ dst:=some 36,op:=Go.Op.slice 83 (Go.Operand.tmp 34) none (some (Go.Operand.tmp 35)) none,type := 83, pos := "shelf.go:66", after:=#[{ on:=6,ground:=Go.Ground.data },{ on:=7,ground:=Go.Ground.data }],guard:=none }
def opba9:Oper:={ dst:=some 37,op:=Go.Op.move (Go.Operand.tmp 0),type := 159, pos := "shelf.go:66", after:=#[],guard:=none }
def opba10:Oper:={ dst:=some 38,op:=Go.Op.move (Go.Operand.tmp 1),type := 3, pos := "shelf.go:66", after:=#[],guard:=none }
def opba11:Oper:={ dst:=some 39,op:=Go.Op.nilCheck (Go.Operand.tmp 37),type:=0,pos := "shelf.go:66", after:=#[{ on:=9,ground:=Go.Ground.data }],guard:=none }
def opba12:Oper:={ dst:=some 40,op:=Go.Op.indexAddr 86 (Go.Operand.tmp 39) (Go.Operand.tmp 38),type:=0,pos := "shelf.go:66", after:=#[{ on:=11,ground:=Go.Ground.data },{ on:=10,ground:=Go.Ground.data }],guard:=none }
def opba13:Oper:={ dst:=some 41,op:=Go.Op.load 83 (Go.Operand.tmp 40),type := 83, pos := "shelf.go:66", after:=#[{ on:=12,ground:=Go.Ground.data }],guard:=none }
def opba14:Oper:={ dst:=some 42,op:=Go.Op.move (Go.Operand.tmp 7),type := 3, pos := "shelf.go:66", after:=#[],guard:=none }
def opba15:Oper:={ dst:=some 43,op:=Go.Op.binOp Go.BinOp.add 3 (Go.Operand.tmp 42) (Go.Operand.const (Go.Value.int Go.IntKind.i64 1)) 3, type := 3, pos := "shelf.go:66", after:=#[{ on:=14,ground:=Go.Ground.data }],guard:=none }
def opba16:Oper:={ dst:=some 44,op:=Go.Op.slice 83 (Go.Operand.tmp 41) (some (Go.Operand.tmp 43)) none none,type := 83, pos := "shelf.go:66", after:=#[{ on:=13,ground:=Go.Ground.data },{ on:=15,ground:=Go.Ground.data }],guard:=none }
def opba17:Oper:={ dst:=some 45,op:=Go.Op.buildSlice 208 2 #[(0,Go.Operand.tmp 36),(1,Go.Operand.tmp 44)],type := 208, pos := "shelf.go:66", after:=#[{ on:=8,ground:=Go.Ground.data },{ on:=16,ground:=Go.Ground.data }],guard:=none }
def opba18:Oper:={ dst:=some 46,op:=Go.Op.call { callee:=Go.Callee.value (Go.Operand.func 139),args:=#[Go.Operand.tmp 45],argTypes:=#[208] },type := 83, pos := "shelf.go:66", after:=#[{ on:=17,ground:=Go.Ground.data }],guard:=none }
def opba19:Oper:={ dst:=some 47,op:=Go.Op.nilCheck (Go.Operand.tmp 28),type:=0,pos := "shelf.go:66", after:=#[{ on:=0,ground:=Go.Ground.data }],guard:=none }
def opba20:Oper:={ dst:=some 48,op:=Go.Op.indexAddr 86 (Go.Operand.tmp 47) (Go.Operand.tmp 29),type:=0,pos := "shelf.go:66", after:=#[{ on:=19,ground:=Go.Ground.data },{ on:=1,ground:=Go.Ground.data },{ on:=0,ground:=Go.Ground.phase },{ on:=1,ground:=Go.Ground.phase },{ on:=2,ground:=Go.Ground.phase },{ on:=3,ground:=Go.Ground.phase },{ on:=4,ground:=Go.Ground.phase },{ on:=5,ground:=Go.Ground.phase },{ on:=6,ground:=Go.Ground.phase },{ on:=7,ground:=Go.Ground.phase },{ on:=8,ground:=Go.Ground.phase },{ on:=9,ground:=Go.Ground.phase },{ on:=10,ground:=Go.Ground.phase },{ on:=11,ground:=Go.Ground.phase },{ on:=12,ground:=Go.Ground.phase },{ on:=13,ground:=Go.Ground.phase },{ on:=14,ground:=Go.Ground.phase },{ on:=15,ground:=Go.Ground.phase },{ on:=16,ground:=Go.Ground.phase },{ on:=17,ground:=Go.Ground.phase },{ on:=18,ground:=Go.Ground.phase }],guard:=none }
def opba21:Oper:={ dst:=none,op:=Go.Op.store 83 (Go.Operand.tmp 48) (Go.Operand.tmp 46),type:=0,pos := "shelf.go:66", after:=#[{ on:=20,ground:=Go.Ground.data },{ on:=18,ground:=Go.Ground.data },{ on:=18,ground:=Go.Ground.chain },{ on:=0,ground:=Go.Ground.phase },{ on:=1,ground:=Go.Ground.phase },{ on:=2,ground:=Go.Ground.phase },{ on:=3,ground:=Go.Ground.phase },{ on:=4,ground:=Go.Ground.phase },{ on:=5,ground:=Go.Ground.phase },{ on:=6,ground:=Go.Ground.phase },{ on:=7,ground:=Go.Ground.phase },{ on:=8,ground:=Go.Ground.phase },{ on:=9,ground:=Go.Ground.phase },{ on:=10,ground:=Go.Ground.phase },{ on:=11,ground:=Go.Ground.phase },{ on:=12,ground:=Go.Ground.phase },{ on:=13,ground:=Go.Ground.phase },{ on:=14,ground:=Go.Ground.phase },{ on:=15,ground:=Go.Ground.phase },{ on:=16,ground:=Go.Ground.phase },{ on:=17,ground:=Go.Ground.phase },{ on:=18,ground:=Go.Ground.phase }],guard:=none }
set_option maxHeartbeats 4000000 in
theorem xsack_any (K:Nat→Prop) (w:World) (S:Nat) (vs:List Value) (b:Bxs) (u:Nat) (hu:u < 64) (X:ByteArray) (hm:X.data.toList∈ids (b u)) (hl:(b u).length≤100000) (hK:∀z,w.heap.size≤z→K z) (h:Hid (Shl K w S vs b)) :
  Calls Tryz.prog 109 #[.pointer (some ⟨S,0,none⟩),.int .i64 (u:Int),.string X] w fun e w'=>e = .returned (.bool true)∧ShP K w S (upB b u (rmL (b u) X.data.toList)) w':=by
 obtain⟨a,n,c,ev,sl,kb⟩:=h.out.bv.bx u hu
 have cu:=h.out.bk.c u _ ev
 have len:=sl.len
 have hix:=(idx_lt _ _).2 hm
 have hf:fnd (b u) X.data.toList=(idx (b u) X.data.toList:Int):=if_pos hm
 have hrm:=rmL_cut _ _ hm
 obtain⟨k,hk⟩:∃k,idx (b u) X.data.toList=k:=⟨_,rfl⟩
 rw[hk] at hix hf hrm
 obtain⟨b1,o1,rfl,-,-⟩:=sl.at_ 0 (by omega)
 have US:Hid (∀W,Calls Tryz.prog 32 #[.int .i64 (u:Int)] W fun e w'=>e = .returned (.bool true)∧w'=W):=fun W=>by
  have:=xuser_any (u:Int) W
  rw[show noU (u:Int)=false by unfold noU;simp;omega] at this
  exact this
 have HS:Hid (∀W,Below w.heap.size w W→Calls Tryz.prog 40 #[.slice (some ⟨b1,o1,none⟩) n c,.string X] W fun e w'=>e = .returned (.bool true)∧Below W.heap.size W w'):=fun W hb=>by
  have:=xhas_any _ n c (b u) X len (by omega) W (sl.at_.later hb)
  rw[decide_eq_true hm] at this
  exact this
 have FN:Hid (∀W,Below w.heap.size w W→Calls Tryz.prog 69 #[.slice (some ⟨b1,o1,none⟩) n c,.string X] W fun e w'=>e = .returned (.int .i64 (k:Int))∧Below W.heap.size W w'):=fun W hb=>by
  have:=xfind_any _ n c (b u) X len (by omega) W (sl.at_.later hb)
  rw[hf] at this
  exact this
 have KC:Hid (∀W,Below w.heap.size w W→W.cell? ⟨S,u,none⟩=some (.slice (some ⟨b1,o1,none⟩) n c)∧W.frozen? ⟨S,u,none⟩=false∧S < W.heap.size):=fun W hb=>⟨cell_later hb cu,(h.out.bk.later hb).f u,(h.out.bk.later hb).lt⟩
 obtain⟨o2,SL,st2⟩:=sl_tail w b1 o1 n c (k+1) (b u) sl.at_ len (by omega) sl.le
 have SH:=sl_head b1 o1 n c k (by omega) sl.le
 have st1:=sl.at_.take k
 have CC:Hid (∀W,Below w.heap.size w W→Calls Tryz.prog 139 #[.slice (some ⟨W.heap.size,0,none⟩) 2 2] (W.alloc (.cells #[.slice (some ⟨b1,o1,none⟩) k c,.slice (some ⟨b1,o2,none⟩) (n - (k+1)) (c - (k+1))] 83)) fun e W2=>∃a' n' c',e = .returned (.slice a' n' c')∧(W2.cell? ⟨S,u,none⟩=some (.slice (some ⟨b1,o1,none⟩) n c)∧W2.frozen? ⟨S,u,none⟩=false)∧Hid (ShP K w S (upB b u (rmL (b u) X.data.toList)) (W2.setCell ⟨S,u,none⟩ (.slice a' n' c')))):=fun W hb=>by
  have nb1:=nb W (.cells #[.slice (some ⟨b1,o1,none⟩) k c,.slice (some ⟨b1,o2,none⟩) (n - (k+1)) (c - (k+1))] 83)
  have hb1:=chain hb nb1
  refine (xconcat_any W.heap.size (some ⟨b1,o1,none⟩) (some ⟨b1,o2,none⟩) k (n - (k+1)) c (c - (k+1)) ((b u).take k) ((b u).drop (k+1)) (by rw[List.length_take];omega) (by rw[List.length_drop];omega) (by omega) (by omega) _ (by rw[World.cell?_alloc_new];rfl) (by rw[World.cell?_alloc_new];rfl) (st1.later hb1) (st2.later hb1)).mono ?_
  rintro e W2 ⟨a',c',rfl,r2,r3,r4⟩
  have hb2:Below w.heap.size w W2:=chain hb1 r4
  have hbk:=h.out.bk.later hb2
  have bf:Bf (fun z=>z=S) W2 (W2.setCell ⟨S,u,none⟩ (.slice a' (k+(n - (k+1))) c')):=Bf.set (fun z=>z=S) W2 S u _ rfl
  have hlen:u < vs.length:=by rw[h.out.bv.ln];exact hu
  have sS:S < w.heap.size:=h.out.bk.lt
  have hw:=hb1.size
  refine⟨a',_,c',rfl,⟨cell_later hb2 cu,hbk.f u⟩,vs.set u (.slice a' (k+(n - (k+1))) c'),⟨hbk.set u hlen _,?_,h.out.ks⟩,(Bf.of hb2).trans (Nx.refl _ _) bf⟩
  have bv2:Bvs K (W2.setCell ⟨S,u,none⟩ (.slice a' (k+(n - (k+1))) c')) vs b:=by
   refine⟨h.out.bv.ln,fun v hv => ?_⟩
   obtain⟨a1,n1,c1,e1,s1,k1⟩:=h.out.bv.bx v hv
   exact⟨a1,n1,c1,e1,(s1.later hb2).bf bf (fun x ex h0 c=>h.out.ks (by rw[←c];exact k1 x ex h0)),k1⟩
  rw[hrm]
  exact bv2.set u (r2.bf bf (fun x ex _ c=>by have:=r3 x ex;omega)) (fun x ex _=>hK _ (by have:=r3 x ex;omega))
 have g0:(0:Int)≤(u:Int):=by omega
 have g64:(u:Int) < 64:=by omega
 have hkn:k < n:=by omega
 have e1:IntKind.i64.wrap ((k:Int)+1)=((k+1:Nat):Int):=by rw[IntKind.wrap_i64];omega
 obtain⟨n2,hn2⟩:∃n2,n - (k+1)=n2:=⟨_,rfl⟩
 obtain⟨c2,hc2⟩:∃n2,c - (k+1)=n2:=⟨_,rfl⟩
 obtain⟨k1,hk1⟩:∃n2:Int,((k+1:Nat):Int)=n2:=⟨_,rfl⟩
 rw[hn2,hc2] at SL CC
 rw[hk1] at SL e1
 clear ev sl kb h hK hm hl len hix hf hrm hk st1 st2 hn2 hc2 hk1 hkn
 obtain⟨ki,hki⟩:∃z:Int,(k:Int)=z:=⟨_,rfl⟩
 rw[hki] at FN SH e1
 clear hki
 go_enter Tryz.func109, Tryz.ntmps109
 go_wp2_with fail
 refine Calls.mono (US.out _) ?_
 rintro e w1 ⟨rfl,rfl⟩
 clear US
 go_wp2_with fail
 refine Calls.mono (HS.out _ (Below.refl _ _)) ?_
 rintro e w2 ⟨rfl,hb2⟩
 obtain⟨x2,f2,l2⟩:=KC.out _ hb2
 clear cu HS
 go_wp2_with fail
 refine Calls.mono (FN.out _ hb2) ?_
 rintro e w4 ⟨rfl,hb4⟩
 have B4:Below _ _ w4.drew:=(chain hb2 hb4).drew
 obtain⟨c4,f4,l4⟩:=KC.out _ B4
 have C4:Hid _:=CC.out _ B4
 have c4a:=cell_alloc (o := .cells #[.slice (some ⟨b1,o1,none⟩) k c,.slice (some ⟨b1,o2,none⟩) n2 c2] 83) c4
 clear FN KC CC x2 f2 l2 hb2 hb4 B4
 go_wp2_with fail
 refine wp_region_noPanic ?_
 refine wp_region_held_drew (S:=fun _=>True) (by kernel_rfl) (trivial) (fun hHeld => ?_)
 obtain⟨D,hD⟩:∃D,w4.drew=D:=⟨_,rfl⟩
 rw[hD] at c4 f4 l4 c4a C4 ⊢
 clear hD
 refine wT 0 opba0 ?_ ?_ ?_;rotate_left
 ·intro w' hSw;clear hSw;unfold opba0;first|(go_simp;done)|(go_simp;with_reducible rfl)
 simp only[opba0,Act.put,wA,wB,wC]
 refine wT 1 opba1 ?_ ?_ ?_;rotate_left
 ·intro w' hSw;clear hSw;unfold opba1;first|(go_simp;done)|(go_simp;with_reducible rfl)
 simp only[opba1,Act.put,wA,wB,wC]
 refine wT 2 opba2 ?_ ?_ ?_;rotate_left
 ·intro w' hSw;clear hSw;unfold opba2;first|(go_simp;done)|(go_simp;with_reducible rfl)
 simp only[opba2,Act.put,wA,wB,wC]
 refine wT 3 opba3 ?_ ?_ ?_;rotate_left
 ·intro w' hSw;clear hSw;unfold opba3;first|(go_simp;done)|(go_simp;with_reducible rfl)
 simp only[opba3,Act.put,wA,wB,wC]
 refine wT 4 opba4 ?_ ?_ ?_;rotate_left
 ·intro w' hSw;clear hSw;unfold opba4;first|(go_simp;done)|(go_simp;with_reducible rfl)
 simp only[opba4,Act.put,wA,wB,wC]
 refine wT 5 opba5 ?_ ?_ ?_;rotate_left
 ·intro w' hSw;clear hSw;unfold opba5;first|(go_simp;done)|(go_simp;with_reducible rfl)
 simp only[opba5,Act.put,wA,wB,wC]
 refine wT 7 opba7 ?_ ?_ ?_;rotate_left
 ·intro w' hSw;clear hSw;unfold opba7;first|(go_simp;done)|(go_simp;with_reducible rfl)
 simp only[opba7,Act.put,wA,wB,wC]
 refine wT 9 opba9 ?_ ?_ ?_;rotate_left
 ·intro w' hSw;clear hSw;unfold opba9;first|(go_simp;done)|(go_simp;with_reducible rfl)
 simp only[opba9,Act.put,wA,wB,wC]
 refine wT 10 opba10 ?_ ?_ ?_;rotate_left
 ·intro w' hSw;clear hSw;unfold opba10;first|(go_simp;done)|(go_simp;with_reducible rfl)
 simp only[opba10,Act.put,wA,wB,wC]
 refine wT 11 opba11 ?_ ?_ ?_;rotate_left
 ·intro w' hSw;clear hSw;unfold opba11;first|(go_simp;done)|(go_simp;with_reducible rfl)
 simp only[opba11,Act.put,wA,wB,wC]
 refine wT 12 opba12 ?_ ?_ ?_;rotate_left
 ·intro w' hSw;clear hSw;unfold opba12;first|(go_simp;done)|(go_simp;with_reducible rfl)
 simp only[opba12,Act.put,wA,wB,wC]
 refine wT 14 opba14 ?_ ?_ ?_;rotate_left
 ·intro w' hSw;clear hSw;unfold opba14;first|(go_simp;done)|(go_simp;with_reducible rfl)
 simp only[opba14,Act.put,wA,wB,wC]
 refine wT 15 opba15 ?_ ?_ ?_;rotate_left
 ·intro w' hSw;clear hSw;unfold opba15;first|(go_simp;done)|(go_simp;with_reducible rfl)
 simp only[opba15,Act.put,wA,wB,wC]
 refine wT 19 opba19 ?_ ?_ ?_;rotate_left
 ·intro w' hSw;clear hSw;unfold opba19;first|(go_simp;done)|(go_simp;with_reducible rfl)
 simp only[opba19,Act.put,wA,wB,wC]
 refine wpAnyH_ready (rs:=[6,13]) (by kernel_rfl) (by simp) ?_
 refine AllReadyH.cons (o:=opba6) rfl (fun KK hKK => ?_) (AllReadyH.cons (o:=opba13) rfl (fun KK hKK => ?_) AllReadyH.nil)
 ·unfold opba6
  go_simp
  refine hKK.out _ _ trivial (fun _ => ?_)
  clear hKK KK
  try simp only[opba6,Act.put,wA,wB,wC]
  refine wT 8 opba8 ?_ ?_ ?_;rotate_left
  ·intro w' hSw;clear hSw;unfold opba8;first|(go_simp;done)|(go_simp;with_reducible rfl)
  simp only[opba8,Act.put,wA,wB,wC]
  refine wpAnyH_ready (rs:=[13]) (by kernel_rfl) (by simp) ?_
  refine AllReadyH.cons (o:=opba13) rfl (fun KK hKK => ?_) AllReadyH.nil
  unfold opba13
  go_simp
  refine hKK.out _ _ trivial (fun _ => ?_)
  clear hKK KK
  try simp only[opba13,Act.put,wA,wB,wC]
  refine wT 16 opba16 ?_ ?_ ?_;rotate_left
  ·intro w' hSw;clear hSw;unfold opba16;first|(go_simp;done)|(go_simp;with_reducible rfl)
  simp only[opba16,Act.put,wA,wB,wC]
  refine wpAnyH_ready (rs:=[17]) (by kernel_rfl) (by simp) ?_
  refine AllReadyH.cons (o:=opba17) rfl (fun KK hKK => ?_) AllReadyH.nil
  unfold opba17
  go_simp
  refine hKK.out _ _ trivial (fun _ => ?_)
  clear hKK KK
  try simp only[opba17,Act.put,wA,wB,wC]
  refine wpAnyH_ready (rs:=[18]) (by kernel_rfl) (by simp) ?_
  refine AllReadyH.cons (o:=opba18) rfl (fun KK hKK => ?_) AllReadyH.nil
  unfold opba18
  go_simp
  refine Calls.mono C4.out ?_
  rintro e w5 ⟨a',n',c',rfl,⟨c5,f5⟩,FF⟩
  refine hKK.out _ _ trivial (fun _ => ?_)
  clear hKK KK
  try simp only[opba18,Act.put,wA,wB,wC]
  refine wT 20 opba20 ?_ ?_ ?_;rotate_left
  ·intro w' hSw;clear hSw;unfold opba20;first|(go_simp;done)|(go_simp;with_reducible rfl)
  simp only[opba20,Act.put,wA,wB,wC]
  refine wpAnyH_ready (rs:=[21]) (by kernel_rfl) (by simp) ?_
  refine AllReadyH.cons (o:=opba21) rfl (fun KK hKK => ?_) AllReadyH.nil
  unfold opba21
  go_simp
  refine hKK.out _ _ trivial (fun _ => ?_)
  clear hKK KK
  refine wpAnyH_done (by kernel_rfl) ?_ _
  refine NoPanic.normal ?_
  go_wp2
  go_ret
  exact⟨rfl,FF.out⟩
 ·unfold opba13
  go_simp
  refine hKK.out _ _ trivial (fun _ => ?_)
  clear hKK KK
  try simp only[opba13,Act.put,wA,wB,wC]
  refine wT 16 opba16 ?_ ?_ ?_;rotate_left
  ·intro w' hSw;clear hSw;unfold opba16;first|(go_simp;done)|(go_simp;with_reducible rfl)
  simp only[opba16,Act.put,wA,wB,wC]
  refine wpAnyH_ready (rs:=[6]) (by kernel_rfl) (by simp) ?_
  refine AllReadyH.cons (o:=opba6) rfl (fun KK hKK => ?_) AllReadyH.nil
  unfold opba6
  go_simp
  refine hKK.out _ _ trivial (fun _ => ?_)
  clear hKK KK
  try simp only[opba6,Act.put,wA,wB,wC]
  refine wT 8 opba8 ?_ ?_ ?_;rotate_left
  ·intro w' hSw;clear hSw;unfold opba8;first|(go_simp;done)|(go_simp;with_reducible rfl)
  simp only[opba8,Act.put,wA,wB,wC]
  refine wpAnyH_ready (rs:=[17]) (by kernel_rfl) (by simp) ?_
  refine AllReadyH.cons (o:=opba17) rfl (fun KK hKK => ?_) AllReadyH.nil
  unfold opba17
  go_simp
  refine hKK.out _ _ trivial (fun _ => ?_)
  clear hKK KK
  try simp only[opba17,Act.put,wA,wB,wC]
  refine wpAnyH_ready (rs:=[18]) (by kernel_rfl) (by simp) ?_
  refine AllReadyH.cons (o:=opba18) rfl (fun KK hKK => ?_) AllReadyH.nil
  unfold opba18
  go_simp
  refine Calls.mono C4.out ?_
  rintro e w5 ⟨a',n',c',rfl,⟨c5,f5⟩,FF⟩
  refine hKK.out _ _ trivial (fun _ => ?_)
  clear hKK KK
  try simp only[opba18,Act.put,wA,wB,wC]
  refine wT 20 opba20 ?_ ?_ ?_;rotate_left
  ·intro w' hSw;clear hSw;unfold opba20;first|(go_simp;done)|(go_simp;with_reducible rfl)
  simp only[opba20,Act.put,wA,wB,wC]
  refine wpAnyH_ready (rs:=[21]) (by kernel_rfl) (by simp) ?_
  refine AllReadyH.cons (o:=opba21) rfl (fun KK hKK => ?_) AllReadyH.nil
  unfold opba21
  go_simp
  refine hKK.out _ _ trivial (fun _ => ?_)
  clear hKK KK
  refine wpAnyH_done (by kernel_rfl) ?_ _
  refine NoPanic.normal ?_
  go_wp2
  go_ret
  exact⟨rfl,FF.out⟩
end Go.Proofs.YtjpaodepnacimaaGreatDoor
