/- Parts: LhC,LhD. -/
import Derived.Test.YtdcimnmebgkmjaaGreatDoorZuG21
namespace Go.Proofs.YtdcimnmebgkmjaaGreatDoor
open Go.RowKit Go.Proofs.Fd Go.Proofs.Dk Go.Proofs.Lg
set_option maxRecDepth 20000
def Bn7 (w V:World) (p:Nat) (F:Nat→Prop) (s2:St) (tl:List Bs) (xa:Option Addr) (xn xc:Nat) (w':World):Prop :=
 ∃F2,Dl w w' p F2 s2∧Nx V F F2∧Bf F V w'∧OwnsS w' (.slice xa xn xc) tl∧∀x,(Value.slice xa xn xc).ownBlock=some x→V.heap.size≤x∧¬F2 x
def Ci7 (w va:World) (p:Nat) (F:Nat→Prop) (s2:St) (tl:List Bs) (pp:Option Addr) (i1 i2 i3:Int) (i5:Int) (s6:ByteArray) (H:Nat) (xa:Option Addr) (xn xc:Nat) (wx:World):Prop :=
 Bn7 w va p F s2 tl xa xn xc wx∧Blk wx H (hq7 pp i1 i2 i3 xa xn xc i5 s6)∧va.heap.size≤H
theorem ci_new {w va V w2:World} {p:Nat} {F:Nat→Prop} {s2:St} {tl:List Bs} {pp:Option Addr} {i1 i2 i3:Int} {i5:Int} {s6:ByteArray} {xa:Option Addr} {xn xc:Nat} (ty:TypeId) (bl:Below va.heap.size va V) (h:Bn7 w V p F s2 tl xa xn xc w2) :
  Ci7 w va p F s2 tl pp i1 i2 i3 i5 s6 w2.heap.size xa xn xc (w2.alloc (.cells #[.pointer pp,.int .i64 i1,.int .i64 i2,.int .i64 i3,.slice xa xn xc,.int .i64 i5,.string s6] ty)):=by
 obtain⟨F2,h1,h2,h3,h4,h5⟩:=h
 exact⟨⟨F2,h1.later (nb _ _),(Nx.refl va F).trans h2 bl.size,((Bf.of bl).trans (Nx.refl _ _) h3).later (nb _ _),ownsRow_same h4 (fun x e=>(nb w2 _).block x (h4.lt x e).2),fun x e=>⟨Nat.le_trans bl.size (h5 x e).1,(h5 x e).2⟩⟩,Blk.new w2 _ _ (by simp),Nat.le_trans bl.size h3.size⟩
theorem ci_old {w va V w2:World} {p:Nat} {F:Nat→Prop} {s2:St} {tl:List Bs} {pp:Option Addr} {i1 i2 i3:Int} {i5:Int} {s6:ByteArray} {xa:Option Addr} {xn xc:Nat} {H:Nat} (hw:w.heap.size≤va.heap.size) (bl:Below va.heap.size va V) (h:Bn7 w V p F s2 tl xa xn xc w2) (bh:Blk V H hz0) (hF:¬F H) (nH:va.heap.size≤H) :
  Ci7 w va p F s2 tl pp i1 i2 i3 i5 s6 H xa xn xc (w2.setCells H 0 (hq7 pp i1 i2 i3 xa xn xc i5 s6)):=by
 obtain⟨F2,h1,h2,h3,h4,h5⟩:=h
 have hb:=bh.bf h3 hF
 have hF2:=h2.apart hF bh.lt
 have hv:(Value.slice xa xn xc).ownBlock≠some H:=fun e=>by have:=(h5 _ e).1;have:=bh.lt;omega
 exact⟨⟨F2,h1.sets hF2 (Nat.le_trans hw nH) _,(Nx.refl va F).trans h2 bl.size,((Bf.of bl).trans (Nx.refl _ _) h3).trans (fun x e => .inr (by rw[e];exact nH)) (Bf.sets (fun x=>x=H) H rfl _ 0 w2),ownsRow_same h4 (fun x e=>setCells_other w2 H 0 _ x (fun d=>hv (by rw[e,d]))),fun x e=>⟨Nat.le_trans bl.size (h5 x e).1,(h5 x e).2⟩⟩,hb.put _ rfl,nH⟩
def olc0:Oper:={ dst:=some 43,op:=Go.Op.move (Go.Operand.tmp 0),type := 32, pos := "log.go:88", after:=#[],guard:=none }
def olc1:Oper:={ dst:=some 44,op:=Go.Op.nilCheck (Go.Operand.tmp 43),type:=0,pos := "log.go:88", after:=#[{ on:=0,ground:=Go.Ground.data }],guard:=none }
def olc2:Oper:={ dst:=some 45,op:=Go.Op.fieldAddr 110 (Go.Operand.tmp 44) 0,type:=0,pos := "log.go:88", after:=#[{ on:=1,ground:=Go.Ground.data }],guard:=none }
def olc3:Oper:={ dst:=some 46,op:=Go.Op.fieldAddr 104 (Go.Operand.tmp 45) 0,type:=0,pos := "log.go:88", after:=#[{ on:=2,ground:=Go.Ground.data }],guard:=none }
def olc4:Oper:={ dst:=some 47,op:=Go.Op.load 102 (Go.Operand.tmp 46),type := 102, pos := "log.go:88", after:=#[{ on:=3,ground:=Go.Ground.data }],guard:=none }
def olc5:Oper:={ dst:=some 48,op:=Go.Op.call { callee:=Go.Callee.value (Go.Operand.func 55),args:=#[Go.Operand.tmp 47],argTypes:=#[102] },type := 102, pos := "log.go:88", after:=#[{ on:=4,ground:=Go.Ground.data }],guard:=none }
def olc6:Oper:={ dst:=some 49,op:=Go.Op.move (Go.Operand.tmp 0),type := 32, pos := "log.go:88", after:=#[],guard:=none }
def olc7:Oper:={ dst:=some 50,op:=Go.Op.nilCheck (Go.Operand.tmp 49),type:=0,pos := "log.go:88", after:=#[{ on:=6,ground:=Go.Ground.data }],guard:=none }
def olc8:Oper:={ dst:=some 51,op:=Go.Op.fieldAddr 110 (Go.Operand.tmp 50) 0,type:=0,pos := "log.go:88", after:=#[{ on:=7,ground:=Go.Ground.data }],guard:=none }
def olc9:Oper:={ dst:=some 52,op:=Go.Op.fieldAddr 104 (Go.Operand.tmp 51) 1,type:=0,pos := "log.go:88", after:=#[{ on:=8,ground:=Go.Ground.data }],guard:=none }
def olc10:Oper:={ dst:=some 53,op:=Go.Op.load 3 (Go.Operand.tmp 52),type := 3, pos := "log.go:88", after:=#[{ on:=9,ground:=Go.Ground.data }],guard:=none }
def olc11:Oper:={ dst:=some 54,op:=Go.Op.binOp Go.BinOp.add 3 (Go.Operand.tmp 53) (Go.Operand.const (Go.Value.int Go.IntKind.i64 1)) 3, type := 3, pos := "log.go:88", after:=#[{ on:=10,ground:=Go.Ground.data }],guard:=none }
def olc12:Oper:={ dst:=some 55,op:=Go.Op.move (Go.Operand.tmp 1),type := 37, pos := "log.go:88", after:=#[],guard:=none }
def olc13:Oper:={ dst:=some 56,op:=Go.Op.call { callee:=Go.Callee.value (Go.Operand.func 56),args:=#[Go.Operand.tmp 48,Go.Operand.tmp 54,Go.Operand.tmp 55],argTypes:=#[102, 3, 37] },type := 105, pos := "log.go:88", after:=#[{ on:=5,ground:=Go.Ground.data },{ on:=11,ground:=Go.Ground.data },{ on:=12,ground:=Go.Ground.data },{ on:=5,ground:=Go.Ground.chain }],guard:=none }
def olc14:Oper:={ dst:=some 42,op:=Go.Op.move (Go.Operand.tmp 56),type := 105, pos := "log.go:88", after:=#[{ on:=13,ground:=Go.Ground.data }],guard:=none }
def olc15:Oper:={ dst:=some 57,op:=Go.Op.extract (Go.Operand.tmp 42) 0,type := 104, pos := "log.go:88", after:=#[{ on:=14,ground:=Go.Ground.data }],guard:=none }
def olc16:Oper:={ dst:=some 58,op:=Go.Op.extract (Go.Operand.tmp 42) 1,type := 24, pos := "log.go:88", after:=#[{ on:=14,ground:=Go.Ground.data },{ on:=18,ground:=Go.Ground.gcOnly Go.Departure.lateStores }],guard:=none }
def olc17:Oper:={ dst:=some 9,op:=Go.Op.alloc 104, type:=0,pos := "log.go:88", after:=#[],guard:=none }
def olc18:Oper:={ dst:=none,op:=Go.Op.store 104 (Go.Operand.tmp 9) (Go.Operand.tmp 57),type:=0,pos := "log.go:88", after:=#[{ on:=17,ground:=Go.Ground.data },{ on:=15,ground:=Go.Ground.data },{ on:=13,ground:=Go.Ground.chain },{ on:=0,ground:=Go.Ground.phase },{ on:=1,ground:=Go.Ground.phase },{ on:=2,ground:=Go.Ground.phase },{ on:=3,ground:=Go.Ground.phase },{ on:=4,ground:=Go.Ground.phase },{ on:=5,ground:=Go.Ground.phase },{ on:=6,ground:=Go.Ground.phase },{ on:=7,ground:=Go.Ground.phase },{ on:=8,ground:=Go.Ground.phase },{ on:=9,ground:=Go.Ground.phase },{ on:=10,ground:=Go.Ground.phase },{ on:=11,ground:=Go.Ground.phase },{ on:=12,ground:=Go.Ground.phase },{ on:=13,ground:=Go.Ground.phase },{ on:=14,ground:=Go.Ground.phase },{ on:=15,ground:=Go.Ground.phase },{ on:=16,ground:=Go.Ground.textOnly Go.Departure.lateStores },{ on:=17,ground:=Go.Ground.phase }],guard:=none }
def olc19:Oper:={ dst:=some 10,op:=Go.Op.assign (Go.Operand.tmp 58),type := 24, pos := "log.go:88", after:=#[{ on:=16,ground:=Go.Ground.data },{ on:=18,ground:=Go.Ground.chain },{ on:=0,ground:=Go.Ground.phase },{ on:=1,ground:=Go.Ground.phase },{ on:=2,ground:=Go.Ground.phase },{ on:=3,ground:=Go.Ground.phase },{ on:=4,ground:=Go.Ground.phase },{ on:=5,ground:=Go.Ground.phase },{ on:=6,ground:=Go.Ground.phase },{ on:=7,ground:=Go.Ground.phase },{ on:=8,ground:=Go.Ground.phase },{ on:=9,ground:=Go.Ground.phase },{ on:=10,ground:=Go.Ground.phase },{ on:=11,ground:=Go.Ground.phase },{ on:=12,ground:=Go.Ground.phase },{ on:=13,ground:=Go.Ground.phase },{ on:=14,ground:=Go.Ground.phase },{ on:=15,ground:=Go.Ground.phase },{ on:=16,ground:=Go.Ground.phase },{ on:=17,ground:=Go.Ground.phase },{ on:=18,ground:=Go.Ground.phase }],guard:=none }
theorem cellbf {F:Nat→Prop} {w w':World} (hb:Bf F w w') {q o:Nat} {v:Value} (hq:¬F q) (h:w.cell? ⟨q,o,none⟩=some v):w'.cell? ⟨q,o,none⟩=some v:=hb.cell h hq
theorem keep4s {w:World} {B H:Nat} {x0 x1 x2 x3 y0 y1 y2 y3 y4 y5 y6:Value} (hne:B≠H) (h:w.cell? ⟨B,0,none⟩=some x0∧w.cell? ⟨B,1,none⟩=some x1∧w.cell? ⟨B,2,none⟩=some x2∧w.cell? ⟨B,3,none⟩=some x3) :
  (w.setCells H 0 [y0,y1,y2,y3,y4,y5,y6]).cell? ⟨B,0,none⟩=some x0∧(w.setCells H 0 [y0,y1,y2,y3,y4,y5,y6]).cell? ⟨B,1,none⟩=some x1∧(w.setCells H 0 [y0,y1,y2,y3,y4,y5,y6]).cell? ⟨B,2,none⟩=some x2∧(w.setCells H 0 [y0,y1,y2,y3,y4,y5,y6]).cell? ⟨B,3,none⟩=some x3:=by
 have hs:=setCells_other w H 0 [y0,y1,y2,y3,y4,y5,y6] B hne
 exact⟨(World.cell?_of_block (a:=⟨B,0,none⟩) hs).trans h.1,(World.cell?_of_block (a:=⟨B,1,none⟩) hs).trans h.2.1,(World.cell?_of_block (a:=⟨B,2,none⟩) hs).trans h.2.2.1,(World.cell?_of_block (a:=⟨B,3,none⟩) hs).trans h.2.2.2⟩
set_option maxHeartbeats 4000000 in
theorem compact_region (w:World) (p:Nat) (F:Nat→Prop) (s2:St) (tl:List Bs) (q fr fr2 mn:Nat) (gi:Int) (x:Int) (va:World) (a:Option Addr) (n c:Nat) (E:Option Addr→Int→Int→Int→Int→ByteArray→Prop) (hw:Hid (w.heap.size≤va.heap.size)) (hF:Hid (∀y,F y→y < va.heap.size)) (hq:Hid (¬F q∧q < va.heap.size)) (y1:IntKind.i64.wrap (gi+1)=gi+1)
  (b0:va.cell? ⟨q,0,none⟩=some (.pointer (some ⟨p,0,none⟩))) (b1:va.cell? ⟨q,1,none⟩=some (.int .i64 (fr:Int))) (b2:va.cell? ⟨q,2,none⟩=some (.int .i64 (mn:Int))) (b3:va.cell? ⟨q,3,none⟩=some (.int .i64 gi))
  (OT:Hid (∀w,Calls Tryz.prog 55 #[.agg #[.pointer (some ⟨p,0,none⟩),.int .i64 (fr:Int),.int .i64 (mn:Int)]] w fun e w'=>e = .returned (.agg #[.pointer (some ⟨p,0,none⟩),.int .i64 (fr2:Int),.int .i64 (mn:Int)])∧Below w.heap.size w w'))
  (BG:Hid (∀V,Below va.heap.size va V→Calls Tryz.prog 56 #[.agg #[.pointer (some ⟨p,0,none⟩),.int .i64 (fr2:Int),.int .i64 (mn:Int)],.int .i64 (gi+1),.slice a n c] V fun e w'=>∃pp i1 i2 i3 xa xn xc i5 s6,e = .returned (.tuple #[.agg #[.pointer pp,.int .i64 i1,.int .i64 i2,.int .i64 i3,.slice xa xn xc,.int .i64 i5,.string s6],.int .i64 x])∧E pp i1 i2 i3 i5 s6∧Bn7 w V p F s2 tl xa xn xc w'))
  (a2 a3 a4 a5 a6 a7 a8 a11 a12 a13 a14 a15 a16 a17 a18 a19 a20 a21 a22 a23 a24 a25 a26 a27 a28 a29 a30 a31 a32 a33 a34 a35 a36 a37 a38 a39 a40 a41:Value) (Q:Exit→Act→World→Prop)
  (hQ:Hid (∀(H:Nat) (pp:Option Addr) (i1 i2 i3:Int) (xa:Option Addr) (xn xc:Nat) (i5:Int) (s6:ByteArray) (wx:World) (u42 u43 u44 u45 u46 u47 u48 u49 u50 u51 u52 u53 u54 u55 u56 u57 u58:Value),E pp i1 i2 i3 i5 s6→Ci7 w va p F s2 tl pp i1 i2 i3 i5 s6 H xa xn xc wx→Q .normal { tmps:=#[.pointer (some ⟨q,0,none⟩),.slice a n c,a2,a3,a4,a5,a6,a7,a8,.pointer (some ⟨H,0,none⟩),.int .i64 x,a11,a12,a13,a14,a15,a16,a17,a18,a19,a20,a21,a22,a23,a24,a25,a26,a27,a28,a29,a30,a31,a32,a33,a34,a35,a36,a37,a38,a39,a40,a41,u42,u43,u44,u45,u46,u47,u48,u49,u50,u51,u52,u53,u54,u55,u56,u57,u58,undef,undef,undef,undef,undef,undef,undef],defers:=[] } wx)) :
  (Code.region 14 #[olc0,olc1,olc2,olc3,olc4,olc5,olc6,olc7,olc8,olc9,olc10,olc11,olc12,olc13,olc14,olc15,olc16,olc17,olc18,olc19] true).wp Tryz.prog Q { tmps:=#[.pointer (some ⟨q,0,none⟩),.slice a n c,a2,a3,a4,a5,a6,a7,a8,undef,undef,a11,a12,a13,a14,a15,a16,a17,a18,a19,a20,a21,a22,a23,a24,a25,a26,a27,a28,a29,a30,a31,a32,a33,a34,a35,a36,a37,a38,a39,a40,a41,undef,undef,undef,undef,undef,undef,undef,undef,undef,undef,undef,undef,undef,undef,undef,undef,undef,undef,undef,undef,undef,undef,undef,undef],defers:=[] } va:=by
 refine wp_region_noPanic ?_
 refine wp_region_held_drew (S:=fun w'=>w'.cell? ⟨q,0,none⟩=some (.pointer (some ⟨p,0,none⟩))∧w'.cell? ⟨q,1,none⟩=some (.int .i64 (fr:Int))∧w'.cell? ⟨q,2,none⟩=some (.int .i64 (mn:Int))∧w'.cell? ⟨q,3,none⟩=some (.int .i64 gi)) (by kernel_rfl) (⟨b0,b1,b2,b3⟩) (fun hHeld => ?_)
 obtain⟨Z,hZ⟩:∃Z,va.drew=Z:=⟨_,rfl⟩
 have hz:Hid (Below va.heap.size va Z):=by
  rw[←hZ]
  exact (Below.refl _ _).drew
 rw[hZ] at hHeld ⊢
 clear hZ b0 b1 b2 b3
 refine wpAnyH_take (i:=0) (oi:=olc0) (v := ?_) rfl (by kernel_rfl) (by kernel_rfl) (by kernel_rfl) (fun _ _ _ h=>h) (Or.inl ⟨by rfl,?_⟩) (by assumption) ?_
 rotate_left
 ·intro w' hSw
  clear hSw
  unfold olc0
  first
  | (go_simp;done)
  | (go_simp;with_reducible rfl)
 simp only[olc0,Act.put,List.setIfInBounds_toArray,List.set_cons_zero,List.set_cons_succ]
 refine wpAnyH_take (i:=1) (oi:=olc1) (v := ?_) rfl (by kernel_rfl) (by kernel_rfl) (by kernel_rfl) (fun _ _ _ h=>h) (Or.inl ⟨by rfl,?_⟩) (by assumption) ?_
 rotate_left
 ·intro w' hSw
  clear hSw
  unfold olc1
  first
  | (go_simp;done)
  | (go_simp;with_reducible rfl)
 simp only[olc1,Act.put,List.setIfInBounds_toArray,List.set_cons_zero,List.set_cons_succ]
 refine wpAnyH_take (i:=2) (oi:=olc2) (v := ?_) rfl (by kernel_rfl) (by kernel_rfl) (by kernel_rfl) (fun _ _ _ h=>h) (Or.inl ⟨by rfl,?_⟩) (by assumption) ?_
 rotate_left
 ·intro w' hSw
  clear hSw
  unfold olc2
  first
  | (go_simp;done)
  | (go_simp;with_reducible rfl)
 simp only[olc2,Act.put,List.setIfInBounds_toArray,List.set_cons_zero,List.set_cons_succ]
 refine wpAnyH_take (i:=3) (oi:=olc3) (v := ?_) rfl (by kernel_rfl) (by kernel_rfl) (by kernel_rfl) (fun _ _ _ h=>h) (Or.inl ⟨by rfl,?_⟩) (by assumption) ?_
 rotate_left
 ·intro w' hSw
  clear hSw
  unfold olc3
  first
  | (go_simp;done)
  | (go_simp;with_reducible rfl)
 simp only[olc3,Act.put,List.setIfInBounds_toArray,List.set_cons_zero,List.set_cons_succ]
 refine wpAnyH_take (i:=4) (oi:=olc4) (v := ?_) rfl (by kernel_rfl) (by kernel_rfl) (by kernel_rfl) (fun _ _ _ h=>h) (Or.inl ⟨by rfl,?_⟩) (by assumption) ?_
 rotate_left
 ·intro w' hSw
  obtain⟨s0,s1,s2,s3⟩:=hSw
  unfold olc4
  first
  | (go_simp;done)
  | (go_simp;with_reducible rfl)
 simp only[olc4,Act.put,List.setIfInBounds_toArray,List.set_cons_zero,List.set_cons_succ]
 refine wpAnyH_take (i:=6) (oi:=olc6) (v := ?_) rfl (by kernel_rfl) (by kernel_rfl) (by kernel_rfl) (fun _ _ _ h=>h) (Or.inl ⟨by rfl,?_⟩) (by assumption) ?_
 rotate_left
 ·intro w' hSw
  clear hSw
  unfold olc6
  first
  | (go_simp;done)
  | (go_simp;with_reducible rfl)
 simp only[olc6,Act.put,List.setIfInBounds_toArray,List.set_cons_zero,List.set_cons_succ]
 refine wpAnyH_take (i:=7) (oi:=olc7) (v := ?_) rfl (by kernel_rfl) (by kernel_rfl) (by kernel_rfl) (fun _ _ _ h=>h) (Or.inl ⟨by rfl,?_⟩) (by assumption) ?_
 rotate_left
 ·intro w' hSw
  clear hSw
  unfold olc7
  first
  | (go_simp;done)
  | (go_simp;with_reducible rfl)
 simp only[olc7,Act.put,List.setIfInBounds_toArray,List.set_cons_zero,List.set_cons_succ]
 refine wpAnyH_take (i:=8) (oi:=olc8) (v := ?_) rfl (by kernel_rfl) (by kernel_rfl) (by kernel_rfl) (fun _ _ _ h=>h) (Or.inl ⟨by rfl,?_⟩) (by assumption) ?_
 rotate_left
 ·intro w' hSw
  clear hSw
  unfold olc8
  first
  | (go_simp;done)
  | (go_simp;with_reducible rfl)
 simp only[olc8,Act.put,List.setIfInBounds_toArray,List.set_cons_zero,List.set_cons_succ]
 refine wpAnyH_take (i:=9) (oi:=olc9) (v := ?_) rfl (by kernel_rfl) (by kernel_rfl) (by kernel_rfl) (fun _ _ _ h=>h) (Or.inl ⟨by rfl,?_⟩) (by assumption) ?_
 rotate_left
 ·intro w' hSw
  clear hSw
  unfold olc9
  first
  | (go_simp;done)
  | (go_simp;with_reducible rfl)
 simp only[olc9,Act.put,List.setIfInBounds_toArray,List.set_cons_zero,List.set_cons_succ]
 refine wpAnyH_take (i:=10) (oi:=olc10) (v := ?_) rfl (by kernel_rfl) (by kernel_rfl) (by kernel_rfl) (fun _ _ _ h=>h) (Or.inl ⟨by rfl,?_⟩) (by assumption) ?_
 rotate_left
 ·intro w' hSw
  obtain⟨s0,s1,s2,s3⟩:=hSw
  unfold olc10
  first
  | (go_simp;done)
  | (go_simp;with_reducible rfl)
 simp only[olc10,Act.put,List.setIfInBounds_toArray,List.set_cons_zero,List.set_cons_succ]
 refine wpAnyH_take (i:=11) (oi:=olc11) (v := ?_) rfl (by kernel_rfl) (by kernel_rfl) (by kernel_rfl) (fun _ _ _ h=>h) (Or.inl ⟨by rfl,?_⟩) (by assumption) ?_
 rotate_left
 ·intro w' hSw
  clear hSw
  unfold olc11
  first
  | (go_simp;done)
  | (go_simp;with_reducible rfl)
 simp only[olc11,Act.put,List.setIfInBounds_toArray,List.set_cons_zero,List.set_cons_succ]
 refine wpAnyH_take (i:=12) (oi:=olc12) (v := ?_) rfl (by kernel_rfl) (by kernel_rfl) (by kernel_rfl) (fun _ _ _ h=>h) (Or.inl ⟨by rfl,?_⟩) (by assumption) ?_
 rotate_left
 ·intro w' hSw
  clear hSw
  unfold olc12
  first
  | (go_simp;done)
  | (go_simp;with_reducible rfl)
 simp only[olc12,Act.put,List.setIfInBounds_toArray,List.set_cons_zero,List.set_cons_succ]
 refine wpAnyH_ready (rs:=[5,17]) (by kernel_rfl) (by simp) ?_
 refine AllReadyH.cons (o:=olc5) rfl (fun KK hKK => ?_) (AllReadyH.cons (o:=olc17) rfl (fun KK hKK => ?_) AllReadyH.nil)
 ·unfold olc5
  go_simp
  refine Calls.mono (OT.out _) ?_
  rintro e w1 ⟨rfl,hb1⟩
  have sz1:=hb1.size
  have bl1:=chain hz.out hb1
  refine hKK.out _ _ ⟨cell_later hb1 hHeld.1,cell_later hb1 hHeld.2.1,cell_later hb1 hHeld.2.2.1,cell_later hb1 hHeld.2.2.2⟩ (fun hHeld1 => ?_)
  clear hKK KK
  refine wpAnyH_ready (rs:=[13,17]) (by kernel_rfl) (by simp) ?_
  refine AllReadyH.cons (o:=olc13) rfl (fun KK hKK => ?_) (AllReadyH.cons (o:=olc17) rfl (fun KK hKK => ?_) AllReadyH.nil)
  ·unfold olc13
   go_simp
   refine Calls.mono (BG.out w1 bl1) ?_
   rintro e w2 ⟨pp,i1,i2,i3,xa,xn,xc,i5,s6,rfl,he7,hb7⟩
   obtain⟨F7,-,-,bf7,-,-⟩:=id hb7
   refine hKK.out _ _ ⟨cellbf bf7 hq.out.1 hHeld1.1,cellbf bf7 hq.out.1 hHeld1.2.1,cellbf bf7 hq.out.1 hHeld1.2.2.1,cellbf bf7 hq.out.1 hHeld1.2.2.2⟩ (fun hHeld2 => ?_)
   clear hKK KK bf7 F7
   refine wpAnyH_take (i:=14) (oi:=olc14) (v := ?_) rfl (by kernel_rfl) (by kernel_rfl) (by kernel_rfl) (fun _ _ _ h=>h) (Or.inl ⟨by rfl,?_⟩) (by assumption) ?_
   rotate_left
   ·intro w' hSw
    clear hSw
    unfold olc14
    first
    | (go_simp;done)
    | (go_simp;with_reducible rfl)
   simp only[olc14,Act.put,List.setIfInBounds_toArray,List.set_cons_zero,List.set_cons_succ]
   refine wpAnyH_take (i:=15) (oi:=olc15) (v := ?_) rfl (by kernel_rfl) (by kernel_rfl) (by kernel_rfl) (fun _ _ _ h=>h) (Or.inl ⟨by rfl,?_⟩) (by assumption) ?_
   rotate_left
   ·intro w' hSw
    clear hSw
    unfold olc15
    first
    | (go_simp;done)
    | (go_simp;with_reducible rfl)
   simp only[olc15,Act.put,List.setIfInBounds_toArray,List.set_cons_zero,List.set_cons_succ]
   refine wpAnyH_take (i:=16) (oi:=olc16) (v := ?_) rfl (by kernel_rfl) (by kernel_rfl) (by kernel_rfl) (fun _ _ _ h=>h) (Or.inl ⟨by rfl,?_⟩) (by assumption) ?_
   rotate_left
   ·intro w' hSw
    clear hSw
    unfold olc16
    first
    | (go_simp;done)
    | (go_simp;with_reducible rfl)
   simp only[olc16,Act.put,List.setIfInBounds_toArray,List.set_cons_zero,List.set_cons_succ]
   refine wpAnyH_ready (rs:=[17]) (by kernel_rfl) (by simp) ?_
   refine AllReadyH.cons (o:=olc17) rfl (fun KK hKK => ?_) AllReadyH.nil
   unfold olc17
   go_simp
   have nw3:Blk (w2.alloc (.cells #[.pointer none,.int .i64 0,.int .i64 0,.int .i64 0,.slice none 0 0,.int .i64 0,.string ⟨#[]⟩] 104)) (w2.heap.size) hz0:=blk_at w2 hz0 _ (by simp) _ (by simp)
   refine hKK.out _ _ ⟨cell_alloc hHeld2.1,cell_alloc hHeld2.2.1,cell_alloc hHeld2.2.2.1,cell_alloc hHeld2.2.2.2⟩ (fun hHeld3 => ?_)
   clear hKK KK
   refine wpAnyH_ready (rs:=[18]) (by kernel_rfl) (by simp) ?_
   refine AllReadyH.cons (o:=olc18) rfl (fun KK hKK => ?_) AllReadyH.nil
   have FI:Hid _:=ci_new (pp:=pp) (i1:=i1) (i2:=i2) (i3:=i3) (i5:=i5) (s6:=s6) 104 bl1 hb7
   unfold olc18
   go_simp
   refine hKK.out _ _ ⟨cell_alloc hHeld2.1,cell_alloc hHeld2.2.1,cell_alloc hHeld2.2.2.1,cell_alloc hHeld2.2.2.2⟩ (fun hHeld4 => ?_)
   clear hKK KK
   refine wpAnyH_take (i:=19) (oi:=olc19) (v := ?_) rfl (by kernel_rfl) (by kernel_rfl) (by kernel_rfl) (fun _ _ _ h=>h) (Or.inl ⟨by rfl,?_⟩) (by assumption) ?_
   rotate_left
   ·intro w' hSw
    clear hSw
    unfold olc19
    first
    | (go_simp;done)
    | (go_simp;with_reducible rfl)
   simp only[olc19,Act.put,List.setIfInBounds_toArray,List.set_cons_zero,List.set_cons_succ]
   refine wpAnyH_done (by kernel_rfl) ?_ _
   refine NoPanic.normal ?_
   exact hQ.out _ _ _ _ _ _ _ _ _ _ _ _ _ _ _ _ _ _ _ _ _ _ _ _ _ _ _ _ he7 FI.out
  ·unfold olc17
   go_simp
   have nw2:Blk (w1.alloc (.cells #[.pointer none,.int .i64 0,.int .i64 0,.int .i64 0,.slice none 0 0,.int .i64 0,.string ⟨#[]⟩] 104)) (w1.heap.size) hz0:=blk_at w1 hz0 _ (by simp) _ (by simp)
   have bs2:=bl1.size
   have bl2:=chain bl1 (nb w1 (.cells #[.pointer none,.int .i64 0,.int .i64 0,.int .i64 0,.slice none 0 0,.int .i64 0,.string ⟨#[]⟩] 104))
   refine hKK.out _ _ ⟨cell_alloc hHeld1.1,cell_alloc hHeld1.2.1,cell_alloc hHeld1.2.2.1,cell_alloc hHeld1.2.2.2⟩ (fun hHeld2 => ?_)
   clear hKK KK
   refine wpAnyH_ready (rs:=[13]) (by kernel_rfl) (by simp) ?_
   refine AllReadyH.cons (o:=olc13) rfl (fun KK hKK => ?_) AllReadyH.nil
   unfold olc13
   go_simp
   refine Calls.mono (BG.out (w1.alloc (.cells #[.pointer none,.int .i64 0,.int .i64 0,.int .i64 0,.slice none 0 0,.int .i64 0,.string ⟨#[]⟩] 104)) bl2) ?_
   rintro e w3 ⟨pp,i1,i2,i3,xa,xn,xc,i5,s6,rfl,he7,hb7⟩
   obtain⟨F7,-,-,bf7,-,-⟩:=id hb7
   refine hKK.out _ _ ⟨cellbf bf7 hq.out.1 hHeld2.1,cellbf bf7 hq.out.1 hHeld2.2.1,cellbf bf7 hq.out.1 hHeld2.2.2.1,cellbf bf7 hq.out.1 hHeld2.2.2.2⟩ (fun hHeld3 => ?_)
   clear hKK KK bf7 F7
   refine wpAnyH_take (i:=14) (oi:=olc14) (v := ?_) rfl (by kernel_rfl) (by kernel_rfl) (by kernel_rfl) (fun _ _ _ h=>h) (Or.inl ⟨by rfl,?_⟩) (by assumption) ?_
   rotate_left
   ·intro w' hSw
    clear hSw
    unfold olc14
    first
    | (go_simp;done)
    | (go_simp;with_reducible rfl)
   simp only[olc14,Act.put,List.setIfInBounds_toArray,List.set_cons_zero,List.set_cons_succ]
   refine wpAnyH_take (i:=15) (oi:=olc15) (v := ?_) rfl (by kernel_rfl) (by kernel_rfl) (by kernel_rfl) (fun _ _ _ h=>h) (Or.inl ⟨by rfl,?_⟩) (by assumption) ?_
   rotate_left
   ·intro w' hSw
    clear hSw
    unfold olc15
    first
    | (go_simp;done)
    | (go_simp;with_reducible rfl)
   simp only[olc15,Act.put,List.setIfInBounds_toArray,List.set_cons_zero,List.set_cons_succ]
   refine wpAnyH_take (i:=16) (oi:=olc16) (v := ?_) rfl (by kernel_rfl) (by kernel_rfl) (by kernel_rfl) (fun _ _ _ h=>h) (Or.inl ⟨by rfl,?_⟩) (by assumption) ?_
   rotate_left
   ·intro w' hSw
    clear hSw
    unfold olc16
    first
    | (go_simp;done)
    | (go_simp;with_reducible rfl)
   simp only[olc16,Act.put,List.setIfInBounds_toArray,List.set_cons_zero,List.set_cons_succ]
   refine wpAnyH_ready (rs:=[18]) (by kernel_rfl) (by simp) ?_
   refine AllReadyH.cons (o:=olc18) rfl (fun KK hKK => ?_) AllReadyH.nil
   have hHn:va.heap.size≤w1.heap.size:=by have:=hz.out.size;omega
   have hHF:¬F (w1.heap.size):=fun c=>by have:=hF.out _ c;omega
   have hne:q≠w1.heap.size:=fun c=>by have:=hq.out.2;omega
   have FI:Hid _:=ci_old (pp:=pp) (i1:=i1) (i2:=i2) (i3:=i3) (i5:=i5) (s6:=s6) hw.out bl2 hb7 nw2 hHF hHn
   obtain⟨F7,-,-,bf7,-,-⟩:=id hb7
   have bk7:=nw2.bf bf7 hHF
   have z0:=bk7.c 0 _ rfl
   have z1:=bk7.c 1 _ rfl
   have z2:=bk7.c 2 _ rfl
   have z3:=bk7.c 3 _ rfl
   have z4:=bk7.c 4 _ rfl
   have z5:=bk7.c 5 _ rfl
   have z6:=bk7.c 6 _ rfl
   have zf:=bk7.f
   unfold olc18
   go_simp
   refine hKK.out _ _ (keep4s hne hHeld3) (fun hHeld4 => ?_)
   clear hKK KK bk7 bf7 F7 z0 z1 z2 z3 z4 z5 z6 zf
   refine wpAnyH_take (i:=19) (oi:=olc19) (v := ?_) rfl (by kernel_rfl) (by kernel_rfl) (by kernel_rfl) (fun _ _ _ h=>h) (Or.inl ⟨by rfl,?_⟩) (by assumption) ?_
   rotate_left
   ·intro w' hSw
    clear hSw
    unfold olc19
    first
    | (go_simp;done)
    | (go_simp;with_reducible rfl)
   simp only[olc19,Act.put,List.setIfInBounds_toArray,List.set_cons_zero,List.set_cons_succ]
   refine wpAnyH_done (by kernel_rfl) ?_ _
   refine NoPanic.normal ?_
   exact hQ.out _ _ _ _ _ _ _ _ _ _ _ _ _ _ _ _ _ _ _ _ _ _ _ _ _ _ _ _ he7 FI.out
 ·unfold olc17
  go_simp
  have nw1:Blk (Z.alloc (.cells #[.pointer none,.int .i64 0,.int .i64 0,.int .i64 0,.slice none 0 0,.int .i64 0,.string ⟨#[]⟩] 104)) (Z.heap.size) hz0:=blk_at Z hz0 _ (by simp) _ (by simp)
  have bs1:=hz.out.size
  have bl1:=chain hz.out (nb Z (.cells #[.pointer none,.int .i64 0,.int .i64 0,.int .i64 0,.slice none 0 0,.int .i64 0,.string ⟨#[]⟩] 104))
  refine hKK.out _ _ ⟨cell_alloc hHeld.1,cell_alloc hHeld.2.1,cell_alloc hHeld.2.2.1,cell_alloc hHeld.2.2.2⟩ (fun hHeld1 => ?_)
  clear hKK KK
  refine wpAnyH_ready (rs:=[5]) (by kernel_rfl) (by simp) ?_
  refine AllReadyH.cons (o:=olc5) rfl (fun KK hKK => ?_) AllReadyH.nil
  unfold olc5
  go_simp
  refine Calls.mono (OT.out _) ?_
  rintro e w2 ⟨rfl,hb2⟩
  have sz2:=hb2.size
  have bl2:=chain bl1 hb2
  have bh2:=nw1.later hb2
  refine hKK.out _ _ ⟨cell_later hb2 hHeld1.1,cell_later hb2 hHeld1.2.1,cell_later hb2 hHeld1.2.2.1,cell_later hb2 hHeld1.2.2.2⟩ (fun hHeld2 => ?_)
  clear hKK KK
  refine wpAnyH_ready (rs:=[13]) (by kernel_rfl) (by simp) ?_
  refine AllReadyH.cons (o:=olc13) rfl (fun KK hKK => ?_) AllReadyH.nil
  unfold olc13
  go_simp
  refine Calls.mono (BG.out w2 bl2) ?_
  rintro e w3 ⟨pp,i1,i2,i3,xa,xn,xc,i5,s6,rfl,he7,hb7⟩
  obtain⟨F7,-,-,bf7,-,-⟩:=id hb7
  refine hKK.out _ _ ⟨cellbf bf7 hq.out.1 hHeld2.1,cellbf bf7 hq.out.1 hHeld2.2.1,cellbf bf7 hq.out.1 hHeld2.2.2.1,cellbf bf7 hq.out.1 hHeld2.2.2.2⟩ (fun hHeld3 => ?_)
  clear hKK KK bf7 F7
  refine wpAnyH_take (i:=14) (oi:=olc14) (v := ?_) rfl (by kernel_rfl) (by kernel_rfl) (by kernel_rfl) (fun _ _ _ h=>h) (Or.inl ⟨by rfl,?_⟩) (by assumption) ?_
  rotate_left
  ·intro w' hSw
   clear hSw
   unfold olc14
   first
   | (go_simp;done)
   | (go_simp;with_reducible rfl)
  simp only[olc14,Act.put,List.setIfInBounds_toArray,List.set_cons_zero,List.set_cons_succ]
  refine wpAnyH_take (i:=15) (oi:=olc15) (v := ?_) rfl (by kernel_rfl) (by kernel_rfl) (by kernel_rfl) (fun _ _ _ h=>h) (Or.inl ⟨by rfl,?_⟩) (by assumption) ?_
  rotate_left
  ·intro w' hSw
   clear hSw
   unfold olc15
   first
   | (go_simp;done)
   | (go_simp;with_reducible rfl)
  simp only[olc15,Act.put,List.setIfInBounds_toArray,List.set_cons_zero,List.set_cons_succ]
  refine wpAnyH_take (i:=16) (oi:=olc16) (v := ?_) rfl (by kernel_rfl) (by kernel_rfl) (by kernel_rfl) (fun _ _ _ h=>h) (Or.inl ⟨by rfl,?_⟩) (by assumption) ?_
  rotate_left
  ·intro w' hSw
   clear hSw
   unfold olc16
   first
   | (go_simp;done)
   | (go_simp;with_reducible rfl)
  simp only[olc16,Act.put,List.setIfInBounds_toArray,List.set_cons_zero,List.set_cons_succ]
  refine wpAnyH_ready (rs:=[18]) (by kernel_rfl) (by simp) ?_
  refine AllReadyH.cons (o:=olc18) rfl (fun KK hKK => ?_) AllReadyH.nil
  have hHn:va.heap.size≤Z.heap.size:=by have:=hz.out.size;omega
  have hHF:¬F (Z.heap.size):=fun c=>by have:=hF.out _ c;omega
  have hne:q≠Z.heap.size:=fun c=>by have:=hq.out.2;omega
  have FI:Hid _:=ci_old (pp:=pp) (i1:=i1) (i2:=i2) (i3:=i3) (i5:=i5) (s6:=s6) hw.out bl2 hb7 bh2 hHF hHn
  obtain⟨F7,-,-,bf7,-,-⟩:=id hb7
  have bk7:=bh2.bf bf7 hHF
  have z0:=bk7.c 0 _ rfl
  have z1:=bk7.c 1 _ rfl
  have z2:=bk7.c 2 _ rfl
  have z3:=bk7.c 3 _ rfl
  have z4:=bk7.c 4 _ rfl
  have z5:=bk7.c 5 _ rfl
  have z6:=bk7.c 6 _ rfl
  have zf:=bk7.f
  unfold olc18
  go_simp
  refine hKK.out _ _ (keep4s hne hHeld3) (fun hHeld4 => ?_)
  clear hKK KK bk7 bf7 F7 z0 z1 z2 z3 z4 z5 z6 zf
  refine wpAnyH_take (i:=19) (oi:=olc19) (v := ?_) rfl (by kernel_rfl) (by kernel_rfl) (by kernel_rfl) (fun _ _ _ h=>h) (Or.inl ⟨by rfl,?_⟩) (by assumption) ?_
  rotate_left
  ·intro w' hSw
   clear hSw
   unfold olc19
   first
   | (go_simp;done)
   | (go_simp;with_reducible rfl)
  simp only[olc19,Act.put,List.setIfInBounds_toArray,List.set_cons_zero,List.set_cons_succ]
  refine wpAnyH_done (by kernel_rfl) ?_ _
  refine NoPanic.normal ?_
  exact hQ.out _ _ _ _ _ _ _ _ _ _ _ _ _ _ _ _ _ _ _ _ _ _ _ _ _ _ _ _ he7 FI.out
end Go.Proofs.YtdcimnmebgkmjaaGreatDoor
namespace Go.Proofs.YtdcimnmebgkmjaaGreatDoor
open Go.RowKit Go.Proofs.Fd Go.Proofs.Dk Go.Proofs.Lg
set_option maxRecDepth 20000
theorem may_bad {t:Bs} {l:List Bs} (h:may t≠0):mays (t::l)=may t:=if_pos h
theorem may_next {t:Bs} {l:List Bs} (h:may t=0):mays (t::l)=mays l:=if_neg (fun c=>c h)
theorem sns_take (l:List Bs) (k:Nat) (hk:k < l.length):sns (l.take (k+1))=sns (l.take k)+sn l[k]:=by
 have:∀(l:List Bs) (t:Bs),sns (l++[t])=sns l+sn t:=fun l t=>by
  induction l with
  | nil=>simp[sns]
  | cons x l ih=>rw[List.cons_append,sns,ih,sns];omega
 rw[List.take_succ_eq_append_getElem hk,this]
theorem sns_bound (l:List Bs) (k:Nat) (h:∀t∈l,t.length≤2000):sns (l.take k)≤100*k:=by
 induction k with
 | zero=>simp[sns]
 | succ k ih =>
  by_cases hk:k < l.length
  ·rw[sns_take l k hk]
   have:sn l[k]≤100:=by
    have:=h _ (List.getElem_mem hk)
    unfold sn
    omega
   omega
  ·rw[List.take_of_length_le (by omega)] at ih ⊢
   omega
theorem mays_prefix:∀(l:List Bs) (k:Nat),(∀i (hi:i < l.length),i < k→may l[i]=0)→mays l=mays (l.drop k)
 | [],k,_=>by rw[List.drop_nil]
 | t::l,0,_=>rfl
 | t::l,k+1,h=>by
  rw[may_next (show may t=0 from h 0 (by simp) (by omega)),List.drop_succ_cons]
  exact mays_prefix l k (fun i hi hk=>h (i+1) (by simpa using hi) (by omega))
def cmR (s:St) (fr2 mn g:Nat) (l:List Bs):Int×St:=if mays l≠0 then (mays l,s) else if mn - 1 < sns l then (151,s) else if 2147483647≤g then (2,s) else bgn s fr2 mn (g+1) l
def CmP (w va:World) (p:Nat) (F:Nat→Prop) (q fr fr2 mn g:Nat) (v:Value) (ts:List Bs) (tk:Nat) (m:Bs) (l:List Bs) (y:Int×St) (w':World):Prop :=
 ∃F' v',Nx2 va F q v F' v'∧Bf (FH F q v) va w'∧(y.1=0∧HD w w' p F' y.2 q fr2 mn (g+1) v' l (tkn 1 l) (mks (hm (g+1)) l) []∨y.1≠0∧HD w w' p F' y.2 q fr mn g v' ts tk m [])
theorem mays_all:∀{l:List Bs},mays l=0→∀t∈l,1≤t.length∧t.length≤2000
 | [],_,t,h=>by cases h
 | x::l,h,t,ht=>by
  by_cases hx:may x=0
  ·rw[may_next hx] at h
   rcases List.mem_cons.1 ht with rfl|ht
   ·exact may_ok hx
   ·exact mays_all h t ht
  ·rw[may_bad hx] at h
   exact absurd h hx
set_option maxHeartbeats 4000000 in
theorem lcompact_any (w va:World) (p:Nat) (F:Nat→Prop) (s:St) (q fr mn g:Nat) (v:Value) (ts:List Bs) (tk:Nat) (m:Bs) (a:Option Addr) (n c:Nat) (l:List Bs) (hn:l.length=n) (hn63:n≤10000000000000) (h2:2*mn≤s.n) (hmn:2≤mn) (hgm:g≤2147483647) (hfr:fr=0∨fr=mn) (hl:s.l.length+2000≤1000000) (hk:Hid (Kh w)) (h:Hid (HD w va p F s q fr mn g v ts tk m [])) (hx:Hid (TxAt va a l)) (ha:Hid (Ap a l F)) :
  Calls Tryz.prog 38 #[.pointer (some ⟨q,0,none⟩),.slice a n c] va fun e w'=>e = .returned (.int .i64 (cmR s (mn - fr) mn g l).1)∧CmP w va p F q fr (mn - fr) mn g v ts tk m l (cmR s (mn - fr) mn g l) w':=by
 have HN:Hid (l.length=n):=hn
 have hs2:=h.out.dl.at_.1.n2
 have STAY:Hid (∀x:Int,x≠0→CmP w va p F q fr (mn - fr) mn g v ts tk m l (x,s) va):=fun x hx=>⟨F,v,Nx2.refl _ _ _ _,Bf.refl _ _,.inr ⟨hx,h.out⟩⟩
 obtain⟨fr2,hfr2⟩:∃fr2,mn - fr=fr2:=⟨_,rfl⟩
 rw[hfr2] at STAY ⊢
 have HFR2:Hid (mn - fr=fr2):=hfr2
 clear hfr2
 obtain⟨r,hr⟩:∃r,cmR s fr2 mn g l=r:=⟨_,rfl⟩
 have HR:Hid (cmR s fr2 mn g l=r):=hr
 rw[hr]
 clear hr hn
 go_enter Tryz.func38, Tryz.ntmps38
 go_wp2
 go_loopw [5,13] (fun sm i wr=>∃k:Nat,k≤n∧i = .int .i64 (k:Int)∧sm = .int .i64 (sns (l.take k):Int)∧va=wr∧Hid (∀j (hj:j < l.length),j < k→may l[j]=0)) (fun _ i _=>n - (intOf i).toNat)
 case atStart=>exact⟨0,Nat.zero_le _,rfl,rfl,rfl,fun _ _ h=>absurd h (Nat.not_lt_zero _)⟩
 case round =>
  obtain⟨k,hkn,rfl,rfl,rfl,J⟩:=hrel
  by_cases hlt:k < n
  ·have hkl:k < l.length:=by rw[HN.out];exact hlt
   have g1:(k:Int) < (n:Int):=by omega
   obtain⟨b,o,rfl,c0⟩:=hx.out k hkl
   have ES:=sns_take l k hkl
   have EM:=mays_prefix l k J.out
   rw[List.drop_eq_getElem_cons hkl] at EM
   have JJ:Hid (may l[k]=0→∀j (hj:j < l.length),j < k+1→may l[j]=0):=fun h0 j hj hjk=>by
    by_cases e:j=k
    ·subst e;exact h0
    ·exact J.out j hj (by omega)
   have SB:sns (l.take k)≤100*k:=by
    have hb:=sns_bound (l.take k) k (fun t ht=>by
     obtain⟨j,hj,rfl⟩:=List.getElem_of_mem ht
     rw[List.getElem_take]
     rw[List.length_take] at hj
     exact (may_ok (J.out j (by omega) (by omega))).2)
    rw[List.take_take,Nat.min_self] at hb
    exact hb
   have CH:Hid (Calls Tryz.prog 58 #[.string (st l[k])] va fun e w'=>e = .returned (.int .i64 (may l[k]))∧w'=va):=lcheck_any (st l[k]) va
   unfold sv at c0
   by_cases h0:may l[k]=0
   ·have hb:=may_ok h0
    have SO:Hid (Calls Tryz.prog 59 #[.string (st l[k])] va fun e w'=>e = .returned (.int .i64 (sn l[k]:Int))∧w'=va):=lsectorsOf_any l[k] (by omega) va
    have hsn:sn l[k]≤100:=by unfold sn;omega
    have JN:Hid _:=JJ.out h0
    rw[h0] at CH
    have HES:Hid (sns (l.take (k+1))=sns (l.take k)+sn l[k]):=ES
    have y1:IntKind.i64.wrap ((sns (l.take k):Int)+(sn l[k]:Int))=(sns (l.take k):Int)+(sn l[k]:Int):=by rw[IntKind.wrap_i64];omega
    obtain⟨z,hz⟩:∃z,sn l[k]=z:=⟨_,rfl⟩
    obtain⟨u,hu⟩:∃u,sns (l.take k)=u:=⟨_,rfl⟩
    obtain⟨T,hT⟩:∃T,st l[k]=T:=⟨_,rfl⟩
    rw[hz] at SO HES y1
    rw[hu] at HES y1 ⊢
    rw[hT] at CH SO c0
    clear hz hu hT ES EM SB JJ J h0 hb hsn STAY h hx ha HR hl h2 hmn hfr hs2
    go_wp2_with fail
    refine Calls.mono CH.out ?_
    rintro e w1 ⟨rfl,rfl⟩
    go_wp2_with fail
    refine Calls.mono SO.out ?_
    rintro e w2 ⟨rfl,rfl⟩
    go_wp2
    go_roundw
    case rel=>exact⟨k+1,by omega,rfl,by rw[HES.out];simp,by first|rfl|trivial,JN.out⟩
    case measure=>simp[intOf];omega
   ·rw[may_bad h0] at EM
    have ER:Hid (r=(may l[k],s)):=by
     show r=_
     rw[←HR.out,cmR,if_pos (by rw[EM];exact h0),EM]
    have FF:Hid _:=STAY.out _ h0
    obtain⟨x,hxx⟩:∃x,may l[k]=x:=⟨_,rfl⟩
    rw[hxx] at CH ER FF h0
    obtain⟨T,hT⟩:∃T,st l[k]=T:=⟨_,rfl⟩
    rw[hT] at CH c0
    clear hT hxx ES EM SB JJ J STAY h hx ha HR hl h2 hmn hfr hs2
    go_wp2_with fail
    refine Calls.mono CH.out ?_
    rintro e w1 ⟨rfl,rfl⟩
    go_wp2
    go_ret
    exact⟨by rw[ER.out];rfl,by rw[ER.out];exact FF.out⟩
  ·obtain rfl:k=n:=by omega
   have g1:¬(k:Int) < (k:Int):=by omega
   have e0:mays l=0:=by
    rw[mays_prefix l k J.out,List.drop_of_length_le (by rw[HN.out];exact Nat.le_refl _)]
    rfl
   have e1:l.take k=l:=List.take_of_length_le (by rw[HN.out];exact Nat.le_refl _)
   rw[e1]
   have k2:=h.out.hf.bk.c 2 _ rfl
   have HR1:=HR.out
   rw[cmR,if_neg (by rw[e0];simp)] at HR1
   have ym:IntKind.i64.wrap ((mn:Int) - 1)=(mn:Int) - 1:=by rw[IntKind.wrap_i64];omega
   by_cases h3:mn - 1 < sns l
   ·rw[if_pos h3] at HR1
    have ER:Hid (r=(151,s)):=HR1.symm
    have FF:Hid _:=STAY.out 151 (by decide)
    have g3:(mn:Int) - 1 < (sns l:Int):=by omega
    obtain⟨sm,hsm⟩:∃sm:Int,(sns l:Int)=sm:=⟨_,rfl⟩
    rw[hsm] at g3 ⊢
    clear hsm HR1 STAY h hx ha HR hl J e0 e1
    go_wp2
    go_ret
    exact⟨by rw[ER.out];rfl,by rw[ER.out];exact FF.out⟩
   ·rw[if_neg h3] at HR1
    have g3:¬(mn:Int) - 1 < (sns l:Int):=by omega
    have k3:=h.out.hf.bk.c 3 _ rfl
    by_cases h4:2147483647≤g
    ·rw[if_pos h4] at HR1
     have ER:Hid (r=(2,s)):=HR1.symm
     have FF:Hid _:=STAY.out 2 (by decide)
     have g4:(g:Int)=2147483647:=by omega
     obtain⟨sm,hsm⟩:∃sm:Int,(sns l:Int)=sm:=⟨_,rfl⟩
     rw[hsm] at g3 ⊢
     obtain⟨gi,hgi⟩:∃gi:Int,(g:Int)=gi:=⟨_,rfl⟩
     rw[hgi] at k3 g4
     clear hsm HR1 STAY h hx ha HR hl J e0 e1 h4 hgi hgm
     subst g4
     go_wp2
     go_ret
     exact⟨by rw[ER.out];rfl,by rw[ER.out];exact FF.out⟩
    ·rw[if_neg h4] at HR1
     have hfr2:=HFR2.out
     have hf2:fr2+mn≤s.n:=by rcases hfr with rfl|rfl <;> omega
     have hf3:fr≤mn:=by rcases hfr with rfl|rfl <;> omega
     have htk:tkn 1 l≤mn:=by rw[tkn_sns];omega
     have OT:Hid (∀w,Calls Tryz.prog 55 #[.agg #[.pointer (some ⟨p,0,none⟩),.int .i64 (fr:Int),.int .i64 (mn:Int)]] w fun e w'=>e = .returned (.agg #[.pointer (some ⟨p,0,none⟩),.int .i64 (fr2:Int),.int .i64 (mn:Int)])∧Below w.heap.size w w'):=fun w=>by
      have:=lother_any w p fr mn hf3 (by omega)
      rw[hfr2] at this
      exact this
     have BG:Hid (∀V,Below va.heap.size va V→Calls Tryz.prog 56 #[.agg #[.pointer (some ⟨p,0,none⟩),.int .i64 (fr2:Int),.int .i64 (mn:Int)],.int .i64 ((g:Int)+1),.slice a k c] V fun e w'=>∃pp i1 i2 i3 xa xn xc i5 s6,e = .returned (.tuple #[.agg #[.pointer pp,.int .i64 i1,.int .i64 i2,.int .i64 i3,.slice xa xn xc,.int .i64 i5,.string s6],.int .i64 r.1])∧(r.1=0→pp=some ⟨p,0,none⟩∧i1=(fr2:Int)∧i2=(mn:Int)∧i3=((g+1:Nat):Int)∧i5=(tkn 1 l:Int)∧s6=st (mks (hm (g+1)) l))∧Bn7 w V p F r.2 (if r.1=0 then l else []) xa xn xc w'):=fun V hb=>by
      have:=lbegin_any w V p F s fr2 mn (g+1) a k c l (by omega) hf2 HN.out (fun t ht=>(mays_all e0 t ht).2) htk (by omega) hk (h.out.dl.later hb) (hx.out.later hb) ha
      rw[HR1] at this
      refine this.mono fun e w' ⟨F2,d1,d2,d3,hres⟩ => ?_
      rcases hres with ⟨h0,v2,rfl,r2,n2⟩|⟨h0,rfl⟩
      ·obtain⟨ya,yn,yc,rfl⟩:=owns_sliceS r2
       refine⟨_,_,_,_,ya,yn,yc,_,_,by rw[h0];rfl,fun _=>⟨rfl,rfl,rfl,rfl,rfl,rfl⟩,F2,d1,d2,d3,?_,n2⟩
       rw[if_pos h0]
       exact r2
      ·refine⟨_,_,_,_,none,0,0,_,_,rfl,fun c=>absurd c h0,F2,d1,d2,d3,?_,nofun⟩
       rw[if_neg h0]
       exact owns_nilS _
     have e5:(((g+1:Nat):Int))=(g:Int)+1:=by omega
     have c0:=h.out.hf.bk.c 0 _ rfl
     have c1:=h.out.hf.bk.c 1 _ rfl
     have HW:Hid (w.heap.size≤va.heap.size):=h.out.dl.below.size
     have HFF:Hid (∀y,F y→y < va.heap.size):=fun y c=>h.out.dl.at_.lt c
     have HQ:Hid (¬F q∧q < va.heap.size):=⟨(h.out.ap q (.inl rfl)).1,h.out.hf.bk.lt⟩
     have HGG:Hid (∃gi:Int,(g:Int)=gi):=⟨_,rfl⟩
     obtain⟨gi,hgi⟩:=HGG.out
     have g4:¬gi=2147483647:=by omega
     have y1:IntKind.i64.wrap (gi+1)=gi+1:=by rw[IntKind.wrap_i64];omega
     rw[hgi] at k3 BG
     have HG:Hid (gi+1=((g+1:Nat):Int)):=by
      show gi+1=_
      omega
     obtain⟨x,hxx⟩:∃x,r.1=x:=⟨_,rfl⟩
     have HX:Hid (r.1=x):=hxx
     rw[hxx] at BG
     obtain⟨sm,hsm⟩:∃sm:Int,(sns l:Int)=sm:=⟨_,rfl⟩
     rw[hsm] at g3 ⊢
     clear hsm hgi HR1 STAY hx ha HR hl J e0 e1 h4 h3 hfr hfr2 hf2 hf3 htk e5 hxx HGG
     go_upto_region 14 with fail
     refine compact_region w p F r.2 (if x=0 then l else []) q fr fr2 mn gi x va a k c (fun pp i1 i2 i3 i5 s6=>x=0→pp=some ⟨p,0,none⟩∧i1=(fr2:Int)∧i2=(mn:Int)∧i3=((g+1:Nat):Int)∧i5=(tkn 1 l:Int)∧s6=st (mks (hm (g+1)) l)) HW HFF HQ y1 c0 c1 k2 k3 OT BG _ _ _ _ _ _ _ _ _ _ _ _ _ _ _ _ _ _ _ _ _ _ _ _ _ _ _ _ _ _ _ _ _ _ _ _ _ _ _ ?_
     intro H pp i1 i2 i3 xa xn xc i5 s6 wx u42 u43 u44 u45 u46 u47 u48 u49 u50 u51 u52 u53 u54 u55 u56 u57 u58 hE hC
     have HC:Hid _:=hC
     obtain⟨⟨F2,d1,d2,d3,r2,n2⟩,bk,nH⟩:=id hC
     have K2:Hid (HD w wx p F2 r.2 q fr mn g v ts tk m []):=h.out.disk d1 d2 d3
     have D3:Hid (Bf F va wx∧Nx va F F2):=⟨d3,d2⟩
     clear d1 d2 d3 OT BG c0 c1 k2 k3 hC
     by_cases h0:x=0
     ·obtain⟨rfl,rfl,rfl,rfl,rfl,rfl⟩:=hE h0
      subst h0
      have rr:OwnsS wx (.slice xa xn xc) l:=r2
      have NQ:(Value.slice xa xn xc).ownBlock≠some q:=fun e=>by
       have:=(n2 q e).1
       have:=HQ.out.2
       omega
      have FF:Hid (CmP w va p F q fr fr2 mn g v ts tk m l r (wx.setCells q 0 (hc p fr2 mn (g+1) (.slice xa xn xc) (tkn 1 l) (mks (hm (g+1)) l) []))):=by
       have hbf:Bf (fun y=>y=q) wx (wx.setCells q 0 (hc p fr2 mn (g+1) (.slice xa xn xc) (tkn 1 l) (mks (hm (g+1)) l) [])):=Bf.sets (fun y=>y=q) q rfl _ 0 wx
       refine⟨F2,.slice xa xn xc,⟨D3.out.2,fun y e => ?_⟩,?_,.inl ⟨HX.out,⟨K2.out.dl.sets (K2.out.ap q (.inl rfl)).1 (K2.out.ap q (.inl rfl)).2 _,⟨K2.out.hf.bk.put _ rfl,ownsRow_same rr (fun y e=>setCells_other wx q 0 _ y (fun d=>NQ (by rw[e,d]))),NQ⟩,fun y e => ?_⟩⟩⟩
       ·rcases e with e|e
        ·exact .inl (.inl e)
        ·exact .inr (n2 y e).1
       ·exact (D3.out.1.wide fun y e => .inl e).trans (Nx.refl _ _) (hbf.wide fun y e => .inr (.inl e))
       ·rcases e with e|e
        ·rw[e]
         exact K2.out.ap q (.inl rfl)
        ·exact⟨(n2 y e).2,Nat.le_trans HW.out (n2 y e).1⟩
      have c0:=K2.out.hf.bk.c 0 _ rfl
      have c1:=K2.out.hf.bk.c 1 _ rfl
      have c2:=K2.out.hf.bk.c 2 _ rfl
      have c3:=K2.out.hf.bk.c 3 _ rfl
      have c4:=K2.out.hf.bk.c 4 _ rfl
      have c5:=K2.out.hf.bk.c 5 _ rfl
      have c6:=K2.out.hf.bk.c 6 _ rfl
      have cf:=K2.out.hf.bk.f
      have z0:=bk.c 0 _ rfl
      have z1:=bk.c 1 _ rfl
      have z2:=bk.c 2 _ rfl
      have z3:=bk.c 3 _ rfl
      have z4:=bk.c 4 _ rfl
      have z5:=bk.c 5 _ rfl
      have z6:=bk.c 6 _ rfl
      have hqH:q≠H:=fun e=>by have:=HQ.out.2;omega
      obtain⟨gg,hgg⟩:∃gg:Int,((g+1:Nat):Int)=gg:=⟨_,rfl⟩
      obtain⟨t1,ht1⟩:∃t1:Int,((tkn 1 l:Nat):Int)=t1:=⟨_,rfl⟩
      unfold hc sv at FF
      rw[hgg,ht1] at FF
      rw[hgg] at z3
      rw[ht1] at z5
      clear K2 D3 HC bk r2 n2 rr NQ HFF HQ hgg ht1 h
      go_wp2
      go_ret
      exact⟨by rw[HX.out];rfl,FF.out⟩
     ·have FF:Hid (CmP w va p F q fr fr2 mn g v ts tk m l r wx):=⟨F2,v,⟨D3.out.2,Nx.refl _ _⟩,D3.out.1.wide fun y e => .inl e,.inr ⟨by rw[HX.out];exact h0,K2.out⟩⟩
      clear K2 D3 HC bk r2 n2 HFF HQ h hE
      go_wp2
      go_ret
      exact⟨by rw[HX.out];rfl,FF.out⟩
end Go.Proofs.YtdcimnmebgkmjaaGreatDoor
