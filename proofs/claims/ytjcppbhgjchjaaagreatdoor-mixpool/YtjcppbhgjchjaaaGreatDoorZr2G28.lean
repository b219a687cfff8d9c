/- A part of the walk. -/
import Derived.Test.YtjcppbhgjchjaaaGreatDoorZr2G27
import Derived.Lib.AppendZeros
import Derived.Great.BuildSlice
import Derived.Deep.WholeRow
import Derived.Deep.Cut
import Derived.Shelf.Strings.Repeat
set_option maxHeartbeats 8000000
set_option maxRecDepth 20000
namespace Go.Proofs.YtjcppbhgjchjaaaGreatDoor.Sto
open Go.RowKit Go.Proofs.Fd Go.Proofs.Dk
def zgm:Value := .agg (Array.replicate 64 (.int .u8 0))
theorem zsI:(Tryz.prog.info? 118).map (fun i=>(i.zero,i.size,i.bytes))=some (some zgm,64,64):=by kernel_rfl
theorem zpq (m n j:Nat) (x:Value) (hm:0 < m) (hj:j < n):(madeCells (Array.replicate m x) n)[j]?=some x:=by
  have h:j % m < m:=Nat.mod_lt _ hm;simp[madeCells,hj,h]
theorem zsJ (n j:Nat) (hj:j < n*64):(madeCells zgm.cells (n*64))[j]?=some (.int .u8 0):=zpq 64 _ _ _ (by decide) hj
theorem zpr (n:Nat):bc (List.replicate n 0)=List.replicate n (.int .u8 0):=by simp[bc]
theorem zmg (n:Nat) (hn:n<=1024):∃M:Array Value,(∀w:World,(Instr.makeSlice 92 (.int .i64 (n:Int)) (.int .i64 (n:Int))).run Tryz.prog w = .ok (.slice (some ⟨w.heap.size,0,none⟩) n n) (w.alloc (.cells M 118)))
    /\ ∀w:World,Sec (w.alloc (.cells M 118)) w.heap.size n (fun _=>List.replicate 64 0):=by
  obtain⟨i0,hi,hz0,hz1,hz2⟩:=info_parts zsI;refine⟨madeCells zgm.cells (n*64),fun w => ?_,fun w => ?_⟩
  . have h:=run_make (P:=Tryz.prog) w 92 118 i0 zgm Tryz.underlying92 hi hz0 .i64 .i64 (n:Int) (n:Int) (by omega) (Int.le_refl _) (by rw[hz2];omega) (by omega)
    rw[Int.toNat_natCast,hz1] at h;exact h
  . have hc:∀j,j < n*64->(w.alloc (.cells (madeCells zgm.cells (n*64)) 118)).cell? ⟨w.heap.size,j,none⟩=some (.int .u8 0):=fun j hj=>by
      rw[World.cell?_alloc_new,zsJ n j hj]
    refine⟨fun k hk j v hv => ?_,fun j hj => ?_,fun _=>by simp⟩
    . have hj:j < 64:=by
        have:=(List.getElem?_eq_some_iff.1 hv).1;rw[zbo,List.length_replicate] at this;exact this
      rw[hc _ (by omega)];rw[zpr,List.getElem?_replicate,if_pos hj] at hv;rw[<-hv]
    . rw[Nat.zero_add,hc j hj]
      exact⟨rfl,by simp[go_sem]⟩
theorem zmh (n:Nat) (h1:1<=n) (h2:n<=1024) (w w2:World) (a b:Nat) (ha:Sec w2 a n (fun _=>List.replicate 64 0)) (hb:Sec w2 b n (fun _=>List.replicate 64 0)) (ea:w.heap.size<=a) (eb:w.heap.size<=b) (hn:a≠b) (hw:Below w.heap.size w w2) (p:Nat) (hp:w2.heap.size=p) :
    let W:=(w2.alloc (.cells #[.int .i64 0,.int .i64 0,.slice (some ⟨a,0,none⟩) n n,.slice (some ⟨b,0,none⟩) n n,.slice none 0 0] 95)).drew
    (∃F,KAt W p F (St.init n)/\∀g,F g->w.heap.size<=g)/\Below w.heap.size w W:=by
  subst hp;have la:=ha.lt h1;have lb:=hb.lt h1;have nb:Below w2.heap.size w2 (w2.alloc (.cells #[.int .i64 0,.int .i64 0,.slice (some ⟨a,0,none⟩) n n,.slice (some ⟨b,0,none⟩) n n,.slice none 0 0] 95)).drew:=((Below.refl _ _).alloc (Nat.le_refl _) _).drew;refine⟨⟨Foot w2.heap.size a b (.slice none 0 0),⟨Ok.init h1 h2,a,b,_,rfl,?_⟩,fun g hg => ?_⟩,chain hw nb⟩
  . exact⟨by simp[go_sem,St.init],by simp[go_sem,St.init],by simp[go_sem,St.init],by simp[go_sem,St.init],by simp[go_sem],fun o=>by simp[go_sem],ha.same (nb.block a la),hb.same (nb.block b lb),World.ownsRow_nil _ _ _ _,
      by omega,by omega,hn,nofun,nofun,nofun,h1⟩
  . rcases hg with rfl|rfl|rfl|e
    . exact hw.size
    . exact ea
    . exact eb
    . cases e
theorem new_any (n:Nat) (h1:1<=n) (h2:n<=1024) (w:World) :
    Cl 11 #[.int .i64 (n:Int)] w fun e w'=>∃p F,e = .returned (.tuple #[.pointer (some ⟨p,0,none⟩),.int .i64 0])/\KAt w' p F (St.init n)/\(∀g,F g->w.heap.size<=g)/\Below w.heap.size w w':=by
  have g1:¬(n:Int) < 1:=by omega
  have g2:¬(1024:Int) < (n:Int):=by omega
  obtain⟨M,MK,hM⟩:=zmg n h2;have HS:Hid (∀w:World,Sec _ _ _ _):=hM;have S1:Sec ((w.alloc (.cells M 118)).alloc (.cells M 118)) w.heap.size n (fun _=>List.replicate 64 0):=(hM w).same (((Below.refl _ _).alloc (Nat.le_refl _) _).block _ ((hM w).lt h1));have S2:=hM (w.alloc (.cells M 118));have e1:(w.alloc (.cells M 118)).heap.size=w.heap.size+1:=by simp
  have BB:Below w.heap.size w ((w.alloc (.cells M 118)).alloc (.cells M 118)):=chain ((Below.refl _ _).alloc (Nat.le_refl _) _) ((Below.refl _ _).alloc (Nat.le_refl _) _);rw[e1] at S2;have K1:Hid _:=zmh n h1 h2 w _ _ _ S1 S2 (Nat.le_refl _) (by omega) (by omega) BB (w.heap.size+1+1) (by simp);have K2:Hid _:=zmh n h1 h2 w _ _ _ S2 S1 (by omega) (Nat.le_refl _) (by omega) BB (w.heap.size+1+1) (by simp);clear hM S1 S2 e1 BB HS;go_enter Tryz.func11, Tryz.ntmps11;go_wp2_with fail;go_region_with fail
  all_goals (go_wp2;go_ret2)
  all_goals first
    | (obtain⟨⟨F,k1,k2⟩,k3⟩:=K1.out
       exact⟨_,F,rfl,k1,k2,k3⟩)
    | (obtain⟨⟨F,k1,k2⟩,k3⟩:=K2.out
       exact⟨_,F,rfl,k1,k2,k3⟩)
theorem zsK (w:World) (b o cap:Nat) (t:Ba) (ht:t.data.toList.length=64) (hth:w.there b o 64) :
    (Builtin.copy_ #[99, 9] 3 #[.slice (some ⟨b,o,none⟩) 64 cap,.string t]).run Tryz.prog w = .ok (.int .i64 64) (w.setCells b o (bc t.data.toList)):=by
  have hs:t.size=64:=by simpa using ht
  have hst:=run_storeCells_cells (P:=Tryz.prog) b o (bc t.data.toList) 0 w
    (by rw[zbo,ht];intro j hj;simpa using (hth j hj).1) (by rw[zbo,ht];intro j hj;simpa using (hth j hj).2) (zme _)
  have hm:Nat.min t.size 64=64:=by rw[hs];rfl
  simp[Builtin.copy_,run_underlying Tryz.underlying99, Builtin.lenOf,Builtin.firstCells,hm];rw[List.take_of_length_le (by rw[List.length_map,ht];exact Nat.le_refl _)];unfold bc at hst;rw[hst];rfl
def zhC:Value := .agg (#[.int .i64 0]++Array.replicate 64 (.int .u8 0))
theorem zjM:(Tryz.prog.info? 120).map (fun i=>(i.zero,i.size,i.bytes))=some (some zhC,65,72):=by kernel_rfl
theorem zsL:∃fs,Tryz.prog.underlying 120 = some (.struct fs)/\fs.toList.mapM (fun f=>(Tryz.prog.info? f.type).map fun i=>(f.offset,i.size))=some [(0,1),(1,64)]:=⟨_,Tryz.underlying120, by kernel_rfl⟩
theorem zgn (place:Nat->Option (Nat×Nat)) (cells:Array Value) (i:Nat) (v:Value) (rest:List (Nat×Value)) (off size:Nat) (hp:place i=some (off,size)) (hs:v.cells.size=size) (hb:off+size<=cells.size) :
    Instr.fill place cells ((i,v)::rest)=Instr.fill place ((v.cells.toList.zipIdx 0).foldl (fun cs (x:Value×Nat)=>cs.setIfInBounds (off+x.2) x.1) cells) rest:=by
  conv=>lhs;unfold Instr.fill
  rw[hp];show (if (decide (v.cells.size≠size) || decide (off+v.cells.size > cells.size))=true then none else _)=_
  rw[if_neg (by rw[hs];simp;omega),<-Array.foldl_toList,Array.toList_zipIdx]
theorem zuY (x:Wt) (hx:x.b.length=64) (z:Array Value) (hz:z.size=65):Instr.fill (fun i=>[(0,1),(1,64)].toArray[i]?) z [(0,.int .i64 (x.k:Int)),(1,.agg (bc x.b).toArray)]=some (wc x).toArray:=by
  have hb:(bc x.b).length=64:=by rw[zbo,hx]
  rw[zgn _ _ _ _ _ 0 1 rfl rfl (by omega)];have h1:=Go.Great.foldl_set 0 (Value.int .i64 (x.k:Int)).cells.toList 0 z;generalize (List.foldl (fun cs (x:Value×Nat)=>cs.setIfInBounds (0+x.2) x.1) z ((Value.int .i64 (x.k:Int)).cells.toList.zipIdx 0))=z1 at h1 ⊢;rw[zgn _ _ _ _ _ 1 64 rfl (by simp[Value.cells,hb]) (by rw[h1.1,hz];omega)];have h2:=Go.Great.foldl_set 1 (Value.agg (bc x.b).toArray).cells.toList 0 z1;generalize (List.foldl (fun cs (x:Value×Nat)=>cs.setIfInBounds (1+x.2) x.1) z1 ((Value.agg (bc x.b).toArray).cells.toList.zipIdx 0))=z2 at h2 ⊢;have e2:(Value.agg (bc x.b).toArray).cells.toList=bc x.b:=rfl;rw[e2,h1.1,hz,hb] at h2;unfold Instr.fill;congr 1;apply Array.ext_getElem?;intro i;have et:(wc x).toArray[i]?=(wc x)[i]?:=by simp
  rw[et,h2.2 i,wc];clear et;cases i with
  | zero =>
    rw[if_neg (by omega),h1.2 0,hz,if_pos ⟨by omega,by simp[Value.cells],by omega⟩];rfl
  | succ i =>
    by_cases hi:i < 64
    . rw[if_pos (by omega),List.getElem?_cons_succ]
      congr 1
    . have e1:(Value.int .i64 (x.k:Int)).cells.toList.length=1:=rfl
      rw[if_neg (by omega),List.getElem?_cons_succ,List.getElem?_eq_none (by omega),h1.2 (i+1),e1,if_neg (by omega),Array.getElem?_eq_none (by omega)]
theorem zsM (x:Wt) (hx:x.b.length=64) (w:World):(Instr.build 120 #[(0,.int .i64 (x.k:Int)),(1,.agg (bc x.b).toArray)]).run Tryz.prog w = .ok (.agg (wc x).toArray) w:=by
  refine run_build w _ _ _ ?_;obtain⟨i0,hi,hz0,hz1,hz2⟩:=info_parts zjM;obtain⟨fs,hu,hp⟩:=zsL;unfold Program.built;simp only[hi,hu,hz0,hp];exact zuY x hx _ (by simp[zhC,Value.cells])
theorem zps (x:Wt) (hx:x.b.length=64) (w:World):(Instr.buildSlice 93 1 #[(0,.agg (wc x).toArray)]).run Tryz.prog w = .ok (.slice (some ⟨w.heap.size,0,none⟩) 1 1) (w.alloc (.cells (wc x).toArray 120)):=by
  obtain⟨i0,hi,hz0,hz1,hz2⟩:=info_parts zjM;refine run_buildSlice w _ _ 1 _ _ i0 zhC Tryz.underlying93 hi hz0 (by rw[hz1];decide) (by rw[hz1];decide) ?_;rw[hz1];have:=Go.Great.fill_whole (s:=65) (by decide) [.agg (wc x).toArray] ((Array.range (1*65)).map (zhC.cells[· % zhC.cells.size]!)) (fun v hv=>by
    rw[List.mem_singleton] at hv;subst hv;simp[Value.cells,zcL hx]) (by simp)
  simpa[Value.cells] using this
theorem zwP (w:World) (ty:TypeId) (v:Value) (l:List Wt) (h:zfk w v l) (hl:l.length<=1000000) (x:Wt) (hx:x.b.length=64) (b:Nat) (hc:w.rangeAt b 0 (wc x)) :
    ∃va vc w',(Builtin.append_ #[93, 93] ty #[v,.slice (some ⟨b,0,none⟩) 1 1]).run Tryz.prog w = .ok (.slice va (l++[x]).length vc) w'/\zfk w' (.slice va (l++[x]).length vc) (l++[x])/\w.grownBy w' v.ownBlock/\((Value.slice va (l++[x]).length vc).ownBlock=v.ownBlock\/(Value.slice va (l++[x]).length vc).ownBlock=some w.heap.size):=by
  obtain⟨i0,hi,hz0,hz1,hz2⟩:=info_parts zjM;obtain⟨v',w',r1,r2,r3,-,r5⟩:=run_append_own_at (P:=Tryz.prog) w 0 93 ty 120 i0 _ 65 72 Tryz.underlying93 hi hz0 hz1 hz2 (by simp[zhC,Value.cells]) (by decide) v l.length (wcs l) h ⟨b,0,none⟩ 1 1 (wc x) (by rw[zcL hx]) (fun j u hu=>by
      rw[Addr.add_mid];exact hc j u hu) (fun u hu=>zhB [x] u (by simpa[wcs] using hu)) (by unfold maxLen;omega) (by omega) (Nat.zero_le _)
  have r2':zfk w' v' (l++[x]):=by
    unfold zfk;rw[zmf,List.length_append]
    simpa[wcs] using r2
  obtain⟨va,vc,rfl⟩:=zdS r2';exact⟨va,vc,w',r1,r2',r3,r5⟩
theorem zqV {w:World} {b o:Nat} {l:Bs} (h:w.rangeAt b o (bc l)) (hl:l.length=64):(Instr.loadAt 118 (.pointer (some ⟨b,o,none⟩))).run Tryz.prog w = .ok (.agg (bc l).toArray) w:=by
  obtain⟨i0,hi,hz0,hz1,hz2⟩:=info_parts zsI;exact run_loadAt_mid w b o _ (bc l) _ h Tryz.underlying118 rfl (by rw[hi,zbo,hl,<-hz1];rfl)
theorem zaF {P:Program} {o:Oper} {a:Act} {w:World} {K:Act->World->Prop} {Q:Exit->Act->World->Prop} (t:TypeId) (len:Nat) (parts:Array (Nat×Operand)) (ho:o.op = .buildSlice t len parts) (vs:Array (Nat×Value)) (hv:(parts.map fun (i,x)=>(i,a.eval x))=vs)
    (v:Value) (w':World) (hr:(Instr.buildSlice t len vs).run P w = .ok v w') (h:K (a.put o.dst v) w'):o.wp P a w K Q:=by
  unfold Oper.wp execOp;simp only[ho,hv,Sem.run_bind,hr,Result.andThen_ok];exact h
theorem zb0 {P:Program} {ops:Array Oper} {S:World->Prop} {o:Oper} {a:Act} (hw:Region.wanted o (yielded ops a.tmps)=true) (t:TypeId) (parts:Array (Nat×Operand)) (ho:o.op = .build t parts) (vs:Array (Nat×Value)) (hv:(parts.map fun (i,x)=>(i,a.eval x))=vs)
    (v:Value) (hr:∀w,(Instr.build t vs).run P w = .ok v w):YieldsIf P ops S o v a :=
  .inl ⟨hw,fun w _=>by
    unfold execOp;simp only[ho,hv,Sem.run_bind,hr,Result.andThen_ok];rfl⟩
theorem zbG {P:Program} {o:Oper} {a:Act} {w:World} {K:Act->World->Prop} {Q:Exit->Act->World->Prop} (t:TypeId) (x:Operand) (ho:o.op = .load t x) (u:Value) (hu:a.eval x=u)
    (v:Value) (hr:(Instr.loadAt t u).run P w = .ok v w) (h:K (a.put o.dst v) w):o.wp P a w K Q:=by
  unfold Oper.wp execOp;simp only[ho,hu,Sem.run_bind,hr,Result.andThen_ok];exact h
theorem zdg {P:Program} {o:Oper} {a:Act} {w:World} {K:Act->World->Prop} {Q:Exit->Act->World->Prop} (t:TypeId) (x y:Operand) (ho:o.op = .store t x y) (u:Value) (hu:a.eval x=u) (z:Value) (hz:a.eval y=z)
    (w':World) (hr:(Instr.storeAt t u z).run P w = .ok () w') (h:K (a.put o.dst undef) w'):o.wp P a w K Q:=by
  unfold Oper.wp execOp;simp only[ho,hu,hz,Sem.run_bind,hr,Result.andThen_ok];exact h
theorem Raw.wrote {w:World} {p:Nat} {s:St} {a b:Nat} {v:Value} {x:Wt} (h:Raw w p s.n s.down s.fuse s.f (upd s.sh x.k x.b) s.l a b v) {w1:World} (hg:w.grownBy w1 v.ownBlock) {u:Value} (ho:zfk w1 u (s.l++[x])) (hl:u.ownBlock=v.ownBlock\/u.ownBlock=some w.heap.size) (hk:Ok { s with l:=s.l++[x] }) :
    (∃F',KAt (w1.setCell ⟨p,4,none⟩ u) p F' { s with l:=s.l++[x] }/\Nx w (Foot p a b v) F')/\Bf (Foot p a b v) w (w1.setCell ⟨p,4,none⟩ u):=by
  obtain⟨r1,r2,r3⟩:=h.setRow hg ho (fun g e=>by
    rcases hl with h1|h1
    . exact .inl (h1.symm.trans e)
    . rw[h1] at e
      injection e with e
      exact .inr (by omega))
  refine⟨⟨Foot p a b u,⟨hk,a,b,u,rfl,?_⟩,r2⟩,r3⟩;have e:St.sh { s with l:=s.l++[x] }=upd s.sh x.k x.b:=zfj _ _ _;rw[e];exact r1
theorem zmi (W:World) (p n:Nat) (dn:Bool) (fu:Nat) (f:Nat->Bs) (l:List Wt) (a b:Nat) (v:Value) (x:Wt) (R:Raw W p n dn fu f (upd (lay f l) x.k x.b) l a b v) (hl:l.length<=1000000) (hx:x.b.length=64) (hk:Ok ⟨n,f,l++[x],fu,dn⟩) :
    ∃va vc w',(Builtin.append_ #[93, 93] 93 #[v,.slice (some ⟨W.heap.size,0,none⟩) 1 1]).run Tryz.prog (W.alloc (.cells (wc x).toArray 120)) = .ok (.slice va (l++[x]).length vc) w'
      /\ w'.cell? ⟨p,4,none⟩=some v/\w'.frozen? ⟨p,4,none⟩=false
      /\ (∃F',KAt (w'.setCell ⟨p,4,none⟩ (.slice va (l++[x]).length vc)) p F' ⟨n,f,l++[x],fu,dn⟩/\Nx W (Foot p a b v) F')/\Bf (Foot p a b v) W (w'.setCell ⟨p,4,none⟩ (.slice va (l++[x]).length vc)):=by
  have nb:Bw W (W.alloc (.cells (wc x).toArray 120)):=(Below.refl _ _).alloc (Nat.le_refl _) _;have R1:=R.later nb;obtain⟨va,vc,w',r1,r2,r3,r4⟩:=zwP (W.alloc (.cells (wc x).toArray 120)) 93 v l R1.row hl x hx W.heap.size (fun j u hu=>by
    rw[Nat.zero_add,World.cell?_alloc_new]
    simpa using hu)
  have hp:w'.heap[p]?=_:=r3.block p (R1.lt (.inl rfl)) (fun e=>R1.pv e.symm);have:=Raw.wrote (s:=⟨n,f,l,fu,dn⟩) R1 r3 r2 r4 hk;obtain⟨⟨F',k1,k2⟩,k3⟩:=this;exact⟨va,vc,w',r1,(World.cell?_of_block (a:=⟨p,4,none⟩) hp).trans R1.c4,(World.frozen?_of_block (a:=⟨p,4,none⟩) hp).trans (R1.fr 4),⟨F',k1,(Nx.refl W _).trans k2 nb.size⟩,(Bf.of nb).trans (Nx.refl _ _) k3⟩
def opw0:Oper:={ dst:=some 28,op := .move (.tmp 0),type := 31, pos := "disk.go:68", after:=#[],guard:=none }
def opw1:Oper:={ dst:=some 29,op := .move (.tmp 0),type := 31, pos := "disk.go:68", after:=#[],guard:=none }
def opw2:Oper:={ dst:=some 30,op := .nilCheck (.tmp 29),type:=0,pos := "disk.go:68", after:=#[eD 1],guard:=none }
def opw3:Oper:={ dst:=some 31,op := .fieldAddr 95 (.tmp 30) 4,type:=0,pos := "disk.go:68", after:=#[eD 2],guard:=none }
def opw4:Oper:={ dst:=some 32,op := .load 93 (.tmp 31),type := 93, pos := "disk.go:68", after:=#[eD 3],guard:=none }
def opw5:Oper:={ dst:=some 33,op := .move (.tmp 1),type := 3, pos := "disk.go:68", after:=#[],guard:=none }
def opw6:Oper:={ dst:=some 34,op := .move (.tmp 0),type := 31, pos := "disk.go:68", after:=#[],guard:=none }
def opw7:Oper:={ dst:=some 35,op := .nilCheck (.tmp 34),type:=0,pos := "disk.go:68", after:=#[eD 6],guard:=none }
def opw8:Oper:={ dst:=some 36,op := .fieldAddr 95 (.tmp 35) 3,type:=0,pos := "disk.go:68", after:=#[eD 7],guard:=none }
def opw9:Oper:={ dst:=some 37,op := .load 92 (.tmp 36),type := 92, pos := "disk.go:68", after:=#[eD 8],guard:=none }
def zsN:Oper:={ dst:=some 38,op := .move (.tmp 1),type := 3, pos := "disk.go:68", after:=#[],guard:=none }
def zjN:Oper:={ dst:=some 39,op := .indexAddr 92 (.tmp 37) (.tmp 38),type:=0,pos := "disk.go:68", after:=#[eD 9,eD 10],guard:=none }
def zjO:Oper:={ dst:=some 40,op := .load 118 (.tmp 39),type := 118, pos := "disk.go:68", after:=#[eD 11],guard:=none }
def zjP:Oper:={ dst:=some 41,op := .build 120 #[(0,Go.Operand.tmp 33),(1,Go.Operand.tmp 40)],type := 120, pos := "disk.go:68", after:=#[eD 5,eD 12],guard:=none }
def zgo:Oper:={ dst:=some 42,op := .buildSlice 93 1 #[(0,Go.Operand.tmp 41)],type := 93, pos := "disk.go:68", after:=#[eD 13],guard:=none }
def zgp:Oper:={ dst:=some 43,op := .call { callee:=Go.Callee.builtin Go.Builtin.append,args:=#[Go.Operand.tmp 32,Go.Operand.tmp 42],argTypes:=#[93, 93] },type := 93, pos := "disk.go:68", after:=#[eD 4,eD 14],guard:=none }
def zdo:Oper:={ dst:=some 44,op := .nilCheck (.tmp 28),type:=0,pos := "disk.go:68", after:=#[eD 0,eP 0,eP 1,eP 2,eP 3,eP 4,eP 5,eP 6,eP 7,eP 8,eP 9,eP 10,eP 11,eP 12,eP 13,eP 14,eP 15],guard:=none }
def zdp:Oper:={ dst:=some 45,op := .fieldAddr 95 (.tmp 44) 4,type:=0,pos := "disk.go:68", after:=#[eD 16,eP 0,eP 1,eP 2,eP 3,eP 4,eP 5,eP 6,eP 7,eP 8,eP 9,eP 10,eP 11,eP 12,eP 13,eP 14,eP 15],guard:=none }
def zgq:Oper:={ dst:=none,op := .store 93 (.tmp 45) (.tmp 43),type:=0,pos := "disk.go:68", after:=#[eD 17,eD 15,eC 15,eP 0,eP 1,eP 2,eP 3,eP 4,eP 5,eP 6,eP 7,eP 8,eP 9,eP 10,eP 11,eP 12,eP 13,eP 14,eP 15],guard:=none }
theorem zgr {s:St} {k:Int} {t:Bs} (h:rch s k≠0):wrE s k t=rch s k/\wrS s k t=s:=⟨if_pos h,if_pos h⟩
theorem ziQ {s:St} {k:Int} {t:Bs} (h:rch s k=0) (h1:t.length≠64):wrE s k t=3/\wrS s k t=s:=by
  unfold wrE wrS;have a:¬rch s k≠0:=by simp[h]
  rw[if_neg a,if_neg a,if_pos h1,if_pos h1];exact⟨rfl,rfl⟩
theorem ziR {s:St} {k:Int} {t:Bs} (h:rch s k=0) (h1:t.length=64) (h2:s.fuse=1):wrE s k t=150/\wrS s k t=zbn s:=by
  unfold wrE wrS;have a:¬rch s k≠0:=by simp[h]
  have b:¬t.length≠64:=by simp[h1]
  rw[if_neg a,if_neg a,if_neg b,if_neg b,if_pos h2,if_pos h2];exact⟨rfl,rfl⟩
theorem zmj {s:St} {k:Int} {t:Bs} (h:rch s k=0) (h1:t.length=64) (h2:s.fuse≠1):wrE s k t=0/\wrS s k t={ zbn s with l:=s.l++[⟨k.toNat,t⟩] }:=by
  unfold wrE wrS;have a:¬rch s k≠0:=by simp[h]
  have b:¬t.length≠64:=by simp[h1]
  rw[if_neg a,if_neg a,if_neg b,if_neg b,if_neg h2,if_neg h2];exact⟨rfl,rfl⟩
theorem zmk (p:Nat) (F:Nat->Prop) (s:St) (k:Int) (t:Ba) (w:World) (h:KAt w p F s) (hl:s.l.length<=1000000) :
    Cl 292 #[.pointer (some ⟨p,0,none⟩),.int .i64 k,.string t] w fun e w'=>e = .returned (.int .i64 (wrE s k t.data.toList))/\Stp w p F (wrS s k t.data.toList) w':=by
  have RC:Hid _:=zgk p F s k w h;have ts:t.data.toList.length=t.size:=by simp
  rcases zgl s k with ⟨h0,hd,hk0,hk1⟩|hne
  . by_cases h64:t.data.toList.length=64
    . by_cases hf:s.fuse=1
      . rw[(ziR h0 h64 hf).1,(ziR h0 h64 hf).2]
        have BN:Hid _:=zfl p F s hd w h;rw[h0] at RC;have e1:decide (s.fuse=1)=true:=decide_eq_true hf;have hsz:t.size=64:=by omega
        rw[e1] at BN;clear h hd hk0 hk1 hf e1 h64 h0 ts hl;go_enter Tryz.func292, Tryz.ntmps292;go_wp2_with fail;refine Calls.mono RC.out ?_;rintro e w1 ⟨rfl,rfl⟩;go_wp2_with fail;refine Calls.mono BN.out ?_;rintro e w2 ⟨rfl,h1,h2⟩;have FF:Hid (Stp w1 p F (zbn s) w2):=⟨F,h1,Nx.refl _ _,h2⟩;clear h1 h2 BN RC;go_wp2;go_ret;exact⟨rfl,FF.out⟩
      . have hkk:Ok (wrS s k t.data.toList):=h.1.wr k _
        rw[(zmj h0 h64 hf).2] at hkk;rw[(zmj h0 h64 hf).1,(zmj h0 h64 hf).2];have HK:Hid _:=hkk;have BN:Hid _:=zfl p F s hd w h;rw[h0] at RC;have e1:decide (s.fuse=1)=false:=decide_eq_false hf;have hsz:t.size=64:=by omega
        rw[e1] at BN;have H64:Hid (t.data.toList.length=64):=h64;have HL:Hid (s.l.length<=1000000):=hl;obtain⟨m,rfl⟩:∃m:Nat,k=(m:Int):=⟨k.toNat,by omega⟩;rw[Int.toNat_natCast] at HK ⊢;clear h hd hk0 hf e1 h64 h0 ts hl hkk;go_enter Tryz.func292, Tryz.ntmps292;go_wp2_with fail;refine Calls.mono RC.out ?_;rintro e w0 ⟨rfl,rfl⟩;go_wp2_with fail;refine Calls.mono BN.out ?_;rintro e w1 ⟨rfl,h1,h2⟩;obtain⟨ho,a,b,v,rfl,hr⟩:=h1;clear BN RC;obtain⟨n,hn⟩:∃n,s.n=n:=⟨_,rfl⟩;have hn2:(zbn s).n=n:=hn;have hr0:=hr;rw[hn2] at hr0;have hm:m < n:=by omega
        have c3:=hr0.c3;have CP:=zsK w1 b (m*64) 64 t H64.out (hr0.sb.there hm);have Z1:Hid (Bf (Foot p a b v) w0 w1):=h2;have R1:Hid (Raw (w1.setCells b (m*64) (bc t.data.toList)) p (zbn s).n (zbn s).down (zbn s).fuse (zbn s).f (upd (zbn s).sh m t.data.toList) (zbn s).l a b v/\Bf (Foot p a b v) w0 (w1.setCells b (m*64) (bc t.data.toList))):=⟨hr.wholeB (by rw[hn2];exact hm) H64.out,h2.trans (Nx.refl _ _) (Bf.sets _ b (.inr (.inr (.inl rfl))) _ _ _)⟩;rw[hn] at hk1;clear hr hr0 ho h2;go_wp2_with fail;obtain⟨W,hW⟩:∃W,w1.setCells b (m*64) (bc t.data.toList)=W:=⟨_,rfl⟩;rw[hW] at R1 ⊢;clear hW CP Z1 c3;have AA:=zmi W.drew p (zbn s).n (zbn s).down (zbn s).fuse (zbn s).f s.l a b v ⟨m,t.data.toList⟩ (R1.out.1.later (Below.refl _ _).drew) HL.out H64.out HK.out;obtain⟨va,vc,w',hrun,sc',sf',⟨F',k1,k2⟩,k3⟩:=AA;have HB:Bf (Foot p a b v) w0 W.drew:=R1.out.2.later (Below.refl _ _).drew;have FF:Hid (Stp w0 p (Foot p a b v) _ _):=⟨F',k1,(Nx.refl w0 _).trans k2 HB.size,HB.trans (Nx.refl _ _) k3⟩;have SC:Hid (w'.cell? ⟨p,4,none⟩=some v/\w'.frozen? ⟨p,4,none⟩=false):=⟨sc',sf'⟩;have c3:=R1.out.1.c3;have c4:=R1.out.1.c4;rw[hn2] at c3;have RG:=R1.out.1.sb.at_ m (by rw[hn2];exact hm);rw[upd_same] at RG;obtain⟨L,hL⟩:∃L,(s.l++[(⟨m,t.data.toList⟩:Wt)]).length=L:=⟨_,rfl⟩;rw[hL] at hrun FF;obtain⟨bs,hbs⟩:∃bs:Bs,t.data.toList=bs:=⟨_,rfl⟩;rw[hbs] at RG H64 hrun;have HR:Hid _:=hrun
        have BD:Hid (∀w',(Instr.build 120 #[(0,.int .i64 (m:Int)),(1,.agg (bc bs).toArray)]).run Tryz.prog w' = .ok (.agg (wc ⟨m,bs⟩).toArray) w'):=zsM ⟨m,bs⟩ H64.out;have BS:Hid _:=zps ⟨m,bs⟩ H64.out;have LD:Hid (∀w',w'.rangeAt b (m*64) (bc bs)->(Instr.loadAt 118 (.pointer (some ⟨b,m*64,none⟩))).run Tryz.prog w' = .ok (.agg (bc bs).toArray) w'):=fun w' hh=>zqV hh H64.out
        obtain⟨Z,hZ⟩:∃Z,W.drew=Z:=⟨_,rfl⟩;have C3:Hid (Z.cell? ⟨p,3,none⟩=some (.slice (some ⟨b,0,none⟩) n n)):=by rw[<-hZ];exact c3
        have C4:Hid (Z.cell? ⟨p,4,none⟩=some v):=by rw[<-hZ];exact c4
        have C5:Hid (Z.rangeAt b (m*64) (bc bs)):=by rw[<-hZ];exact RG
        clear R1 hL hbs hrun k1 k2 k3 HB sc' sf' c3 c4 RG HK H64 HL;refine wp_region_noPanic ?_;refine wp_region_held_drew (S:=fun _=>True) (by kernel_rfl) (trivial) (fun hHeld => ?_);rw[hZ];rw[hZ] at HR;clear hZ;refine wT 0 opw0 ?_ ?_ ?_;rotate_left
        . intro w' hSw;clear hSw;unfold opw0;first|(go_simp;done)|(go_simp;with_reducible rfl)
        simp only[opw0,Act.put,wA,wB,wC];refine wT 1 opw1 ?_ ?_ ?_;rotate_left
        . intro w' hSw;clear hSw;unfold opw1;first|(go_simp;done)|(go_simp;with_reducible rfl)
        simp only[opw1,Act.put,wA,wB,wC];refine wT 2 opw2 ?_ ?_ ?_;rotate_left
        . intro w' hSw;clear hSw;unfold opw2;first|(go_simp;done)|(go_simp;with_reducible rfl)
        simp only[opw2,Act.put,wA,wB,wC];refine wT 3 opw3 ?_ ?_ ?_;rotate_left
        . intro w' hSw;clear hSw;unfold opw3;first|(go_simp;done)|(go_simp;with_reducible rfl)
        simp only[opw3,Act.put,wA,wB,wC];refine wT 5 opw5 ?_ ?_ ?_;rotate_left
        . intro w' hSw;clear hSw;unfold opw5;first|(go_simp;done)|(go_simp;with_reducible rfl)
        simp only[opw5,Act.put,wA,wB,wC];refine wT 6 opw6 ?_ ?_ ?_;rotate_left
        . intro w' hSw;clear hSw;unfold opw6;first|(go_simp;done)|(go_simp;with_reducible rfl)
        simp only[opw6,Act.put,wA,wB,wC];refine wT 7 opw7 ?_ ?_ ?_;rotate_left
        . intro w' hSw;clear hSw;unfold opw7;first|(go_simp;done)|(go_simp;with_reducible rfl)
        simp only[opw7,Act.put,wA,wB,wC];refine wT 8 opw8 ?_ ?_ ?_;rotate_left
        . intro w' hSw;clear hSw;unfold opw8;first|(go_simp;done)|(go_simp;with_reducible rfl)
        simp only[opw8,Act.put,wA,wB,wC];refine wT 10 zsN ?_ ?_ ?_;rotate_left
        . intro w' hSw;clear hSw;unfold zsN;first|(go_simp;done)|(go_simp;with_reducible rfl)
        simp only[zsN,Act.put,wA,wB,wC];refine wpAnyH_ready (rs:=[4,9]) (by kernel_rfl) (by simp) ?_;refine AllReadyH.cons (o:=opw4) rfl (fun KK hKK => ?_) (AllReadyH.cons (o:=opw9) rfl (fun KK hKK => ?_) AllReadyH.nil)
        . have lc:=C4.out
          unfold opw4;go_simp;refine hKK.out _ _ trivial (fun hHeld4 => ?_);clear hKK KK lc;refine wpAnyH_ready (rs:=[9]) (by kernel_rfl) (by simp) ?_;refine AllReadyH.cons (o:=opw9) rfl (fun KK hKK => ?_) AllReadyH.nil;have lc:=C3.out;unfold opw9;go_simp;refine hKK.out _ _ trivial (fun hHeld9 => ?_);clear hKK KK lc;refine wT 11 zjN ?_ ?_ ?_;rotate_left
          . intro w' hSw;clear hSw;unfold zjN;first|(go_simp;done)|(go_simp;with_reducible rfl)
          simp only[zjN,Act.put,wA,wB,wC];refine wpAnyH_ready (rs:=[12]) (by kernel_rfl) (by simp) ?_;refine AllReadyH.cons (o:=zjO) rfl (fun KK hKK => ?_) AllReadyH.nil;rw[if_pos (by kernel_rfl)];refine zbG _ _ rfl _ rfl _ (LD.out _ C5.out) ?_;refine hKK.out _ _ trivial (fun hHeld12 => ?_);clear hKK KK;simp only[zjO,Act.put,wA,wB,wC];refine wpAnyH_take (i:=13) (oi:=zjP) (v:=(.agg (wc ⟨m,bs⟩).toArray)) rfl (by kernel_rfl) (by kernel_rfl) (by kernel_rfl) (fun _ _ _ h=>h) (zb0 (by rfl) _ _ rfl #[(0,.int .i64 (m:Int)),(1,.agg (bc bs).toArray)] (by simp only[List.map_toArray,List.map_cons,List.map_nil];rfl) _ BD.out) (by assumption) ?_;simp only[zjP,Act.put,wA,wB,wC];refine wpAnyH_ready (rs:=[14]) (by kernel_rfl) (by simp) ?_;refine AllReadyH.cons (o:=zgo) rfl (fun KK hKK => ?_) AllReadyH.nil;rw[if_pos (by kernel_rfl)];refine zaF _ _ _ rfl #[(0,.agg (wc ⟨m,bs⟩).toArray)] (by simp only[List.map_toArray,List.map_cons,List.map_nil];rfl) _ _ (BS.out Z) ?_;refine hKK.out _ _ trivial (fun hHeld14 => ?_);clear hKK KK;simp only[zgo,Act.put,wA,wB,wC];refine wpAnyH_ready (rs:=[15]) (by kernel_rfl) (by simp) ?_;refine AllReadyH.cons (o:=zgp) rfl (fun KK hKK => ?_) AllReadyH.nil;have hr:=HR.out;rw[if_pos (by kernel_rfl)];refine Go.Lib.wp_append_run _ _ _ _ _ rfl _ _ rfl rfl _ _ hr ?_;refine hKK.out _ _ trivial (fun hHeldA => ?_);clear hKK KK hr;simp only[zgp,Act.put,wA,wB,wC];refine wT 16 zdo ?_ ?_ ?_;rotate_left
          . intro w' hSw;clear hSw;unfold zdo;first|(go_simp;done)|(go_simp;with_reducible rfl)
          simp only[zdo,Act.put,wA,wB,wC];refine wT 17 zdp ?_ ?_ ?_;rotate_left
          . intro w' hSw;clear hSw;unfold zdp;first|(go_simp;done)|(go_simp;with_reducible rfl)
          simp only[zdp,Act.put,wA,wB,wC];refine wpAnyH_ready (rs:=[18]) (by kernel_rfl) (by simp) ?_;refine AllReadyH.cons (o:=zgq) rfl (fun KK hKK => ?_) AllReadyH.nil;have sc:=SC.out.1;have sf:=SC.out.2;unfold zgq;go_simp;refine hKK.out _ _ trivial (fun hHeldS => ?_);clear hKK KK sc sf;refine wpAnyH_done (by kernel_rfl) ?_ _;refine NoPanic.normal ?_;go_wp2;go_ret;exact⟨rfl,FF.out⟩
        . have lc:=C3.out
          unfold opw9;go_simp;refine hKK.out _ _ trivial (fun hHeld9 => ?_);clear hKK KK lc;refine wT 11 zjN ?_ ?_ ?_;rotate_left
          . intro w' hSw;clear hSw;unfold zjN;first|(go_simp;done)|(go_simp;with_reducible rfl)
          simp only[zjN,Act.put,wA,wB,wC];refine wpAnyH_ready (rs:=[4,12]) (by kernel_rfl) (by simp) ?_;refine AllReadyH.cons (o:=opw4) rfl (fun KK hKK => ?_) (AllReadyH.cons (o:=zjO) rfl (fun KK hKK => ?_) AllReadyH.nil)
          . have lc:=C4.out
            unfold opw4;go_simp;refine hKK.out _ _ trivial (fun hHeld4 => ?_);clear hKK KK lc;refine wpAnyH_ready (rs:=[12]) (by kernel_rfl) (by simp) ?_;refine AllReadyH.cons (o:=zjO) rfl (fun KK hKK => ?_) AllReadyH.nil;rw[if_pos (by kernel_rfl)];refine zbG _ _ rfl _ rfl _ (LD.out _ C5.out) ?_;refine hKK.out _ _ trivial (fun hHeld12 => ?_);clear hKK KK;simp only[zjO,Act.put,wA,wB,wC];refine wpAnyH_take (i:=13) (oi:=zjP) (v:=(.agg (wc ⟨m,bs⟩).toArray)) rfl (by kernel_rfl) (by kernel_rfl) (by kernel_rfl) (fun _ _ _ h=>h) (zb0 (by rfl) _ _ rfl #[(0,.int .i64 (m:Int)),(1,.agg (bc bs).toArray)] (by simp only[List.map_toArray,List.map_cons,List.map_nil];rfl) _ BD.out) (by assumption) ?_;simp only[zjP,Act.put,wA,wB,wC];refine wpAnyH_ready (rs:=[14]) (by kernel_rfl) (by simp) ?_;refine AllReadyH.cons (o:=zgo) rfl (fun KK hKK => ?_) AllReadyH.nil;rw[if_pos (by kernel_rfl)];refine zaF _ _ _ rfl #[(0,.agg (wc ⟨m,bs⟩).toArray)] (by simp only[List.map_toArray,List.map_cons,List.map_nil];rfl) _ _ (BS.out Z) ?_;refine hKK.out _ _ trivial (fun hHeld14 => ?_);clear hKK KK;simp only[zgo,Act.put,wA,wB,wC];refine wpAnyH_ready (rs:=[15]) (by kernel_rfl) (by simp) ?_;refine AllReadyH.cons (o:=zgp) rfl (fun KK hKK => ?_) AllReadyH.nil;have hr:=HR.out;rw[if_pos (by kernel_rfl)];refine Go.Lib.wp_append_run _ _ _ _ _ rfl _ _ rfl rfl _ _ hr ?_;refine hKK.out _ _ trivial (fun hHeldA => ?_);clear hKK KK hr;simp only[zgp,Act.put,wA,wB,wC];refine wT 16 zdo ?_ ?_ ?_;rotate_left
            . intro w' hSw;clear hSw;unfold zdo;first|(go_simp;done)|(go_simp;with_reducible rfl)
            simp only[zdo,Act.put,wA,wB,wC];refine wT 17 zdp ?_ ?_ ?_;rotate_left
            . intro w' hSw;clear hSw;unfold zdp;first|(go_simp;done)|(go_simp;with_reducible rfl)
            simp only[zdp,Act.put,wA,wB,wC];refine wpAnyH_ready (rs:=[18]) (by kernel_rfl) (by simp) ?_;refine AllReadyH.cons (o:=zgq) rfl (fun KK hKK => ?_) AllReadyH.nil;have sc:=SC.out.1;have sf:=SC.out.2;unfold zgq;go_simp;refine hKK.out _ _ trivial (fun hHeldS => ?_);clear hKK KK sc sf;refine wpAnyH_done (by kernel_rfl) ?_ _;refine NoPanic.normal ?_;go_wp2;go_ret;exact⟨rfl,FF.out⟩
          . rw[if_pos (by kernel_rfl)]
            refine zbG _ _ rfl _ rfl _ (LD.out _ C5.out) ?_;refine hKK.out _ _ trivial (fun hHeld12 => ?_);clear hKK KK;simp only[zjO,Act.put,wA,wB,wC];refine wpAnyH_take (i:=13) (oi:=zjP) (v:=(.agg (wc ⟨m,bs⟩).toArray)) rfl (by kernel_rfl) (by kernel_rfl) (by kernel_rfl) (fun _ _ _ h=>h) (zb0 (by rfl) _ _ rfl #[(0,.int .i64 (m:Int)),(1,.agg (bc bs).toArray)] (by simp only[List.map_toArray,List.map_cons,List.map_nil];rfl) _ BD.out) (by assumption) ?_;simp only[zjP,Act.put,wA,wB,wC];refine wpAnyH_ready (rs:=[4,14]) (by kernel_rfl) (by simp) ?_;refine AllReadyH.cons (o:=opw4) rfl (fun KK hKK => ?_) (AllReadyH.cons (o:=zgo) rfl (fun KK hKK => ?_) AllReadyH.nil)
            . have lc:=C4.out
              unfold opw4;go_simp;refine hKK.out _ _ trivial (fun hHeld4 => ?_);clear hKK KK lc;refine wpAnyH_ready (rs:=[14]) (by kernel_rfl) (by simp) ?_;refine AllReadyH.cons (o:=zgo) rfl (fun KK hKK => ?_) AllReadyH.nil;rw[if_pos (by kernel_rfl)];refine zaF _ _ _ rfl #[(0,.agg (wc ⟨m,bs⟩).toArray)] (by simp only[List.map_toArray,List.map_cons,List.map_nil];rfl) _ _ (BS.out Z) ?_;refine hKK.out _ _ trivial (fun hHeld14 => ?_);clear hKK KK;simp only[zgo,Act.put,wA,wB,wC];refine wpAnyH_ready (rs:=[15]) (by kernel_rfl) (by simp) ?_;refine AllReadyH.cons (o:=zgp) rfl (fun KK hKK => ?_) AllReadyH.nil;have hr:=HR.out;rw[if_pos (by kernel_rfl)];refine Go.Lib.wp_append_run _ _ _ _ _ rfl _ _ rfl rfl _ _ hr ?_;refine hKK.out _ _ trivial (fun hHeldA => ?_);clear hKK KK hr;simp only[zgp,Act.put,wA,wB,wC];refine wT 16 zdo ?_ ?_ ?_;rotate_left
              . intro w' hSw;clear hSw;unfold zdo;first|(go_simp;done)|(go_simp;with_reducible rfl)
              simp only[zdo,Act.put,wA,wB,wC];refine wT 17 zdp ?_ ?_ ?_;rotate_left
              . intro w' hSw;clear hSw;unfold zdp;first|(go_simp;done)|(go_simp;with_reducible rfl)
              simp only[zdp,Act.put,wA,wB,wC];refine wpAnyH_ready (rs:=[18]) (by kernel_rfl) (by simp) ?_;refine AllReadyH.cons (o:=zgq) rfl (fun KK hKK => ?_) AllReadyH.nil;have sc:=SC.out.1;have sf:=SC.out.2;unfold zgq;go_simp;refine hKK.out _ _ trivial (fun hHeldS => ?_);clear hKK KK sc sf;refine wpAnyH_done (by kernel_rfl) ?_ _;refine NoPanic.normal ?_;go_wp2;go_ret;exact⟨rfl,FF.out⟩
            . rw[if_pos (by kernel_rfl)]
              refine zaF _ _ _ rfl #[(0,.agg (wc ⟨m,bs⟩).toArray)] (by simp only[List.map_toArray,List.map_cons,List.map_nil];rfl) _ _ (BS.out Z) ?_;refine hKK.out _ _ trivial (fun hHeld14 => ?_);clear hKK KK;simp only[zgo,Act.put,wA,wB,wC];refine wpAnyH_ready (rs:=[4]) (by kernel_rfl) (by simp) ?_;refine AllReadyH.cons (o:=opw4) rfl (fun KK hKK => ?_) AllReadyH.nil;have lc:=(zab (o:=(.cells (wc ⟨m,bs⟩).toArray 120)) C4.out);unfold opw4;go_simp;refine hKK.out _ _ trivial (fun hHeld4 => ?_);clear hKK KK lc;refine wpAnyH_ready (rs:=[15]) (by kernel_rfl) (by simp) ?_;refine AllReadyH.cons (o:=zgp) rfl (fun KK hKK => ?_) AllReadyH.nil;have hr:=HR.out;rw[if_pos (by kernel_rfl)];refine Go.Lib.wp_append_run _ _ _ _ _ rfl _ _ rfl rfl _ _ hr ?_;refine hKK.out _ _ trivial (fun hHeldA => ?_);clear hKK KK hr;simp only[zgp,Act.put,wA,wB,wC];refine wT 16 zdo ?_ ?_ ?_;rotate_left
              . intro w' hSw;clear hSw;unfold zdo;first|(go_simp;done)|(go_simp;with_reducible rfl)
              simp only[zdo,Act.put,wA,wB,wC];refine wT 17 zdp ?_ ?_ ?_;rotate_left
              . intro w' hSw;clear hSw;unfold zdp;first|(go_simp;done)|(go_simp;with_reducible rfl)
              simp only[zdp,Act.put,wA,wB,wC];refine wpAnyH_ready (rs:=[18]) (by kernel_rfl) (by simp) ?_;refine AllReadyH.cons (o:=zgq) rfl (fun KK hKK => ?_) AllReadyH.nil;have sc:=SC.out.1;have sf:=SC.out.2;unfold zgq;go_simp;refine hKK.out _ _ trivial (fun hHeldS => ?_);clear hKK KK sc sf;refine wpAnyH_done (by kernel_rfl) ?_ _;refine NoPanic.normal ?_;go_wp2;go_ret;exact⟨rfl,FF.out⟩
    . rw[(ziQ h0 h64).1,(ziQ h0 h64).2]
      have FF:Hid (Stp w p F s w):=h.stays (Below.refl _ _);rw[h0] at RC;have hsz:¬(t.size:Int)=64:=by omega
      clear h hd hk0 hk1 h64 h0 ts hl;go_enter Tryz.func292, Tryz.ntmps292;go_wp2_with (go_at_call 339;refine Calls.mono RC.out ?_;rintro e w1 ⟨rfl,rfl⟩);go_ret;exact⟨rfl,FF.out⟩
  . rw[(zgr hne).1,(zgr hne).2]
    have FF:Hid (Stp w p F s w):=h.stays (Below.refl _ _);obtain⟨x,hx⟩:∃x,rch s k=x:=⟨_,rfl⟩;rw[hx] at RC hne ⊢;clear h hx ts hl;go_enter Tryz.func292, Tryz.ntmps292;go_wp2_with (go_at_call 339;refine Calls.mono RC.out ?_;rintro e w1 ⟨rfl,rfl⟩);go_ret;exact⟨rfl,FF.out⟩
theorem zpt {w:World} {va:Option Addr} {n vc:Nat} {l:List Wt} (h:zfk w (.slice va n vc) l) (h64:∀x∈l,x.b.length=64) (k:Nat) (hk:k < l.length):∃g,va=some ⟨g,0,none⟩/\w.rangeAt g (k*65) (wc l[k]):=by
  rcases h.2 with ⟨h1,h2⟩|⟨g,cap,cur,h1,-⟩
  . omega
  . have h1':=h1
    injection h1' with e1 e2 e3
    subst e1;subst e2;refine⟨g,rfl,fun j u hu => ?_⟩;have hj:j < 65:=by
      have:=(List.getElem?_eq_some_iff.1 hu).1;rw[zcL (h64 _ (List.getElem_mem hk))] at this;exact this
    rw[h.cellAt (k*65+j) (by omega),zqU l h64 k hk j hj,hu]
theorem zuZ {w:World} {b o:Nat} {x:Wt} (h:w.rangeAt b o (wc x)) (hl:x.b.length=64):(Instr.loadAt 120 (.pointer (some ⟨b,o,none⟩))).run Tryz.prog w = .ok (.agg (wc x).toArray) w:=by
  obtain⟨i0,hi,hz0,hz1,hz2⟩:=info_parts zjM;exact run_loadAt_mid w b o _ (wc x) _ h Tryz.underlying120 rfl (by rw[hi,zcL hl,<-hz1];rfl)
theorem zsO (w:World):(Instr.alloc 120 true (.tuple #[])).run Tryz.prog w = .ok (.pointer (some ⟨w.heap.size,0,none⟩)) (w.alloc (.cells (#[.int .i64 0]++Array.replicate 64 (.int .u8 0)) 120)):=by
  obtain⟨i0,hi,hz0,hz1,hz2⟩:=info_parts zjM;simp[Instr.alloc,newVar,newRow,zeroValue,typeInfo,hi,hz0,zhC,Value.cells]
theorem zml (x:Wt) (hx:x.b.length=64) (w:World):(Instr.storeAt 120 (.pointer (some ⟨w.heap.size,0,none⟩)) (.agg (wc x).toArray)).run Tryz.prog (w.alloc (.cells (#[.int .i64 0]++Array.replicate 64 (.int .u8 0)) 120)) = .ok () (w.alloc (.cells (wc x).toArray 120)):=by
  obtain⟨i0,hi,hz0,hz1,hz2⟩:=info_parts zjM;refine run_storeAt_new w _ _ _ (by rw[hi];simp[hz1,zcL hx]) (by simp[zcL hx]) (all_oneCell_toArray (fun v hv=>zhB [x] v (by simpa[wcs] using hv)))
theorem zgs {P:Program} {o:Oper} {a:Act} {w:World} {K:Act->World->Prop} {Q:Exit->Act->World->Prop} (t:TypeId) (ho:o.op = .alloc t)
    (v:Value) (w':World) (hr:(Instr.alloc t true (.tuple #[])).run P w = .ok v w') (h:K (a.put o.dst v) w'):o.wp P a w K Q:=by
  unfold Oper.wp execOp;simp only[ho,Sem.run_bind,hr,Result.andThen_ok];exact h
theorem zwQ (x:Wt) (w:World):(w.alloc (.cells (wc x).toArray 120)).cell? ⟨w.heap.size,0,none⟩=some (.int .i64 (x.k:Int))/\(w.alloc (.cells (wc x).toArray 120)).rangeAt w.heap.size 1 (bc x.b):=by
  refine⟨by rw[World.cell?_alloc_new];simp[wc],fun j u hu => ?_⟩;rw[World.cell?_alloc_new,Nat.add_comm]
  simpa[wc] using hu
theorem zmm {P:Program} {o:Oper} {a:Act} {w:World} (t:TypeId) (x:Operand) (ho:o.op = .load t x) (u:Value) (hu:a.eval x=u) (v:Value) (hr:(Instr.loadAt t u).run P w = .ok v w):(execOp a.eval o).run P w = .ok (.value v) w:=by
  unfold execOp;simp only[ho,hu,Sem.run_bind,hr,Result.andThen_ok];rfl
theorem zsP {w:World} {b o:Nat} {l:Bs} (h:w.there b o 64) (hl:l.length=64):(Instr.storeAt 118 (.pointer (some ⟨b,o,none⟩)) (.agg (bc l).toArray)).run Tryz.prog w = .ok () (w.setCells b o (bc l)):=by
  obtain⟨i0,hi,hz0,hz1,hz2⟩:=info_parts zsI;have hs:(bc l).toArray.size=64:=by simp[zbo,hl]
  have:=run_storeAt_mid (P:=Tryz.prog) w b o 118 (bc l).toArray (by rw[hs];exact h) (by rw[hi,hs,<-hz1];rfl) (all_oneCell_toArray (zme l))
  simpa using this
theorem Bk.cell {w:World} {a o:Nat} {vs:List Value} {g j:Nat} {v:Value} (hne:a≠g) (h:w.cell? ⟨g,j,none⟩=some v):(w.setCells a o vs).cell? ⟨g,j,none⟩=some v:=(World.cell?_of_block (a:=⟨g,j,none⟩) (zad w a o vs g (Ne.symm hne))).trans h
theorem Bk.range {w:World} {a o:Nat} {vs:List Value} {g j:Nat} {cs:List Value} (hne:a≠g) (h:w.rangeAt g j cs):(w.setCells a o vs).rangeAt g j cs:=zbZ h (zad w a o vs g (Ne.symm hne))
def zwR:Oper:={ dst:=some 23,op := .move (.tmp 0),type := 31, pos := "disk.go:78", after:=#[],guard:=none }
def zwS:Oper:={ dst:=some 24,op := .nilCheck (.tmp 23),type:=0,pos := "disk.go:78", after:=#[eD 0],guard:=none }
def zwT:Oper:={ dst:=some 25,op := .fieldAddr 95 (.tmp 24) 2,type:=0,pos := "disk.go:78", after:=#[eD 1],guard:=none }
def zwU:Oper:={ dst:=some 26,op := .load 92 (.tmp 25),type := 92, pos := "disk.go:78", after:=#[eD 2],guard:=none }
def zwV:Oper:={ dst:=some 27,op := .fieldAddr 120 (.tmp 4) 0,type:=0,pos := "disk.go:78", after:=#[],guard:=none }
def zwW:Oper:={ dst:=some 28,op := .load 3 (.tmp 27),type := 3, pos := "disk.go:78", after:=#[eD 4],guard:=none }
def zwX:Oper:={ dst:=some 29,op := .fieldAddr 120 (.tmp 4) 1,type:=0,pos := "disk.go:78", after:=#[],guard:=none }
def zxx:Oper:={ dst:=some 30,op := .load 118 (.tmp 29),type := 118, pos := "disk.go:78", after:=#[eD 6],guard:=none }
def zwY:Oper:={ dst:=some 31,op := .indexAddr 92 (.tmp 26) (.tmp 28),type:=0,pos := "disk.go:78", after:=#[eD 3,eD 5,eP 0,eP 1,eP 2,eP 3,eP 4,eP 5,eP 6,eP 7],guard:=none }
def zxy:Oper:={ dst:=none,op := .store 118 (.tmp 31) (.tmp 30),type:=0,pos := "disk.go:78", after:=#[eD 8,eD 7,eP 0,eP 1,eP 2,eP 3,eP 4,eP 5,eP 6,eP 7],guard:=none }
theorem zpu (p:Nat) (F:Nat->Prop) (s:St) (w:World) (h:KAt w p F s) (hl:s.l.length<=1000000) :
    Cl 283 #[.pointer (some ⟨p,0,none⟩)] w fun e w'=>e = .returned (.int .i64 (syE s))/\Stp w p F (syS s) w':=by
  have c0:w.cell? ⟨p,0,none⟩=some (.int .i64 (if s.down=true then 1 else 0)):=by
    obtain⟨-,a,b,v,-,hr⟩:=h;exact hr.c0
  unfold syE syS;by_cases hd:s.down=true
  . rw[if_pos hd] at c0
    rw[if_pos hd,if_pos hd];have FF:Hid (Stp w p F s w):=h.stays (Below.refl _ _);clear h hl hd;go_enter Tryz.func283, Tryz.ntmps283;go_wp2;go_ret;exact⟨rfl,FF.out⟩
  . rw[if_neg hd] at c0
    rw[if_neg hd,if_neg hd];have BN:Hid _:=zfl p F s (by simpa using hd) w h;by_cases hf:s.fuse=1
    . rw[if_pos hf,if_pos hf]
      have e1:decide (s.fuse=1)=true:=decide_eq_true hf;rw[e1] at BN;clear h hl hd hf e1;go_enter Tryz.func283, Tryz.ntmps283;go_wp2_with fail;refine Calls.mono BN.out ?_;rintro e w2 ⟨rfl,h1,h2⟩;have FF:Hid (Stp w p F (zbn s) w2):=⟨F,h1,Nx.refl _ _,h2⟩;clear h1 h2 BN;go_wp2;go_ret;exact⟨rfl,FF.out⟩
    . rw[if_neg hf,if_neg hf]
      have e1:decide (s.fuse=1)=false:=decide_eq_false hf;rw[e1] at BN;have HL:Hid (s.l.length<=1000000):=hl;have HO0:Hid (Ok s):=h.1;clear h hd hf e1;go_enter Tryz.func283, Tryz.ntmps283;go_wp2_with fail;refine Calls.mono BN.out ?_;rintro e w1 ⟨rfl,h1,h2⟩;obtain⟨ho,a,b,v,rfl,hr⟩:=h1;have hrow:=hr.row;obtain⟨va,vc,rfl⟩:=zdS hrow;have c4:=hr.c4;have I0:Hid (Raw w1 p s.n (zbn s).down (zbn s).fuse s.f s.sh s.l a b (.slice va s.l.length vc)/\Bf (Foot p a b (.slice va s.l.length vc)) w w1):=⟨hr,h2⟩;have HO:Hid (Ok s):=HO0.out;obtain⟨n,hn⟩:∃n,s.l.length=n:=⟨_,rfl⟩;have c4':w1.cell? ⟨p,4,none⟩=some (.slice va n vc):=by rw[<-hn];exact c4
      rw[hn] at I0 hl;clear hr h2 ho BN hrow c4;go_wp2_with fail;go_loopw [19] (fun i wr=>∃(k:Nat) (f:Nat->Bs),k<=n/\i = .int .i64 (k:Int)/\Hid (Raw wr p s.n (zbn s).down (zbn s).fuse f s.sh s.l a b (.slice va n vc)/\Bf (Foot p a b (.slice va n vc)) w wr/\lay f (s.l.drop k)=s.sh)) (fun i wr=>n - (intOf i).toNat)
      case atStart=>exact⟨0,s.f,Nat.zero_le _,rfl,I0.out.1,I0.out.2,rfl⟩
      case round =>
        obtain⟨k,f,hk,rfl,I⟩:=hrel;clear I0;by_cases hlt:k < n
        . have g1:(k:Int) < (n:Int):=by omega
          have hkl:k < s.l.length:=by omega
          obtain⟨g,rfl,RW⟩:=zpt I.out.1.row (fun x hx=>(HO.out.wk x hx).2) k hkl;have LW:Hid _:=zuZ RW (HO.out.wk _ (List.getElem_mem hkl)).2;obtain⟨x,hx⟩:∃x,s.l[k]=x:=⟨_,rfl⟩;have h64:x.b.length=64:=by rw[<-hx];exact (HO.out.wk _ (List.getElem_mem hkl)).2
          have hxk:x.k < s.n:=by rw[<-hx];exact (HO.out.wk _ (List.getElem_mem hkl)).1
          rw[hx] at LW;have SN:Hid _:=zml x h64 wr;have BX:Hid _:=zwQ x wr;have J1:Hid (Raw (wr.alloc (.cells (wc x).toArray 120)) p s.n (zbn s).down (zbn s).fuse f s.sh s.l a b (.slice (some ⟨g,0,none⟩) n vc)/\Bf (Foot p a b (.slice (some ⟨g,0,none⟩) n vc)) w (wr.alloc (.cells (wc x).toArray 120))):=⟨I.out.1.later ((Below.refl _ _).alloc (Nat.le_refl _) _),I.out.2.1.later ((Below.refl _ _).alloc (Nat.le_refl _) _)⟩;have LY:Hid (lay (upd f x.k x.b) (s.l.drop (k+1))=s.sh):=by
            have:=I.out.2.2;rw[List.drop_eq_getElem_cons hkl,hx,lay] at this;exact this
          have NB:Hid (∀q,Foot p a b (.slice (some ⟨g,0,none⟩) n vc) q->q≠wr.heap.size):=fun q hq=>Nat.ne_of_lt (I.out.1.lt hq)
          clear I RW hx;go_upto_region 5 with fail
          refine wp_region_lit ?_;refine wpList_plain rfl (fun K hK => ?_);go_simp;refine hK _ _ ?_;clear hK K;refine wpList_plain rfl (fun K hK=>zbG _ _ rfl _ rfl _ LW.out (hK _ _ ?_));refine wpList_plain rfl (fun K hK=>zgs _ rfl _ _ (zsO _) (hK _ _ ?_));refine wpList_plain rfl (fun K hK=>zdg _ _ _ rfl _ rfl _ rfl _ SN.out (hK _ _ ?_));refine wpList_nil ?_;obtain⟨B,hB⟩:∃B,wr.heap.size=B:=⟨_,rfl⟩;obtain⟨W,hW⟩:∃W,wr.alloc (.cells (wc x).toArray 120)=W:=⟨_,rfl⟩;simp only[Act.put,wA,wB,wC];rw[hB] at NB BX ⊢;rw[hW] at BX J1 ⊢;clear LW SN hB hW;have c2:=J1.out.1.c2;have G3:(x.k:Int) < ((s.n:Nat):Int):=by omega
          have RA:Hid (Raw ((W.drew).setCells a (x.k*64) (bc x.b)) p s.n (zbn s).down (zbn s).fuse (upd f x.k x.b) s.sh s.l a b (.slice (some ⟨g,0,none⟩) n vc)/\Bf (Foot p a b (.slice (some ⟨g,0,none⟩) n vc)) w ((W.drew).setCells a (x.k*64) (bc x.b))) :=
            ⟨(J1.out.1.later (Below.refl _ _).drew).wholeA hxk h64,(J1.out.2.later (Below.refl _ _).drew).trans (Nx.refl _ _) (Bf.sets _ a (.inr (.inl rfl)) _ _ _)⟩
          have PA:Hid (a≠p):=J1.out.1.pa;have TH:Hid (W.drew.there a (x.k*64) 64):=(J1.out.1.later (Below.refl _ _).drew).sa.there hxk;have AB:Hid (a≠B):=NB.out a (.inr (.inl rfl));have b0:=BX.out.1;have RB:=BX.out.2;have H64:Hid (x.b.length=64):=h64;obtain⟨N,hN⟩:∃N,s.n=N:=⟨_,rfl⟩;rw[hN] at c2 G3;go_upto_region 6 with fail
          clear J1 BX NB h64;refine wp_region_noPanic ?_;refine wp_region_held_drew (S:=fun w'=>w'.cell? ⟨p,2,none⟩=some (.slice (some ⟨a,0,none⟩) N N)/\w'.cell? ⟨B,0,none⟩=some (.int .i64 (x.k:Int))/\w'.rangeAt B 1 (bc x.b)) (by kernel_rfl) (⟨c2,b0,RB⟩) (fun hHeld => ?_);obtain⟨Z,hZ⟩:∃Z,W.drew=Z:=⟨_,rfl⟩;rw[hZ] at hHeld RA TH ⊢;clear c2 b0 RB hZ;refine wT 0 zwR ?_ ?_ ?_;rotate_left
          . intro w' hSw;clear hSw;unfold zwR;first|(go_simp;done)|(go_simp;with_reducible rfl)
          simp only[zwR,Act.put,wA,wB,wC];refine wT 1 zwS ?_ ?_ ?_;rotate_left
          . intro w' hSw;clear hSw;unfold zwS;first|(go_simp;done)|(go_simp;with_reducible rfl)
          simp only[zwS,Act.put,wA,wB,wC];refine wT 2 zwT ?_ ?_ ?_;rotate_left
          . intro w' hSw;clear hSw;unfold zwT;first|(go_simp;done)|(go_simp;with_reducible rfl)
          simp only[zwT,Act.put,wA,wB,wC];refine wT 3 zwU ?_ ?_ ?_;rotate_left
          . intro w' hSw;obtain⟨s0,s1,s2⟩:=hSw;unfold zwU;first|(go_simp;done)|(go_simp;with_reducible rfl)
          simp only[zwU,Act.put,wA,wB,wC];refine wT 4 zwV ?_ ?_ ?_;rotate_left
          . intro w' hSw;clear hSw;unfold zwV;first|(go_simp;done)|(go_simp;with_reducible rfl)
          simp only[zwV,Act.put,wA,wB,wC];refine wT 5 zwW ?_ ?_ ?_;rotate_left
          . intro w' hSw;obtain⟨s0,s1,s2⟩:=hSw;unfold zwW;first|(go_simp;done)|(go_simp;with_reducible rfl)
          simp only[zwW,Act.put,wA,wB,wC];refine wT 6 zwX ?_ ?_ ?_;rotate_left
          . intro w' hSw;clear hSw;unfold zwX;first|(go_simp;done)|(go_simp;with_reducible rfl)
          simp only[zwX,Act.put,wA,wB,wC];refine wpAnyH_take (i:=7) (oi:=zxx) (v:=(.agg (bc x.b).toArray)) rfl (by kernel_rfl) (by kernel_rfl) (by kernel_rfl) (fun _ _ _ h=>h) (Or.inl ⟨by rfl,fun w' hSw=>zmm _ _ rfl _ rfl _ (zqV hSw.2.2 H64.out)⟩) (by assumption) ?_;simp only[zxx,Act.put,wA,wB,wC];refine wT 8 zwY ?_ ?_ ?_;rotate_left
          . intro w' hSw;clear hSw;unfold zwY;first|(go_simp;done)|(go_simp;with_reducible rfl)
          simp only[zwY,Act.put,wA,wB,wC];refine wpAnyH_ready (rs:=[9]) (by kernel_rfl) (by simp) ?_;refine AllReadyH.cons (o:=zxy) rfl (fun KK hKK => ?_) AllReadyH.nil;rw[if_pos (by kernel_rfl)];refine zdg _ _ _ rfl _ rfl _ rfl _ (zsP TH.out H64.out) ?_;refine hKK.out _ _ ⟨Bk.cell PA.out hHeld.1,Bk.cell AB.out hHeld.2.1,Bk.range AB.out hHeld.2.2⟩ (fun hHeldS => ?_);clear hKK KK hHeldS hHeld;simp only[zxy,Act.put];refine wpAnyH_done (by kernel_rfl) ?_ _;refine NoPanic.normal ?_
          all_goals (go_wp2;go_roundw)
          case rel=>exact⟨k+1,upd f x.k x.b,by omega,by go_num,RA.out.1,RA.out.2,LY.out⟩
          case measure=>simp[intOf];omega
        . obtain rfl:k=n:=by omega
          have e0:f=s.sh:=by
            have:=I.out.2.2;rw[List.drop_of_length_le (by omega),lay] at this;exact this
          subst e0;have R2:=I.out.1.setRow (w1:=wr) (u := .slice none 0 0) (m:=[]) ⟨rfl,rfl,rfl,Nat.le_refl _,fun _ _ _=>rfl⟩ (World.ownsRow_nil _ _ _ _) (fun g e=>by cases e);have FF:Hid (Stp w p (Foot p a b (.slice va k vc)) { zbn s with f:=s.sh,l:=[] } (wr.setCell ⟨p,4,none⟩ (.slice none 0 0))):=by
            refine⟨_,⟨⟨HO.out.n1,HO.out.n2,HO.out.sh64,nofun,HO.out.brn.fu⟩,a,b,_,rfl,R2.1⟩,?_,I.out.2.1.trans (Nx.refl _ _) R2.2.2⟩;exact (Nx.refl w _).trans R2.2.1 I.out.2.1.size
          have c4:=I.out.1.c4;have f4:=I.out.1.fr 4;have HN:Hid (s.l.length=k):=hn;clear I R2 c4' hn c0;go_wp2;go_ret;refine⟨rfl,?_⟩;have e:(zbn s).l.length=k:=HN.out;rw[e];exact FF.out
def IntAt (w:World) (a:Option Addr) (cs:List Int):Prop:=∀i (hi:i < cs.length),∃b o,a=some ⟨b,o,none⟩/\w.cell? ⟨b,o+i,none⟩=some (.int .i64 cs[i])
theorem IntAt.later {W w1:World} {a:Option Addr} {cs:List Int} (h:IntAt W a cs) (hb:Bw W w1):IntAt w1 a cs:=fun i hi=>by
  obtain⟨b,o,e,hc⟩:=h i hi;exact⟨b,o,e,cell_later hb hc⟩
def repAt:Go.Shelf.Ren:=⟨fun x=>if x=99 then 311 else if x=105 then 258 else if x=165 then 312 else if x=166 then 290 else if x=169 then 291 else if x=170 then 313 else if x=206 then 293 else if x=212 then 310 else if x=240 then 340 else if x=241 then 349 else if x=263 then 347 else if x=264 then 348 else if x=276 then 370 else if x=277 then 373 else 0,fun x=>if x=0 then 0 else if x=3 then 3 else if x=4 then 4 else if x=5 then 5 else if x=9 then 9 else if x=20 then 20 else if x=37 then 99 else if x=46 then 124 else if x=51 then 192 else if x=53 then 80 else if x=70 then 346 else if x=72 then 348 else if x=75 then 350 else if x=76 then 351 else if x=80 then 280 else if x=109 then 367 else if x=127 then 247 else if x=146 then 393 else if x=148 then 375 else if x=164 then 408 else 0,fun n=>n⟩
theorem repLies:Lays.n105 Tryz.prog repAt :=
  { mixed:=by kernel_rfl,f99:=by kernel_rfl,f105:=by kernel_rfl,f165:=by kernel_rfl,f166:=by kernel_rfl,f169:=by kernel_rfl,f170:=by kernel_rfl,f206:=by kernel_rfl,f212:=by kernel_rfl,f240:=by kernel_rfl,f241:=by kernel_rfl,f263:=by kernel_rfl,f264:=by kernel_rfl,f276:=by kernel_rfl,f277:=by kernel_rfl,t0:=by kernel_rfl,a0:=fun _=>by kernel_rfl,z0:=fun _=>by kernel_rfl,v0:=fun _=>by kernel_rfl,t3:=by kernel_rfl,a3:=fun _=>by kernel_rfl,z3:=fun _=>by kernel_rfl,v3:=fun _=>by kernel_rfl,t4:=by kernel_rfl,a4:=fun _=>by kernel_rfl,z4:=fun _=>by kernel_rfl,v4:=fun _=>by kernel_rfl,t5:=by kernel_rfl,a5:=fun _=>by kernel_rfl,z5:=fun _=>by kernel_rfl,v5:=fun _=>by kernel_rfl,t9:=by kernel_rfl,a9:=fun _=>by kernel_rfl,z9:=fun _=>by kernel_rfl,v9:=fun _=>by kernel_rfl,t20:=by kernel_rfl,a20:=fun _=>by kernel_rfl,z20:=fun _=>by kernel_rfl,v20:=fun _=>by kernel_rfl,t37:=by kernel_rfl,a37:=fun _=>by kernel_rfl,z37:=fun _=>by kernel_rfl,v37:=fun _=>by kernel_rfl,t46:=by kernel_rfl,a46:=fun _=>by kernel_rfl,z46:=fun _=>by kernel_rfl,v46:=fun _=>by kernel_rfl,t51:=by kernel_rfl,a51:=fun _=>by kernel_rfl,z51:=fun _=>by kernel_rfl,v51:=fun _=>by kernel_rfl,t53:=by kernel_rfl,a53:=fun _=>by kernel_rfl,z53:=fun _=>by kernel_rfl,v53:=fun _=>by kernel_rfl,t70:=by kernel_rfl,a70:=fun _=>by kernel_rfl,z70:=fun _=>by kernel_rfl,v70:=fun _=>by kernel_rfl,t72:=by kernel_rfl,a72:=fun _=>by kernel_rfl,z72:=fun _=>by kernel_rfl,v72:=fun _=>by kernel_rfl,t75:=by kernel_rfl,a75:=fun _=>by kernel_rfl,z75:=fun _=>by kernel_rfl,v75:=fun _=>by kernel_rfl,t76:=by kernel_rfl,a76:=fun _=>by kernel_rfl,z76:=fun _=>by kernel_rfl,v76:=fun _=>by kernel_rfl,t109:=by kernel_rfl,a109:=fun _=>by kernel_rfl,z109:=fun _=>by kernel_rfl,v109:=fun _=>by kernel_rfl,t127:=by kernel_rfl,a127:=fun _=>by kernel_rfl,z127:=fun _=>by kernel_rfl,v127:=fun _=>by kernel_rfl,t146:=by kernel_rfl,a146:=fun _=>by kernel_rfl,z146:=fun _=>by kernel_rfl,v146:=fun _=>by kernel_rfl,t148:=by kernel_rfl,a148:=fun _=>by kernel_rfl,z148:=fun _=>by kernel_rfl,v148:=fun _=>by kernel_rfl,t164:=by kernel_rfl,a164:=fun _=>by kernel_rfl,z164:=fun _=>by kernel_rfl,v164:=fun _=>by kernel_rfl }
theorem repMore:Builder.Extra Tryz.prog repAt :=
  { sizeBuilder:=by kernel_rfl,liesBuilder:=by kernel_rfl,t5:=by kernel_rfl,a5:=fun _=>by kernel_rfl,z5:=fun _=>by kernel_rfl,v5:=fun _=>by kernel_rfl,infoByte:=by kernel_rfl,cellsByte:=by kernel_rfl,sizeByte:=by kernel_rfl,neB5:=by decide }
theorem zsQ (c:UInt8) (n:Nat) (h1:n<=1000) (w:World) :
    Cl 258 #[.string ⟨#[c]⟩,.int .i64 (n:Int)] w fun e w'=>e = .returned (sv (List.replicate n c))/\Bw w w':=by
  have hs:(⟨#[c]⟩:Ba).size=1:=rfl;refine (Any.strings_Repeat repLies repMore ⟨#[c]⟩ n w (by omega) (by rw[hs];omega)).mono fun e w' ⟨he,hb⟩=>⟨?_,hb⟩
  rw[he];have:Lib.repeatL [c] n=List.replicate n c:=by
    simpa using Lib.repeatL_replicate c 1 n
  simp[st,this]
theorem zu0:(Tryz.prog.info? 5).map (fun i=>(i.zero,i.size,i.bytes))=some (some (.int .u8 0),1,1):=by kernel_rfl
end Go.Proofs.YtjcppbhgjchjaaaGreatDoor.Sto
