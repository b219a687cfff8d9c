/- A part of the walk. -/
import Derived.Test.YtjcppbhgjchjaaaGreatDoorZr3G27
import Derived.Lib.AppendZeros
import Derived.Great.BuildSlice
import Derived.Deep.WholeRow
import Derived.Deep.Cut
set_option maxHeartbeats 8000000
set_option maxRecDepth 20000
namespace Go.Proofs.YtjcppbhgjchjaaaGreatDoor.Sto
open Go.RowKit Go.Proofs.Fd Go.Proofs.Dk
theorem znl (w:Wo) (b o cap:Nat) (t:Ba) (ht:t.data.toList.length=64) (hth:w.there b o 64) :
  (Builtin.copy_ #[99, 9] 3 #[.slice (some ⟨b,o,none⟩) 64 cap,.string t]).run Tryz.prog w = .ok (.int .i64 64) (w.setCells b o (bc t.data.toList)):=by
 have hs:t.size=64:=by simpa using ht
 have hst:=run_storeCells_cells (P:=Tryz.prog) b o (bc t.data.toList) 0 w
  (by rw[zaK,ht];intro j hj;simpa using (hth j hj).1) (by rw[zaK,ht];intro j hj;simpa using (hth j hj).2) (zf3 _)
 have hm:Nat.min t.size 64=64:=by rw[hs];rfl
 simp[Builtin.copy_,run_underlying Tryz.underlying99, Builtin.lenOf,Builtin.firstCells,hm];rw[List.take_of_length_le (by rw[List.length_map,ht];exact nL _)];unfold bc at hst;rw[hst];rfl
def ze6:Value := .agg (#[.int .i64 0]++Array.replicate 64 (.int .u8 0))
theorem zgQ:(Tryz.prog.info? 120).map (fun i=>(i.zero,i.size,i.bytes))=some (some ze6,65,72):=by kernel_rfl
theorem znm:∃fs,Tryz.prog.underlying 120 = some (.struct fs)/\fs.toList.mapM (fun f=>(Tryz.prog.info? f.type).map fun i=>(f.offset,i.size))=some [(0,1),(1,64)]:=⟨_,Tryz.underlying120, by kernel_rfl⟩
theorem zeh (place:Nat->Option (Nat×Nat)) (cells:Array Value) (i:Nat) (v:Value) (rest:List (Nat×Value)) (off size:Nat) (hp:place i=some (off,size)) (hs:v.cells.size=size) (hb:off+size<=cells.size) :
  Instr.fill place cells ((i,v)::rest)=Instr.fill place ((v.cells.toList.zipIdx 0).foldl (fun cs (x:Value×Nat)=>cs.setIfInBounds (off+x.2) x.1) cells) rest:=by
 conv=>lhs;unfold Instr.fill
 rw[hp];show (if (decide (v.cells.size≠size) || decide (off+v.cells.size > cells.size))=true then none else _)=_
 rw[if_neg (by rw[hs];simp;omega),<-Array.foldl_toList,Array.toList_zipIdx]
theorem zpf (x:Wt) (hx:x.b.length=64) (z:Array Value) (hz:z.size=65):Instr.fill (fun i=>[(0,1),(1,64)].toArray[i]?) z [(0,.int .i64 (x.k:Int)),(1,.agg (bc x.b).toArray)]=some (wc x).toArray:=by
 have hb:(bc x.b).length=64:=by rw[zaK,hx]
 rw[zeh _ _ _ _ _ 0 1 rfl rfl (by omega)];have h1:=Go.Great.foldl_set 0 (Value.int .i64 (x.k:Int)).cells.toList 0 z;generalize (List.foldl (fun cs (x:Value×Nat)=>cs.setIfInBounds (0+x.2) x.1) z ((Value.int .i64 (x.k:Int)).cells.toList.zipIdx 0))=z1 at h1 ⊢;rw[zeh _ _ _ _ _ 1 64 rfl (by simp[Value.cells,hb]) (by rw[h1.1,hz];omega)];have h2:=Go.Great.foldl_set 1 (Value.agg (bc x.b).toArray).cells.toList 0 z1;generalize (List.foldl (fun cs (x:Value×Nat)=>cs.setIfInBounds (1+x.2) x.1) z1 ((Value.agg (bc x.b).toArray).cells.toList.zipIdx 0))=z2 at h2 ⊢;have e2:(Value.agg (bc x.b).toArray).cells.toList=bc x.b:=rfl;rw[e2,h1.1,hz,hb] at h2;unfold Instr.fill;congr 1;apply Array.ext_getElem?;intro i;have et:(wc x).toArray[i]?=(wc x)[i]?:=by simp
 rw[et,h2.2 i,wc];clear et;cases i with
 | zero =>
  rw[if_neg (by omega),h1.2 0,hz,if_pos ⟨by omega,by simp[Value.cells],by omega⟩];rfl
 | succ i =>
  by_cases hi:i < 64
  ·rw[if_pos (by omega),List.getElem?_cons_succ]
   congr 1
  ·have e1:(Value.int .i64 (x.k:Int)).cells.toList.length=1:=rfl
   rw[if_neg (by omega),List.getElem?_cons_succ,List.getElem?_eq_none (by omega),h1.2 (i+1),e1,if_neg (by omega),Array.getElem?_eq_none (by omega)]
theorem znn (x:Wt) (hx:x.b.length=64) (w:Wo):(Instr.build 120 #[(0,.int .i64 (x.k:Int)),(1,.agg (bc x.b).toArray)]).run Tryz.prog w = .ok (.agg (wc x).toArray) w:=by
 refine run_build w _ _ _ ?_;obtain⟨i0,hi,hz0,hz1,hz2⟩:=info_parts zgQ;obtain⟨fs,hu,hp⟩:=znm;unfold Program.built;simp only[hi,hu,hz0,hp];exact zpf x hx _ (by simp[ze6,Value.cells])
theorem zkS (x:Wt) (hx:x.b.length=64) (w:Wo):(Instr.buildSlice 93 1 #[(0,.agg (wc x).toArray)]).run Tryz.prog w = .ok (.slice (some ⟨w.heap.size,0,none⟩) 1 1) (w.alloc (.cells (wc x).toArray 120)):=by
 obtain⟨i0,hi,hz0,hz1,hz2⟩:=info_parts zgQ;refine run_buildSlice w _ _ 1 _ _ i0 ze6 Tryz.underlying93 hi hz0 (by rw[hz1];decide) (by rw[hz1];decide) ?_;rw[hz1];have:=Go.Great.fill_whole (s:=65) (by decide) [.agg (wc x).toArray] ((Array.range (1*65)).map (ze6.cells[· % ze6.cells.size]!)) (fun v hv=>by
  rw[List.mem_singleton] at hv;subst hv;simp[Value.cells,zbF hx]) (by simp)
 simpa[Value.cells] using this
theorem zqZ (w:Wo) (ty:TypeId) (v:Value) (l:List Wt) (h:zdm w v l) (hl:l.length<=1000000) (x:Wt) (hx:x.b.length=64) (b:Nat) (hc:w.rangeAt b 0 (wc x)) :
  ∃va vc w',(Builtin.append_ #[93, 93] ty #[v,.slice (some ⟨b,0,none⟩) 1 1]).run Tryz.prog w = .ok (.slice va (l++[x]).length vc) w'/\zdm w' (.slice va (l++[x]).length vc) (l++[x])/\w.grownBy w' v.ownBlock/\((Value.slice va (l++[x]).length vc).ownBlock=v.ownBlock\/(Value.slice va (l++[x]).length vc).ownBlock=some w.heap.size):=by
 obtain⟨i0,hi,hz0,hz1,hz2⟩:=info_parts zgQ;obtain⟨v',w',r1,r2,r3,-,r5⟩:=run_append_own_at (P:=Tryz.prog) w 0 93 ty 120 i0 _ 65 72 Tryz.underlying93 hi hz0 hz1 hz2 (by simp[ze6,Value.cells]) (by decide) v l.length (wcs l) h ⟨b,0,none⟩ 1 1 (wc x) (by rw[zbF hx]) (fun j u hu=>by
   rw[Addr.add_mid];exact hc j u hu) (fun u hu=>ze5 [x] u (by simpa[wcs] using hu)) (by unfold maxLen;omega) (by omega) (Nat.zero_le _)
 have r2':zdm w' v' (l++[x]):=by
  unfold zdm;rw[zip,List.length_append]
  simpa[wcs] using r2
 obtain⟨va,vc,rfl⟩:=zbu r2';exact⟨va,vc,w',r1,r2',r3,r5⟩
theorem zis {w:Wo} {b o:Nat} {l:Bs} (h:w.rangeAt b o (bc l)) (hl:l.length=64):(Instr.loadAt 118 (.pointer (some ⟨b,o,none⟩))).run Tryz.prog w = .ok (.agg (bc l).toArray) w:=by
 obtain⟨i0,hi,hz0,hz1,hz2⟩:=info_parts znj;exact run_loadAt_mid w b o _ (bc l) _ h Tryz.underlying118 rfl (by rw[hi,zaK,hl,<-hz1];rfl)
theorem zat {P:Program} {o:Oper} {a:Act} {w:Wo} {K:Act->Wo->Prop} {Q:Exit->Act->Wo->Prop} (t:TypeId) (len:Nat) (parts:Array (Nat×Operand)) (ho:o.op = .buildSlice t len parts) (vs:Array (Nat×Value)) (hv:(parts.map fun (i,x)=>(i,a.eval x))=vs)
  (v:Value) (w':Wo) (hr:(Instr.buildSlice t len vs).run P w = .ok v w') (h:K (a.put o.dst v) w'):o.wp P a w K Q:=by
 unfold Oper.wp execOp;simp only[ho,hv,Sem.run_bind,hr,Result.andThen_ok];exact h
theorem zbg {P:Program} {ops:Array Oper} {S:Wo->Prop} {o:Oper} {a:Act} (hw:Region.wanted o (yielded ops a.tmps)=true) (t:TypeId) (parts:Array (Nat×Operand)) (ho:o.op = .build t parts) (vs:Array (Nat×Value)) (hv:(parts.map fun (i,x)=>(i,a.eval x))=vs)
  (v:Value) (hr:∀w,(Instr.build t vs).run P w = .ok v w):YieldsIf P ops S o v a :=
 .inl ⟨hw,fun w _=>by
  unfold execOp;simp only[ho,hv,Sem.run_bind,hr,Result.andThen_ok];rfl⟩
theorem zaC {P:Program} {o:Oper} {a:Act} {w:Wo} {K:Act->Wo->Prop} {Q:Exit->Act->Wo->Prop} (t:TypeId) (x:Operand) (ho:o.op = .load t x) (u:Value) (hu:a.eval x=u)
  (v:Value) (hr:(Instr.loadAt t u).run P w = .ok v w) (h:K (a.put o.dst v) w):o.wp P a w K Q:=by
 unfold Oper.wp execOp;simp only[ho,hu,Sem.run_bind,hr,Result.andThen_ok];exact h
theorem zaE {P:Program} {o:Oper} {a:Act} {w:Wo} {K:Act->Wo->Prop} {Q:Exit->Act->Wo->Prop} (t:TypeId) (x y:Operand) (ho:o.op = .store t x y) (u:Value) (hu:a.eval x=u) (z:Value) (hz:a.eval y=z)
  (w':Wo) (hr:(Instr.storeAt t u z).run P w = .ok () w') (h:K (a.put o.dst undef) w'):o.wp P a w K Q:=by
 unfold Oper.wp execOp;simp only[ho,hu,hz,Sem.run_bind,hr,Result.andThen_ok];exact h
theorem Raw.wrote {w:Wo} {p:Nat} {s:St} {a b:Nat} {v:Value} {x:Wt} (h:Raw w p s.n s.down s.fuse s.f (upd s.sh x.k x.b) s.l a b v) {w1:Wo} (hg:w.grownBy w1 v.ownBlock) {u:Value} (ho:zdm w1 u (s.l++[x])) (hl:u.ownBlock=v.ownBlock\/u.ownBlock=some w.heap.size) (hk:Ok { s with l:=s.l++[x] }) :
  (∃F',KAt (w1.setCell ⟨p,4,none⟩ u) p F' { s with l:=s.l++[x] }/\Nx w (Foot p a b v) F')/\Bf (Foot p a b v) w (w1.setCell ⟨p,4,none⟩ u):=by
 obtain⟨r1,r2,r3⟩:=h.setRow hg ho (fun g e=>by
  rcases hl with h1|h1
  ·exact .inl (h1.symm.trans e)
  ·rw[h1] at e
   injection e with e
   exact .inr (by omega))
 refine⟨⟨Foot p a b u,⟨hk,a,b,u,rfl,?_⟩,r2⟩,r3⟩;have e:St.sh { s with l:=s.l++[x] }=upd s.sh x.k x.b:=zdl _ _ _;rw[e];exact r1
theorem zit (W:Wo) (p n:Nat) (dn:Bool) (fu:Nat) (f:Nat->Bs) (l:List Wt) (a b:Nat) (v:Value) (x:Wt) (R:Raw W p n dn fu f (upd (lay f l) x.k x.b) l a b v) (hl:l.length<=1000000) (hx:x.b.length=64) (hk:Ok ⟨n,f,l++[x],fu,dn⟩) :
  ∃va vc w',(Builtin.append_ #[93, 93] 93 #[v,.slice (some ⟨W.heap.size,0,none⟩) 1 1]).run Tryz.prog (W.alloc (.cells (wc x).toArray 120)) = .ok (.slice va (l++[x]).length vc) w'
   /\ w'.cell? ⟨p,4,none⟩=some v/\w'.frozen? ⟨p,4,none⟩=false
   /\ (∃F',KAt (w'.setCell ⟨p,4,none⟩ (.slice va (l++[x]).length vc)) p F' ⟨n,f,l++[x],fu,dn⟩/\Nx W (Foot p a b v) F')/\Bf (Foot p a b v) W (w'.setCell ⟨p,4,none⟩ (.slice va (l++[x]).length vc)):=by
 have nb:Bw W (W.alloc (.cells (wc x).toArray 120)):=(bQ _ _).alloc (nL _) _;have R1:=R.later nb;obtain⟨va,vc,w',r1,r2,r3,r4⟩:=zqZ (W.alloc (.cells (wc x).toArray 120)) 93 v l R1.row hl x hx W.heap.size (fun j u hu=>by
  rw[Nat.zero_add,World.cell?_alloc_new]
  simpa using hu)
 have hp:w'.heap[p]?=_:=r3.block p (R1.lt (.inl rfl)) (fun e=>R1.pv e.symm);have:=Raw.wrote (s:=⟨n,f,l,fu,dn⟩) R1 r3 r2 r4 hk;obtain⟨⟨F',k1,k2⟩,k3⟩:=this;exact⟨va,vc,w',r1,(World.cell?_of_block (a:=⟨p,4,none⟩) hp).trans R1.c4,(World.frozen?_of_block (a:=⟨p,4,none⟩) hp).trans (R1.fr 4),⟨F',k1,(Nx.refl W _).trans k2 nb.size⟩,(Bf.of nb).trans (Nx.refl _ _) k3⟩
def opw0:Oper:={ dst:=some 28,op := .move (.tmp 0),type := 31, pos := "disk.go:68", after:=#[],guard:=none }
def opw1:Oper:={ dst:=some 29,op := .move (.tmp 0),type := 31, pos := "disk.go:68", after:=#[],guard:=none }
def opw2:Oper:={ dst:=some 30,op := .nilCheck (.tmp 29),type:=0,pos := "disk.go:68", after:=#[eD 1],guard:=none }
def opw3:Oper:={ dst:=some 31,op := .fieldAddr 95 (.tmp 30) 4,type:=0,pos := "disk.go:68", after:=#[eD 2],guard:=none }
def opw4:Oper:={ dst:=some 32,op := .load 93 (.tmp 31),type := 93, pos := "disk.go:68", after:=#[eD 3],guard:=none }
def opw5:Oper:={ dst:=some 33,op := .move (.tmp 1),type := 3, pos := "disk.go:68", after:=#[],guard:=none }
def opw6:Oper:={ dst:=some 34,op := .move (.tmp 0),type := 31, pos := "disk.go:68", after:=#[],guard:=none }
def opw7:Oper:={ dst:=some 35,op := .nilCheck (.tmp 34),type:=0,pos := "disk.go:68", after:=#[eD 6],guard:=none }
def opw8:Oper:={ dst:=some 36,op := .fieldAddr 95 (.tmp 35) 3,type:=0,pos := "disk.go:68", after:=#[eD 7],guard:=none }
def opw9:Oper:={ dst:=some 37,op := .load 92 (.tmp 36),type := 92, pos := "disk.go:68", after:=#[eD 8],guard:=none }
def zno:Oper:={ dst:=some 38,op := .move (.tmp 1),type := 3, pos := "disk.go:68", after:=#[],guard:=none }
def zgR:Oper:={ dst:=some 39,op := .indexAddr 92 (.tmp 37) (.tmp 38),type:=0,pos := "disk.go:68", after:=#[eD 9,eD 10],guard:=none }
def zgS:Oper:={ dst:=some 40,op := .load 118 (.tmp 39),type := 118, pos := "disk.go:68", after:=#[eD 11],guard:=none }
def zgT:Oper:={ dst:=some 41,op := .build 120 #[(0,Go.Operand.tmp 33),(1,Go.Operand.tmp 40)],type := 120, pos := "disk.go:68", after:=#[eD 5,eD 12],guard:=none }
def zei:Oper:={ dst:=some 42,op := .buildSlice 93 1 #[(0,Go.Operand.tmp 41)],type := 93, pos := "disk.go:68", after:=#[eD 13],guard:=none }
def zej:Oper:={ dst:=some 43,op := .call { callee:=Go.Callee.builtin Go.Builtin.append,args:=#[Go.Operand.tmp 32,Go.Operand.tmp 42],argTypes:=#[93, 93] },type := 93, pos := "disk.go:68", after:=#[eD 4,eD 14],guard:=none }
def zb5:Oper:={ dst:=some 44,op := .nilCheck (.tmp 28),type:=0,pos := "disk.go:68", after:=#[eD 0,eP 0,eP 1,eP 2,eP 3,eP 4,eP 5,eP 6,eP 7,eP 8,eP 9,eP 10,eP 11,eP 12,eP 13,eP 14,eP 15],guard:=none }
def zb6:Oper:={ dst:=some 45,op := .fieldAddr 95 (.tmp 44) 4,type:=0,pos := "disk.go:68", after:=#[eD 16,eP 0,eP 1,eP 2,eP 3,eP 4,eP 5,eP 6,eP 7,eP 8,eP 9,eP 10,eP 11,eP 12,eP 13,eP 14,eP 15],guard:=none }
def zek:Oper:={ dst:=none,op := .store 93 (.tmp 45) (.tmp 43),type:=0,pos := "disk.go:68", after:=#[eD 17,eD 15,eC 15,eP 0,eP 1,eP 2,eP 3,eP 4,eP 5,eP 6,eP 7,eP 8,eP 9,eP 10,eP 11,eP 12,eP 13,eP 14,eP 15],guard:=none }
theorem zel {s:St} {k:Int} {t:Bs} (h:rch s k≠0):wrE s k t=rch s k/\wrS s k t=s:=⟨if_pos h,if_pos h⟩
theorem zf4 {s:St} {k:Int} {t:Bs} (h:rch s k=0) (h1:t.length≠64):wrE s k t=3/\wrS s k t=s:=by
 unfold wrE wrS;have a:¬rch s k≠0:=by simp[h]
 rw[if_neg a,if_neg a,if_pos h1,if_pos h1];exact⟨rfl,rfl⟩
theorem zf5 {s:St} {k:Int} {t:Bs} (h:rch s k=0) (h1:t.length=64) (h2:s.fuse=1):wrE s k t=150/\wrS s k t=zaR s:=by
 unfold wrE wrS;have a:¬rch s k≠0:=by simp[h]
 have b:¬t.length≠64:=by simp[h1]
 rw[if_neg a,if_neg a,if_neg b,if_neg b,if_pos h2,if_pos h2];exact⟨rfl,rfl⟩
theorem ziu {s:St} {k:Int} {t:Bs} (h:rch s k=0) (h1:t.length=64) (h2:s.fuse≠1):wrE s k t=0/\wrS s k t={ zaR s with l:=s.l++[⟨k.toNat,t⟩] }:=by
 unfold wrE wrS;have a:¬rch s k≠0:=by simp[h]
 have b:¬t.length≠64:=by simp[h1]
 rw[if_neg a,if_neg a,if_neg b,if_neg b,if_neg h2,if_neg h2];exact⟨rfl,rfl⟩
theorem ziv (p:Nat) (F:Nat->Prop) (s:St) (k:Int) (t:Ba) (w:Wo) (h:KAt w p F s) (hl:s.l.length<=1000000) :
  Cl 292 #[.pointer (some ⟨p,0,none⟩),.int .i64 k,.string t] w fun e w'=>e = .returned (.int .i64 (wrE s k t.data.toList))/\Stp w p F (wrS s k t.data.toList) w':=by
 have RC:Hid _:=zee p F s k w h;have ts:t.data.toList.length=t.size:=by simp
 rcases zef s k with ⟨h0,hd,hk0,hk1⟩|hne
 ·by_cases h64:t.data.toList.length=64
  ·by_cases hf:s.fuse=1
   ·rw[(zf5 h0 h64 hf).1,(zf5 h0 h64 hf).2]
    have BN:Hid _:=zdn p F s hd w h;rw[h0] at RC;have e1:decide (s.fuse=1)=true:=decide_eq_true hf;have hsz:t.size=64:=by omega
    rw[e1] at BN;clear h hd hk0 hk1 hf e1 h64 h0 ts hl;go_enter Tryz.func292, Tryz.ntmps292;go_wp2_with fail;refine cM RC.out ?_;rintro e w1 ⟨rfl,rfl⟩;go_wp2_with fail;refine cM BN.out ?_;rintro e w2 ⟨rfl,h1,h2⟩;have FF:Hid (Stp w1 p F (zaR s) w2):=⟨F,h1,Nx.refl _ _,h2⟩;clear h1 h2 BN RC;go_wp2;go_ret;exact⟨rfl,FF.out⟩
   ·have hkk:Ok (wrS s k t.data.toList):=h.1.wr k _
    rw[(ziu h0 h64 hf).2] at hkk;rw[(ziu h0 h64 hf).1,(ziu h0 h64 hf).2];have HK:Hid _:=hkk;have BN:Hid _:=zdn p F s hd w h;rw[h0] at RC;have e1:decide (s.fuse=1)=false:=decide_eq_false hf;have hsz:t.size=64:=by omega
    rw[e1] at BN;have H64:Hid (t.data.toList.length=64):=h64;have HL:Hid (s.l.length<=1000000):=hl;obtain⟨m,rfl⟩:∃m:Nat,k=(m:Int):=⟨k.toNat,by omega⟩;rw[Int.toNat_natCast] at HK ⊢;clear h hd hk0 hf e1 h64 h0 ts hl hkk;go_enter Tryz.func292, Tryz.ntmps292;go_wp2_with fail;refine cM RC.out ?_;rintro e w0 ⟨rfl,rfl⟩;go_wp2_with fail;refine cM BN.out ?_;rintro e w1 ⟨rfl,h1,h2⟩;obtain⟨ho,a,b,v,rfl,hr⟩:=h1;clear BN RC;obtain⟨n,hn⟩:∃n,s.n=n:=⟨_,rfl⟩;have hn2:(zaR s).n=n:=hn;have hr0:=hr;rw[hn2] at hr0;have hm:m < n:=by omega
    have c3:=hr0.c3;have CP:=znl w1 b (m*64) 64 t H64.out (hr0.sb.there hm);have Z1:Hid (Bf (Foot p a b v) w0 w1):=h2;have R1:Hid (Raw (w1.setCells b (m*64) (bc t.data.toList)) p (zaR s).n (zaR s).down (zaR s).fuse (zaR s).f (upd (zaR s).sh m t.data.toList) (zaR s).l a b v/\Bf (Foot p a b v) w0 (w1.setCells b (m*64) (bc t.data.toList))):=⟨hr.wholeB (by rw[hn2];exact hm) H64.out,h2.trans (Nx.refl _ _) (Bf.sets _ b (.inr (.inr (.inl rfl))) _ _ _)⟩;rw[hn] at hk1;clear hr hr0 ho h2;go_wp2_with fail;obtain⟨W,hW⟩:∃W,w1.setCells b (m*64) (bc t.data.toList)=W:=⟨_,rfl⟩;rw[hW] at R1 ⊢;clear hW CP Z1 c3;have AA:=zit W.drew p (zaR s).n (zaR s).down (zaR s).fuse (zaR s).f s.l a b v ⟨m,t.data.toList⟩ (R1.out.1.later (bQ _ _).drew) HL.out H64.out HK.out;obtain⟨va,vc,w',hrun,sc',sf',⟨F',k1,k2⟩,k3⟩:=AA;have HB:Bf (Foot p a b v) w0 W.drew:=R1.out.2.later (bQ _ _).drew;have FF:Hid (Stp w0 p (Foot p a b v) _ _):=⟨F',k1,(Nx.refl w0 _).trans k2 HB.size,HB.trans (Nx.refl _ _) k3⟩;have SC:Hid (w'.cell? ⟨p,4,none⟩=some v/\w'.frozen? ⟨p,4,none⟩=false):=⟨sc',sf'⟩;have c3:=R1.out.1.c3;have c4:=R1.out.1.c4;rw[hn2] at c3;have RG:=R1.out.1.sb.at_ m (by rw[hn2];exact hm);rw[upd_same] at RG;obtain⟨L,hL⟩:∃L,(s.l++[(⟨m,t.data.toList⟩:Wt)]).length=L:=⟨_,rfl⟩;rw[hL] at hrun FF;obtain⟨bs,hbs⟩:∃bs:Bs,t.data.toList=bs:=⟨_,rfl⟩;rw[hbs] at RG H64 hrun;have HR:Hid _:=hrun
    have BD:Hid (∀w',(Instr.build 120 #[(0,.int .i64 (m:Int)),(1,.agg (bc bs).toArray)]).run Tryz.prog w' = .ok (.agg (wc ⟨m,bs⟩).toArray) w'):=znn ⟨m,bs⟩ H64.out;have BS:Hid _:=zkS ⟨m,bs⟩ H64.out;have LD:Hid (∀w',w'.rangeAt b (m*64) (bc bs)->(Instr.loadAt 118 (.pointer (some ⟨b,m*64,none⟩))).run Tryz.prog w' = .ok (.agg (bc bs).toArray) w'):=fun w' hh=>zis hh H64.out
    obtain⟨Z,hZ⟩:∃Z,W.drew=Z:=⟨_,rfl⟩;have C3:Hid (Z.cell? ⟨p,3,none⟩=some (.slice (some ⟨b,0,none⟩) n n)):=by rw[<-hZ];exact c3
    have C4:Hid (Z.cell? ⟨p,4,none⟩=some v):=by rw[<-hZ];exact c4
    have C5:Hid (Z.rangeAt b (m*64) (bc bs)):=by rw[<-hZ];exact RG
    clear R1 hL hbs hrun k1 k2 k3 HB sc' sf' c3 c4 RG HK H64 HL;refine wp_region_noPanic ?_;refine wp_region_held_drew (S:=fun _=>True) (by kernel_rfl) (trivial) (fun hHeld => ?_);rw[hZ];rw[hZ] at HR;clear hZ;refine wT 0 opw0 ?_ ?_ ?_;rotate_left
    ·intro w' hSw;clear hSw;unfold opw0;first|(go_simp;done)|(go_simp;with_reducible rfl)
    simp only[opw0,Act.put,wA,wB,wC];refine wT 1 opw1 ?_ ?_ ?_;rotate_left
    ·intro w' hSw;clear hSw;unfold opw1;first|(go_simp;done)|(go_simp;with_reducible rfl)
    simp only[opw1,Act.put,wA,wB,wC];refine wT 2 opw2 ?_ ?_ ?_;rotate_left
    ·intro w' hSw;clear hSw;unfold opw2;first|(go_simp;done)|(go_simp;with_reducible rfl)
    simp only[opw2,Act.put,wA,wB,wC];refine wT 3 opw3 ?_ ?_ ?_;rotate_left
    ·intro w' hSw;clear hSw;unfold opw3;first|(go_simp;done)|(go_simp;with_reducible rfl)
    simp only[opw3,Act.put,wA,wB,wC];refine wT 5 opw5 ?_ ?_ ?_;rotate_left
    ·intro w' hSw;clear hSw;unfold opw5;first|(go_simp;done)|(go_simp;with_reducible rfl)
    simp only[opw5,Act.put,wA,wB,wC];refine wT 6 opw6 ?_ ?_ ?_;rotate_left
    ·intro w' hSw;clear hSw;unfold opw6;first|(go_simp;done)|(go_simp;with_reducible rfl)
    simp only[opw6,Act.put,wA,wB,wC];refine wT 7 opw7 ?_ ?_ ?_;rotate_left
    ·intro w' hSw;clear hSw;unfold opw7;first|(go_simp;done)|(go_simp;with_reducible rfl)
    simp only[opw7,Act.put,wA,wB,wC];refine wT 8 opw8 ?_ ?_ ?_;rotate_left
    ·intro w' hSw;clear hSw;unfold opw8;first|(go_simp;done)|(go_simp;with_reducible rfl)
    simp only[opw8,Act.put,wA,wB,wC];refine wT 10 zno ?_ ?_ ?_;rotate_left
    ·intro w' hSw;clear hSw;unfold zno;first|(go_simp;done)|(go_simp;with_reducible rfl)
    simp only[zno,Act.put,wA,wB,wC];refine wpAnyH_ready (rs:=[4,9]) (by kernel_rfl) (by simp) ?_;refine AllReadyH.cons (o:=opw4) rfl (fun KK hKK => ?_) (AllReadyH.cons (o:=opw9) rfl (fun KK hKK => ?_) AllReadyH.nil)
    ·have lc:=C4.out
     unfold opw4;go_simp;refine hKK.out _ _ trivial (fun hHeld4 => ?_);clear hKK KK lc;refine wpAnyH_ready (rs:=[9]) (by kernel_rfl) (by simp) ?_;refine AllReadyH.cons (o:=opw9) rfl (fun KK hKK => ?_) AllReadyH.nil;have lc:=C3.out;unfold opw9;go_simp;refine hKK.out _ _ trivial (fun hHeld9 => ?_);clear hKK KK lc;refine wT 11 zgR ?_ ?_ ?_;rotate_left
     ·intro w' hSw;clear hSw;unfold zgR;first|(go_simp;done)|(go_simp;with_reducible rfl)
     simp only[zgR,Act.put,wA,wB,wC];refine wpAnyH_ready (rs:=[12]) (by kernel_rfl) (by simp) ?_;refine AllReadyH.cons (o:=zgS) rfl (fun KK hKK => ?_) AllReadyH.nil;rw[if_pos (by kernel_rfl)];refine zaC _ _ rfl _ rfl _ (LD.out _ C5.out) ?_;refine hKK.out _ _ trivial (fun hHeld12 => ?_);clear hKK KK;simp only[zgS,Act.put,wA,wB,wC];refine wpAnyH_take (i:=13) (oi:=zgT) (v:=(.agg (wc ⟨m,bs⟩).toArray)) rfl (by kernel_rfl) (by kernel_rfl) (by kernel_rfl) (fun _ _ _ h=>h) (zbg (by rfl) _ _ rfl #[(0,.int .i64 (m:Int)),(1,.agg (bc bs).toArray)] (by simp only[List.map_toArray,List.map_cons,List.map_nil];rfl) _ BD.out) (by assumption) ?_;simp only[zgT,Act.put,wA,wB,wC];refine wpAnyH_ready (rs:=[14]) (by kernel_rfl) (by simp) ?_;refine AllReadyH.cons (o:=zei) rfl (fun KK hKK => ?_) AllReadyH.nil;rw[if_pos (by kernel_rfl)];refine zat _ _ _ rfl #[(0,.agg (wc ⟨m,bs⟩).toArray)] (by simp only[List.map_toArray,List.map_cons,List.map_nil];rfl) _ _ (BS.out Z) ?_;refine hKK.out _ _ trivial (fun hHeld14 => ?_);clear hKK KK;simp only[zei,Act.put,wA,wB,wC];refine wpAnyH_ready (rs:=[15]) (by kernel_rfl) (by simp) ?_;refine AllReadyH.cons (o:=zej) rfl (fun KK hKK => ?_) AllReadyH.nil;have hr:=HR.out;rw[if_pos (by kernel_rfl)];refine Go.Lib.wp_append_run _ _ _ _ _ rfl _ _ rfl rfl _ _ hr ?_;refine hKK.out _ _ trivial (fun hHeldA => ?_);clear hKK KK hr;simp only[zej,Act.put,wA,wB,wC];refine wT 16 zb5 ?_ ?_ ?_;rotate_left
     ·intro w' hSw;clear hSw;unfold zb5;first|(go_simp;done)|(go_simp;with_reducible rfl)
     simp only[zb5,Act.put,wA,wB,wC];refine wT 17 zb6 ?_ ?_ ?_;rotate_left
     ·intro w' hSw;clear hSw;unfold zb6;first|(go_simp;done)|(go_simp;with_reducible rfl)
     simp only[zb6,Act.put,wA,wB,wC];refine wpAnyH_ready (rs:=[18]) (by kernel_rfl) (by simp) ?_;refine AllReadyH.cons (o:=zek) rfl (fun KK hKK => ?_) AllReadyH.nil;have sc:=SC.out.1;have sf:=SC.out.2;unfold zek;go_simp;refine hKK.out _ _ trivial (fun hHeldS => ?_);clear hKK KK sc sf;refine wpAnyH_done (by kernel_rfl) ?_ _;refine NoPanic.normal ?_;go_wp2;go_ret;exact⟨rfl,FF.out⟩
    ·have lc:=C3.out
     unfold opw9;go_simp;refine hKK.out _ _ trivial (fun hHeld9 => ?_);clear hKK KK lc;refine wT 11 zgR ?_ ?_ ?_;rotate_left
     ·intro w' hSw;clear hSw;unfold zgR;first|(go_simp;done)|(go_simp;with_reducible rfl)
     simp only[zgR,Act.put,wA,wB,wC];refine wpAnyH_ready (rs:=[4,12]) (by kernel_rfl) (by simp) ?_;refine AllReadyH.cons (o:=opw4) rfl (fun KK hKK => ?_) (AllReadyH.cons (o:=zgS) rfl (fun KK hKK => ?_) AllReadyH.nil)
     ·have lc:=C4.out
      unfold opw4;go_simp;refine hKK.out _ _ trivial (fun hHeld4 => ?_);clear hKK KK lc;refine wpAnyH_ready (rs:=[12]) (by kernel_rfl) (by simp) ?_;refine AllReadyH.cons (o:=zgS) rfl (fun KK hKK => ?_) AllReadyH.nil;rw[if_pos (by kernel_rfl)];refine zaC _ _ rfl _ rfl _ (LD.out _ C5.out) ?_;refine hKK.out _ _ trivial (fun hHeld12 => ?_);clear hKK KK;simp only[zgS,Act.put,wA,wB,wC];refine wpAnyH_take (i:=13) (oi:=zgT) (v:=(.agg (wc ⟨m,bs⟩).toArray)) rfl (by kernel_rfl) (by kernel_rfl) (by kernel_rfl) (fun _ _ _ h=>h) (zbg (by rfl) _ _ rfl #[(0,.int .i64 (m:Int)),(1,.agg (bc bs).toArray)] (by simp only[List.map_toArray,List.map_cons,List.map_nil];rfl) _ BD.out) (by assumption) ?_;simp only[zgT,Act.put,wA,wB,wC];refine wpAnyH_ready (rs:=[14]) (by kernel_rfl) (by simp) ?_;refine AllReadyH.cons (o:=zei) rfl (fun KK hKK => ?_) AllReadyH.nil;rw[if_pos (by kernel_rfl)];refine zat _ _ _ rfl #[(0,.agg (wc ⟨m,bs⟩).toArray)] (by simp only[List.map_toArray,List.map_cons,List.map_nil];rfl) _ _ (BS.out Z) ?_;refine hKK.out _ _ trivial (fun hHeld14 => ?_);clear hKK KK;simp only[zei,Act.put,wA,wB,wC];refine wpAnyH_ready (rs:=[15]) (by kernel_rfl) (by simp) ?_;refine AllReadyH.cons (o:=zej) rfl (fun KK hKK => ?_) AllReadyH.nil;have hr:=HR.out;rw[if_pos (by kernel_rfl)];refine Go.Lib.wp_append_run _ _ _ _ _ rfl _ _ rfl rfl _ _ hr ?_;refine hKK.out _ _ trivial (fun hHeldA => ?_);clear hKK KK hr;simp only[zej,Act.put,wA,wB,wC];refine wT 16 zb5 ?_ ?_ ?_;rotate_left
      ·intro w' hSw;clear hSw;unfold zb5;first|(go_simp;done)|(go_simp;with_reducible rfl)
      simp only[zb5,Act.put,wA,wB,wC];refine wT 17 zb6 ?_ ?_ ?_;rotate_left
      ·intro w' hSw;clear hSw;unfold zb6;first|(go_simp;done)|(go_simp;with_reducible rfl)
      simp only[zb6,Act.put,wA,wB,wC];refine wpAnyH_ready (rs:=[18]) (by kernel_rfl) (by simp) ?_;refine AllReadyH.cons (o:=zek) rfl (fun KK hKK => ?_) AllReadyH.nil;have sc:=SC.out.1;have sf:=SC.out.2;unfold zek;go_simp;refine hKK.out _ _ trivial (fun hHeldS => ?_);clear hKK KK sc sf;refine wpAnyH_done (by kernel_rfl) ?_ _;refine NoPanic.normal ?_;go_wp2;go_ret;exact⟨rfl,FF.out⟩
     ·rw[if_pos (by kernel_rfl)]
      refine zaC _ _ rfl _ rfl _ (LD.out _ C5.out) ?_;refine hKK.out _ _ trivial (fun hHeld12 => ?_);clear hKK KK;simp only[zgS,Act.put,wA,wB,wC];refine wpAnyH_take (i:=13) (oi:=zgT) (v:=(.agg (wc ⟨m,bs⟩).toArray)) rfl (by kernel_rfl) (by kernel_rfl) (by kernel_rfl) (fun _ _ _ h=>h) (zbg (by rfl) _ _ rfl #[(0,.int .i64 (m:Int)),(1,.agg (bc bs).toArray)] (by simp only[List.map_toArray,List.map_cons,List.map_nil];rfl) _ BD.out) (by assumption) ?_;simp only[zgT,Act.put,wA,wB,wC];refine wpAnyH_ready (rs:=[4,14]) (by kernel_rfl) (by simp) ?_;refine AllReadyH.cons (o:=opw4) rfl (fun KK hKK => ?_) (AllReadyH.cons (o:=zei) rfl (fun KK hKK => ?_) AllReadyH.nil)
      ·have lc:=C4.out
       unfold opw4;go_simp;refine hKK.out _ _ trivial (fun hHeld4 => ?_);clear hKK KK lc;refine wpAnyH_ready (rs:=[14]) (by kernel_rfl) (by simp) ?_;refine AllReadyH.cons (o:=zei) rfl (fun KK hKK => ?_) AllReadyH.nil;rw[if_pos (by kernel_rfl)];refine zat _ _ _ rfl #[(0,.agg (wc ⟨m,bs⟩).toArray)] (by simp only[List.map_toArray,List.map_cons,List.map_nil];rfl) _ _ (BS.out Z) ?_;refine hKK.out _ _ trivial (fun hHeld14 => ?_);clear hKK KK;simp only[zei,Act.put,wA,wB,wC];refine wpAnyH_ready (rs:=[15]) (by kernel_rfl) (by simp) ?_;refine AllReadyH.cons (o:=zej) rfl (fun KK hKK => ?_) AllReadyH.nil;have hr:=HR.out;rw[if_pos (by kernel_rfl)];refine Go.Lib.wp_append_run _ _ _ _ _ rfl _ _ rfl rfl _ _ hr ?_;refine hKK.out _ _ trivial (fun hHeldA => ?_);clear hKK KK hr;simp only[zej,Act.put,wA,wB,wC];refine wT 16 zb5 ?_ ?_ ?_;rotate_left
       ·intro w' hSw;clear hSw;unfold zb5;first|(go_simp;done)|(go_simp;with_reducible rfl)
       simp only[zb5,Act.put,wA,wB,wC];refine wT 17 zb6 ?_ ?_ ?_;rotate_left
       ·intro w' hSw;clear hSw;unfold zb6;first|(go_simp;done)|(go_simp;with_reducible rfl)
       simp only[zb6,Act.put,wA,wB,wC];refine wpAnyH_ready (rs:=[18]) (by kernel_rfl) (by simp) ?_;refine AllReadyH.cons (o:=zek) rfl (fun KK hKK => ?_) AllReadyH.nil;have sc:=SC.out.1;have sf:=SC.out.2;unfold zek;go_simp;refine hKK.out _ _ trivial (fun hHeldS => ?_);clear hKK KK sc sf;refine wpAnyH_done (by kernel_rfl) ?_ _;refine NoPanic.normal ?_;go_wp2;go_ret;exact⟨rfl,FF.out⟩
      ·rw[if_pos (by kernel_rfl)]
       refine zat _ _ _ rfl #[(0,.agg (wc ⟨m,bs⟩).toArray)] (by simp only[List.map_toArray,List.map_cons,List.map_nil];rfl) _ _ (BS.out Z) ?_;refine hKK.out _ _ trivial (fun hHeld14 => ?_);clear hKK KK;simp only[zei,Act.put,wA,wB,wC];refine wpAnyH_ready (rs:=[4]) (by kernel_rfl) (by simp) ?_;refine AllReadyH.cons (o:=opw4) rfl (fun KK hKK => ?_) AllReadyH.nil;have lc:=(zab (o:=(.cells (wc ⟨m,bs⟩).toArray 120)) C4.out);unfold opw4;go_simp;refine hKK.out _ _ trivial (fun hHeld4 => ?_);clear hKK KK lc;refine wpAnyH_ready (rs:=[15]) (by kernel_rfl) (by simp) ?_;refine AllReadyH.cons (o:=zej) rfl (fun KK hKK => ?_) AllReadyH.nil;have hr:=HR.out;rw[if_pos (by kernel_rfl)];refine Go.Lib.wp_append_run _ _ _ _ _ rfl _ _ rfl rfl _ _ hr ?_;refine hKK.out _ _ trivial (fun hHeldA => ?_);clear hKK KK hr;simp only[zej,Act.put,wA,wB,wC];refine wT 16 zb5 ?_ ?_ ?_;rotate_left
       ·intro w' hSw;clear hSw;unfold zb5;first|(go_simp;done)|(go_simp;with_reducible rfl)
       simp only[zb5,Act.put,wA,wB,wC];refine wT 17 zb6 ?_ ?_ ?_;rotate_left
       ·intro w' hSw;clear hSw;unfold zb6;first|(go_simp;done)|(go_simp;with_reducible rfl)
       simp only[zb6,Act.put,wA,wB,wC];refine wpAnyH_ready (rs:=[18]) (by kernel_rfl) (by simp) ?_;refine AllReadyH.cons (o:=zek) rfl (fun KK hKK => ?_) AllReadyH.nil;have sc:=SC.out.1;have sf:=SC.out.2;unfold zek;go_simp;refine hKK.out _ _ trivial (fun hHeldS => ?_);clear hKK KK sc sf;refine wpAnyH_done (by kernel_rfl) ?_ _;refine NoPanic.normal ?_;go_wp2;go_ret;exact⟨rfl,FF.out⟩
  ·rw[(zf4 h0 h64).1,(zf4 h0 h64).2]
   have FF:Hid (Stp w p F s w):=h.stays (bQ _ _);rw[h0] at RC;have hsz:¬(t.size:Int)=64:=by omega
   clear h hd hk0 hk1 h64 h0 ts hl;go_enter Tryz.func292, Tryz.ntmps292;go_wp2_with (go_at_call 339;refine cM RC.out ?_;rintro e w1 ⟨rfl,rfl⟩);go_ret;exact⟨rfl,FF.out⟩
 ·rw[(zel hne).1,(zel hne).2]
  have FF:Hid (Stp w p F s w):=h.stays (bQ _ _);obtain⟨x,hx⟩:∃x,rch s k=x:=⟨_,rfl⟩;rw[hx] at RC hne ⊢;clear h hx ts hl;go_enter Tryz.func292, Tryz.ntmps292;go_wp2_with (go_at_call 339;refine cM RC.out ?_;rintro e w1 ⟨rfl,rfl⟩);go_ret;exact⟨rfl,FF.out⟩
theorem zdq {w:Wo} {va:Option Addr} {n vc:Nat} {l:List Wt} (h:zdm w (.slice va n vc) l) (h64:∀x∈l,x.b.length=64) (k:Nat) (hk:k < l.length):∃g,va=some ⟨g,0,none⟩/\w.rangeAt g (k*65) (wc l[k]):=by
 rcases h.2 with ⟨h1,h2⟩|⟨g,cap,cur,h1,-⟩
 ·omega
 ·have h1':=h1
  injection h1' with e1 e2 e3
  subst e1;subst e2;refine⟨g,rfl,fun j u hu => ?_⟩;have hj:j < 65:=by
   have:=(List.getElem?_eq_some_iff.1 hu).1;rw[zbF (h64 _ (List.getElem_mem hk))] at this;exact this
  rw[h.cellAt (k*65+j) (by omega),zlW l h64 k hk j hj,hu]
theorem ziw {w:Wo} {b o:Nat} {x:Wt} (h:w.rangeAt b o (wc x)) (hl:x.b.length=64):(Instr.loadAt 120 (.pointer (some ⟨b,o,none⟩))).run Tryz.prog w = .ok (.agg (wc x).toArray) w:=by
 obtain⟨i0,hi,hz0,hz1,hz2⟩:=info_parts zgQ;exact run_loadAt_mid w b o _ (wc x) _ h Tryz.underlying120 rfl (by rw[hi,zbF hl,<-hz1];rfl)
theorem ze7 (w:Wo):(Instr.alloc 120 true (.tuple #[])).run Tryz.prog w = .ok (.pointer (some ⟨w.heap.size,0,none⟩)) (w.alloc (.cells (#[.int .i64 0]++Array.replicate 64 (.int .u8 0)) 120)):=by
 obtain⟨i0,hi,hz0,hz1,hz2⟩:=info_parts zgQ;simp[Instr.alloc,newVar,newRow,zeroValue,typeInfo,hi,hz0,ze6,Value.cells]
theorem zcm (x:Wt) (hx:x.b.length=64) (w:Wo):(Instr.storeAt 120 (.pointer (some ⟨w.heap.size,0,none⟩)) (.agg (wc x).toArray)).run Tryz.prog (w.alloc (.cells (#[.int .i64 0]++Array.replicate 64 (.int .u8 0)) 120)) = .ok () (w.alloc (.cells (wc x).toArray 120)):=by
 obtain⟨i0,hi,hz0,hz1,hz2⟩:=info_parts zgQ;refine run_storeAt_new w _ _ _ (by rw[hi];simp[hz1,zbF hx]) (by simp[zbF hx]) (all_oneCell_toArray (fun v hv=>ze5 [x] v (by simpa[wcs] using hv)))
theorem zbh {P:Program} {o:Oper} {a:Act} {w:Wo} {K:Act->Wo->Prop} {Q:Exit->Act->Wo->Prop} (t:TypeId) (ho:o.op = .alloc t)
  (v:Value) (w':Wo) (hr:(Instr.alloc t true (.tuple #[])).run P w = .ok v w') (h:K (a.put o.dst v) w'):o.wp P a w K Q:=by
 unfold Oper.wp execOp;simp only[ho,Sem.run_bind,hr,Result.andThen_ok];exact h
theorem znp (x:Wt) (w:Wo):(w.alloc (.cells (wc x).toArray 120)).cell? ⟨w.heap.size,0,none⟩=some (.int .i64 (x.k:Int))/\(w.alloc (.cells (wc x).toArray 120)).rangeAt w.heap.size 1 (bc x.b):=by
 refine⟨by rw[World.cell?_alloc_new];simp[wc],fun j u hu => ?_⟩;rw[World.cell?_alloc_new,Nat.add_comm]
 simpa[wc] using hu
theorem zem {P:Program} {o:Oper} {a:Act} {w:Wo} (t:TypeId) (x:Operand) (ho:o.op = .load t x) (u:Value) (hu:a.eval x=u) (v:Value) (hr:(Instr.loadAt t u).run P w = .ok v w):(execOp a.eval o).run P w = .ok (.value v) w:=by
 unfold execOp;simp only[ho,hu,Sem.run_bind,hr,Result.andThen_ok];rfl
theorem zix {w:Wo} {b o:Nat} {l:Bs} (h:w.there b o 64) (hl:l.length=64):(Instr.storeAt 118 (.pointer (some ⟨b,o,none⟩)) (.agg (bc l).toArray)).run Tryz.prog w = .ok () (w.setCells b o (bc l)):=by
 obtain⟨i0,hi,hz0,hz1,hz2⟩:=info_parts znj;have hs:(bc l).toArray.size=64:=by simp[zaK,hl]
 have:=run_storeAt_mid (P:=Tryz.prog) w b o 118 (bc l).toArray (by rw[hs];exact h) (by rw[hi,hs,<-hz1];rfl) (all_oneCell_toArray (zf3 l))
 simpa using this
theorem Bk.cell {w:Wo} {a o:Nat} {vs:List Value} {g j:Nat} {v:Value} (hne:a≠g) (h:w.cell? ⟨g,j,none⟩=some v):(w.setCells a o vs).cell? ⟨g,j,none⟩=some v:=(World.cell?_of_block (a:=⟨g,j,none⟩) (zac w a o vs g (Ne.symm hne))).trans h
theorem Bk.range {w:Wo} {a o:Nat} {vs:List Value} {g j:Nat} {cs:List Value} (hne:a≠g) (h:w.rangeAt g j cs):(w.setCells a o vs).rangeAt g j cs:=zbf h (zac w a o vs g (Ne.symm hne))
def zq0:Oper:={ dst:=some 23,op := .move (.tmp 0),type := 31, pos := "disk.go:78", after:=#[],guard:=none }
def zq1:Oper:={ dst:=some 24,op := .nilCheck (.tmp 23),type:=0,pos := "disk.go:78", after:=#[eD 0],guard:=none }
def zq2:Oper:={ dst:=some 25,op := .fieldAddr 95 (.tmp 24) 2,type:=0,pos := "disk.go:78", after:=#[eD 1],guard:=none }
def zq3:Oper:={ dst:=some 26,op := .load 92 (.tmp 25),type := 92, pos := "disk.go:78", after:=#[eD 2],guard:=none }
def zq4:Oper:={ dst:=some 27,op := .fieldAddr 120 (.tmp 4) 0,type:=0,pos := "disk.go:78", after:=#[],guard:=none }
def zq5:Oper:={ dst:=some 28,op := .load 3 (.tmp 27),type := 3, pos := "disk.go:78", after:=#[eD 4],guard:=none }
def zq6:Oper:={ dst:=some 29,op := .fieldAddr 120 (.tmp 4) 1,type:=0,pos := "disk.go:78", after:=#[],guard:=none }
def zsa:Oper:={ dst:=some 30,op := .load 118 (.tmp 29),type := 118, pos := "disk.go:78", after:=#[eD 6],guard:=none }
def zq7:Oper:={ dst:=some 31,op := .indexAddr 92 (.tmp 26) (.tmp 28),type:=0,pos := "disk.go:78", after:=#[eD 3,eD 5,eP 0,eP 1,eP 2,eP 3,eP 4,eP 5,eP 6,eP 7],guard:=none }
def zsb:Oper:={ dst:=none,op := .store 118 (.tmp 31) (.tmp 30),type:=0,pos := "disk.go:78", after:=#[eD 8,eD 7,eP 0,eP 1,eP 2,eP 3,eP 4,eP 5,eP 6,eP 7],guard:=none }
theorem zkT (p:Nat) (F:Nat->Prop) (s:St) (w:Wo) (h:KAt w p F s) (hl:s.l.length<=1000000) :
  Cl 283 #[.pointer (some ⟨p,0,none⟩)] w fun e w'=>e = .returned (.int .i64 (syE s))/\Stp w p F (syS s) w':=by
 have c0:w.cell? ⟨p,0,none⟩=some (.int .i64 (if s.down=true then 1 else 0)):=by
  obtain⟨-,a,b,v,-,hr⟩:=h;exact hr.c0
 unfold syE syS;by_cases hd:s.down=true
 ·rw[if_pos hd] at c0
  rw[if_pos hd,if_pos hd];have FF:Hid (Stp w p F s w):=h.stays (bQ _ _);clear h hl hd;go_enter Tryz.func283, Tryz.ntmps283;go_wp2;go_ret;exact⟨rfl,FF.out⟩
 ·rw[if_neg hd] at c0
  rw[if_neg hd,if_neg hd];have BN:Hid _:=zdn p F s (by simpa using hd) w h;by_cases hf:s.fuse=1
  ·rw[if_pos hf,if_pos hf]
   have e1:decide (s.fuse=1)=true:=decide_eq_true hf;rw[e1] at BN;clear h hl hd hf e1;go_enter Tryz.func283, Tryz.ntmps283;go_wp2_with fail;refine cM BN.out ?_;rintro e w2 ⟨rfl,h1,h2⟩;have FF:Hid (Stp w p F (zaR s) w2):=⟨F,h1,Nx.refl _ _,h2⟩;clear h1 h2 BN;go_wp2;go_ret;exact⟨rfl,FF.out⟩
  ·rw[if_neg hf,if_neg hf]
   have e1:decide (s.fuse=1)=false:=decide_eq_false hf;rw[e1] at BN;have HL:Hid (s.l.length<=1000000):=hl;have HO0:Hid (Ok s):=h.1;clear h hd hf e1;go_enter Tryz.func283, Tryz.ntmps283;go_wp2_with fail;refine cM BN.out ?_;rintro e w1 ⟨rfl,h1,h2⟩;obtain⟨ho,a,b,v,rfl,hr⟩:=h1;have hrow:=hr.row;obtain⟨va,vc,rfl⟩:=zbu hrow;have c4:=hr.c4;have I0:Hid (Raw w1 p s.n (zaR s).down (zaR s).fuse s.f s.sh s.l a b (.slice va s.l.length vc)/\Bf (Foot p a b (.slice va s.l.length vc)) w w1):=⟨hr,h2⟩;have HO:Hid (Ok s):=HO0.out;obtain⟨n,hn⟩:∃n,s.l.length=n:=⟨_,rfl⟩;have c4':w1.cell? ⟨p,4,none⟩=some (.slice va n vc):=by rw[<-hn];exact c4
   rw[hn] at I0 hl;clear hr h2 ho BN hrow c4;go_wp2_with fail;go_loopw [19] (fun i wr=>∃(k:Nat) (f:Nat->Bs),k<=n/\i = .int .i64 (k:Int)/\Hid (Raw wr p s.n (zaR s).down (zaR s).fuse f s.sh s.l a b (.slice va n vc)/\Bf (Foot p a b (.slice va n vc)) w wr/\lay f (s.l.drop k)=s.sh)) (fun i wr=>n - (intOf i).toNat)
   case atStart=>exact⟨0,s.f,Nat.zero_le _,rfl,I0.out.1,I0.out.2,rfl⟩
   case round =>
    obtain⟨k,f,hk,rfl,I⟩:=hrel;clear I0;by_cases hlt:k < n
    ·have g1:(k:Int) < (n:Int):=by omega
     have hkl:k < s.l.length:=by omega
     obtain⟨g,rfl,RW⟩:=zdq I.out.1.row (fun x hx=>(HO.out.wk x hx).2) k hkl;have LW:Hid _:=ziw RW (HO.out.wk _ (List.getElem_mem hkl)).2;obtain⟨x,hx⟩:∃x,s.l[k]=x:=⟨_,rfl⟩;have h64:x.b.length=64:=by rw[<-hx];exact (HO.out.wk _ (List.getElem_mem hkl)).2
     have hxk:x.k < s.n:=by rw[<-hx];exact (HO.out.wk _ (List.getElem_mem hkl)).1
     rw[hx] at LW;have SN:Hid _:=zcm x h64 wr;have BX:Hid _:=znp x wr;have J1:Hid (Raw (wr.alloc (.cells (wc x).toArray 120)) p s.n (zaR s).down (zaR s).fuse f s.sh s.l a b (.slice (some ⟨g,0,none⟩) n vc)/\Bf (Foot p a b (.slice (some ⟨g,0,none⟩) n vc)) w (wr.alloc (.cells (wc x).toArray 120))):=⟨I.out.1.later ((bQ _ _).alloc (nL _) _),I.out.2.1.later ((bQ _ _).alloc (nL _) _)⟩;have LY:Hid (lay (upd f x.k x.b) (s.l.drop (k+1))=s.sh):=by
      have:=I.out.2.2;rw[List.drop_eq_getElem_cons hkl,hx,lay] at this;exact this
     have NB:Hid (∀q,Foot p a b (.slice (some ⟨g,0,none⟩) n vc) q->q≠wr.heap.size):=fun q hq=>Nat.ne_of_lt (I.out.1.lt hq)
     clear I RW hx;go_upto_region 5 with fail
     refine wp_region_lit ?_;refine wpList_plain rfl (fun K hK => ?_);go_simp;refine hK _ _ ?_;clear hK K;refine wpList_plain rfl (fun K hK=>zaC _ _ rfl _ rfl _ LW.out (hK _ _ ?_));refine wpList_plain rfl (fun K hK=>zbh _ rfl _ _ (ze7 _) (hK _ _ ?_));refine wpList_plain rfl (fun K hK=>zaE _ _ _ rfl _ rfl _ rfl _ SN.out (hK _ _ ?_));refine wpList_nil ?_;obtain⟨B,hB⟩:∃B,wr.heap.size=B:=⟨_,rfl⟩;obtain⟨W,hW⟩:∃W,wr.alloc (.cells (wc x).toArray 120)=W:=⟨_,rfl⟩;simp only[Act.put,wA,wB,wC];rw[hB] at NB BX ⊢;rw[hW] at BX J1 ⊢;clear LW SN hB hW;have c2:=J1.out.1.c2;have G3:(x.k:Int) < ((s.n:Nat):Int):=by omega
     have RA:Hid (Raw ((W.drew).setCells a (x.k*64) (bc x.b)) p s.n (zaR s).down (zaR s).fuse (upd f x.k x.b) s.sh s.l a b (.slice (some ⟨g,0,none⟩) n vc)/\Bf (Foot p a b (.slice (some ⟨g,0,none⟩) n vc)) w ((W.drew).setCells a (x.k*64) (bc x.b))) :=
      ⟨(J1.out.1.later (bQ _ _).drew).wholeA hxk h64,(J1.out.2.later (bQ _ _).drew).trans (Nx.refl _ _) (Bf.sets _ a (.inr (.inl rfl)) _ _ _)⟩
     have PA:Hid (a≠p):=J1.out.1.pa;have TH:Hid (W.drew.there a (x.k*64) 64):=(J1.out.1.later (bQ _ _).drew).sa.there hxk;have AB:Hid (a≠B):=NB.out a (.inr (.inl rfl));have b0:=BX.out.1;have RB:=BX.out.2;have H64:Hid (x.b.length=64):=h64;obtain⟨N,hN⟩:∃N,s.n=N:=⟨_,rfl⟩;rw[hN] at c2 G3;go_upto_region 6 with fail
     clear J1 BX NB h64;refine wp_region_noPanic ?_;refine wp_region_held_drew (S:=fun w'=>w'.cell? ⟨p,2,none⟩=some (.slice (some ⟨a,0,none⟩) N N)/\w'.cell? ⟨B,0,none⟩=some (.int .i64 (x.k:Int))/\w'.rangeAt B 1 (bc x.b)) (by kernel_rfl) (⟨c2,b0,RB⟩) (fun hHeld => ?_);obtain⟨Z,hZ⟩:∃Z,W.drew=Z:=⟨_,rfl⟩;rw[hZ] at hHeld RA TH ⊢;clear c2 b0 RB hZ;refine wT 0 zq0 ?_ ?_ ?_;rotate_left
     ·intro w' hSw;clear hSw;unfold zq0;first|(go_simp;done)|(go_simp;with_reducible rfl)
     simp only[zq0,Act.put,wA,wB,wC];refine wT 1 zq1 ?_ ?_ ?_;rotate_left
     ·intro w' hSw;clear hSw;unfold zq1;first|(go_simp;done)|(go_simp;with_reducible rfl)
     simp only[zq1,Act.put,wA,wB,wC];refine wT 2 zq2 ?_ ?_ ?_;rotate_left
     ·intro w' hSw;clear hSw;unfold zq2;first|(go_simp;done)|(go_simp;with_reducible rfl)
     simp only[zq2,Act.put,wA,wB,wC];refine wT 3 zq3 ?_ ?_ ?_;rotate_left
     ·intro w' hSw;obtain⟨s0,s1,s2⟩:=hSw;unfold zq3;first|(go_simp;done)|(go_simp;with_reducible rfl)
     simp only[zq3,Act.put,wA,wB,wC];refine wT 4 zq4 ?_ ?_ ?_;rotate_left
     ·intro w' hSw;clear hSw;unfold zq4;first|(go_simp;done)|(go_simp;with_reducible rfl)
     simp only[zq4,Act.put,wA,wB,wC];refine wT 5 zq5 ?_ ?_ ?_;rotate_left
     ·intro w' hSw;obtain⟨s0,s1,s2⟩:=hSw;unfold zq5;first|(go_simp;done)|(go_simp;with_reducible rfl)
     simp only[zq5,Act.put,wA,wB,wC];refine wT 6 zq6 ?_ ?_ ?_;rotate_left
     ·intro w' hSw;clear hSw;unfold zq6;first|(go_simp;done)|(go_simp;with_reducible rfl)
     simp only[zq6,Act.put,wA,wB,wC];refine wpAnyH_take (i:=7) (oi:=zsa) (v:=(.agg (bc x.b).toArray)) rfl (by kernel_rfl) (by kernel_rfl) (by kernel_rfl) (fun _ _ _ h=>h) (Or.inl ⟨by rfl,fun w' hSw=>zem _ _ rfl _ rfl _ (zis hSw.2.2 H64.out)⟩) (by assumption) ?_;simp only[zsa,Act.put,wA,wB,wC];refine wT 8 zq7 ?_ ?_ ?_;rotate_left
     ·intro w' hSw;clear hSw;unfold zq7;first|(go_simp;done)|(go_simp;with_reducible rfl)
     simp only[zq7,Act.put,wA,wB,wC];refine wpAnyH_ready (rs:=[9]) (by kernel_rfl) (by simp) ?_;refine AllReadyH.cons (o:=zsb) rfl (fun KK hKK => ?_) AllReadyH.nil;rw[if_pos (by kernel_rfl)];refine zaE _ _ _ rfl _ rfl _ rfl _ (zix TH.out H64.out) ?_;refine hKK.out _ _ ⟨Bk.cell PA.out hHeld.1,Bk.cell AB.out hHeld.2.1,Bk.range AB.out hHeld.2.2⟩ (fun hHeldS => ?_);clear hKK KK hHeldS hHeld;simp only[zsb,Act.put];refine wpAnyH_done (by kernel_rfl) ?_ _;refine NoPanic.normal ?_
     all_goals (go_wp2;go_roundw)
     case rel=>exact⟨k+1,upd f x.k x.b,by omega,by go_num,RA.out.1,RA.out.2,LY.out⟩
     case measure=>simp[intOf];omega
    ·obtain rfl:k=n:=by omega
     have e0:f=s.sh:=by
      have:=I.out.2.2;rw[List.drop_of_length_le (by omega),lay] at this;exact this
     subst e0;have R2:=I.out.1.setRow (w1:=wr) (u := .slice none 0 0) (m:=[]) ⟨rfl,rfl,rfl,nL _,fun _ _ _=>rfl⟩ (World.ownsRow_nil _ _ _ _) (fun g e=>by cases e);have FF:Hid (Stp w p (Foot p a b (.slice va k vc)) { zaR s with f:=s.sh,l:=[] } (wr.setCell ⟨p,4,none⟩ (.slice none 0 0))):=by
      refine⟨_,⟨⟨HO.out.n1,HO.out.n2,HO.out.sh64,nofun,HO.out.brn.fu⟩,a,b,_,rfl,R2.1⟩,?_,I.out.2.1.trans (Nx.refl _ _) R2.2.2⟩;exact (Nx.refl w _).trans R2.2.1 I.out.2.1.size
     have c4:=I.out.1.c4;have f4:=I.out.1.fr 4;have HN:Hid (s.l.length=k):=hn;clear I R2 c4' hn c0;go_wp2;go_ret;refine⟨rfl,?_⟩;have e:(zaR s).l.length=k:=HN.out;rw[e];exact FF.out
end Go.Proofs.YtjcppbhgjchjaaaGreatDoor.Sto
