/- Parts: BpA,YrM,YrA,BpB. -/
import Derived.Test.YtjpaodepnacimaaGreatDoorZdG21
import Derived.ArgAppend
import Derived.Test.YtjpaodepnacimaaGreatDoorZdG12
import Derived.Shelf.Strings.Trim
namespace Go.Proofs.YtjpaodepnacimaaGreatDoor
open Go.RowKit Go.Proofs.Fd Go.Proofs.Dk Go.Proofs.Lg Go.Proofs.Bx
set_option maxRecDepth 20000
def scx:List Sl→List Value
 | []=>[]
 | e::l=>sv e.1::sv e.2::scx l
theorem scx_len:∀l:List Sl,(scx l).length=l.length*2
 | []=>rfl
 | e::l=>by rw[scx,List.length_cons,List.length_cons,scx_len l,List.length_cons];omega
theorem scx_app:∀l m:List Sl,scx (l++m)=scx l++scx m
 | [],_=>rfl
 | e::l,m=>by rw[List.cons_append,scx,scx_app l m,scx,List.cons_append,List.cons_append]
theorem scx_one:∀l:List Sl,∀u∈scx l,u.oneCell'=true
 | [],_,h=>by cases h
 | e::l,u,h=>by
  rcases List.mem_cons.1 h with rfl|h
  ·rfl
  ·rcases List.mem_cons.1 h with rfl|h
   ·rfl
   ·exact scx_one l u h
theorem scx_at:∀(l:List Sl) (i:Nat) (hi:i < l.length),(scx l)[i*2]?=some (sv l[i].1)∧(scx l)[i*2+1]?=some (sv l[i].2)
 | e::l,0,_=>⟨rfl,rfl⟩
 | e::l,i+1,hi=>by
  have h:=scx_at l i (by simpa using hi)
  rw[scx,show (i+1)*2=i*2+1+1 by omega]
  exact h
theorem scx_two (l:List Sl) (j:Nat) (u:Value) (h:(scx l)[j]?=some u):∃i,(∃hi:i < l.length,j=i*2∧u=sv l[i].1)∨(∃hi:i < l.length,j=i*2+1∧u=sv l[i].2):=by
 have hj:=(List.getElem?_eq_some_iff.1 h).1
 rw[scx_len] at hj
 have hi:j / 2 < l.length:=by omega
 obtain⟨h0,h1⟩:=scx_at l (j / 2) hi
 refine⟨j / 2,?_⟩
 rcases (by omega:j=j / 2*2∨j=j / 2*2+1) with e|e
 ·refine .inl ⟨hi,e,?_⟩
  rw[←e,h] at h0
  exact Option.some.inj h0
 ·refine .inr ⟨hi,e,?_⟩
  rw[←e,h] at h1
  exact Option.some.inj h1
def SlAt (w:World) (a:Option Addr) (l:List Sl):Prop:=∀i (hi:i < l.length),∃b o,a=some ⟨b,o,none⟩∧w.cell? ⟨b,o+i*2,none⟩=some (sv l[i].1)∧w.cell? ⟨b,o+i*2+1,none⟩=some (sv l[i].2)
theorem SlAt.later {w w':World} {a:Option Addr} {l:List Sl} (h:SlAt w a l) (hb:Below w.heap.size w w'):SlAt w' a l:=fun i hi=>by
 obtain⟨b,o,e,h0,h1⟩:=h i hi
 exact⟨b,o,e,cell_later hb h0,cell_later hb h1⟩
theorem SlAt.bf {w w':World} {a:Option Addr} {l:List Sl} (h:SlAt w a l) {F:Nat→Prop} (hb:Bf F w w') (hF:∀x,a=some x→0 < l.length→¬F x.block):SlAt w' a l:=fun i hi=>by
 obtain⟨b,o,e,h0,h1⟩:=h i hi
 have:=hF _ e (by omega)
 exact⟨b,o,e,hb.cell h0 this,hb.cell h1 this⟩
theorem SlAt.nil (w:World) (a:Option Addr):SlAt w a []:=fun _ hi=>absurd hi (Nat.not_lt_zero _)
theorem SlAt.lt {w:World} {a:Option Addr} {l:List Sl} (h:SlAt w a l):∀x,a=some x→0 < l.length→x.block < w.heap.size:=fun x e h0=>by
 obtain⟨b,o,e',hc,-⟩:=h 0 h0
 rw[e'] at e
 injection e with e
 subst e
 exact World.block_lt_of_cell? _ _ hc
theorem SlAt.cut {w:World} {b o:Nat} {l:List Sl} (h:SlAt w (some ⟨b,o,none⟩) l) (k:Nat):SlAt w (some ⟨b,o+k*2,none⟩) (l.drop k):=fun i hi=>by
 have hi':k+i < l.length:=by rw[List.length_drop] at hi;omega
 obtain⟨b',o',e,h0,h1⟩:=h (k+i) hi'
 injection e with e
 injection e with e1 e2
 subst e1 e2
 refine⟨b,o+k*2,rfl,?_,?_⟩
 ·rw[List.getElem_drop,show o+k*2+i*2=o+(k+i)*2 by omega];exact h0
 ·rw[List.getElem_drop,show o+k*2+i*2+1=o+(k+i)*2+1 by omega];exact h1
theorem SlAt.take {w:World} {a:Option Addr} {l:List Sl} (h:SlAt w a l) (k:Nat):SlAt w a (l.take k):=fun i hi=>by
 have hi':i < l.length:=by rw[List.length_take] at hi;omega
 obtain⟨b,o,e,h0,h1⟩:=h i hi'
 rw[List.getElem_take]
 exact⟨b,o,e,h0,h1⟩
theorem SlAt.cells {w:World} {a:Addr} {l:List Sl} (h:SlAt w (some a) l):∀j u,(scx l)[j]?=some u→w.cell? (a.add j)=some u:=fun j u hj=>by
 obtain⟨i,hi⟩:=scx_two l j u hj
 rcases hi with ⟨hi,rfl,rfl⟩|⟨hi,rfl,rfl⟩
 ·obtain⟨b,o,e,h0,-⟩:=h i hi
  obtain rfl:=Option.some.inj e
  rw[Addr.add_mid]
  exact h0
 ·obtain⟨b,o,e,-,h1⟩:=h i hi
  obtain rfl:=Option.some.inj e
  rw[Addr.add_mid,←Nat.add_assoc]
  exact h1
theorem infoX:(Tryz.prog.info? 58).map (fun i=>(i.zero,i.size,i.bytes))=some (some (.agg #[.string ⟨#[]⟩,.string ⟨#[]⟩]),2,32):=by kernel_rfl
structure Sli (w:World) (a:Option Addr) (n c:Nat) (l:List Sl):Prop where
 at_:SlAt w a l
 len:l.length=n
 le:n≤c
 cm:c≤9223372036854775807
 nl:a=none→n=0∧c=0
 sp:∀x,a=some x→x.spot=none
theorem Sli.later {w w':World} {a:Option Addr} {n c:Nat} {l:List Sl} (h:Sli w a n c l) (hb:Below w.heap.size w w'):Sli w' a n c l:=⟨h.at_.later hb,h.len,h.le,h.cm,h.nl,h.sp⟩
theorem Sli.bf {w w':World} {a:Option Addr} {n c:Nat} {l:List Sl} (h:Sli w a n c l) {F:Nat→Prop} (hb:Bf F w w') (hF:∀x,a=some x→0 < n→¬F x.block):Sli w' a n c l:=⟨h.at_.bf hb (fun x e h0=>hF x e (by rw[←h.len];exact h0)),h.len,h.le,h.cm,h.nl,h.sp⟩
theorem Sli.nil (w:World):Sli w none 0 0 []:=⟨SlAt.nil _ _,rfl,Nat.le_refl _,by decide,fun _=>⟨rfl,rfl⟩,(fun x e=>by cases e)⟩
theorem owns_sl {w:World} {base:Nat} {v:Value} {l:List Sl} {n:Nat} (hn:l.length=n) (h:w.ownsRow base 58 2 v n (scx l)):∃a cap,v = .slice a n cap∧Sli w a n cap l∧(∀x,a=some x→base≤x.block):=by
 rcases h.2 with ⟨rfl,h0⟩|⟨g,cap,cur,rfl,hg,hh,hnc,hM,-,ht⟩
 ·subst h0
  have:l=[]:=List.length_eq_zero_iff.1 hn
  subst this
  exact⟨none,0,rfl,Sli.nil _,(fun x e=>by cases e)⟩
 ·refine⟨_,cap,rfl,⟨fun i hi=>⟨g,0,rfl,?_⟩,hn,hnc,by unfold maxLen at hM;omega,(fun e=>by cases e),(fun x e=>by injection e with e;subst e;rfl)⟩,(fun x e=>by injection e with e;subst e;exact hg)⟩
  obtain⟨h0,h1⟩:=scx_at l i hi
  have cell:∀j u,(scx l)[j]?=some u→w.cell? ⟨g,j,none⟩=some u:=fun j u hj=>by
   have hjl:j < n*2:=by
    have:=(List.getElem?_eq_some_iff.1 hj).1
    rw[scx_len,hn] at this
    exact this
   rw[←ht,List.getElem?_take_of_lt hjl] at hj
   unfold World.cell?
   rw[hh]
   simp only[Option.isSome_none]
   show cur[j]?=_
   rw[←hj]
   simp
  exact⟨by rw[Nat.zero_add];exact cell _ _ h0,by rw[Nat.zero_add];exact cell _ _ h1⟩
def idx:List Sl→Bs→Nat
 | [],_=>0
 | e::l,i=>if e.1=i then 0 else idx l i+1
theorem idx_le:∀(l:List Sl) (i:Bs),idx l i≤l.length
 | [],_=>Nat.le_refl _
 | e::l,i=>by
  rw[idx]
  split
  ·exact Nat.zero_le _
  ·rw[List.length_cons];exact Nat.succ_le_succ (idx_le l i)
theorem idx_lt:∀(l:List Sl) (i:Bs),idx l i < l.length↔i∈ids l
 | [],_=>⟨fun h=>absurd h (Nat.lt_irrefl _),fun h=>by cases h⟩
 | e::l,i=>by
  rw[idx]
  by_cases c:e.1=i
  ·rw[if_pos c]
   exact⟨fun _=>by rw[←c];exact List.mem_cons_self ..,fun _=>by rw[List.length_cons];omega⟩
  ·rw[if_neg c,List.length_cons]
   have h:=idx_lt l i
   constructor
   ·intro z
    exact List.mem_cons_of_mem _ (h.1 (by omega))
   ·intro z
    rcases List.mem_cons.1 z with z|z
    ·exact absurd z.symm c
    ·have:=h.2 z;omega
theorem idx_ne:∀(l:List Sl) (i:Bs) (j:Nat) (hj:j < l.length),j < idx l i→l[j].1≠i
 | e::l,i,0,_,h=>by
  rw[idx] at h
  split at h
  ·exact absurd h (Nat.lt_irrefl _)
  ·assumption
 | e::l,i,j+1,hj,h=>by
  rw[idx] at h
  split at h
  ·exact absurd h (Nat.not_lt_zero _)
  ·exact idx_ne l i j (by simpa using hj) (by omega)
theorem idx_at:∀(l:List Sl) (i:Bs) (h:idx l i < l.length),l[idx l i].1=i
 | [],i,h=>absurd h (Nat.lt_irrefl _)
 | e::l,i,h=>by
  by_cases c:e.1=i
  ·have:idx (e::l) i=0:=by rw[idx,if_pos c]
   simp only[this]
   exact c
  ·have z:idx (e::l) i=idx l i+1:=by rw[idx,if_neg c]
   simp only[z]
   rw[z] at h
   exact idx_at l i (by simpa using h)
theorem rmL_cut:∀(l:List Sl) (i:Bs),i∈ids l→rmL l i=l.take (idx l i)++l.drop (idx l i+1)
 | [],_,h=>by cases h
 | e::l,i,h=>by
  rw[rmL,idx]
  by_cases c:e.1=i
  ·rw[if_pos c,if_pos c];rfl
  ·rw[if_neg c,if_neg c]
   rcases List.mem_cons.1 h with h|h
   ·exact absurd h.symm c
   ·rw[List.take_succ_cons,List.drop_succ_cons,List.cons_append,rmL_cut l i h]
def fnd (l:List Sl) (i:Bs):Int:=if i∈ids l then (idx l i:Int) else -1
theorem st_ne {a b:ByteArray} (h:a.data.toList≠b.data.toList):(a.toList == b.toList)=false:=by
 rw[ByteArray.toList_eq,ByteArray.toList_eq]
 exact beq_eq_false_iff_ne.2 h
theorem st_eqb {a b:ByteArray} (h:a.data.toList=b.data.toList):(a.toList == b.toList)=true:=by
 rw[ByteArray.toList_eq,ByteArray.toList_eq,h]
 exact beq_self_eq_true _
set_option maxHeartbeats 1000000 in
theorem xclos_any (bx:Nat) (I T X:ByteArray) (W:World) (hb:W.cell? ⟨bx,0,none⟩=some (.string X)) (r:Bool) (hr:(I.toList == X.toList)=r) :
  Calls Tryz.prog 118 #[.agg #[.string I,.string T],.pointer (some ⟨bx,0,none⟩)] W fun e w'=>e = .returned (.bool r)∧Below W.heap.size W w':=by
 have hl:bx < W.heap.size:=World.block_lt_of_cell? _ _ hb
 have hne:¬bx=W.heap.size:=by omega
 go_enter Tryz.func118, Tryz.ntmps118
 go_wp2
 go_ret
 exact⟨rfl,(Below.refl _ _).alloc (Nat.le_refl _) _⟩
set_option maxHeartbeats 1000000 in
theorem xindex_any (a:Option Addr) (n c bx:Nat) (l:List Sl) (X:ByteArray) (hn:l.length=n) (h1:n≤1000000) (w:World) (h:Hid (SlAt w a l)) (hb:Hid (w.cell? ⟨bx,0,none⟩=some (.string X))) :
  Calls Tryz.prog 117 #[.slice a n c,.func (.func 118) #[] #[.pointer (some ⟨bx,0,none⟩)]] w fun e w'=>e = .returned (.int .i64 (fnd l X.data.toList))∧Below w.heap.size w w':=by
 have HL:Hid (l.length=n):=hn
 have hle:=idx_le l X.data.toList
 obtain⟨z,hz⟩:∃z,fnd l X.data.toList=z:=⟨_,rfl⟩
 have HZ:Hid (fnd l X.data.toList=z):=hz
 rw[hz]
 obtain⟨J,hJ⟩:∃J,idx l X.data.toList=J:=⟨_,rfl⟩
 have HJ:Hid (idx l X.data.toList=J):=hJ
 have hJn:J≤n:=by omega
 clear hn hz hJ hle
 go_enter Tryz.func117, Tryz.ntmps117
 go_wp2
 go_loopw [8] (fun i wr=>∃k:Nat,k≤J∧i = .int .i64 (k:Int)∧Hid (Below w.heap.size w wr)) (fun i _=>n - (intOf i).toNat)
 case atStart=>exact⟨0,by omega,rfl,Below.refl _ _⟩
 case round =>
  obtain⟨k,hk,rfl,I⟩:=hrel
  by_cases hkn:k < n
  ·have hkl:k < l.length:=by have:=HL.out;omega
   have g1:(k:Int) < (n:Int):=by omega
   obtain⟨b1,o1,rfl,a0,a1⟩:=(h.out.later I.out) k hkl
   have hcb:=cell_later I.out hb.out
   by_cases hkj:k=J
   ·have e1:(st l[k].1).toList == X.toList:=by
     refine st_eqb ?_
     have h1:=idx_at l X.data.toList (by have:=HJ.out;omega)
     have h2:idx l X.data.toList=k:=by rw[HJ.out,hkj]
     simp only[h2] at h1
     exact h1
    have C:Hid _:=xclos_any bx (st l[k].1) (st l[k].2) X wr hcb true e1
    have E:Hid (z=(k:Int)):=by
     rw[←HZ.out,fnd,if_pos ((idx_lt _ _).1 (by have:=HJ.out;omega)),HJ.out,hkj]
     rfl
    obtain⟨S1,hS1⟩:∃S,st l[k].1=S:=⟨_,rfl⟩
    obtain⟨S2,hS2⟩:∃S,st l[k].2=S:=⟨_,rfl⟩
    unfold sv at a0 a1
    rw[hS1] at a0 C
    rw[hS2] at a1 C
    clear hS1 hS2 e1 hcb hkj
    go_wp2_with (go_at_call 118;refine Calls.mono C.out ?_;rintro e w9 ⟨rfl,hb9⟩)
    go_ret
    exact⟨by rw[E.out];rfl,chain I.out hb9⟩
   ·have e1:((st l[k].1).toList == X.toList)=false:=st_ne (idx_ne l X.data.toList k hkl (by have:=HJ.out;omega))
    have C:Hid _:=xclos_any bx (st l[k].1) (st l[k].2) X wr hcb false e1
    obtain⟨S1,hS1⟩:∃S,st l[k].1=S:=⟨_,rfl⟩
    obtain⟨S2,hS2⟩:∃S,st l[k].2=S:=⟨_,rfl⟩
    unfold sv at a0 a1
    rw[hS1] at a0 C
    rw[hS2] at a1 C
    clear hS1 hS2 e1 hcb
    go_wp2_with (go_at_call 118;refine Calls.mono C.out ?_;rintro e w9 ⟨rfl,hb9⟩)
    go_roundw
    case rel=>exact⟨k+1,by omega,by go_num,chain I.out hb9⟩
    case measure=>simp[intOf];omega
  ·have g1:¬(k:Int) < (n:Int):=by omega
   have E:Hid (z = -1):=by
    rw[←HZ.out,fnd,if_neg (fun c=>by have:=(idx_lt _ _).2 c;have:=HL.out;have:=HJ.out;omega)]
    rfl
   go_wp2
   go_ret
   exact⟨by rw[E.out];rfl,I.out⟩
set_option maxHeartbeats 1000000 in
theorem xfind_any (a:Option Addr) (n c:Nat) (l:List Sl) (X:ByteArray) (hn:l.length=n) (h1:n≤1000000) (w:World) (h:Hid (SlAt w a l)) :
  Calls Tryz.prog 69 #[.slice a n c,.string X] w fun e w'=>e = .returned (.int .i64 (fnd l X.data.toList))∧Below w.heap.size w w':=by
 have nb1:=nb w (.cells #[.string X] 9)
 have C:Hid _:=xindex_any a n c w.heap.size l X hn h1 (w.alloc (.cells #[.string X] 9)) (h.out.later nb1) (by rw[World.cell?_alloc_new];rfl)
 have B1:Hid _:=nb1
 obtain⟨W1,hW1⟩:∃W,w.alloc (.cells #[.string X] 9)=W:=⟨_,rfl⟩
 obtain⟨A,hA⟩:∃A,w.heap.size=A:=⟨_,rfl⟩
 rw[hW1,hA] at C
 rw[hW1] at B1
 obtain⟨z,hz⟩:∃z,fnd l X.data.toList=z:=⟨_,rfl⟩
 rw[hz] at C ⊢
 clear h hn nb1 hz
 go_enter Tryz.func69, Tryz.ntmps69
 go_wp2_with fail
 refine Calls.mono C.out ?_
 rintro e w2 ⟨rfl,hb2⟩
 have FF:Hid (Below w.heap.size w w2):=chain B1.out hb2
 rw[hA] at FF
 clear C B1 hb2 hW1
 go_wp2
 go_ret
 exact⟨rfl,by rw[hA];exact FF.out⟩
theorem xhas_any (a:Option Addr) (n c:Nat) (l:List Sl) (X:ByteArray) (hn:l.length=n) (h1:n≤1000000) (w:World) (h:Hid (SlAt w a l)) :
  Calls Tryz.prog 40 #[.slice a n c,.string X] w fun e w'=>e = .returned (.bool (decide (X.data.toList∈ids l)))∧Below w.heap.size w w':=by
 have C:Hid _:=xfind_any a n c l X hn h1 w h
 by_cases hm:X.data.toList∈ids l
 ·have e0:fnd l X.data.toList=(idx l X.data.toList:Int):=if_pos hm
  rw[decide_eq_true hm]
  rw[e0] at C
  have g:0≤(idx l X.data.toList:Int):=by omega
  obtain⟨z,hz⟩:∃z:Int,(idx l X.data.toList:Int)=z:=⟨_,rfl⟩
  rw[hz] at C g
  clear hz e0 hm h hn
  go_enter Tryz.func40, Tryz.ntmps40
  go_wp2_with fail
  refine Calls.mono C.out ?_
  rintro e w2 ⟨rfl,hb2⟩
  have FF:Hid _:=hb2
  clear C hb2
  go_wp2
  go_ret
  exact⟨rfl,FF.out⟩
 ·have e0:fnd l X.data.toList = -1:=if_neg hm
  rw[decide_eq_false hm]
  rw[e0] at C
  clear e0 hm h hn
  go_enter Tryz.func40, Tryz.ntmps40
  go_wp2_with fail
  refine Calls.mono C.out ?_
  rintro e w2 ⟨rfl,hb2⟩
  have FF:Hid _:=hb2
  clear C hb2
  go_wp2
  go_ret
  exact⟨rfl,FF.out⟩
theorem xuser_any (u:Int) (w:World):Calls Tryz.prog 32 #[.int .i64 u] w fun e w'=>e = .returned (.bool (!noU u))∧w'=w:=by
 unfold noU
 by_cases h0:u < 0
 ·have g:¬0≤u:=by omega
  rw[decide_eq_true h0]
  go_enter Tryz.func32, Tryz.ntmps32
  go_wp2
  go_ret
  exact⟨rfl,rfl⟩
 ·have g:0≤u:=by omega
  by_cases h1:64≤u
  ·have g2:¬u < 64:=by omega
   rw[decide_eq_false h0,decide_eq_true h1]
   go_enter Tryz.func32, Tryz.ntmps32
   go_wp2
   go_ret
   exact⟨rfl,rfl⟩
  ·have g2:u < 64:=by omega
   rw[decide_eq_false h0,decide_eq_false h1]
   go_enter Tryz.func32, Tryz.ntmps32
   go_wp2
   go_ret
   exact⟨rfl,rfl⟩
theorem xtext_any (T:ByteArray) (w:World):Calls Tryz.prog 39 #[.string T] w fun e w'=>e = .returned (.bool (decide (T.size≤222)))∧w'=w:=by
 by_cases h:T.size≤222
 ·have g:(T.size:Int)≤222:=by omega
  rw[decide_eq_true h]
  go_enter Tryz.func39, Tryz.ntmps39
  go_wp2
  go_ret
  exact⟨rfl,rfl⟩
 ·have g:¬(T.size:Int)≤222:=by omega
  rw[decide_eq_false h]
  go_enter Tryz.func39, Tryz.ntmps39
  go_wp2
  go_ret
  exact⟨rfl,rfl⟩
end Go.Proofs.YtjpaodepnacimaaGreatDoor
namespace Go.Proofs.Bx
open Go.Proofs.Dk Go.Proofs.Lg
theorem wrX_snd (s:St) (x:Lo) (b c:Bxs) (rs:List Bs):(wrX s x b c rs).2=if (wrX s x b c rs).1.1.1=0 then c else b:=by
 unfold wrX
 by_cases c1:(apX s x rs).1.1=151
 ·simp only[if_pos c1]
 ·simp only[if_neg c1]
  by_cases c2:(apX s x rs).1.1≠0
  ·simp only[if_pos c2]
   rw[if_neg c2]
  ·simp only[if_neg c2]
def wrEn (s:St) (x:Lo) (E F:List En) (rs:List Bs):((Int×St)×Lo)×List En:=((wrX s x (ofE E) (ofE F) rs).1,if (wrX s x (ofE E) (ofE F) rs).1.1.1=0 then F else E)
theorem wrEn_of (s:St) (x:Lo) (E F:List En) (rs:List Bs):(wrEn s x E F rs).1=(wrX s x (ofE E) (ofE F) rs).1∧ofE (wrEn s x E F rs).2=(wrX s x (ofE E) (ofE F) rs).2:=by
 refine⟨rfl,?_⟩
 rw[wrX_snd]
 show ofE (if (wrX s x (ofE E) (ofE F) rs).1.1.1=0 then F else E)=_
 split <;> rfl
def puEn (q:Nat) (s:St) (x:Lo) (E:List En) (u:Int) (i t:Bs):((Int×St)×Lo)×List En :=
 if noU u=true then (((1,s),x),E)
 else if okI i=false then (((3,s),x),E)
 else if 222 < t.length then (((2,s),x),E)
 else if i∈ids (ofE E u.toNat) then (((6,s),x),E)
 else if q≤(ofE E u.toNat).length then (((180,s),x),E)
 else wrEn s x E (E++[(u.toNat,(i,t))]) [putR u.toNat i t]
theorem puEn_of (q:Nat) (s:St) (x:Lo) (E:List En) (u:Int) (i t:Bs):(puEn q s x E u i t).1=(puX q s x (ofE E) u i t).1∧ofE (puEn q s x E u i t).2=(puX q s x (ofE E) u i t).2:=by
 unfold puEn puX
 split
 ·exact⟨rfl,rfl⟩
 ·split
  ·exact⟨rfl,rfl⟩
  ·split
   ·exact⟨rfl,rfl⟩
   ·split
    ·exact⟨rfl,rfl⟩
    ·split
     ·exact⟨rfl,rfl⟩
     ·have z:=wrEn_of s x E (E++[(u.toNat,(i,t))]) [putR u.toNat i t]
      rw[ofE_snoc] at z
      exact z
def rmsE:List En→Nat→List Bs→List En
 | E,_,[]=>E
 | E,u,i::m=>rmsE (if i∈ids (ofE E u) then rmE E u i else E) u m
theorem ofE_rms:∀(m:List Bs) (E:List En) (u:Nat),ofE (rmsE E u m)=upB (ofE E) u (rms (ofE E u) m)
 | [],E,u=>by rw[rmsE,rms,upB_self]
 | i::m,E,u=>by
  rw[rmsE,rms,ofE_rms m]
  by_cases c:i∈ids (ofE E u)
  ·rw[if_pos c,ofE_rm,upB_same,upB_upB]
  ·rw[if_neg c,rmL_not _ _ c]
def akEn (s:St) (x:Lo) (E:List En) (u:Int) (m:List Bs):Nat×(((Int×St)×Lo)×List En) :=
 if noU u=true then (0,(((1,s),x),E))
 else if (m.any fun i=>!okI i)=true then (0,(((3,s),x),E))
 else if 256 < m.length then (0,(((2,s),x),E))
 else if aks (ofE E u.toNat) m=[] then (0,(((0,s),x),E))
 else
  let y:=wrEn s x E (rmsE E u.toNat m) ((aks (ofE E u.toNat) m).map (ackR u.toNat))
  (if y.1.1.1=0 then (aks (ofE E u.toNat) m).length else 0,y)
theorem akEn_of (s:St) (x:Lo) (E:List En) (u:Int) (m:List Bs):(akEn s x E u m).1=(akX s x (ofE E) u m).1∧(akEn s x E u m).2.1=(akX s x (ofE E) u m).2.1∧ofE (akEn s x E u m).2.2=(akX s x (ofE E) u m).2.2:=by
 unfold akEn akX
 split
 ·exact⟨rfl,rfl,rfl⟩
 ·split
  ·exact⟨rfl,rfl,rfl⟩
  ·split
   ·exact⟨rfl,rfl,rfl⟩
   ·split
    ·exact⟨rfl,rfl,rfl⟩
    ·have z:=wrEn_of s x E (rmsE E u.toNat m) ((aks (ofE E u.toNat) m).map (ackR u.toNat))
     rw[ofE_rms] at z
     refine⟨?_,z.1,z.2⟩
     show (if (wrEn s x E (rmsE E u.toNat m) ((aks (ofE E u.toNat) m).map (ackR u.toNat))).1.1.1=0 then _ else _)=_
     rw[z.1]
def opEn (q:Int) (s:St) (o:(Int×St)×Lo):(Int×St)×Option (Lo×List En) :=
 if q < 1∨256 < q then ((1,s),none)
 else if o.1.1≠0 then (o.1,none)
 else match tksL [] o.2.ts with
  | none=>((160,o.1.2),none)
  | some E=>((0,o.1.2),some (o.2,E))
theorem opEn_of (q:Int) (s:St) (o:(Int×St)×Lo):(opEn q s o).1=(opX q s o).1∧(opEn q s o).2.map (fun y=>(y.1,ofE y.2))=(opX q s o).2:=by
 unfold opEn opX
 split
 ·exact⟨rfl,rfl⟩
 ·split
  ·exact⟨rfl,rfl⟩
  ·have h:=tksL_of o.2.ts []
   have e:ofE []=fun _=>[]:=rfl
   rw[e] at h
   rw[←h]
   cases tksL [] o.2.ts with
   | none=>exact⟨rfl,rfl⟩
   | some E=>exact⟨rfl,rfl⟩
def Us (E:List En):Prop:=∀e∈E,e.1 < 64
theorem Us.tk {E F:List En} {r:Bs} (h:Us E) (e:tkL E r=some F):Us F:=by
 unfold tkL at e
 by_cases h1:low r=true
 ·rw[if_pos h1] at e
  have hu:rU r < 64:=by unfold low at h1;simp at h1;exact h1.2
  by_cases h2:isP (ofE E (rU r)) r=true
  ·rw[if_pos h2] at e
   cases e
   intro x hx
   rcases List.mem_append.1 hx with hx|hx
   ·exact h x hx
   ·rw[List.mem_singleton.1 hx];exact hu
  ·rw[if_neg h2] at e
   by_cases h3:isA (ofE E (rU r)) r=true
   ·rw[if_pos h3] at e
    cases e
    intro x hx
    unfold rmE at hx
    rcases List.mem_append.1 hx with hx|hx
    ·exact h x (List.mem_of_mem_take hx)
    ·exact h x (List.mem_of_mem_drop hx)
   ·rw[if_neg h3] at e;cases e
 ·rw[if_neg h1] at e;cases e
theorem Us.tks:∀(l:List Bs) {E F:List En},Us E→tksL E l=some F→Us F
 | [],_,_,h,e=>by cases e;exact h
 | r::l,E,F,h,e=>by
  rw[tksL] at e
  cases h1:tkL E r with
  | none=>rw[h1] at e;cases e
  | some a=>rw[h1] at e;exact Us.tks l (h.tk h1) e
theorem tkL_put {E:List En} {u:Nat} (hu:u < 64) {i t:Bs} (hi:okI i=true) (ht:t.length≤222) (h:i ∉ ids (ofE E u)):tkL E (putR u i t)=some (E++[(u,(i,t))]):=by
 obtain⟨a0,a1,a2,a3,a4⟩:=putR_at hu (okI_len hi) t
 unfold tkL isP
 rw[if_pos a4,a0,a1,a2,a3,if_pos (by simp[hi,ht,h])]
theorem tkL_ack {E:List En} {u:Nat} (hu:u < 64) {i:Bs} (hi:i.length=16) (h:i∈ids (ofE E u)):tkL E (ackR u i)=some (rmE E u i):=by
 obtain⟨a0,a1,a2,a3,a4⟩:=ackR_at hu hi
 unfold tkL isP isA
 rw[if_pos a4,a0,a1,a2,a3,if_neg (by simp),if_pos (by simp[h])]
theorem aks_tkL:∀(m:List Bs) (E:List En) (u:Nat),u < 64→(∀i∈m,i.length=16)→tksL E ((aks (ofE E u) m).map (ackR u))=some (rmsE E u m)
 | [],E,u,_,_=>by
  rw[aks,rmsE]
  rfl
 | i::m,E,u,hu,hm=>by
  rw[aks,rmsE]
  by_cases c:i∈ids (ofE E u)
  ·rw[if_pos c,if_pos c,List.map_cons,tksL,tkL_ack hu (hm i (List.mem_cons_self ..)) c]
   have:=aks_tkL m (rmE E u i) u hu (fun x hx=>hm x (List.mem_cons_of_mem _ hx))
   rw[ofE_rm,upB_same] at this
   exact this
  ·rw[if_neg c,if_neg c]
   exact aks_tkL m E u hu (fun x hx=>hm x (List.mem_cons_of_mem _ hx))
theorem Us.put {E:List En} (h:Us E) {u:Nat} (hu:u < 64) (p:Sl):Us (E++[(u,p)]):=fun x hx=>by
 rcases List.mem_append.1 hx with hx|hx
 ·exact h x hx
 ·rw[List.mem_singleton.1 hx];exact hu
theorem Us.rms {E:List En} (h:Us E):∀(m:List Bs) (u:Nat),Us (rmsE E u m):=by
 intro m
 induction m generalizing E with
 | nil=>intro u;exact h
 | cons i m ih =>
  intro u
  rw[rmsE]
  split
  ·refine ih (fun x hx => ?_) u
   unfold rmE at hx
   rcases List.mem_append.1 hx with hx|hx
   ·exact h x (List.mem_of_mem_take hx)
   ·exact h x (List.mem_of_mem_drop hx)
  ·exact ih h u
theorem Us.wr {E F:List En} (h:Us E) (k:Us F) (s:St) (x:Lo) (rs:List Bs):Us (wrEn s x E F rs).2:=by
 show Us (if _ then F else E)
 split <;> assumption
theorem Us.pu {E:List En} (h:Us E) (q:Nat) (s:St) (x:Lo) (u:Int) (i t:Bs):Us (puEn q s x E u i t).2:=by
 unfold puEn
 split
 ·exact h
 ·rename_i h1
  have hu:u.toNat < 64:=by unfold noU at h1;simp at h1;omega
  split
  ·exact h
  ·split
   ·exact h
   ·split
    ·exact h
    ·split
     ·exact h
     ·exact h.wr (h.put hu _) s x _
theorem Us.ak {E:List En} (h:Us E) (s:St) (x:Lo) (u:Int) (m:List Bs):Us (akEn s x E u m).2.2:=by
 unfold akEn
 split
 ·exact h
 ·split
  ·exact h
  ·split
   ·exact h
   ·split
    ·exact h
    ·exact h.wr (h.rms m _) s x _
theorem Us.nil:Us []:=fun _ h=>by cases h
theorem Us.op {q:Int} {s:St} {o:(Int×St)×Lo} {x:Lo} {E:List En} (h:(opEn q s o).2=some (x,E)):Us E:=by
 unfold opEn at h
 split at h
 ·cases h
 ·split at h
  ·cases h
  ·split at h
   ·cases h
   ·rename_i c hc
    cases h
    exact Us.nil.tks _ hc
end Go.Proofs.Bx
namespace Go.Proofs.YtjpaodepnacimaaGreatDoor
open Go.RowKit Go.Proofs.Fd Go.Proofs.Dk Go.Proofs.Lg Go.Proofs.Bx
set_option maxRecDepth 20000
def ecx:List En→List Value
 | []=>[]
 | e::E => .int .i64 (e.1:Int)::sv e.2.1::sv e.2.2::ecx E
theorem ecx_len:∀E:List En,(ecx E).length=E.length*3
 | []=>rfl
 | e::E=>by rw[ecx,List.length_cons,List.length_cons,List.length_cons,ecx_len E,List.length_cons];omega
theorem ecx_app:∀E F:List En,ecx (E++F)=ecx E++ecx F
 | [],_=>rfl
 | e::E,F=>by rw[List.cons_append,ecx,ecx_app E F,ecx];rfl
theorem ecx_one:∀E:List En,∀u∈ecx E,u.oneCell'=true
 | [],u,h=>by cases h
 | e::E,u,h=>by
  rw[ecx] at h
  rcases List.mem_cons.1 h with rfl|h
  ·rfl
  ·rcases List.mem_cons.1 h with rfl|h
   ·rfl
   ·rcases List.mem_cons.1 h with rfl|h
    ·rfl
    ·exact ecx_one E u h
theorem ecx_at:∀(E:List En) (i:Nat) (hi:i < E.length),(ecx E)[i*3]?=some (.int .i64 (E[i].1:Int))∧(ecx E)[i*3+1]?=some (sv E[i].2.1)∧(ecx E)[i*3+2]?=some (sv E[i].2.2)
 | [],i,hi=>absurd hi (Nat.not_lt_zero _)
 | e::E,0,_=>⟨rfl,rfl,rfl⟩
 | e::E,i+1,hi=>by
  have ih:=ecx_at E i (by simpa using hi)
  rw[show (i+1)*3=i*3+3 by omega]
  exact ih
def EnAt (w:World) (a:Option Addr) (E:List En):Prop:=∀i (hi:i < E.length),∃b o,a=some ⟨b,o,none⟩∧w.cell? ⟨b,o+i*3,none⟩=some (.int .i64 (E[i].1:Int))∧w.cell? ⟨b,o+i*3+1,none⟩=some (sv E[i].2.1)∧w.cell? ⟨b,o+i*3+2,none⟩=some (sv E[i].2.2)
theorem EnAt.later {w w':World} {a:Option Addr} {E:List En} (h:EnAt w a E) (hb:Below w.heap.size w w'):EnAt w' a E:=fun i hi=>by
 obtain⟨b,o,e,c0,c1,c2⟩:=h i hi
 exact⟨b,o,e,cell_later hb c0,cell_later hb c1,cell_later hb c2⟩
theorem EnAt.nil (w:World) (a:Option Addr):EnAt w a []:=fun _ hi=>absurd hi (Nat.not_lt_zero _)
theorem EnAt.take {w:World} {a:Option Addr} {E:List En} (h:EnAt w a E) (k:Nat):EnAt w a (E.take k):=fun i hi=>by
 have hi':i < E.length:=by rw[List.length_take] at hi;omega
 obtain⟨b,o,e,c⟩:=h i hi'
 rw[List.getElem_take]
 exact⟨b,o,e,c⟩
theorem EnAt.drop {w:World} {b o:Nat} {E:List En} (h:EnAt w (some ⟨b,o,none⟩) E) (k:Nat):EnAt w (some ⟨b,o+k*3,none⟩) (E.drop k):=fun i hi=>by
 have hi':k+i < E.length:=by rw[List.length_drop] at hi;omega
 obtain⟨b',o',e,c0,c1,c2⟩:=h (k+i) hi'
 injection e with e
 injection e with e1 e2
 subst e1
 subst e2
 rw[List.getElem_drop]
 rw[show o+(k+i)*3=o+k*3+i*3 by omega] at c0 c1 c2
 exact⟨b,o+k*3,rfl,c0,c1,c2⟩
theorem EnAt.cells {w:World} {a:Addr} {E:List En} (h:EnAt w (some a) E):∀j u,(ecx E)[j]?=some u→w.cell? (a.add j)=some u:=fun j u hj=>by
 have hl:j < E.length*3:=by
  have:=(List.getElem?_eq_some_iff.1 hj).1
  rw[ecx_len] at this
  exact this
 have hi:j / 3 < E.length:=by omega
 obtain⟨b,o,e,c0,c1,c2⟩:=h (j / 3) hi
 injection e with e
 subst e
 rw[Addr.add_mid]
 obtain⟨a0,a1,a2⟩:=ecx_at E (j / 3) hi
 rcases (by omega:j=j / 3*3∨j=j / 3*3+1∨j=j / 3*3+2) with q|q|q
 ·have hj2:=hj
  rw[q,a0] at hj2
  rw[q,←hj2]
  rw[←q] at c0 ⊢
  exact c0
 ·have hj2:=hj
  rw[q,a1] at hj2
  rw[q,←hj2,←Nat.add_assoc]
  exact c1
 ·have hj2:=hj
  rw[q,a2] at hj2
  rw[q,←hj2,←Nat.add_assoc]
  exact c2
theorem infoE:(Tryz.prog.info? 125).map (fun i=>(i.zero,i.size,i.bytes))=some (some (.agg #[.int .i64 0,.string ⟨#[]⟩,.string ⟨#[]⟩]),3,40):=by kernel_rfl
abbrev OwnsE (w:World) (v:Value) (E:List En):Prop:=w.ownsRow 0 125 3 v E.length (ecx E)
theorem owns_nilE (w:World):OwnsE w (.slice none 0 0) []:=World.ownsRow_nil _ _ _ _
theorem owns_laterE {w w':World} {base:Nat} {v:Value} {n:Nat} {xs:List Value} (h:w.ownsRow base 125 3 v n xs) (hb:Below w.heap.size w w'):w'.ownsRow base 125 3 v n xs:=by
 refine⟨h.1,?_⟩
 rcases h.2 with h2|⟨g,cap,cur,rfl,hg,hh,hr⟩
 ·exact .inl h2
 ·exact .inr ⟨g,cap,cur,rfl,hg,(hb.block g (Array.getElem?_eq_some_iff.1 hh).1).trans hh,hr⟩
theorem owns_lowE {w:World} {base base':Nat} {v:Value} {n:Nat} {xs:List Value} (h:w.ownsRow base 125 3 v n xs) (hb:base'≤base):w.ownsRow base' 125 3 v n xs:=by
 refine⟨h.1,?_⟩
 rcases h.2 with h2|⟨g,cap,cur,rfl,hg,hh⟩
 ·exact .inl h2
 ·exact .inr ⟨g,cap,cur,rfl,Nat.le_trans hb hg,hh⟩
theorem owns_en {w:World} {base:Nat} {v:Value} {E:List En} {n:Nat} (hn:E.length=n) (h:w.ownsRow base 125 3 v n (ecx E)):∃a c,v = .slice a n c∧EnAt w a E∧n≤c∧(a=none→n=0∧c=0)∧(∀x,a=some x→x.spot=none∧base≤x.block∧(Value.slice a n c).ownBlock=some x.block):=by
 subst hn
 rcases h.2 with ⟨rfl,h2⟩|⟨g,cap,cur,rfl,hg,hh,hnc,hM,-,ht⟩
 ·obtain rfl:=List.length_eq_zero_iff.1 h2
  exact⟨none,0,rfl,EnAt.nil _ _,Nat.le_refl _,fun _=>⟨rfl,rfl⟩,fun x e=>by cases e⟩
 ·refine⟨some ⟨g,0,none⟩,cap,rfl,fun i hi => ?_,?_,nofun,fun x e => ?_⟩
  ·obtain⟨a0,a1,a2⟩:=ecx_at E i hi
   exact⟨g,0,rfl,by rw[Nat.zero_add,h.cellAt _ (by omega),a0],by rw[Nat.zero_add,h.cellAt _ (by omega),a1],by rw[Nat.zero_add,h.cellAt _ (by omega),a2]⟩
  ·exact hnc
  ·injection e with e
   subst e
   exact⟨rfl,hg,rfl⟩
theorem ybuser_any (u:Int) (w:World):Calls Tryz.prog 56 #[.int .i64 u] w fun e w'=>e = .returned (.bool (!noU u))∧w'=w:=by
 by_cases h1:u < 0
 ·have e:noU u=true:=by unfold noU;simp[h1]
  have g:¬(0:Int)≤u:=by omega
  rw[e]
  clear e
  go_enter Tryz.func56, Tryz.ntmps56
  go_wp2
  go_ret
  exact⟨rfl,rfl⟩
 ·have g:(0:Int)≤u:=by omega
  by_cases h2:u < 64
  ·have e:noU u=false:=by unfold noU;simp;omega
   rw[e]
   clear e
   go_enter Tryz.func56, Tryz.ntmps56
   go_wp2
   go_ret
   exact⟨rfl,rfl⟩
  ·have e:noU u=true:=by unfold noU;simp;omega
   rw[e]
   clear e
   go_enter Tryz.func56, Tryz.ntmps56
   go_wp2
   go_ret
   exact⟨rfl,rfl⟩
theorem ybid_any (X:ByteArray) (w:World):Calls Tryz.prog 57 #[.string X] w fun e w'=>e = .returned (.bool (okI X.data.toList))∧Below w.heap.size w w':=by
 have hsz:X.data.toList.length=X.size:=by simp
 by_cases h1:X.size=16
 ·obtain⟨W,MK,BM,BB⟩:=lmake_n 16 (by decide) w
  have CV:=BM.string (cap:=16) (zr_len 16)
  have HB:Hid (Below w.heap.size w W):=BB
  have MK2:(Instr.makeSlice 70 (.int .i64 16) (.int .i64 16)).run Tryz.prog w = .ok (.slice (some ⟨w.heap.size,0,none⟩) 16 16) W:=MK
  have hs:((X.size:Nat):Int)=16:=by omega
  by_cases h2:X.data.toList=zr 16
  ·have e:okI X.data.toList=false:=by unfold okI;simp[h2]
   have QQ:(X.toList == (st (zr 16)).toList)=true:=st_eqb (a:=X) (b:=st (zr 16)) h2
   rw[e]
   obtain⟨Y,hY⟩:∃Y,st (zr 16)=Y:=⟨_,rfl⟩
   have CV2:=CV
   change (convert 70 9 (.slice (some ⟨w.heap.size,0,none⟩) 16 16)).run Tryz.prog W = .ok (.string (st (zr 16))) W at CV2
   rw[hY] at CV2
   rw[hY] at QQ
   clear BB BM e h2 hY hsz CV MK
   go_enter Tryz.func57, Tryz.ntmps57
   go_wp2
   go_ret
   exact⟨rfl,HB.out⟩
  ·have e:okI X.data.toList=true:=by unfold okI;simp[h2,h1]
   have QQ:(X.toList == (st (zr 16)).toList)=false:=st_ne (a:=X) (b:=st (zr 16)) h2
   rw[e]
   obtain⟨Y,hY⟩:∃Y,st (zr 16)=Y:=⟨_,rfl⟩
   have CV2:=CV
   change (convert 70 9 (.slice (some ⟨w.heap.size,0,none⟩) 16 16)).run Tryz.prog W = .ok (.string (st (zr 16))) W at CV2
   rw[hY] at CV2
   rw[hY] at QQ
   clear BB BM e h2 hY hsz CV MK
   go_enter Tryz.func57, Tryz.ntmps57
   go_wp2
   go_ret
   exact⟨rfl,HB.out⟩
 ·have e:okI X.data.toList=false:=by unfold okI;simp[h1]
  have hs:¬((X.size:Nat):Int)=16:=by omega
  rw[e]
  clear e hsz
  go_enter Tryz.func57, Tryz.ntmps57
  go_wp2
  go_ret
  exact⟨rfl,Below.refl _ _⟩
def fndE (E:List En) (u:Nat) (i:Bs):Int:=if i∈ids (ofE E u) then (Bx.plc E u i:Int) else -1
theorem ybat_any (a:Option Addr) (n c:Nat) (E:List En) (u:Nat) (X:ByteArray) (hn:E.length=n) (h1:n≤1000000) (w:World) (h:Hid (EnAt w a E)) :
  Calls Tryz.prog 58 #[.slice a n c,.int .i64 (u:Int),.string X] w fun e w'=>e = .returned (.int .i64 (fndE E u X.data.toList))∧w'=w:=by
 have HN:Hid (E.length=n):=hn
 clear hn
 obtain⟨r,hr⟩:∃r,fndE E u X.data.toList=r:=⟨_,rfl⟩
 have HR:Hid (fndE E u X.data.toList=r):=hr
 rw[hr]
 clear hr
 obtain⟨U,hU⟩:∃U:Int,(u:Int)=U:=⟨_,rfl⟩
 have EU:Hid ((u:Int)=U):=hU
 rw[hU]
 clear hU
 go_enter Tryz.func58, Tryz.ntmps58
 go_wp2
 go_loopw [7] (fun i wr=>∃k:Nat,k≤n∧i = .int .i64 (k:Int)∧Hid (∀j (hj:j < E.length),j < k→¬(E[j].1=u∧E[j].2.1=X.data.toList))∧w=wr) (fun i _=>n - (intOf i).toNat)
 case atStart=>exact⟨0,Nat.zero_le _,rfl,(fun j _ c=>absurd c (Nat.not_lt_zero _)),rfl⟩
 case round =>
  obtain⟨k,hk,rfl,J,rfl⟩:=hrel
  by_cases hlt:k < n
  ·have hkl:k < E.length:=by rw[HN.out];exact hlt
   have g1:(k:Int) < (n:Int):=by omega
   obtain⟨b,o,rfl,c0,c1,-⟩:=h.out k hkl
   have AT:Hid (E[k].1=u∧E[k].2.1=X.data.toList→fndE E u X.data.toList=(k:Int)):=fun hh=>by
    have hp:=Bx.plc_at E u X.data.toList k hkl (fun j hj=>J.out j (by omega) hj) hh
    have hm:=(Bx.plc_lt E u X.data.toList).1 (by rw[hp];exact hkl)
    rw[fndE,if_pos hm,hp]
   have NX:Hid (¬(E[k].1=u∧E[k].2.1=X.data.toList)→∀j (hj:j < E.length),j < k+1→¬(E[j].1=u∧E[j].2.1=X.data.toList)):=fun hh j hj hj2=>by
    rcases Nat.lt_succ_iff_lt_or_eq.1 hj2 with q|q
    ·exact J.out j hj q
    ·subst q
     exact hh
   obtain⟨⟨eu,ei,et⟩,hel⟩:∃e,E[k]=e:=⟨_,rfl⟩
   rw[hel] at c0 c1 AT NX
   clear hel
   simp only at c0 c1 AT NX
   unfold sv at c1
   obtain⟨Z,hZ⟩:∃Z:Int,(eu:Int)=Z:=⟨_,rfl⟩
   rw[hZ] at c0
   by_cases q1:eu=u
   ·have gz:Z=U:=by rw[←hZ,←EU.out,q1]
    subst gz
    by_cases q2:ei=X.data.toList
    ·have QQ:((st ei).toList == X.toList)=true:=st_eqb (a:=st ei) (b:=X) q2
     have F1:Hid ((k:Int)=r):=by show _=_;rw[←HR.out];exact (AT.out ⟨q1,q2⟩).symm
     obtain⟨Y,hY⟩:∃Y,st ei=Y:=⟨_,rfl⟩
     rw[hY] at c1 QQ
     clear hY hZ AT NX J q1 q2
     go_wp2
     go_ret
     exact⟨by rw[←F1.out];rfl,rfl⟩
    ·have QQ:((st ei).toList == X.toList)=false:=st_ne (a:=st ei) (b:=X) q2
     have F1:Hid _:=NX.out (fun c=>q2 c.2)
     obtain⟨Y,hY⟩:∃Y,st ei=Y:=⟨_,rfl⟩
     rw[hY] at c1 QQ
     clear hY hZ AT NX J q1 q2
     go_wp2
     go_roundw
     case rel=>exact⟨k+1,by omega,by go_num,F1.out,by first|rfl|trivial⟩
     case measure=>simp[intOf];omega
   ·have gz:¬Z=U:=by rw[←hZ,←EU.out];omega
    have F1:Hid _:=NX.out (fun c=>q1 c.1)
    clear hZ AT NX J q1 c1
    go_wp2
    go_roundw
    case rel=>exact⟨k+1,by omega,by go_num,F1.out,by first|rfl|trivial⟩
    case measure=>simp[intOf];omega
  ·obtain rfl:k=n:=by omega
   have g1:¬(k:Int) < (k:Int):=by omega
   have F1:Hid ((-1:Int)=r):=by
    show _=_
    have hp:=Bx.plc_none E u X.data.toList (fun j hj=>J.out j hj (by rw[←HN.out];exact hj))
    rw[←HR.out,fndE,if_neg (fun c=>by have:=(Bx.plc_lt E u X.data.toList).2 c;omega)]
   clear J
   go_wp2
   go_ret
   exact⟨by rw[←F1.out];rfl,by first|rfl|trivial⟩
def tlAt:Go.Shelf.Ren:=⟨fun x=>if x=231 then 110 else 0,fun x=>if x=3 then 3 else if x=4 then 4 else if x=5 then 5 else if x=9 then 9 else 0,fun n=>n⟩
theorem tlLies:Lays.n231 Tryz.prog tlAt :=
 { mixed:=by kernel_rfl,f231:=by kernel_rfl,t3:=by kernel_rfl,a3:=fun _=>by kernel_rfl,z3:=fun _=>by kernel_rfl,v3:=fun _=>by kernel_rfl,t4:=by kernel_rfl,a4:=fun _=>by kernel_rfl,z4:=fun _=>by kernel_rfl,v4:=fun _=>by kernel_rfl,t5:=by kernel_rfl,a5:=fun _=>by kernel_rfl,z5:=fun _=>by kernel_rfl,v5:=fun _=>by kernel_rfl,t9:=by kernel_rfl,a9:=fun _=>by kernel_rfl,z9:=fun _=>by kernel_rfl,v9:=fun _=>by kernel_rfl }
def trAt:Go.Shelf.Ren:=⟨fun x=>if x=232 then 111 else 0,fun x=>if x=3 then 3 else if x=4 then 4 else if x=5 then 5 else if x=9 then 9 else 0,fun n=>n⟩
theorem trLies:Lays.n232 Tryz.prog trAt :=
 { mixed:=by kernel_rfl,f232:=by kernel_rfl,t3:=by kernel_rfl,a3:=fun _=>by kernel_rfl,z3:=fun _=>by kernel_rfl,v3:=fun _=>by kernel_rfl,t4:=by kernel_rfl,a4:=fun _=>by kernel_rfl,z4:=fun _=>by kernel_rfl,v4:=fun _=>by kernel_rfl,t5:=by kernel_rfl,a5:=fun _=>by kernel_rfl,z5:=fun _=>by kernel_rfl,v5:=fun _=>by kernel_rfl,t9:=by kernel_rfl,a9:=fun _=>by kernel_rfl,z9:=fun _=>by kernel_rfl,v9:=fun _=>by kernel_rfl }
theorem trim_nil (l:List UInt8):Lib.trimB l 0=[]↔l=zr l.length:=by
 have all:∀m:List UInt8,m.dropWhile (· == 0)=[]↔∀x∈m,x=0:=fun m=>by
  induction m with
  | nil=>simp
  | cons y m ih =>
   by_cases c:y=0
   ·subst c
    rw[List.dropWhile_cons,if_pos (by simp),ih]
    exact⟨fun h x hx=>by rcases List.mem_cons.1 hx with hx|hx;exact hx;exact h x hx,fun h x hx=>h x (List.mem_cons_of_mem _ hx)⟩
   ·rw[List.dropWhile_cons,if_neg (by simpa using c)]
    exact⟨(fun h=>by cases h),fun h=>absurd (h y (List.mem_cons_self ..)) c⟩
 have zz:l=zr l.length↔∀x∈l,x=0:=by
  unfold zr
  rw[List.eq_replicate_iff]
  exact⟨fun h=>h.2,fun h=>⟨rfl,h⟩⟩
 rw[zz]
 unfold Lib.trimB Lib.trimLeftB Lib.trimRightB
 rw[all]
 constructor
 ·intro h
  have hn:l.reverse.dropWhile (· == 0)=[]:=by
   cases hd:l.reverse.dropWhile (· == 0) with
   | nil=>rfl
   | cons y r =>
    exfalso
    have h1:y=0:=h y (by rw[hd];simp)
    have h2:=List.head_dropWhile_not (p:=fun x:UInt8=>x == 0) (l:=l.reverse) (by rw[hd];simp)
    simp only[hd] at h2
    rw[List.head_cons,h1] at h2
    simp at h2
  intro x hx
  exact (all l.reverse).1 hn x (by simpa using hx)
 ·intro h x hx
  have hn:l.reverse.dropWhile (· == 0)=[]:=(all l.reverse).2 (fun x hx=>h x (by simpa using hx))
  rw[hn] at hx
  cases hx
set_option maxHeartbeats 1000000 in
theorem xtrim_any (X:ByteArray) (hX:X.size=16) (w:World) :
  Calls Tryz.prog 68 #[.string X,.string ⟨#[0]⟩] w fun e w'=>e = .returned (.string ⟨(Lib.trimB X.data.toList 0).toArray⟩)∧Below w.heap.size w w':=by
 have TR:Hid (∀W,Calls Tryz.prog 111 #[.string X,.int .u8 0] W fun e w'=>e = .returned (.string ⟨(Lib.trimRightB X.data.toList 0).toArray⟩)∧w'=W):=fun W=>Any.strings_trimRightByte (ρ:=trAt) trLies X 0 W (by omega)
 have TL:Hid (∀W,Calls Tryz.prog 110 #[.string ⟨(Lib.trimRightB X.data.toList 0).toArray⟩,.int .u8 0] W fun e w'=>e = .returned (.string ⟨(Lib.trimB X.data.toList 0).toArray⟩)∧w'=W):=fun W=>Any.strings_trimLeftByte (ρ:=tlAt) tlLies ⟨(Lib.trimRightB X.data.toList 0).toArray⟩ 0 W
 obtain⟨R,hR⟩:∃R:ByteArray,(⟨(Lib.trimRightB X.data.toList 0).toArray⟩:ByteArray)=R:=⟨_,rfl⟩
 obtain⟨S,hS⟩:∃R:ByteArray,(⟨(Lib.trimB X.data.toList 0).toArray⟩:ByteArray)=R:=⟨_,rfl⟩
 rw[hR] at TR TL
 rw[hS] at TL ⊢
 have hne:(X.toList == ([]:List UInt8))=false:=by
  rw[ByteArray.toList_eq]
  refine beq_eq_false_iff_ne.2 fun c => ?_
  have:X.data.toList.length=X.size:=by simp
  rw[c] at this
  simp at this
  omega
 have hne2:X.toList≠[]:=fun c=>by rw[c] at hne;simp at hne
 have hne3:X.isEmpty=false:=by
  rw[ByteArray.isEmpty]
  simp[hX]
 clear hR hS
 go_enter Tryz.func68, Tryz.ntmps68
 go_wp2_with fail
 go_region_with (first|(go_at_call 111;refine Calls.mono (TR.out _) ?_;rintro e w1 ⟨rfl,rfl⟩)|(go_at_call 110;refine Calls.mono (TL.out _) ?_;rintro e w2 ⟨rfl,rfl⟩))
 all_goals
  go_wp2
  go_ret
  exact⟨rfl,(Below.refl _ _).drew⟩
theorem okI_of (X:ByteArray) (h:X.size=16):okI X.data.toList=!decide (Lib.trimB X.data.toList 0=[]):=by
 have hl:X.data.toList.length=16:=by rw[←h];simp
 unfold okI
 rw[decide_eq_true hl,Bool.true_and]
 have e:=trim_nil X.data.toList
 rw[hl] at e
 by_cases c:X.data.toList=zr 16
 ·rw[decide_eq_true c,decide_eq_true (e.2 c)]
 ·rw[decide_eq_false c,decide_eq_false (fun z=>c (e.1 z))]
set_option maxHeartbeats 1000000 in
theorem xid_any (X:ByteArray) (w:World):Calls Tryz.prog 38 #[.string X] w fun e w'=>e = .returned (.bool (okI X.data.toList))∧Below w.heap.size w w':=by
 by_cases h:X.size=16
 ·have g:(X.size:Int)=16:=by omega
  have TM:Hid _:=xtrim_any X h w
  have E:=okI_of X h
  by_cases c:Lib.trimB X.data.toList 0=[]
  ·rw[decide_eq_true c] at E
   rw[E]
   rw[c] at TM
   clear c E h
   go_enter Tryz.func38, Tryz.ntmps38
   go_wp2_with fail
   refine Calls.mono TM.out ?_
   rintro e w1 ⟨rfl,hb⟩
   have FF:Hid _:=hb
   clear TM hb
   go_wp2
   go_ret
   exact⟨rfl,FF.out⟩
  ·rw[decide_eq_false c] at E
   rw[E]
   obtain⟨R,hR⟩:∃R:ByteArray,(⟨(Lib.trimB X.data.toList 0).toArray⟩:ByteArray)=R:=⟨_,rfl⟩
   rw[hR] at TM
   have hne:(R.toList == ([]:List UInt8))=false:=by
    rw[ByteArray.toList_eq,←hR]
    exact beq_eq_false_iff_ne.2 c
   have hne2:R.toList≠[]:=fun c=>by rw[c] at hne;simp at hne
   have hne3:R.isEmpty=false:=by
    have:R.data.toList≠[]:=by rw[←hR];exact c
    rw[ByteArray.isEmpty]
    have h0:R.size≠0:=fun z=>this (List.length_eq_zero_iff.1 (by rw[←z];simp))
    simpa using h0
   clear c E h hR
   go_enter Tryz.func38, Tryz.ntmps38
   go_wp2_with fail
   refine Calls.mono TM.out ?_
   rintro e w1 ⟨rfl,hb⟩
   have FF:Hid _:=hb
   clear TM hb
   go_wp2
   go_ret
   exact⟨rfl,FF.out⟩
 ·have g:¬(X.size:Int)=16:=by omega
  have E:okI X.data.toList=false:=by
   unfold okI
   rw[decide_eq_false (by intro c;apply h;rw[←c];simp),Bool.false_and]
  rw[E]
  clear E h
  go_enter Tryz.func38, Tryz.ntmps38
  go_wp2
  go_ret
  exact⟨rfl,Below.refl _ _⟩
set_option maxHeartbeats 1000000 in
theorem xbyte_any (u:Nat) (hu:u < 64) (w:World):Calls Tryz.prog 73 #[.int .i64 (u:Int)] w fun e w'=>e = .returned (.string (st [UInt8.ofNat u]))∧Below w.heap.size w w':=by
 have e0:(u:Int) % 256=(u:Int):=by omega
 have e1:IntKind.u8.wrap (u:Int)=(u:Int):=by
  have:IntKind.u8.wrap (u:Int)=(u:Int) % 256:=by first|rfl|simp[IntKind.wrap]
  rw[this,e0]
 have BA:BytesAt (w.alloc (.cells #[.int .u8 (u:Int)] 5)) w.heap.size [UInt8.ofNat u]:=fun j hj=>by
  obtain rfl:j=0:=by simp at hj;exact hj
  refine⟨?_,by simp[go_sem]⟩
  rw[World.cell?_alloc_new]
  show some _=some (Value.int .u8 ((UInt8.ofNat u).toNat:Int))
  rw[UInt8.toNat_ofNat',Nat.mod_eq_of_lt (show u < 2 ^ 8 by omega)]
  rfl
 have CV:=BA.string (cap:=1) (n:=1) rfl
 have FF:Hid (Below w.heap.size w (w.alloc (.cells #[.int .u8 (u:Int)] 5))):=nb w _
 obtain⟨R,hR⟩:∃R:ByteArray,st [UInt8.ofNat u]=R:=⟨_,rfl⟩
 have CV2:(convert 70 9 (.slice (some ⟨w.heap.size,0,none⟩) 1 1)).run Tryz.prog (w.alloc (.cells #[.int .u8 (u:Int)] 5)) = .ok (.string R) (w.alloc (.cells #[.int .u8 (u:Int)] 5)):=by rw[←hR];exact CV
 rw[hR]
 obtain⟨z,hz⟩:∃z:Int,(u:Int)=z:=⟨_,rfl⟩
 rw[hz] at e0 e1 CV2 FF ⊢
 clear CV BA hR hz
 go_enter Tryz.func73, Tryz.ntmps73
 go_wp2
 go_ret
 exact⟨rfl,FF.out⟩
theorem put_st (u:Nat) (i t:Bs):st (putR u i t)=(⟨#[80]⟩:ByteArray)++st [UInt8.ofNat u]++st i++st t:=by
 have e:putR u i t=[80]++[UInt8.ofNat u]++i++t:=by unfold putR;simp
 rw[e,←st_app,←st_app,←st_app]
 rfl
theorem ack_st (u:Nat) (i:Bs):st (ackR u i)=(⟨#[65]⟩:ByteArray)++st [UInt8.ofNat u]++st i:=by
 have e:ackR u i=[65]++[UInt8.ofNat u]++i:=by unfold ackR;simp
 rw[e,←st_app,←st_app]
 rfl
set_option maxHeartbeats 1000000 in
theorem xput_any (u:Nat) (hu:u < 64) (i t:Bs) (hi:i.length=16) (ht:t.length≤222) (w:World):Calls Tryz.prog 42 #[.int .i64 (u:Int),.string (st i),.string (st t)] w fun e w'=>e = .returned (.string (st (putR u i t)))∧Below w.heap.size w w':=by
 have UB:Hid _:=xbyte_any u hu w
 have s0:(st [UInt8.ofNat u]).size=1:=st_size _
 have s1:(st i).size=16:=by rw[st_size,hi]
 have s2:(st t).size≤222:=by rw[st_size];exact ht
 rw[put_st]
 obtain⟨U,hU⟩:∃R:ByteArray,st [UInt8.ofNat u]=R:=⟨_,rfl⟩
 obtain⟨I,hI⟩:∃R:ByteArray,st i=R:=⟨_,rfl⟩
 obtain⟨T,hT⟩:∃R:ByteArray,st t=R:=⟨_,rfl⟩
 rw[hU] at UB s0 ⊢
 rw[hI] at s1 ⊢
 rw[hT] at s2 ⊢
 clear hU hI hT hi ht
 go_enter Tryz.func42, Tryz.ntmps42
 go_wp2_with fail
 refine Calls.mono UB.out ?_
 rintro e w1 ⟨rfl,hb⟩
 have FF:Hid _:=hb
 clear UB hb
 go_wp2
 go_ret
 exact⟨rfl,FF.out⟩
set_option maxHeartbeats 1000000 in
theorem xack_any (u:Nat) (hu:u < 64) (i:Bs) (hi:i.length=16) (w:World):Calls Tryz.prog 75 #[.int .i64 (u:Int),.string (st i)] w fun e w'=>e = .returned (.string (st (ackR u i)))∧Below w.heap.size w w':=by
 have UB:Hid _:=xbyte_any u hu w
 have s0:(st [UInt8.ofNat u]).size=1:=st_size _
 have s1:(st i).size=16:=by rw[st_size,hi]
 rw[ack_st]
 obtain⟨U,hU⟩:∃R:ByteArray,st [UInt8.ofNat u]=R:=⟨_,rfl⟩
 obtain⟨I,hI⟩:∃R:ByteArray,st i=R:=⟨_,rfl⟩
 rw[hU] at UB s0 ⊢
 rw[hI] at s1 ⊢
 clear hU hI hi
 go_enter Tryz.func75, Tryz.ntmps75
 go_wp2_with fail
 refine Calls.mono UB.out ?_
 rintro e w1 ⟨rfl,hb⟩
 have FF:Hid _:=hb
 clear UB hb
 go_wp2
 go_ret
 exact⟨rfl,FF.out⟩
end Go.Proofs.YtjpaodepnacimaaGreatDoor
