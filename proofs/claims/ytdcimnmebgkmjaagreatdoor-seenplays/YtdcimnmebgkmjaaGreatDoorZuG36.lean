/- A list of acts as an argument: its parts,read. -/
import Derived.Test.YtdcimnmebgkmjaaGreatDoorZuG35
import Derived.WalkKit
import Derived.ProofKit
import Derived.OpenShut
import Derived.ShutString
import Derived.ChangeOld
import Derived.ChangeArms
import Derived.SizedLaws
import Derived.Deep.Slices
import Derived.Deep.Fields
namespace Go.Proofs.YtdcimnmebgkmjaaGreatDoor
open Go.ChangeShapes Go.WideShapes Go.Deep Go.RowKit Go.Proofs.Fd Go.Proofs.Dk Go.Proofs.Lg
set_option maxRecDepth 20000
section
variable {H:Type} {enc:TypeId×Value→H} {w:World} {base:Nat} {sp:Nat→Bool} {held:Bool}
theorem add_up (b o k:Nat):Addr.add ⟨b,o,none⟩ k=⟨b,o+k,none⟩:=by first|(simp[Addr.add];done)|(simp[Addr.add];intro h;simp[h])
theorem weights_all {P:Program} {e:TypeId}:∀{l:List (DataW H)} {d:DataW H},d∈l→∀n∈d.weights P e,n∈DataW.weightsAll P e l
 | [],_,h,_,_=>by cases h
 | x::l,d,h,n,hn=>by
  rw[DataW.weightsAll,List.mem_append]
  rcases List.mem_cons.1 h with rfl|h
  ·exact .inl hn
  ·exact .inr (weights_all h n hn)
theorem nums_of {fuel:Nat} {cs:List Value} {x:DataW H×List MemPlace} (hf:DataW.trod enc Tryz.prog w base sp held fuel 38 cs=some x) (hw:∀n∈x.1.weights Tryz.prog 38, n≤reachBytes) :
  ∃a n c is,cs=[.slice a n c]∧IntAt w a is∧is.length=n∧(a=none→n=0∧c=0)∧n*8≤140737488351232:=by
 rcases open_slice1 Tryz.underlying38 (by kernel_rfl) hf with ⟨h0,rfl⟩|⟨a,len,cap,m,n,V,D,Pl,rfl,hb,hl,hm,hmm,rfl,hx⟩
 ·exact⟨none,0,0,[],h0,fun i hi=>absurd hi (Nat.not_lt_zero _),rfl,fun _=>⟨rfl,rfl⟩,by decide⟩
 have hlm:len≤m:=by rw[hmm];split <;> omega
 obtain⟨f,hfn⟩:=choose_lt (n:=len) (p:=fun i (z:Int)=>w.cell? (a.add i)=some (.int .i64 z)) (fun i hi=>by
  obtain⟨h1,h2⟩:=hx i (by omega)
  obtain⟨z,hz,-⟩:=DataW.trod_int Tryz.underlying3 h2
  have e:V i = .int .i64 z:=by injection hz
  exact⟨z,by rw[h1,e]⟩)
 have hz:(len+(m - len))*Tryz.prog.bytesOf 3 ≤ reachBytes:=hw _ (by simp[DataW.weights,Tryz.underlying38])
 rw[show Tryz.prog.bytesOf 3 = 8 by kernel_rfl] at hz
 unfold reachBytes at hz
 refine⟨some a,len,cap,(List.range len).map f,rfl,fun i hi => ?_,by simp,nofun,by omega⟩
 have hi':i < len:=by simpa using hi
 have hsp:a.spot=none:=by
  have:=World.cell?_spot (hfn 0 (by omega))
  simpa[Addr.add] using this
 obtain⟨b,o,spot⟩:=a
 simp only at hsp
 subst hsp
 have e0:=hfn i hi'
 rw[add_up] at e0
 refine⟨b,o,rfl,?_⟩
 rw[List.getElem_map,List.getElem_range]
 exact e0
theorem act_of {fuel:Nat} {cs:List Value} {x:DataW H×List MemPlace} (hf:DataW.trod enc Tryz.prog w base sp held fuel 50 cs=some x) (hw:∀n∈x.1.weights Tryz.prog 50, n≤reachBytes):∃s:Ac,cs=[.int .i64 s.k,.int .i64 s.n,.string s.t,.slice s.pa s.pn s.pc]∧s.L w:=by
 obtain⟨xs,n,rfl,rfl,hl,hxl,hff⟩:=DataW.trod_struct Tryz.underlying50 hf
 rw[show Tryz.prog.cellsOf 50 = 4 by kernel_rfl] at hl
 obtain⟨y0,y1,y2,y4,rfl⟩:∃y0 y1 y2 y4,cs=[y0,y1,y2,y4]:=by
  match cs,hl with
  | [y0,y1,y2,y4],_=>exact⟨y0,y1,y2,y4,rfl⟩
 obtain⟨x0,x1,x2,x4,rfl⟩:∃x0 x1 x2 x4,xs=[x0,x1,x2,x4]:=by
  match xs,hxl with
  | [x0,x1,x2,x4],_=>exact⟨x0,x1,x2,x4,rfl⟩
 have cc:Tryz.prog.cellsOf 3 = 1:=by kernel_rfl
 have ct:Tryz.prog.cellsOf 9 = 1:=by kernel_rfl
 have cp:Tryz.prog.cellsOf 38 = 1:=by kernel_rfl
 have g0:DataW.trod enc Tryz.prog w base sp held n 3 (List.take (Tryz.prog.cellsOf 3) (List.drop 0 [y0,y1,y2,y4]))=some x0:=hff 0 _ rfl
 have g1:DataW.trod enc Tryz.prog w base sp held n 3 (List.take (Tryz.prog.cellsOf 3) (List.drop 1 [y0,y1,y2,y4]))=some x1:=hff 1 _ rfl
 have g2:DataW.trod enc Tryz.prog w base sp held n 9 (List.take (Tryz.prog.cellsOf 9) (List.drop 2 [y0,y1,y2,y4]))=some x2:=hff 2 _ rfl
 have g4:DataW.trod enc Tryz.prog w base sp held n 38 (List.take (Tryz.prog.cellsOf 38) (List.drop 3 [y0,y1,y2,y4]))=some x4:=hff 3 _ rfl
 rw[cc] at g0 g1
 rw[ct] at g2
 rw[cp] at g4
 obtain⟨a,ha,-⟩:=DataW.trod_int Tryz.underlying3 g0
 obtain⟨b,hb,-⟩:=DataW.trod_int Tryz.underlying3 g1
 obtain⟨c,hc,-⟩:=DataW.trod_string Tryz.underlying9 g2
 obtain⟨pa,pn,pc,ps,hp,p1,p2,p3,p4⟩:=nums_of g4 (fun q hq=>hw q (by
  simp only[DataW.weights,Tryz.underlying50]
  exact DataW.weights_mem_each (j:=3) (t := 38) (d:=x4.1) rfl rfl q hq))
 have ha':[y0]=[.int .i64 a]:=ha
 have hb':[y1]=[.int .i64 b]:=hb
 have hc':[y2]=[.string c]:=hc
 have hp':[y4]=[.slice pa pn pc]:=hp
 cases ha'
 cases hb'
 cases hc'
 cases hp'
 exact⟨⟨a,b,c,pa,pn,pc,ps⟩,rfl,p1,p2⟩
theorem acts_of {fuel:Nat} {cs:List Value} {x:DataW H×List MemPlace} (hf:DataW.trod enc Tryz.prog w base sp held fuel 42 cs=some x) (hw:∀n∈x.1.weights Tryz.prog 42, n≤reachBytes) :
  ∃a n c ss,cs=[.slice a n c]∧ActAt w a ss∧ss.length=n∧∀x∈ss,x.L w:=by
 rcases open_slice Tryz.underlying42 hf with ⟨h0,rfl⟩|⟨a,len,cap,m,n,D,Pl,rfl,hb,hl,hm,hmm,rfl,hx⟩
 ·exact⟨none,0,0,[],h0,fun i hi=>absurd hi (Nat.not_lt_zero _),rfl,fun x hx=>by cases hx⟩
 have hlm:len≤m:=by rw[hmm];split <;> omega
 obtain⟨f,hfn⟩:=@choose_lt Ac ⟨⟨0,0,⟨#[]⟩,none,0,0,[]⟩⟩ len ( fun i (h:Ac)=>(w.cell? (a.add (i*4))=some (.int .i64 h.k)∧w.cell? (a.add (i*4+1))=some (.int .i64 h.n)∧w.cell? (a.add (i*4+2))=some (.string h.t)∧w.cell? (a.add (i*4+3))=some (.slice h.pa h.pn h.pc))∧h.L w) (fun i hi=>by
  obtain⟨cs',h1,h2⟩:=hx i (by omega)
  obtain⟨h,rfl,hr⟩:=act_of h2 (fun q hq=>hw q (by
   simp only[DataW.weights,Tryz.underlying42]
   refine List.mem_cons_of_mem _ (List.mem_append.2 (.inl (weights_all (d:=D i) ?_ q hq)))
   exact List.mem_map.2 ⟨i,List.mem_range.2 hi,rfl⟩))
  rw[show Tryz.prog.cellsOf 50 = 4 by kernel_rfl] at h1
  obtain⟨-,-,hc⟩:=World.cells?_some h1
  have e0:=hc 0 (by omega)
  have e1:=hc 1 (by omega)
  have e2:=hc 2 (by omega)
  have e3:=hc 3 (by omega)
  rw[add_add] at e0 e1 e2 e3
  exact⟨h,⟨e0,e1,e2,e3⟩,hr⟩)
 refine⟨some a,len,cap,(List.range len).map f,rfl,fun i hi => ?_,by simp,fun x hx => ?_⟩
 ·have hi':i < len:=by simpa using hi
  have hsp:a.spot=none:=by
   have:=World.cell?_spot (hfn 0 (by omega)).1.1
   simpa[Addr.add] using this
  obtain⟨b,o,spot⟩:=a
  simp only at hsp
  subst hsp
  obtain⟨⟨e0,e1,e2,e3⟩,-⟩:=hfn i hi'
  rw[add_up] at e0 e1 e2 e3
  refine⟨b,o,rfl,?_⟩
  rw[List.getElem_map,List.getElem_range]
  exact⟨e0,by rw[Nat.add_assoc];exact e1,by rw[Nat.add_assoc];exact e2,by rw[Nat.add_assoc];exact e3⟩
 ·rw[List.mem_map] at hx
  obtain⟨i,hi,rfl⟩:=hx
  exact (hfn i (List.mem_range.1 hi)).2
end
end Go.Proofs.YtdcimnmebgkmjaaGreatDoor
