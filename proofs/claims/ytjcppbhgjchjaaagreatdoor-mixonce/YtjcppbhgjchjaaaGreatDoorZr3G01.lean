/- A part of the walk. -/
import Derived.Test.YtjcppbhgjchjaaaGreatDoorProg
import Derived.WalkKit
import Derived.WalkSpells
import Derived.WalkLawsBesides
import Derived.Shelf.Spec.BitsCarry
import Derived.Maps.AppendAt
import Derived.Deep.RegionHeld3
import Derived.Deep.DrawnRows
import Derived.Deep.DeepCutAuto
import Derived.Deep.QuietTactic
import Derived.BigQuiet
import Derived.Laws.IdiomStrings
set_option maxHeartbeats 8000000
set_option maxRecDepth 20000
namespace Go.Proofs
open Go.RowKit
abbrev Ba:=ByteArray
abbrev Wo:=World
theorem cM {P:Program} {f:FuncId} {a:Array Value} {w:Wo} {R R':Ending->Wo->Prop} (h:Calls P f a w R) (k:∀e w',R e w'->R' e w'):Calls P f a w R':=Calls.mono h k
theorem nL (n:Nat):n<=n:=Nat.le_refl n
theorem bQ (b:Nat) (w:Wo):Below b w w:=Below.refl b w
abbrev Z64:List Value:=Value.int .u8 0::Value.int .u8 0::Value.int .u8 0::Value.int .u8 0::Value.int .u8 0::Value.int .u8 0::Value.int .u8 0::Value.int .u8 0::Value.int .u8 0::Value.int .u8 0::Value.int .u8 0::Value.int .u8 0::Value.int .u8 0::Value.int .u8 0::Value.int .u8 0::Value.int .u8 0::Value.int .u8 0::Value.int .u8 0::Value.int .u8 0::Value.int .u8 0::Value.int .u8 0::Value.int .u8 0::Value.int .u8 0::Value.int .u8 0::Value.int .u8 0::Value.int .u8 0::Value.int .u8 0::Value.int .u8 0::Value.int .u8 0::Value.int .u8 0::Value.int .u8 0::Value.int .u8 0::Value.int .u8 0::Value.int .u8 0::Value.int .u8 0::Value.int .u8 0::Value.int .u8 0::Value.int .u8 0::Value.int .u8 0::Value.int .u8 0::Value.int .u8 0::Value.int .u8 0::Value.int .u8 0::Value.int .u8 0::Value.int .u8 0::Value.int .u8 0::Value.int .u8 0::Value.int .u8 0::Value.int .u8 0::Value.int .u8 0::Value.int .u8 0::Value.int .u8 0::Value.int .u8 0::Value.int .u8 0::Value.int .u8 0::Value.int .u8 0::Value.int .u8 0::Value.int .u8 0::Value.int .u8 0::Value.int .u8 0::Value.int .u8 0::Value.int .u8 0::Value.int .u8 0::Value.int .u8 0::[]
abbrev Bw (w w':Wo):Prop:=Below w.heap.size w w'
abbrev Cl:=Calls Tryz.prog
abbrev eP (n:Nat):Edge:={ on:=n,ground:=Go.Ground.phase }
abbrev eD (n:Nat):Edge:={ on:=n,ground:=Go.Ground.data }
abbrev eC (n:Nat):Edge:={ on:=n,ground:=Go.Ground.chain }
end Go.Proofs
namespace Go.Proofs.Fd
open Go.RowKit
theorem zaj {W w1:Wo} {b o:Nat} (hb:Below W.heap.size W w1) (hl:b < W.heap.size):w1.cell? ⟨b,o,none⟩=W.cell? ⟨b,o,none⟩:=hb.cell hl
theorem zae {W w1:Wo} {b o:Nat} (hb:Below W.heap.size W w1) (hl:b < W.heap.size):w1.frozen? ⟨b,o,none⟩=W.frozen? ⟨b,o,none⟩:=hb.frozen hl
theorem zab {W:Wo} {o:Obj} {a:Addr} {v:Value} (h:W.cell? a=some v):(W.alloc o).cell? a=some v:=cell_later ((bQ _ W).alloc (nL _) o) h
theorem zaa {W:Wo} {b:Addr} {x:Value} {a:Addr} {v:Value} (h:W.cell? a=some v) (hne:b.block≠a.block):(W.setCell b x).cell? a=some v :=
 (World.cell?_of_block (Below.heap_setCell W b x a.block (Ne.symm hne))).trans h
def At4 (w:Wo) (b:Nat) (x0 x1 x2 x3:Value):Prop :=
 (∀o,w.frozen? ⟨b,o,none⟩=false)/\w.cell? ⟨b,0,none⟩=some x0/\w.cell? ⟨b,1,none⟩=some x1/\w.cell? ⟨b,2,none⟩=some x2/\w.cell? ⟨b,3,none⟩=some x3
theorem At4.later {W w1:Wo} {b:Nat} {x0 x1 x2 x3:Value} (h:At4 W b x0 x1 x2 x3) (hb:Below W.heap.size W w1):At4 w1 b x0 x1 x2 x3:=by
 obtain⟨f,h0,h1,h2,h3⟩:=h;have hl:b < W.heap.size:=World.block_lt_of_cell? _ _ h0;exact⟨fun o=>(zae hb hl).trans (f o),cell_later hb h0,cell_later hb h1,cell_later hb h2,cell_later hb h3⟩
def At8 (w:Wo) (b:Nat) (x0 x1 x2 x3 x4 x5 x6 x7:Value):Prop :=
 (∀o,w.frozen? ⟨b,o,none⟩=false)/\w.cell? ⟨b,0,none⟩=some x0/\w.cell? ⟨b,1,none⟩=some x1/\w.cell? ⟨b,2,none⟩=some x2/\w.cell? ⟨b,3,none⟩=some x3
  /\ w.cell? ⟨b,4,none⟩=some x4/\w.cell? ⟨b,5,none⟩=some x5/\w.cell? ⟨b,6,none⟩=some x6/\w.cell? ⟨b,7,none⟩=some x7
theorem chain {w W wz:Wo} (h1:Below w.heap.size w W) (hb:Below W.heap.size W wz):Below w.heap.size w wz:=h1.trans (hb.mono h1.size)
theorem zag {W:Wo} {b:Addr} {x:Value} {a:Addr} (hne:b.block≠a.block):(W.setCell b x).frozen? a=W.frozen? a :=
 World.frozen?_of_block (Below.heap_setCell W b x a.block (Ne.symm hne))
theorem At4.set {W:Wo} {b:Nat} {x0 x1 x2 x3:Value} (h:At4 W b x0 x1 x2 x3) {a:Addr} (hne:a.block≠b) (v:Value):At4 (W.setCell a v) b x0 x1 x2 x3:=by
 obtain⟨f,h0,h1,h2,h3⟩:=h;exact⟨fun o=>(zag hne).trans (f o),zaa h0 hne,zaa h1 hne,zaa h2 hne,zaa h3 hne⟩
theorem At8.set {W:Wo} {b:Nat} {x0 x1 x2 x3 x4 x5 x6 x7:Value} (h:At8 W b x0 x1 x2 x3 x4 x5 x6 x7) {a:Addr} (hne:a.block≠b) (v:Value):At8 (W.setCell a v) b x0 x1 x2 x3 x4 x5 x6 x7:=by
 obtain⟨f,h0,h1,h2,h3,h4,h5,h6,h7⟩:=h;exact⟨fun o=>(zag hne).trans (f o),zaa h0 hne,zaa h1 hne,zaa h2 hne,zaa h3 hne,zaa h4 hne,zaa h5 hne,zaa h6 hne,zaa h7 hne⟩
theorem At4.drew {W:Wo} {b:Nat} {x0 x1 x2 x3:Value} (h:At4 W b x0 x1 x2 x3):At4 W.drew b x0 x1 x2 x3:=h
theorem At8.drew {W:Wo} {b:Nat} {x0 x1 x2 x3 x4 x5 x6 x7:Value} (h:At8 W b x0 x1 x2 x3 x4 x5 x6 x7):At8 W.drew b x0 x1 x2 x3 x4 x5 x6 x7:=h
theorem At4.whole {w:Wo} {b:Nat} {x0 x1 x2 x3:Value} (h:At4 w b x0 x1 x2 x3) (y0 y1 y2 y3:Value) :
  At4 ((((w.setCell ⟨b,0,none⟩ y0).setCell ⟨b,1,none⟩ y1).setCell ⟨b,2,none⟩ y2).setCell ⟨b,3,none⟩ y3) b y0 y1 y2 y3:=by
 obtain⟨f,h0,h1,h2,h3⟩:=h;refine⟨fun o=>by simp[go_sem,f],?_,?_,?_,?_⟩ <;> simp[go_sem,h0,h1,h2,h3]
theorem At4.put {w:Wo} {b c:Nat} {x0 x1 x2 x3:Value} (h:At4 w b x0 x1 x2 x3) (hne:c≠b) (y0 y1 y2 y3:Value) :
  At4 ((((w.setCell ⟨c,0,none⟩ y0).setCell ⟨c,1,none⟩ y1).setCell ⟨c,2,none⟩ y2).setCell ⟨c,3,none⟩ y3) b x0 x1 x2 x3 :=
 ((((h.set (a:=⟨c,0,none⟩) hne _).set (a:=⟨c,1,none⟩) hne _).set (a:=⟨c,2,none⟩) hne _).set (a:=⟨c,3,none⟩) hne _)
theorem zaI {B:Nat} {a w:Wo} (h:Below B a w) {c:Nat} (hc:B<=c) (y0 y1 y2 y3:Value) :
  Below B a ((((w.setCell ⟨c,0,none⟩ y0).setCell ⟨c,1,none⟩ y1).setCell ⟨c,2,none⟩ y2).setCell ⟨c,3,none⟩ y3) :=
 (((h.setCell (p:=⟨c,0,none⟩) hc _).setCell (p:=⟨c,1,none⟩) hc _).setCell (p:=⟨c,2,none⟩) hc _).setCell (p:=⟨c,3,none⟩) hc _
theorem wT {P:Program} {ops:Array Oper} {Q:Exit->Act->Wo->Prop} {md:Region.Mode} {S:Wo->Prop} (i:Nat) (oi:Oper) {fuel:Nat} {listed:Array Bool} {a:Act} {w:Wo} (v:Value) (hv:∀w,S w->(execOp a.eval oi).run P w = .ok (.value v) w) (h:wpAnyH P md ops Q S fuel (listed.setIfInBounds i true) (a.put oi.dst v) w) (hi:ops[i]?=some oi:=by rfl) (hs:Region.noSelect ops=true:=by kernel_rfl) (hf:Region.free md ops listed i=true:=by kernel_rfl) (hr:(Region.ready md ops listed).contains i=true:=by kernel_rfl) (hQ:∀c a w,Q (.panic c) (a.put oi.dst v) w->Q (.panic c) a w:=by exact fun _ _ _ h=>h) (hw:Region.wanted oi (yielded ops a.tmps)=true:=by rfl) (hS:S w:=by assumption):wpAnyH P md ops Q S (fuel+1) listed a w:=wpAnyH_take hi hs hf hr hQ (Or.inl ⟨hw,hv⟩) hS h
theorem wA {α:Type} (xs:List α) (i:Nat) (v:α):xs.toArray.setIfInBounds i v=(xs.set i v).toArray:=List.setIfInBounds_toArray ..
theorem wB {α:Type} (x:α) (xs:List α) (v:α):(x::xs).set 0 v=v::xs:=List.set_cons_zero ..
theorem wC {α:Type} (x:α) (xs:List α) (n:Nat) (v:α):(x::xs).set (n+1) v=x::xs.set n v:=List.set_cons_succ ..
end Go.Proofs.Fd
namespace Go.Proofs.YtjcppbhgjchjaaaGreatDoor
open Go.RowKit Go.Proofs.Fd
def BytesAt (w:Wo) (b:Nat) (l:List UInt8):Prop:=∀j (hj:j < l.length),w.cell? ⟨b,j,none⟩=some (.int .u8 (l[j].toNat:Int))/\w.frozen? ⟨b,j,none⟩=false
theorem BytesAt.later {W w1:Wo} {b:Nat} {l:List UInt8} (h:BytesAt W b l) (hb:Below W.heap.size W w1):BytesAt w1 b l:=fun j hj=>by
 obtain⟨h0,h1⟩:=h j hj;exact⟨cell_later hb h0,(zae hb (World.block_lt_of_cell? _ _ h0)).trans h1⟩
theorem BytesAt.set {w:Wo} {b:Nat} {l:List UInt8} (h:BytesAt w b l) (k:Nat) (x:UInt8) (v:Int) (hv:v=(x.toNat:Int)):BytesAt (w.setCell ⟨b,k,none⟩ (.int .u8 v)) b (l.set k x):=fun j hj=>by
 subst hv;obtain⟨h0,h1⟩:=h j (by simpa using hj);refine⟨?_,by simp[go_sem,h1]⟩;by_cases e:k=j
 ·subst e;simp[go_sem,h0]
 ·have hne:(⟨b,k,none⟩:Addr)≠⟨b,j,none⟩:=fun q=>e (by injection q)
  rw[World.cell?_setCell_other _ _ _ _ hne,h0];simp[e]
theorem BytesAt.other {w:Wo} {b:Nat} {l:List UInt8} (h:BytesAt w b l) {a:Addr} (hne:a.block≠b) (v:Value):BytesAt (w.setCell a v) b l:=fun j hj =>
 ⟨zaa (h j hj).1 hne,(zag hne).trans (h j hj).2⟩
theorem BytesAt.string {w:Wo} {b cap n:Nat} {l:List UInt8} (h:BytesAt w b l) (hn:l.length=n) :
  (convert 99 9 (.slice (some ⟨b,0,none⟩) n cap)).run Tryz.prog w = .ok (.string ⟨l.toArray⟩) w:=by
 subst hn;exact run_convert_bytes_back (P:=Tryz.prog) w 99 9 5 ⟨b,0,none⟩ cap l Tryz.underlying99 Tryz.underlying5 Tryz.underlying9 (fun j hj=>by
  have q:Addr.add ⟨b,0,none⟩ j=⟨b,j,none⟩:=by simp[Addr.add];intro h;exact h.symm
  rw[q];exact (h j hj).1)
theorem bytes_of (s:Ba) (w:Wo):∃(cap:Nat) (W:Wo),(convert 9 99 (.string s)).run Tryz.prog w = .ok (.slice (some ⟨w.heap.size,0,none⟩) s.size cap) W
  /\ BytesAt W w.heap.size s.data.toList/\Below w.heap.size w W/\s.size<=cap:=by
 refine⟨_,_,run_bytes_of_string (P:=Tryz.prog) w 9 99 5 s Tryz.underlying9 Tryz.underlying99 Tryz.underlying5, ?_,?_,?_⟩
 ·intro j hj
  have hj':j < s.data.size:=by simpa using hj
  generalize grownCap w s.size 0 5 = cap;have hc:=bytesRow_at s cap j hj';have hlt:j < (bytesRow s cap).size:=by
   obtain⟨h,_⟩:=Array.getElem?_eq_some_iff.1 hc;exact h
  refine⟨?_,?_⟩
  ·show (w.drew.alloc _).cell? ⟨w.drew.heap.size,j,none⟩=_
   rw[World.cell?_alloc_mark,hc];simp
  ·show (w.drew.alloc _).frozen? ⟨w.drew.heap.size,j,none⟩=false
   rw[World.frozen?_alloc_mark];have:¬(bytesRow s cap).size<=j:=by omega
   simp[this]
 ·exact (bQ _ w).drew.alloc (nL _) _
 ·exact grownCap_ge _ _ _ _
end Go.Proofs.YtjcppbhgjchjaaaGreatDoor
