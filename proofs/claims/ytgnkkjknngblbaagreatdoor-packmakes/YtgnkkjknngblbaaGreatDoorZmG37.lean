/- Parts: PkB,PkW,HR1,HP1. -/
import Derived.Test.YtgnkkjknngblbaaGreatDoorZmG36
import Derived.Deep.RegionHeld3
import Derived.Test.YtgnkkjknngblbaaGreatDoorZmG30
import Derived.Test.YtgnkkjknngblbaaGreatDoorZmG33
import Derived.Test.YtgnkkjknngblbaaGreatDoorZmG29
namespace Go.Proofs.YtgnkkjknngblbaaGreatDoor
open Go.RowKit Go.Proofs.Fd Go.Proofs.Hs Go.Proofs.Cc Go.Proofs.Hd Go.Proofs.Rt Go.Proofs.Wd
set_option maxRecDepth 20000
def PdAt (w:World) (b:Nat) (x:Hp) (n t s:ByteArray):Prop :=
 (∀o,w.frozen? ⟨b,o,none⟩=false)∧w.cell? ⟨b,0,none⟩=some (.int .i64 x.k)∧w.cell? ⟨b,1,none⟩=some (.int .i64 x.n)∧w.cell? ⟨b,2,none⟩=some (.int .i64 x.u)∧w.cell? ⟨b,3,none⟩=some (.int .i64 x.d)∧w.cell? ⟨b,4,none⟩=some (.string x.id)
  ∧ w.cell? ⟨b,5,none⟩=some (.string n)∧w.cell? ⟨b,6,none⟩=some (.string t)∧w.cell? ⟨b,7,none⟩=some (.string s)
theorem PdAt.new (w:World) (ty:TypeId) (k n u d:Int) (id nx t s:ByteArray):PdAt (w.alloc (.cells #[.int .i64 k,.int .i64 n,.int .i64 u,.int .i64 d,.string id,.string nx,.string t,.string s] ty)) w.heap.size ⟨k,n,u,d,id⟩ nx t s :=
 ⟨fun o=>by simp[go_sem],by simp[go_sem],by simp[go_sem],by simp[go_sem],by simp[go_sem],by simp[go_sem],by simp[go_sem],by simp[go_sem],by simp[go_sem]⟩
theorem PdAt.later {w w':World} {b:Nat} {x:Hp} {n t s:ByteArray} (h:PdAt w b x n t s) (hb:Below w.heap.size w w'):PdAt w' b x n t s:=by
 obtain⟨f,h0,h1,h2,h3,h4,h5,h6,h7⟩:=h
 exact⟨fun o=>(frozen_kept hb (World.block_lt_of_cell? _ _ h0)).trans (f o),cell_later hb h0,cell_later hb h1,cell_later hb h2,cell_later hb h3,cell_later hb h4,cell_later hb h5,cell_later hb h6,cell_later hb h7⟩
theorem PdAt.lt {w:World} {b:Nat} {x:Hp} {n t s:ByteArray} (h:PdAt w b x n t s):b < w.heap.size:=World.block_lt_of_cell? _ _ h.2.1
def putP (w:World) (b:Nat) (x:Hp) (n t s:ByteArray):World:=(((((((w.setCell ⟨b,0,none⟩ (.int .i64 x.k)).setCell ⟨b,1,none⟩ (.int .i64 x.n)).setCell ⟨b,2,none⟩ (.int .i64 x.u)).setCell ⟨b,3,none⟩ (.int .i64 x.d)).setCell ⟨b,4,none⟩ (.string x.id)).setCell ⟨b,5,none⟩ (.string n)).setCell ⟨b,6,none⟩ (.string t)).setCell ⟨b,7,none⟩ (.string s)
theorem PdAt.put {w:World} {b:Nat} {x:Hp} {n t s:ByteArray} (h:PdAt w b x n t s) (y:Hp) (n' t' s':ByteArray):PdAt (putP w b y n' t' s') b y n' t' s':=by
 obtain⟨f,h0,h1,h2,h3,h4,h5,h6,h7⟩:=h
 unfold putP
 refine⟨fun o=>by simp[go_sem,f],?_,?_,?_,?_,?_,?_,?_,?_⟩ <;> simp[go_sem,h0,h1,h2,h3,h4,h5,h6,h7]
theorem below_putP {B:Nat} {a w:World} (h:Below B a w) {b:Nat} (hb:B≤b) (x:Hp) (n t s:ByteArray):Below B a (putP w b x n t s):=by
 unfold putP
 exact (((((((h.setCell (p:=⟨b,0,none⟩) hb _).setCell (p:=⟨b,1,none⟩) hb _).setCell (p:=⟨b,2,none⟩) hb _).setCell (p:=⟨b,3,none⟩) hb _).setCell (p:=⟨b,4,none⟩) hb _).setCell (p:=⟨b,5,none⟩) hb _).setCell (p:=⟨b,6,none⟩) hb _).setCell (p:=⟨b,7,none⟩) hb _
theorem PdAt.range {w:World} {b:Nat} {x:Hp} {n t s:ByteArray} (h:PdAt w b x n t s):w.rangeAt b 0 [.int .i64 x.k,.int .i64 x.n,.int .i64 x.u,.int .i64 x.d,.string x.id,.string n,.string t,.string s]:=by
 obtain⟨-,h0,h1,h2,h3,h4,h5,h6,h7⟩:=h
 intro j v hv
 rcases (by have:=(List.getElem?_eq_some_iff.1 hv).1;simp at this;omega:j=0∨j=1∨j=2∨j=3∨j=4∨j=5∨j=6∨j=7) with rfl|rfl|rfl|rfl|rfl|rfl|rfl|rfl
 ·simp at hv;subst hv;simpa using h0
 ·simp at hv;subst hv;simpa using h1
 ·simp at hv;subst hv;simpa using h2
 ·simp at hv;subst hv;simpa using h3
 ·simp at hv;subst hv;simpa using h4
 ·simp at hv;subst hv;simpa using h5
 ·simp at hv;subst hv;simpa using h6
 ·simp at hv;subst hv;simpa using h7
theorem PdAt.other {w:World} {b c o:Nat} {v:Value} {x:Hp} {n t s:ByteArray} (h:PdAt w b x n t s) (hne:c≠b):PdAt (w.setCell ⟨c,o,none⟩ v) b x n t s:=by
 obtain⟨f,h0,h1,h2,h3,h4,h5,h6,h7⟩:=h
 have e:∀j,(w.setCell ⟨c,o,none⟩ v).cell? ⟨b,j,none⟩=w.cell? ⟨b,j,none⟩:=fun j=>by simp[go_sem]
 have e2:∀j,(w.setCell ⟨c,o,none⟩ v).frozen? ⟨b,j,none⟩=w.frozen? ⟨b,j,none⟩:=fun j=>by simp[go_sem]
 exact⟨fun j=>by rw[e2,f],by rw[e,h0],by rw[e,h1],by rw[e,h2],by rw[e,h3],by rw[e,h4],by rw[e,h5],by rw[e,h6],by rw[e,h7]⟩
theorem PdAt.other8 {w:World} {b c:Nat} {x y:Hp} {n t s n' t' s':ByteArray} (h:PdAt w b x n t s) (hne:c≠b):PdAt (putP w c y n' t' s') b x n t s:=by
 unfold putP
 exact (((((((h.other hne).other hne).other hne).other hne).other hne).other hne).other hne).other hne
theorem PdAt.cells {w:World} {b:Nat} {k n u d:Int} {id nx t s:ByteArray} (h:PdAt w b ⟨k,n,u,d,id⟩ nx t s) :
  (w.cell? ⟨b,0,none⟩=some (.int .i64 k)∧w.cell? ⟨b,1,none⟩=some (.int .i64 n)∧w.cell? ⟨b,2,none⟩=some (.int .i64 u)∧w.cell? ⟨b,3,none⟩=some (.int .i64 d)∧w.cell? ⟨b,4,none⟩=some (.string id)
  ∧ w.cell? ⟨b,5,none⟩=some (.string nx)∧w.cell? ⟨b,6,none⟩=some (.string t)∧w.cell? ⟨b,7,none⟩=some (.string s))
  ∧ w.frozen? ⟨b,0,none⟩=false∧w.frozen? ⟨b,1,none⟩=false∧w.frozen? ⟨b,2,none⟩=false∧w.frozen? ⟨b,3,none⟩=false∧w.frozen? ⟨b,4,none⟩=false∧w.frozen? ⟨b,5,none⟩=false∧w.frozen? ⟨b,6,none⟩=false∧w.frozen? ⟨b,7,none⟩=false :=
 ⟨h.2,h.1 0,h.1 1,h.1 2,h.1 3,h.1 4,h.1 5,h.1 6,h.1 7⟩
def Sty (w W:World) (g:Nat) (x:Hp) (n t s:ByteArray) (o5:Option Nat):Prop:=PdAt W g x n t s∧Below w.heap.size w W∧∀g5,o5=some g5→PdAt W g5 zh ⟨#[]⟩ ⟨#[]⟩ ⟨#[]⟩∧g5≠g∧w.heap.size≤g5
theorem Sty.later {w W W':World} {g:Nat} {x:Hp} {n t s:ByteArray} {o5:Option Nat} (h:Sty w W g x n t s o5) (hb:Below W.heap.size W W'):Sty w W' g x n t s o5 :=
 ⟨h.1.later hb,chain h.2.1 hb,fun g5 hg=>⟨(h.2.2 g5 hg).1.later hb,(h.2.2 g5 hg).2⟩⟩
theorem Sty.pd {w W:World} {g:Nat} {x:Hp} {n t s:ByteArray} (h:Sty w W g x n t s none):Sty w (W.alloc (.cells #[.int .i64 0,.int .i64 0,.int .i64 0,.int .i64 0,.string ⟨#[]⟩,.string ⟨#[]⟩,.string ⟨#[]⟩,.string ⟨#[]⟩] 36)) g x n t s (some W.heap.size):=by
 have hb:Below W.heap.size W (W.alloc (.cells #[.int .i64 0,.int .i64 0,.int .i64 0,.int .i64 0,.string ⟨#[]⟩,.string ⟨#[]⟩,.string ⟨#[]⟩,.string ⟨#[]⟩] 36)):=(Below.refl _ _).alloc (Nat.le_refl _) _
 refine⟨h.1.later hb,chain h.2.1 hb,fun g5 hg => ?_⟩
 cases hg
 exact⟨PdAt.new _ _ 0 0 0 0 _ _ _ _,by have:=h.1.lt;omega,h.2.1.size⟩
theorem Sty.put {w W:World} {g g5:Nat} {x:Hp} {n t s:ByteArray} (h:Sty w W g x n t s (some g5)) (y:Hp) (n' t' s':ByteArray) :
  PdAt (putP W g5 y n' t' s') g x n t s∧PdAt (putP W g5 y n' t' s') g5 y n' t' s'∧Below w.heap.size w (putP W g5 y n' t' s'):=by
 obtain⟨q1,q2,q3⟩:=h.2.2 g5 rfl
 exact⟨h.1.other8 q2,q1.put y n' t' s',below_putP h.2.1 q3 y n' t' s'⟩
end Go.Proofs.YtgnkkjknngblbaaGreatDoor
namespace Go.Proofs.YtgnkkjknngblbaaGreatDoor
open Go.RowKit Go.Proofs.Fd Go.Proofs.Hs Go.Proofs.Cc Go.Proofs.Hd Go.Proofs.Rt Go.Proofs.Wd
set_option maxRecDepth 20000
def way2:List Hp:=[⟨1,1,0,0,⟨#[]⟩⟩,⟨4,0,0,0,⟨#[]⟩⟩]
theorem way2_ok:pth way2=0:=by decide
theorem way2_id:∀h∈way2,h.id.size≤140737488355328:=fun x hx=>by
 simp[way2] at hx
 rcases hx with rfl|rfl
 ·show (0:Nat)≤_;decide
 ·show (0:Nat)≤_;decide
theorem hops_way2 (w:World) (t:TypeId) (g:Nat) (hg:g=w.heap.size):HopsAt (w.alloc (.cells #[.int .i64 1,.int .i64 1,.int .i64 0,.int .i64 0,.string ⟨#[]⟩,.int .i64 4,.int .i64 0,.int .i64 0,.int .i64 0,.string ⟨#[]⟩] t)) (some ⟨g,0,none⟩) way2:=by
 subst hg
 exact hops_two w t ⟨1,1,0,0,⟨#[]⟩⟩ ⟨4,0,0,0,⟨#[]⟩⟩
theorem room_any (w:World):Calls Tryz.prog 10 #[] w fun e w'=>e = .returned (.int .i64 222)∧w'=w:=by
 go_enter Tryz.func10, Tryz.ntmps10
 go_wp2
 go_ret
 exact⟨rfl,rfl⟩
def opw0:Oper:={ dst:=some 25,op:=Go.Op.call { callee:=Go.Callee.value (Go.Operand.func 14),args:=#[Go.Operand.const (Go.Value.string { data:=#[97] }),Go.Operand.const (Go.Value.int Go.IntKind.i64 1)],argTypes:=#[9, 3] },type := 9, pos := "theorems.go:28", after:=#[],guard:=none }
def opw1:Oper:={ dst:=some 26,op:=Go.Op.fieldAddr 36 (Go.Operand.tmp 3) 1,type:=0,pos := "theorems.go:28", after:=#[],guard:=none }
def opw2:Oper:={ dst:=some 27,op:=Go.Op.load 9 (Go.Operand.tmp 26),type := 9, pos := "theorems.go:28", after:=#[{ on:=1,ground:=Go.Ground.data }],guard:=none }
def opw3:Oper:={ dst:=some 28,op:=Go.Op.call { callee:=Go.Callee.value (Go.Operand.func 12),args:=#[Go.Operand.tmp 25,Go.Operand.tmp 27],argTypes:=#[9, 9] },type := 37, pos := "theorems.go:28", after:=#[{ on:=0,ground:=Go.Ground.data },{ on:=2,ground:=Go.Ground.data },{ on:=0,ground:=Go.Ground.chain }],guard:=none }
def opw4:Oper:={ dst:=some 24,op:=Go.Op.move (Go.Operand.tmp 28),type := 37, pos := "theorems.go:28", after:=#[{ on:=3,ground:=Go.Ground.data }],guard:=none }
def opw5:Oper:={ dst:=some 29,op:=Go.Op.extract (Go.Operand.tmp 24) 0,type := 36, pos := "theorems.go:28", after:=#[{ on:=4,ground:=Go.Ground.data }],guard:=none }
def opw6:Oper:={ dst:=some 30,op:=Go.Op.extract (Go.Operand.tmp 24) 1,type := 26, pos := "theorems.go:28", after:=#[{ on:=4,ground:=Go.Ground.data },{ on:=8,ground:=Go.Ground.gcOnly Go.Departure.lateStores }],guard:=none }
def opw7:Oper:={ dst:=some 5,op:=Go.Op.alloc 36, type:=0,pos := "theorems.go:28", after:=#[],guard:=none }
def opw8:Oper:={ dst:=none,op:=Go.Op.store 36 (Go.Operand.tmp 5) (Go.Operand.tmp 29),type:=0,pos := "theorems.go:28", after:=#[{ on:=7,ground:=Go.Ground.data },{ on:=5,ground:=Go.Ground.data },{ on:=3,ground:=Go.Ground.chain },{ on:=0,ground:=Go.Ground.phase },{ on:=1,ground:=Go.Ground.phase },{ on:=2,ground:=Go.Ground.phase },{ on:=3,ground:=Go.Ground.phase },{ on:=4,ground:=Go.Ground.phase },{ on:=5,ground:=Go.Ground.phase },{ on:=6,ground:=Go.Ground.textOnly Go.Departure.lateStores },{ on:=7,ground:=Go.Ground.phase }],guard:=none }
def opw9:Oper:={ dst:=some 6,op:=Go.Op.assign (Go.Operand.tmp 30),type := 26, pos := "theorems.go:28", after:=#[{ on:=6,ground:=Go.Ground.data },{ on:=8,ground:=Go.Ground.chain },{ on:=0,ground:=Go.Ground.phase },{ on:=1,ground:=Go.Ground.phase },{ on:=2,ground:=Go.Ground.phase },{ on:=3,ground:=Go.Ground.phase },{ on:=4,ground:=Go.Ground.phase },{ on:=5,ground:=Go.Ground.phase },{ on:=6,ground:=Go.Ground.phase },{ on:=7,ground:=Go.Ground.phase },{ on:=8,ground:=Go.Ground.phase }],guard:=none }
set_option maxHeartbeats 1000000 in
theorem works9_any (CM:Hid PMakeC) (CL:Hid PPeelC) (w:World) (hK:Hid (Kh w)) :
  Calls Tryz.prog 11 #[] w fun e w'=>e = .returned (.bool true)∧Below w.heap.size w w':=by
 obtain⟨SD,hSD⟩:∃S:ByteArray,pv ⟨#[115,101,101,100]⟩ 0=S:=⟨_,rfl⟩
 obtain⟨PA,hPA⟩:∃S:ByteArray,pv ⟨#[97]⟩ 0=S:=⟨_,rfl⟩
 obtain⟨PB,hPB⟩:∃S:ByteArray,pv ⟨#[97]⟩ 1=S:=⟨_,rfl⟩
 obtain⟨QA,hQA⟩:∃S:ByteArray,pp ⟨#[97]⟩ 0=S:=⟨_,rfl⟩
 obtain⟨QB,hQB⟩:∃S:ByteArray,pp ⟨#[97]⟩ 1=S:=⟨_,rfl⟩
 have V1:Hid (∀w,Kh w→Calls Tryz.prog 14 #[.string ⟨#[115,101,101,100]⟩,.int .i64 0] w fun e w'=>e = .returned (.string SD)∧Below w.heap.size w w'):=fun w h=>by
  rw[←hSD];exact private9_any _ 0 (by decide) (by show (4:Nat)+64≤_;decide) w h
 have V2:Hid (∀w,Kh w→Calls Tryz.prog 14 #[.string ⟨#[97]⟩,.int .i64 0] w fun e w'=>e = .returned (.string PA)∧Below w.heap.size w w'):=fun w h=>by
  rw[←hPA];exact private9_any _ 0 (by decide) (by show (1:Nat)+64≤_;decide) w h
 have V3:Hid (∀w,Kh w→Calls Tryz.prog 14 #[.string ⟨#[97]⟩,.int .i64 1] w fun e w'=>e = .returned (.string PB)∧Below w.heap.size w w'):=fun w h=>by
  rw[←hPB];exact private9_any _ 1 (by decide) (by show (1:Nat)+64≤_;decide) w h
 have V4:Hid (∀w,Kh w→Calls Tryz.prog 15 #[.string ⟨#[97]⟩,.int .i64 0] w fun e w'=>e = .returned (.string QA)∧Below w.heap.size w w'):=fun w h=>by
  rw[←hQA];exact public9_any _ 0 (by decide) (by show (1:Nat)+64≤_;decide) w h
 have V5:Hid (∀w,Kh w→Calls Tryz.prog 15 #[.string ⟨#[97]⟩,.int .i64 1] w fun e w'=>e = .returned (.string QB)∧Below w.heap.size w w'):=fun w h=>by
  rw[←hQB];exact public9_any _ 1 (by decide) (by show (1:Nat)+64≤_;decide) w h
 have zS:SD.size=32:=by rw[←hSD];exact pv_size _ _
 have zP:PA.size=32:=by rw[←hPA];exact pv_size _ _
 have zP2:PB.size=32:=by rw[←hPB];exact pv_size _ _
 have zQ:QA.size=32:=by rw[←hQA];exact pp_size _ _
 have zQ2:QB.size=32:=by rw[←hQB];exact pp_size _ _
 have eQ:Crv.ek (Crv.pub PA)=QA:=by rw[←hQA,←hPA];rfl
 have eQ2:Crv.ek (Crv.pub PB)=QB:=by rw[←hQB,←hPB];rfl
 obtain⟨ss,s1,s2,s3,s4⟩:=pack_made SD [PA,PB] way2 ⟨#[104,105]⟩ zS (fun k hk=>by
  simp at hk
  rcases hk with rfl|rfl
  ·exact zP
  ·exact zP2) way2_ok rfl (by decide)
 obtain⟨z0,p0⟩:=s4 0 (by simp)
 obtain⟨z1,p1⟩:=s4 1 (by simp)
 rw[List.map_cons,List.map_cons,List.map_nil,eQ,eQ2] at s2 s3
 generalize pkt SD ss way2 (⟨#[104,105]⟩:ByteArray).data.toList 0=X0 at *
 rw[if_pos (by simp)] at p0
 rw[if_neg (by simp)] at p1
 generalize pkt SD ss way2 (⟨#[104,105]⟩:ByteArray).data.toList (0+1)=X1 at *
 obtain⟨T0,hT0⟩:∃T,rtg (nth ss 0)=T:=⟨_,rfl⟩
 obtain⟨T1,hT1⟩:∃T,rtg (nth ss 1)=T:=⟨_,rfl⟩
 have zT:T1.size=16:=by rw[←hT1];exact hdk_size _ _ _
 rw[hT0] at p0
 rw[hT1] at p1
 have M1:Hid (∀(A B:Nat) (w:World),Kh w→w.cell? ⟨A,0,none⟩=some (.string QA)→w.cell? ⟨A,1,none⟩=some (.string QB)→HopsAt w (some ⟨B,0,none⟩) way2→Calls Tryz.prog 8 #[.string SD,.slice (some ⟨A,0,none⟩) 2 2,.string ⟨#[104,105]⟩,.slice (some ⟨B,0,none⟩) 2 2] w fun e w'=>e = .returned (.tuple #[.string X0,.int .i64 0])∧Below w.heap.size w w'):=fun A B w h h0 h1 h2=>by
  have:=CM.out SD (some ⟨A,0,none⟩) [QA,QB] 2 2 ⟨#[104,105]⟩ (some ⟨B,0,none⟩) way2 2 2 w ⟨rfl,rfl⟩ (by show (2:Nat)*16≤_∧(2:Nat)*48≤_;decide) (by show SD.size+64≤_;omega) (fun p hp=>by
   simp at hp
   rcases hp with rfl|rfl
   ·omega
   ·omega) way2_id (by show (2:Nat)≤_;decide) h (strAt2 h0 h1) h2
  rw[s2,s3] at this
  exact this
 have L1:Hid (∀w,Kh w→Calls Tryz.prog 12 #[.string PA,.string X0] w fun e w'=>e = .returned (.tuple #[.agg #[.int .i64 1,.int .i64 1,.int .i64 0,.int .i64 0,.string ⟨#[]⟩,.string X1,.string T0,.string ⟨#[]⟩],.int .i64 0])∧Below w.heap.size w w'):=fun w h=>by
  have:=CL.out PA X0 w (by show PA.size≤_;omega) (by show X0.size≤_;omega) h
  have e:ppV PA X0=#[.agg #[.int .i64 1,.int .i64 1,.int .i64 0,.int .i64 0,.string ⟨#[]⟩,.string X1,.string T0,.string ⟨#[]⟩],.int .i64 0]:=p0
  rw[e] at this
  exact this
 have L2:Hid (∀w,Kh w→Calls Tryz.prog 12 #[.string PB,.string X1] w fun e w'=>e = .returned (.tuple #[.agg #[.int .i64 4,.int .i64 0,.int .i64 0,.int .i64 0,.string ⟨#[]⟩,.string ⟨#[]⟩,.string T1,.string ⟨#[104,105]⟩],.int .i64 0])∧Below w.heap.size w w'):=fun w h=>by
  have:=CL.out PB X1 w (by show PB.size≤_;omega) (by show X1.size≤_;omega) h
  have e:ppV PB X1=#[.agg #[.int .i64 4,.int .i64 0,.int .i64 0,.int .i64 0,.string ⟨#[]⟩,.string ⟨#[]⟩,.string T1,.string ⟨#[104,105]⟩],.int .i64 0]:=p1
  rw[e] at this
  exact this
 clear CM CL s1 s2 s3 s4 p0 p1 hT0 hT1 hSD hPA hPB hQA hQB eQ eQ2 zS zP zP2 zQ zQ2
 have i0:(X0.size:Int)=504:=by omega
 have i1:(X1.size:Int)=504:=by omega
 have i2:(T1.size:Int)=16:=by omega
 go_enter Tryz.func11, Tryz.ntmps11
 go_wp2_with fail
 refine Calls.mono (V1.out _ hK.out) ?_
 rintro e w1 ⟨rfl,hb⟩
 have B1:Hid (Below w.heap.size w w1):=hb
 clear hb V1
 go_wp2_with fail
 refine Calls.mono (V4.out _ (hK.out.later B1.out)) ?_
 rintro e w2 ⟨rfl,hb⟩
 have B2:Hid (Below w.heap.size w w2):=chain B1.out hb
 clear hb V4 B1
 go_wp2_with fail
 refine Calls.mono (V5.out _ (hK.out.later B2.out)) ?_
 rintro e w3 ⟨rfl,hb⟩
 have B3:Hid (Below w.heap.size w w3):=chain B2.out hb
 clear hb V5 B2
 go_wp2_with fail
 have BA:Hid (Below w.heap.size w ((w3.alloc (.cells #[.string QA,.string QB] 9)).alloc (.cells #[.int .i64 1,.int .i64 1,.int .i64 0,.int .i64 0,.string ⟨#[]⟩,.int .i64 4,.int .i64 0,.int .i64 0,.int .i64 0,.string ⟨#[]⟩] 34))):=(B3.out.alloc B3.out.size _).alloc (by have:=B3.out.size;simp;omega) _
 refine Calls.mono (M1.out _ _ _ (hK.out.later BA.out) (by simp[go_sem]) (by simp[go_sem]) (hops_way2 _ _ _ (by simp[go_sem]))) ?_
 rintro e w4 ⟨rfl,hb⟩
 have B4:Hid (Below w.heap.size w w4):=chain BA.out hb
 clear hb M1 BA B3
 go_wp2_with fail
 refine Calls.mono (V2.out _ (hK.out.later B4.out)) ?_
 rintro e w5 ⟨rfl,hb⟩
 have B5:Hid (Below w.heap.size w w5):=chain B4.out hb
 clear hb V2 B4
 go_wp2_with fail
 refine Calls.mono (L1.out _ (hK.out.later B5.out)) ?_
 rintro e w6 ⟨rfl,hb⟩
 have B6:Hid (Below w.heap.size w w6):=chain B5.out hb
 clear hb L1 B5
 go_wp2_with fail
 obtain⟨A,hA⟩:∃A,w6.alloc (.cells #[.int .i64 1,.int .i64 1,.int .i64 0,.int .i64 0,.string ⟨#[]⟩,.string X1,.string T0,.string ⟨#[]⟩] 36)=A:=⟨_,rfl⟩
 have ST0:Hid (Sty w A.drew w6.heap.size ⟨1,1,0,0,⟨#[]⟩⟩ X1 T0 ⟨#[]⟩ none):=by
  rw[←hA]
  exact⟨(PdAt.new _ _ 1 1 0 0 _ _ _ _).later (Below.refl _ _).drew,(B6.out.alloc B6.out.size _).drew,fun g5 h=>by cases h⟩
 have HS0:PdAt A.drew w6.heap.size ⟨1,1,0,0,⟨#[]⟩⟩ X1 T0 ⟨#[]⟩:=ST0.out.1
 rw[hA]
 clear hA B6
 generalize w6.heap.size=g at *
 refine (fun (KEY:∀(g5:Nat) (X:World),Hid (PdAt X g ⟨1,1,0,0,⟨#[]⟩⟩ X1 T0 ⟨#[]⟩∧PdAt X g5 ⟨4,0,0,0,⟨#[]⟩⟩ ⟨#[]⟩ T1 ⟨#[104,105]⟩∧Below w.heap.size w X)→(?KK1:Nat→World→Prop) g5 X) => ?main1) ?key1
 case main1 =>
  refine wp_region_noPanic ?_
  refine wp_region_held_drew (S:=fun w'=>PdAt w' g ⟨1,1,0,0,⟨#[]⟩⟩ X1 T0 ⟨#[]⟩) (by kernel_rfl) (HS0) (fun hHeld => ?_)
  refine wpAnyH_take (i:=1) (oi:=opw1) (v := ?_) rfl (by kernel_rfl) (by kernel_rfl) (by kernel_rfl) (fun _ _ _ h=>h) (Or.inl ⟨by rfl,?_⟩) (by assumption) ?_
  rotate_left
  ·intro w' hSw
   clear hSw
   unfold opw1
   first
   | (go_simp;done)
   | (go_simp;with_reducible rfl)
  simp only[opw1,Act.put,List.setIfInBounds_toArray,List.set_cons_zero,List.set_cons_succ]
  refine wpAnyH_take (i:=2) (oi:=opw2) (v := ?_) rfl (by kernel_rfl) (by kernel_rfl) (by kernel_rfl) (fun _ _ _ h=>h) (Or.inl ⟨by rfl,?_⟩) (by assumption) ?_
  rotate_left
  ·intro w' hSw
   obtain⟨-,p0,p1,p2,p3,p4,p5,p6,p7⟩:=hSw
   unfold opw2
   first
   | (go_simp;done)
   | (go_simp;with_reducible rfl)
  simp only[opw2,Act.put,List.setIfInBounds_toArray,List.set_cons_zero,List.set_cons_succ]
  obtain⟨D0,hD0⟩:∃D,A.drew=D:=⟨_,rfl⟩
  have STa:Hid (Sty w D0 g ⟨1,1,0,0,⟨#[]⟩⟩ X1 T0 ⟨#[]⟩ none):=by rw[←hD0];exact ST0.out
  rw[hD0] at hHeld
  rw[hD0]
  clear hD0
  refine wpAnyH_ready (rs:=[0,7]) (by kernel_rfl) (by simp) ?_
  refine AllReadyH.cons (o:=opw0) rfl (fun KK hKK => ?_) (AllReadyH.cons (o:=opw7) rfl (fun KK hKK => ?_) AllReadyH.nil)
  ·
   unfold opw0
   go_simp
   refine Calls.mono (V3.out _ (hK.out.later STa.out.2.1)) ?_
   rintro e U1 ⟨rfl,hb⟩
   have ST1:Hid (Sty w U1 g ⟨1,1,0,0,⟨#[]⟩⟩ X1 T0 ⟨#[]⟩ none):=STa.out.later hb
   refine hKK.out _ _ ST1.out.1 (fun hHeld1 => ?_)
   clear hKK KK hb hHeld STa
   refine wpAnyH_ready (rs:=[3,7]) (by kernel_rfl) (by simp) ?_
   refine AllReadyH.cons (o:=opw3) rfl (fun KK hKK => ?_) (AllReadyH.cons (o:=opw7) rfl (fun KK hKK => ?_) AllReadyH.nil)
   ·
    unfold opw3
    go_simp
    refine Calls.mono (L2.out _ (hK.out.later ST1.out.2.1)) ?_
    rintro e U2 ⟨rfl,hb⟩
    have ST2:Hid (Sty w U2 g ⟨1,1,0,0,⟨#[]⟩⟩ X1 T0 ⟨#[]⟩ none):=ST1.out.later hb
    refine hKK.out _ _ ST2.out.1 (fun hHeld2 => ?_)
    clear hKK KK hb hHeld1 ST1
    refine wpAnyH_take (i:=4) (oi:=opw4) (v := ?_) rfl (by kernel_rfl) (by kernel_rfl) (by kernel_rfl) (fun _ _ _ h=>h) (Or.inl ⟨by rfl,?_⟩) (by assumption) ?_
    rotate_left
    ·intro w' hSw
     clear hSw
     unfold opw4
     first
     | (go_simp;done)
     | (go_simp;with_reducible rfl)
    simp only[opw4,Act.put,List.setIfInBounds_toArray,List.set_cons_zero,List.set_cons_succ]
    refine wpAnyH_take (i:=5) (oi:=opw5) (v := ?_) rfl (by kernel_rfl) (by kernel_rfl) (by kernel_rfl) (fun _ _ _ h=>h) (Or.inl ⟨by rfl,?_⟩) (by assumption) ?_
    rotate_left
    ·intro w' hSw
     clear hSw
     unfold opw5
     first
     | (go_simp;done)
     | (go_simp;with_reducible rfl)
    simp only[opw5,Act.put,List.setIfInBounds_toArray,List.set_cons_zero,List.set_cons_succ]
    refine wpAnyH_take (i:=6) (oi:=opw6) (v := ?_) rfl (by kernel_rfl) (by kernel_rfl) (by kernel_rfl) (fun _ _ _ h=>h) (Or.inl ⟨by rfl,?_⟩) (by assumption) ?_
    rotate_left
    ·intro w' hSw
     clear hSw
     unfold opw6
     first
     | (go_simp;done)
     | (go_simp;with_reducible rfl)
    simp only[opw6,Act.put,List.setIfInBounds_toArray,List.set_cons_zero,List.set_cons_succ]
    refine wpAnyH_ready (rs:=[7]) (by kernel_rfl) (by simp) ?_
    refine AllReadyH.cons (o:=opw7) rfl (fun KK hKK => ?_) AllReadyH.nil
    ·
     unfold opw7
     go_simp
     have ST3:Hid (Sty w (U2.alloc (.cells #[.int .i64 0,.int .i64 0,.int .i64 0,.int .i64 0,.string ⟨#[]⟩,.string ⟨#[]⟩,.string ⟨#[]⟩,.string ⟨#[]⟩] 36)) g ⟨1,1,0,0,⟨#[]⟩⟩ X1 T0 ⟨#[]⟩ (some U2.heap.size)):=ST2.out.pd
     refine hKK.out _ _ ST3.out.1 (fun hHeld3 => ?_)
     clear hKK KK hHeld2 ST2
     obtain⟨U3,hU3⟩:∃X,U2.alloc (.cells #[.int .i64 0,.int .i64 0,.int .i64 0,.int .i64 0,.string ⟨#[]⟩,.string ⟨#[]⟩,.string ⟨#[]⟩,.string ⟨#[]⟩] 36)=X:=⟨_,rfl⟩
     obtain⟨g3,hg3⟩:∃t,U2.heap.size=t:=⟨_,rfl⟩
     rw[hU3,hg3] at ST3
     rw[hU3] at hHeld3
     rw[hU3,hg3]
     clear hU3 hg3
     obtain⟨⟨h0,h1,h2,h3,h4,h5,h6,h7⟩,z0,z1,z2,z3,z4,z5,z6,z7⟩:=PdAt.cells (ST3.out.2.2 g3 rfl).1
     have PF:Hid (_∧_∧_):=ST3.out.put ⟨4,0,0,0,⟨#[]⟩⟩ ⟨#[]⟩ T1 ⟨#[104,105]⟩
     unfold putP at PF
     refine wpAnyH_ready (rs:=[8]) (by kernel_rfl) (by simp) ?_
     refine AllReadyH.cons (o:=opw8) rfl (fun KK hKK => ?_) AllReadyH.nil
     unfold opw8
     go_simp
     refine hKK.out _ _ PF.out.1 (fun hHeldA => ?_)
     clear hKK KK h0 h1 h2 h3 h4 h5 h6 h7 z0 z1 z2 z3 z4 z5 z6 z7 hHeld3 ST3
     obtain⟨Y,hY⟩:∃Y,(((((((U3.setCell ⟨g3,0,none⟩ (.int .i64 4)).setCell ⟨g3,1,none⟩ (.int .i64 0)).setCell ⟨g3,2,none⟩ (.int .i64 0)).setCell ⟨g3,3,none⟩ (.int .i64 0)).setCell ⟨g3,4,none⟩ (.string ⟨#[]⟩)).setCell ⟨g3,5,none⟩ (.string ⟨#[]⟩)).setCell ⟨g3,6,none⟩ (.string T1)).setCell ⟨g3,7,none⟩ (.string ⟨#[104,105]⟩)=Y:=⟨_,rfl⟩
     rw[hY] at PF hHeldA
     rw[hY]
     clear hY
     refine wpAnyH_take (i:=9) (oi:=opw9) (v := ?_) rfl (by kernel_rfl) (by kernel_rfl) (by kernel_rfl) (fun _ _ _ h=>h) (Or.inl ⟨by rfl,?_⟩) (by assumption) ?_
     rotate_left
     ·intro w' hSw
      clear hSw
      unfold opw9
      first
      | (go_simp;done)
      | (go_simp;with_reducible rfl)
     simp only[opw9,Act.put,List.setIfInBounds_toArray,List.set_cons_zero,List.set_cons_succ]
     refine wpAnyH_done (by kernel_rfl) ?_ _
     refine NoPanic.normal ?_
     exact KEY g3 Y PF.out
   ·
    unfold opw7
    go_simp
    have ST4:Hid (Sty w (U1.alloc (.cells #[.int .i64 0,.int .i64 0,.int .i64 0,.int .i64 0,.string ⟨#[]⟩,.string ⟨#[]⟩,.string ⟨#[]⟩,.string ⟨#[]⟩] 36)) g ⟨1,1,0,0,⟨#[]⟩⟩ X1 T0 ⟨#[]⟩ (some U1.heap.size)):=ST1.out.pd
    refine hKK.out _ _ ST4.out.1 (fun hHeld4 => ?_)
    clear hKK KK hHeld1 ST1
    obtain⟨U4,hU4⟩:∃X,U1.alloc (.cells #[.int .i64 0,.int .i64 0,.int .i64 0,.int .i64 0,.string ⟨#[]⟩,.string ⟨#[]⟩,.string ⟨#[]⟩,.string ⟨#[]⟩] 36)=X:=⟨_,rfl⟩
    obtain⟨g4,hg4⟩:∃t,U1.heap.size=t:=⟨_,rfl⟩
    rw[hU4,hg4] at ST4
    rw[hU4] at hHeld4
    rw[hU4,hg4]
    clear hU4 hg4
    refine wpAnyH_ready (rs:=[3]) (by kernel_rfl) (by simp) ?_
    refine AllReadyH.cons (o:=opw3) rfl (fun KK hKK => ?_) AllReadyH.nil
    ·
     unfold opw3
     go_simp
     refine Calls.mono (L2.out _ (hK.out.later ST4.out.2.1)) ?_
     rintro e U5 ⟨rfl,hb⟩
     have ST5:Hid (Sty w U5 g ⟨1,1,0,0,⟨#[]⟩⟩ X1 T0 ⟨#[]⟩ (some g4)):=ST4.out.later hb
     refine hKK.out _ _ ST5.out.1 (fun hHeld5 => ?_)
     clear hKK KK hb hHeld4 ST4
     refine wpAnyH_take (i:=4) (oi:=opw4) (v := ?_) rfl (by kernel_rfl) (by kernel_rfl) (by kernel_rfl) (fun _ _ _ h=>h) (Or.inl ⟨by rfl,?_⟩) (by assumption) ?_
     rotate_left
     ·intro w' hSw
      clear hSw
      unfold opw4
      first
      | (go_simp;done)
      | (go_simp;with_reducible rfl)
     simp only[opw4,Act.put,List.setIfInBounds_toArray,List.set_cons_zero,List.set_cons_succ]
     refine wpAnyH_take (i:=5) (oi:=opw5) (v := ?_) rfl (by kernel_rfl) (by kernel_rfl) (by kernel_rfl) (fun _ _ _ h=>h) (Or.inl ⟨by rfl,?_⟩) (by assumption) ?_
     rotate_left
     ·intro w' hSw
      clear hSw
      unfold opw5
      first
      | (go_simp;done)
      | (go_simp;with_reducible rfl)
     simp only[opw5,Act.put,List.setIfInBounds_toArray,List.set_cons_zero,List.set_cons_succ]
     refine wpAnyH_take (i:=6) (oi:=opw6) (v := ?_) rfl (by kernel_rfl) (by kernel_rfl) (by kernel_rfl) (fun _ _ _ h=>h) (Or.inl ⟨by rfl,?_⟩) (by assumption) ?_
     rotate_left
     ·intro w' hSw
      clear hSw
      unfold opw6
      first
      | (go_simp;done)
      | (go_simp;with_reducible rfl)
     simp only[opw6,Act.put,List.setIfInBounds_toArray,List.set_cons_zero,List.set_cons_succ]
     obtain⟨⟨h0,h1,h2,h3,h4,h5,h6,h7⟩,z0,z1,z2,z3,z4,z5,z6,z7⟩:=PdAt.cells (ST5.out.2.2 g4 rfl).1
     have PF:Hid (_∧_∧_):=ST5.out.put ⟨4,0,0,0,⟨#[]⟩⟩ ⟨#[]⟩ T1 ⟨#[104,105]⟩
     unfold putP at PF
     refine wpAnyH_ready (rs:=[8]) (by kernel_rfl) (by simp) ?_
     refine AllReadyH.cons (o:=opw8) rfl (fun KK hKK => ?_) AllReadyH.nil
     unfold opw8
     go_simp
     refine hKK.out _ _ PF.out.1 (fun hHeldA => ?_)
     clear hKK KK h0 h1 h2 h3 h4 h5 h6 h7 z0 z1 z2 z3 z4 z5 z6 z7 hHeld5 ST5
     obtain⟨Y,hY⟩:∃Y,(((((((U5.setCell ⟨g4,0,none⟩ (.int .i64 4)).setCell ⟨g4,1,none⟩ (.int .i64 0)).setCell ⟨g4,2,none⟩ (.int .i64 0)).setCell ⟨g4,3,none⟩ (.int .i64 0)).setCell ⟨g4,4,none⟩ (.string ⟨#[]⟩)).setCell ⟨g4,5,none⟩ (.string ⟨#[]⟩)).setCell ⟨g4,6,none⟩ (.string T1)).setCell ⟨g4,7,none⟩ (.string ⟨#[104,105]⟩)=Y:=⟨_,rfl⟩
     rw[hY] at PF hHeldA
     rw[hY]
     clear hY
     refine wpAnyH_take (i:=9) (oi:=opw9) (v := ?_) rfl (by kernel_rfl) (by kernel_rfl) (by kernel_rfl) (fun _ _ _ h=>h) (Or.inl ⟨by rfl,?_⟩) (by assumption) ?_
     rotate_left
     ·intro w' hSw
      clear hSw
      unfold opw9
      first
      | (go_simp;done)
      | (go_simp;with_reducible rfl)
     simp only[opw9,Act.put,List.setIfInBounds_toArray,List.set_cons_zero,List.set_cons_succ]
     refine wpAnyH_done (by kernel_rfl) ?_ _
     refine NoPanic.normal ?_
     exact KEY g4 Y PF.out
  ·
   unfold opw7
   go_simp
   have ST6:Hid (Sty w (D0.alloc (.cells #[.int .i64 0,.int .i64 0,.int .i64 0,.int .i64 0,.string ⟨#[]⟩,.string ⟨#[]⟩,.string ⟨#[]⟩,.string ⟨#[]⟩] 36)) g ⟨1,1,0,0,⟨#[]⟩⟩ X1 T0 ⟨#[]⟩ (some D0.heap.size)):=STa.out.pd
   refine hKK.out _ _ ST6.out.1 (fun hHeld6 => ?_)
   clear hKK KK hHeld STa
   obtain⟨U6,hU6⟩:∃X,D0.alloc (.cells #[.int .i64 0,.int .i64 0,.int .i64 0,.int .i64 0,.string ⟨#[]⟩,.string ⟨#[]⟩,.string ⟨#[]⟩,.string ⟨#[]⟩] 36)=X:=⟨_,rfl⟩
   obtain⟨g6,hg6⟩:∃t,D0.heap.size=t:=⟨_,rfl⟩
   rw[hU6,hg6] at ST6
   rw[hU6] at hHeld6
   rw[hU6,hg6]
   clear hU6 hg6
   refine wpAnyH_ready (rs:=[0]) (by kernel_rfl) (by simp) ?_
   refine AllReadyH.cons (o:=opw0) rfl (fun KK hKK => ?_) AllReadyH.nil
   ·
    unfold opw0
    go_simp
    refine Calls.mono (V3.out _ (hK.out.later ST6.out.2.1)) ?_
    rintro e U7 ⟨rfl,hb⟩
    have ST7:Hid (Sty w U7 g ⟨1,1,0,0,⟨#[]⟩⟩ X1 T0 ⟨#[]⟩ (some g6)):=ST6.out.later hb
    refine hKK.out _ _ ST7.out.1 (fun hHeld7 => ?_)
    clear hKK KK hb hHeld6 ST6
    refine wpAnyH_ready (rs:=[3]) (by kernel_rfl) (by simp) ?_
    refine AllReadyH.cons (o:=opw3) rfl (fun KK hKK => ?_) AllReadyH.nil
    ·
     unfold opw3
     go_simp
     refine Calls.mono (L2.out _ (hK.out.later ST7.out.2.1)) ?_
     rintro e U8 ⟨rfl,hb⟩
     have ST8:Hid (Sty w U8 g ⟨1,1,0,0,⟨#[]⟩⟩ X1 T0 ⟨#[]⟩ (some g6)):=ST7.out.later hb
     refine hKK.out _ _ ST8.out.1 (fun hHeld8 => ?_)
     clear hKK KK hb hHeld7 ST7
     refine wpAnyH_take (i:=4) (oi:=opw4) (v := ?_) rfl (by kernel_rfl) (by kernel_rfl) (by kernel_rfl) (fun _ _ _ h=>h) (Or.inl ⟨by rfl,?_⟩) (by assumption) ?_
     rotate_left
     ·intro w' hSw
      clear hSw
      unfold opw4
      first
      | (go_simp;done)
      | (go_simp;with_reducible rfl)
     simp only[opw4,Act.put,List.setIfInBounds_toArray,List.set_cons_zero,List.set_cons_succ]
     refine wpAnyH_take (i:=5) (oi:=opw5) (v := ?_) rfl (by kernel_rfl) (by kernel_rfl) (by kernel_rfl) (fun _ _ _ h=>h) (Or.inl ⟨by rfl,?_⟩) (by assumption) ?_
     rotate_left
     ·intro w' hSw
      clear hSw
      unfold opw5
      first
      | (go_simp;done)
      | (go_simp;with_reducible rfl)
     simp only[opw5,Act.put,List.setIfInBounds_toArray,List.set_cons_zero,List.set_cons_succ]
     refine wpAnyH_take (i:=6) (oi:=opw6) (v := ?_) rfl (by kernel_rfl) (by kernel_rfl) (by kernel_rfl) (fun _ _ _ h=>h) (Or.inl ⟨by rfl,?_⟩) (by assumption) ?_
     rotate_left
     ·intro w' hSw
      clear hSw
      unfold opw6
      first
      | (go_simp;done)
      | (go_simp;with_reducible rfl)
     simp only[opw6,Act.put,List.setIfInBounds_toArray,List.set_cons_zero,List.set_cons_succ]
     obtain⟨⟨h0,h1,h2,h3,h4,h5,h6,h7⟩,z0,z1,z2,z3,z4,z5,z6,z7⟩:=PdAt.cells (ST8.out.2.2 g6 rfl).1
     have PF:Hid (_∧_∧_):=ST8.out.put ⟨4,0,0,0,⟨#[]⟩⟩ ⟨#[]⟩ T1 ⟨#[104,105]⟩
     unfold putP at PF
     refine wpAnyH_ready (rs:=[8]) (by kernel_rfl) (by simp) ?_
     refine AllReadyH.cons (o:=opw8) rfl (fun KK hKK => ?_) AllReadyH.nil
     unfold opw8
     go_simp
     refine hKK.out _ _ PF.out.1 (fun hHeldA => ?_)
     clear hKK KK h0 h1 h2 h3 h4 h5 h6 h7 z0 z1 z2 z3 z4 z5 z6 z7 hHeld8 ST8
     obtain⟨Y,hY⟩:∃Y,(((((((U8.setCell ⟨g6,0,none⟩ (.int .i64 4)).setCell ⟨g6,1,none⟩ (.int .i64 0)).setCell ⟨g6,2,none⟩ (.int .i64 0)).setCell ⟨g6,3,none⟩ (.int .i64 0)).setCell ⟨g6,4,none⟩ (.string ⟨#[]⟩)).setCell ⟨g6,5,none⟩ (.string ⟨#[]⟩)).setCell ⟨g6,6,none⟩ (.string T1)).setCell ⟨g6,7,none⟩ (.string ⟨#[104,105]⟩)=Y:=⟨_,rfl⟩
     rw[hY] at PF hHeldA
     rw[hY]
     clear hY
     refine wpAnyH_take (i:=9) (oi:=opw9) (v := ?_) rfl (by kernel_rfl) (by kernel_rfl) (by kernel_rfl) (fun _ _ _ h=>h) (Or.inl ⟨by rfl,?_⟩) (by assumption) ?_
     rotate_left
     ·intro w' hSw
      clear hSw
      unfold opw9
      first
      | (go_simp;done)
      | (go_simp;with_reducible rfl)
     simp only[opw9,Act.put,List.setIfInBounds_toArray,List.set_cons_zero,List.set_cons_succ]
     refine wpAnyH_done (by kernel_rfl) ?_ _
     refine NoPanic.normal ?_
     exact KEY g6 Y PF.out
 case key1 =>
  intro g5 X F
  obtain⟨⟨a0,a1,a2,a3,a4,a5,a6,a7⟩,-⟩:=F.out.1.cells
  obtain⟨⟨b0,b1,b2,b3,b4,b5,b6,b7⟩,-⟩:=F.out.2.1.cells
  go_wp2
  go_ret
  exact⟨rfl,F.out.2.2⟩
end Go.Proofs.YtgnkkjknngblbaaGreatDoor
namespace Go.Proofs.YtgnkkjknngblbaaGreatDoor
open Go.RowKit Go.Proofs.Fd Go.Proofs.Hs Go.Proofs.Cc Go.Proofs.Hd Go.Proofs.Rt
set_option maxRecDepth 20000
theorem rhk (s:ByteArray) (l:List UInt8) (n:Nat) (hn:n≤255) (hl:l.length≤100) (hs:Hid (s.size+64≤140737488355328)) (w:World) :
  Calls Tryz.prog 38 #[.string s,.string ⟨l.toArray⟩,.int .i64 (n:Int)] w fun e w'=>e = .returned (.string (hdk s l n))∧Below w.heap.size w w':=by
 have:=rKey_any s ⟨l.toArray⟩ n (by omega) hs (by show (⟨l.toArray⟩:ByteArray).size+97≤_;rw[ba_sz];omega) w
 have e:(⟨l.toArray⟩:ByteArray).data.toList=l:=by simp
 rw[e] at this
 exact this
theorem res_rof (tmps:Array Value) (w:World) (b:Nat) (k0 k1 k2 k3 k4:ByteArray) (h2:tmps.getD 2 undef = .pointer (some ⟨b,0,none⟩)) (l:Five w b k0 k1 k2 k3 k4) :
  (results Tryz.f59 tmps).run Tryz.prog w = .ok (.agg #[.string k0,.string k1,.string k2,.string k3,.string k4]) w:=by
 have l1:=run_loadVar_mid (P:=Tryz.prog) w b 0 53 [.string k0,.string k1,.string k2,.string k3,.string k4] _ l.range Tryz.underlying53 rfl (by kernel_rfl)
 unfold results
 rw[Tryz.results59]
 have h2':tmps[2]?.getD undef = .pointer (some ⟨b,0,none⟩):=by simpa using h2
 simp[h2',l1,asAddr]
set_option maxHeartbeats 1000000 in
theorem rOf_any (s:ByteArray) (hs:Hid (s.size+64≤140737488355328)) (w:World) :
  Calls Tryz.prog 59 #[.string s] w fun e w'=>e = .returned (kv s)∧Below w.heap.size w w':=by
 have D1:Hid (∀w,Calls Tryz.prog 38 #[.string s,.string ⟨#[102,108,111,119]⟩,.int .i64 32] w fun e w'=>e = .returned (.string (hdk s lFlow 32))∧Below w.heap.size w w'):=fun w=>rhk s lFlow 32 (by decide) (by decide) hs w
 have D2:Hid (∀w,Calls Tryz.prog 38 #[.string s,.string ⟨#[109,97,99]⟩,.int .i64 32] w fun e w'=>e = .returned (.string (hdk s lMac 32))∧Below w.heap.size w w'):=fun w=>rhk s lMac 32 (by decide) (by decide) hs w
 have D3:Hid (∀w,Calls Tryz.prog 38 #[.string s,.string ⟨#[98,111,100,121]⟩,.int .i64 32] w fun e w'=>e = .returned (.string (hdk s lBody 32))∧Below w.heap.size w w'):=fun w=>rhk s lBody 32 (by decide) (by decide) hs w
 have D4:Hid (∀w,Calls Tryz.prog 38 #[.string s,.string ⟨#[98,108,105,110,100]⟩,.int .i64 32] w fun e w'=>e = .returned (.string (bld s))∧Below w.heap.size w w'):=fun w=>rhk s lBlind 32 (by decide) (by decide) hs w
 have D5:Hid (∀w,Calls Tryz.prog 38 #[.string s,.string ⟨#[116,97,103]⟩,.int .i64 16] w fun e w'=>e = .returned (.string (hdk s lTag 16))∧Below w.heap.size w w'):=fun w=>rhk s lTag 16 (by decide) (by decide) hs w
 unfold kv
 generalize hdk s lFlow 32=k0 at *
 generalize hdk s lMac 32=k1 at *
 generalize hdk s lBody 32=k2 at *
 generalize bld s=k3 at *
 generalize hdk s lTag 16=k4 at *
 clear hs
 go_enter Tryz.func59, Tryz.ntmps59
 go_wp2_with fail
 have S0:Hid (Five (w.alloc (.cells #[.string ⟨#[]⟩,.string ⟨#[]⟩,.string ⟨#[]⟩,.string ⟨#[]⟩,.string ⟨#[]⟩] 53)) w.heap.size ⟨#[]⟩ ⟨#[]⟩ ⟨#[]⟩ ⟨#[]⟩ ⟨#[]⟩∧Below w.heap.size w (w.alloc (.cells #[.string ⟨#[]⟩,.string ⟨#[]⟩,.string ⟨#[]⟩,.string ⟨#[]⟩,.string ⟨#[]⟩] 53))):=⟨Five.new _ _ _ _ _ _ _,(Below.refl _ _).alloc (Nat.le_refl _) _⟩
 refine Calls.mono (D1.out _) ?_
 rintro e w1 ⟨rfl,hb⟩
 have S1:Hid (Five w1 w.heap.size ⟨#[]⟩ ⟨#[]⟩ ⟨#[]⟩ ⟨#[]⟩ ⟨#[]⟩∧Below w.heap.size w w1):=⟨S0.out.1.later hb,chain S0.out.2 hb⟩
 clear hb S0 D1
 go_wp2_with fail
 refine Calls.mono (D2.out _) ?_
 rintro e w2 ⟨rfl,hb⟩
 have S2:Hid (Five w2 w.heap.size ⟨#[]⟩ ⟨#[]⟩ ⟨#[]⟩ ⟨#[]⟩ ⟨#[]⟩∧Below w.heap.size w w2):=⟨S1.out.1.later hb,chain S1.out.2 hb⟩
 clear hb S1 D2
 go_wp2_with fail
 refine Calls.mono (D3.out _) ?_
 rintro e w3 ⟨rfl,hb⟩
 have S3:Hid (Five w3 w.heap.size ⟨#[]⟩ ⟨#[]⟩ ⟨#[]⟩ ⟨#[]⟩ ⟨#[]⟩∧Below w.heap.size w w3):=⟨S2.out.1.later hb,chain S2.out.2 hb⟩
 clear hb S2 D3
 go_wp2_with fail
 refine Calls.mono (D4.out _) ?_
 rintro e w4 ⟨rfl,hb⟩
 have S4:Hid (Five w4 w.heap.size ⟨#[]⟩ ⟨#[]⟩ ⟨#[]⟩ ⟨#[]⟩ ⟨#[]⟩∧Below w.heap.size w w4):=⟨S3.out.1.later hb,chain S3.out.2 hb⟩
 clear hb S3 D4
 go_wp2_with fail
 refine Calls.mono (D5.out _) ?_
 rintro e w5 ⟨rfl,hb⟩
 have S5:Hid (Five w5 w.heap.size ⟨#[]⟩ ⟨#[]⟩ ⟨#[]⟩ ⟨#[]⟩ ⟨#[]⟩∧Below w.heap.size w w5):=⟨S4.out.1.later hb,chain S4.out.2 hb⟩
 clear hb S4 D5
 obtain⟨gz,d0,d1,d2,d3,d4⟩:=S5.out.1
 have e0:=gz 0
 have e1:=gz 1
 have e2:=gz 2
 have e3:=gz 3
 have e4:=gz 4
 have FF:Hid (_∧_):=And.intro (Five.whole S5.out.1 k0 k1 k2 k3 k4) (below_five S5.out.2 (Nat.le_refl w.heap.size) (.string k0) (.string k1) (.string k2) (.string k3) (.string k4))
 clear gz S5
 go_wp2
 refine bodyPost_ret (v := .agg #[.string k0,.string k1,.string k2,.string k3,.string k4]) ?_ rfl ⟨rfl,FF.out.2⟩
 exact res_rof _ _ w.heap.size k0 k1 k2 k3 k4 (by kernel_rfl) FF.out.1
set_option maxHeartbeats 1000000 in
theorem rzeros_any (n:Nat) (hn:n≤1000) (w:World) :
  Calls Tryz.prog 37 #[.int .i64 (n:Int)] w fun e w'=>e = .returned (.string (zba n))∧Below w.heap.size w w':=by
 obtain⟨A,CA,BA,bA,sA⟩:=make_n n (by omega) w
 have CV:(convert 43 9 (.slice (some ⟨w.heap.size,0,none⟩) n n)).run Tryz.prog A = .ok (.string (zba n)) A:=BA.string (by simp)
 have B1:Hid (Below w.heap.size w A):=bA
 generalize zba n=Z at *
 clear BA bA sA hn
 go_enter Tryz.func37, Tryz.ntmps37
 go_wp2
 go_ret
 exact⟨rfl,B1.out⟩
theorem make12 (w:World):(Instr.makeSlice 43 (.int .i64 12) (.int .i64 12)).run Tryz.prog w = .ok (.slice (some ⟨w.heap.size,0,none⟩) 12 12) (w.alloc (.cells (Array.replicate 12 (.int .u8 0)) 5)):=by kernel_rfl
theorem made12 (w W:World) (h:W=w.alloc (.cells (Array.replicate 12 (.int .u8 0)) 5)):(convert 43 9 (.slice (some ⟨w.heap.size,0,none⟩) 12 12)).run Tryz.prog W = .ok (.string (zba 12)) W:=by
 subst h
 have hB:BytesAt (w.alloc (.cells (Array.replicate 12 (.int .u8 0)) 5)) w.heap.size (List.replicate 12 0):=fun j hj=>by
  have hj':j < 12:=by simpa using hj
  refine⟨?_,by simp[go_sem]⟩
  rw[World.cell?_alloc_new,List.getElem_replicate,Array.getElem?_replicate,if_pos hj']
  rfl
 exact hB.string (cap:=12) (n:=12) rfl
def hfl (s:ByteArray):ByteArray:=⟨(hflow s).toArray⟩
theorem hfl_size (s:ByteArray):(hfl s).size=240:=by unfold hfl;rw[ba_sz,hflow_len]
set_option maxHeartbeats 1000000 in
theorem rflow_any (s:ByteArray) (w:World) :
  Calls Tryz.prog 40 #[kv s] w fun e w'=>e = .returned (.string (hfl s))∧Below w.heap.size w w':=by
 have ST:Hid (∀w,Calls Tryz.prog 75 #[.string (hdk s lFlow 32),.string (zba 12),.int .i64 0,.int .i64 240] w fun e w'=>e = .returned (.string (hfl s))∧Below w.heap.size w w'):=fun w=>by
  have h:=rStream_any (hdk s lFlow 32) (zba 12) 0 240 (hdk_size _ _ _) (zba_size _) (by decide) w
  have e:(⟨(strm (hdk s lFlow 32).data.toList (zba 12).data.toList 0 240).toArray⟩:ByteArray)=hfl s:=rfl
  rw[e] at h
  exact h
 unfold kv
 generalize hfl s=F at *
 generalize hdk s lFlow 32=k0 at *
 generalize hdk s lMac 32=k1 at *
 generalize hdk s lBody 32=k2 at *
 generalize bld s=k3 at *
 generalize hdk s lTag 16=k4 at *
 have MK:=make12
 go_enter Tryz.func40, Tryz.ntmps40
 go_wp2_with fail
 obtain⟨A,hA⟩:∃A,w.alloc (.cells #[.string k0,.string k1,.string k2,.string k3,.string k4] 53)=A:=⟨_,rfl⟩
 have I:Hid (Five A w.heap.size k0 k1 k2 k3 k4∧Below w.heap.size w A):=by
  rw[←hA]
  exact⟨Five.new _ _ _ _ _ _ _,(Below.refl _ _).alloc (Nat.le_refl _) _⟩
 have c0:=I.out.1.2.1
 have cl:=I.out.1.lt
 have c0':(A.alloc (.cells (Array.replicate 12 (.int .u8 0)) 5)).cell? ⟨w.heap.size,0,none⟩=some (.string k0):=cell_later ((Below.refl _ _).alloc (Nat.le_refl _) _) c0
 have M2:(convert 43 9 (.slice (some ⟨A.heap.size,0,none⟩) 12 12)).run Tryz.prog ((A.alloc (.cells (Array.replicate 12 (.int .u8 0)) 5)).drew) = .ok (.string (zba 12)) ((A.alloc (.cells (Array.replicate 12 (.int .u8 0)) 5)).drew):=made12 A.drew _ rfl
 rw[hA]
 clear hA
 generalize zba 12=Z at *
 go_region_with (first|(go_at_call 75;refine Calls.mono (ST.out _) ?_;rintro e w2 ⟨rfl,hb2⟩;have B2:Hid (Below w.heap.size w w2):=chain (I.out.2.alloc I.out.2.size _).drew hb2))
 all_goals
  go_wp2
  go_ret
  exact⟨rfl,B2.out⟩
set_option maxHeartbeats 1000000 in
theorem rmac_any (s l:ByteArray) (hl:l.size+64≤140737488355328) (w:World) :
  Calls Tryz.prog 42 #[kv s,.string l] w fun e w'=>e = .returned (.string (hmb s l))∧Below w.heap.size w w':=by
 obtain⟨X,hX⟩:∃X:ByteArray,⟨(hmac (hdk s lMac 32).data.toList l.data.toList).toArray⟩=X:=⟨_,rfl⟩
 have zX:X.size=32:=by rw[←hX,ba_sz,hmac_len]
 have eX:Hid (hmb s l=X.extract 0 16):=by
  show _=_
  have hd:(hdk s lMac 32).data.toList=drv s.data.toList lMac 32:=by unfold hdk;simp
  have:(X.extract 0 16).data.toList=hmacf s l.data.toList:=by
   rw[←hX,ba_cut,List.drop_zero,hd]
   unfold hmacf
   with_reducible rfl
  unfold hmb
  exact (ba_of this).symm
 have TG:Hid (∀(w:World),Calls Tryz.prog 76 #[.string (hdk s lMac 32),.string l] w fun e w'=>e = .returned (.string X)∧Below w.heap.size w w'):=fun w=>by
  rw[←hX];exact rTag_any (hdk s lMac 32) l (by show _≤_;rw[hdk_size];decide) hl w
 rw[eX.out]
 unfold kv
 generalize hdk s lFlow 32=k1 at *
 generalize hdk s lMac 32=k2 at *
 generalize hdk s lBody 32=k3 at *
 generalize bld s=k4 at *
 generalize hdk s lTag 16=k5 at *
 have zXi:(X.size:Int)=32:=by omega
 clear hl hX eX
 go_enter Tryz.func42, Tryz.ntmps42
 go_wp2_with fail
 refine Calls.mono (TG.out _) ?_
 rintro e w1 ⟨rfl,hb1⟩
 have B1:Hid (Below w.heap.size w w1):=chain ((Below.refl _ _).alloc (Nat.le_refl _) _) hb1
 clear hb1 TG
 go_wp2
 go_ret
 exact⟨rfl,B1.out⟩
end Go.Proofs.YtgnkkjknngblbaaGreatDoor
namespace Go.Proofs.YtgnkkjknngblbaaGreatDoor
open Go.RowKit Go.Proofs.Fd Go.Proofs.Hs Go.Proofs.Cc Go.Proofs.Hd Go.Proofs.Rt
set_option maxRecDepth 20000
theorem hdk_data (s:ByteArray) (l:List UInt8) (n:Nat):(hdk s l n).data.toList=drv s.data.toList l n:=by unfold hdk;simp
theorem rep_zero (n:Nat):Lib.repeatL [0] n=List.replicate n 0:=by
 induction n with
 | zero=>rfl
 | succ n ih=>rw[Lib.repeatL,ih];rfl
set_option maxHeartbeats 1000000 in
theorem zeros_any (n:Nat) (h2:2≤n) (hn:n≤1000) (w:World) :
  Calls Tryz.prog 53 #[.int .i64 (n:Int)] w fun e w'=>e = .returned (.string (zba n))∧Below w.heap.size w w':=by
 have RE:Hid (∀w,Calls Tryz.prog 81 #[.string ⟨#[0]⟩,.int .i64 (n:Int)] w fun e w'=>e = .returned (.string (zba n))∧Below w.heap.size w w'):=fun w=>by
  have h:=Any.strings_Repeat_main repLies repMore ⟨#[0]⟩ n w h2 (by omega) (by show 1*n≤_;omega) (by decide)
  have e:(⟨#[0]⟩:ByteArray).data.toList=[0]:=rfl
  rw[e,rep_zero] at h
  exact h
 generalize zba n=Z at *
 clear h2 hn
 go_enter Tryz.func53, Tryz.ntmps53
 go_wp2_with fail
 refine Calls.mono (RE.out _) ?_
 rintro e w1 ⟨rfl,hb1⟩
 have B1:Hid (Below w.heap.size w w1):=hb1
 clear hb1 RE
 go_wp2
 go_ret
 exact⟨rfl,B1.out⟩
set_option maxHeartbeats 1000000 in
theorem hderived_any (s:ByteArray) (l:List UInt8) (n:Nat) (hn:n≤255) (hl:l.length≤100) (hs:Hid (s.size+64≤140737488355328)) (w:World) (hK:Hid (Kh w)) :
  Calls Tryz.prog 78 #[.agg #[.string s],.string ⟨l.toArray⟩,.int .i64 (n:Int)] w fun e w'=>e = .returned (.string (hdk s l n))∧Below w.heap.size w w':=by
 obtain⟨Lb,hLb⟩:∃L:ByteArray,⟨l.toArray⟩=L:=⟨_,rfl⟩
 have DV:Hid (∀w,Kh w→Calls Tryz.prog 27 #[.string s,.string Lb,.int .i64 (n:Int)] w fun e w'=>e = .returned (.tuple #[.string (hdk s l n),.int .i64 0])∧Below w.heap.size w w'):=fun w h=>by
  have:=derive_c s Lb n w hs (by rw[←hLb];show (⟨l.toArray⟩:ByteArray).size+97≤_;rw[ba_sz];omega) h
  unfold drV at this
  rw[if_neg (by omega)] at this
  rw[←hLb] at this ⊢
  exact this
 rw[hLb]
 generalize hdk s l n=X at *
 clear hLb hn
 go_enter Tryz.func78, Tryz.ntmps78
 go_wp2_with fail
 refine Calls.mono (DV.out _ (hK.out.alloc _)) ?_
 rintro e w1 ⟨rfl,hb1⟩
 have B1:Hid (Below w.heap.size w w1):=chain ((Below.refl _ _).alloc (Nat.le_refl _) _) hb1
 clear hb1 DV
 go_wp2
 go_ret
 exact⟨rfl,B1.out⟩
set_option maxHeartbeats 1000000 in
theorem padOf_any (s:ByteArray) (hs:Hid (s.size+64≤140737488355328)) (w:World) (hK:Hid (Kh w)) :
  Calls Tryz.prog 67 #[.string s] w fun e w'=>e = .returned (.string (hdk s lPad 200))∧Below w.heap.size w w':=by
 have DV:Hid (∀w,Kh w→Calls Tryz.prog 78 #[.agg #[.string s],.string ⟨#[112,97,100]⟩,.int .i64 200] w fun e w'=>e = .returned (.string (hdk s lPad 200))∧Below w.heap.size w w'):=fun w h=>hderived_any s lPad 200 (by decide) (by decide) hs w h
 generalize hdk s lPad 200=X at *
 go_enter Tryz.func67, Tryz.ntmps67
 go_wp2_with fail
 refine Calls.mono (DV.out _ hK.out) ?_
 rintro e w1 ⟨rfl,hb1⟩
 have B1:Hid (Below w.heap.size w w1):=hb1
 clear hb1 DV
 go_wp2
 go_ret
 exact⟨rfl,B1.out⟩
set_option maxHeartbeats 1000000 in
theorem hturned_any (s t:ByteArray) (ht:t.size≤240) (w:World) :
  Calls Tryz.prog 52 #[hk6 s,.string t] w fun e w'=>e = .returned (.string (htn s t))∧Below w.heap.size w w':=by
 have ZE:Hid (∀w,Calls Tryz.prog 53 #[.int .i64 12] w fun e w'=>e = .returned (.string (zba 12))∧Below w.heap.size w w'):=fun w=>zeros_any 12 (by decide) (by decide) w
 have SX:Hid (∀w,Calls Tryz.prog 80 #[.string (hdk s lFlow 32),.string (zba 12),.int .i64 0,.string t] w fun e w'=>e = .returned (.tuple #[.string (htn s t),.int .i64 0])∧Below w.heap.size w w'):=fun w=>by
  have h:=sXor_ok (hdk s lFlow 32) (zba 12) 0 t (hdk_size _ _ _) (zba_size _) (by omega) w
  rw[htn_is s t ht] at h
  exact h
 unfold hk6
 generalize htn s t=Y at *
 generalize hdk s lFlow 32=k1 at *
 generalize hdk s lMac 32=k2 at *
 generalize hdk s lBody 32=k3 at *
 generalize bld s=k4 at *
 generalize hdk s lTag 16=k5 at *
 generalize zba 12=Z at *
 clear ht
 go_enter Tryz.func52, Tryz.ntmps52
 go_wp2
 obtain⟨A,hA⟩:∃A,w.alloc (.cells #[.string s,.string k1,.string k2,.string k3,.string k4,.string k5] 70)=A:=⟨_,rfl⟩
 have I:Hid (Six A w.heap.size s k1 k2 k3 k4 k5∧Below w.heap.size w A):=by
  rw[←hA]
  exact⟨Six.new _ _ _ _ _ _ _ _,(Below.refl _ _).alloc (Nat.le_refl _) _⟩
 rw[hA]
 clear hA
 have c1:=I.out.1.2.2.1
 have J:Hid (Six A.drew w.heap.size s k1 k2 k3 k4 k5∧Below w.heap.size w A.drew):=⟨I.out.1,I.out.2.drew⟩
 clear I
 go_region_with (first|(go_at_call 53;refine Calls.mono (ZE.out _) ?_;rintro e w1 ⟨rfl,hb1⟩;have H1:Hid (Six w1 w.heap.size s k1 k2 k3 k4 k5∧Below w.heap.size w w1):=⟨J.out.1.later hb1,chain J.out.2 hb1⟩;have c11:=H1.out.1.2.2.1)|(go_at_call 80;refine Calls.mono (SX.out _) ?_;rintro e w2 ⟨rfl,hb2⟩;have B2:Hid (Below w.heap.size w w2):=chain H1.out.2 hb2))
 all_goals
  go_wp2
  go_ret
  exact⟨rfl,B2.out⟩
set_option maxHeartbeats 1000000 in
theorem macOf_any (s l:ByteArray) (hl:l.size≤140737488355328) (w:World) (hK:Hid (Kh w)) :
  Calls Tryz.prog 51 #[hk6 s,.string l] w fun e w'=>e = .returned (.string (hmb s l))∧Below w.heap.size w w':=by
 obtain⟨X,hX⟩:∃X:ByteArray,⟨(hmac (hdk s lMac 32).data.toList l.data.toList).toArray⟩=X:=⟨_,rfl⟩
 have zX:X.size=32:=by rw[←hX,ba_sz,hmac_len]
 have eX:Hid (hmb s l=X.extract 0 16):=by
  show _=_
  have:(X.extract 0 16).data.toList=hmacf s l.data.toList:=by
   rw[←hX,ba_cut,List.drop_zero,hdk_data]
   unfold hmacf
   with_reducible rfl
  unfold hmb
  exact (ba_of this).symm
 have TG:Hid (∀(B:Nat) (w:World),Kh w→w.cell? ⟨B,0,none⟩=some (.string l)→Calls Tryz.prog 79 #[.string (hdk s lMac 32),.slice (some ⟨B,0,none⟩) 1 1] w fun e w'=>e = .returned (.string X)∧Below w.heap.size w w'):=fun B w h h0=>by
  have:=tag_c (hdk s lMac 32) (some ⟨B,0,none⟩) [l] 1 1 w rfl (by show (1:Nat)*16+1024≤_;decide) (by show (hdk s lMac 32).size≤_;rw[hdk_size];decide) (fun x hx=>by simp at hx;subst hx;exact hl) h (strAt1 h0)
  rw[jnd_one,hX] at this
  exact this
 rw[eX.out]
 unfold hk6
 generalize hdk s lFlow 32=k1 at *
 generalize hdk s lMac 32=k2 at *
 generalize hdk s lBody 32=k3 at *
 generalize bld s=k4 at *
 generalize hdk s lTag 16=k5 at *
 have zXi:(X.size:Int)=32:=by omega
 clear hl hX eX
 go_enter Tryz.func51, Tryz.ntmps51
 go_wp2_with fail
 refine Calls.mono (TG.out _ _ ((hK.out.alloc _).alloc _) (by simp[go_sem])) ?_
 rintro e w1 ⟨rfl,hb1⟩
 have B1:Hid (Below w.heap.size w w1):=chain (((Below.refl _ _).alloc (Nat.le_refl _) _).alloc (by simp[go_sem]) _) hb1
 clear hb1 TG
 go_wp2
 go_ret
 exact⟨rfl,B1.out⟩
set_option maxHeartbeats 1000000 in
theorem hwhole_any (a:Option Addr) (ss:List ByteArray) (n cap:Nat) (hn:Hid (ss.length=n)) (hm:n≤9223372036854775807) (w:World) (hc:Hid (StrAt w a ss)) :
  Calls Tryz.prog 47 #[.slice a n cap] w fun e w'=>e = .returned (.bool (Crv.wh ss))∧Below w.heap.size w w':=by
 go_enter Tryz.func47, Tryz.ntmps47
 go_wp2
 go_loopw [7] (fun i wr=>∃k:Nat,k≤n∧i = .int .i64 k∧Hid (Crv.wh (ss.take k)=true∧Below w.heap.size w wr)) (fun i _=>n - (intOf i).toNat)
 case atStart=>exact⟨0,Nat.zero_le _,rfl,rfl,Below.refl _ _⟩
 case round =>
  obtain⟨k,hk,rfl,I⟩:=hrel
  by_cases hlt:k < n
  ·have hk':k < ss.length:=by have:=hn.out;omega
   obtain⟨b,o,rfl,hcell⟩:=StrAt.later hc.out I.out.2 rfl k hk'
   have HT:Hid (ss[k].size=32→Crv.wh (ss.take (k+1))=true):=fun h=>Crv.wh_take hk' I.out.1 h
   have HN:Hid (¬ss[k].size=32→Crv.wh ss=false):=fun h=>Crv.wh_not hk' h
   generalize ss[k]=s at *
   by_cases h0:s.size=32
   ·have hz:((s.size:Int) != 32)=false:=by simp[h0]
    have fin:=HT.out h0
    have FIN:Hid (Crv.wh (ss.take (k+1))=true):=fin
    clear fin h0
    go_wp2
    go_roundw
    case rel=>exact⟨k+1,by omega,by go_num,FIN.out,I.out.2⟩
    case measure=>simp[intOf];omega
   ·have hz:((s.size:Int) != 32)=true:=by simp;omega
    have FIN:Hid (Crv.wh ss=false):=HN.out h0
    clear h0
    go_wp2
    go_ret
    exact⟨Crv.ret_bool FIN.out.symm,I.out.2⟩
  ·have hkn:k=n:=by omega
   subst hkn
   have CA:Hid (Crv.wh ss=true):=by
    have:=I.out.1;rw[List.take_of_length_le (by have:=hn.out;omega)] at this;exact this
   go_wp2
   go_ret
   exact⟨Crv.ret_bool CA.out.symm,I.out.2⟩
theorem hwhole1_any (s:ByteArray) (B:Nat) (w:World) (h0:w.cell? ⟨B,0,none⟩=some (.string s)) :
  Calls Tryz.prog 47 #[.slice (some ⟨B,0,none⟩) 1 1] w fun e w'=>e = .returned (.bool (decide (s.size=32)))∧Below w.heap.size w w':=by
 have:=hwhole_any (some ⟨B,0,none⟩) [s] 1 1 rfl (by omega) w (strAt1 h0)
 have e:Crv.wh [s]=decide (s.size=32):=by simp[Crv.wh]
 rw[e] at this
 exact this
end Go.Proofs.YtgnkkjknngblbaaGreatDoor
