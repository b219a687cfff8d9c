/- A part of the walk. -/
import Derived.Test.YtjcppbhgjchjaaaGreatDoorZr3G01
import Derived.Laws.MakeOwn
import Derived.Laws.OwnMore
set_option maxHeartbeats 8000000
set_option maxRecDepth 20000
namespace Go.Proofs.Rt
structure Hp where
 k:Int
 n:Int
 u:Int
 d:Int
 id:Ba
def ok (h:Hp):Bool :=
 (h.k == 1 && (decide (0<=h.n) && decide (h.n < 32)) && (decide (0<=h.d) && decide (h.d<=4096)) && h.u == 0 && h.id.size == 0)
 || (h.k == 2 && (decide (0<=h.u) && decide (h.u < 64)) && (decide (0<=h.d) && decide (h.d<=4096)) && h.id.size == 16 && h.n == 0)
 || (h.k == 3 && h.id.size == 16 && h.n == 0 && h.u == 0 && h.d == 0)
 || (h.k == 4 && h.n == 0 && h.u == 0 && h.d == 0 && h.id.size == 0)
def chk (h:Hp):Int:=if ok h=true then 0 else 70
theorem zhW (b:Ba) (h:b.size=0):b=⟨#[]⟩:=by
 apply ByteArray.ext;have:b.data.size=0:=h;exact Array.eq_empty_of_size_eq_zero this
theorem zde (h:Hp) (e:ok h=true) :
  (h.k=1/\0<=h.n/\h.n < 32/\0<=h.d/\h.d<=4096/\h.u=0/\h.id=⟨#[]⟩)\/(h.k=2/\0<=h.u/\h.u < 64/\0<=h.d/\h.d<=4096/\h.id.size=16/\h.n=0)
  \/ (h.k=3/\h.id.size=16/\h.n=0/\h.u=0/\h.d=0)\/(h.k=4/\h.n=0/\h.u=0/\h.d=0/\h.id=⟨#[]⟩):=by
 unfold ok at e;simp only[Bool.or_eq_true,Bool.and_eq_true,beq_iff_eq,decide_eq_true_eq] at e;rcases e with ((⟨⟨⟨⟨h1,h2,h3⟩,h4,h5⟩,h6⟩,h7⟩|⟨⟨⟨⟨h1,h2,h3⟩,h4,h5⟩,h6⟩,h7⟩)|⟨⟨⟨⟨h1,h2⟩,h3⟩,h4⟩,h5⟩)|⟨⟨⟨⟨h1,h2⟩,h3⟩,h4⟩,h5⟩
 ·exact .inl ⟨h1,h2,h3,h4,h5,h6,zhW _ h7⟩
 ·exact .inr (.inl ⟨h1,h2,h3,h4,h5,h6,h7⟩)
 ·exact .inr (.inr (.inl ⟨h1,h2,h3,h4,h5⟩))
 ·exact .inr (.inr (.inr ⟨h1,h2,h3,h4,zhW _ h5⟩))
theorem zxn (n d:Int) (h1:0<=n) (h2:n < 32) (h3:0<=d) (h4:d<=4096):ok ⟨1,n,0,d,⟨#[]⟩⟩=true:=by
 unfold ok;simp[h1,h2,h3,h4];rfl
theorem zwq (u d:Int) (id:Ba) (h1:0<=u) (h2:u < 64) (h3:0<=d) (h4:d<=4096) (h5:id.size=16):ok ⟨2,0,u,d,id⟩=true:=by
 unfold ok;simp[h1,h2,h3,h4,h5]
theorem zwr (id:Ba) (h5:id.size=16):ok ⟨3,0,0,0,id⟩=true:=by
 unfold ok;simp[h5]
theorem zws:ok ⟨4,0,0,0,⟨#[]⟩⟩=true:=by decide
def byt (h:Hp):List UInt8:=[UInt8.ofNat h.k.toNat,UInt8.ofNat (h.n+h.u).toNat,UInt8.ofNat (h.d / 256).toNat,UInt8.ofNat (h.d % 256).toNat]++h.id.data.toList++List.replicate (20 - h.id.size) 0
theorem zoT (h:Hp) (e:ok h=true):h.id.size=0\/h.id.size=16:=by
 rcases zde h e with h|h|h|h
 ·left;rw[h.2.2.2.2.2.2];rfl
 ·right;exact h.2.2.2.2.2.1
 ·right;exact h.2.1
 ·left;rw[h.2.2.2.2];rfl
theorem ze0 (h:Hp) (e:ok h=true):(byt h).length=24:=by
 have:=zoT h e;unfold byt;simp;omega
def zol (l:List UInt8):Hp :=
 if l.getD 0 0=1 then ⟨1,((l.getD 1 0).toNat:Int),0,((l.getD 2 0).toNat:Int)*256+((l.getD 3 0).toNat:Int),⟨#[]⟩⟩
 else if l.getD 0 0=2 then ⟨2,0,((l.getD 1 0).toNat:Int),((l.getD 2 0).toNat:Int)*256+((l.getD 3 0).toNat:Int),⟨((l.drop 4).take 16).toArray⟩⟩
 else if l.getD 0 0=3 then ⟨3,0,0,0,⟨((l.drop 4).take 16).toArray⟩⟩
 else ⟨((l.getD 0 0).toNat:Int),0,0,0,⟨#[]⟩⟩
def zh:Hp:=⟨0,0,0,0,⟨#[]⟩⟩
def dcd (l:List UInt8):Option Hp:=if l.length=24/\ok (zol l)=true/\byt (zol l)=l then some (zol l) else none
theorem zgI (n:Int) (h0:0<=n) (h1:n < 256):((UInt8.ofNat n.toNat).toNat:Int)=n:=by
 rw[UInt8.toNat_ofNat'];omega
theorem zkk (h:Hp) (e:ok h=true):zol (byt h)=h:=by
 obtain⟨k,n,u,d,id⟩:=h;have g0:(byt ⟨k,n,u,d,id⟩).getD 0 0=UInt8.ofNat k.toNat:=rfl;have g1:(byt ⟨k,n,u,d,id⟩).getD 1 0=UInt8.ofNat (n+u).toNat:=rfl;have g2:(byt ⟨k,n,u,d,id⟩).getD 2 0=UInt8.ofNat (d / 256).toNat:=rfl;have g3:(byt ⟨k,n,u,d,id⟩).getD 3 0=UInt8.ofNat (d % 256).toNat:=rfl;have g4:id.size=16->(⟨(((byt ⟨k,n,u,d,id⟩).drop 4).take 16).toArray⟩:Ba)=id:=fun hs=>by
  have:(byt ⟨k,n,u,d,id⟩).drop 4=id.data.toList++List.replicate (20 - id.size) 0:=rfl;rw[this,List.take_append_of_le_length (by simp[hs]),List.take_of_length_le (by simp[hs])]
 unfold zol;rw[g0,g1,g2,g3];rcases zde _ e with ⟨h1,h2,h3,h4,h5,h6,h7⟩|⟨h1,h2,h3,h4,h5,h6,h7⟩|⟨h1,h2,h3,h4,h5⟩|⟨h1,h2,h3,h4,h5⟩
 ·simp only at h1 h2 h3 h4 h5 h6 h7
  subst h1 h6 h7;rw[if_pos (by decide)];rw[zgI _ (by omega) (by omega),zgI _ (by omega) (by omega),zgI _ (by omega) (by omega)];congr 1
  ·omega
  ·omega
 ·simp only at h1 h2 h3 h4 h5 h6 h7
  subst h1 h7;rw[if_neg (by decide),if_pos (by decide),g4 h6];rw[zgI _ (by omega) (by omega),zgI _ (by omega) (by omega),zgI _ (by omega) (by omega)];congr 1
  ·omega
  ·omega
 ·simp only at h1 h2 h3 h4 h5
  subst h1 h3 h4 h5;rw[if_neg (by decide),if_neg (by decide),if_pos (by decide),g4 h2]
 ·simp only at h1 h2 h3 h4 h5
  subst h1 h2 h3 h4 h5;rw[if_neg (by decide),if_neg (by decide),if_neg (by decide)];rfl
theorem zhX (h:Hp) (e:ok h=true):dcd (byt h)=some h:=by
 unfold dcd;rw[zkk h e,if_pos ⟨ze0 h e,e,rfl⟩]
theorem zkl (l:List UInt8) (x:Hp) (h:dcd l=some x):ok x=true/\byt x=l/\x=zol l/\l.length=24:=by
 unfold dcd at h
 split at h
 ·rename_i g
  obtain rfl:=Option.some.inj h;exact⟨g.2.1,g.2.2,rfl,g.1⟩
 ·cases h
def shp (l:List Hp):Bool:=(List.range l.length).all fun i=>decide ((l.getD i zh).k=1) == decide (i+1 < l.length)
def pth (l:List Hp):Int:=if l.all ok=true then (if l.length=0\/5 < l.length then 4 else if shp l=true then 0 else 4) else 70
end Go.Proofs.Rt
namespace Go.Proofs.YtjcppbhgjchjaaaGreatDoor
open Go.RowKit Go.Proofs.Fd Go.Proofs.Rt
def hv (h:Hp):Value := .agg #[.int .i64 h.k,.int .i64 h.n,.int .i64 h.u,.int .i64 h.d,.string h.id]
end Go.Proofs.YtjcppbhgjchjaaaGreatDoor
namespace Go.Proofs.Rt
theorem zwV (l:List Hp) (j:Nat) (hj:j < l.length) (h:¬ok (l.getD j zh)=true):pth l=70:=by
 unfold pth;rw[if_neg];intro g;rw[List.all_eq_true] at g;apply h;rw[List.getD_eq_getElem?_getD,List.getElem?_eq_getElem hj];exact g _ (List.getElem_mem hj)
theorem zwW (l:List Hp) (h:∀j,j < l.length->ok (l.getD j zh)=true):l.all ok=true:=by
 rw[List.all_eq_true];intro x hx;obtain⟨j,hj,rfl⟩:=List.mem_iff_getElem.1 hx;have:=h j hj;rw[List.getD_eq_getElem?_getD,List.getElem?_eq_getElem hj] at this;exact this
theorem zwt (l:List Hp) (h:l.all ok=true) (hl:l.length=0\/5 < l.length):pth l=4:=by
 unfold pth;rw[if_pos h,if_pos hl]
theorem zuL (l:List Hp) (h:l.all ok=true) (hl:¬(l.length=0\/5 < l.length)) (j:Nat) (hj:j < l.length) (hs:¬((l.getD j zh).k=1↔j+1 < l.length)):pth l=4:=by
 unfold pth;rw[if_pos h,if_neg hl,if_neg];intro g;unfold shp at g;rw[List.all_eq_true] at g;have:=g j (List.mem_range.2 hj);apply hs;by_cases q1:(l.getD j zh).k=1 <;> by_cases q2:j+1 < l.length <;> simp_all
theorem zwX (l:List Hp) (h:l.all ok=true) (hl:¬(l.length=0\/5 < l.length)) (hs:∀j,j < l.length->((l.getD j zh).k=1↔j+1 < l.length)):pth l=0:=by
 unfold pth;rw[if_pos h,if_neg hl,if_pos];unfold shp;rw[List.all_eq_true];intro j hj;have:=hs j (List.mem_range.1 hj);by_cases q1:(l.getD j zh).k=1 <;> by_cases q2:j+1 < l.length <;> simp_all
theorem zdf (l:List Hp) (h:pth l=0):l.all ok=true/\1<=l.length/\l.length<=5/\∀j,j < l.length->((l.getD j zh).k=1↔j+1 < l.length):=by
 unfold pth at h
 split at h
 ·rename_i h1
  split at h
  ·exact absurd h (by decide)
  ·rename_i h2
   split at h
   ·rename_i h3
    refine⟨h1,by omega,by omega,fun j hj => ?_⟩;unfold shp at h3;rw[List.all_eq_true] at h3;have:=h3 j (List.mem_range.2 hj);by_cases q1:(l.getD j zh).k=1 <;> by_cases q2:j+1 < l.length <;> simp_all
   ·exact absurd h (by decide)
 ·exact absurd h (by decide)
def bq (h:Hp) (q:Nat):List UInt8:=[UInt8.ofNat h.k.toNat,UInt8.ofNat (h.n+h.u).toNat,UInt8.ofNat (h.d / 256).toNat,UInt8.ofNat (h.d % 256).toNat]++h.id.data.toList.take q++List.replicate (20 - q) 0
theorem zwY (h:Hp) (q:Nat) (hq:q<=h.id.size) (h2:h.id.size<=20):(bq h q).length=24:=by
 unfold bq;simp;omega
theorem zwu (h:Hp):((((List.replicate 24 (0:UInt8)).set 0 (UInt8.ofNat h.k.toNat)).set 1 (UInt8.ofNat (h.n+h.u).toNat)).set 2 (UInt8.ofNat (h.d / 256).toNat)).set 3 (UInt8.ofNat (h.d % 256).toNat)=bq h 0:=by
 unfold bq;rw[List.take_zero,List.append_nil];rfl
end Go.Proofs.Rt
namespace Go.Proofs.YtjcppbhgjchjaaaGreatDoor
open Go.RowKit Go.Proofs.Fd Go.Proofs.Rt
def zsd (w:Wo) (g:Nat) (h:Hp):Prop :=
 (∀o,w.frozen? ⟨g,o,none⟩=false)/\w.cell? ⟨g,0,none⟩=some (.int .i64 h.k)/\w.cell? ⟨g,1,none⟩=some (.int .i64 h.n)/\w.cell? ⟨g,2,none⟩=some (.int .i64 h.u)/\w.cell? ⟨g,3,none⟩=some (.int .i64 h.d)/\w.cell? ⟨g,4,none⟩=some (.string h.id)
theorem zsd.new (w:Wo) (t:TypeId) (h:Hp):zsd (w.alloc (.cells #[.int .i64 h.k,.int .i64 h.n,.int .i64 h.u,.int .i64 h.d,.string h.id] t)) w.heap.size h :=
 ⟨fun o=>by simp[go_sem],by simp[go_sem],by simp[go_sem],by simp[go_sem],by simp[go_sem],by simp[go_sem]⟩
theorem zsd.later {w w':Wo} {g:Nat} {h:Hp} (q:zsd w g h) (hb:Bw w w'):zsd w' g h:=by
 obtain⟨f,h0,h1,h2,h3,h4⟩:=q;exact⟨fun o=>(zae hb (World.block_lt_of_cell? _ _ h0)).trans (f o),cell_later hb h0,cell_later hb h1,cell_later hb h2,cell_later hb h3,cell_later hb h4⟩
theorem zsd.other {w:Wo} {g:Nat} {h:Hp} (q:zsd w g h) {a:Addr} (hne:a.block≠g) (v:Value):zsd (w.setCell a v) g h:=by
 obtain⟨f,h0,h1,h2,h3,h4⟩:=q;exact⟨fun o=>(zag hne).trans (f o),zaa h0 hne,zaa h1 hne,zaa h2 hne,zaa h3 hne,zaa h4 hne⟩
theorem zsd.lt {w:Wo} {g:Nat} {h:Hp} (q:zsd w g h):g < w.heap.size:=World.block_lt_of_cell? _ _ q.2.1
theorem zwv (w:Wo):∃W:Wo,(Instr.makeSlice 99 (.int .i64 24) (.int .i64 24)).run Tryz.prog w = .ok (.slice (some ⟨w.heap.size,0,none⟩) 24 24) W
  /\ BytesAt W w.heap.size (List.replicate 24 0)/\Bw w W/\w.heap.size < W.heap.size:=by
 refine⟨w.alloc (.cells (Array.replicate 24 (.int .u8 0)) 5),by kernel_rfl,fun j hj => ?_,(bQ _ _).alloc (nL _) _,by simp⟩;have hj':j < 24:=by simpa using hj
 refine⟨?_,by simp[go_sem]⟩;rw[World.cell?_alloc_new,List.getElem_replicate,Array.getElem?_replicate,if_pos hj'];rfl
theorem BytesAt.cell {w:Wo} {b:Nat} {l:List UInt8} (h:BytesAt w b l) (j:Nat) (hj:j < l.length):∃v,w.cell? ⟨b,j,none⟩=some v/\w.frozen? ⟨b,j,none⟩=false:=⟨_,h j hj⟩
def enV (h:Hp):Array Value:=if ok h=true then #[.string ⟨(byt h).toArray⟩,.int .i64 0] else #[.string ⟨#[]⟩,.int .i64 70]
theorem zuM (h:Hp) (e:ok h=true):enV h=#[.string ⟨(byt h).toArray⟩,.int .i64 0]:=if_pos e
theorem zv9 (h:Hp) (e:¬ok h=true):enV h=#[.string ⟨#[]⟩,.int .i64 70]:=if_neg e
theorem zwZ (h:Hp) (e:ok h=true):chk h=0:=if_pos e
theorem zwa (h:Hp) (e:¬ok h=true):chk h=70:=if_neg e
def dcV (b:Ba):Array Value:=if b.size=24 then (match dcd b.data.toList with
  | some x=>#[hv x,.int .i64 0]
  | none=>#[hv zh,.int .i64 70]) else #[hv zh,.int .i64 3]
theorem zvC (b:Ba) (h:¬b.size=24):dcV b=#[hv zh,.int .i64 3]:=if_neg h
theorem ztY (b:Ba) (x:Hp) (h:b.size=24) (e:dcd b.data.toList=some x):dcV b=#[hv x,.int .i64 0]:=by unfold dcV;rw[if_pos h,e]
theorem ztf (b:Ba) (h:b.size=24) (e:dcd b.data.toList=none):dcV b=#[hv zh,.int .i64 70]:=by unfold dcV;rw[if_pos h,e]
theorem zsd.cells {w:Wo} {g:Nat} {k n u d:Int} {id:Ba} (q:zsd w g ⟨k,n,u,d,id⟩):w.cell? ⟨g,0,none⟩=some (.int .i64 k)/\w.cell? ⟨g,1,none⟩=some (.int .i64 n)/\w.cell? ⟨g,2,none⟩=some (.int .i64 u)/\w.cell? ⟨g,3,none⟩=some (.int .i64 d)/\w.cell? ⟨g,4,none⟩=some (.string id):=q.2
theorem zsd.fresh (w:Wo) (t:TypeId) (k n u d:Int) (id:Ba):zsd (w.alloc (.cells #[.int .i64 k,.int .i64 n,.int .i64 u,.int .i64 d,.string id] t)) w.heap.size ⟨k,n,u,d,id⟩:=zsd.new w t ⟨k,n,u,d,id⟩
theorem zug (b:Ba) (c0 c1 c2 c3:UInt8) (h0:b.data.toList.getD 0 0=c0) (h1:b.data.toList.getD 1 0=c1) (h2:b.data.toList.getD 2 0=c2) (h3:b.data.toList.getD 3 0=c3) :
  (c0=1->zol b.data.toList=⟨1,(c1.toNat:Int),0,(c2.toNat:Int)*256+(c3.toNat:Int),⟨#[]⟩⟩)/\(c0=2->zol b.data.toList=⟨2,0,(c1.toNat:Int),(c2.toNat:Int)*256+(c3.toNat:Int),b.extract 4 20⟩)
  /\ (c0=3->zol b.data.toList=⟨3,0,0,0,b.extract 4 20⟩)/\(c0≠1->c0≠2->c0≠3->zol b.data.toList=⟨(c0.toNat:Int),0,0,0,⟨#[]⟩⟩):=by
 have e:b.extract 4 20=⟨((b.data.toList.drop 4).take 16).toArray⟩:=by
  apply ByteArray.ext;rw[ByteArray.data_extract];apply Array.toList_inj.1;rw[Array.toList_extract,List.extract_eq_take_drop]
 unfold zol;rw[h0,h1,h2,h3,e];refine⟨fun h=>if_pos h,fun h => ?_,fun h => ?_,fun g1 g2 g3 => ?_⟩
 ·rw[if_neg (by rw[h];decide),if_pos h]
 ·rw[if_neg (by rw[h];decide),if_neg (by rw[h];decide),if_pos h]
 ·rw[if_neg g1,if_neg g2,if_neg g3]
theorem zsd.whole {w:Wo} {b:Nat} {h:Hp} (q:zsd w b h) (k n u d:Int) (id:Ba) :
  zsd (((((w.setCell ⟨b,0,none⟩ (.int .i64 k)).setCell ⟨b,1,none⟩ (.int .i64 n)).setCell ⟨b,2,none⟩ (.int .i64 u)).setCell ⟨b,3,none⟩ (.int .i64 d)).setCell ⟨b,4,none⟩ (.string id)) b ⟨k,n,u,d,id⟩:=by
 obtain⟨f,h0,h1,h2,h3,h4⟩:=q;refine⟨fun o=>by simp[go_sem,f],?_,?_,?_,?_,?_⟩ <;> simp[go_sem,h0,h1,h2,h3,h4]
theorem zsr {B:Nat} {a w:Wo} (h:Below B a w) {c:Nat} (hc:B<=c) (y0 y1 y2 y3 y4:Value) :
  Below B a (((((w.setCell ⟨c,0,none⟩ y0).setCell ⟨c,1,none⟩ y1).setCell ⟨c,2,none⟩ y2).setCell ⟨c,3,none⟩ y3).setCell ⟨c,4,none⟩ y4) :=
 ((((h.setCell (p:=⟨c,0,none⟩) hc _).setCell (p:=⟨c,1,none⟩) hc _).setCell (p:=⟨c,2,none⟩) hc _).setCell (p:=⟨c,3,none⟩) hc _).setCell (p:=⟨c,4,none⟩) hc _
theorem zsd.range {w:Wo} {b:Nat} {k n u d:Int} {id:Ba} (h:zsd w b ⟨k,n,u,d,id⟩):w.rangeAt b 0 [.int .i64 k,.int .i64 n,.int .i64 u,.int .i64 d,.string id]:=by
 obtain⟨h0,h1,h2,h3,h4⟩:=h.cells;intro j v hv;rcases (by have:=(List.getElem?_eq_some_iff.1 hv).1;simp at this;omega:j=0\/j=1\/j=2\/j=3\/j=4) with rfl|rfl|rfl|rfl|rfl
 ·simp at hv;subst hv;simpa using h0
 ·simp at hv;subst hv;simpa using h1
 ·simp at hv;subst hv;simpa using h2
 ·simp at hv;subst hv;simpa using h3
 ·simp at hv;subst hv;simpa using h4
def zfS (w:Wo) (a:Option Addr) (hs:List Hp):Prop:=∀i,i < hs.length->∃b o,a=some ⟨b,o,none⟩
  /\ w.cell? ⟨b,o+i*5,none⟩=some (.int .i64 (hs.getD i zh).k)/\w.cell? ⟨b,o+i*5+1,none⟩=some (.int .i64 (hs.getD i zh).n)/\w.cell? ⟨b,o+i*5+2,none⟩=some (.int .i64 (hs.getD i zh).u)
  /\ w.cell? ⟨b,o+i*5+3,none⟩=some (.int .i64 (hs.getD i zh).d)/\w.cell? ⟨b,o+i*5+4,none⟩=some (.string (hs.getD i zh).id)
theorem zfS.later {B:Nat} {w w':Wo} {a:Option Addr} {hs:List Hp} (h:zfS w a hs) (hb:Below B w w') (hB:B=w.heap.size):zfS w' a hs:=fun i hi=>by
 subst hB;obtain⟨b,o,ha,h0,h1,h2,h3,h4⟩:=h i hi;exact⟨b,o,ha,cell_later hb h0,cell_later hb h1,cell_later hb h2,cell_later hb h3,cell_later hb h4⟩
def zw0:Prop:=∀(h:Hp) (w:Wo),Hid (h.id.size<=140737488355328) ->
  Cl 256 #[hv h] w fun e w'=>e = .returned (.int .i64 (chk h))/\Bw w w'
def zww:Prop:=∀(h:Hp) (w:Wo),Hid (h.id.size<=140737488355328) ->
  Cl 183 #[hv h] w fun e w'=>e = .returned (.tuple (enV h))/\Bw w w'
def zwx:Prop:=∀(b:Ba) (w:Wo),Hid (b.size<=140737488355328) ->
  Cl 242 #[.string b] w fun e w'=>e = .returned (.tuple (dcV b))/\Bw w w'
def zxo:Prop:=∀(a:Option Addr) (hs:List Hp) (n cap:Nat) (w:Wo),Hid (hs.length=n)->Hid (n<=140737488355328)->Hid (∀h∈hs,h.id.size<=140737488355328)->Hid (zfS w a hs) ->
  Cl 176 #[.slice a n cap] w fun e w'=>e = .returned (.int .i64 (pth hs))/\Bw w w'
theorem zkm (w:Wo) (t:TypeId) (x y:Hp):zfS (w.alloc (.cells #[.int .i64 x.k,.int .i64 x.n,.int .i64 x.u,.int .i64 x.d,.string x.id,.int .i64 y.k,.int .i64 y.n,.int .i64 y.u,.int .i64 y.d,.string y.id] t)) (some ⟨w.heap.size,0,none⟩) [x,y]:=fun i hi=>by
 rcases (by simp at hi;omega:i=0\/i=1) with rfl|rfl
 ·exact⟨w.heap.size,0,rfl,by simp[go_sem],by simp[go_sem],by simp[go_sem],by simp[go_sem],by simp[go_sem]⟩
 ·exact⟨w.heap.size,0,rfl,by simp[go_sem],by simp[go_sem],by simp[go_sem],by simp[go_sem],by simp[go_sem]⟩
theorem zsz (w:Wo) (o:Obj):(w.alloc o).heap[w.heap.size]?=some o:=by
 show (w.heap.push o)[w.heap.size]?=some o;simp
end Go.Proofs.YtjcppbhgjchjaaaGreatDoor
namespace Go.Proofs.Rt
def nm (h:Hp):Hp :=
 if h.k=1 then ⟨h.k,h.n,0,h.d,⟨#[]⟩⟩ else if h.k=2 then ⟨h.k,0,h.u,h.d,h.id⟩ else if h.k=3 then ⟨h.k,0,0,0,h.id⟩ else ⟨h.k,0,0,0,⟨#[]⟩⟩
def wi (h:Hp):Bool :=
 (!((h.k == 2 || h.k == 3) && !(h.id.size == 16))) && (decide (0<=h.n) && decide (h.n < 32) && decide (0<=h.u) && decide (h.u < 64) && decide (0<=h.d) && decide (h.d<=4096))
theorem zxp (h:Hp) (e:ok h=true):wi h=true/\nm h=h/\1<=h.k/\h.k<=4:=by
 obtain⟨k,n,u,d,id⟩:=h;rcases zde _ e with ⟨h1,h2,h3,h4,h5,h6,h7⟩|⟨h1,h2,h3,h4,h5,h6,h7⟩|⟨h1,h2,h3,h4,h5⟩|⟨h1,h2,h3,h4,h5⟩ <;> simp only at h1 h2 h3 h4 h5 <;> (try simp only at h6 h7)
 ·subst h1 h6 h7;simp[wi,nm];omega
 ·subst h1 h7;simp[wi,nm];omega
 ·subst h1 h3 h4 h5;simp[wi,nm];omega
 ·subst h1 h2 h3 h4 h5;simp[wi,nm]
theorem zxq (h:Hp) (h1:1<=h.k) (h4:h.k<=4) (e:nm h=h) (hw:wi h=true):ok h=true:=by
 obtain⟨k,n,u,d,id⟩:=h;simp only at h1 h4;unfold wi at hw;simp only[Bool.and_eq_true,decide_eq_true_eq,Bool.not_eq_true',Bool.and_eq_false_iff,Bool.or_eq_false_iff,beq_eq_false_iff_ne,Bool.not_eq_false',beq_iff_eq] at hw;obtain⟨g,⟨⟨⟨⟨g1,g2⟩,g3⟩,g4⟩,g5⟩,g6⟩:=hw;rcases (by omega:k=1\/k=2\/k=3\/k=4) with rfl|rfl|rfl|rfl
 ·simp[nm] at e;obtain⟨rfl,rfl⟩:=e;exact zxn _ _ g1 g2 g5 g6
 ·simp[nm] at e;subst e;exact zwq _ _ _ g3 g4 g5 g6 (by simpa using g)
 ·simp[nm] at e;obtain⟨rfl,rfl,rfl⟩:=e;exact zwr _ (by simpa using g)
 ·simp[nm] at e;obtain⟨rfl,rfl,rfl,rfl⟩:=e;exact zws
end Go.Proofs.Rt
namespace Go.Proofs.YtjcppbhgjchjaaaGreatDoor
open Go.RowKit Go.Proofs.Fd Go.Proofs.Rt
theorem zsI (tmps:Array Value) (w:Wo) (b:Nat) (k n u d:Int) (id:Ba) (h2:tmps.getD 2 undef = .pointer (some ⟨b,0,none⟩)) (l:zsd w b ⟨k,n,u,d,id⟩) :
  (results Tryz.f302 tmps).run Tryz.prog w = .ok (.agg #[.int .i64 k,.int .i64 n,.int .i64 u,.int .i64 d,.string id]) w:=by
 have l1:=run_loadVar_mid (P:=Tryz.prog) w b 0 82 [.int .i64 k,.int .i64 n,.int .i64 u,.int .i64 d,.string id] _ l.range Tryz.underlying82 rfl (by kernel_rfl);unfold results;rw[Tryz.results302];have h2':tmps[2]?.getD undef = .pointer (some ⟨b,0,none⟩):=by simpa using h2
 simp[h2',l1,asAddr]
theorem ztZ (w:Wo) (o:Obj) (t:TypeId) (k n u d:Int) (id:Ba):zsd ((w.alloc o).alloc (.cells #[.int .i64 k,.int .i64 n,.int .i64 u,.int .i64 d,.string id] t)) (w.heap.size+1) ⟨k,n,u,d,id⟩:=by
 have h:=zsd.fresh (w.alloc o) t k n u d id;have e:(w.alloc o).heap.size=w.heap.size+1:=by simp
 rw[e] at h;exact h
theorem zsJ (h:Hp) (w:Wo) :
  Cl 302 #[hv h] w fun e w'=>e = .returned (hv (nm h))/\Bw w w':=by
 have B0:Hid (∀o p,Bw w ((w.alloc o).alloc p)):=fun o p=>((bQ _ _).alloc (nL _) o).alloc (by simp) p
 obtain⟨k,n,u,d,id⟩:=h;unfold hv nm;simp only;by_cases h1:k=1
 ·subst h1
  simp only[if_true];go_enter Tryz.func302, Tryz.ntmps302;go_wp2;refine bodyPost_ret (v := .agg #[.int .i64 1,.int .i64 n,.int .i64 0,.int .i64 d,.string ⟨#[]⟩]) ?_ rfl ⟨rfl,B0.out _ _⟩;exact zsI _ _ (w.heap.size+1) _ _ _ _ _ (by kernel_rfl) (ztZ _ _ _ _ _ _ _ _)
 by_cases h2:k=2
 ·subst h2
  simp only[if_true,if_neg h1];clear h1;go_enter Tryz.func302, Tryz.ntmps302;go_wp2;refine bodyPost_ret (v := .agg #[.int .i64 2,.int .i64 0,.int .i64 u,.int .i64 d,.string id]) ?_ rfl ⟨rfl,B0.out _ _⟩;exact zsI _ _ (w.heap.size+1) _ _ _ _ _ (by kernel_rfl) (ztZ _ _ _ _ _ _ _ _)
 by_cases h3:k=3
 ·subst h3
  simp only[if_true,if_neg h1,if_neg h2];clear h1 h2;go_enter Tryz.func302, Tryz.ntmps302;go_wp2;refine bodyPost_ret (v := .agg #[.int .i64 3,.int .i64 0,.int .i64 0,.int .i64 0,.string id]) ?_ rfl ⟨rfl,B0.out _ _⟩;exact zsI _ _ (w.heap.size+1) _ _ _ _ _ (by kernel_rfl) (ztZ _ _ _ _ _ _ _ _)
 simp only[if_neg h1,if_neg h2,if_neg h3];go_enter Tryz.func302, Tryz.ntmps302;go_wp2;refine bodyPost_ret (v := .agg #[.int .i64 k,.int .i64 0,.int .i64 0,.int .i64 0,.string ⟨#[]⟩]) ?_ rfl ⟨rfl,B0.out _ _⟩;exact zsI _ _ (w.heap.size+1) _ _ _ _ _ (by kernel_rfl) (ztZ _ _ _ _ _ _ _ _)
theorem zvD (h:Hp) (hw:wi h=true) (w:Wo) :
  Cl 309 #[hv h] w fun e w'=>e = .returned (.bool true)/\Bw w w':=by
 have B0:Hid (∀o,Bw w (w.alloc o)):=fun o=>(bQ _ _).alloc (nL _) o
 obtain⟨k,n,u,d,id⟩:=h;unfold wi at hw;simp only[Bool.and_eq_true,decide_eq_true_eq,Bool.not_eq_true',Bool.and_eq_false_iff,Bool.or_eq_false_iff,beq_eq_false_iff_ne,Bool.not_eq_false',beq_iff_eq] at hw;obtain⟨g,⟨⟨⟨⟨g1,g2⟩,g3⟩,g4⟩,g5⟩,g6⟩:=hw;unfold hv;rcases g with ⟨q1,q2⟩|q
 ·go_enter Tryz.func309, Tryz.ntmps309
  go_wp2
  all_goals (go_ret;exact⟨rfl,B0.out _⟩)
 ·have z:(id.size:Int)=16:=by omega
  go_enter Tryz.func309, Tryz.ntmps309;go_wp2
  all_goals (go_ret;exact⟨rfl,B0.out _⟩)
theorem zvE (h:Hp) (hw:¬wi h=true) (w:Wo) :
  Cl 309 #[hv h] w fun e w'=>e = .returned (.bool false)/\Bw w w':=by
 have B0:Hid (∀o,Bw w (w.alloc o)):=fun o=>(bQ _ _).alloc (nL _) o
 obtain⟨k,n,u,d,id⟩:=h;have HK:Hid (¬wi ⟨k,n,u,d,id⟩=true):=hw;clear hw;unfold hv;go_enter Tryz.func309, Tryz.ntmps309;go_wp2
 all_goals (first
  | (go_ret;exact⟨rfl,B0.out _⟩)
  | (exfalso;apply HK.out;unfold wi;simp_all;done)
  | (go_ret;refine⟨?_,B0.out _⟩;show Ending.returned (.bool (decide (d<=4096)))=_;rw[decide_eq_false];intro q;apply HK.out;unfold wi;simp_all;try omega))
end Go.Proofs.YtjcppbhgjchjaaaGreatDoor
