/- Parts: RM,RD1,RM2,RD2,RD3,RD4,RE,RB2,RP1. -/
import Derived.Test.YtgnkkjknngblbaaGreatDoorZmG01
import Derived.Laws.MakeOwn
import Derived.Laws.OwnMore
namespace Go.Proofs.Rt
structure Hp where
 k:Int
 n:Int
 u:Int
 d:Int
 id:ByteArray
def ok (h:Hp):Bool :=
 (h.k == 1 && (decide (0≤h.n) && decide (h.n < 32)) && (decide (0≤h.d) && decide (h.d≤4096)) && h.u == 0 && h.id.size == 0)
 || (h.k == 2 && (decide (0≤h.u) && decide (h.u < 64)) && (decide (0≤h.d) && decide (h.d≤4096)) && h.id.size == 16 && h.n == 0)
 || (h.k == 3 && h.id.size == 16 && h.n == 0 && h.u == 0 && h.d == 0)
 || (h.k == 4 && h.n == 0 && h.u == 0 && h.d == 0 && h.id.size == 0)
def chk (h:Hp):Int:=if ok h=true then 0 else 70
theorem ba_zero (b:ByteArray) (h:b.size=0):b=⟨#[]⟩:=by
 apply ByteArray.ext
 have:b.data.size=0:=h
 exact Array.eq_empty_of_size_eq_zero this
theorem ok_cases (h:Hp) (e:ok h=true) :
  (h.k=1∧0≤h.n∧h.n < 32∧0≤h.d∧h.d≤4096∧h.u=0∧h.id=⟨#[]⟩)∨(h.k=2∧0≤h.u∧h.u < 64∧0≤h.d∧h.d≤4096∧h.id.size=16∧h.n=0)
  ∨ (h.k=3∧h.id.size=16∧h.n=0∧h.u=0∧h.d=0)∨(h.k=4∧h.n=0∧h.u=0∧h.d=0∧h.id=⟨#[]⟩):=by
 unfold ok at e
 simp only[Bool.or_eq_true,Bool.and_eq_true,beq_iff_eq,decide_eq_true_eq] at e
 rcases e with ((⟨⟨⟨⟨h1,h2,h3⟩,h4,h5⟩,h6⟩,h7⟩|⟨⟨⟨⟨h1,h2,h3⟩,h4,h5⟩,h6⟩,h7⟩)|⟨⟨⟨⟨h1,h2⟩,h3⟩,h4⟩,h5⟩)|⟨⟨⟨⟨h1,h2⟩,h3⟩,h4⟩,h5⟩
 ·exact .inl ⟨h1,h2,h3,h4,h5,h6,ba_zero _ h7⟩
 ·exact .inr (.inl ⟨h1,h2,h3,h4,h5,h6,h7⟩)
 ·exact .inr (.inr (.inl ⟨h1,h2,h3,h4,h5⟩))
 ·exact .inr (.inr (.inr ⟨h1,h2,h3,h4,ba_zero _ h5⟩))
theorem ok_on (n d:Int) (h1:0≤n) (h2:n < 32) (h3:0≤d) (h4:d≤4096):ok ⟨1,n,0,d,⟨#[]⟩⟩=true:=by
 unfold ok;simp[h1,h2,h3,h4];rfl
theorem ok_home (u d:Int) (id:ByteArray) (h1:0≤u) (h2:u < 64) (h3:0≤d) (h4:d≤4096) (h5:id.size=16):ok ⟨2,0,u,d,id⟩=true:=by
 unfold ok;simp[h1,h2,h3,h4,h5]
theorem ok_loop (id:ByteArray) (h5:id.size=16):ok ⟨3,0,0,0,id⟩=true:=by
 unfold ok;simp[h5]
theorem ok_drop:ok ⟨4,0,0,0,⟨#[]⟩⟩=true:=by decide
def byt (h:Hp):List UInt8:=[UInt8.ofNat h.k.toNat,UInt8.ofNat (h.n+h.u).toNat,UInt8.ofNat (h.d / 256).toNat,UInt8.ofNat (h.d % 256).toNat]++h.id.data.toList++List.replicate (20 - h.id.size) 0
theorem id_len (h:Hp) (e:ok h=true):h.id.size=0∨h.id.size=16:=by
 rcases ok_cases h e with h|h|h|h
 ·left;rw[h.2.2.2.2.2.2];rfl
 ·right;exact h.2.2.2.2.2.1
 ·right;exact h.2.1
 ·left;rw[h.2.2.2.2];rfl
theorem byt_len (h:Hp) (e:ok h=true):(byt h).length=24:=by
 have:=id_len h e
 unfold byt
 simp
 omega
def cand (l:List UInt8):Hp :=
 if l.getD 0 0=1 then ⟨1,((l.getD 1 0).toNat:Int),0,((l.getD 2 0).toNat:Int)*256+((l.getD 3 0).toNat:Int),⟨#[]⟩⟩
 else if l.getD 0 0=2 then ⟨2,0,((l.getD 1 0).toNat:Int),((l.getD 2 0).toNat:Int)*256+((l.getD 3 0).toNat:Int),⟨((l.drop 4).take 16).toArray⟩⟩
 else if l.getD 0 0=3 then ⟨3,0,0,0,⟨((l.drop 4).take 16).toArray⟩⟩
 else ⟨((l.getD 0 0).toNat:Int),0,0,0,⟨#[]⟩⟩
def zh:Hp:=⟨0,0,0,0,⟨#[]⟩⟩
def dcd (l:List UInt8):Option Hp:=if l.length=24∧ok (cand l)=true∧byt (cand l)=l then some (cand l) else none
theorem u8_of (n:Int) (h0:0≤n) (h1:n < 256):((UInt8.ofNat n.toNat).toNat:Int)=n:=by
 rw[UInt8.toNat_ofNat'];omega
theorem cand_byt (h:Hp) (e:ok h=true):cand (byt h)=h:=by
 obtain⟨k,n,u,d,id⟩:=h
 have g0:(byt ⟨k,n,u,d,id⟩).getD 0 0=UInt8.ofNat k.toNat:=rfl
 have g1:(byt ⟨k,n,u,d,id⟩).getD 1 0=UInt8.ofNat (n+u).toNat:=rfl
 have g2:(byt ⟨k,n,u,d,id⟩).getD 2 0=UInt8.ofNat (d / 256).toNat:=rfl
 have g3:(byt ⟨k,n,u,d,id⟩).getD 3 0=UInt8.ofNat (d % 256).toNat:=rfl
 have g4:id.size=16→(⟨(((byt ⟨k,n,u,d,id⟩).drop 4).take 16).toArray⟩:ByteArray)=id:=fun hs=>by
  have:(byt ⟨k,n,u,d,id⟩).drop 4=id.data.toList++List.replicate (20 - id.size) 0:=rfl
  rw[this,List.take_append_of_le_length (by simp[hs]),List.take_of_length_le (by simp[hs])]
 unfold cand
 rw[g0,g1,g2,g3]
 rcases ok_cases _ e with ⟨h1,h2,h3,h4,h5,h6,h7⟩|⟨h1,h2,h3,h4,h5,h6,h7⟩|⟨h1,h2,h3,h4,h5⟩|⟨h1,h2,h3,h4,h5⟩
 ·simp only at h1 h2 h3 h4 h5 h6 h7
  subst h1 h6 h7
  rw[if_pos (by decide)]
  rw[u8_of _ (by omega) (by omega),u8_of _ (by omega) (by omega),u8_of _ (by omega) (by omega)]
  congr 1
  ·omega
  ·omega
 ·simp only at h1 h2 h3 h4 h5 h6 h7
  subst h1 h7
  rw[if_neg (by decide),if_pos (by decide),g4 h6]
  rw[u8_of _ (by omega) (by omega),u8_of _ (by omega) (by omega),u8_of _ (by omega) (by omega)]
  congr 1
  ·omega
  ·omega
 ·simp only at h1 h2 h3 h4 h5
  subst h1 h3 h4 h5
  rw[if_neg (by decide),if_neg (by decide),if_pos (by decide),g4 h2]
 ·simp only at h1 h2 h3 h4 h5
  subst h1 h2 h3 h4 h5
  rw[if_neg (by decide),if_neg (by decide),if_neg (by decide)]
  rfl
theorem dcd_byt (h:Hp) (e:ok h=true):dcd (byt h)=some h:=by
 unfold dcd
 rw[cand_byt h e,if_pos ⟨byt_len h e,e,rfl⟩]
def shp (l:List Hp):Bool:=(List.range l.length).all fun i=>decide ((l.getD i zh).k=1) == decide (i+1 < l.length)
def pth (l:List Hp):Int:=if l.all ok=true then (if l.length=0∨5 < l.length then 4 else if shp l=true then 0 else 4) else 70
end Go.Proofs.Rt
namespace Go.Proofs.YtgnkkjknngblbaaGreatDoor
open Go.RowKit Go.Proofs.Fd Go.Proofs.Rt
set_option maxRecDepth 20000
def hv (h:Hp):Value := .agg #[.int .i64 h.k,.int .i64 h.n,.int .i64 h.u,.int .i64 h.d,.string h.id]
theorem none_of (b:ByteArray):b.toList.isEmpty=(b.size == 0):=by
 rw[ByteArray.toList_eq]
 have:b.data.toList.length=b.size:=by simp
 cases h:b.data.toList with
 | nil=>rw[h] at this;simp at this;simp[←this]
 | cons x l=>rw[h] at this;simp at this;simp[←this]
set_option maxHeartbeats 1000000 in
theorem rCheck_any (h:Hp) (w:World) :
  Calls Tryz.prog 72 #[hv h] w fun e w'=>e = .returned (.int .i64 (chk h))∧Below w.heap.size w w':=by
 have B0:Hid (∀o,Below w.heap.size w (w.alloc o)):=fun o=>(Below.refl _ _).alloc (Nat.le_refl _) o
 obtain⟨k,n,u,d,id⟩:=h
 by_cases hk:ok ⟨k,n,u,d,id⟩=true
 ·rw[show chk ⟨k,n,u,d,id⟩=0 from if_pos hk]
  have NI:=none_of id
  unfold hv
  rcases ok_cases _ hk with ⟨h1,h2,h3,h4,h5,h6,h7⟩|⟨h1,h2,h3,h4,h5,h6,h7⟩|⟨h1,h2,h3,h4,h5⟩|⟨h1,h2,h3,h4,h5⟩
  ·simp only at h1 h2 h3 h4 h5 h6 h7
   subst h1 h6 h7
   clear hk
   go_enter Tryz.func72, Tryz.ntmps72
   go_wp2
   go_ret
   exact⟨rfl,B0.out _⟩
  ·simp only at h1 h2 h3 h4 h5 h6 h7
   subst h1 h7
   have z:(id.size:Int)=16:=by omega
   clear hk
   go_enter Tryz.func72, Tryz.ntmps72
   go_wp2
   go_ret
   exact⟨rfl,B0.out _⟩
  ·simp only at h1 h2 h3 h4 h5
   subst h1 h3 h4 h5
   have z:(id.size:Int)=16:=by omega
   clear hk
   go_enter Tryz.func72, Tryz.ntmps72
   go_wp2
   go_ret
   exact⟨rfl,B0.out _⟩
  ·simp only at h1 h2 h3 h4 h5
   subst h1 h2 h3 h4 h5
   clear hk
   go_enter Tryz.func72, Tryz.ntmps72
   go_wp2
   go_ret
   exact⟨rfl,B0.out _⟩
 ·rw[show chk ⟨k,n,u,d,id⟩=70 from if_neg hk]
  have NI:=none_of id
  have HK:Hid (¬ok ⟨k,n,u,d,id⟩=true):=hk
  clear hk
  unfold hv
  go_enter Tryz.func72, Tryz.ntmps72
  go_wp2
  all_goals (first
   | (go_ret;exact⟨rfl,B0.out _⟩)
   | (exfalso;apply HK.out;unfold ok;simp_all;done)
   | (exfalso;apply HK.out;unfold ok;simp_all;omega))
end Go.Proofs.YtgnkkjknngblbaaGreatDoor
namespace Go.Proofs.Rt
theorem pth_no (l:List Hp) (j:Nat) (hj:j < l.length) (h:¬ok (l.getD j zh)=true):pth l=70:=by
 unfold pth
 rw[if_neg]
 intro g
 rw[List.all_eq_true] at g
 apply h
 rw[List.getD_eq_getElem?_getD,List.getElem?_eq_getElem hj]
 exact g _ (List.getElem_mem hj)
theorem all_ok (l:List Hp) (h:∀j,j < l.length→ok (l.getD j zh)=true):l.all ok=true:=by
 rw[List.all_eq_true]
 intro x hx
 obtain⟨j,hj,rfl⟩:=List.mem_iff_getElem.1 hx
 have:=h j hj
 rw[List.getD_eq_getElem?_getD,List.getElem?_eq_getElem hj] at this
 exact this
theorem pth_len (l:List Hp) (h:l.all ok=true) (hl:l.length=0∨5 < l.length):pth l=4:=by
 unfold pth;rw[if_pos h,if_pos hl]
theorem pth_shape (l:List Hp) (h:l.all ok=true) (hl:¬(l.length=0∨5 < l.length)) (j:Nat) (hj:j < l.length) (hs:¬((l.getD j zh).k=1↔j+1 < l.length)):pth l=4:=by
 unfold pth;rw[if_pos h,if_neg hl,if_neg]
 intro g
 unfold shp at g
 rw[List.all_eq_true] at g
 have:=g j (List.mem_range.2 hj)
 apply hs
 by_cases q1:(l.getD j zh).k=1 <;> by_cases q2:j+1 < l.length <;> simp_all
theorem pth_ok (l:List Hp) (h:l.all ok=true) (hl:¬(l.length=0∨5 < l.length)) (hs:∀j,j < l.length→((l.getD j zh).k=1↔j+1 < l.length)):pth l=0:=by
 unfold pth;rw[if_pos h,if_neg hl,if_pos]
 unfold shp
 rw[List.all_eq_true]
 intro j hj
 have:=hs j (List.mem_range.1 hj)
 by_cases q1:(l.getD j zh).k=1 <;> by_cases q2:j+1 < l.length <;> simp_all
theorem pth_zero (l:List Hp) (h:pth l=0):l.all ok=true∧1≤l.length∧l.length≤5∧∀j,j < l.length→((l.getD j zh).k=1↔j+1 < l.length):=by
 unfold pth at h
 split at h
 ·rename_i h1
  split at h
  ·exact absurd h (by decide)
  ·rename_i h2
   split at h
   ·rename_i h3
    refine⟨h1,by omega,by omega,fun j hj => ?_⟩
    unfold shp at h3
    rw[List.all_eq_true] at h3
    have:=h3 j (List.mem_range.2 hj)
    by_cases q1:(l.getD j zh).k=1 <;> by_cases q2:j+1 < l.length <;> simp_all
   ·exact absurd h (by decide)
 ·exact absurd h (by decide)
end Go.Proofs.Rt
namespace Go.Proofs.Rt
def bq (h:Hp) (q:Nat):List UInt8:=[UInt8.ofNat h.k.toNat,UInt8.ofNat (h.n+h.u).toNat,UInt8.ofNat (h.d / 256).toNat,UInt8.ofNat (h.d % 256).toNat]++h.id.data.toList.take q++List.replicate (20 - q) 0
theorem bq_all (h:Hp):bq h h.id.size=byt h:=by
 unfold bq byt
 rw[List.take_of_length_le (by simp)]
theorem bq_len (h:Hp) (q:Nat) (hq:q≤h.id.size) (h2:h.id.size≤20):(bq h q).length=24:=by
 unfold bq;simp;omega
theorem bq_zero (h:Hp):((((List.replicate 24 (0:UInt8)).set 0 (UInt8.ofNat h.k.toNat)).set 1 (UInt8.ofNat (h.n+h.u).toNat)).set 2 (UInt8.ofNat (h.d / 256).toNat)).set 3 (UInt8.ofNat (h.d % 256).toNat)=bq h 0:=by
 unfold bq
 rw[List.take_zero,List.append_nil]
 rfl
theorem bq_succ (h:Hp) (q:Nat) (hq:q < h.id.size) (h2:h.id.size≤20):(bq h q).set (4+q) h.id[q]=bq h (q+1):=by
 unfold bq
 have hl:q < h.id.data.toList.length:=by simpa using hq
 have e:20 - q=(20 - (q+1))+1:=by omega
 generalize hz:[UInt8.ofNat h.k.toNat,UInt8.ofNat (h.n+h.u).toNat,UInt8.ofNat (h.d / 256).toNat,UInt8.ofNat (h.d % 256).toNat]=Z
 have lz:Z.length=4:=by rw[←hz];rfl
 have e2:(Z++h.id.data.toList.take q).length=4+q:=by simp[lz];omega
 rw[e,List.replicate_succ,List.set_append_right _ _ (by rw[e2];exact Nat.le_refl _),e2,Nat.sub_self,List.set_cons_zero,List.take_succ_eq_append_getElem hl]
 simp only[List.append_assoc,List.cons_append,List.nil_append]
 rfl
end Go.Proofs.Rt
namespace Go.Proofs.YtgnkkjknngblbaaGreatDoor
open Go.RowKit Go.Proofs.Fd Go.Proofs.Rt
set_option maxRecDepth 20000
def HopAt (w:World) (g:Nat) (h:Hp):Prop :=
 (∀o,w.frozen? ⟨g,o,none⟩=false)∧w.cell? ⟨g,0,none⟩=some (.int .i64 h.k)∧w.cell? ⟨g,1,none⟩=some (.int .i64 h.n)∧w.cell? ⟨g,2,none⟩=some (.int .i64 h.u)∧w.cell? ⟨g,3,none⟩=some (.int .i64 h.d)∧w.cell? ⟨g,4,none⟩=some (.string h.id)
theorem HopAt.new (w:World) (t:TypeId) (h:Hp):HopAt (w.alloc (.cells #[.int .i64 h.k,.int .i64 h.n,.int .i64 h.u,.int .i64 h.d,.string h.id] t)) w.heap.size h :=
 ⟨fun o=>by simp[go_sem],by simp[go_sem],by simp[go_sem],by simp[go_sem],by simp[go_sem],by simp[go_sem]⟩
theorem HopAt.later {w w':World} {g:Nat} {h:Hp} (q:HopAt w g h) (hb:Below w.heap.size w w'):HopAt w' g h:=by
 obtain⟨f,h0,h1,h2,h3,h4⟩:=q
 exact⟨fun o=>(frozen_kept hb (World.block_lt_of_cell? _ _ h0)).trans (f o),cell_later hb h0,cell_later hb h1,cell_later hb h2,cell_later hb h3,cell_later hb h4⟩
theorem HopAt.other {w:World} {g:Nat} {h:Hp} (q:HopAt w g h) {a:Addr} (hne:a.block≠g) (v:Value):HopAt (w.setCell a v) g h:=by
 obtain⟨f,h0,h1,h2,h3,h4⟩:=q
 exact⟨fun o=>(frozen_setCell hne).trans (f o),cell_setCell h0 hne,cell_setCell h1 hne,cell_setCell h2 hne,cell_setCell h3 hne,cell_setCell h4 hne⟩
theorem HopAt.lt {w:World} {g:Nat} {h:Hp} (q:HopAt w g h):g < w.heap.size:=World.block_lt_of_cell? _ _ q.2.1
theorem rmake24 (w:World):∃W:World,(Instr.makeSlice 43 (.int .i64 24) (.int .i64 24)).run Tryz.prog w = .ok (.slice (some ⟨w.heap.size,0,none⟩) 24 24) W
  ∧ BytesAt W w.heap.size (List.replicate 24 0)∧Below w.heap.size w W∧w.heap.size < W.heap.size:=by
 refine⟨w.alloc (.cells (Array.replicate 24 (.int .u8 0)) 5),by kernel_rfl,fun j hj => ?_,(Below.refl _ _).alloc (Nat.le_refl _) _,by simp⟩
 have hj':j < 24:=by simpa using hj
 refine⟨?_,by simp[go_sem]⟩
 rw[World.cell?_alloc_new,List.getElem_replicate,Array.getElem?_replicate,if_pos hj']
 rfl
theorem BytesAt.cell {w:World} {b:Nat} {l:List UInt8} (h:BytesAt w b l) (j:Nat) (hj:j < l.length):∃v,w.cell? ⟨b,j,none⟩=some v∧w.frozen? ⟨b,j,none⟩=false:=⟨_,h j hj⟩
set_option maxHeartbeats 1000000 in
theorem rBytes_any (h:Hp) (hk:ok h=true) (w:World) :
  Calls Tryz.prog 36 #[hv h] w fun e w'=>e = .returned (.string ⟨(byt h).toArray⟩)∧Below w.heap.size w w':=by
 have hI:=id_len h hk
 have hB:0≤h.k∧h.k < 256∧0≤h.n+h.u∧h.n+h.u < 256∧0≤h.d∧h.d≤4096:=by
  rcases ok_cases h hk with g|g|g|g <;> omega
 have K0:Hid (bq h h.id.size=byt h∧(∀q,q < h.id.size→(bq h q).set (4+q) h.id[q]! = bq h (q+1))∧(∀q,q≤h.id.size→(bq h q).length=24)):=by
  refine⟨bq_all h,fun q hq => ?_,fun q hq=>bq_len h q hq (by omega)⟩
  rw[getElem!_pos h.id q hq]
  exact bq_succ h q hq (by omega)
 have Z0:Hid (_=_):=bq_zero h
 obtain⟨k,n,u,d,id⟩:=h
 simp only at hI hB
 obtain⟨b1,b2,b3,b4,b5,b6⟩:=hB
 unfold hv
 obtain⟨A,hA⟩:∃A,w.alloc (.cells #[.int .i64 k,.int .i64 n,.int .i64 u,.int .i64 d,.string id] 34)=A:=⟨_,rfl⟩
 obtain⟨W,CM,BW,bW,sW⟩:=rmake24 A
 obtain⟨g,hg⟩:∃g,w.heap.size=g:=⟨_,rfl⟩
 obtain⟨gb,hgb⟩:∃g,A.heap.size=g:=⟨_,rfl⟩
 have CB:Hid (HopAt W g ⟨k,n,u,d,id⟩∧Below g w W∧g < gb):=by
  have h0:=HopAt.new w 34 ⟨k,n,u,d,id⟩
  have hb:Below w.heap.size w A:=hA ▸ (Below.refl _ _).alloc (Nat.le_refl _) _
  have hlt:w.heap.size < A.heap.size:=by rw[←hA];simp
  simp only at h0
  rw[hA] at h0
  rw[←hg,←hgb]
  exact⟨h0.later bW,chain hb bW,hlt⟩
 rw[hgb] at CM BW
 have ne1:¬gb=g:=by have:=CB.out.2.2;omega
 have ne2:¬g=gb:=by have:=CB.out.2.2;omega
 have t1:IntKind.u8.wrap k=k:=by rw[IntKind.wrap_u8];omega
 have t1':k % 256=k:=by omega
 have t2:IntKind.i64.wrap (n+u)=n+u:=by rw[IntKind.wrap_i64];omega
 have t3:IntKind.u8.wrap (n+u)=n+u:=by rw[IntKind.wrap_u8];omega
 have t3':(n+u) % 256=n+u:=by omega
 have t4:Int.tdiv d 256=d / 256:=Int.tdiv_eq_ediv_of_nonneg b5
 have t5:Int.tmod d 256=d % 256:=Int.tmod_eq_emod_of_nonneg b5
 have t6:IntKind.u8.wrap (d / 256)=d / 256:=by rw[IntKind.wrap_u8];omega
 have t6':d / 256 % 256=d / 256:=by omega
 have t7:IntKind.u8.wrap (d % 256)=d % 256:=by rw[IntKind.wrap_u8];omega
 have t7':d % 256 % 256=d % 256:=by omega
 obtain⟨d0,c0,c1,c2,c3,c4⟩:=CB.out.1
 simp only at c0 c1 c2 c3 c4
 obtain⟨v0,x0,f0⟩:=BW.cell 0 (by decide)
 obtain⟨v1,x1,f1⟩:=BW.cell 1 (by decide)
 obtain⟨v2,x2,f2⟩:=BW.cell 2 (by decide)
 obtain⟨v3,x3,f3⟩:=BW.cell 3 (by decide)
 have I0:Hid (BytesAt ((((W.setCell ⟨gb,0,none⟩ (.int .u8 k)).setCell ⟨gb,1,none⟩ (.int .u8 (n+u))).setCell ⟨gb,2,none⟩ (.int .u8 (d / 256))).setCell ⟨gb,3,none⟩ (.int .u8 (d % 256))) gb (bq ⟨k,n,u,d,id⟩ 0)∧HopAt ((((W.setCell ⟨gb,0,none⟩ (.int .u8 k)).setCell ⟨gb,1,none⟩ (.int .u8 (n+u))).setCell ⟨gb,2,none⟩ (.int .u8 (d / 256))).setCell ⟨gb,3,none⟩ (.int .u8 (d % 256))) g ⟨k,n,u,d,id⟩∧Below g w ((((W.setCell ⟨gb,0,none⟩ (.int .u8 k)).setCell ⟨gb,1,none⟩ (.int .u8 (n+u))).setCell ⟨gb,2,none⟩ (.int .u8 (d / 256))).setCell ⟨gb,3,none⟩ (.int .u8 (d % 256)))):=by
  obtain⟨h1,h2,h3⟩:=CB.out
  have le:g≤gb:=by omega
  refine⟨?_,(((h1.other (a:=⟨gb,0,none⟩) ne1 _).other (a:=⟨gb,1,none⟩) ne1 _).other (a:=⟨gb,2,none⟩) ne1 _).other (a:=⟨gb,3,none⟩) ne1 _,(((h2.setCell (p:=⟨gb,0,none⟩) le _).setCell (p:=⟨gb,1,none⟩) le _).setCell (p:=⟨gb,2,none⟩) le _).setCell (p:=⟨gb,3,none⟩) le _⟩
  rw[←Z0.out]
  exact (((BW.set 0 _ _ (by rw[u8_of _ b1 b2])).set 1 _ _ (by rw[u8_of _ b3 b4])).set 2 _ _ (by show _=((UInt8.ofNat (d / 256).toNat).toNat:Int);rw[u8_of (d / 256) (by omega) (by omega)])).set 3 _ _ (by show _=((UInt8.ofNat (d % 256).toNat).toNat:Int);rw[u8_of (d % 256) (by omega) (by omega)])
 have HG:Hid (w.heap.size=g):=hg
 have HLE:Hid (g≤gb):=by have:=CB.out.2.2;show _≤_;omega
 clear CB Z0 BW bW sW d0 hgb
 go_enter Tryz.func36, Tryz.ntmps36
 go_wp2
 have zI:id.size≤16:=by omega
 go_loopw [4] (fun iv wr=>∃q:Nat,q≤id.size∧iv = .int .i64 (q:Int)∧Hid (BytesAt wr gb (bq ⟨k,n,u,d,id⟩ q)∧HopAt wr g ⟨k,n,u,d,id⟩∧Below g w wr)) (fun iv _=>id.size - (intOf iv).toNat)
 case atStart=>exact⟨0,Nat.zero_le _,rfl,I0.out⟩
 case round =>
  obtain⟨q,hq,rfl,I⟩:=hrel
  clear I0 CM x0 f0 x1 f1 x2 f2 x3 f3 c0 c1 c2 c3 c4
  obtain⟨-,c0,c1,c2,c3,c4⟩:=I.out.2.1
  simp only at c0 c1 c2 c3 c4
  by_cases hlt:q < id.size
  ·have g1:(q:Int) < (id.size:Int):=by omega
   have g2:IntKind.i64.wrap (4+(q:Int))=((4+q:Nat):Int):=by rw[IntKind.wrap_i64];omega
   have g3:(4+q:Int) < 24:=by omega
   have g3':((4+q:Nat):Int) < 24:=by omega
   have g4:4+q < 24:=by omega
   have LB:Hid ((bq ⟨k,n,u,d,id⟩ q).length=24):=K0.out.2.2 q hq
   obtain⟨vx,cx,fx⟩:=I.out.1.cell (4+q) (by rw[LB.out];exact g4)
   have NB:Hid (_=_):=K0.out.2.1 q hlt
   rw[getElem!_pos id q hlt] at NB
   obtain⟨y,hy⟩:∃y,id[q]=y:=⟨_,rfl⟩
   rw[hy] at NB
   have NX:Hid (BytesAt (wr.setCell ⟨gb,4+q,none⟩ (.int .u8 (y.toNat:Int))) gb (bq ⟨k,n,u,d,id⟩ (q+1))∧HopAt (wr.setCell ⟨gb,4+q,none⟩ (.int .u8 (y.toNat:Int))) g ⟨k,n,u,d,id⟩∧Below g w (wr.setCell ⟨gb,4+q,none⟩ (.int .u8 (y.toNat:Int)))):=by
    obtain⟨h1,h2,h3⟩:=I.out
    rw[←NB.out]
    exact⟨h1.set (4+q) y _ rfl,h2.other (a:=⟨gb,4+q,none⟩) ne1 _,h3.setCell (p:=⟨gb,4+q,none⟩) HLE.out _⟩
   clear NB LB I
   go_wp2
   exact⟨⟨q+1,by omega,by go_num,NX.out⟩,by simp[intOf];omega⟩
  ·obtain rfl:q=id.size:=by omega
   have g1:¬(id.size:Int) < (id.size:Int):=by omega
   have CV:(convert 43 9 (.slice (some ⟨gb,0,none⟩) 24 24)).run Tryz.prog wr = .ok (.string ⟨(byt ⟨k,n,u,d,id⟩).toArray⟩) wr:=by
    have h:=I.out.1
    have h2:=K0.out.2.2 id.size (Nat.le_refl _)
    have h3:bq ⟨k,n,u,d,id⟩ id.size=byt ⟨k,n,u,d,id⟩:=K0.out.1
    rw[h3] at h h2
    exact h.string h2
   have BF:Hid (Below g w wr):=I.out.2.2
   clear I
   obtain⟨R,hR⟩:∃R:ByteArray,⟨(byt ⟨k,n,u,d,id⟩).toArray⟩=R:=⟨_,rfl⟩
   rw[hR] at CV
   have HR:Hid (_=_):=hR
   clear hR K0
   go_wp2
   go_ret
   exact⟨by rw[HR.out];rfl,BF.out⟩
end Go.Proofs.YtgnkkjknngblbaaGreatDoor
namespace Go.Proofs.YtgnkkjknngblbaaGreatDoor
open Go.RowKit Go.Proofs.Fd Go.Proofs.Rt
set_option maxRecDepth 20000
def enV (h:Hp):Array Value:=if ok h=true then #[.string ⟨(byt h).toArray⟩,.int .i64 0] else #[.string ⟨#[]⟩,.int .i64 70]
theorem enV_ok (h:Hp) (e:ok h=true):enV h=#[.string ⟨(byt h).toArray⟩,.int .i64 0]:=if_pos e
theorem enV_no (h:Hp) (e:¬ok h=true):enV h=#[.string ⟨#[]⟩,.int .i64 70]:=if_neg e
theorem chk_ok (h:Hp) (e:ok h=true):chk h=0:=if_pos e
theorem chk_no (h:Hp) (e:¬ok h=true):chk h=70:=if_neg e
def dcV (b:ByteArray):Array Value:=if b.size=24 then (match dcd b.data.toList with
  | some x=>#[hv x,.int .i64 0]
  | none=>#[hv zh,.int .i64 70]) else #[hv zh,.int .i64 3]
theorem dcV_form (b:ByteArray) (h:¬b.size=24):dcV b=#[hv zh,.int .i64 3]:=if_neg h
theorem dcV_some (b:ByteArray) (x:Hp) (h:b.size=24) (e:dcd b.data.toList=some x):dcV b=#[hv x,.int .i64 0]:=by unfold dcV;rw[if_pos h,e]
theorem dcV_none (b:ByteArray) (h:b.size=24) (e:dcd b.data.toList=none):dcV b=#[hv zh,.int .i64 70]:=by unfold dcV;rw[if_pos h,e]
theorem HopAt.cells {w:World} {g:Nat} {k n u d:Int} {id:ByteArray} (q:HopAt w g ⟨k,n,u,d,id⟩):w.cell? ⟨g,0,none⟩=some (.int .i64 k)∧w.cell? ⟨g,1,none⟩=some (.int .i64 n)∧w.cell? ⟨g,2,none⟩=some (.int .i64 u)∧w.cell? ⟨g,3,none⟩=some (.int .i64 d)∧w.cell? ⟨g,4,none⟩=some (.string id):=q.2
theorem HopAt.fresh (w:World) (t:TypeId) (k n u d:Int) (id:ByteArray):HopAt (w.alloc (.cells #[.int .i64 k,.int .i64 n,.int .i64 u,.int .i64 d,.string id] t)) w.heap.size ⟨k,n,u,d,id⟩:=HopAt.new w t ⟨k,n,u,d,id⟩
theorem cand_kinds (b:ByteArray) (c0 c1 c2 c3:UInt8) (h0:b.data.toList.getD 0 0=c0) (h1:b.data.toList.getD 1 0=c1) (h2:b.data.toList.getD 2 0=c2) (h3:b.data.toList.getD 3 0=c3) :
  (c0=1→cand b.data.toList=⟨1,(c1.toNat:Int),0,(c2.toNat:Int)*256+(c3.toNat:Int),⟨#[]⟩⟩)∧(c0=2→cand b.data.toList=⟨2,0,(c1.toNat:Int),(c2.toNat:Int)*256+(c3.toNat:Int),b.extract 4 20⟩)
  ∧ (c0=3→cand b.data.toList=⟨3,0,0,0,b.extract 4 20⟩)∧(c0≠1→c0≠2→c0≠3→cand b.data.toList=⟨(c0.toNat:Int),0,0,0,⟨#[]⟩⟩):=by
 have e:b.extract 4 20=⟨((b.data.toList.drop 4).take 16).toArray⟩:=by
  apply ByteArray.ext
  rw[ByteArray.data_extract]
  apply Array.toList_inj.1
  rw[Array.toList_extract,List.extract_eq_take_drop]
 unfold cand
 rw[h0,h1,h2,h3,e]
 refine⟨fun h=>if_pos h,fun h => ?_,fun h => ?_,fun g1 g2 g3 => ?_⟩
 ·rw[if_neg (by rw[h];decide),if_pos h]
 ·rw[if_neg (by rw[h];decide),if_neg (by rw[h];decide),if_pos h]
 ·rw[if_neg g1,if_neg g2,if_neg g3]
theorem HopAt.whole {w:World} {b:Nat} {h:Hp} (q:HopAt w b h) (k n u d:Int) (id:ByteArray) :
  HopAt (((((w.setCell ⟨b,0,none⟩ (.int .i64 k)).setCell ⟨b,1,none⟩ (.int .i64 n)).setCell ⟨b,2,none⟩ (.int .i64 u)).setCell ⟨b,3,none⟩ (.int .i64 d)).setCell ⟨b,4,none⟩ (.string id)) b ⟨k,n,u,d,id⟩:=by
 obtain⟨f,h0,h1,h2,h3,h4⟩:=q
 refine⟨fun o=>by simp[go_sem,f],?_,?_,?_,?_,?_⟩ <;> simp[go_sem,h0,h1,h2,h3,h4]
theorem below_put5 {B:Nat} {a w:World} (h:Below B a w) {c:Nat} (hc:B≤c) (y0 y1 y2 y3 y4:Value) :
  Below B a (((((w.setCell ⟨c,0,none⟩ y0).setCell ⟨c,1,none⟩ y1).setCell ⟨c,2,none⟩ y2).setCell ⟨c,3,none⟩ y3).setCell ⟨c,4,none⟩ y4) :=
 ((((h.setCell (p:=⟨c,0,none⟩) hc _).setCell (p:=⟨c,1,none⟩) hc _).setCell (p:=⟨c,2,none⟩) hc _).setCell (p:=⟨c,3,none⟩) hc _).setCell (p:=⟨c,4,none⟩) hc _
theorem HopAt.range {w:World} {b:Nat} {k n u d:Int} {id:ByteArray} (h:HopAt w b ⟨k,n,u,d,id⟩):w.rangeAt b 0 [.int .i64 k,.int .i64 n,.int .i64 u,.int .i64 d,.string id]:=by
 obtain⟨h0,h1,h2,h3,h4⟩:=h.cells
 intro j v hv
 rcases (by have:=(List.getElem?_eq_some_iff.1 hv).1;simp at this;omega:j=0∨j=1∨j=2∨j=3∨j=4) with rfl|rfl|rfl|rfl|rfl
 ·simp at hv;subst hv;simpa using h0
 ·simp at hv;subst hv;simpa using h1
 ·simp at hv;subst hv;simpa using h2
 ·simp at hv;subst hv;simpa using h3
 ·simp at hv;subst hv;simpa using h4
end Go.Proofs.YtgnkkjknngblbaaGreatDoor
namespace Go.Proofs.YtgnkkjknngblbaaGreatDoor
open Go.RowKit Go.Proofs.Fd Go.Proofs.Rt
set_option maxRecDepth 20000
def HopsAt (w:World) (a:Option Addr) (hs:List Hp):Prop:=∀i,i < hs.length→∃b o,a=some ⟨b,o,none⟩
  ∧ w.cell? ⟨b,o+i*5,none⟩=some (.int .i64 (hs.getD i zh).k)∧w.cell? ⟨b,o+i*5+1,none⟩=some (.int .i64 (hs.getD i zh).n)∧w.cell? ⟨b,o+i*5+2,none⟩=some (.int .i64 (hs.getD i zh).u)
  ∧ w.cell? ⟨b,o+i*5+3,none⟩=some (.int .i64 (hs.getD i zh).d)∧w.cell? ⟨b,o+i*5+4,none⟩=some (.string (hs.getD i zh).id)
theorem HopsAt.later {B:Nat} {w w':World} {a:Option Addr} {hs:List Hp} (h:HopsAt w a hs) (hb:Below B w w') (hB:B=w.heap.size):HopsAt w' a hs:=fun i hi=>by
 subst hB
 obtain⟨b,o,ha,h0,h1,h2,h3,h4⟩:=h i hi
 exact⟨b,o,ha,cell_later hb h0,cell_later hb h1,cell_later hb h2,cell_later hb h3,cell_later hb h4⟩
set_option maxHeartbeats 2000000 in
theorem rPath_any (a:Option Addr) (hs:List Hp) (n cap:Nat) (hn:Hid (hs.length=n)) (hn2:n < 9223372036854775807) (w:World) (hc:Hid (HopsAt w a hs)) :
  Calls Tryz.prog 34 #[.slice a n cap] w fun e w'=>e = .returned (.int .i64 (pth hs))∧Below w.heap.size w w':=by
 have CK:Hid (∀(k n u d:Int) (id:ByteArray) (w:World),Calls Tryz.prog 72 #[.agg #[.int .i64 k,.int .i64 n,.int .i64 u,.int .i64 d,.string id]] w fun e w'=>e = .returned (.int .i64 (chk ⟨k,n,u,d,id⟩))∧Below w.heap.size w w'):=fun k n u d id w=>rCheck_any ⟨k,n,u,d,id⟩ w
 go_enter Tryz.func34, Tryz.ntmps34
 go_wp2
 go_loopw [3] (fun iv wr=>∃q:Nat,q≤n∧iv = .int .i64 (q:Int)∧Hid ((∀j,j < q→ok (hs.getD j zh)=true)∧Below w.heap.size w wr)) (fun iv _=>n - (intOf iv).toNat)
 case atStart=>exact⟨0,Nat.zero_le _,rfl,fun j hj=>absurd hj (Nat.not_lt_zero _),Below.refl _ _⟩
 case round =>
  obtain⟨q,hq,rfl,I⟩:=hrel
  by_cases hlt:q < n
  ·have g1:(q:Int) < (n:Int):=by omega
   obtain⟨b,o,rfl,c0,c1,c2,c3,c4⟩:=(hc.out.later I.out.2 rfl) q (by rw[hn.out];exact hlt)
   have PN:Hid (¬ok (hs.getD q zh)=true→pth hs=70):=fun h=>pth_no hs q (by rw[hn.out];exact hlt) h
   have EX:Hid (ok (hs.getD q zh)=true→∀j,j < q+1→ok (hs.getD j zh)=true):=fun h j hj=>by
    rcases Nat.lt_or_ge j q with g|g
    ·exact I.out.1 j g
    ·obtain rfl:j=q:=by omega
     exact h
   generalize hs.getD q zh=h at *
   obtain⟨k,nn,u,d,id⟩:=h
   simp only at c0 c1 c2 c3 c4
   have CK1:Hid (∀w,Calls Tryz.prog 72 #[.agg #[.int .i64 k,.int .i64 nn,.int .i64 u,.int .i64 d,.string id]] w fun e w'=>e = .returned (.int .i64 (chk ⟨k,nn,u,d,id⟩))∧Below w.heap.size w w'):=fun w=>CK.out _ _ _ _ _ w
   clear CK
   by_cases hk:ok ⟨k,nn,u,d,id⟩=true
   ·rw[chk_ok _ hk] at CK1
    have EY:=EX.out hk
    have EZ:Hid (∀j,j < q+1→ok (hs.getD j zh)=true):=EY
    clear EX PN EY hk
    go_wp2_with fail
    refine Calls.mono (CK1.out _) ?_
    rintro e w1 ⟨rfl,hb1⟩
    have B1:Hid (Below w.heap.size w w1):=chain I.out.2 hb1
    clear hb1 CK1 I c0 c1 c2 c3 c4
    go_wp2
    exact⟨⟨q+1,by omega,by go_num,EZ.out,B1.out⟩,by simp[intOf];omega⟩
   ·rw[chk_no _ hk] at CK1
    have E:Hid (pth hs=70):=PN.out hk
    clear EX PN hk
    go_wp2_with fail
    refine Calls.mono (CK1.out _) ?_
    rintro e w1 ⟨rfl,hb1⟩
    have B1:Hid (Below w.heap.size w w1):=chain I.out.2 hb1
    clear hb1 CK1 I c0 c1 c2 c3 c4
    go_wp2
    go_ret
    exact⟨by rw[E.out];rfl,B1.out⟩
  ·obtain rfl:q=n:=by omega
   have g1:¬(q:Int) < (q:Int):=by omega
   have AL:Hid (hs.all ok=true):=all_ok hs (by rw[hn.out];exact I.out.1)
   have B1:Hid (Below w.heap.size w wr):=I.out.2
   clear I CK
   by_cases hl:q=0∨5 < q
   ·have E:Hid (pth hs=4):=pth_len hs AL.out (by rw[hn.out];exact hl)
    clear AL
    rcases hl with hl|hl
    ·have g2:(q:Int) < 1:=by omega
     go_wp2
     go_ret
     exact⟨by rw[E.out];rfl,B1.out⟩
    ·have g2:¬(q:Int) < 1:=by omega
     have g3:(5:Int) < (q:Int):=by omega
     go_wp2
     go_ret
     exact⟨by rw[E.out];rfl,B1.out⟩
   ·have g2:¬(q:Int) < 1:=by omega
    have g3:¬(5:Int) < (q:Int):=by omega
    go_wp2
    have HL:Hid (¬(hs.length=0∨5 < hs.length)):=by rw[hn.out];exact hl
    go_loopw [5] (fun iv wx=>∃p:Nat,p≤q∧iv = .int .i64 (p:Int)∧Hid ((∀j,j < p→((hs.getD j zh).k=1↔j+1 < q))∧Below w.heap.size w wx)) (fun iv _=>q - (intOf iv).toNat)
    case atStart=>exact⟨0,Nat.zero_le _,rfl,fun j hj=>absurd hj (Nat.not_lt_zero _),B1.out⟩
    case round =>
     obtain⟨p,hp,rfl,I⟩:=hrel
     clear B1
     by_cases hpl:p < q
     ·have x1:(p:Int) < (q:Int):=by omega
      obtain⟨b,o,rfl,c0,c1,c2,c3,c4⟩:=(hc.out.later I.out.2 rfl) p (by rw[hn.out];exact hpl)
      have x2:IntKind.i64.wrap ((q:Int) - 1)=(q:Int) - 1:=by rw[IntKind.wrap_i64];omega
      have PN:Hid (¬((hs.getD p zh).k=1↔p+1 < q)→pth hs=4):=fun h=>pth_shape hs AL.out HL.out p (by rw[hn.out];exact hpl) (by rw[hn.out];exact h)
      have EX:Hid (((hs.getD p zh).k=1↔p+1 < q)→∀j,j < p+1→((hs.getD j zh).k=1↔j+1 < q)):=fun h j hj=>by
       rcases Nat.lt_or_ge j p with g|g
       ·exact I.out.1 j g
       ·obtain rfl:j=p:=by omega
        exact h
      generalize (hs.getD p zh).k=k at *
      by_cases k1:k=1
      ·by_cases l1:p+1 < q
       ·have x3:(p:Int) < (q:Int) - 1:=by omega
        have EZ:Hid (∀j,j < p+1→((hs.getD j zh).k=1↔j+1 < q)):=EX.out ⟨fun _=>l1,fun _=>k1⟩
        have BF:Hid (Below w.heap.size w wr):=I.out.2
        subst k1
        clear EX PN I
        go_wp2
        exact⟨⟨p+1,by omega,by go_num,EZ.out,BF.out⟩,by simp[intOf];omega⟩
       ·have x3:¬(p:Int) < (q:Int) - 1:=by omega
        have E:Hid (pth hs=4):=PN.out (fun h=>l1 (h.1 k1))
        have BF:Hid (Below w.heap.size w wr):=I.out.2
        subst k1
        clear EX PN I
        go_wp2
        go_ret
        exact⟨by rw[E.out];rfl,BF.out⟩
      ·have kb:(k == 1)=false:=beq_eq_false_iff_ne.2 k1
       by_cases l1:p+1 < q
       ·have x3:(p:Int) < (q:Int) - 1:=by omega
        have E:Hid (pth hs=4):=PN.out (fun h=>k1 (h.2 l1))
        have BF:Hid (Below w.heap.size w wr):=I.out.2
        clear EX PN I
        go_wp2
        go_ret
        exact⟨by rw[E.out];rfl,BF.out⟩
       ·have x3:¬(p:Int) < (q:Int) - 1:=by omega
        have EZ:Hid (∀j,j < p+1→((hs.getD j zh).k=1↔j+1 < q)):=EX.out ⟨fun h=>absurd h k1,fun h=>absurd h l1⟩
        have BF:Hid (Below w.heap.size w wr):=I.out.2
        clear EX PN I
        go_wp2
        exact⟨⟨p+1,by omega,by go_num,EZ.out,BF.out⟩,by simp[intOf];omega⟩
     ·obtain rfl:p=q:=by omega
      have x1:¬(p:Int) < (p:Int):=by omega
      have E:Hid (pth hs=0):=pth_ok hs AL.out HL.out (by rw[hn.out];exact I.out.1)
      have BF:Hid (Below w.heap.size w wr):=I.out.2
      clear I
      go_wp2
      go_ret
      exact⟨by rw[E.out];rfl,BF.out⟩
end Go.Proofs.YtgnkkjknngblbaaGreatDoor
namespace Go.Proofs.YtgnkkjknngblbaaGreatDoor
open Go.RowKit Go.Proofs.Fd Go.Proofs.Rt
set_option maxRecDepth 20000
def CheckC:Prop:=∀(h:Hp) (w:World),Hid (h.id.size≤140737488355328) →
  Calls Tryz.prog 101 #[hv h] w fun e w'=>e = .returned (.int .i64 (chk h))∧Below w.heap.size w w'
def EncodeC:Prop:=∀(h:Hp) (w:World),Hid (h.id.size≤140737488355328) →
  Calls Tryz.prog 69 #[hv h] w fun e w'=>e = .returned (.tuple (enV h))∧Below w.heap.size w w'
def DecodeC:Prop:=∀(b:ByteArray) (w:World),Hid (b.size≤140737488355328) →
  Calls Tryz.prog 54 #[.string b] w fun e w'=>e = .returned (.tuple (dcV b))∧Below w.heap.size w w'
def PathC:Prop:=∀(a:Option Addr) (hs:List Hp) (n cap:Nat) (w:World),Hid (hs.length=n)→Hid (n≤140737488355328)→Hid (∀h∈hs,h.id.size≤140737488355328)→Hid (HopsAt w a hs) →
  Calls Tryz.prog 65 #[.slice a n cap] w fun e w'=>e = .returned (.int .i64 (pth hs))∧Below w.heap.size w w'
theorem hops_none (w:World) (a:Option Addr):HopsAt w a []:=fun i hi=>by simp at hi
theorem hops_two (w:World) (t:TypeId) (x y:Hp):HopsAt (w.alloc (.cells #[.int .i64 x.k,.int .i64 x.n,.int .i64 x.u,.int .i64 x.d,.string x.id,.int .i64 y.k,.int .i64 y.n,.int .i64 y.u,.int .i64 y.d,.string y.id] t)) (some ⟨w.heap.size,0,none⟩) [x,y]:=fun i hi=>by
 rcases (by simp at hi;omega:i=0∨i=1) with rfl|rfl
 ·exact⟨w.heap.size,0,rfl,by simp[go_sem],by simp[go_sem],by simp[go_sem],by simp[go_sem],by simp[go_sem]⟩
 ·exact⟨w.heap.size,0,rfl,by simp[go_sem],by simp[go_sem],by simp[go_sem],by simp[go_sem],by simp[go_sem]⟩
end Go.Proofs.YtgnkkjknngblbaaGreatDoor
namespace Go.Proofs.YtgnkkjknngblbaaGreatDoor
open Go.RowKit Go.Proofs.Fd Go.Proofs.Rt
set_option maxRecDepth 20000
def hcells (l:List Hp):List Value:=l.flatMap fun h=>[.int .i64 h.k,.int .i64 h.n,.int .i64 h.u,.int .i64 h.d,.string h.id]
theorem hcells_cons (h:Hp) (l:List Hp):hcells (h::l) = .int .i64 h.k :: .int .i64 h.n :: .int .i64 h.u :: .int .i64 h.d :: .string h.id::hcells l:=rfl
theorem hcells_len (l:List Hp):(hcells l).length=l.length*5:=by
 induction l with
 | nil=>rfl
 | cons h l ih=>rw[hcells_cons];simp only[List.length_cons,ih];omega
theorem hcells_at (l:List Hp) (i:Nat) (hi:i < l.length):(hcells l)[i*5]?=some (.int .i64 (l.getD i zh).k)∧(hcells l)[i*5+1]?=some (.int .i64 (l.getD i zh).n)∧(hcells l)[i*5+2]?=some (.int .i64 (l.getD i zh).u)∧(hcells l)[i*5+3]?=some (.int .i64 (l.getD i zh).d)∧(hcells l)[i*5+4]?=some (.string (l.getD i zh).id):=by
 induction l generalizing i with
 | nil=>simp at hi
 | cons h l ih =>
  rw[hcells_cons]
  cases i with
  | zero=>exact⟨rfl,rfl,rfl,rfl,rfl⟩
  | succ i =>
   have:=ih i (by simpa using hi)
   have e:(i+1)*5=i*5+5:=by omega
   rw[e]
   exact this
theorem hcells_one (l:List Hp):∀u∈hcells l,u.oneCell'=true:=by
 intro u hu
 unfold hcells at hu
 rw[List.mem_flatMap] at hu
 obtain⟨h,-,hu⟩:=hu
 simp at hu
 rcases hu with rfl|rfl|rfl|rfl|rfl <;> rfl
theorem HopsAt.each {w:World} {b o:Nat} {l:List Hp} (h:HopsAt w (some ⟨b,o,none⟩) l):∀j u,(hcells l)[j]?=some u→w.cell? (Addr.add ⟨b,o,none⟩ j)=some u:=by
 intro j u hu
 have hj:j < l.length*5:=by have:=(List.getElem?_eq_some_iff.1 hu).1;rw[hcells_len] at this;exact this
 have q:Addr.add ⟨b,o,none⟩ j=⟨b,o+j,none⟩:=by first|(simp[Addr.add];done)|(simp[Addr.add];intro h;simp[h])
 rw[q]
 obtain⟨i,r,hr,rfl⟩:∃i r,r < 5∧j=i*5+r:=⟨j / 5,j % 5,by omega,by omega⟩
 obtain⟨b',o',he,c0,c1,c2,c3,c4⟩:=h i (by omega)
 cases he
 obtain⟨g0,g1,g2,g3,g4⟩:=hcells_at l i (by omega)
 rcases (by omega:r=0∨r=1∨r=2∨r=3∨r=4) with rfl|rfl|rfl|rfl|rfl
 ·rw[Nat.add_zero] at hu;rw[g0] at hu;cases hu;exact c0
 ·rw[g1] at hu;cases hu;rw[←Nat.add_assoc];exact c1
 ·rw[g2] at hu;cases hu;rw[←Nat.add_assoc];exact c2
 ·rw[g3] at hu;cases hu;rw[←Nat.add_assoc];exact c3
 ·rw[g4] at hu;cases hu;rw[←Nat.add_assoc];exact c4
theorem owns_hops {w:World} {base n:Nat} {v:Value} {l:List Hp} (h:w.ownsRow base 34 5 v n (hcells l)):l.length=n∧((v = .slice none 0 0∧n=0)∨∃g cap,v = .slice (some ⟨g,0,none⟩) n cap∧HopsAt w (some ⟨g,0,none⟩) l∧base≤g∧g < w.heap.size∧n≤cap∧cap≤maxLen):=by
 obtain⟨h1,h2⟩:=h
 have hl:l.length=n:=by rw[hcells_len] at h1;omega
 refine⟨hl,?_⟩
 rcases h2 with h2|⟨g,cap,cur,rfl,hb,hh,hcap,hml,-,ht⟩
 ·exact .inl h2
 ·have hg:g < w.heap.size:=by obtain⟨q,-⟩:=Array.getElem?_eq_some_iff.1 hh;exact q
  refine .inr ⟨g,cap,rfl,fun i hi=>⟨g,0,rfl,?_⟩,hb,hg,hcap,hml⟩
  have key:∀j,j < n*5→w.cell? ⟨g,0+j,none⟩=(hcells l)[j]?:=fun j hj=>by
   have e:cur[j]?=(hcells l)[j]?:=by
    rw[←ht,List.getElem?_take_of_lt hj];simp
   rw[Nat.zero_add]
   unfold World.cell?
   rw[hh]
   simp only[Option.isSome_none]
   show cur[j]?=_
   rw[e]
  obtain⟨g0,g1,g2,g3,g4⟩:=hcells_at l i hi
  refine⟨?_,?_,?_,?_,?_⟩
  ·rw[key (i*5) (by omega)];exact g0
  ·rw[Nat.add_assoc,key (i*5+1) (by omega)];exact g1
  ·rw[Nat.add_assoc,key (i*5+2) (by omega)];exact g2
  ·rw[Nat.add_assoc,key (i*5+3) (by omega)];exact g3
  ·rw[Nat.add_assoc,key (i*5+4) (by omega)];exact g4
theorem infoHop:(Tryz.prog.info? 34).map (fun i=>(i.zero,i.size,i.bytes))=some (some (.agg #[.int .i64 0,.int .i64 0,.int .i64 0,.int .i64 0,.string ⟨#[]⟩]),5,48):=by kernel_rfl
theorem heap_newr (w:World) (o:Obj):(w.alloc o).heap[w.heap.size]?=some o:=by
 show (w.heap.push o)[w.heap.size]?=some o
 simp
end Go.Proofs.YtgnkkjknngblbaaGreatDoor
namespace Go.Proofs.Rt
def nm (h:Hp):Hp :=
 if h.k=1 then ⟨h.k,h.n,0,h.d,⟨#[]⟩⟩ else if h.k=2 then ⟨h.k,0,h.u,h.d,h.id⟩ else if h.k=3 then ⟨h.k,0,0,0,h.id⟩ else ⟨h.k,0,0,0,⟨#[]⟩⟩
def wi (h:Hp):Bool :=
 (!((h.k == 2 || h.k == 3) && !(h.id.size == 16))) && (decide (0≤h.n) && decide (h.n < 32) && decide (0≤h.u) && decide (h.u < 64) && decide (0≤h.d) && decide (h.d≤4096))
theorem ok_wi (h:Hp) (e:ok h=true):wi h=true∧nm h=h∧1≤h.k∧h.k≤4:=by
 obtain⟨k,n,u,d,id⟩:=h
 rcases ok_cases _ e with ⟨h1,h2,h3,h4,h5,h6,h7⟩|⟨h1,h2,h3,h4,h5,h6,h7⟩|⟨h1,h2,h3,h4,h5⟩|⟨h1,h2,h3,h4,h5⟩ <;> simp only at h1 h2 h3 h4 h5 <;> (try simp only at h6 h7)
 ·subst h1 h6 h7;simp[wi,nm];omega
 ·subst h1 h7;simp[wi,nm];omega
 ·subst h1 h3 h4 h5;simp[wi,nm];omega
 ·subst h1 h2 h3 h4 h5;simp[wi,nm]
theorem wi_ok (h:Hp) (h1:1≤h.k) (h4:h.k≤4) (e:nm h=h) (hw:wi h=true):ok h=true:=by
 obtain⟨k,n,u,d,id⟩:=h
 simp only at h1 h4
 unfold wi at hw
 simp only[Bool.and_eq_true,decide_eq_true_eq,Bool.not_eq_true',Bool.and_eq_false_iff,Bool.or_eq_false_iff,beq_eq_false_iff_ne,Bool.not_eq_false',beq_iff_eq] at hw
 obtain⟨g,⟨⟨⟨⟨g1,g2⟩,g3⟩,g4⟩,g5⟩,g6⟩:=hw
 rcases (by omega:k=1∨k=2∨k=3∨k=4) with rfl|rfl|rfl|rfl
 ·simp[nm] at e;obtain⟨rfl,rfl⟩:=e;exact ok_on _ _ g1 g2 g5 g6
 ·simp[nm] at e;subst e;exact ok_home _ _ _ g3 g4 g5 g6 (by simpa using g)
 ·simp[nm] at e;obtain⟨rfl,rfl,rfl⟩:=e;exact ok_loop _ (by simpa using g)
 ·simp[nm] at e;obtain⟨rfl,rfl,rfl,rfl⟩:=e;exact ok_drop
end Go.Proofs.Rt
namespace Go.Proofs.YtgnkkjknngblbaaGreatDoor
open Go.RowKit Go.Proofs.Fd Go.Proofs.Rt
set_option maxRecDepth 20000
theorem res_named (tmps:Array Value) (w:World) (b:Nat) (k n u d:Int) (id:ByteArray) (h2:tmps.getD 2 undef = .pointer (some ⟨b,0,none⟩)) (l:HopAt w b ⟨k,n,u,d,id⟩) :
  (results Tryz.f82 tmps).run Tryz.prog w = .ok (.agg #[.int .i64 k,.int .i64 n,.int .i64 u,.int .i64 d,.string id]) w:=by
 have l1:=run_loadVar_mid (P:=Tryz.prog) w b 0 34 [.int .i64 k,.int .i64 n,.int .i64 u,.int .i64 d,.string id] _ l.range Tryz.underlying34 rfl (by kernel_rfl)
 unfold results
 rw[Tryz.results82]
 have h2':tmps[2]?.getD undef = .pointer (some ⟨b,0,none⟩):=by simpa using h2
 simp[h2',l1,asAddr]
theorem fresh2 (w:World) (o:Obj) (t:TypeId) (k n u d:Int) (id:ByteArray):HopAt ((w.alloc o).alloc (.cells #[.int .i64 k,.int .i64 n,.int .i64 u,.int .i64 d,.string id] t)) (w.heap.size+1) ⟨k,n,u,d,id⟩:=by
 have h:=HopAt.fresh (w.alloc o) t k n u d id
 have e:(w.alloc o).heap.size=w.heap.size+1:=by simp
 rw[e] at h
 exact h
set_option maxHeartbeats 1000000 in
theorem named_any (h:Hp) (w:World) :
  Calls Tryz.prog 82 #[hv h] w fun e w'=>e = .returned (hv (nm h))∧Below w.heap.size w w':=by
 have B0:Hid (∀o p,Below w.heap.size w ((w.alloc o).alloc p)):=fun o p=>((Below.refl _ _).alloc (Nat.le_refl _) o).alloc (by simp) p
 obtain⟨k,n,u,d,id⟩:=h
 unfold hv nm
 simp only
 by_cases h1:k=1
 ·subst h1
  simp only[if_true]
  go_enter Tryz.func82, Tryz.ntmps82
  go_wp2
  refine bodyPost_ret (v := .agg #[.int .i64 1,.int .i64 n,.int .i64 0,.int .i64 d,.string ⟨#[]⟩]) ?_ rfl ⟨rfl,B0.out _ _⟩
  exact res_named _ _ (w.heap.size+1) _ _ _ _ _ (by kernel_rfl) (fresh2 _ _ _ _ _ _ _ _)
 by_cases h2:k=2
 ·subst h2
  simp only[if_true,if_neg h1]
  clear h1
  go_enter Tryz.func82, Tryz.ntmps82
  go_wp2
  refine bodyPost_ret (v := .agg #[.int .i64 2,.int .i64 0,.int .i64 u,.int .i64 d,.string id]) ?_ rfl ⟨rfl,B0.out _ _⟩
  exact res_named _ _ (w.heap.size+1) _ _ _ _ _ (by kernel_rfl) (fresh2 _ _ _ _ _ _ _ _)
 by_cases h3:k=3
 ·subst h3
  simp only[if_true,if_neg h1,if_neg h2]
  clear h1 h2
  go_enter Tryz.func82, Tryz.ntmps82
  go_wp2
  refine bodyPost_ret (v := .agg #[.int .i64 3,.int .i64 0,.int .i64 0,.int .i64 0,.string id]) ?_ rfl ⟨rfl,B0.out _ _⟩
  exact res_named _ _ (w.heap.size+1) _ _ _ _ _ (by kernel_rfl) (fresh2 _ _ _ _ _ _ _ _)
 simp only[if_neg h1,if_neg h2,if_neg h3]
 go_enter Tryz.func82, Tryz.ntmps82
 go_wp2
 refine bodyPost_ret (v := .agg #[.int .i64 k,.int .i64 0,.int .i64 0,.int .i64 0,.string ⟨#[]⟩]) ?_ rfl ⟨rfl,B0.out _ _⟩
 exact res_named _ _ (w.heap.size+1) _ _ _ _ _ (by kernel_rfl) (fresh2 _ _ _ _ _ _ _ _)
set_option maxHeartbeats 1000000 in
theorem within_t (h:Hp) (hw:wi h=true) (w:World) :
  Calls Tryz.prog 130 #[hv h] w fun e w'=>e = .returned (.bool true)∧Below w.heap.size w w':=by
 have B0:Hid (∀o,Below w.heap.size w (w.alloc o)):=fun o=>(Below.refl _ _).alloc (Nat.le_refl _) o
 obtain⟨k,n,u,d,id⟩:=h
 unfold wi at hw
 simp only[Bool.and_eq_true,decide_eq_true_eq,Bool.not_eq_true',Bool.and_eq_false_iff,Bool.or_eq_false_iff,beq_eq_false_iff_ne,Bool.not_eq_false',beq_iff_eq] at hw
 obtain⟨g,⟨⟨⟨⟨g1,g2⟩,g3⟩,g4⟩,g5⟩,g6⟩:=hw
 unfold hv
 rcases g with ⟨q1,q2⟩|q
 ·go_enter Tryz.func130, Tryz.ntmps130
  go_wp2
  all_goals (go_ret;exact⟨rfl,B0.out _⟩)
 ·have z:(id.size:Int)=16:=by omega
  go_enter Tryz.func130, Tryz.ntmps130
  go_wp2
  all_goals (go_ret;exact⟨rfl,B0.out _⟩)
set_option maxHeartbeats 1000000 in
theorem within_f (h:Hp) (hw:¬wi h=true) (w:World) :
  Calls Tryz.prog 130 #[hv h] w fun e w'=>e = .returned (.bool false)∧Below w.heap.size w w':=by
 have B0:Hid (∀o,Below w.heap.size w (w.alloc o)):=fun o=>(Below.refl _ _).alloc (Nat.le_refl _) o
 obtain⟨k,n,u,d,id⟩:=h
 have HK:Hid (¬wi ⟨k,n,u,d,id⟩=true):=hw
 clear hw
 unfold hv
 go_enter Tryz.func130, Tryz.ntmps130
 go_wp2
 all_goals (first
  | (go_ret;exact⟨rfl,B0.out _⟩)
  | (exfalso;apply HK.out;unfold wi;simp_all;done)
  | (go_ret;refine⟨?_,B0.out _⟩;show Ending.returned (.bool (decide (d≤4096)))=_;rw[decide_eq_false];intro q;apply HK.out;unfold wi;simp_all;try omega))
end Go.Proofs.YtgnkkjknngblbaaGreatDoor
