/- Parts: RM,RD1,RM2,RD2. -/
import Derived.Test.YtgnkkjknngblbaaGreatDoorZnG01
import Derived.Laws.MakeOwn
namespace Go.Proofs.Rt
structure Hp where
 k:Int
 n:Int
 u:Int
 d:Int
 id:ByteArray
def ok (h:Hp):Bool :=
 (h.k == 1 && (decide (0≤h.n) && decide (h.n < 32)) && (decide (0≤h.d) && decide (h.d≤4096)) && h.u == 0 && h.id.size == 0)
 || (h.k == 2 && (decide (0≤h.u) && decide (h.u < 64)) && (decide (0≤h.d) && decide (h.d≤4096)) && h.id.size == 16 && h.n == 0)
 || (h.k == 3 && h.id.size == 16 && h.n == 0 && h.u == 0 && h.d == 0)
 || (h.k == 4 && h.n == 0 && h.u == 0 && h.d == 0 && h.id.size == 0)
def chk (h:Hp):Int:=if ok h=true then 0 else 70
theorem ba_zero (b:ByteArray) (h:b.size=0):b=⟨#[]⟩:=by
 apply ByteArray.ext
 have:b.data.size=0:=h
 exact Array.eq_empty_of_size_eq_zero this
theorem ok_cases (h:Hp) (e:ok h=true) :
  (h.k=1∧0≤h.n∧h.n < 32∧0≤h.d∧h.d≤4096∧h.u=0∧h.id=⟨#[]⟩)∨(h.k=2∧0≤h.u∧h.u < 64∧0≤h.d∧h.d≤4096∧h.id.size=16∧h.n=0)
  ∨ (h.k=3∧h.id.size=16∧h.n=0∧h.u=0∧h.d=0)∨(h.k=4∧h.n=0∧h.u=0∧h.d=0∧h.id=⟨#[]⟩):=by
 unfold ok at e
 simp only[Bool.or_eq_true,Bool.and_eq_true,beq_iff_eq,decide_eq_true_eq] at e
 rcases e with ((⟨⟨⟨⟨h1,h2,h3⟩,h4,h5⟩,h6⟩,h7⟩|⟨⟨⟨⟨h1,h2,h3⟩,h4,h5⟩,h6⟩,h7⟩)|⟨⟨⟨⟨h1,h2⟩,h3⟩,h4⟩,h5⟩)|⟨⟨⟨⟨h1,h2⟩,h3⟩,h4⟩,h5⟩
 ·exact .inl ⟨h1,h2,h3,h4,h5,h6,ba_zero _ h7⟩
 ·exact .inr (.inl ⟨h1,h2,h3,h4,h5,h6,h7⟩)
 ·exact .inr (.inr (.inl ⟨h1,h2,h3,h4,h5⟩))
 ·exact .inr (.inr (.inr ⟨h1,h2,h3,h4,ba_zero _ h5⟩))
theorem ok_on (n d:Int) (h1:0≤n) (h2:n < 32) (h3:0≤d) (h4:d≤4096):ok ⟨1,n,0,d,⟨#[]⟩⟩=true:=by
 unfold ok;simp[h1,h2,h3,h4];rfl
theorem ok_home (u d:Int) (id:ByteArray) (h1:0≤u) (h2:u < 64) (h3:0≤d) (h4:d≤4096) (h5:id.size=16):ok ⟨2,0,u,d,id⟩=true:=by
 unfold ok;simp[h1,h2,h3,h4,h5]
theorem ok_loop (id:ByteArray) (h5:id.size=16):ok ⟨3,0,0,0,id⟩=true:=by
 unfold ok;simp[h5]
theorem ok_drop:ok ⟨4,0,0,0,⟨#[]⟩⟩=true:=by decide
def byt (h:Hp):List UInt8:=[UInt8.ofNat h.k.toNat,UInt8.ofNat (h.n+h.u).toNat,UInt8.ofNat (h.d / 256).toNat,UInt8.ofNat (h.d % 256).toNat]++h.id.data.toList++List.replicate (20 - h.id.size) 0
theorem id_len (h:Hp) (e:ok h=true):h.id.size=0∨h.id.size=16:=by
 rcases ok_cases h e with h|h|h|h
 ·left;rw[h.2.2.2.2.2.2];rfl
 ·right;exact h.2.2.2.2.2.1
 ·right;exact h.2.1
 ·left;rw[h.2.2.2.2];rfl
theorem byt_len (h:Hp) (e:ok h=true):(byt h).length=24:=by
 have:=id_len h e
 unfold byt
 simp
 omega
def cand (l:List UInt8):Hp :=
 if l.getD 0 0=1 then ⟨1,((l.getD 1 0).toNat:Int),0,((l.getD 2 0).toNat:Int)*256+((l.getD 3 0).toNat:Int),⟨#[]⟩⟩
 else if l.getD 0 0=2 then ⟨2,0,((l.getD 1 0).toNat:Int),((l.getD 2 0).toNat:Int)*256+((l.getD 3 0).toNat:Int),⟨((l.drop 4).take 16).toArray⟩⟩
 else if l.getD 0 0=3 then ⟨3,0,0,0,⟨((l.drop 4).take 16).toArray⟩⟩
 else ⟨((l.getD 0 0).toNat:Int),0,0,0,⟨#[]⟩⟩
def zh:Hp:=⟨0,0,0,0,⟨#[]⟩⟩
def dcd (l:List UInt8):Option Hp:=if l.length=24∧ok (cand l)=true∧byt (cand l)=l then some (cand l) else none
theorem u8_of (n:Int) (h0:0≤n) (h1:n < 256):((UInt8.ofNat n.toNat).toNat:Int)=n:=by
 rw[UInt8.toNat_ofNat'];omega
theorem cand_byt (h:Hp) (e:ok h=true):cand (byt h)=h:=by
 obtain⟨k,n,u,d,id⟩:=h
 have g0:(byt ⟨k,n,u,d,id⟩).getD 0 0=UInt8.ofNat k.toNat:=rfl
 have g1:(byt ⟨k,n,u,d,id⟩).getD 1 0=UInt8.ofNat (n+u).toNat:=rfl
 have g2:(byt ⟨k,n,u,d,id⟩).getD 2 0=UInt8.ofNat (d / 256).toNat:=rfl
 have g3:(byt ⟨k,n,u,d,id⟩).getD 3 0=UInt8.ofNat (d % 256).toNat:=rfl
 have g4:id.size=16→(⟨(((byt ⟨k,n,u,d,id⟩).drop 4).take 16).toArray⟩:ByteArray)=id:=fun hs=>by
  have:(byt ⟨k,n,u,d,id⟩).drop 4=id.data.toList++List.replicate (20 - id.size) 0:=rfl
  rw[this,List.take_append_of_le_length (by simp[hs]),List.take_of_length_le (by simp[hs])]
 unfold cand
 rw[g0,g1,g2,g3]
 rcases ok_cases _ e with ⟨h1,h2,h3,h4,h5,h6,h7⟩|⟨h1,h2,h3,h4,h5,h6,h7⟩|⟨h1,h2,h3,h4,h5⟩|⟨h1,h2,h3,h4,h5⟩
 ·simp only at h1 h2 h3 h4 h5 h6 h7
  subst h1 h6 h7
  rw[if_pos (by decide)]
  rw[u8_of _ (by omega) (by omega),u8_of _ (by omega) (by omega),u8_of _ (by omega) (by omega)]
  congr 1
  ·omega
  ·omega
 ·simp only at h1 h2 h3 h4 h5 h6 h7
  subst h1 h7
  rw[if_neg (by decide),if_pos (by decide),g4 h6]
  rw[u8_of _ (by omega) (by omega),u8_of _ (by omega) (by omega),u8_of _ (by omega) (by omega)]
  congr 1
  ·omega
  ·omega
 ·simp only at h1 h2 h3 h4 h5
  subst h1 h3 h4 h5
  rw[if_neg (by decide),if_neg (by decide),if_pos (by decide),g4 h2]
 ·simp only at h1 h2 h3 h4 h5
  subst h1 h2 h3 h4 h5
  rw[if_neg (by decide),if_neg (by decide),if_neg (by decide)]
  rfl
theorem dcd_byt (h:Hp) (e:ok h=true):dcd (byt h)=some h:=by
 unfold dcd
 rw[cand_byt h e,if_pos ⟨byt_len h e,e,rfl⟩]
def shp (l:List Hp):Bool:=(List.range l.length).all fun i=>decide ((l.getD i zh).k=1) == decide (i+1 < l.length)
def pth (l:List Hp):Int:=if l.all ok=true then (if l.length=0∨5 < l.length then 4 else if shp l=true then 0 else 4) else 70
end Go.Proofs.Rt
namespace Go.Proofs.YtgnkkjknngblbaaGreatDoor
open Go.RowKit Go.Proofs.Fd Go.Proofs.Rt
set_option maxRecDepth 20000
def hv (h:Hp):Value := .agg #[.int .i64 h.k,.int .i64 h.n,.int .i64 h.u,.int .i64 h.d,.string h.id]
theorem none_of (b:ByteArray):b.toList.isEmpty=(b.size == 0):=by
 rw[ByteArray.toList_eq]
 have:b.data.toList.length=b.size:=by simp
 cases h:b.data.toList with
 | nil=>rw[h] at this;simp at this;simp[←this]
 | cons x l=>rw[h] at this;simp at this;simp[←this]
set_option maxHeartbeats 1000000 in
theorem rCheck_any (h:Hp) (w:World) :
  Calls Tryz.prog 72 #[hv h] w fun e w'=>e = .returned (.int .i64 (chk h))∧Below w.heap.size w w':=by
 have B0:Hid (∀o,Below w.heap.size w (w.alloc o)):=fun o=>(Below.refl _ _).alloc (Nat.le_refl _) o
 obtain⟨k,n,u,d,id⟩:=h
 by_cases hk:ok ⟨k,n,u,d,id⟩=true
 ·rw[show chk ⟨k,n,u,d,id⟩=0 from if_pos hk]
  have NI:=none_of id
  unfold hv
  rcases ok_cases _ hk with ⟨h1,h2,h3,h4,h5,h6,h7⟩|⟨h1,h2,h3,h4,h5,h6,h7⟩|⟨h1,h2,h3,h4,h5⟩|⟨h1,h2,h3,h4,h5⟩
  ·simp only at h1 h2 h3 h4 h5 h6 h7
   subst h1 h6 h7
   clear hk
   go_enter Tryz.func72, Tryz.ntmps72
   go_wp2
   go_ret
   exact⟨rfl,B0.out _⟩
  ·simp only at h1 h2 h3 h4 h5 h6 h7
   subst h1 h7
   have z:(id.size:Int)=16:=by omega
   clear hk
   go_enter Tryz.func72, Tryz.ntmps72
   go_wp2
   go_ret
   exact⟨rfl,B0.out _⟩
  ·simp only at h1 h2 h3 h4 h5
   subst h1 h3 h4 h5
   have z:(id.size:Int)=16:=by omega
   clear hk
   go_enter Tryz.func72, Tryz.ntmps72
   go_wp2
   go_ret
   exact⟨rfl,B0.out _⟩
  ·simp only at h1 h2 h3 h4 h5
   subst h1 h2 h3 h4 h5
   clear hk
   go_enter Tryz.func72, Tryz.ntmps72
   go_wp2
   go_ret
   exact⟨rfl,B0.out _⟩
 ·rw[show chk ⟨k,n,u,d,id⟩=70 from if_neg hk]
  have NI:=none_of id
  have HK:Hid (¬ok ⟨k,n,u,d,id⟩=true):=hk
  clear hk
  unfold hv
  go_enter Tryz.func72, Tryz.ntmps72
  go_wp2
  all_goals (first
   | (go_ret;exact⟨rfl,B0.out _⟩)
   | (exfalso;apply HK.out;unfold ok;simp_all;done)
   | (exfalso;apply HK.out;unfold ok;simp_all;omega))
end Go.Proofs.YtgnkkjknngblbaaGreatDoor
namespace Go.Proofs.Rt
theorem pth_no (l:List Hp) (j:Nat) (hj:j < l.length) (h:¬ok (l.getD j zh)=true):pth l=70:=by
 unfold pth
 rw[if_neg]
 intro g
 rw[List.all_eq_true] at g
 apply h
 rw[List.getD_eq_getElem?_getD,List.getElem?_eq_getElem hj]
 exact g _ (List.getElem_mem hj)
theorem all_ok (l:List Hp) (h:∀j,j < l.length→ok (l.getD j zh)=true):l.all ok=true:=by
 rw[List.all_eq_true]
 intro x hx
 obtain⟨j,hj,rfl⟩:=List.mem_iff_getElem.1 hx
 have:=h j hj
 rw[List.getD_eq_getElem?_getD,List.getElem?_eq_getElem hj] at this
 exact this
theorem pth_len (l:List Hp) (h:l.all ok=true) (hl:l.length=0∨5 < l.length):pth l=4:=by
 unfold pth;rw[if_pos h,if_pos hl]
theorem pth_shape (l:List Hp) (h:l.all ok=true) (hl:¬(l.length=0∨5 < l.length)) (j:Nat) (hj:j < l.length) (hs:¬((l.getD j zh).k=1↔j+1 < l.length)):pth l=4:=by
 unfold pth;rw[if_pos h,if_neg hl,if_neg]
 intro g
 unfold shp at g
 rw[List.all_eq_true] at g
 have:=g j (List.mem_range.2 hj)
 apply hs
 by_cases q1:(l.getD j zh).k=1 <;> by_cases q2:j+1 < l.length <;> simp_all
theorem pth_ok (l:List Hp) (h:l.all ok=true) (hl:¬(l.length=0∨5 < l.length)) (hs:∀j,j < l.length→((l.getD j zh).k=1↔j+1 < l.length)):pth l=0:=by
 unfold pth;rw[if_pos h,if_neg hl,if_pos]
 unfold shp
 rw[List.all_eq_true]
 intro j hj
 have:=hs j (List.mem_range.1 hj)
 by_cases q1:(l.getD j zh).k=1 <;> by_cases q2:j+1 < l.length <;> simp_all
theorem pth_zero (l:List Hp) (h:pth l=0):l.all ok=true∧1≤l.length∧l.length≤5∧∀j,j < l.length→((l.getD j zh).k=1↔j+1 < l.length):=by
 unfold pth at h
 split at h
 ·rename_i h1
  split at h
  ·exact absurd h (by decide)
  ·rename_i h2
   split at h
   ·rename_i h3
    refine⟨h1,by omega,by omega,fun j hj => ?_⟩
    unfold shp at h3
    rw[List.all_eq_true] at h3
    have:=h3 j (List.mem_range.2 hj)
    by_cases q1:(l.getD j zh).k=1 <;> by_cases q2:j+1 < l.length <;> simp_all
   ·exact absurd h (by decide)
 ·exact absurd h (by decide)
end Go.Proofs.Rt
namespace Go.Proofs.Rt
def bq (h:Hp) (q:Nat):List UInt8:=[UInt8.ofNat h.k.toNat,UInt8.ofNat (h.n+h.u).toNat,UInt8.ofNat (h.d / 256).toNat,UInt8.ofNat (h.d % 256).toNat]++h.id.data.toList.take q++List.replicate (20 - q) 0
theorem bq_all (h:Hp):bq h h.id.size=byt h:=by
 unfold bq byt
 rw[List.take_of_length_le (by simp)]
theorem bq_len (h:Hp) (q:Nat) (hq:q≤h.id.size) (h2:h.id.size≤20):(bq h q).length=24:=by
 unfold bq;simp;omega
theorem bq_zero (h:Hp):((((List.replicate 24 (0:UInt8)).set 0 (UInt8.ofNat h.k.toNat)).set 1 (UInt8.ofNat (h.n+h.u).toNat)).set 2 (UInt8.ofNat (h.d / 256).toNat)).set 3 (UInt8.ofNat (h.d % 256).toNat)=bq h 0:=by
 unfold bq
 rw[List.take_zero,List.append_nil]
 rfl
theorem bq_succ (h:Hp) (q:Nat) (hq:q < h.id.size) (h2:h.id.size≤20):(bq h q).set (4+q) h.id[q]=bq h (q+1):=by
 unfold bq
 have hl:q < h.id.data.toList.length:=by simpa using hq
 have e:20 - q=(20 - (q+1))+1:=by omega
 generalize hz:[UInt8.ofNat h.k.toNat,UInt8.ofNat (h.n+h.u).toNat,UInt8.ofNat (h.d / 256).toNat,UInt8.ofNat (h.d % 256).toNat]=Z
 have lz:Z.length=4:=by rw[←hz];rfl
 have e2:(Z++h.id.data.toList.take q).length=4+q:=by simp[lz];omega
 rw[e,List.replicate_succ,List.set_append_right _ _ (by rw[e2];exact Nat.le_refl _),e2,Nat.sub_self,List.set_cons_zero,List.take_succ_eq_append_getElem hl]
 simp only[List.append_assoc,List.cons_append,List.nil_append]
 rfl
end Go.Proofs.Rt
namespace Go.Proofs.YtgnkkjknngblbaaGreatDoor
open Go.RowKit Go.Proofs.Fd Go.Proofs.Rt
set_option maxRecDepth 20000
def HopAt (w:World) (g:Nat) (h:Hp):Prop :=
 (∀o,w.frozen? ⟨g,o,none⟩=false)∧w.cell? ⟨g,0,none⟩=some (.int .i64 h.k)∧w.cell? ⟨g,1,none⟩=some (.int .i64 h.n)∧w.cell? ⟨g,2,none⟩=some (.int .i64 h.u)∧w.cell? ⟨g,3,none⟩=some (.int .i64 h.d)∧w.cell? ⟨g,4,none⟩=some (.string h.id)
theorem HopAt.new (w:World) (t:TypeId) (h:Hp):HopAt (w.alloc (.cells #[.int .i64 h.k,.int .i64 h.n,.int .i64 h.u,.int .i64 h.d,.string h.id] t)) w.heap.size h :=
 ⟨fun o=>by simp[go_sem],by simp[go_sem],by simp[go_sem],by simp[go_sem],by simp[go_sem],by simp[go_sem]⟩
theorem HopAt.later {w w':World} {g:Nat} {h:Hp} (q:HopAt w g h) (hb:Below w.heap.size w w'):HopAt w' g h:=by
 obtain⟨f,h0,h1,h2,h3,h4⟩:=q
 exact⟨fun o=>(frozen_kept hb (World.block_lt_of_cell? _ _ h0)).trans (f o),cell_later hb h0,cell_later hb h1,cell_later hb h2,cell_later hb h3,cell_later hb h4⟩
theorem HopAt.other {w:World} {g:Nat} {h:Hp} (q:HopAt w g h) {a:Addr} (hne:a.block≠g) (v:Value):HopAt (w.setCell a v) g h:=by
 obtain⟨f,h0,h1,h2,h3,h4⟩:=q
 exact⟨fun o=>(frozen_setCell hne).trans (f o),cell_setCell h0 hne,cell_setCell h1 hne,cell_setCell h2 hne,cell_setCell h3 hne,cell_setCell h4 hne⟩
theorem HopAt.lt {w:World} {g:Nat} {h:Hp} (q:HopAt w g h):g < w.heap.size:=World.block_lt_of_cell? _ _ q.2.1
theorem rmake24 (w:World):∃W:World,(Instr.makeSlice 43 (.int .i64 24) (.int .i64 24)).run Tryz.prog w = .ok (.slice (some ⟨w.heap.size,0,none⟩) 24 24) W
  ∧ BytesAt W w.heap.size (List.replicate 24 0)∧Below w.heap.size w W∧w.heap.size < W.heap.size:=by
 refine⟨w.alloc (.cells (Array.replicate 24 (.int .u8 0)) 5),by kernel_rfl,fun j hj => ?_,(Below.refl _ _).alloc (Nat.le_refl _) _,by simp⟩
 have hj':j < 24:=by simpa using hj
 refine⟨?_,by simp[go_sem]⟩
 rw[World.cell?_alloc_new,List.getElem_replicate,Array.getElem?_replicate,if_pos hj']
 rfl
theorem BytesAt.cell {w:World} {b:Nat} {l:List UInt8} (h:BytesAt w b l) (j:Nat) (hj:j < l.length):∃v,w.cell? ⟨b,j,none⟩=some v∧w.frozen? ⟨b,j,none⟩=false:=⟨_,h j hj⟩
set_option maxHeartbeats 1000000 in
theorem rBytes_any (h:Hp) (hk:ok h=true) (w:World) :
  Calls Tryz.prog 36 #[hv h] w fun e w'=>e = .returned (.string ⟨(byt h).toArray⟩)∧Below w.heap.size w w':=by
 have hI:=id_len h hk
 have hB:0≤h.k∧h.k < 256∧0≤h.n+h.u∧h.n+h.u < 256∧0≤h.d∧h.d≤4096:=by
  rcases ok_cases h hk with g|g|g|g <;> omega
 have K0:Hid (bq h h.id.size=byt h∧(∀q,q < h.id.size→(bq h q).set (4+q) h.id[q]! = bq h (q+1))∧(∀q,q≤h.id.size→(bq h q).length=24)):=by
  refine⟨bq_all h,fun q hq => ?_,fun q hq=>bq_len h q hq (by omega)⟩
  rw[getElem!_pos h.id q hq]
  exact bq_succ h q hq (by omega)
 have Z0:Hid (_=_):=bq_zero h
 obtain⟨k,n,u,d,id⟩:=h
 simp only at hI hB
 obtain⟨b1,b2,b3,b4,b5,b6⟩:=hB
 unfold hv
 obtain⟨A,hA⟩:∃A,w.alloc (.cells #[.int .i64 k,.int .i64 n,.int .i64 u,.int .i64 d,.string id] 34)=A:=⟨_,rfl⟩
 obtain⟨W,CM,BW,bW,sW⟩:=rmake24 A
 obtain⟨g,hg⟩:∃g,w.heap.size=g:=⟨_,rfl⟩
 obtain⟨gb,hgb⟩:∃g,A.heap.size=g:=⟨_,rfl⟩
 have CB:Hid (HopAt W g ⟨k,n,u,d,id⟩∧Below g w W∧g < gb):=by
  have h0:=HopAt.new w 34 ⟨k,n,u,d,id⟩
  have hb:Below w.heap.size w A:=hA ▸ (Below.refl _ _).alloc (Nat.le_refl _) _
  have hlt:w.heap.size < A.heap.size:=by rw[←hA];simp
  simp only at h0
  rw[hA] at h0
  rw[←hg,←hgb]
  exact⟨h0.later bW,chain hb bW,hlt⟩
 rw[hgb] at CM BW
 have ne1:¬gb=g:=by have:=CB.out.2.2;omega
 have ne2:¬g=gb:=by have:=CB.out.2.2;omega
 have t1:IntKind.u8.wrap k=k:=by rw[IntKind.wrap_u8];omega
 have t1':k % 256=k:=by omega
 have t2:IntKind.i64.wrap (n+u)=n+u:=by rw[IntKind.wrap_i64];omega
 have t3:IntKind.u8.wrap (n+u)=n+u:=by rw[IntKind.wrap_u8];omega
 have t3':(n+u) % 256=n+u:=by omega
 have t4:Int.tdiv d 256=d / 256:=Int.tdiv_eq_ediv_of_nonneg b5
 have t5:Int.tmod d 256=d % 256:=Int.tmod_eq_emod_of_nonneg b5
 have t6:IntKind.u8.wrap (d / 256)=d / 256:=by rw[IntKind.wrap_u8];omega
 have t6':d / 256 % 256=d / 256:=by omega
 have t7:IntKind.u8.wrap (d % 256)=d % 256:=by rw[IntKind.wrap_u8];omega
 have t7':d % 256 % 256=d % 256:=by omega
 obtain⟨d0,c0,c1,c2,c3,c4⟩:=CB.out.1
 simp only at c0 c1 c2 c3 c4
 obtain⟨v0,x0,f0⟩:=BW.cell 0 (by decide)
 obtain⟨v1,x1,f1⟩:=BW.cell 1 (by decide)
 obtain⟨v2,x2,f2⟩:=BW.cell 2 (by decide)
 obtain⟨v3,x3,f3⟩:=BW.cell 3 (by decide)
 have I0:Hid (BytesAt ((((W.setCell ⟨gb,0,none⟩ (.int .u8 k)).setCell ⟨gb,1,none⟩ (.int .u8 (n+u))).setCell ⟨gb,2,none⟩ (.int .u8 (d / 256))).setCell ⟨gb,3,none⟩ (.int .u8 (d % 256))) gb (bq ⟨k,n,u,d,id⟩ 0)∧HopAt ((((W.setCell ⟨gb,0,none⟩ (.int .u8 k)).setCell ⟨gb,1,none⟩ (.int .u8 (n+u))).setCell ⟨gb,2,none⟩ (.int .u8 (d / 256))).setCell ⟨gb,3,none⟩ (.int .u8 (d % 256))) g ⟨k,n,u,d,id⟩∧Below g w ((((W.setCell ⟨gb,0,none⟩ (.int .u8 k)).setCell ⟨gb,1,none⟩ (.int .u8 (n+u))).setCell ⟨gb,2,none⟩ (.int .u8 (d / 256))).setCell ⟨gb,3,none⟩ (.int .u8 (d % 256)))):=by
  obtain⟨h1,h2,h3⟩:=CB.out
  have le:g≤gb:=by omega
  refine⟨?_,(((h1.other (a:=⟨gb,0,none⟩) ne1 _).other (a:=⟨gb,1,none⟩) ne1 _).other (a:=⟨gb,2,none⟩) ne1 _).other (a:=⟨gb,3,none⟩) ne1 _,(((h2.setCell (p:=⟨gb,0,none⟩) le _).setCell (p:=⟨gb,1,none⟩) le _).setCell (p:=⟨gb,2,none⟩) le _).setCell (p:=⟨gb,3,none⟩) le _⟩
  rw[←Z0.out]
  exact (((BW.set 0 _ _ (by rw[u8_of _ b1 b2])).set 1 _ _ (by rw[u8_of _ b3 b4])).set 2 _ _ (by show _=((UInt8.ofNat (d / 256).toNat).toNat:Int);rw[u8_of (d / 256) (by omega) (by omega)])).set 3 _ _ (by show _=((UInt8.ofNat (d % 256).toNat).toNat:Int);rw[u8_of (d % 256) (by omega) (by omega)])
 have HG:Hid (w.heap.size=g):=hg
 have HLE:Hid (g≤gb):=by have:=CB.out.2.2;show _≤_;omega
 clear CB Z0 BW bW sW d0 hgb
 go_enter Tryz.func36, Tryz.ntmps36
 go_wp2
 have zI:id.size≤16:=by omega
 go_loopw [4] (fun iv wr=>∃q:Nat,q≤id.size∧iv = .int .i64 (q:Int)∧Hid (BytesAt wr gb (bq ⟨k,n,u,d,id⟩ q)∧HopAt wr g ⟨k,n,u,d,id⟩∧Below g w wr)) (fun iv _=>id.size - (intOf iv).toNat)
 case atStart=>exact⟨0,Nat.zero_le _,rfl,I0.out⟩
 case round =>
  obtain⟨q,hq,rfl,I⟩:=hrel
  clear I0 CM x0 f0 x1 f1 x2 f2 x3 f3 c0 c1 c2 c3 c4
  obtain⟨-,c0,c1,c2,c3,c4⟩:=I.out.2.1
  simp only at c0 c1 c2 c3 c4
  by_cases hlt:q < id.size
  ·have g1:(q:Int) < (id.size:Int):=by omega
   have g2:IntKind.i64.wrap (4+(q:Int))=((4+q:Nat):Int):=by rw[IntKind.wrap_i64];omega
   have g3:(4+q:Int) < 24:=by omega
   have g3':((4+q:Nat):Int) < 24:=by omega
   have g4:4+q < 24:=by omega
   have LB:Hid ((bq ⟨k,n,u,d,id⟩ q).length=24):=K0.out.2.2 q hq
   obtain⟨vx,cx,fx⟩:=I.out.1.cell (4+q) (by rw[LB.out];exact g4)
   have NB:Hid (_=_):=K0.out.2.1 q hlt
   rw[getElem!_pos id q hlt] at NB
   obtain⟨y,hy⟩:∃y,id[q]=y:=⟨_,rfl⟩
   rw[hy] at NB
   have NX:Hid (BytesAt (wr.setCell ⟨gb,4+q,none⟩ (.int .u8 (y.toNat:Int))) gb (bq ⟨k,n,u,d,id⟩ (q+1))∧HopAt (wr.setCell ⟨gb,4+q,none⟩ (.int .u8 (y.toNat:Int))) g ⟨k,n,u,d,id⟩∧Below g w (wr.setCell ⟨gb,4+q,none⟩ (.int .u8 (y.toNat:Int)))):=by
    obtain⟨h1,h2,h3⟩:=I.out
    rw[←NB.out]
    exact⟨h1.set (4+q) y _ rfl,h2.other (a:=⟨gb,4+q,none⟩) ne1 _,h3.setCell (p:=⟨gb,4+q,none⟩) HLE.out _⟩
   clear NB LB I
   go_wp2
   exact⟨⟨q+1,by omega,by go_num,NX.out⟩,by simp[intOf];omega⟩
  ·obtain rfl:q=id.size:=by omega
   have g1:¬(id.size:Int) < (id.size:Int):=by omega
   have CV:(convert 43 9 (.slice (some ⟨gb,0,none⟩) 24 24)).run Tryz.prog wr = .ok (.string ⟨(byt ⟨k,n,u,d,id⟩).toArray⟩) wr:=by
    have h:=I.out.1
    have h2:=K0.out.2.2 id.size (Nat.le_refl _)
    have h3:bq ⟨k,n,u,d,id⟩ id.size=byt ⟨k,n,u,d,id⟩:=K0.out.1
    rw[h3] at h h2
    exact h.string h2
   have BF:Hid (Below g w wr):=I.out.2.2
   clear I
   obtain⟨R,hR⟩:∃R:ByteArray,⟨(byt ⟨k,n,u,d,id⟩).toArray⟩=R:=⟨_,rfl⟩
   rw[hR] at CV
   have HR:Hid (_=_):=hR
   clear hR K0
   go_wp2
   go_ret
   exact⟨by rw[HR.out];rfl,BF.out⟩
end Go.Proofs.YtgnkkjknngblbaaGreatDoor
