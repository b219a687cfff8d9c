/- Parts: DkM,DkB,DkP,DkN,DkC. -/
import Derived.WalkKit
import Derived.Test.YtjpaodepnacimaaGreatDoorZdG01
import Derived.Maps.OwnSet
import Derived.Laws.OwnMore
import Derived.Deep.MidRow
import Derived.Lib.LazyBuf
import Derived.Lib.AppendZeros
import Derived.Great.BuildSlice
namespace Go.Proofs.Dk
abbrev Bs:=List UInt8
structure Wt where
  k:Nat
  b:Bs
def upd (f:Nat→Bs) (k:Nat) (b:Bs):Nat→Bs:=fun j=>if j=k then b else f j
theorem upd_same (f:Nat→Bs) (k:Nat) (b:Bs):upd f k b k=b:=if_pos rfl
theorem upd_other (f:Nat→Bs) {k j:Nat} (b:Bs) (h:j≠k):upd f k b j=f j:=if_neg h
theorem upd_self (f:Nat→Bs) (k:Nat):upd f k (f k)=f:=by
  funext j
  unfold upd
  split
  · rename_i e
    rw[e]
  · rfl
def lay:(Nat→Bs)→List Wt→(Nat→Bs)
  | f,[]=>f
  | f,x::l=>lay (upd f x.k x.b) l
theorem lay_app:∀(l:List Wt) (f:Nat→Bs) (x:Wt),lay f (l++[x])=upd (lay f l) x.k x.b
  | [],_,_=>rfl
  | y::l,f,x=>by rw[List.cons_append,lay,lay_app l,lay]
def pk (x:Int):Nat:=((x.tmod 65+65).tmod 65).toNat
theorem pk_lt (x:Int):pk x < 65:=by
  have:=Int.tmod_lt_of_pos (x.tmod 65+65) (show (0:Int) < 65 by decide)
  unfold pk
  omega
theorem pk_eq (x:Int):(x.tmod 65+65).tmod 65=(pk x:Int):=by
  have h1:=Int.lt_tmod_of_pos x (show (0:Int) < 65 by decide)
  have:=Int.tmod_nonneg 65 (show 0≤x.tmod 65+65 by omega)
  unfold pk
  omega
def pkAt (ps:List Int) (i:Nat):Nat:=if h:i < ps.length then pk ps[i] else 0
theorem pkAt_lt (ps:List Int) (i:Nat):pkAt ps i < 65:=by
  unfold pkAt
  split
  · exact pk_lt _
  · decide
def mix (p:Nat) (new old:Bs):Bs:=new.take p++old.drop p
theorem mix_len {p:Nat} {a b:Bs} (hp:p < 65) (ha:a.length=64) (hb:b.length=64):(mix p a b).length=64:=by
  unfold mix
  rw[List.length_append,List.length_take,List.length_drop]
  omega
theorem mix_zero (a b:Bs):mix 0 a b=b:=by simp[mix]
def tear (ps:List Int):(Nat→Bs)→List Wt→Nat→(Nat→Bs)
  | f,[],_=>f
  | f,x::l,i=>tear ps (upd f x.k (mix (pkAt ps i) x.b (f x.k))) l (i+1)
structure St where
  n:Nat
  f:Nat→Bs
  l:List Wt
  fuse:Nat
  down:Bool
def St.init (n:Nat):St:=⟨n,fun _=>List.replicate 64 0,[],0,false⟩
def St.sh (s:St):Nat→Bs:=lay s.f s.l
structure Ok (s:St):Prop where
  n1:1≤s.n
  n2:s.n≤1024
  f64:∀k,(s.f k).length=64
  wk:∀x∈s.l,x.k < s.n∧x.b.length=64
  fu:s.fuse≤1048576
theorem Ok.init {n:Nat} (h1:1≤n) (h2:n≤1024):Ok (St.init n):=⟨h1,h2,fun _=>by simp[St.init],nofun,Nat.zero_le _⟩
theorem upd_64 {f:Nat→Bs} (hf:∀k,(f k).length=64) (k:Nat) {b:Bs} (hb:b.length=64):∀j,(upd f k b j).length=64:=fun j=>by
  unfold upd
  split
  · exact hb
  · exact hf j
theorem lay_64:∀(l:List Wt) (f:Nat→Bs),(∀k,(f k).length=64)→(∀x∈l,x.b.length=64)→∀k,(lay f l k).length=64
  | [],_,hf,_=>hf
  | x::l,_,hf,hl=>lay_64 l _ (upd_64 hf _ (hl x (List.mem_cons_self ..))) (fun y hy=>hl y (List.mem_cons_of_mem _ hy))
theorem tear_64 (ps:List Int):∀(l:List Wt) (f:Nat→Bs) (i:Nat),(∀k,(f k).length=64)→(∀x∈l,x.b.length=64)→∀k,(tear ps f l i k).length=64
  | [],_,_,hf,_=>hf
  | x::l,_,i,hf,hl=>tear_64 ps l _ _ (upd_64 hf _ (mix_len (pkAt_lt ps i) (hl x (List.mem_cons_self ..)) (hf _))) (fun y hy=>hl y (List.mem_cons_of_mem _ hy))
theorem Ok.sh64 {s:St} (h:Ok s):∀k,(s.sh k).length=64:=lay_64 _ _ h.f64 (fun x hx=>(h.wk x hx).2)
def brnS (s:St):St:={ s with fuse:=s.fuse - 1,down:=decide (s.fuse=1) }
def rch (s:St) (k:Int):Int:=if s.down=true then 150 else if k < 0∨(s.n:Int)≤k then 1 else 0
def rdV (s:St) (k:Int):Bs:=if rch s k=0 then s.sh k.toNat else []
def wrE (s:St) (k:Int) (t:Bs):Int:=if rch s k≠0 then rch s k else if t.length≠64 then 3 else if s.fuse=1 then 150 else 0
def wrS (s:St) (k:Int) (t:Bs):St:=if rch s k≠0 then s else if t.length≠64 then s else if s.fuse=1 then brnS s else { brnS s with l:=s.l++[⟨k.toNat,t⟩] }
def syE (s:St):Int:=if s.down=true then 150 else if s.fuse=1 then 150 else 0
def syS (s:St):St:=if s.down=true then s else if s.fuse=1 then brnS s else { brnS s with f:=s.sh,l:=[] }
def fuE (s:St) (n:Int):Int:=if s.down=true then 150 else if n < 0∨1048576 < n then 1 else 0
def fuS (s:St) (n:Int):St:=if s.down=true then s else if n < 0∨1048576 < n then s else { s with fuse:=n.toNat }
def crS (s:St) (ps:List Int):St:={ s with f:=tear ps s.f s.l 0,l:=[],fuse:=0,down:=false }
theorem Ok.brn {s:St} (h:Ok s):Ok (brnS s):=⟨h.n1,h.n2,h.f64,h.wk,by have:=h.fu;show s.fuse - 1≤_;omega⟩
theorem Ok.wr {s:St} (h:Ok s) (k:Int) (t:Bs):Ok (wrS s k t):=by
  unfold wrS
  split
  · exact h
  · rename_i hr
    split
    · exact h
    · rename_i ht
      split
      · exact h.brn
      · refine⟨h.n1,h.n2,h.f64,fun x hx => ?_,h.brn.fu⟩
        rcases List.mem_append.1 hx with hx|hx
        · exact h.wk x hx
        · rw[List.mem_singleton] at hx
          subst hx
          refine⟨?_,by simpa using ht⟩
          unfold rch at hr
          split at hr
          · simp at hr
          · split at hr
            · simp at hr
            · show k.toNat < s.n
              omega
theorem Ok.fus {s:St} (h:Ok s) (n:Int):Ok (fuS s n):=by
  unfold fuS
  split
  · exact h
  · split
    · exact h
    · exact⟨h.n1,h.n2,h.f64,h.wk,by show n.toNat≤_;omega⟩
theorem Ok.cr {s:St} (h:Ok s) (ps:List Int):Ok (crS s ps):=⟨h.n1,h.n2,tear_64 ps _ _ _ h.f64 (fun x hx=>(h.wk x hx).2),nofun,Nat.zero_le _⟩
theorem lay_none:∀(l:List Wt) (f:Nat→Bs) (j:Nat),(∀x∈l,x.k≠j)→lay f l j=f j
  | [],_,_,_=>rfl
  | x::l,f,j,h=>by rw[lay,lay_none l _ j (fun y hy=>h y (List.mem_cons_of_mem _ hy)),upd_other _ _ (Ne.symm (h x (List.mem_cons_self ..)))]
theorem tear_none (ps:List Int):∀(l:List Wt) (f:Nat→Bs) (i j:Nat),(∀x∈l,x.k≠j)→tear ps f l i j=f j
  | [],_,_,_,_=>rfl
  | x::l,f,i,j,h=>by rw[tear,tear_none ps l _ _ j (fun y hy=>h y (List.mem_cons_of_mem _ hy)),upd_other _ _ (Ne.symm (h x (List.mem_cons_self ..)))]
def shw (g:Nat→Bs):(Nat→Bs)→List Wt→(Nat→Bs)
  | f,[]=>f
  | f,x::l=>shw g (upd f x.k (g x.k)) l
theorem shw_all (g:Nat→Bs):∀(l:List Wt) (f:Nat→Bs),(∀j,(∀x∈l,x.k≠j)→f j=g j)→shw g f l=g
  | [],f,h=>funext fun j=>h j nofun
  | x::l,f,h=>by
    rw[shw]
    refine shw_all g l _ (fun j hj => ?_)
    by_cases e:j=x.k
    · subst e
      rw[upd_same]
    · rw[upd_other _ _ e]
      exact h j (fun y hy=>by
        rcases List.mem_cons.1 hy with rfl|hy
        · exact Ne.symm e
        · exact hj y hy)
theorem shown_all (s:St) (ps:List Int):shw (tear ps s.f s.l 0) s.sh s.l=tear ps s.f s.l 0 :=
  shw_all _ _ _ (fun j hj=>by rw[tear_none _ _ _ _ _ hj];exact lay_none _ _ _ hj)
end Go.Proofs.Dk
namespace Go.Proofs.YtjpaodepnacimaaGreatDoor
open Go.RowKit Go.Proofs.Fd Go.Proofs.Dk
set_option maxRecDepth 20000
def bc (l:Bs):List Value:=l.map fun x => .int .u8 (x.toNat:Int)
theorem bc_len (l:Bs):(bc l).length=l.length:=List.length_map ..
theorem bc_one (l:Bs):∀u∈bc l,u.oneCell'=true:=fun u h=>by
  obtain⟨x,-,rfl⟩:=List.mem_map.1 h
  rfl
theorem bc_app (l m:Bs):bc (l++m)=bc l++bc m:=List.map_append ..
def wc (x:Wt):List Value := .int .i64 (x.k:Int)::bc x.b
def wcs:List Wt→List Value
  | []=>[]
  | x::l=>wc x++wcs l
theorem wcs_app:∀l m:List Wt,wcs (l++m)=wcs l++wcs m
  | [],_=>rfl
  | t::l,m=>by rw[List.cons_append,wcs,wcs_app l m,wcs,List.append_assoc]
theorem wc_len {x:Wt} (h:x.b.length=64):(wc x).length=65:=by rw[wc,List.length_cons,bc_len,h]
theorem wcs_one:∀(l:List Wt),∀u∈wcs l,u.oneCell'=true
  | [],u,h=>by cases h
  | t::l,u,h=>by
    rw[wcs,List.mem_append] at h
    rcases h with h|h
    · rcases List.mem_cons.1 h with rfl|h
      · rfl
      · exact bc_one _ u h
    · exact wcs_one l u h
theorem wcs_at:∀(l:List Wt),(∀x∈l,x.b.length=64)→∀(i:Nat) (hi:i < l.length) (j:Nat),j < 65→(wcs l)[i*65+j]?=(wc l[i])[j]?
  | [],_,i,hi,_,_=>absurd hi (Nat.not_lt_zero _)
  | t::l,h,0,_,j,hj=>by
    rw[wcs,Nat.zero_mul,Nat.zero_add,List.getElem?_append_left (by rw[wc_len (h t (List.mem_cons_self ..))];exact hj)]
    rfl
  | t::l,h,i+1,hi,j,hj=>by
    have ih:=wcs_at l (fun y hy=>h y (List.mem_cons_of_mem _ hy)) i (by simpa using hi) j hj
    rw[wcs,List.getElem?_append_right (by rw[wc_len (h t (List.mem_cons_self ..))];omega),wc_len (h t (List.mem_cons_self ..)),show (i+1)*65+j - 65=i*65+j by omega]
    exact ih
structure Bf (F:Nat→Prop) (w w':World):Prop where
  os:w'.os=w.os
  tape:w'.tape=w.tape
  output:w'.output=w.output
  size:w.heap.size≤w'.heap.size
  block:∀g,g < w.heap.size→¬F g→w'.heap[g]?=w.heap[g]?
theorem Bf.refl (F:Nat→Prop) (w:World):Bf F w w:=⟨rfl,rfl,rfl,Nat.le_refl _,fun _ _ _=>rfl⟩
theorem Bf.of {F:Nat→Prop} {w w':World} (h:Below w.heap.size w w'):Bf F w w':=⟨h.os,h.tape,h.output,h.size,fun g hg _=>h.block g hg⟩
theorem Bf.below {F:Nat→Prop} {B:Nat} {w w':World} (h:Bf F w w') (hF:∀g,F g→B≤g) (hB:B≤w.heap.size):Below B w w' :=
  ⟨h.os,h.tape,h.output,h.size,fun g hg=>h.block g (Nat.lt_of_lt_of_le hg hB) (fun c=>absurd (hF g c) (Nat.not_le.2 hg))⟩
theorem Bf.grown {F:Nat→Prop} {row:Option Nat} {w w':World} (k:w.grownBy w' row) (hr:∀g,row=some g→F g∨w.heap.size≤g):Bf F w w' :=
  ⟨k.os,k.tape,k.output,k.size,fun g hg hF=>k.block g hg (fun e=>by rcases hr g e.symm with h|h;exact hF h;omega)⟩
def Nx (w:World) (F F':Nat→Prop):Prop:=∀g,F' g→F g∨w.heap.size≤g
theorem Nx.refl (w:World) (F:Nat→Prop):Nx w F F:=fun _ h => .inl h
theorem Nx.trans {w w':World} {F F' F'':Nat→Prop} (h:Nx w F F') (k:Nx w' F' F'') (hs:w.heap.size≤w'.heap.size):Nx w F F'':=fun g hg=>by
  rcases k g hg with h1|h1
  · exact h g h1
  · exact .inr (Nat.le_trans hs h1)
theorem Bf.trans {F F':Nat→Prop} {a b c:World} (h:Bf F a b) (n:Nx a F F') (k:Bf F' b c):Bf F a c :=
  ⟨k.os.trans h.os,k.tape.trans h.tape,k.output.trans h.output,Nat.le_trans h.size k.size,fun g hg hF=>(k.block g (Nat.lt_of_lt_of_le hg h.size) (fun c=>by rcases n g c with h1|h1;exact hF h1;omega)).trans (h.block g hg hF)⟩
theorem Bf.later {F:Nat→Prop} {a b c:World} (h:Bf F a b) (k:Below b.heap.size b c):Bf F a c:=h.trans (Nx.refl _ _) (Bf.of k)
theorem Bf.cell {F:Nat→Prop} {w w':World} (h:Bf F w w') {a:Addr} {v:Value} (hc:w.cell? a=some v) (hF:¬F a.block):w'.cell? a=some v :=
  (World.cell?_of_block (h.block a.block (World.block_lt_of_cell? _ _ hc) hF)).trans hc
theorem Bf.set (F:Nat→Prop) (w:World) (b o:Nat) (v:Value) (h:F b):Bf F w (w.setCell ⟨b,o,none⟩ v):=⟨rfl,rfl,rfl,by simp,fun g _ hF=>Below.heap_setCell w ⟨b,o,none⟩ v g (fun e=>hF (by rw[e];exact h))⟩
theorem Bf.sets (F:Nat→Prop) (b:Nat) (h:F b):∀(vs:List Value) (o:Nat) (w:World),Bf F w (w.setCells b o vs)
  | [],_,w=>Bf.refl F w
  | v::vs,o,w=>by
    rw[World.setCells]
    exact (Bf.set F w b o v h).trans (Nx.refl _ _) (Bf.sets F b h vs _ _)
theorem ownsRow_same {w w':World} {e:TypeId} {size n:Nat} {v:Value} {xs:List Value} (h:w.ownsRow 0 e size v n xs) (hs:∀g,v.ownBlock=some g→w'.heap[g]?=w.heap[g]?):w'.ownsRow 0 e size v n xs:=by
  refine⟨h.1,?_⟩
  rcases h.2 with h1|⟨g,cap,cur,rfl,h2,h3,h4⟩
  · exact .inl h1
  · exact .inr ⟨g,cap,cur,rfl,h2,(hs g rfl).trans h3,h4⟩
structure Sec (w:World) (a n:Nat) (f:Nat→Bs):Prop where
  at_:∀k,k < n→w.rangeAt a (k*64) (bc (f k))
  th:w.there a 0 (n*64)
  l64:∀k,(f k).length=64
theorem rangeAt_same {w w':World} {b o:Nat} {cs:List Value} (h:w.rangeAt b o cs) (hs:w'.heap[b]?=w.heap[b]?):w'.rangeAt b o cs:=fun j v hv=>(World.cell?_of_block (a:=⟨b,o+j,none⟩) hs).trans (h j v hv)
theorem there_same {w w':World} {b o n:Nat} (h:w.there b o n) (hs:w'.heap[b]?=w.heap[b]?):w'.there b o n:=fun j hj=>⟨by rw[World.cell?_of_block (a:=⟨b,o+j,none⟩) hs];exact (h j hj).1,(World.frozen?_of_block (a:=⟨b,o+j,none⟩) hs).trans (h j hj).2⟩
theorem Sec.same {w w':World} {a n:Nat} {f:Nat→Bs} (h:Sec w a n f) (hs:w'.heap[a]?=w.heap[a]?):Sec w' a n f:=⟨fun k hk=>rangeAt_same (h.at_ k hk) hs,there_same h.th hs,h.l64⟩
theorem Sec.there {w:World} {a n:Nat} {f:Nat→Bs} (h:Sec w a n f) {k:Nat} (hk:k < n):w.there a (k*64) 64:=fun j hj=>by
  have:=h.th (k*64+j) (by omega)
  rw[Nat.zero_add] at this
  exact this
theorem Sec.lt {w:World} {a n:Nat} {f:Nat→Bs} (h:Sec w a n f) (hn:1≤n):a < w.heap.size:=by
  obtain⟨u,hu⟩:=Option.isSome_iff_exists.1 (h.th 0 (by omega)).1
  exact World.block_lt_of_cell? _ _ hu
theorem Sec.put {w:World} {a n:Nat} {f:Nat→Bs} (h:Sec w a n f) {k:Nat} (hk:k < n) (xs:Bs) (hx:xs.length≤64):Sec (w.setCells a (k*64) (bc xs)) a n (upd f k (xs++(f k).drop xs.length)):=by
  refine⟨fun j hj => ?_,World.there_setCells h.th _ _ _,upd_64 h.l64 _ (by rw[List.length_append,List.length_drop,h.l64];omega)⟩
  by_cases e:j=k
  · subst e
    rw[upd_same,bc_app]
    intro i v hv
    by_cases hi:i < xs.length
    · rw[List.getElem?_append_left (by rw[bc_len];exact hi)] at hv
      exact World.rangeAt_setCells_same w a (j*64) (bc xs) (fun q hq=>h.there hj q (by rw[bc_len] at hq;omega)) i v hv
    · rw[List.getElem?_append_right (by rw[bc_len];omega),bc_len] at hv
      rw[World.cell?_setCells_out a _ _ w _ (fun _ _ => .inr (by rw[bc_len];show j*64+xs.length≤j*64+i;omega))]
      refine h.at_ j hj i v ?_
      unfold bc at hv ⊢
      rw[List.getElem?_map,List.getElem?_drop,show xs.length+(i - xs.length)=i by omega] at hv
      rw[List.getElem?_map]
      exact hv
  · rw[upd_other _ _ e]
    refine World.rangeAt_setCells_apart (h.at_ j hj) _ _ _ (.inr ?_)
    rw[bc_len,bc_len,h.l64]
    omega
theorem Sec.whole {w:World} {a n:Nat} {f:Nat→Bs} (h:Sec w a n f) {k:Nat} (hk:k < n) {xs:Bs} (hx:xs.length=64):Sec (w.setCells a (k*64) (bc xs)) a n (upd f k xs):=by
  have:=h.put hk xs (by omega)
  rw[List.drop_of_length_le (by rw[h.l64];omega),List.append_nil] at this
  exact this
theorem setCells_other (w:World) (a o:Nat) (vs:List Value) (g:Nat) (hg:g≠a):(w.setCells a o vs).heap[g]?=w.heap[g]?:=by
  induction vs generalizing w o with
  | nil=>rfl
  | cons v vs ih =>
    rw[World.setCells,ih,Below.heap_setCell w ⟨a,o,none⟩ v g hg]
abbrev OwnsW (w:World) (v:Value) (l:List Wt):Prop:=w.ownsRow 0 149 65 v l.length (wcs l)
structure Raw (w:World) (p n:Nat) (dn:Bool) (fu:Nat) (fa fb:Nat→Bs) (l:List Wt) (a b:Nat) (v:Value):Prop where
  c0:w.cell? ⟨p,0,none⟩=some (.int .i64 (if dn=true then 1 else 0))
  c1:w.cell? ⟨p,1,none⟩=some (.int .i64 (fu:Int))
  c2:w.cell? ⟨p,2,none⟩=some (.slice (some ⟨a,0,none⟩) n n)
  c3:w.cell? ⟨p,3,none⟩=some (.slice (some ⟨b,0,none⟩) n n)
  c4:w.cell? ⟨p,4,none⟩=some v
  fr:∀o,w.frozen? ⟨p,o,none⟩=false
  sa:Sec w a n fa
  sb:Sec w b n fb
  row:OwnsW w v l
  pa:a≠p
  pb:b≠p
  ab:a≠b
  pv:v.ownBlock≠some p
  av:v.ownBlock≠some a
  bv:v.ownBlock≠some b
  n1:1≤n
def Foot (p a b:Nat) (v:Value) (g:Nat):Prop:=g=p∨g=a∨g=b∨v.ownBlock=some g
section
variable {w:World} {p n:Nat} {dn:Bool} {fu:Nat} {fa fb:Nat→Bs} {l:List Wt} {a b:Nat} {v:Value}
theorem Raw.lt (h:Raw w p n dn fu fa fb l a b v) {g:Nat} (hg:Foot p a b v g):g < w.heap.size:=by
  rcases hg with rfl|rfl|rfl|e
  · exact World.block_lt_of_cell? _ _ h.c0
  · exact h.sa.lt h.n1
  · exact h.sb.lt h.n1
  · exact (h.row.lt g e).2
theorem Raw.same (h:Raw w p n dn fu fa fb l a b v) {w':World} (hs:∀g,Foot p a b v g→w'.heap[g]?=w.heap[g]?):Raw w' p n dn fu fa fb l a b v:=by
  have hp:w'.heap[p]?=w.heap[p]?:=hs p (.inl rfl)
  have cp:∀(o:Nat),w'.cell? ⟨p,o,none⟩=w.cell? ⟨p,o,none⟩:=fun o=>World.cell?_of_block (a:=⟨p,o,none⟩) hp
  exact⟨(cp 0).trans h.c0,(cp 1).trans h.c1,(cp 2).trans h.c2,(cp 3).trans h.c3,(cp 4).trans h.c4,fun o=>(World.frozen?_of_block (a:=⟨p,o,none⟩) hp).trans (h.fr o),h.sa.same (hs a (.inr (.inl rfl))),h.sb.same (hs b (.inr (.inr (.inl rfl)))),
    ownsRow_same h.row (fun g e=>hs g (.inr (.inr (.inr e)))),h.pa,h.pb,h.ab,h.pv,h.av,h.bv,h.n1⟩
theorem Raw.later (h:Raw w p n dn fu fa fb l a b v) {w':World} (hb:Below w.heap.size w w'):Raw w' p n dn fu fa fb l a b v:=h.same fun g hg=>hb.block g (h.lt hg)
theorem Raw.other (h:Raw w p n dn fu fa fb l a b v) {F:Nat→Prop} {w':World} (hb:Bf F w w') (hF:∀g,Foot p a b v g→¬F g):Raw w' p n dn fu fa fb l a b v:=h.same fun g hg=>hb.block g (h.lt hg) (hF g hg)
theorem Raw.putA (h:Raw w p n dn fu fa fb l a b v) {k:Nat} (hk:k < n) (xs:Bs) (hx:xs.length≤64):Raw (w.setCells a (k*64) (bc xs)) p n dn fu (upd fa k (xs++(fa k).drop xs.length)) fb l a b v:=by
  have bo:∀g,g≠a→(w.setCells a (k*64) (bc xs)).heap[g]?=w.heap[g]?:=fun g hg=>setCells_other w a _ _ g hg
  have hp:=bo p (Ne.symm h.pa)
  have cp:∀(o:Nat),(w.setCells a (k*64) (bc xs)).cell? ⟨p,o,none⟩=w.cell? ⟨p,o,none⟩:=fun o=>World.cell?_of_block (a:=⟨p,o,none⟩) hp
  exact⟨(cp 0).trans h.c0,(cp 1).trans h.c1,(cp 2).trans h.c2,(cp 3).trans h.c3,(cp 4).trans h.c4,fun o=>(World.frozen?_of_block (a:=⟨p,o,none⟩) hp).trans (h.fr o),h.sa.put hk xs hx,h.sb.same (bo b (Ne.symm h.ab)),
    ownsRow_same h.row (fun g e=>bo g (fun c=>h.av (by rw[e,c]))),h.pa,h.pb,h.ab,h.pv,h.av,h.bv,h.n1⟩
theorem Raw.putB (h:Raw w p n dn fu fa fb l a b v) {k:Nat} (hk:k < n) (xs:Bs) (hx:xs.length≤64):Raw (w.setCells b (k*64) (bc xs)) p n dn fu fa (upd fb k (xs++(fb k).drop xs.length)) l a b v:=by
  have bo:∀g,g≠b→(w.setCells b (k*64) (bc xs)).heap[g]?=w.heap[g]?:=fun g hg=>setCells_other w b _ _ g hg
  have hp:=bo p (Ne.symm h.pb)
  have cp:∀(o:Nat),(w.setCells b (k*64) (bc xs)).cell? ⟨p,o,none⟩=w.cell? ⟨p,o,none⟩:=fun o=>World.cell?_of_block (a:=⟨p,o,none⟩) hp
  exact⟨(cp 0).trans h.c0,(cp 1).trans h.c1,(cp 2).trans h.c2,(cp 3).trans h.c3,(cp 4).trans h.c4,fun o=>(World.frozen?_of_block (a:=⟨p,o,none⟩) hp).trans (h.fr o),h.sa.same (bo a h.ab),h.sb.put hk xs hx,
    ownsRow_same h.row (fun g e=>bo g (fun c=>h.bv (by rw[e,c]))),h.pa,h.pb,h.ab,h.pv,h.av,h.bv,h.n1⟩
theorem Raw.wholeA (h:Raw w p n dn fu fa fb l a b v) {k:Nat} (hk:k < n) {xs:Bs} (hx:xs.length=64):Raw (w.setCells a (k*64) (bc xs)) p n dn fu (upd fa k xs) fb l a b v:=by
  have:=h.putA hk xs (by omega)
  rw[List.drop_of_length_le (by rw[h.sa.l64];omega),List.append_nil] at this
  exact this
theorem Raw.wholeB (h:Raw w p n dn fu fa fb l a b v) {k:Nat} (hk:k < n) {xs:Bs} (hx:xs.length=64):Raw (w.setCells b (k*64) (bc xs)) p n dn fu fa (upd fb k xs) l a b v:=by
  have:=h.putB hk xs (by omega)
  rw[List.drop_of_length_le (by rw[h.sb.l64];omega),List.append_nil] at this
  exact this
theorem set_lemmas (w:World) (p i:Nat) (u x:Value) (hx:w.cell? ⟨p,i,none⟩=some x):(w.setCell ⟨p,i,none⟩ u).cell? ⟨p,i,none⟩=some u∧(∀o y,o≠i→w.cell? ⟨p,o,none⟩=some y→(w.setCell ⟨p,i,none⟩ u).cell? ⟨p,o,none⟩=some y)∧(∀g,g≠p→(w.setCell ⟨p,i,none⟩ u).heap[g]?=w.heap[g]?)∧(∀o,(w.setCell ⟨p,i,none⟩ u).frozen? ⟨p,o,none⟩=w.frozen? ⟨p,o,none⟩) :=
  ⟨by rw[World.cell?_setCell_same _ _ _ (by rw[hx])],fun o y ho hc=>by rw[World.cell?_setCell_other _ _ _ _ (fun q=>ho (by injection q with q1 q2 q3;exact q2.symm)),hc],fun g hg=>Below.heap_setCell w ⟨p,i,none⟩ u g hg,fun o=>by rw[World.frozen?_setCell]⟩
theorem Raw.setDown (h:Raw w p n dn fu fa fb l a b v) (d:Bool):Raw (w.setCell ⟨p,0,none⟩ (.int .i64 (if d=true then 1 else 0))) p n d fu fa fb l a b v:=by
  obtain⟨s0,co,bo,fo⟩:=set_lemmas w p 0 (.int .i64 (if d=true then 1 else 0)) _ h.c0
  exact⟨s0,co 1 _ (by decide) h.c1,co 2 _ (by decide) h.c2,co 3 _ (by decide) h.c3,co 4 _ (by decide) h.c4,fun o=>(fo o).trans (h.fr o),h.sa.same (bo a h.pa),h.sb.same (bo b h.pb),ownsRow_same h.row (fun g e=>bo g (fun c=>h.pv (by rw[e,c]))),h.pa,h.pb,h.ab,h.pv,h.av,h.bv,h.n1⟩
theorem Raw.setFuse (h:Raw w p n dn fu fa fb l a b v) (m:Nat):Raw (w.setCell ⟨p,1,none⟩ (.int .i64 (m:Int))) p n dn m fa fb l a b v:=by
  obtain⟨s0,co,bo,fo⟩:=set_lemmas w p 1 (.int .i64 (m:Int)) _ h.c1
  exact⟨co 0 _ (by decide) h.c0,s0,co 2 _ (by decide) h.c2,co 3 _ (by decide) h.c3,co 4 _ (by decide) h.c4,fun o=>(fo o).trans (h.fr o),h.sa.same (bo a h.pa),h.sb.same (bo b h.pb),ownsRow_same h.row (fun g e=>bo g (fun c=>h.pv (by rw[e,c]))),h.pa,h.pb,h.ab,h.pv,h.av,h.bv,h.n1⟩
theorem Raw.setRow (h:Raw w p n dn fu fa fb l a b v) {w1:World} (hg:w.grownBy w1 v.ownBlock) {u:Value} {m:List Wt} (ho:OwnsW w1 u m) (hl:∀g,u.ownBlock=some g→v.ownBlock=some g∨w.heap.size≤g) :
    Raw (w1.setCell ⟨p,4,none⟩ u) p n dn fu fa fb m a b u∧Nx w (Foot p a b v) (Foot p a b u)∧Bf (Foot p a b v) w (w1.setCell ⟨p,4,none⟩ u):=by
  have hs:∀g,g=p∨g=a∨g=b→w1.heap[g]?=w.heap[g]?:=fun g hF=>hg.block g (h.lt (by rcases hF with e|e|e;exact .inl e;exact .inr (.inl e);exact .inr (.inr (.inl e)))) (fun e=>by
    rcases hF with rfl|rfl|rfl
    · exact h.pv e.symm
    · exact h.av e.symm
    · exact h.bv e.symm)
  have cp:∀(o:Nat),w1.cell? ⟨p,o,none⟩=w.cell? ⟨p,o,none⟩:=fun o=>World.cell?_of_block (a:=⟨p,o,none⟩) (hs p (.inl rfl))
  obtain⟨s0,co,bo,fo⟩:=set_lemmas w1 p 4 u _ ((cp 4).trans h.c4)
  have nw:∀g,u.ownBlock=some g→(g=p∨g=a∨g=b)→False:=fun g e c=>by
    rcases hl g e with h1|h1
    · rcases c with rfl|rfl|rfl
      · exact h.pv h1
      · exact h.av h1
      · exact h.bv h1
    · have:g < w.heap.size:=h.lt (by rcases c with e|e|e;exact .inl e;exact .inr (.inl e);exact .inr (.inr (.inl e)))
      omega
  refine⟨⟨co 0 _ (by decide) ((cp 0).trans h.c0),co 1 _ (by decide) ((cp 1).trans h.c1),co 2 _ (by decide) ((cp 2).trans h.c2),co 3 _ (by decide) ((cp 3).trans h.c3),s0,fun o => ?_,h.sa.same ((bo a h.pa).trans (hs a (.inr (.inl rfl)))),h.sb.same ((bo b h.pb).trans (hs b (.inr (.inr rfl)))),
    ownsRow_same ho (fun g e=>bo g (fun c=>nw g e (.inl c))),h.pa,h.pb,h.ab,fun e=>nw p e (.inl rfl),fun e=>nw a e (.inr (.inl rfl)),fun e=>nw b e (.inr (.inr rfl)),h.n1⟩,?_,?_⟩
  · rw[fo o,World.frozen?_of_block (a:=⟨p,o,none⟩) (hs p (.inl rfl))]
    exact h.fr o
  · intro g hg'
    rcases hg' with e|e|e|e
    · exact .inl (.inl e)
    · exact .inl (.inr (.inl e))
    · exact .inl (.inr (.inr (.inl e)))
    · rcases hl g e with h1|h1
      · exact .inl (.inr (.inr (.inr h1)))
      · exact .inr h1
  · refine⟨hg.os,hg.tape,hg.output,by simpa using hg.size,fun g hgl hF => ?_⟩
    rw[bo g (fun c=>hF (.inl c))]
    exact hg.block g hgl (fun c=>hF (.inr (.inr (.inr c.symm))))
end
def KAt (w:World) (p:Nat) (F:Nat→Prop) (s:St):Prop:=Ok s∧∃a b v,F=Foot p a b v∧Raw w p s.n s.down s.fuse s.f s.sh s.l a b v
def Stp (w:World) (p:Nat) (F:Nat→Prop) (s:St) (w':World):Prop:=∃F',KAt w' p F' s∧Nx w F F'∧Bf F w w'
theorem KAt.lt {w:World} {p:Nat} {F:Nat→Prop} {s:St} (h:KAt w p F s) {g:Nat} (hg:F g):g < w.heap.size:=by
  obtain⟨-,a,b,v,rfl,hr⟩:=h
  exact hr.lt hg
theorem KAt.other {w w':World} {p:Nat} {F G:Nat→Prop} {s:St} (h:KAt w p F s) (hb:Bf G w w') (hF:∀g,F g→¬G g):KAt w' p F s:=by
  obtain⟨ho,a,b,v,rfl,hr⟩:=h
  exact⟨ho,a,b,v,rfl,hr.other hb hF⟩
theorem KAt.later {w w':World} {p:Nat} {F:Nat→Prop} {s:St} (h:KAt w p F s) (hb:Below w.heap.size w w'):KAt w' p F s:=by
  obtain⟨ho,a,b,v,rfl,hr⟩:=h
  exact⟨ho,a,b,v,rfl,hr.later hb⟩
theorem KAt.stays {w w':World} {p:Nat} {F:Nat→Prop} {s:St} (h:KAt w p F s) (hb:Below w.heap.size w w'):Stp w p F s w':=⟨F,h.later hb,Nx.refl _ _,Bf.of hb⟩
theorem size_any (p:Nat) (F:Nat→Prop) (s:St) (w:World) (h:KAt w p F s) :
    Calls Tryz.prog 62 #[.pointer (some ⟨p,0,none⟩)] w fun e w'=>e = .returned (.int .i64 (s.n:Int))∧w'=w:=by
  obtain⟨-,a,b,v,-,hr⟩:=h
  have c2:=hr.c2
  obtain⟨n,hn⟩:∃n,s.n=n:=⟨_,rfl⟩
  rw[hn] at c2 ⊢
  clear hr hn
  go_enter Tryz.func62, Tryz.ntmps62
  go_wp2
  go_ret
  exact⟨rfl,rfl⟩
theorem ownsW_slice {w:World} {v:Value} {l:List Wt} (h:OwnsW w v l):∃a c,v = .slice a l.length c:=by
  rcases h.2 with ⟨rfl,h2⟩|⟨g,cap,cur,rfl,-⟩
  · exact⟨_,_,by rw[h2]⟩
  · exact⟨_,_,rfl⟩
theorem reach_any (p:Nat) (F:Nat→Prop) (s:St) (k:Int) (w:World) (h:KAt w p F s) :
    Calls Tryz.prog 34 #[.pointer (some ⟨p,0,none⟩),.int .i64 k] w fun e w'=>e = .returned (.int .i64 (rch s k))∧w'=w:=by
  have SZ:Hid _:=size_any p F s w h
  obtain⟨-,a,b,v,-,hr⟩:=h
  have c0:=hr.c0
  unfold rch
  obtain⟨n,hn⟩:∃n,s.n=n:=⟨_,rfl⟩
  obtain⟨d,hd⟩:∃d,s.down=d:=⟨_,rfl⟩
  rw[hn] at SZ ⊢
  rw[hd] at c0 ⊢
  clear hr hn hd
  cases d
  · by_cases h0:k < 0
    · simp[h0] at c0 ⊢
      go_enter Tryz.func34, Tryz.ntmps34
      go_wp2
      go_ret
      exact⟨rfl,rfl⟩
    · by_cases h1:(n:Int)≤k
      · simp[h1] at c0 ⊢
        go_enter Tryz.func34, Tryz.ntmps34
        go_wp2_with (go_at_call 62;refine Calls.mono SZ.out ?_;rintro e w1 ⟨rfl,rfl⟩)
        go_ret
        exact⟨rfl,rfl⟩
      · simp[h0,h1] at c0 ⊢
        go_enter Tryz.func34, Tryz.ntmps34
        go_wp2_with (go_at_call 62;refine Calls.mono SZ.out ?_;rintro e w1 ⟨rfl,rfl⟩)
        go_ret
        exact⟨rfl,rfl⟩
  · simp at c0 ⊢
    go_enter Tryz.func34, Tryz.ntmps34
    go_wp2
    go_ret
    exact⟨rfl,rfl⟩
theorem Raw.brn {w:World} {p:Nat} {s:St} {a b:Nat} {v:Value} (h:Raw w p s.n s.down s.fuse s.f s.sh s.l a b v) (hd:s.down=false) (h0:s.fuse=0):Raw w p (brnS s).n (brnS s).down (brnS s).fuse (brnS s).f (brnS s).sh (brnS s).l a b v:=by
  have e:brnS s=s:=by
    obtain⟨n,f,l,fuse,down⟩:=s
    simp only at hd h0
    subst hd h0
    rfl
  rw[e]
  exact h
theorem burn_any (p:Nat) (F:Nat→Prop) (s:St) (hd:s.down=false) (w:World) (h:KAt w p F s) :
    Calls Tryz.prog 149 #[.pointer (some ⟨p,0,none⟩)] w fun e w'=>e = .returned (.bool (decide (s.fuse=1)))∧KAt w' p F (brnS s)∧Bf F w w':=by
  obtain⟨ho,a,b,v,rfl,hr⟩:=h
  have c0:=hr.c0
  have c1:=hr.c1
  have f0:=hr.fr 0
  have f1:=hr.fr 1
  have hfu:=ho.fu
  by_cases h0:s.fuse=0
  · have HR:Hid (KAt w p (Foot p a b v) (brnS s)∧Bf (Foot p a b v) w w):=⟨⟨ho.brn,a,b,v,rfl,hr.brn hd h0⟩,Bf.refl _ _⟩
    rw[h0] at c1 ⊢
    clear hr ho h0 c0 hfu
    go_enter Tryz.func149, Tryz.ntmps149
    go_wp2
    go_ret
    exact⟨rfl,HR.out⟩
  · by_cases h1:s.fuse=1
    · have HR:Hid (KAt ((w.setCell ⟨p,1,none⟩ (.int .i64 0)).setCell ⟨p,0,none⟩ (.int .i64 1)) p (Foot p a b v) (brnS s)∧Bf (Foot p a b v) w ((w.setCell ⟨p,1,none⟩ (.int .i64 0)).setCell ⟨p,0,none⟩ (.int .i64 1))):=by
        refine⟨⟨ho.brn,a,b,v,rfl,?_⟩,(Bf.set _ w p 1 _ (.inl rfl)).trans (Nx.refl _ _) (Bf.set _ _ p 0 _ (.inl rfl))⟩
        have:=(hr.setFuse 0).setDown true
        unfold brnS
        rw[h1]
        exact this
      rw[h1] at c1 ⊢
      clear hr ho h0 h1 hfu
      rw[hd] at c0
      clear hd
      go_enter Tryz.func149, Tryz.ntmps149
      go_wp2
      go_ret
      exact⟨rfl,HR.out⟩
    · obtain⟨m,hm⟩:∃m:Nat,s.fuse=m+2:=⟨s.fuse - 2,by omega⟩
      have HR:Hid (KAt (w.setCell ⟨p,1,none⟩ (.int .i64 ((m:Int)+1))) p (Foot p a b v) (brnS s)∧Bf (Foot p a b v) w (w.setCell ⟨p,1,none⟩ (.int .i64 ((m:Int)+1)))):=by
        refine⟨⟨ho.brn,a,b,v,rfl,?_⟩,Bf.set _ w p 1 _ (.inl rfl)⟩
        have:=hr.setFuse (m+1)
        have e:brnS s={ s with fuse:=m+1 }:=by
          obtain⟨n,f,l,fuse,down⟩:=s
          simp only at hd hm
          subst hd hm
          simp[brnS]
        rw[e]
        exact this
      rw[hm] at c1 hfu ⊢
      have e1:decide (m+2=1)=false:=by simp
      have z1:IntKind.i64.wrap (((m+2:Nat):Int) - 1)=(m:Int)+1:=by rw[IntKind.wrap_i64];omega
      have z2:¬((m+2:Nat):Int)=0:=by omega
      have z3:0 < (m:Int)+1:=by omega
      rw[e1]
      obtain⟨x,hx⟩:∃x:Int,((m+2:Nat):Int)=x:=⟨_,rfl⟩
      obtain⟨y,hy⟩:∃y:Int,(m:Int)+1=y:=⟨_,rfl⟩
      rw[hx] at c1 z1 z2
      rw[hy] at z1 z3 HR
      clear hr ho h0 h1 hfu hm e1 hx hy c0 hd
      go_enter Tryz.func149, Tryz.ntmps149
      go_wp2
      go_ret
      exact⟨rfl,HR.out⟩
theorem beginning_any (x:Int) (w:World):Calls Tryz.prog 88 #[.int .i64 x] w fun e w'=>e = .returned (.int .i64 (pk x:Int))∧w'=w:=by
  have hN:(0:Int) < 65:=by decide
  have r1:=Int.tmod_lt_of_pos x hN
  have r2:=Int.lt_tmod_of_pos x hN
  have hp:=pk_eq x
  have hl:=pk_lt x
  obtain⟨r,hr⟩:∃r,Int.tmod x 65=r:=⟨_,rfl⟩
  rw[hr] at r1 r2 hp
  have z1:IntKind.i64.wrap (Int.tmod x 65)=r:=by rw[hr,IntKind.wrap_i64];omega
  have z2:IntKind.i64.wrap (r+65)=r+65:=by rw[IntKind.wrap_i64];omega
  have z3:IntKind.i64.wrap (Int.tmod (r+65) 65)=(r+65).tmod 65:=by rw[hp,IntKind.wrap_i64];omega
  have HP:Hid ((r+65).tmod 65=(pk x:Int)):=hp
  clear r1 r2 hN hp hl
  go_enter Tryz.func88, Tryz.ntmps88
  go_wp2
  go_ret
  exact⟨by rw[←HP.out];rfl,rfl⟩
theorem KAt.fuse {w:World} {p:Nat} {F:Nat→Prop} {s:St} (h:KAt w p F s) {n:Int} (hd:s.down=false) (h1:¬(n < 0∨1048576 < n)):KAt (w.setCell ⟨p,1,none⟩ (.int .i64 n)) p F (fuS s n)∧Bf F w (w.setCell ⟨p,1,none⟩ (.int .i64 n)):=by
  have hk:=h.1.fus n
  obtain⟨-,a,b,v,rfl,hr⟩:=h
  refine⟨⟨hk,a,b,v,rfl,?_⟩,Bf.set _ w p 1 _ (.inl rfl)⟩
  have e:fuS s n={ s with fuse:=n.toNat }:=by
    unfold fuS
    rw[if_neg (by rw[hd];simp),if_neg h1]
  rw[e]
  have:=hr.setFuse n.toNat
  rw[Int.toNat_of_nonneg (by omega)] at this
  exact this
theorem fuse_any (p:Nat) (F:Nat→Prop) (s:St) (n:Int) (w:World) (h:KAt w p F s) :
    Calls Tryz.prog 48 #[.pointer (some ⟨p,0,none⟩),.int .i64 n] w fun e w'=>e = .returned (.int .i64 (fuE s n))∧Stp w p F (fuS s n) w':=by
  by_cases hd:s.down=true
  · have c0:w.cell? ⟨p,0,none⟩=some (.int .i64 1):=by
      obtain⟨-,a,b,v,-,hr⟩:=h
      rw[hr.c0,if_pos hd]
    have e1:fuE s n=150:=if_pos hd
    have e2:fuS s n=s:=if_pos hd
    rw[e1,e2]
    have FF:Hid (Stp w p F s w):=h.stays (Below.refl _ _)
    clear h e1 e2 hd
    go_enter Tryz.func48, Tryz.ntmps48
    go_wp2
    go_ret
    exact⟨rfl,FF.out⟩
  · have c0:w.cell? ⟨p,0,none⟩=some (.int .i64 0):=by
      obtain⟨-,a,b,v,-,hr⟩:=h
      rw[hr.c0,if_neg hd]
    by_cases h1:n < 0
    · have e1:fuE s n=1:=by rw[fuE,if_neg hd,if_pos (.inl h1)]
      have e2:fuS s n=s:=by rw[fuS,if_neg hd,if_pos (.inl h1)]
      rw[e1,e2]
      have FF:Hid (Stp w p F s w):=h.stays (Below.refl _ _)
      clear h e1 e2 hd
      go_enter Tryz.func48, Tryz.ntmps48
      go_wp2
      go_ret
      exact⟨rfl,FF.out⟩
    · by_cases h2:1048576 < n
      · have e1:fuE s n=1:=by rw[fuE,if_neg hd,if_pos (.inr h2)]
        have e2:fuS s n=s:=by rw[fuS,if_neg hd,if_pos (.inr h2)]
        rw[e1,e2]
        have FF:Hid (Stp w p F s w):=h.stays (Below.refl _ _)
        clear h e1 e2 hd
        go_enter Tryz.func48, Tryz.ntmps48
        go_wp2
        go_ret
        exact⟨rfl,FF.out⟩
      · have hc:¬(n < 0∨1048576 < n):=fun c=>by rcases c with c|c;exact h1 c;exact h2 c
        have e1:fuE s n=0:=by rw[fuE,if_neg hd,if_neg hc]
        have K:=h.fuse (by simpa using hd) hc
        have FF:Hid (Stp w p F (fuS s n) (w.setCell ⟨p,1,none⟩ (.int .i64 n))):=⟨F,K.1,Nx.refl _ _,K.2⟩
        have c1:∃x,w.cell? ⟨p,1,none⟩=some x∧w.frozen? ⟨p,1,none⟩=false:=by
          obtain⟨-,a,b,v,-,hr⟩:=h
          exact⟨_,hr.c1,hr.fr 1⟩
        obtain⟨x,c1,f1⟩:=c1
        rw[e1]
        obtain⟨t,ht⟩:∃t,fuS s n=t:=⟨_,rfl⟩
        rw[ht] at FF ⊢
        clear h e1 hd hc K ht
        go_enter Tryz.func48, Tryz.ntmps48
        go_wp2
        go_ret
        exact⟨rfl,FF.out⟩
def st (l:Bs):ByteArray:=⟨l.toArray⟩
abbrev sv (l:Bs):Value := .string (st l)
theorem st_data (l:Bs):(st l).data.toList=l:=rfl
theorem text_at {w:World} {b o:Nat} {l:Bs} (h:w.rangeAt b o (bc l)) (cap:Nat):(convert 70 9 (.slice (some ⟨b,o,none⟩) l.length cap)).run Tryz.prog w = .ok (sv l) w :=
  run_convert_bytes_back (P:=Tryz.prog) w 70 9 5 ⟨b,o,none⟩ cap l Tryz.underlying70 Tryz.underlying5 Tryz.underlying9 (fun j hj=>by
    have q:Addr.add ⟨b,o,none⟩ j=⟨b,o+j,none⟩:=Addr.add_mid b o j
    rw[q]
    exact h j _ (by simp[bc,hj]))
theorem rch_cases (s:St) (k:Int):rch s k=0∧s.down=false∧0≤k∧k < (s.n:Int)∨rch s k≠0:=by
  unfold rch
  split
  · exact .inr (by simp)
  · split
    · exact .inr (by simp)
    · rename_i h1 h2
      exact .inl ⟨rfl,by simpa using h1,by omega,by omega⟩
theorem read_any (p:Nat) (F:Nat→Prop) (s:St) (k:Int) (w:World) (h:KAt w p F s) :
    Calls Tryz.prog 12 #[.pointer (some ⟨p,0,none⟩),.int .i64 k] w fun e w'=>e = .returned (.tuple #[sv (rdV s k),.int .i64 (rch s k)])∧w'=w:=by
  have RC:Hid _:=reach_any p F s k w h
  rcases rch_cases s k with ⟨h0,-,hk0,hk1⟩|hne
  · rw[rdV,if_pos h0,h0]
    rw[h0] at RC
    obtain⟨m,rfl⟩:∃m:Nat,k=(m:Int):=⟨k.toNat,by omega⟩
    rw[Int.toNat_natCast]
    obtain⟨ho,a,b,v,-,hr⟩:=h
    have c3:=hr.c3
    have hm:m < s.n:=by omega
    have TX:=text_at (hr.sb.at_ m hm) 64
    rw[ho.sh64 m] at TX
    obtain⟨r,hrr⟩:∃r,sv (s.sh m)=r:=⟨_,rfl⟩
    obtain⟨n,hn⟩:∃n,s.n=n:=⟨_,rfl⟩
    rw[hrr] at TX ⊢
    rw[hn] at c3 hk1 hm
    clear h0 hr ho hrr hn
    go_enter Tryz.func12, Tryz.ntmps12
    go_wp2_with (go_at_call 34;refine Calls.mono RC.out ?_;rintro e w1 ⟨rfl,rfl⟩)
    go_ret2
    exact⟨rfl,rfl⟩
  · rw[rdV,if_neg hne]
    obtain⟨x,hx⟩:∃x,rch s k=x:=⟨_,rfl⟩
    rw[hx] at RC hne ⊢
    clear h hx
    go_enter Tryz.func12, Tryz.ntmps12
    go_wp2_with (go_at_call 34;refine Calls.mono RC.out ?_;rintro e w1 ⟨rfl,rfl⟩)
    go_ret2
    exact⟨rfl,rfl⟩
def zero64:Value := .agg (Array.replicate 64 (.int .u8 0))
theorem infoC:(Tryz.prog.info? 96).map (fun i=>(i.zero,i.size,i.bytes))=some (some zero64,64,64):=by kernel_rfl
theorem made_rep (m n j:Nat) (x:Value) (hm:0 < m) (hj:j < n):(madeCells (Array.replicate m x) n)[j]?=some x:=by
  have h:j % m < m:=Nat.mod_lt _ hm
  simp[madeCells,hj,h]
theorem made_at (n j:Nat) (hj:j < n*64):(madeCells zero64.cells (n*64))[j]?=some (.int .u8 0):=made_rep 64 _ _ _ (by decide) hj
theorem bc_zeros (n:Nat):bc (List.replicate n 0)=List.replicate n (.int .u8 0):=by simp[bc]
theorem make_secs (n:Nat) (hn:n≤1024):∃M:Array Value,(∀w:World,(Instr.makeSlice 66 (.int .i64 (n:Int)) (.int .i64 (n:Int))).run Tryz.prog w = .ok (.slice (some ⟨w.heap.size,0,none⟩) n n) (w.alloc (.cells M 96)))
    ∧ ∀w:World,Sec (w.alloc (.cells M 96)) w.heap.size n (fun _=>List.replicate 64 0):=by
  obtain⟨i0,hi,hz0,hz1,hz2⟩:=info_parts infoC
  refine⟨madeCells zero64.cells (n*64),fun w => ?_,fun w => ?_⟩
  · have h:=run_make (P:=Tryz.prog) w 66 96 i0 zero64 Tryz.underlying66 hi hz0 .i64 .i64 (n:Int) (n:Int) (by omega) (Int.le_refl _) (by rw[hz2];omega) (by omega)
    rw[Int.toNat_natCast,hz1] at h
    exact h
  · have hc:∀j,j < n*64→(w.alloc (.cells (madeCells zero64.cells (n*64)) 96)).cell? ⟨w.heap.size,j,none⟩=some (.int .u8 0):=fun j hj=>by
      rw[World.cell?_alloc_new,made_at n j hj]
    refine⟨fun k hk j v hv => ?_,fun j hj => ?_,fun _=>by simp⟩
    · have hj:j < 64:=by
        have:=(List.getElem?_eq_some_iff.1 hv).1
        rw[bc_len,List.length_replicate] at this
        exact this
      rw[hc _ (by omega)]
      rw[bc_zeros,List.getElem?_replicate,if_pos hj] at hv
      rw[←hv]
    · rw[Nat.zero_add,hc j hj]
      exact⟨rfl,by simp[go_sem]⟩
theorem new_no (n:Int) (h:n < 1∨1024 < n) (w:World) :
    Calls Tryz.prog 5 #[.int .i64 n] w fun e w'=>e = .returned (.tuple #[.pointer none,.int .i64 1])∧w'=w:=by
  rcases h with h|h
  · go_enter Tryz.func5, Tryz.ntmps5
    go_wp2
    go_ret2
    exact⟨rfl,rfl⟩
  · have h1:¬n < 1:=by omega
    go_enter Tryz.func5, Tryz.ntmps5
    go_wp2
    go_ret2
    exact⟨rfl,rfl⟩
theorem new_raw (n:Nat) (h1:1≤n) (h2:n≤1024) (w w2:World) (a b:Nat) (ha:Sec w2 a n (fun _=>List.replicate 64 0)) (hb:Sec w2 b n (fun _=>List.replicate 64 0)) (ea:w.heap.size≤a) (eb:w.heap.size≤b) (hn:a≠b) (hw:Below w.heap.size w w2) (p:Nat) (hp:w2.heap.size=p) :
    let W:=(w2.alloc (.cells #[.int .i64 0,.int .i64 0,.slice (some ⟨a,0,none⟩) n n,.slice (some ⟨b,0,none⟩) n n,.slice none 0 0] 69)).drew
    (∃F,KAt W p F (St.init n)∧∀g,F g→w.heap.size≤g)∧Below w.heap.size w W:=by
  subst hp
  have la:=ha.lt h1
  have lb:=hb.lt h1
  have nb:Below w2.heap.size w2 (w2.alloc (.cells #[.int .i64 0,.int .i64 0,.slice (some ⟨a,0,none⟩) n n,.slice (some ⟨b,0,none⟩) n n,.slice none 0 0] 69)).drew:=((Below.refl _ _).alloc (Nat.le_refl _) _).drew
  refine⟨⟨Foot w2.heap.size a b (.slice none 0 0),⟨Ok.init h1 h2,a,b,_,rfl,?_⟩,fun g hg => ?_⟩,chain hw nb⟩
  · exact⟨by simp[go_sem,St.init],by simp[go_sem,St.init],by simp[go_sem,St.init],by simp[go_sem,St.init],by simp[go_sem],fun o=>by simp[go_sem],ha.same (nb.block a la),hb.same (nb.block b lb),World.ownsRow_nil _ _ _ _,
      by omega,by omega,hn,nofun,nofun,nofun,h1⟩
  · rcases hg with rfl|rfl|rfl|e
    · exact hw.size
    · exact ea
    · exact eb
    · cases e
theorem new_any (n:Nat) (h1:1≤n) (h2:n≤1024) (w:World) :
    Calls Tryz.prog 5 #[.int .i64 (n:Int)] w fun e w'=>∃p F,e = .returned (.tuple #[.pointer (some ⟨p,0,none⟩),.int .i64 0])∧KAt w' p F (St.init n)∧(∀g,F g→w.heap.size≤g)∧Below w.heap.size w w':=by
  have g1:¬(n:Int) < 1:=by omega
  have g2:¬(1024:Int) < (n:Int):=by omega
  obtain⟨M,MK,hM⟩:=make_secs n h2
  have HS:Hid (∀w:World,Sec _ _ _ _):=hM
  have S1:Sec ((w.alloc (.cells M 96)).alloc (.cells M 96)) w.heap.size n (fun _=>List.replicate 64 0):=(hM w).same (((Below.refl _ _).alloc (Nat.le_refl _) _).block _ ((hM w).lt h1))
  have S2:=hM (w.alloc (.cells M 96))
  have e1:(w.alloc (.cells M 96)).heap.size=w.heap.size+1:=by simp
  have BB:Below w.heap.size w ((w.alloc (.cells M 96)).alloc (.cells M 96)):=chain ((Below.refl _ _).alloc (Nat.le_refl _) _) ((Below.refl _ _).alloc (Nat.le_refl _) _)
  rw[e1] at S2
  have K1:Hid _:=new_raw n h1 h2 w _ _ _ S1 S2 (Nat.le_refl _) (by omega) (by omega) BB (w.heap.size+1+1) (by simp)
  have K2:Hid _:=new_raw n h1 h2 w _ _ _ S2 S1 (by omega) (Nat.le_refl _) (by omega) BB (w.heap.size+1+1) (by simp)
  clear hM S1 S2 e1 BB HS
  go_enter Tryz.func5, Tryz.ntmps5
  go_wp2_with fail
  go_region_with fail
  all_goals (go_wp2;go_ret2)
  all_goals first
    | (obtain⟨⟨F,k1,k2⟩,k3⟩:=K1.out
       exact⟨_,F,rfl,k1,k2,k3⟩)
    | (obtain⟨⟨F,k1,k2⟩,k3⟩:=K2.out
       exact⟨_,F,rfl,k1,k2,k3⟩)
theorem copy_in (w:World) (b o cap:Nat) (t:ByteArray) (ht:t.data.toList.length=64) (hth:w.there b o 64) :
    (Builtin.copy_ #[70, 9] 3 #[.slice (some ⟨b,o,none⟩) 64 cap,.string t]).run Tryz.prog w = .ok (.int .i64 64) (w.setCells b o (bc t.data.toList)):=by
  have hs:t.size=64:=by simpa using ht
  have hst:=run_storeCells_cells (P:=Tryz.prog) b o (bc t.data.toList) 0 w
    (by rw[bc_len,ht];intro j hj;simpa using (hth j hj).1) (by rw[bc_len,ht];intro j hj;simpa using (hth j hj).2) (bc_one _)
  have hm:Nat.min t.size 64=64:=by rw[hs];rfl
  simp[Builtin.copy_,run_underlying Tryz.underlying70, Builtin.lenOf,Builtin.firstCells,hm]
  rw[List.take_of_length_le (by rw[List.length_map,ht];exact Nat.le_refl _)]
  unfold bc at hst
  rw[hst]
  rfl
def zeroW:Value := .agg (#[.int .i64 0]++Array.replicate 64 (.int .u8 0))
theorem infoW:(Tryz.prog.info? 149).map (fun i=>(i.zero,i.size,i.bytes))=some (some zeroW,65,72):=by kernel_rfl
theorem fieldsW:∃fs,Tryz.prog.underlying 149 = some (.struct fs)∧fs.toList.mapM (fun f=>(Tryz.prog.info? f.type).map fun i=>(f.offset,i.size))=some [(0,1),(1,64)]:=⟨_,Tryz.underlying149, by kernel_rfl⟩
theorem fill_step (place:Nat→Option (Nat×Nat)) (cells:Array Value) (i:Nat) (v:Value) (rest:List (Nat×Value)) (off size:Nat) (hp:place i=some (off,size)) (hs:v.cells.size=size) (hb:off+size≤cells.size) :
    Instr.fill place cells ((i,v)::rest)=Instr.fill place ((v.cells.toList.zipIdx 0).foldl (fun cs (x:Value×Nat)=>cs.setIfInBounds (off+x.2) x.1) cells) rest:=by
  conv=>lhs;unfold Instr.fill
  rw[hp]
  show (if (decide (v.cells.size≠size) || decide (off+v.cells.size > cells.size))=true then none else _)=_
  rw[if_neg (by rw[hs];simp;omega),←Array.foldl_toList,Array.toList_zipIdx]
theorem fill_w (x:Wt) (hx:x.b.length=64) (z:Array Value) (hz:z.size=65):Instr.fill (fun i=>[(0,1),(1,64)].toArray[i]?) z [(0,.int .i64 (x.k:Int)),(1,.agg (bc x.b).toArray)]=some (wc x).toArray:=by
  have hb:(bc x.b).length=64:=by rw[bc_len,hx]
  rw[fill_step _ _ _ _ _ 0 1 rfl rfl (by omega)]
  have h1:=Go.Great.foldl_set 0 (Value.int .i64 (x.k:Int)).cells.toList 0 z
  generalize (List.foldl (fun cs (x:Value×Nat)=>cs.setIfInBounds (0+x.2) x.1) z ((Value.int .i64 (x.k:Int)).cells.toList.zipIdx 0))=z1 at h1 ⊢
  rw[fill_step _ _ _ _ _ 1 64 rfl (by simp[Value.cells,hb]) (by rw[h1.1,hz];omega)]
  have h2:=Go.Great.foldl_set 1 (Value.agg (bc x.b).toArray).cells.toList 0 z1
  generalize (List.foldl (fun cs (x:Value×Nat)=>cs.setIfInBounds (1+x.2) x.1) z1 ((Value.agg (bc x.b).toArray).cells.toList.zipIdx 0))=z2 at h2 ⊢
  have e2:(Value.agg (bc x.b).toArray).cells.toList=bc x.b:=rfl
  rw[e2,h1.1,hz,hb] at h2
  unfold Instr.fill
  congr 1
  apply Array.ext_getElem?
  intro i
  have et:(wc x).toArray[i]?=(wc x)[i]?:=by simp
  rw[et,h2.2 i,wc]
  clear et
  cases i with
  | zero =>
    rw[if_neg (by omega),h1.2 0,hz,if_pos ⟨by omega,by simp[Value.cells],by omega⟩]
    rfl
  | succ i =>
    by_cases hi:i < 64
    · rw[if_pos (by omega),List.getElem?_cons_succ]
      congr 1
    · have e1:(Value.int .i64 (x.k:Int)).cells.toList.length=1:=rfl
      rw[if_neg (by omega),List.getElem?_cons_succ,List.getElem?_eq_none (by omega),h1.2 (i+1),e1,if_neg (by omega),Array.getElem?_eq_none (by omega)]
theorem build_w (x:Wt) (hx:x.b.length=64) (w:World):(Instr.build 149 #[(0,.int .i64 (x.k:Int)),(1,.agg (bc x.b).toArray)]).run Tryz.prog w = .ok (.agg (wc x).toArray) w:=by
  refine run_build w _ _ _ ?_
  obtain⟨i0,hi,hz0,hz1,hz2⟩:=info_parts infoW
  obtain⟨fs,hu,hp⟩:=fieldsW
  unfold Program.built
  simp only[hi,hu,hz0,hp]
  exact fill_w x hx _ (by simp[zeroW,Value.cells])
theorem buildS_w (x:Wt) (hx:x.b.length=64) (w:World):(Instr.buildSlice 67 1 #[(0,.agg (wc x).toArray)]).run Tryz.prog w = .ok (.slice (some ⟨w.heap.size,0,none⟩) 1 1) (w.alloc (.cells (wc x).toArray 149)):=by
  obtain⟨i0,hi,hz0,hz1,hz2⟩:=info_parts infoW
  refine run_buildSlice w _ _ 1 _ _ i0 zeroW Tryz.underlying67 hi hz0 (by rw[hz1];decide) (by rw[hz1];decide) ?_
  rw[hz1]
  have:=Go.Great.fill_whole (s:=65) (by decide) [.agg (wc x).toArray] ((Array.range (1*65)).map (zeroW.cells[· % zeroW.cells.size]!)) (fun v hv=>by
    rw[List.mem_singleton] at hv
    subst hv
    simp[Value.cells,wc_len hx]) (by simp)
  simpa[Value.cells] using this
theorem app_w (w:World) (ty:TypeId) (v:Value) (l:List Wt) (h:OwnsW w v l) (hl:l.length≤1000000) (x:Wt) (hx:x.b.length=64) (b:Nat) (hc:w.rangeAt b 0 (wc x)) :
    ∃va vc w',(Builtin.append_ #[67, 67] ty #[v,.slice (some ⟨b,0,none⟩) 1 1]).run Tryz.prog w = .ok (.slice va (l++[x]).length vc) w'∧OwnsW w' (.slice va (l++[x]).length vc) (l++[x])∧w.grownBy w' v.ownBlock∧((Value.slice va (l++[x]).length vc).ownBlock=v.ownBlock∨(Value.slice va (l++[x]).length vc).ownBlock=some w.heap.size):=by
  obtain⟨i0,hi,hz0,hz1,hz2⟩:=info_parts infoW
  obtain⟨v',w',r1,r2,r3,-,r5⟩:=run_append_own_at (P:=Tryz.prog) w 0 67 ty 149 i0 _ 65 72 Tryz.underlying67 hi hz0 hz1 hz2 (by simp[zeroW,Value.cells]) (by decide) v l.length (wcs l) h ⟨b,0,none⟩ 1 1 (wc x) (by rw[wc_len hx]) (fun j u hu=>by
      rw[Addr.add_mid]
      exact hc j u hu) (fun u hu=>wcs_one [x] u (by simpa[wcs] using hu)) (by unfold maxLen;omega) (by omega) (Nat.zero_le _)
  have r2':OwnsW w' v' (l++[x]):=by
    unfold OwnsW
    rw[wcs_app,List.length_append]
    simpa[wcs] using r2
  obtain⟨va,vc,rfl⟩:=ownsW_slice r2'
  exact⟨va,vc,w',r1,r2',r3,r5⟩
theorem load_c {w:World} {b o:Nat} {l:Bs} (h:w.rangeAt b o (bc l)) (hl:l.length=64):(Instr.loadAt 96 (.pointer (some ⟨b,o,none⟩))).run Tryz.prog w = .ok (.agg (bc l).toArray) w:=by
  obtain⟨i0,hi,hz0,hz1,hz2⟩:=info_parts infoC
  exact run_loadAt_mid w b o _ (bc l) _ h Tryz.underlying96 rfl (by rw[hi,bc_len,hl,←hz1];rfl)
theorem wp_buildSlice_run {P:Program} {o:Oper} {a:Act} {w:World} {K:Act→World→Prop} {Q:Exit→Act→World→Prop} (t:TypeId) (len:Nat) (parts:Array (Nat×Operand)) (ho:o.op = .buildSlice t len parts) (vs:Array (Nat×Value)) (hv:(parts.map fun (i,x)=>(i,a.eval x))=vs)
    (v:Value) (w':World) (hr:(Instr.buildSlice t len vs).run P w = .ok v w') (h:K (a.put o.dst v) w'):o.wp P a w K Q:=by
  unfold Oper.wp execOp
  simp only[ho,hv,Sem.run_bind,hr,Result.andThen_ok]
  exact h
theorem yields_build {P:Program} {ops:Array Oper} {S:World→Prop} {o:Oper} {a:Act} (hw:Region.wanted o (yielded ops a.tmps)=true) (t:TypeId) (parts:Array (Nat×Operand)) (ho:o.op = .build t parts) (vs:Array (Nat×Value)) (hv:(parts.map fun (i,x)=>(i,a.eval x))=vs)
    (v:Value) (hr:∀w,(Instr.build t vs).run P w = .ok v w):YieldsIf P ops S o v a :=
  .inl ⟨hw,fun w _=>by
    unfold execOp
    simp only[ho,hv,Sem.run_bind,hr,Result.andThen_ok]
    rfl⟩
theorem wp_load_run {P:Program} {o:Oper} {a:Act} {w:World} {K:Act→World→Prop} {Q:Exit→Act→World→Prop} (t:TypeId) (x:Operand) (ho:o.op = .load t x) (u:Value) (hu:a.eval x=u)
    (v:Value) (hr:(Instr.loadAt t u).run P w = .ok v w) (h:K (a.put o.dst v) w):o.wp P a w K Q:=by
  unfold Oper.wp execOp
  simp only[ho,hu,Sem.run_bind,hr,Result.andThen_ok]
  exact h
theorem wp_store_run {P:Program} {o:Oper} {a:Act} {w:World} {K:Act→World→Prop} {Q:Exit→Act→World→Prop} (t:TypeId) (x y:Operand) (ho:o.op = .store t x y) (u:Value) (hu:a.eval x=u) (z:Value) (hz:a.eval y=z)
    (w':World) (hr:(Instr.storeAt t u z).run P w = .ok () w') (h:K (a.put o.dst undef) w'):o.wp P a w K Q:=by
  unfold Oper.wp execOp
  simp only[ho,hu,hz,Sem.run_bind,hr,Result.andThen_ok]
  exact h
end Go.Proofs.YtjpaodepnacimaaGreatDoor
