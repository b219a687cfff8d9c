/- Parts: DkRa, DkRb, LrA, LrD, DkRc, LrE, LrC, LrF, LrG, LrH, LrI, LgK. -/
import Derived.Test.YtjpaodepnacimaaGreatDoorZbG11
import Derived.Lib.AppendZeros
import Derived.Test.YtjpaodepnacimaaGreatDoorZbG12
import Derived.Test.YtjpaodepnacimaaGreatDoorZbG07
import Derived.Test.YtjpaodepnacimaaGreatDoorZbG13
import Derived.Deep.Cut
import Derived.Deep.CutBlock
namespace Go.Proofs.YtjpaodepnacimaaGreatDoor
open Go.RowKit Go.Proofs.Fd Go.Proofs.Dk
set_option maxRecDepth 20000
def dc (x : Wt) : List Value := [.int .i64 (x.k : Int), sv x.b]
def dcs : List Wt → List Value
  | [] => []
  | x :: l => dc x ++ dcs l
abbrev OwnsD (w : World) (v : Value) (l : List Wt) : Prop := w.ownsRow 0 98 2 v l.length (dcs l)
structure SRow (w : World) (g n : Nat) (f : Nat → Bs) : Prop where
  c : ∀ k, k < n → w.cell? ⟨g, k, none⟩ = some (sv (f k))
  fr : ∀ k, w.frozen? ⟨g, k, none⟩ = false
theorem SRow.same {w w' : World} {g n : Nat} {f : Nat → Bs} (h : SRow w g n f) (e : w'.heap[g]? = w.heap[g]?) : SRow w' g n f := ⟨fun k hk => (World.cell?_of_block (a := ⟨g, k, none⟩) e).trans (h.c k hk), fun k => (World.frozen?_of_block (a := ⟨g, k, none⟩) e).trans (h.fr k)⟩
theorem SRow.set {w : World} {g n : Nat} {f : Nat → Bs} (h : SRow w g n f) (k : Nat) (b : Bs) : SRow (w.setCell ⟨g, k, none⟩ (sv b)) g n (upd f k b) := by
  refine ⟨fun j hj => ?_, fun j => by rw [World.frozen?_setCell]; exact h.fr j⟩
  unfold upd
  split
  · rename_i e
    subst e
    rw [World.cell?_setCell_same _ _ _ (by rw [h.c j hj])]
  · rename_i e
    rw [World.cell?_setCell_other _ _ _ _ (fun q => e (by injection q with q1 q2 q3; exact q2.symm)), h.c j hj]
structure DRaw (w : World) (d n : Nat) (dn : Bool) (fu : Nat) (f : Nat → Bs) (l : List Wt) (sg sc : Nat) (v : Value) : Prop where
  c0 : w.cell? ⟨d, 0, none⟩ = some (.slice (some ⟨sg, 0, none⟩) n sc)
  c1 : w.cell? ⟨d, 1, none⟩ = some v
  c2 : w.cell? ⟨d, 2, none⟩ = some (.int .i64 (fu : Int))
  c3 : w.cell? ⟨d, 3, none⟩ = some (.bool dn)
  c4 : w.cell? ⟨d, 4, none⟩ = some (.int .i64 (n : Int))
  fr : ∀ o, w.frozen? ⟨d, o, none⟩ = false
  sr : SRow w sg n f
  row : OwnsD w v l
  ds : sg ≠ d
  dv : v.ownBlock ≠ some d
  sv : v.ownBlock ≠ some sg
  n1 : 1 ≤ n
def DFoot (d sg : Nat) (v : Value) (g : Nat) : Prop := g = d ∨ g = sg ∨ v.ownBlock = some g
section
variable {w : World} {d n : Nat} {dn : Bool} {fu : Nat} {f : Nat → Bs} {l : List Wt} {sg sc : Nat} {v : Value}
theorem DRaw.lt (h : DRaw w d n dn fu f l sg sc v) {g : Nat} (hg : DFoot d sg v g) : g < w.heap.size := by
  rcases hg with rfl | rfl | e
  · exact World.block_lt_of_cell? _ _ h.c0
  · exact World.block_lt_of_cell? _ _ (h.sr.c 0 h.n1)
  · exact (h.row.lt g e).2
theorem DRaw.same (h : DRaw w d n dn fu f l sg sc v) {w' : World} (hs : ∀ g, DFoot d sg v g → w'.heap[g]? = w.heap[g]?) : DRaw w' d n dn fu f l sg sc v := by
  have hp : w'.heap[d]? = w.heap[d]? := hs d (.inl rfl)
  have cp : ∀ (o : Nat), w'.cell? ⟨d, o, none⟩ = w.cell? ⟨d, o, none⟩ := fun o => World.cell?_of_block (a := ⟨d, o, none⟩) hp
  exact ⟨(cp 0).trans h.c0, (cp 1).trans h.c1, (cp 2).trans h.c2, (cp 3).trans h.c3, (cp 4).trans h.c4, fun o => (World.frozen?_of_block (a := ⟨d, o, none⟩) hp).trans (h.fr o), h.sr.same (hs sg (.inr (.inl rfl))),
    ownsRow_same h.row (fun g e => hs g (.inr (.inr e))), h.ds, h.dv, h.sv, h.n1⟩
theorem DRaw.later (h : DRaw w d n dn fu f l sg sc v) {w' : World} (hb : Below w.heap.size w w') : DRaw w' d n dn fu f l sg sc v := h.same fun g hg => hb.block g (h.lt hg)
theorem DRaw.other (h : DRaw w d n dn fu f l sg sc v) {F : Nat → Prop} {w' : World} (hb : Bf F w w') (hF : ∀ g, DFoot d sg v g → ¬ F g) : DRaw w' d n dn fu f l sg sc v := h.same fun g hg => hb.block g (h.lt hg) (hF g hg)
theorem DRaw.setFuse (h : DRaw w d n dn fu f l sg sc v) (m : Nat) : DRaw (w.setCell ⟨d, 2, none⟩ (.int .i64 (m : Int))) d n dn m f l sg sc v := by
  obtain ⟨s0, co, bo, fo⟩ := set_lemmas w d 2 (.int .i64 (m : Int)) _ h.c2
  exact ⟨co 0 _ (by decide) h.c0, co 1 _ (by decide) h.c1, s0, co 3 _ (by decide) h.c3, co 4 _ (by decide) h.c4, fun o => (fo o).trans (h.fr o), h.sr.same (bo sg h.ds), ownsRow_same h.row (fun g e => bo g (fun c => h.dv (by rw [e, c]))), h.ds, h.dv, h.sv, h.n1⟩
theorem DRaw.setDown (h : DRaw w d n dn fu f l sg sc v) (b : Bool) : DRaw (w.setCell ⟨d, 3, none⟩ (.bool b)) d n b fu f l sg sc v := by
  obtain ⟨s0, co, bo, fo⟩ := set_lemmas w d 3 (.bool b) _ h.c3
  exact ⟨co 0 _ (by decide) h.c0, co 1 _ (by decide) h.c1, co 2 _ (by decide) h.c2, s0, co 4 _ (by decide) h.c4, fun o => (fo o).trans (h.fr o), h.sr.same (bo sg h.ds), ownsRow_same h.row (fun g e => bo g (fun c => h.dv (by rw [e, c]))), h.ds, h.dv, h.sv, h.n1⟩
theorem DRaw.setRow (h : DRaw w d n dn fu f l sg sc v) {w1 : World} (hb : Below w.heap.size w w1) {u : Value} {m : List Wt} (ho : OwnsD w1 u m) (hl : ∀ g, u.ownBlock = some g → w.heap.size ≤ g) :
    DRaw (w1.setCell ⟨d, 1, none⟩ u) d n dn fu f m sg sc u ∧ Nx w (DFoot d sg v) (DFoot d sg u) ∧ Bf (DFoot d sg v) w (w1.setCell ⟨d, 1, none⟩ u) := by
  have h1 := h.later hb
  have ld := h.lt (.inl rfl)
  have ls := h.lt (.inr (.inl rfl))
  obtain ⟨s0, co, bo, fo⟩ := set_lemmas w1 d 1 u _ h1.c1
  have nd : u.ownBlock ≠ some d := fun e => by have := hl d e; omega
  have ns : u.ownBlock ≠ some sg := fun e => by have := hl sg e; omega
  refine ⟨⟨co 0 _ (by decide) h1.c0, s0, co 2 _ (by decide) h1.c2, co 3 _ (by decide) h1.c3, co 4 _ (by decide) h1.c4, fun o => (fo o).trans (h1.fr o), h1.sr.same (bo sg h.ds), ownsRow_same ho (fun g e => bo g (fun c => nd (by rw [e, c]))), h.ds, nd, ns, h.n1⟩, ?_, (Bf.of hb).trans (Nx.refl _ _) (Bf.set _ w1 d 1 u (.inl rfl))⟩
  intro g hg
  rcases hg with e | e | e
  · exact .inl (.inl e)
  · exact .inl (.inr (.inl e))
  · exact .inr (hl g e)
end
def DAt (w : World) (d : Nat) (G : Nat → Prop) (s : St) : Prop := Ok s ∧ ∃ sg sc v, G = DFoot d sg v ∧ DRaw w d s.n s.down s.fuse s.f s.l sg sc v
def DSt (w : World) (d : Nat) (G : Nat → Prop) (s : St) (w' : World) : Prop := ∃ G', DAt w' d G' s ∧ Nx w G G' ∧ Bf G w w'
theorem DAt.lt {w : World} {d : Nat} {G : Nat → Prop} {s : St} (h : DAt w d G s) {g : Nat} (hg : G g) : g < w.heap.size := by
  obtain ⟨-, sg, sc, v, rfl, hr⟩ := h
  exact hr.lt hg
theorem DAt.other {w w' : World} {d : Nat} {F G : Nat → Prop} {s : St} (h : DAt w d G s) (hb : Bf F w w') (hF : ∀ g, G g → ¬ F g) : DAt w' d G s := by
  obtain ⟨ho, sg, sc, v, rfl, hr⟩ := h
  exact ⟨ho, sg, sc, v, rfl, hr.other hb hF⟩
theorem DAt.later {w w' : World} {d : Nat} {G : Nat → Prop} {s : St} (h : DAt w d G s) (hb : Below w.heap.size w w') : DAt w' d G s := by
  obtain ⟨ho, sg, sc, v, rfl, hr⟩ := h
  exact ⟨ho, sg, sc, v, rfl, hr.later hb⟩
theorem DAt.stays {w w' : World} {d : Nat} {G : Nat → Prop} {s : St} (h : DAt w d G s) (hb : Below w.heap.size w w') : DSt w d G s w' := ⟨G, h.later hb, Nx.refl _ _, Bf.of hb⟩
theorem DAt.fuse {w : World} {d : Nat} {G : Nat → Prop} {s : St} (h : DAt w d G s) {n : Int} (hd : s.down = false) (h1 : ¬ (n < 0 ∨ 1048576 < n)) : DAt (w.setCell ⟨d, 2, none⟩ (.int .i64 n)) d G (fuS s n) ∧ Bf G w (w.setCell ⟨d, 2, none⟩ (.int .i64 n)) := by
  have hk := h.1.fus n
  obtain ⟨-, sg, sc, v, rfl, hr⟩ := h
  refine ⟨⟨hk, sg, sc, v, rfl, ?_⟩, Bf.set _ w d 2 _ (.inl rfl)⟩
  have e : fuS s n = { s with fuse := n.toNat } := by
    unfold fuS
    rw [if_neg (by rw [hd]; simp), if_neg h1]
  rw [e]
  have := hr.setFuse n.toNat
  rw [Int.toNat_of_nonneg (by omega)] at this
  exact this
end Go.Proofs.YtjpaodepnacimaaGreatDoor
namespace Go.Proofs.YtjpaodepnacimaaGreatDoor
open Go.RowKit Go.Proofs.Fd Go.Proofs.Dk
set_option maxRecDepth 20000
def Src (w : World) (x : Value) (l : List Wt) : Prop := (x = .slice none 0 0 ∧ l = []) ∨ ∃ g c, x = .slice (some ⟨g, 0, none⟩) l.length c ∧ ∀ j u, (dcs l)[j]? = some u → w.cell? ⟨g, j, none⟩ = some u
theorem Src.later {w w' : World} {x : Value} {l : List Wt} (h : Src w x l) (hb : Below w.heap.size w w') : Src w' x l := by
  rcases h with h | ⟨g, c, h1, h2⟩
  · exact .inl h
  · exact .inr ⟨g, c, h1, fun j u hu => cell_later hb (h2 j u hu)⟩
theorem DAt.wrote {W : World} {d : Nat} {G : Nat → Prop} {s : St} (h : DAt W d G s) {x : Wt} {ua : Option Addr} {uc : Nat} {w2 : World} (hk : Ok { s with l := s.l ++ [x] }) (ho : OwnsD w2 (.slice ua (s.l ++ [x]).length uc) (s.l ++ [x])) (hb : Below W.heap.size W w2) (hn : ∀ g, (Value.slice ua (s.l ++ [x]).length uc).ownBlock = some g → W.heap.size ≤ g) :
    DSt W d G { s with l := s.l ++ [x] } (w2.setCell ⟨d, 1, none⟩ (.slice ua (s.l ++ [x]).length uc)) := by
  obtain ⟨-, sg, sc, v, rfl, hr⟩ := h
  obtain ⟨r1, r2, r3⟩ := hr.setRow hb ho hn
  exact ⟨_, ⟨hk, sg, sc, _, rfl, r1⟩, r2, r3⟩
end Go.Proofs.YtjpaodepnacimaaGreatDoor
namespace Go.Proofs.YtjpaodepnacimaaGreatDoor
open Go.RowKit Go.Proofs.Fd Go.Proofs.Dk Go.Proofs.Lg
set_option maxRecDepth 20000
end Go.Proofs.YtjpaodepnacimaaGreatDoor
namespace Go.Proofs.YtjpaodepnacimaaGreatDoor
open Go.RowKit Go.Proofs.Fd Go.Proofs.Dk Go.Proofs.Lg
set_option maxRecDepth 20000
theorem wrS_n (s : St) (k : Int) (t : Bs) : (wrS s k t).n = s.n := by
  unfold wrS
  split
  · rfl
  · split
    · rfl
    · split <;> rfl
structure Dw (v : World) (d : Nat) (G : Nat → Prop) (wr : World) (G' : Nat → Prop) (s : St) : Prop where
  at_ : DAt wr d G' s
  nx : Nx v G G'
  bf : Bf G v wr
theorem Dw.stp {v wr wr' : World} {d : Nat} {G G' : Nat → Prop} {s t : St} (h : Dw v d G wr G' s) (k : DSt wr d G' t wr') : ∃ G'', Dw v d G wr' G'' t := by
  obtain ⟨G'', k1, k2, k3⟩ := k
  exact ⟨G'', k1, h.nx.trans k2 h.bf.size, h.bf.trans h.nx k3⟩
theorem Dw.later {v wr wr' : World} {d : Nat} {G G' : Nat → Prop} {s : St} (h : Dw v d G wr G' s) (hb : Below wr.heap.size wr wr') : Dw v d G wr' G' s := ⟨h.at_.later hb, h.nx, h.bf.later hb⟩
theorem Dw.ds {v wr : World} {d : Nat} {G G' : Nat → Prop} {s : St} (h : Dw v d G wr G' s) : DSt v d G s wr := ⟨G', h.at_, h.nx, h.bf⟩
end Go.Proofs.YtjpaodepnacimaaGreatDoor
namespace Go.Proofs.YtjpaodepnacimaaGreatDoor
open Go.RowKit Go.Proofs.Fd Go.Proofs.Dk
set_option maxRecDepth 20000
end Go.Proofs.YtjpaodepnacimaaGreatDoor
namespace Go.Proofs.YtjpaodepnacimaaGreatDoor
open Go.RowKit Go.Proofs.Fd Go.Proofs.Dk Go.Proofs.Lg
set_option maxRecDepth 20000
end Go.Proofs.YtjpaodepnacimaaGreatDoor
namespace Go.Proofs.YtjpaodepnacimaaGreatDoor
open Go.RowKit Go.Proofs.Fd Go.Proofs.Dk Go.Proofs.Lg
set_option maxRecDepth 20000
end Go.Proofs.YtjpaodepnacimaaGreatDoor
namespace Go.Proofs.YtjpaodepnacimaaGreatDoor
open Go.RowKit Go.Proofs.Fd Go.Proofs.Dk Go.Proofs.Lg
set_option maxRecDepth 20000
abbrev rc (d h g : Nat) (v : Value) (m : Bs) (tk : Nat) : List Value := [.pointer (some ⟨d, 0, none⟩), .int .i64 (h : Int), .int .i64 (g : Int), v, sv m, .int .i64 (tk : Int)]
structure Rf (w : World) (q d h g : Nat) (v : Value) (ts : List Bs) (tk : Nat) (m : Bs) : Prop where
  bk : Blk w q (rc d h g v m tk)
  row : OwnsS w v ts
  qv : v.ownBlock ≠ some q
section
variable {w : World} {q d h g : Nat} {v : Value} {ts : List Bs} {tk : Nat} {m : Bs}
theorem Rf.lt (k : Rf w q d h g v ts tk m) {x : Nat} (hx : HFt q v x) : x < w.heap.size := by
  rcases hx with rfl | e
  · exact k.bk.lt
  · exact (k.row.lt x e).2
theorem Rf.same (k : Rf w q d h g v ts tk m) {w' : World} (hs : ∀ x, HFt q v x → w'.heap[x]? = w.heap[x]?) : Rf w' q d h g v ts tk m :=
  ⟨k.bk.same (hs q (.inl rfl)), ownsRow_same k.row (fun x e => hs x (.inr e)), k.qv⟩
theorem Rf.later (k : Rf w q d h g v ts tk m) {w' : World} (hb : Below w.heap.size w w') : Rf w' q d h g v ts tk m := k.same fun x hx => hb.block x (k.lt hx)
theorem Rf.bf (k : Rf w q d h g v ts tk m) {F : Nat → Prop} {w' : World} (hb : Bf F w w') (hF : ∀ x, HFt q v x → ¬ F x) : Rf w' q d h g v ts tk m := k.same fun x hx => hb.block x (k.lt hx) (hF x hx)
theorem Rf.next (k : Rf w q d h g v ts tk m) {w1 : World} (hb : Below w.heap.size w w1) {u : Value} {us : List Bs} (ho : OwnsS w1 u us) (hu : ∀ x, u.ownBlock = some x → w.heap.size ≤ x) (m' : Bs) (tk' : Nat) :
    Rf (((w1.setCell ⟨q, 3, none⟩ u).setCell ⟨q, 4, none⟩ (sv m')).setCell ⟨q, 5, none⟩ (.int .i64 (tk' : Int))) q d h g u us tk' m' ∧ Bf (fun x => x = q) w (((w1.setCell ⟨q, 3, none⟩ u).setCell ⟨q, 4, none⟩ (sv m')).setCell ⟨q, 5, none⟩ (.int .i64 (tk' : Int))) := by
  have hq := k.bk.lt
  have nq : u.ownBlock ≠ some q := fun e => by have := hu q e; omega
  have b1 := (((k.bk.later hb).set 3 (by simp) u).set 4 (by simp) (sv m')).set 5 (by simp) (.int .i64 (tk' : Int))
  have s1 : ∀ (W : World) (i : Nat) (y : Value), OwnsS W u us → OwnsS (W.setCell ⟨q, i, none⟩ y) u us := fun W i y ho => ownsRow_same ho (fun x e => Below.heap_setCell W ⟨q, i, none⟩ y x (fun c => nq (by rw [e, c])))
  exact ⟨⟨b1, s1 _ _ _ (s1 _ _ _ (s1 _ _ _ ho)), nq⟩, bf_set (F := fun x => x = q) (bf_set (F := fun x => x = q) (bf_set (F := fun x => x = q) (Bf.of hb) rfl) rfl) rfl⟩
end
end Go.Proofs.YtjpaodepnacimaaGreatDoor
namespace Go.Proofs.YtjpaodepnacimaaGreatDoor
open Go.RowKit Go.Proofs.Fd Go.Proofs.Dk Go.Proofs.Lg
set_option maxRecDepth 20000
structure Rd (w : World) (d : Nat) (G : Nat → Prop) (s : St) (q h g : Nat) (v : Value) (ts : List Bs) (tk : Nat) (m : Bs) : Prop where
  at_ : DAt w d G s
  rf : Rf w q d h g v ts tk m
  ap : ∀ x, HFt q v x → ¬ G x
def FQ (G : Nat → Prop) (q : Nat) (v : Value) (x : Nat) : Prop := G x ∨ HFt q v x
section
variable {w : World} {d : Nat} {G : Nat → Prop} {s : St} {q h g : Nat} {v : Value} {ts : List Bs} {tk : Nat} {m : Bs}
theorem Rd.later (k : Rd w d G s q h g v ts tk m) {w' : World} (hb : Below w.heap.size w w') : Rd w' d G s q h g v ts tk m := ⟨k.at_.later hb, k.rf.later hb, k.ap⟩
theorem Rd.disk (k : Rd w d G s q h g v ts tk m) {w' : World} {G' : Nat → Prop} {s' : St} (h1 : DAt w' d G' s') (h2 : Nx w G G') (h3 : Bf G w w') : Rd w' d G' s' q h g v ts tk m :=
  ⟨h1, k.rf.bf h3 k.ap, fun x hx => h2.apart (k.ap x hx) (k.rf.lt hx)⟩
end
end Go.Proofs.YtjpaodepnacimaaGreatDoor
namespace Go.Proofs.YtjpaodepnacimaaGreatDoor
open Go.RowKit Go.Proofs.Fd Go.Proofs.Dk Go.Proofs.Lg
set_option maxRecDepth 20000
end Go.Proofs.YtjpaodepnacimaaGreatDoor
namespace Go.Proofs.YtjpaodepnacimaaGreatDoor
open Go.RowKit Go.Proofs.Fd Go.Proofs.Dk Go.Proofs.Lg
set_option maxRecDepth 20000
end Go.Proofs.YtjpaodepnacimaaGreatDoor
namespace Go.Proofs.YtjpaodepnacimaaGreatDoor
open Go.RowKit Go.Proofs.Fd Go.Proofs.Dk Go.Proofs.Lg
set_option maxRecDepth 20000
section
variable {w : World} {q p fr mn g : Nat} {v : Value} {ts : List Bs} {tk : Nat} {m : Bs} {more : List Value}
theorem Hf.grown (h : Hf w q p fr mn g v ts tk m more) {w' : World} {v' : Value} {us : List Bs} (k : w.grownBy w' v.ownBlock) (o : OwnsS w' v' us) (hv : v'.ownBlock = v.ownBlock ∨ v'.ownBlock = some w.heap.size) :
    Hf (w'.setCell ⟨q, 4, none⟩ v') q p fr mn g v' us tk m more := by
  have hq : w'.heap[q]? = w.heap[q]? := k.block q h.bk.lt (fun e => h.qv e.symm)
  have hn : v'.ownBlock ≠ some q := fun c => by
    rcases hv with e | e
    · exact h.qv (e.symm.trans c)
    · rw [e] at c
      injection c with c
      have := h.bk.lt
      omega
  have b1 := (h.bk.same hq).set 4 (by simp) v'
  exact ⟨b1, ownsRow_same o (fun x e => Below.heap_setCell w' ⟨q, 4, none⟩ v' x (fun c => hn (by rw [e, c]))), hn⟩
end
theorem Hf.ft {w w' : World} {q : Nat} {v v' : Value} (hv : v'.ownBlock = v.ownBlock ∨ v'.ownBlock = some w'.heap.size) (hs : w.heap.size ≤ w'.heap.size) : Nx w (HFt q v) (HFt q v') := fun x hx => by
  rcases hx with rfl | e
  · exact .inl (.inl rfl)
  · rcases hv with h | h
    · exact .inl (.inr (h.symm.trans e))
    · rw [h] at e
      injection e with e
      exact .inr (by omega)
structure Hs1 (w : World) (q p fr mn g : Nat) (v : Value) (ts : List Bs) (tk : Nat) (m : Bs) (more : List Value) (B : Nat) (M T : ByteArray) (W : World) (x : Value) : Prop where
  hf : Hf W q p fr mn g x ts tk m more
  bk : Blk W B [.string M, .string T]
  bf : Bf (HFt q v) w W
  nx : Nx w (HFt q v) (HFt q x)
def oph0 : Oper := { dst := some 4, op := Go.Op.move (Go.Operand.tmp 0), type := 156, pos := "half.go:126", after := #[], guard := none }
def oph1 : Oper := { dst := some 5, op := Go.Op.move (Go.Operand.tmp 0), type := 156, pos := "half.go:126", after := #[], guard := none }
def oph2 : Oper := { dst := some 6, op := Go.Op.nilCheck (Go.Operand.tmp 5), type := 0, pos := "half.go:126", after := #[{ on := 1, ground := Go.Ground.data }], guard := none }
def oph3 : Oper := { dst := some 7, op := Go.Op.fieldAddr 130 (Go.Operand.tmp 6) 2, type := 0, pos := "half.go:126", after := #[{ on := 2, ground := Go.Ground.data }], guard := none }
def oph4 : Oper := { dst := some 8, op := Go.Op.load 37 (Go.Operand.tmp 7), type := 37, pos := "half.go:126", after := #[{ on := 3, ground := Go.Ground.data }], guard := none }
def oph5 : Oper := { dst := some 9, op := Go.Op.fieldAddr 176 (Go.Operand.tmp 3) 1, type := 0, pos := "half.go:126", after := #[], guard := none }
def oph6 : Oper := { dst := some 10, op := Go.Op.load 9 (Go.Operand.tmp 9), type := 9, pos := "half.go:126", after := #[{ on := 5, ground := Go.Ground.data }], guard := none }
def oph7 : Oper := { dst := some 11, op := Go.Op.call { callee := Go.Callee.value (Go.Operand.func 43), args := #[Go.Operand.tmp 10], argTypes := #[9] }, type := 9, pos := "half.go:126", after := #[{ on := 6, ground := Go.Ground.data }], guard := none }
def oph8 : Oper := { dst := some 12, op := Go.Op.buildSlice 37 1 #[(0, Go.Operand.tmp 11)], type := 37, pos := "half.go:126", after := #[{ on := 7, ground := Go.Ground.data }], guard := none }
def oph9 : Oper := { dst := some 13, op := Go.Op.call { callee := Go.Callee.builtin Go.Builtin.append, args := #[Go.Operand.tmp 8, Go.Operand.tmp 12], argTypes := #[37, 37] }, type := 37, pos := "half.go:126", after := #[{ on := 4, ground := Go.Ground.data }, { on := 8, ground := Go.Ground.data }, { on := 7, ground := Go.Ground.chain }], guard := none }
def oph10 : Oper := { dst := some 14, op := Go.Op.nilCheck (Go.Operand.tmp 4), type := 0, pos := "half.go:126", after := #[{ on := 0, ground := Go.Ground.data }, { on := 0, ground := Go.Ground.phase }, { on := 1, ground := Go.Ground.phase }, { on := 2, ground := Go.Ground.phase }, { on := 3, ground := Go.Ground.phase }, { on := 4, ground := Go.Ground.phase }, { on := 5, ground := Go.Ground.phase }, { on := 6, ground := Go.Ground.phase }, { on := 7, ground := Go.Ground.phase }, { on := 8, ground := Go.Ground.phase }, { on := 9, ground := Go.Ground.phase }], guard := none }
def oph11 : Oper := { dst := some 15, op := Go.Op.fieldAddr 130 (Go.Operand.tmp 14) 2, type := 0, pos := "half.go:126", after := #[{ on := 10, ground := Go.Ground.data }, { on := 0, ground := Go.Ground.phase }, { on := 1, ground := Go.Ground.phase }, { on := 2, ground := Go.Ground.phase }, { on := 3, ground := Go.Ground.phase }, { on := 4, ground := Go.Ground.phase }, { on := 5, ground := Go.Ground.phase }, { on := 6, ground := Go.Ground.phase }, { on := 7, ground := Go.Ground.phase }, { on := 8, ground := Go.Ground.phase }, { on := 9, ground := Go.Ground.phase }], guard := none }
def oph12 : Oper := { dst := none, op := Go.Op.store 37 (Go.Operand.tmp 15) (Go.Operand.tmp 13), type := 0, pos := "half.go:126", after := #[{ on := 11, ground := Go.Ground.data }, { on := 9, ground := Go.Ground.data }, { on := 9, ground := Go.Ground.chain }, { on := 0, ground := Go.Ground.phase }, { on := 1, ground := Go.Ground.phase }, { on := 2, ground := Go.Ground.phase }, { on := 3, ground := Go.Ground.phase }, { on := 4, ground := Go.Ground.phase }, { on := 5, ground := Go.Ground.phase }, { on := 6, ground := Go.Ground.phase }, { on := 7, ground := Go.Ground.phase }, { on := 8, ground := Go.Ground.phase }, { on := 9, ground := Go.Ground.phase }], guard := none }
set_option maxHeartbeats 2000000 in
theorem lhas_any (q p fr mn g : Nat) (v : Value) (ts : List Bs) (tk : Nat) (m : Bs) (more : List Value) (m' t : Bs) (ht : t.length ≤ 2000) (hts : ts.length ≤ 100000) (htk : tk ≤ 100000) (w : World) (h : Hid (Hf w q p fr mn g v ts tk m more)) :
    Calls Tryz.prog 126 #[.pointer (some ⟨q, 0, none⟩), rv m' t] w fun e w' => e = .returned (.tuple #[]) ∧ ∃ v', Hf w' q p fr mn g v' (ts ++ [t]) (tk + sn t) m' more ∧ Bf (HFt q v) w w' ∧ Nx w (HFt q v) (HFt q v') := by
  obtain ⟨va, vn, vc, rfl⟩ := owns_sliceS h.out.row
  have CL : Hid (∀ w, Calls Tryz.prog 43 #[.string (st t)] w fun e w' => e = .returned (.string (st t)) ∧ Below w.heap.size w w') := fun w => sclone_any (st t) (by rw [st_size]; omega) w
  have SO : Hid (∀ w, Calls Tryz.prog 90 #[.string (st t)] w fun e w' => e = .returned (.int .i64 (sn t : Int)) ∧ w' = w) := fun w => lsectorsOf_any t (by omega) w
  have hsn : sn t ≤ 100 := by unfold sn; omega
  obtain ⟨n, hn⟩ : ∃ n, sn t = n := ⟨_, rfl⟩
  rw [hn] at SO hsn ⊢
  clear hn
  have HT : Hid (.string (st t) = sv t) := (rfl : Value.string (st t) = sv t)
  have HM : Hid (.string (st m') = sv m') := (rfl : Value.string (st m') = sv m')
  unfold rv
  unfold sv
  obtain ⟨T, hT⟩ : ∃ T, st t = T := ⟨_, rfl⟩
  obtain ⟨M, hM⟩ : ∃ M, st m' = M := ⟨_, rfl⟩
  rw [hT] at CL SO HT ⊢
  rw [hM] at HM ⊢
  clear hT hM ht
  have hB : Hid (w.heap.size ≠ q) := fun e => by have := h.out.bk.lt; omega
  have HNB : Hid ((Value.slice va vn vc).ownBlock ≠ some w.heap.size) := fun e => Nat.lt_irrefl _ (h.out.row.lt _ e).2
  have I0 : Hid (Hs1 w q p fr mn g (.slice va vn vc) ts tk m more w.heap.size M T (w.alloc (.cells #[.string M, .string T] 176)).drew (.slice va vn vc)) :=
    ⟨h.out.later (nb _ _).drew, (Blk.new w [.string M, .string T] 176 (by simp)).drew, Bf.of (nb _ _).drew, Nx.refl _ _⟩
  go_enter Tryz.func126, Tryz.ntmps126
  go_wp2_with fail
  obtain ⟨W, hW⟩ : ∃ W, w.alloc (.cells #[.string M, .string T] 176) = W := ⟨_, rfl⟩
  have b1 : W.cell? ⟨w.heap.size, 1, none⟩ = some (.string T) := by rw [← hW, World.cell?_alloc_new]; rfl
  rw [hW] at I0 ⊢
  clear hW
  obtain ⟨B, hBB⟩ : ∃ B, w.heap.size = B := ⟨_, rfl⟩
  rw [hBB] at I0 hB b1 HNB ⊢
  have HBB : Hid (w.heap.size = B) := hBB
  clear hBB h
  have CK : Hid (∀ V, Below W.drew.heap.size W.drew V → V.cell? ⟨q, 4, none⟩ = some (.slice va vn vc)) := fun V hb => (I0.out.hf.later hb).bk.c 4 _ rfl
  have AA : Hid (∀ V, Below W.drew.heap.size W.drew V → ∃ xa xn xc w', (Builtin.append_ #[37, 37] 37 #[.slice va vn vc, .slice (some ⟨V.heap.size, 0, none⟩) 1 1]).run Tryz.prog (V.alloc (.cells #[.string T] 9)) = .ok (.slice xa xn xc) w' ∧ Hid (w'.cell? ⟨q, 4, none⟩ = some (.slice va vn vc) ∧ w'.frozen? ⟨q, 4, none⟩ = false ∧ w'.cell? ⟨B, 1, none⟩ = some (.string T) ∧ Hs1 w q p fr mn g (.slice va vn vc) (ts ++ [t]) tk m more B M T (w'.setCell ⟨q, 4, none⟩ (.slice xa xn xc)) (.slice xa xn xc))) := by
    intro V hb
    have hb2 := chain hb (nb V (.cells #[.string T] 9))
    have k1 := I0.out.hf.later hb2
    have k2 := I0.out.bk.later hb2
    obtain ⟨v', w', r1, r2, r3, r4⟩ := app_str (V.alloc (.cells #[.string T] 9)) 37 (.slice va vn vc) ts k1.row (by omega) t V.heap.size (by rw [← HT.out, World.cell?_alloc_new]; rfl)
    obtain ⟨xa, xn, xc, rfl⟩ := owns_sliceS r2
    have hq : w'.heap[q]? = (V.alloc (.cells #[.string T] 9)).heap[q]? := r3.block q k1.bk.lt (fun e => k1.qv e.symm)
    have hnB : some B ≠ (Value.slice va vn vc).ownBlock := fun e => HNB.out e.symm
    have hBB : w'.heap[B]? = (V.alloc (.cells #[.string T] 9)).heap[B]? := r3.block B k2.lt hnB
    have bW : Bf (HFt q (.slice va vn vc)) w (V.alloc (.cells #[.string T] 9)) := I0.out.bf.later hb2
    refine ⟨xa, xn, xc, w', r1, ?_, ?_, ?_, ⟨k1.grown r3 r2 r4, ?_, ?_, ?_⟩⟩
    · exact (World.cell?_of_block (a := ⟨q, 4, none⟩) hq).trans (k1.bk.c 4 _ rfl)
    · exact (World.frozen?_of_block (a := ⟨q, 4, none⟩) hq).trans (k1.bk.f 4)
    · exact (World.cell?_of_block (a := ⟨B, 1, none⟩) hBB).trans (k2.c 1 _ rfl)
    · exact (k2.same hBB).same (Below.heap_setCell w' ⟨q, 4, none⟩ _ B hB.out)
    · exact bf_set (bW.trans (Nx.refl _ _) (Bf.grown (F := HFt q (.slice va vn vc)) r3 (fun x e => .inl (.inr e)))) (.inl rfl)
    · exact Hf.ft r4 bW.size
  have TL : Hid (∀ W x, Hs1 w q p fr mn g (.slice va vn vc) (ts ++ [t]) tk m more B M T W x → Hf ((W.drew.setCell ⟨q, 5, none⟩ (.int .i64 ((tk + n : Nat) : Int))).setCell ⟨q, 6, none⟩ (.string M)) q p fr mn g x (ts ++ [t]) (tk + n) m' more ∧ Bf (HFt q (.slice va vn vc)) w ((W.drew.setCell ⟨q, 5, none⟩ (.int .i64 ((tk + n : Nat) : Int))).setCell ⟨q, 6, none⟩ (.string M)) ∧ Nx w (HFt q (.slice va vn vc)) (HFt q x)) := fun W x k => by
    rw [HM.out]
    exact ⟨((k.hf.later (Below.refl _ _).drew).setTk _).setMk m', bf_set (bf_set (k.bf.later (Below.refl _ _).drew) (.inl rfl)) (.inl rfl), k.nx⟩
  have e1 : ((tk + n : Nat) : Int) = (tk : Int) + (n : Int) := by omega
  rw [e1] at TL
  have y1 : IntKind.i64.wrap ((tk : Int) + (n : Int)) = (tk : Int) + (n : Int) := by rw [IntKind.wrap_i64]; omega
  clear e1 HT HM
  refine wp_region_noPanic ?_
  refine wp_region_held_drew (S := fun w' => w'.cell? ⟨B, 1, none⟩ = some (.string T)) (by kernel_rfl) (b1) (fun hHeld => ?_)
  obtain ⟨Z, hZ⟩ : ∃ Z, W.drew = Z := ⟨_, rfl⟩
  rw [hZ] at hHeld CK AA I0 ⊢
  clear hZ b1 I0
  refine wpAnyH_take (i := 0) (oi := oph0) (v := ?_) rfl (by kernel_rfl) (by kernel_rfl) (by kernel_rfl) (fun _ _ _ h => h) (Or.inl ⟨by rfl, ?_⟩) (by assumption) ?_
  rotate_left
  · intro w' hSw
    clear hSw
    unfold oph0
    first
    | (go_simp; done)
    | (go_simp; with_reducible rfl)
  simp only [oph0, Act.put, List.setIfInBounds_toArray, List.set_cons_zero, List.set_cons_succ]
  refine wpAnyH_take (i := 1) (oi := oph1) (v := ?_) rfl (by kernel_rfl) (by kernel_rfl) (by kernel_rfl) (fun _ _ _ h => h) (Or.inl ⟨by rfl, ?_⟩) (by assumption) ?_
  rotate_left
  · intro w' hSw
    clear hSw
    unfold oph1
    first
    | (go_simp; done)
    | (go_simp; with_reducible rfl)
  simp only [oph1, Act.put, List.setIfInBounds_toArray, List.set_cons_zero, List.set_cons_succ]
  refine wpAnyH_take (i := 2) (oi := oph2) (v := ?_) rfl (by kernel_rfl) (by kernel_rfl) (by kernel_rfl) (fun _ _ _ h => h) (Or.inl ⟨by rfl, ?_⟩) (by assumption) ?_
  rotate_left
  · intro w' hSw
    clear hSw
    unfold oph2
    first
    | (go_simp; done)
    | (go_simp; with_reducible rfl)
  simp only [oph2, Act.put, List.setIfInBounds_toArray, List.set_cons_zero, List.set_cons_succ]
  refine wpAnyH_take (i := 3) (oi := oph3) (v := ?_) rfl (by kernel_rfl) (by kernel_rfl) (by kernel_rfl) (fun _ _ _ h => h) (Or.inl ⟨by rfl, ?_⟩) (by assumption) ?_
  rotate_left
  · intro w' hSw
    clear hSw
    unfold oph3
    first
    | (go_simp; done)
    | (go_simp; with_reducible rfl)
  simp only [oph3, Act.put, List.setIfInBounds_toArray, List.set_cons_zero, List.set_cons_succ]
  refine wpAnyH_take (i := 5) (oi := oph5) (v := ?_) rfl (by kernel_rfl) (by kernel_rfl) (by kernel_rfl) (fun _ _ _ h => h) (Or.inl ⟨by rfl, ?_⟩) (by assumption) ?_
  rotate_left
  · intro w' hSw
    clear hSw
    unfold oph5
    first
    | (go_simp; done)
    | (go_simp; with_reducible rfl)
  simp only [oph5, Act.put, List.setIfInBounds_toArray, List.set_cons_zero, List.set_cons_succ]
  refine wpAnyH_take (i := 6) (oi := oph6) (v := ?_) rfl (by kernel_rfl) (by kernel_rfl) (by kernel_rfl) (fun _ _ _ h => h) (Or.inl ⟨by rfl, ?_⟩) (by assumption) ?_
  rotate_left
  · intro w' hSw
    have s1 := hSw
    unfold oph6
    first
    | (go_simp; done)
    | (go_simp; with_reducible rfl)
  simp only [oph6, Act.put, List.setIfInBounds_toArray, List.set_cons_zero, List.set_cons_succ]
  refine wpAnyH_ready (rs := [4, 7]) (by kernel_rfl) (by simp) ?_
  refine AllReadyH.cons (o := oph4) rfl (fun KK hKK => ?_) (AllReadyH.cons (o := oph7) rfl (fun KK hKK => ?_) AllReadyH.nil)
  · have lc := CK.out _ (Below.refl _ _)
    unfold oph4
    go_simp
    refine hKK.out _ _ hHeld (fun hHeldL => ?_)
    clear hKK KK lc
    refine wpAnyH_ready (rs := [7]) (by kernel_rfl) (by simp) ?_
    refine AllReadyH.cons (o := oph7) rfl (fun KK hKK => ?_) AllReadyH.nil
    unfold oph7
    go_simp
    refine Calls.mono (CL.out _) ?_
    rintro e w1 ⟨rfl, hb1⟩
    refine hKK.out _ _ (cell_later hb1 hHeldL) (fun hHeldC => ?_)
    clear hKK KK
    refine wpAnyH_ready (rs := [8]) (by kernel_rfl) (by simp) ?_
    refine AllReadyH.cons (o := oph8) rfl (fun KK hKK => ?_) AllReadyH.nil
    unfold oph8
    go_simp
    refine hKK.out _ _ (cell_alloc hHeldC) (fun hHeldB => ?_)
    clear hKK KK
    refine wpAnyH_ready (rs := [9]) (by kernel_rfl) (by simp) ?_
    refine AllReadyH.cons (o := oph9) rfl (fun KK hKK => ?_) AllReadyH.nil
    obtain ⟨xa, xn, xc, w', hr, AO⟩ := AA.out w1 hb1
    rw [if_pos (by kernel_rfl)]
    refine Go.Lib.wp_append_run _ _ _ _ _ rfl _ _ rfl rfl _ _ hr ?_
    refine hKK.out _ _ AO.out.2.2.1 (fun hHeldA => ?_)
    clear hKK KK hr
    simp only [oph9, Act.put, List.setIfInBounds_toArray, List.set_cons_zero, List.set_cons_succ]
    refine wpAnyH_take (i := 10) (oi := oph10) (v := ?_) rfl (by kernel_rfl) (by kernel_rfl) (by kernel_rfl) (fun _ _ _ h => h) (Or.inl ⟨by rfl, ?_⟩) (by assumption) ?_
    rotate_left
    · intro w' hSw
      clear hSw
      unfold oph10
      first
      | (go_simp; done)
      | (go_simp; with_reducible rfl)
    simp only [oph10, Act.put, List.setIfInBounds_toArray, List.set_cons_zero, List.set_cons_succ]
    refine wpAnyH_take (i := 11) (oi := oph11) (v := ?_) rfl (by kernel_rfl) (by kernel_rfl) (by kernel_rfl) (fun _ _ _ h => h) (Or.inl ⟨by rfl, ?_⟩) (by assumption) ?_
    rotate_left
    · intro w' hSw
      clear hSw
      unfold oph11
      first
      | (go_simp; done)
      | (go_simp; with_reducible rfl)
    simp only [oph11, Act.put, List.setIfInBounds_toArray, List.set_cons_zero, List.set_cons_succ]
    refine wpAnyH_ready (rs := [12]) (by kernel_rfl) (by simp) ?_
    refine AllReadyH.cons (o := oph12) rfl (fun KK hKK => ?_) AllReadyH.nil
    have sc := AO.out.1
    have sf := AO.out.2.1
    unfold oph12
    go_simp
    refine hKK.out _ _ (cell_setCell hHeldA (Ne.symm hB.out)) (fun hHeldS => ?_)
    clear hKK KK sc sf
    refine wpAnyH_done (by kernel_rfl) ?_ _
    refine NoPanic.normal ?_
    have R1 : Hid _ := AO.out.2.2.2
    clear AO AA CK CL
    obtain ⟨V, hV⟩ : ∃ V, w'.setCell ⟨q, 4, none⟩ (.slice xa xn xc) = V := ⟨_, rfl⟩
    rw [hV] at R1 ⊢
    have k5 := R1.out.hf.bk.c 5 _ rfl
    have k6 := R1.out.hf.bk.c 6 _ rfl
    have kf := R1.out.hf.bk.f
    have r0 := R1.out.bk.c 0 _ rfl
    have r1 := R1.out.bk.c 1 _ rfl
    have hne := hB.out
    have FF : Hid _ := TL.out V _ R1.out
    clear R1 TL hV
    go_wp2_with fail
    go_region_with (first | (go_at_call 90; refine Calls.mono (SO.out _) ?_; rintro e w3 ⟨rfl, rfl⟩))
    all_goals
      go_wp2
      go_end0
      exact ⟨rfl, _, FF.out⟩
  · unfold oph7
    go_simp
    refine Calls.mono (CL.out _) ?_
    rintro e w1 ⟨rfl, hb1⟩
    refine hKK.out _ _ (cell_later hb1 hHeld) (fun hHeldC => ?_)
    clear hKK KK
    refine wpAnyH_ready (rs := [4, 8]) (by kernel_rfl) (by simp) ?_
    refine AllReadyH.cons (o := oph4) rfl (fun KK hKK => ?_) (AllReadyH.cons (o := oph8) rfl (fun KK hKK => ?_) AllReadyH.nil)
    · have lc := CK.out w1 hb1
      unfold oph4
      go_simp
      refine hKK.out _ _ hHeldC (fun hHeldL => ?_)
      clear hKK KK lc
      refine wpAnyH_ready (rs := [8]) (by kernel_rfl) (by simp) ?_
      refine AllReadyH.cons (o := oph8) rfl (fun KK hKK => ?_) AllReadyH.nil
      unfold oph8
      go_simp
      refine hKK.out _ _ (cell_alloc hHeldL) (fun hHeldB => ?_)
      clear hKK KK
      refine wpAnyH_ready (rs := [9]) (by kernel_rfl) (by simp) ?_
      refine AllReadyH.cons (o := oph9) rfl (fun KK hKK => ?_) AllReadyH.nil
      obtain ⟨xa, xn, xc, w', hr, AO⟩ := AA.out w1 hb1
      rw [if_pos (by kernel_rfl)]
      refine Go.Lib.wp_append_run _ _ _ _ _ rfl _ _ rfl rfl _ _ hr ?_
      refine hKK.out _ _ AO.out.2.2.1 (fun hHeldA => ?_)
      clear hKK KK hr
      simp only [oph9, Act.put, List.setIfInBounds_toArray, List.set_cons_zero, List.set_cons_succ]
      refine wpAnyH_take (i := 10) (oi := oph10) (v := ?_) rfl (by kernel_rfl) (by kernel_rfl) (by kernel_rfl) (fun _ _ _ h => h) (Or.inl ⟨by rfl, ?_⟩) (by assumption) ?_
      rotate_left
      · intro w' hSw
        clear hSw
        unfold oph10
        first
        | (go_simp; done)
        | (go_simp; with_reducible rfl)
      simp only [oph10, Act.put, List.setIfInBounds_toArray, List.set_cons_zero, List.set_cons_succ]
      refine wpAnyH_take (i := 11) (oi := oph11) (v := ?_) rfl (by kernel_rfl) (by kernel_rfl) (by kernel_rfl) (fun _ _ _ h => h) (Or.inl ⟨by rfl, ?_⟩) (by assumption) ?_
      rotate_left
      · intro w' hSw
        clear hSw
        unfold oph11
        first
        | (go_simp; done)
        | (go_simp; with_reducible rfl)
      simp only [oph11, Act.put, List.setIfInBounds_toArray, List.set_cons_zero, List.set_cons_succ]
      refine wpAnyH_ready (rs := [12]) (by kernel_rfl) (by simp) ?_
      refine AllReadyH.cons (o := oph12) rfl (fun KK hKK => ?_) AllReadyH.nil
      have sc := AO.out.1
      have sf := AO.out.2.1
      unfold oph12
      go_simp
      refine hKK.out _ _ (cell_setCell hHeldA (Ne.symm hB.out)) (fun hHeldS => ?_)
      clear hKK KK sc sf
      refine wpAnyH_done (by kernel_rfl) ?_ _
      refine NoPanic.normal ?_
      have R1 : Hid _ := AO.out.2.2.2
      clear AO AA CK CL
      obtain ⟨V, hV⟩ : ∃ V, w'.setCell ⟨q, 4, none⟩ (.slice xa xn xc) = V := ⟨_, rfl⟩
      rw [hV] at R1 ⊢
      have k5 := R1.out.hf.bk.c 5 _ rfl
      have k6 := R1.out.hf.bk.c 6 _ rfl
      have kf := R1.out.hf.bk.f
      have r0 := R1.out.bk.c 0 _ rfl
      have r1 := R1.out.bk.c 1 _ rfl
      have hne := hB.out
      have FF : Hid _ := TL.out V _ R1.out
      clear R1 TL hV
      go_wp2_with fail
      go_region_with (first | (go_at_call 90; refine Calls.mono (SO.out _) ?_; rintro e w3 ⟨rfl, rfl⟩))
      all_goals
        go_wp2
        go_end0
        exact ⟨rfl, _, FF.out⟩
    · unfold oph8
      go_simp
      refine hKK.out _ _ (cell_alloc hHeldC) (fun hHeldB => ?_)
      clear hKK KK
      refine wpAnyH_ready (rs := [4]) (by kernel_rfl) (by simp) ?_
      refine AllReadyH.cons (o := oph4) rfl (fun KK hKK => ?_) AllReadyH.nil
      have lc := CK.out _ (chain hb1 (nb w1 (.cells #[.string T] 9)))
      unfold oph4
      go_simp
      refine hKK.out _ _ hHeldB (fun hHeldL => ?_)
      clear hKK KK lc
      refine wpAnyH_ready (rs := [9]) (by kernel_rfl) (by simp) ?_
      refine AllReadyH.cons (o := oph9) rfl (fun KK hKK => ?_) AllReadyH.nil
      obtain ⟨xa, xn, xc, w', hr, AO⟩ := AA.out w1 hb1
      rw [if_pos (by kernel_rfl)]
      refine Go.Lib.wp_append_run _ _ _ _ _ rfl _ _ rfl rfl _ _ hr ?_
      refine hKK.out _ _ AO.out.2.2.1 (fun hHeldA => ?_)
      clear hKK KK hr
      simp only [oph9, Act.put, List.setIfInBounds_toArray, List.set_cons_zero, List.set_cons_succ]
      refine wpAnyH_take (i := 10) (oi := oph10) (v := ?_) rfl (by kernel_rfl) (by kernel_rfl) (by kernel_rfl) (fun _ _ _ h => h) (Or.inl ⟨by rfl, ?_⟩) (by assumption) ?_
      rotate_left
      · intro w' hSw
        clear hSw
        unfold oph10
        first
        | (go_simp; done)
        | (go_simp; with_reducible rfl)
      simp only [oph10, Act.put, List.setIfInBounds_toArray, List.set_cons_zero, List.set_cons_succ]
      refine wpAnyH_take (i := 11) (oi := oph11) (v := ?_) rfl (by kernel_rfl) (by kernel_rfl) (by kernel_rfl) (fun _ _ _ h => h) (Or.inl ⟨by rfl, ?_⟩) (by assumption) ?_
      rotate_left
      · intro w' hSw
        clear hSw
        unfold oph11
        first
        | (go_simp; done)
        | (go_simp; with_reducible rfl)
      simp only [oph11, Act.put, List.setIfInBounds_toArray, List.set_cons_zero, List.set_cons_succ]
      refine wpAnyH_ready (rs := [12]) (by kernel_rfl) (by simp) ?_
      refine AllReadyH.cons (o := oph12) rfl (fun KK hKK => ?_) AllReadyH.nil
      have sc := AO.out.1
      have sf := AO.out.2.1
      unfold oph12
      go_simp
      refine hKK.out _ _ (cell_setCell hHeldA (Ne.symm hB.out)) (fun hHeldS => ?_)
      clear hKK KK sc sf
      refine wpAnyH_done (by kernel_rfl) ?_ _
      refine NoPanic.normal ?_
      have R1 : Hid _ := AO.out.2.2.2
      clear AO AA CK CL
      obtain ⟨V, hV⟩ : ∃ V, w'.setCell ⟨q, 4, none⟩ (.slice xa xn xc) = V := ⟨_, rfl⟩
      rw [hV] at R1 ⊢
      have k5 := R1.out.hf.bk.c 5 _ rfl
      have k6 := R1.out.hf.bk.c 6 _ rfl
      have kf := R1.out.hf.bk.f
      have r0 := R1.out.bk.c 0 _ rfl
      have r1 := R1.out.bk.c 1 _ rfl
      have hne := hB.out
      have FF : Hid _ := TL.out V _ R1.out
      clear R1 TL hV
      go_wp2_with fail
      go_region_with (first | (go_at_call 90; refine Calls.mono (SO.out _) ?_; rintro e w3 ⟨rfl, rfl⟩))
      all_goals
        go_wp2
        go_end0
        exact ⟨rfl, _, FF.out⟩
end Go.Proofs.YtjpaodepnacimaaGreatDoor
