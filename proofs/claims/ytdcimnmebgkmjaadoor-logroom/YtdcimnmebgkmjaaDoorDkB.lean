/- A disk in memory: its block, its sectors twice, its writes that wait. -/
import Derived.Test.YtdcimnmebgkmjaaDoorKB
import Derived.Test.YtdcimnmebgkmjaaDoorDkM
import Derived.Maps.OwnSet
import Derived.Laws.OwnMore
import Derived.Deep.MidRow
namespace Go.Proofs.YtdcimnmebgkmjaaDoor
open Go.RowKit Go.Proofs.Fd Go.Proofs.Dk
set_option maxRecDepth 20000

/-- Bytes as cells; a write's cells; a row of them. -/
def bc (l : Bs) : List Value := l.map fun x => .int .u8 (x.toNat : Int)
theorem bc_len (l : Bs) : (bc l).length = l.length := List.length_map ..
theorem bc_one (l : Bs) : ∀ u ∈ bc l, u.oneCell' = true := fun u h => by
  obtain ⟨x, -, rfl⟩ := List.mem_map.1 h
  rfl
theorem bc_app (l m : Bs) : bc (l ++ m) = bc l ++ bc m := List.map_append ..
def wc (x : Wt) : List Value := .int .i64 (x.k : Int) :: bc x.b
def wcs : List Wt → List Value
  | [] => []
  | x :: l => wc x ++ wcs l
theorem wcs_app : ∀ l m : List Wt, wcs (l ++ m) = wcs l ++ wcs m
  | [], _ => rfl
  | t :: l, m => by rw [List.cons_append, wcs, wcs_app l m, wcs, List.append_assoc]
theorem wc_len {x : Wt} (h : x.b.length = 64) : (wc x).length = 65 := by rw [wc, List.length_cons, bc_len, h]
theorem wcs_one : ∀ (l : List Wt), ∀ u ∈ wcs l, u.oneCell' = true
  | [], u, h => by cases h
  | t :: l, u, h => by
    rw [wcs, List.mem_append] at h
    rcases h with h | h
    · rcases List.mem_cons.1 h with rfl | h
      · rfl
      · exact bc_one _ u h
    · exact wcs_one l u h
theorem wcs_at : ∀ (l : List Wt), (∀ x ∈ l, x.b.length = 64) → ∀ (i : Nat) (hi : i < l.length) (j : Nat), j < 65 → (wcs l)[i * 65 + j]? = (wc l[i])[j]?
  | [], _, i, hi, _, _ => absurd hi (Nat.not_lt_zero _)
  | t :: l, h, 0, _, j, hj => by
    rw [wcs, Nat.zero_mul, Nat.zero_add, List.getElem?_append_left (by rw [wc_len (h t (List.mem_cons_self ..))]; exact hj)]
    rfl
  | t :: l, h, i + 1, hi, j, hj => by
    have ih := wcs_at l (fun y hy => h y (List.mem_cons_of_mem _ hy)) i (by simpa using hi) j hj
    rw [wcs, List.getElem?_append_right (by rw [wc_len (h t (List.mem_cons_self ..))]; omega), wc_len (h t (List.mem_cons_self ..)), show (i + 1) * 65 + j - 65 = i * 65 + j by omega]
    exact ih

/-- All blocks stay but those of which F holds. -/
structure Bf (F : Nat → Prop) (w w' : World) : Prop where
  os : w'.os = w.os
  tape : w'.tape = w.tape
  output : w'.output = w.output
  size : w.heap.size ≤ w'.heap.size
  block : ∀ g, g < w.heap.size → ¬ F g → w'.heap[g]? = w.heap[g]?
theorem Bf.refl (F : Nat → Prop) (w : World) : Bf F w w := ⟨rfl, rfl, rfl, Nat.le_refl _, fun _ _ _ => rfl⟩
theorem Bf.of {F : Nat → Prop} {w w' : World} (h : Below w.heap.size w w') : Bf F w w' := ⟨h.os, h.tape, h.output, h.size, fun g hg _ => h.block g hg⟩
theorem Bf.below {F : Nat → Prop} {B : Nat} {w w' : World} (h : Bf F w w') (hF : ∀ g, F g → B ≤ g) (hB : B ≤ w.heap.size) : Below B w w' :=
  ⟨h.os, h.tape, h.output, h.size, fun g hg => h.block g (Nat.lt_of_lt_of_le hg hB) (fun c => absurd (hF g c) (Nat.not_le.2 hg))⟩
theorem Bf.grown {F : Nat → Prop} {row : Option Nat} {w w' : World} (k : w.grownBy w' row) (hr : ∀ g, row = some g → F g ∨ w.heap.size ≤ g) : Bf F w w' :=
  ⟨k.os, k.tape, k.output, k.size, fun g hg hF => k.block g hg (fun e => by rcases hr g e.symm with h | h; exact hF h; omega)⟩
/-- What comes of a footprint: what it had, and new blocks. -/
def Nx (w : World) (F F' : Nat → Prop) : Prop := ∀ g, F' g → F g ∨ w.heap.size ≤ g
theorem Nx.refl (w : World) (F : Nat → Prop) : Nx w F F := fun _ h => .inl h
theorem Nx.trans {w w' : World} {F F' F'' : Nat → Prop} (h : Nx w F F') (k : Nx w' F' F'') (hs : w.heap.size ≤ w'.heap.size) : Nx w F F'' := fun g hg => by
  rcases k g hg with h1 | h1
  · exact h g h1
  · exact .inr (Nat.le_trans hs h1)
theorem Bf.trans {F F' : Nat → Prop} {a b c : World} (h : Bf F a b) (n : Nx a F F') (k : Bf F' b c) : Bf F a c :=
  ⟨k.os.trans h.os, k.tape.trans h.tape, k.output.trans h.output, Nat.le_trans h.size k.size, fun g hg hF => (k.block g (Nat.lt_of_lt_of_le hg h.size) (fun c => by rcases n g c with h1 | h1; exact hF h1; omega)).trans (h.block g hg hF)⟩
theorem Bf.later {F : Nat → Prop} {a b c : World} (h : Bf F a b) (k : Below b.heap.size b c) : Bf F a c := h.trans (Nx.refl _ _) (Bf.of k)
theorem Bf.cell {F : Nat → Prop} {w w' : World} (h : Bf F w w') {a : Addr} {v : Value} (hc : w.cell? a = some v) (hF : ¬ F a.block) : w'.cell? a = some v :=
  (World.cell?_of_block (h.block a.block (World.block_lt_of_cell? _ _ hc) hF)).trans hc
theorem Bf.set (F : Nat → Prop) (w : World) (b o : Nat) (v : Value) (h : F b) : Bf F w (w.setCell ⟨b, o, none⟩ v) := ⟨rfl, rfl, rfl, by simp, fun g _ hF => Below.heap_setCell w ⟨b, o, none⟩ v g (fun e => hF (by rw [e]; exact h))⟩
theorem Bf.sets (F : Nat → Prop) (b : Nat) (h : F b) : ∀ (vs : List Value) (o : Nat) (w : World), Bf F w (w.setCells b o vs)
  | [], _, w => Bf.refl F w
  | v :: vs, o, w => by
    rw [World.setCells]
    exact (Bf.set F w b o v h).trans (Nx.refl _ _) (Bf.sets F b h vs _ _)
theorem ownsRow_same {w w' : World} {e : TypeId} {size n : Nat} {v : Value} {xs : List Value} (h : w.ownsRow 0 e size v n xs) (hs : ∀ g, v.ownBlock = some g → w'.heap[g]? = w.heap[g]?) : w'.ownsRow 0 e size v n xs := by
  refine ⟨h.1, ?_⟩
  rcases h.2 with h1 | ⟨g, cap, cur, rfl, h2, h3, h4⟩
  · exact .inl h1
  · exact .inr ⟨g, cap, cur, rfl, h2, (hs g rfl).trans h3, h4⟩
/-- Sectors that lie in a block. -/
structure Sec (w : World) (a n : Nat) (f : Nat → Bs) : Prop where
  at_ : ∀ k, k < n → w.rangeAt a (k * 64) (bc (f k))
  th : w.there a 0 (n * 64)
  l64 : ∀ k, (f k).length = 64
theorem rangeAt_same {w w' : World} {b o : Nat} {cs : List Value} (h : w.rangeAt b o cs) (hs : w'.heap[b]? = w.heap[b]?) : w'.rangeAt b o cs := fun j v hv => (World.cell?_of_block (a := ⟨b, o + j, none⟩) hs).trans (h j v hv)
theorem there_same {w w' : World} {b o n : Nat} (h : w.there b o n) (hs : w'.heap[b]? = w.heap[b]?) : w'.there b o n := fun j hj => ⟨by rw [World.cell?_of_block (a := ⟨b, o + j, none⟩) hs]; exact (h j hj).1, (World.frozen?_of_block (a := ⟨b, o + j, none⟩) hs).trans (h j hj).2⟩
theorem Sec.same {w w' : World} {a n : Nat} {f : Nat → Bs} (h : Sec w a n f) (hs : w'.heap[a]? = w.heap[a]?) : Sec w' a n f := ⟨fun k hk => rangeAt_same (h.at_ k hk) hs, there_same h.th hs, h.l64⟩
theorem Sec.there {w : World} {a n : Nat} {f : Nat → Bs} (h : Sec w a n f) {k : Nat} (hk : k < n) : w.there a (k * 64) 64 := fun j hj => by
  have := h.th (k * 64 + j) (by omega)
  rw [Nat.zero_add] at this
  exact this
theorem Sec.lt {w : World} {a n : Nat} {f : Nat → Bs} (h : Sec w a n f) (hn : 1 ≤ n) : a < w.heap.size := by
  obtain ⟨u, hu⟩ := Option.isSome_iff_exists.1 (h.th 0 (by omega)).1
  exact World.block_lt_of_cell? _ _ hu
/-- A beginning of a sector is written. -/
theorem Sec.put {w : World} {a n : Nat} {f : Nat → Bs} (h : Sec w a n f) {k : Nat} (hk : k < n) (xs : Bs) (hx : xs.length ≤ 64) : Sec (w.setCells a (k * 64) (bc xs)) a n (upd f k (xs ++ (f k).drop xs.length)) := by
  refine ⟨fun j hj => ?_, World.there_setCells h.th _ _ _, upd_64 h.l64 _ (by rw [List.length_append, List.length_drop, h.l64]; omega)⟩
  by_cases e : j = k
  · subst e
    rw [upd_same, bc_app]
    intro i v hv
    by_cases hi : i < xs.length
    · rw [List.getElem?_append_left (by rw [bc_len]; exact hi)] at hv
      exact World.rangeAt_setCells_same w a (j * 64) (bc xs) (fun q hq => h.there hj q (by rw [bc_len] at hq; omega)) i v hv
    · rw [List.getElem?_append_right (by rw [bc_len]; omega), bc_len] at hv
      rw [World.cell?_setCells_out a _ _ w _ (fun _ _ => .inr (by rw [bc_len]; show j * 64 + xs.length ≤ j * 64 + i; omega))]
      refine h.at_ j hj i v ?_
      unfold bc at hv ⊢
      rw [List.getElem?_map, List.getElem?_drop, show xs.length + (i - xs.length) = i by omega] at hv
      rw [List.getElem?_map]
      exact hv
  · rw [upd_other _ _ e]
    refine World.rangeAt_setCells_apart (h.at_ j hj) _ _ _ (.inr ?_)
    rw [bc_len, bc_len, h.l64]
    omega
theorem Sec.whole {w : World} {a n : Nat} {f : Nat → Bs} (h : Sec w a n f) {k : Nat} (hk : k < n) {xs : Bs} (hx : xs.length = 64) : Sec (w.setCells a (k * 64) (bc xs)) a n (upd f k xs) := by
  have := h.put hk xs (by omega)
  rw [List.drop_of_length_le (by rw [h.l64]; omega), List.append_nil] at this
  exact this
theorem setCells_other (w : World) (a o : Nat) (vs : List Value) (g : Nat) (hg : g ≠ a) : (w.setCells a o vs).heap[g]? = w.heap[g]? := by
  induction vs generalizing w o with
  | nil => rfl
  | cons v vs ih =>
    rw [World.setCells, ih, Below.heap_setCell w ⟨a, o, none⟩ v g hg]
abbrev OwnsW (w : World) (v : Value) (l : List Wt) : Prop := w.ownsRow 0 69 65 v l.length (wcs l)
/-- A disk's parts in memory. -/
structure Raw (w : World) (p n : Nat) (dn : Bool) (fu : Nat) (fa fb : Nat → Bs) (l : List Wt) (a b : Nat) (v : Value) : Prop where
  c0 : w.cell? ⟨p, 0, none⟩ = some (.int .i64 (if dn = true then 1 else 0))
  c1 : w.cell? ⟨p, 1, none⟩ = some (.int .i64 (fu : Int))
  c2 : w.cell? ⟨p, 2, none⟩ = some (.slice (some ⟨a, 0, none⟩) n n)
  c3 : w.cell? ⟨p, 3, none⟩ = some (.slice (some ⟨b, 0, none⟩) n n)
  c4 : w.cell? ⟨p, 4, none⟩ = some v
  fr : ∀ o, w.frozen? ⟨p, o, none⟩ = false
  sa : Sec w a n fa
  sb : Sec w b n fb
  row : OwnsW w v l
  pa : a ≠ p
  pb : b ≠ p
  ab : a ≠ b
  pv : v.ownBlock ≠ some p
  av : v.ownBlock ≠ some a
  bv : v.ownBlock ≠ some b
  n1 : 1 ≤ n
/-- The blocks of a disk. -/
def Foot (p a b : Nat) (v : Value) (g : Nat) : Prop := g = p ∨ g = a ∨ g = b ∨ v.ownBlock = some g
section
variable {w : World} {p n : Nat} {dn : Bool} {fu : Nat} {fa fb : Nat → Bs} {l : List Wt} {a b : Nat} {v : Value}
theorem Raw.lt (h : Raw w p n dn fu fa fb l a b v) {g : Nat} (hg : Foot p a b v g) : g < w.heap.size := by
  rcases hg with rfl | rfl | rfl | e
  · exact World.block_lt_of_cell? _ _ h.c0
  · exact h.sa.lt h.n1
  · exact h.sb.lt h.n1
  · exact (h.row.lt g e).2
theorem Raw.same (h : Raw w p n dn fu fa fb l a b v) {w' : World} (hs : ∀ g, Foot p a b v g → w'.heap[g]? = w.heap[g]?) : Raw w' p n dn fu fa fb l a b v := by
  have hp : w'.heap[p]? = w.heap[p]? := hs p (.inl rfl)
  have cp : ∀ (o : Nat), w'.cell? ⟨p, o, none⟩ = w.cell? ⟨p, o, none⟩ := fun o => World.cell?_of_block (a := ⟨p, o, none⟩) hp
  exact ⟨(cp 0).trans h.c0, (cp 1).trans h.c1, (cp 2).trans h.c2, (cp 3).trans h.c3, (cp 4).trans h.c4, fun o => (World.frozen?_of_block (a := ⟨p, o, none⟩) hp).trans (h.fr o), h.sa.same (hs a (.inr (.inl rfl))), h.sb.same (hs b (.inr (.inr (.inl rfl)))),
    ownsRow_same h.row (fun g e => hs g (.inr (.inr (.inr e)))), h.pa, h.pb, h.ab, h.pv, h.av, h.bv, h.n1⟩
theorem Raw.later (h : Raw w p n dn fu fa fb l a b v) {w' : World} (hb : Below w.heap.size w w') : Raw w' p n dn fu fa fb l a b v := h.same fun g hg => hb.block g (h.lt hg)
theorem Raw.other (h : Raw w p n dn fu fa fb l a b v) {F : Nat → Prop} {w' : World} (hb : Bf F w w') (hF : ∀ g, Foot p a b v g → ¬ F g) : Raw w' p n dn fu fa fb l a b v := h.same fun g hg => hb.block g (h.lt hg) (hF g hg)
/-- A beginning of a sector that lies, or is shown, is written. -/
theorem Raw.putA (h : Raw w p n dn fu fa fb l a b v) {k : Nat} (hk : k < n) (xs : Bs) (hx : xs.length ≤ 64) : Raw (w.setCells a (k * 64) (bc xs)) p n dn fu (upd fa k (xs ++ (fa k).drop xs.length)) fb l a b v := by
  have bo : ∀ g, g ≠ a → (w.setCells a (k * 64) (bc xs)).heap[g]? = w.heap[g]? := fun g hg => setCells_other w a _ _ g hg
  have hp := bo p (Ne.symm h.pa)
  have cp : ∀ (o : Nat), (w.setCells a (k * 64) (bc xs)).cell? ⟨p, o, none⟩ = w.cell? ⟨p, o, none⟩ := fun o => World.cell?_of_block (a := ⟨p, o, none⟩) hp
  exact ⟨(cp 0).trans h.c0, (cp 1).trans h.c1, (cp 2).trans h.c2, (cp 3).trans h.c3, (cp 4).trans h.c4, fun o => (World.frozen?_of_block (a := ⟨p, o, none⟩) hp).trans (h.fr o), h.sa.put hk xs hx, h.sb.same (bo b (Ne.symm h.ab)),
    ownsRow_same h.row (fun g e => bo g (fun c => h.av (by rw [e, c]))), h.pa, h.pb, h.ab, h.pv, h.av, h.bv, h.n1⟩
theorem Raw.putB (h : Raw w p n dn fu fa fb l a b v) {k : Nat} (hk : k < n) (xs : Bs) (hx : xs.length ≤ 64) : Raw (w.setCells b (k * 64) (bc xs)) p n dn fu fa (upd fb k (xs ++ (fb k).drop xs.length)) l a b v := by
  have bo : ∀ g, g ≠ b → (w.setCells b (k * 64) (bc xs)).heap[g]? = w.heap[g]? := fun g hg => setCells_other w b _ _ g hg
  have hp := bo p (Ne.symm h.pb)
  have cp : ∀ (o : Nat), (w.setCells b (k * 64) (bc xs)).cell? ⟨p, o, none⟩ = w.cell? ⟨p, o, none⟩ := fun o => World.cell?_of_block (a := ⟨p, o, none⟩) hp
  exact ⟨(cp 0).trans h.c0, (cp 1).trans h.c1, (cp 2).trans h.c2, (cp 3).trans h.c3, (cp 4).trans h.c4, fun o => (World.frozen?_of_block (a := ⟨p, o, none⟩) hp).trans (h.fr o), h.sa.same (bo a h.ab), h.sb.put hk xs hx,
    ownsRow_same h.row (fun g e => bo g (fun c => h.bv (by rw [e, c]))), h.pa, h.pb, h.ab, h.pv, h.av, h.bv, h.n1⟩
theorem Raw.wholeA (h : Raw w p n dn fu fa fb l a b v) {k : Nat} (hk : k < n) {xs : Bs} (hx : xs.length = 64) : Raw (w.setCells a (k * 64) (bc xs)) p n dn fu (upd fa k xs) fb l a b v := by
  have := h.putA hk xs (by omega)
  rw [List.drop_of_length_le (by rw [h.sa.l64]; omega), List.append_nil] at this
  exact this
theorem Raw.wholeB (h : Raw w p n dn fu fa fb l a b v) {k : Nat} (hk : k < n) {xs : Bs} (hx : xs.length = 64) : Raw (w.setCells b (k * 64) (bc xs)) p n dn fu fa (upd fb k xs) l a b v := by
  have := h.putB hk xs (by omega)
  rw [List.drop_of_length_le (by rw [h.sb.l64]; omega), List.append_nil] at this
  exact this
theorem set_lemmas (w : World) (p i : Nat) (u x : Value) (hx : w.cell? ⟨p, i, none⟩ = some x) : (w.setCell ⟨p, i, none⟩ u).cell? ⟨p, i, none⟩ = some u ∧ (∀ o y, o ≠ i → w.cell? ⟨p, o, none⟩ = some y → (w.setCell ⟨p, i, none⟩ u).cell? ⟨p, o, none⟩ = some y) ∧ (∀ g, g ≠ p → (w.setCell ⟨p, i, none⟩ u).heap[g]? = w.heap[g]?) ∧ (∀ o, (w.setCell ⟨p, i, none⟩ u).frozen? ⟨p, o, none⟩ = w.frozen? ⟨p, o, none⟩) :=
  ⟨by rw [World.cell?_setCell_same _ _ _ (by rw [hx])], fun o y ho hc => by rw [World.cell?_setCell_other _ _ _ _ (fun q => ho (by injection q with q1 q2 q3; exact q2.symm)), hc], fun g hg => Below.heap_setCell w ⟨p, i, none⟩ u g hg, fun o => by rw [World.frozen?_setCell]⟩
theorem Raw.setDown (h : Raw w p n dn fu fa fb l a b v) (d : Bool) : Raw (w.setCell ⟨p, 0, none⟩ (.int .i64 (if d = true then 1 else 0))) p n d fu fa fb l a b v := by
  obtain ⟨s0, co, bo, fo⟩ := set_lemmas w p 0 (.int .i64 (if d = true then 1 else 0)) _ h.c0
  exact ⟨s0, co 1 _ (by decide) h.c1, co 2 _ (by decide) h.c2, co 3 _ (by decide) h.c3, co 4 _ (by decide) h.c4, fun o => (fo o).trans (h.fr o), h.sa.same (bo a h.pa), h.sb.same (bo b h.pb), ownsRow_same h.row (fun g e => bo g (fun c => h.pv (by rw [e, c]))), h.pa, h.pb, h.ab, h.pv, h.av, h.bv, h.n1⟩
theorem Raw.setFuse (h : Raw w p n dn fu fa fb l a b v) (m : Nat) : Raw (w.setCell ⟨p, 1, none⟩ (.int .i64 (m : Int))) p n dn m fa fb l a b v := by
  obtain ⟨s0, co, bo, fo⟩ := set_lemmas w p 1 (.int .i64 (m : Int)) _ h.c1
  exact ⟨co 0 _ (by decide) h.c0, s0, co 2 _ (by decide) h.c2, co 3 _ (by decide) h.c3, co 4 _ (by decide) h.c4, fun o => (fo o).trans (h.fr o), h.sa.same (bo a h.pa), h.sb.same (bo b h.pb), ownsRow_same h.row (fun g e => bo g (fun c => h.pv (by rw [e, c]))), h.pa, h.pb, h.ab, h.pv, h.av, h.bv, h.n1⟩
/-- Its row of writes is another one: behind work on the old row, or on new blocks. -/
theorem Raw.setRow (h : Raw w p n dn fu fa fb l a b v) {w1 : World} (hg : w.grownBy w1 v.ownBlock) {u : Value} {m : List Wt} (ho : OwnsW w1 u m) (hl : ∀ g, u.ownBlock = some g → v.ownBlock = some g ∨ w.heap.size ≤ g) :
    Raw (w1.setCell ⟨p, 4, none⟩ u) p n dn fu fa fb m a b u ∧ Nx w (Foot p a b v) (Foot p a b u) ∧ Bf (Foot p a b v) w (w1.setCell ⟨p, 4, none⟩ u) := by
  have hs : ∀ g, g = p ∨ g = a ∨ g = b → w1.heap[g]? = w.heap[g]? := fun g hF => hg.block g (h.lt (by rcases hF with e | e | e; exact .inl e; exact .inr (.inl e); exact .inr (.inr (.inl e)))) (fun e => by
    rcases hF with rfl | rfl | rfl
    · exact h.pv e.symm
    · exact h.av e.symm
    · exact h.bv e.symm)
  have cp : ∀ (o : Nat), w1.cell? ⟨p, o, none⟩ = w.cell? ⟨p, o, none⟩ := fun o => World.cell?_of_block (a := ⟨p, o, none⟩) (hs p (.inl rfl))
  obtain ⟨s0, co, bo, fo⟩ := set_lemmas w1 p 4 u _ ((cp 4).trans h.c4)
  have nw : ∀ g, u.ownBlock = some g → (g = p ∨ g = a ∨ g = b) → False := fun g e c => by
    rcases hl g e with h1 | h1
    · rcases c with rfl | rfl | rfl
      · exact h.pv h1
      · exact h.av h1
      · exact h.bv h1
    · have : g < w.heap.size := h.lt (by rcases c with e | e | e; exact .inl e; exact .inr (.inl e); exact .inr (.inr (.inl e)))
      omega
  refine ⟨⟨co 0 _ (by decide) ((cp 0).trans h.c0), co 1 _ (by decide) ((cp 1).trans h.c1), co 2 _ (by decide) ((cp 2).trans h.c2), co 3 _ (by decide) ((cp 3).trans h.c3), s0, fun o => ?_, h.sa.same ((bo a h.pa).trans (hs a (.inr (.inl rfl)))), h.sb.same ((bo b h.pb).trans (hs b (.inr (.inr rfl)))),
    ownsRow_same ho (fun g e => bo g (fun c => nw g e (.inl c))), h.pa, h.pb, h.ab, fun e => nw p e (.inl rfl), fun e => nw a e (.inr (.inl rfl)), fun e => nw b e (.inr (.inr rfl)), h.n1⟩, ?_, ?_⟩
  · rw [fo o, World.frozen?_of_block (a := ⟨p, o, none⟩) (hs p (.inl rfl))]
    exact h.fr o
  · intro g hg'
    rcases hg' with e | e | e | e
    · exact .inl (.inl e)
    · exact .inl (.inr (.inl e))
    · exact .inl (.inr (.inr (.inl e)))
    · rcases hl g e with h1 | h1
      · exact .inl (.inr (.inr (.inr h1)))
      · exact .inr h1
  · refine ⟨hg.os, hg.tape, hg.output, by simpa using hg.size, fun g hgl hF => ?_⟩
    rw [bo g (fun c => hF (.inl c))]
    exact hg.block g hgl (fun c => hF (.inr (.inr (.inr c.symm))))
end
/-- A disk at p, whose blocks are those of F. -/
def KAt (w : World) (p : Nat) (F : Nat → Prop) (s : St) : Prop := Ok s ∧ ∃ a b v, F = Foot p a b v ∧ Raw w p s.n s.down s.fuse s.f s.sh s.l a b v
/-- What a call leaves. -/
def Stp (w : World) (p : Nat) (F : Nat → Prop) (s : St) (w' : World) : Prop := ∃ F', KAt w' p F' s ∧ Nx w F F' ∧ Bf F w w'
theorem KAt.lt {w : World} {p : Nat} {F : Nat → Prop} {s : St} (h : KAt w p F s) {g : Nat} (hg : F g) : g < w.heap.size := by
  obtain ⟨-, a, b, v, rfl, hr⟩ := h
  exact hr.lt hg
theorem KAt.other {w w' : World} {p : Nat} {F G : Nat → Prop} {s : St} (h : KAt w p F s) (hb : Bf G w w') (hF : ∀ g, F g → ¬ G g) : KAt w' p F s := by
  obtain ⟨ho, a, b, v, rfl, hr⟩ := h
  exact ⟨ho, a, b, v, rfl, hr.other hb hF⟩
theorem KAt.later {w w' : World} {p : Nat} {F : Nat → Prop} {s : St} (h : KAt w p F s) (hb : Below w.heap.size w w') : KAt w' p F s := by
  obtain ⟨ho, a, b, v, rfl, hr⟩ := h
  exact ⟨ho, a, b, v, rfl, hr.later hb⟩
theorem KAt.stays {w w' : World} {p : Nat} {F : Nat → Prop} {s : St} (h : KAt w p F s) (hb : Below w.heap.size w w') : Stp w p F s w' := ⟨F, h.later hb, Nx.refl _ _, Bf.of hb⟩
end Go.Proofs.YtdcimnmebgkmjaaDoor
