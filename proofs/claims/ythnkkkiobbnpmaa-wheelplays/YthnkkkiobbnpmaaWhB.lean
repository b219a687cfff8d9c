/- A wheel in memory: its block, its slots' rows, its map of deadlines. -/
import Derived.Test.YthnkkkiobbnpmaaWhP
import Derived.Maps.OwnSet
import Derived.Laws.OwnMore
namespace Go.Proofs.Ythnkkkiobbnpmaa
open Go.RowKit Go.Proofs.Fd Go.Proofs.Wh
set_option maxRecDepth 20000

/-- A timer's cells; a row of them. -/
def tc (t : Tm) : List Value := [.int .i64 (t.a : Int), .int .i64 (t.n : Int), .int .i64 t.i]
def tcs : List Tm → List Value
  | [] => []
  | t :: l => tc t ++ tcs l
theorem tcs_app : ∀ l m : List Tm, tcs (l ++ m) = tcs l ++ tcs m
  | [], _ => rfl
  | t :: l, m => by rw [List.cons_append, tcs, tcs_app l m, tcs, List.append_assoc]
theorem tcs_len : ∀ l : List Tm, (tcs l).length = l.length * 3
  | [] => rfl
  | t :: l => by rw [tcs, List.length_append, tcs_len l, List.length_cons, tc]; simp; omega
theorem tcs_one : ∀ (l : List Tm), ∀ u ∈ tcs l, u.oneCell' = true
  | [], u, h => by cases h
  | t :: l, u, h => by
    rw [tcs, List.mem_append] at h
    rcases h with h | h
    · simp only [tc, List.mem_cons, List.not_mem_nil, or_false] at h
      rcases h with rfl | rfl | rfl <;> rfl
    · exact tcs_one l u h
theorem tcs_get : ∀ (l : List Tm) (i : Nat) (hi : i < l.length), (tcs l)[i * 3]? = some (.int .i64 (l[i].a : Int)) ∧ (tcs l)[i * 3 + 1]? = some (.int .i64 (l[i].n : Int)) ∧ (tcs l)[i * 3 + 2]? = some (.int .i64 l[i].i)
  | [], i, hi => absurd hi (Nat.not_lt_zero _)
  | t :: l, 0, _ => ⟨rfl, rfl, rfl⟩
  | t :: l, i + 1, hi => by
    have ih := tcs_get l i (by simpa using hi)
    rw [show (i + 1) * 3 = i * 3 + 3 by omega]
    exact ih

/-- All blocks stay but those of which F holds. -/
structure Bf (F : Nat → Prop) (w w' : World) : Prop where
  os : w'.os = w.os
  tape : w'.tape = w.tape
  output : w'.output = w.output
  size : w.heap.size ≤ w'.heap.size
  block : ∀ g, g < w.heap.size → ¬ F g → w'.heap[g]? = w.heap[g]?
theorem Bf.refl (F : Nat → Prop) (w : World) : Bf F w w := ⟨rfl, rfl, rfl, Nat.le_refl _, fun _ _ _ => rfl⟩
theorem Bf.of {F : Nat → Prop} {w w' : World} (h : Below w.heap.size w w') : Bf F w w' := ⟨h.os, h.tape, h.output, h.size, fun g hg _ => h.block g hg⟩
theorem Bf.below {F : Nat → Prop} {B : Nat} {w w' : World} (h : Bf F w w') (hF : ∀ g, F g → B ≤ g) (hB : B ≤ w.heap.size) : Below B w w' :=
  ⟨h.os, h.tape, h.output, h.size, fun g hg => h.block g (Nat.lt_of_lt_of_le hg hB) (fun c => absurd (hF g c) (Nat.not_le.2 hg))⟩
theorem Bf.grown {F : Nat → Prop} {row : Option Nat} {w w' : World} (k : w.grownBy w' row) (hr : ∀ g, row = some g → F g ∨ w.heap.size ≤ g) : Bf F w w' :=
  ⟨k.os, k.tape, k.output, k.size, fun g hg hF => k.block g hg (fun e => by rcases hr g e.symm with h | h; exact hF h; omega)⟩
/-- What comes of a footprint: what it had, and new blocks. -/
def Nx (w : World) (F F' : Nat → Prop) : Prop := ∀ g, F' g → F g ∨ w.heap.size ≤ g
theorem Nx.refl (w : World) (F : Nat → Prop) : Nx w F F := fun _ h => .inl h
theorem Nx.trans {w w' : World} {F F' F'' : Nat → Prop} (h : Nx w F F') (k : Nx w' F' F'') (hs : w.heap.size ≤ w'.heap.size) : Nx w F F'' := fun g hg => by
  rcases k g hg with h1 | h1
  · exact h g h1
  · exact .inr (Nat.le_trans hs h1)
theorem Bf.trans {F F' : Nat → Prop} {a b c : World} (h : Bf F a b) (n : Nx a F F') (k : Bf F' b c) : Bf F a c :=
  ⟨k.os.trans h.os, k.tape.trans h.tape, k.output.trans h.output, Nat.le_trans h.size k.size, fun g hg hF => (k.block g (Nat.lt_of_lt_of_le hg h.size) (fun c => by rcases n g c with h1 | h1; exact hF h1; omega)).trans (h.block g hg hF)⟩
theorem Bf.later {F : Nat → Prop} {a b c : World} (h : Bf F a b) (k : Below b.heap.size b c) : Bf F a c := h.trans (Nx.refl _ _) (Bf.of k)
theorem Bf.cell {F : Nat → Prop} {w w' : World} (h : Bf F w w') {a : Addr} {v : Value} (hc : w.cell? a = some v) (hF : ¬ F a.block) : w'.cell? a = some v :=
  (World.cell?_of_block (h.block a.block (World.block_lt_of_cell? _ _ hc) hF)).trans hc

theorem ownsRow_same {w w' : World} {e : TypeId} {size n : Nat} {v : Value} {xs : List Value} (h : w.ownsRow 0 e size v n xs) (hs : ∀ g, v.ownBlock = some g → w'.heap[g]? = w.heap[g]?) : w'.ownsRow 0 e size v n xs := by
  refine ⟨h.1, ?_⟩
  rcases h.2 with h1 | ⟨g, cap, cur, rfl, h2, h3, h4⟩
  · exact .inl h1
  · exact .inr ⟨g, cap, cur, rfl, h2, (hs g rfl).trans h3, h4⟩
theorem ownsMap_same {H : Type} {P : Program} {k : TypeId} {R : Value → Option (DataW H × List MemPlace)} {w w' : World} {b n : Nat} {D : DataW H} (h : w.ownsMap P k R b n D) (hs : w'.heap[b]? = w.heap[b]?) : w'.ownsMap P k R b n D := by
  obtain ⟨es, clock, hb, h2⟩ := h
  exact ⟨es, clock, hs.trans hb, h2⟩
theorem ownsMap_size {H : Type} {P : Program} {k : TypeId} {R : Value → Option (DataW H × List MemPlace)} {w : World} {b n : Nat} {D : DataW H} (h : w.ownsMap P k R b n D) : w.ownsMap P k R b (Maps.size D) D := by
  obtain ⟨es, clock, hb, h2, h3, rfl⟩ := h
  exact ⟨es, clock, hb, h2, by rw [Maps.size_eq, length_sorted]; simp, rfl⟩

def updV (sv : Nat → Value) (k : Nat) (v : Value) : Nat → Value := fun j => if j = k then v else sv j
abbrev OwnsM (w : World) (bm : Nat) (D : DataW Unit) : Prop := w.ownsMap Try.prog 3 (plainElem Try.prog 3) bm (Maps.size D) D
abbrev OwnsT (w : World) (v : Value) (l : List Tm) : Prop := w.ownsRow 0 59 3 v l.length (tcs l)
/-- A wheel's parts in memory. -/
structure Raw (w : World) (p now put : Nat) (sv : Nat → Value) (sl : Nat → List Tm) (bm : Nat) (D : DataW Unit) : Prop where
  c0 : w.cell? ⟨p, 0, none⟩ = some (.int .i64 (now : Int))
  c1 : w.cell? ⟨p, 1, none⟩ = some (.int .i64 (put : Int))
  cs : ∀ k, k < 448 → w.cell? ⟨p, 2 + k, none⟩ = some (sv k)
  c3 : w.cell? ⟨p, 450, none⟩ = some (.map (some bm))
  fr : ∀ o, w.frozen? ⟨p, o, none⟩ = false
  row : ∀ k, k < 448 → OwnsT w (sv k) (sl k)
  apart : ∀ j k, j < 448 → k < 448 → j ≠ k → ∀ g, (sv j).ownBlock = some g → (sv k).ownBlock ≠ some g
  pr : ∀ k, k < 448 → (sv k).ownBlock ≠ some p
  mr : ∀ k, k < 448 → (sv k).ownBlock ≠ some bm
  pm : bm ≠ p
  map : OwnsM w bm D
/-- The blocks of a wheel. -/
def Foot (p : Nat) (sv : Nat → Value) (bm : Nat) (g : Nat) : Prop := g = p ∨ g = bm ∨ ∃ k, k < 448 ∧ (sv k).ownBlock = some g
section
variable {w : World} {p now put : Nat} {sv : Nat → Value} {sl : Nat → List Tm} {bm : Nat} {D : DataW Unit}
theorem Raw.lt (h : Raw w p now put sv sl bm D) {g : Nat} (hg : Foot p sv bm g) : g < w.heap.size := by
  rcases hg with rfl | rfl | ⟨k, hk, e⟩
  · exact World.block_lt_of_cell? _ _ h.c0
  · exact h.map.lt
  · exact ((h.row k hk).lt g e).2
theorem Raw.same (h : Raw w p now put sv sl bm D) {w' : World} (hs : ∀ g, Foot p sv bm g → w'.heap[g]? = w.heap[g]?) : Raw w' p now put sv sl bm D := by
  have hp : w'.heap[p]? = w.heap[p]? := hs p (.inl rfl)
  exact ⟨(World.cell?_of_block (a := ⟨p, 0, none⟩) hp).trans h.c0, (World.cell?_of_block (a := ⟨p, 1, none⟩) hp).trans h.c1, fun k hk => (World.cell?_of_block (a := ⟨p, 2 + k, none⟩) hp).trans (h.cs k hk),
    (World.cell?_of_block (a := ⟨p, 450, none⟩) hp).trans h.c3, fun o => (World.frozen?_of_block (a := ⟨p, o, none⟩) hp).trans (h.fr o), fun k hk => ownsRow_same (h.row k hk) (fun g e => hs g (.inr (.inr ⟨k, hk, e⟩))),
    h.apart, h.pr, h.mr, h.pm, ownsMap_same h.map (hs bm (.inr (.inl rfl)))⟩
theorem Raw.later (h : Raw w p now put sv sl bm D) {w' : World} (hb : Below w.heap.size w w') : Raw w' p now put sv sl bm D := h.same fun g hg => hb.block g (h.lt hg)
theorem Raw.other (h : Raw w p now put sv sl bm D) {F : Nat → Prop} {w' : World} (hb : Bf F w w') (hF : ∀ g, Foot p sv bm g → ¬ F g) : Raw w' p now put sv sl bm D := h.same fun g hg => hb.block g (h.lt hg) (hF g hg)
theorem Raw.grown (h : Raw w p now put sv sl bm D) {row : Option Nat} {w' : World} (hb : w.grownBy w' row) (hF : ∀ g, row = some g → ¬ Foot p sv bm g) : Raw w' p now put sv sl bm D := h.same fun g hg => hb.block g (h.lt hg) (fun e => hF g e.symm hg)
/-- A slot's row is another one: behind work on the old row, or on new blocks. -/
theorem Raw.setRow (h : Raw w p now put sv sl bm D) {k : Nat} (hk : k < 448) {w1 : World} (hg : w.grownBy w1 (sv k).ownBlock) {v : Value} {l : List Tm} (ho : OwnsT w1 v l) (hl : ∀ g, v.ownBlock = some g → (sv k).ownBlock = some g ∨ w.heap.size ≤ g) :
    Raw (w1.setCell ⟨p, 2 + k, none⟩ v) p now put (updV sv k v) (upd sl k l) bm D ∧ Nx w (Foot p sv bm) (Foot p (updV sv k v) bm) ∧ Bf (Foot p sv bm) w (w1.setCell ⟨p, 2 + k, none⟩ v) := by
  have hpl : p < w.heap.size := h.lt (.inl rfl)
  have hp1 : w1.heap[p]? = w.heap[p]? := hg.block p hpl (fun e => h.pr k hk e.symm)
  have cp : ∀ (o : Nat), w1.cell? ⟨p, o, none⟩ = w.cell? ⟨p, o, none⟩ := fun o => World.cell?_of_block (a := ⟨p, o, none⟩) hp1
  have fp : ∀ (o : Nat), w1.frozen? ⟨p, o, none⟩ = w.frozen? ⟨p, o, none⟩ := fun o => World.frozen?_of_block (a := ⟨p, o, none⟩) hp1
  have ck : w1.cell? ⟨p, 2 + k, none⟩ = some (sv k) := (cp _).trans (h.cs k hk)
  have co : ∀ (o : Nat) (u : Value), o ≠ 2 + k → w.cell? ⟨p, o, none⟩ = some u → (w1.setCell ⟨p, 2 + k, none⟩ v).cell? ⟨p, o, none⟩ = some u := fun o u ho hc => by
    rw [World.cell?_setCell_other _ _ _ _ (fun q => ho (by injection q with q1 q2 q3; exact q2.symm)), cp, hc]
  have bo : ∀ g, g ≠ p → (w1.setCell ⟨p, 2 + k, none⟩ v).heap[g]? = w1.heap[g]? := fun g hg => Below.heap_setCell w1 ⟨p, 2 + k, none⟩ v g hg
  have newp : ∀ g, v.ownBlock = some g → g ≠ p := fun g e => by
    rcases hl g e with h1 | h1
    · intro c
      subst c
      exact h.pr k hk h1
    · omega
  have ksame : ∀ j, j < 448 → j ≠ k → ∀ g, (sv j).ownBlock = some g → w1.heap[g]? = w.heap[g]? := fun j hj hne g e => hg.block g (h.lt (.inr (.inr ⟨j, hj, e⟩))) (fun c => h.apart j k hj hk hne g e c.symm)
  refine ⟨⟨?_, ?_, ?_, ?_, ?_, ?_, ?_, ?_, ?_, h.pm, ?_⟩, ?_, ?_⟩
  · exact co 0 _ (by omega) h.c0
  · exact co 1 _ (by omega) h.c1
  · intro j hj
    unfold updV
    split
    · rename_i e
      subst e
      rw [World.cell?_setCell_same _ _ _ (by rw [ck])]
    · rename_i e
      exact co (2 + j) _ (by omega) (h.cs j hj)
  · exact co 450 _ (by omega) h.c3
  · intro o
    rw [World.frozen?_setCell, fp]
    exact h.fr o
  · intro j hj
    unfold updV upd
    split
    · exact ownsRow_same ho (fun g e => bo g (newp g e))
    · rename_i hne
      refine ownsRow_same (h.row j hj) (fun g e => ?_)
      rw [bo g (fun c => h.pr j hj (by rw [e, c]))]
      exact ksame j hj hne g e
  · intro i j hi hj hne g ei ej
    unfold updV at ei ej
    split at ei <;> split at ej
    · omega
    · rename_i hik hjk
      rcases hl g ei with h1 | h1
      · exact h.apart k j hk hj (Ne.symm hjk) g h1 ej
      · have := h.lt (.inr (.inr ⟨j, hj, ej⟩))
        omega
    · rename_i hik hjk
      rcases hl g ej with h1 | h1
      · exact h.apart i k hi hk hik g ei h1
      · have := h.lt (.inr (.inr ⟨i, hi, ei⟩))
        omega
    · exact h.apart i j hi hj hne g ei ej
  · intro j hj e
    unfold updV at e
    split at e
    · exact newp p e rfl
    · exact h.pr j hj e
  · intro j hj e
    unfold updV at e
    split at e
    · rcases hl bm e with h1 | h1
      · exact h.mr k hk h1
      · have := h.map.lt
        omega
    · exact h.mr j hj e
  · refine ownsMap_same h.map ?_
    rw [bo bm h.pm]
    exact hg.block bm h.map.lt (fun e => h.mr k hk e.symm)
  · intro g hg'
    rcases hg' with rfl | rfl | ⟨j, hj, e⟩
    · exact .inl (.inl rfl)
    · exact .inl (.inr (.inl rfl))
    · unfold updV at e
      split at e
      · rcases hl g e with h1 | h1
        · exact .inl (.inr (.inr ⟨k, hk, h1⟩))
        · exact .inr h1
      · exact .inl (.inr (.inr ⟨j, hj, e⟩))
  · refine ⟨hg.os, hg.tape, hg.output, by simpa using hg.size, fun g hgl hF => ?_⟩
    rw [bo g (fun c => hF (.inl c))]
    exact hg.block g hgl (fun c => hF (.inr (.inr ⟨k, hk, c.symm⟩)))
/-- Its map is another one. -/
theorem Raw.setMap (h : Raw w p now put sv sl bm D) {w1 : World} (hg : w.grownBy w1 (some bm)) {D' : DataW Unit} {n : Nat} (hm : w1.ownsMap Try.prog 3 (plainElem Try.prog 3) bm n D') :
    Raw w1 p now put sv sl bm D' ∧ Bf (Foot p sv bm) w w1 := by
  have hb : ∀ g, Foot p sv bm g → g ≠ bm → w1.heap[g]? = w.heap[g]? := fun g hF hne => hg.block g (h.lt hF) (fun e => hne (by injection e))
  have hp : w1.heap[p]? = w.heap[p]? := hb p (.inl rfl) (Ne.symm h.pm)
  refine ⟨⟨(World.cell?_of_block (a := ⟨p, 0, none⟩) hp).trans h.c0, (World.cell?_of_block (a := ⟨p, 1, none⟩) hp).trans h.c1, fun k hk => (World.cell?_of_block (a := ⟨p, 2 + k, none⟩) hp).trans (h.cs k hk),
    (World.cell?_of_block (a := ⟨p, 450, none⟩) hp).trans h.c3, fun o => (World.frozen?_of_block (a := ⟨p, o, none⟩) hp).trans (h.fr o), fun k hk => ownsRow_same (h.row k hk) (fun g e => hb g (.inr (.inr ⟨k, hk, e⟩)) (fun c => h.mr k hk (by rw [e, c]))),
    h.apart, h.pr, h.mr, h.pm, ownsMap_size hm⟩, ?_⟩
  exact ⟨hg.os, hg.tape, hg.output, hg.size, fun g hgl hF => hg.block g hgl (fun e => hF (.inr (.inl (by injection e))))⟩
/-- Its time, or how many were put, is another one. -/
theorem Raw.setNow (h : Raw w p now put sv sl bm D) (n : Nat) : Raw (w.setCell ⟨p, 0, none⟩ (.int .i64 (n : Int))) p n put sv sl bm D ∧ Bf (Foot p sv bm) w (w.setCell ⟨p, 0, none⟩ (.int .i64 (n : Int))) := by
  have co : ∀ (o : Nat) (u : Value), o ≠ 0 → w.cell? ⟨p, o, none⟩ = some u → (w.setCell ⟨p, 0, none⟩ (.int .i64 (n : Int))).cell? ⟨p, o, none⟩ = some u := fun o u ho hc => by
    rw [World.cell?_setCell_other _ _ _ _ (fun q => ho (by injection q with q1 q2 q3; exact q2.symm)), hc]
  have bo : ∀ g, g ≠ p → (w.setCell ⟨p, 0, none⟩ (.int .i64 (n : Int))).heap[g]? = w.heap[g]? := fun g hg => Below.heap_setCell w ⟨p, 0, none⟩ _ g hg
  refine ⟨⟨by rw [World.cell?_setCell_same _ _ _ (by rw [h.c0])], co 1 _ (by omega) h.c1, fun k hk => co (2 + k) _ (by omega) (h.cs k hk), co 450 _ (by omega) h.c3, fun o => by rw [World.frozen?_setCell]; exact h.fr o,
    fun k hk => ownsRow_same (h.row k hk) (fun g e => bo g (fun c => h.pr k hk (by rw [e, c]))), h.apart, h.pr, h.mr, h.pm, ownsMap_same h.map (bo bm h.pm)⟩, ?_⟩
  exact ⟨rfl, rfl, rfl, by simp, fun g hgl hF => bo g (fun c => hF (.inl c))⟩
theorem Raw.setPut (h : Raw w p now put sv sl bm D) (n : Nat) : Raw (w.setCell ⟨p, 1, none⟩ (.int .i64 (n : Int))) p now n sv sl bm D ∧ Bf (Foot p sv bm) w (w.setCell ⟨p, 1, none⟩ (.int .i64 (n : Int))) := by
  have co : ∀ (o : Nat) (u : Value), o ≠ 1 → w.cell? ⟨p, o, none⟩ = some u → (w.setCell ⟨p, 1, none⟩ (.int .i64 (n : Int))).cell? ⟨p, o, none⟩ = some u := fun o u ho hc => by
    rw [World.cell?_setCell_other _ _ _ _ (fun q => ho (by injection q with q1 q2 q3; exact q2.symm)), hc]
  have bo : ∀ g, g ≠ p → (w.setCell ⟨p, 1, none⟩ (.int .i64 (n : Int))).heap[g]? = w.heap[g]? := fun g hg => Below.heap_setCell w ⟨p, 1, none⟩ _ g hg
  refine ⟨⟨co 0 _ (by omega) h.c0, by rw [World.cell?_setCell_same _ _ _ (by rw [h.c1])], fun k hk => co (2 + k) _ (by omega) (h.cs k hk), co 450 _ (by omega) h.c3, fun o => by rw [World.frozen?_setCell]; exact h.fr o,
    fun k hk => ownsRow_same (h.row k hk) (fun g e => bo g (fun c => h.pr k hk (by rw [e, c]))), h.apart, h.pr, h.mr, h.pm, ownsMap_same h.map (bo bm h.pm)⟩, ?_⟩
  exact ⟨rfl, rfl, rfl, by simp, fun g hgl hF => bo g (fun c => hF (.inl c))⟩
end
/-- What the map of deadlines says of timers. -/
structure Mp (D : DataW Unit) (l : List Tm) : Prop where
  has : ∀ n : Int, Maps.has D (.int .i64 n) = l.any fun t => decide ((t.n : Int) = n)
  at_ : ∀ t ∈ l, D.atKey (.int .i64 (t.n : Int)) (.lit (.int .i64 0)) = .lit (.int .i64 (t.a : Int))
  size : Maps.size D = l.length
theorem Mp.init : Mp (.map []) [] := ⟨fun _ => rfl, nofun, rfl⟩
theorem Mp.perm {D : DataW Unit} {l m : List Tm} (h : Mp D l) (k : l.Perm m) : Mp D m :=
  ⟨fun n => (h.has n).trans (by rw [Bool.eq_iff_iff, List.any_eq_true, List.any_eq_true]; exact ⟨fun ⟨x, hx, e⟩ => ⟨x, k.mem_iff.1 hx, e⟩, fun ⟨x, hx, e⟩ => ⟨x, k.mem_iff.2 hx, e⟩⟩), fun t ht => h.at_ t (k.mem_iff.2 ht), h.size.trans k.length_eq⟩
theorem key_ne {a b : Int} (h : a ≠ b) : (Lit.int .i64 a) ≠ (Lit.int .i64 b) := fun c => h (by injection c)
theorem Mp.put {D : DataW Unit} {l : List Tm} (h : Mp D l) (hD : Maps.Tidy D) {t : Tm} (ht : ∀ x ∈ l, x.n ≠ t.n) : Mp (D.put (.int .i64 (t.n : Int)) (.lit (.int .i64 (t.a : Int)))) (t :: l) := by
  have h0 : Maps.has D (.int .i64 (t.n : Int)) = false := by
    rw [h.has, List.any_eq_false]
    intro x hx
    have := ht x hx
    simp
    omega
  refine ⟨fun n => ?_, fun x hx => ?_, ?_⟩
  · rw [List.any_cons]
    by_cases e : (t.n : Int) = n
    · subst e
      rw [Maps.has_put_same hD.isMap (by trivial)]
      simp
    · rw [Maps.has_put_other (key_ne (Ne.symm e)), h.has]
      simp [e]
  · rcases List.mem_cons.1 hx with rfl | hx
    · exact Maps.atKey_put_same hD.isMap (by trivial) _ _
    · have := ht x hx
      rw [Maps.atKey_put_other (key_ne (by omega))]
      exact h.at_ x hx
  · rw [Maps.size_put hD, h0, h.size]
    simp
theorem strike_length : ∀ {l : List Tm}, (l.Pairwise fun x y => x.n ≠ y.n) → ∀ {t : Tm}, t ∈ l → (l.filter fun x => !decide ((x.n : Int) = t.n)).length + 1 = l.length
  | [], _, _, ht => by cases ht
  | y :: l, h, t, ht => by
    rw [List.pairwise_cons] at h
    by_cases e : y.n = t.n
    · have : (l.filter fun x => !decide ((x.n : Int) = t.n)) = l := by
        rw [List.filter_eq_self]
        intro x hx
        have := h.1 x hx
        simp
        omega
      simp [e, this]
    · rcases List.mem_cons.1 ht with rfl | ht
      · exact absurd rfl e
      · have ih := strike_length h.2 ht
        have e' : ¬ ((y.n : Int) = t.n) := by omega
        simp only [List.filter_cons, e', decide_false, Bool.not_false, if_true, List.length_cons]
        omega
theorem Mp.del {D : DataW Unit} {l : List Tm} (h : Mp D l) (hD : Maps.Tidy D) (hl : l.Pairwise fun x y => x.n ≠ y.n) {t : Tm} (ht : t ∈ l) : Mp (D.del (.int .i64 (t.n : Int))) (l.filter fun x => !decide ((x.n : Int) = t.n)) := by
  have h0 : Maps.has D (.int .i64 (t.n : Int)) = true := by
    rw [h.has, List.any_eq_true]
    exact ⟨t, ht, by simp⟩
  refine ⟨fun n => ?_, fun x hx => ?_, ?_⟩
  · by_cases e : (t.n : Int) = n
    · subst e
      rw [Maps.has_del_same]
      symm
      rw [List.any_eq_false]
      intro x hx
      simpa using (List.mem_filter.1 hx).2
    · rw [Maps.has_del_other (key_ne (Ne.symm e)), h.has, List.any_filter]
      refine congrArg l.any (funext fun x => ?_)
      by_cases q : (x.n : Int) = n
      · have : ¬ (x.n : Int) = t.n := by omega
        simp [q]
        omega
      · simp [q]
  · have := (List.mem_filter.1 hx).2
    simp at this
    rw [Maps.atKey_del_other (key_ne (by omega))]
    exact h.at_ x (List.mem_filter.1 hx).1
  · have h1 := Maps.size_del (k := .int .i64 (t.n : Int)) hD
    have h2 := strike_length hl ht
    rw [h0, h.size] at h1
    simp at h1
    omega
/-- A wheel at p, whose blocks are those of F. -/
def WAt (w : World) (p : Nat) (F : Nat → Prop) (s : St) : Prop := Ok s ∧ ∃ sv sl bm D, F = Foot p sv bm ∧ Sl s sl ∧ Mp D s.l ∧ Raw w p s.now s.many sv sl bm D
/-- What a call leaves. -/
def Stp (w : World) (p : Nat) (F : Nat → Prop) (s : St) (w' : World) : Prop := ∃ F', WAt w' p F' s ∧ Nx w F F' ∧ Bf F w w'
theorem WAt.lt {w : World} {p : Nat} {F : Nat → Prop} {s : St} (h : WAt w p F s) {g : Nat} (hg : F g) : g < w.heap.size := by
  obtain ⟨-, sv, sl, bm, D, rfl, -, -, hr⟩ := h
  exact hr.lt hg
theorem WAt.ok {w : World} {p : Nat} {F : Nat → Prop} {s : St} (h : WAt w p F s) : Ok s := h.1
theorem WAt.other {w w' : World} {p : Nat} {F G : Nat → Prop} {s : St} (h : WAt w p F s) (hb : Bf G w w') (hF : ∀ g, F g → ¬ G g) : WAt w' p F s := by
  obtain ⟨ho, sv, sl, bm, D, rfl, h1, h2, hr⟩ := h
  exact ⟨ho, sv, sl, bm, D, rfl, h1, h2, hr.other hb hF⟩
theorem WAt.later {w w' : World} {p : Nat} {F : Nat → Prop} {s : St} (h : WAt w p F s) (hb : Below w.heap.size w w') : WAt w' p F s := by
  obtain ⟨ho, sv, sl, bm, D, rfl, h1, h2, hr⟩ := h
  exact ⟨ho, sv, sl, bm, D, rfl, h1, h2, hr.later hb⟩
theorem WAt.stays {w w' : World} {p : Nat} {F : Nat → Prop} {s : St} (h : WAt w p F s) (hb : Below w.heap.size w w') : Stp w p F s w' := ⟨F, h.later hb, Nx.refl _ _, Bf.of hb⟩
theorem WAt.self {w : World} {p : Nat} {F : Nat → Prop} {s : St} (h : WAt w p F s) : F p := by
  obtain ⟨-, sv, sl, bm, D, rfl, -⟩ := h
  exact .inl rfl
end Go.Proofs.Ythnkkkiobbnpmaa
