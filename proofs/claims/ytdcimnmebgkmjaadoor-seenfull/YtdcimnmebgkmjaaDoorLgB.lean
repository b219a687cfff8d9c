/- Blocks of the call's own that hold a struct: laid, kept, stored whole, handed back. -/
import Derived.Test.YtdcimnmebgkmjaaDoorDkL1
import Derived.Test.YtdcimnmebgkmjaaDoorK9
import Derived.Test.YtdcimnmebgkmjaaDoorMlK
import Derived.Test.YtdcimnmebgkmjaaDoorLgN
namespace Go.Proofs.YtdcimnmebgkmjaaDoor
open Go.RowKit Go.Proofs.Fd Go.Proofs.Dk Go.Proofs.Lg
set_option maxRecDepth 20000

/-- Block b begins with these cells, and may be written. -/
structure Blk (w : World) (b : Nat) (cs : List Value) : Prop where
  r : w.rangeAt b 0 cs
  f : ∀ o, w.frozen? ⟨b, o, none⟩ = false
  n : cs ≠ []
theorem Blk.c {w : World} {b : Nat} {cs : List Value} (h : Blk w b cs) (j : Nat) (v : Value) (hv : cs[j]? = some v) : w.cell? ⟨b, j, none⟩ = some v := by
  have := h.r j v hv
  rw [Nat.zero_add] at this
  exact this
theorem Blk.lt {w : World} {b : Nat} {cs : List Value} (h : Blk w b cs) : b < w.heap.size := by
  obtain ⟨v, r, e⟩ := List.exists_cons_of_ne_nil h.n
  exact World.block_lt_of_cell? _ _ (h.c 0 v (by rw [e]; rfl))
theorem Blk.same {w w' : World} {b : Nat} {cs : List Value} (h : Blk w b cs) (hs : w'.heap[b]? = w.heap[b]?) : Blk w' b cs :=
  ⟨rangeAt_same h.r hs, fun o => (World.frozen?_of_block (a := ⟨b, o, none⟩) hs).trans (h.f o), h.n⟩
theorem Blk.below {w w' : World} {b B : Nat} {cs : List Value} (h : Blk w b cs) (hb : Below B w w') (hl : b < B) : Blk w' b cs := h.same (hb.block b hl)
theorem Blk.later {w w' : World} {b : Nat} {cs : List Value} (h : Blk w b cs) (hb : Below w.heap.size w w') : Blk w' b cs := h.same (hb.block b h.lt)
theorem Blk.bf {w w' : World} {b : Nat} {cs : List Value} (h : Blk w b cs) {F : Nat → Prop} (hb : Bf F w w') (hF : ¬ F b) : Blk w' b cs := h.same (hb.block b h.lt hF)
theorem Blk.new (w : World) (cs : List Value) (ty : TypeId) (hn : cs ≠ []) : Blk (w.alloc (.cells cs.toArray ty)) w.heap.size cs :=
  ⟨fun j v hv => by rw [Nat.zero_add, World.cell?_alloc_new]; simpa using hv, fun o => by simp [go_sem], hn⟩
theorem Blk.drew {w : World} {b : Nat} {cs : List Value} (h : Blk w b cs) : Blk w.drew b cs := ⟨by simpa using h.r, h.f, h.n⟩
theorem frozen_setCells (b : Nat) : ∀ (vs : List Value) (o : Nat) (w : World) (x : Addr), (w.setCells b o vs).frozen? x = w.frozen? x
  | [], _, _, _ => rfl
  | v :: vs, o, w, x => by rw [World.setCells, frozen_setCells b vs, World.frozen?_setCell]
theorem Blk.there {w : World} {b : Nat} {cs : List Value} (h : Blk w b cs) : w.there b 0 cs.length := fun j hj => ⟨h.r.isSome j hj, h.f _⟩
/-- All of it is stored anew. -/
theorem Blk.put {w : World} {b : Nat} {cs : List Value} (h : Blk w b cs) (vs : List Value) (hl : vs.length = cs.length) : Blk (w.setCells b 0 vs) b vs :=
  ⟨World.rangeAt_setCells_same w b 0 vs (by rw [hl]; exact h.there), fun o => (frozen_setCells b vs 0 w _).trans (h.f o), fun e => h.n (by rw [e] at hl; exact List.length_eq_zero_iff.1 hl.symm)⟩
/-- One cell of it. -/
theorem Blk.set {w : World} {b : Nat} {cs : List Value} (h : Blk w b cs) (i : Nat) (hi : i < cs.length) (v : Value) : Blk (w.setCell ⟨b, i, none⟩ v) b (cs.set i v) := by
  refine ⟨fun j u hu => ?_, fun o => by rw [World.frozen?_setCell]; exact h.f o, by simpa using h.n⟩
  rw [Nat.zero_add]
  by_cases e : j = i
  · subst e
    rw [List.getElem?_set_self hi] at hu
    rw [World.cell?_setCell_same _ _ _ (by rw [h.c j _ (List.getElem?_eq_getElem hi)]), hu]
  · rw [List.getElem?_set_ne (Ne.symm e)] at hu
    rw [World.cell?_setCell_other _ _ _ _ (fun q => e (by injection q with q1 q2 q3; exact q2.symm)), h.c j u hu]
theorem below_sets {w : World} {B b : Nat} (hb : B ≤ b) : ∀ (vs : List Value) (o : Nat) {w' : World}, Below B w w' → Below B w (w'.setCells b o vs)
  | [], _, _, h => h
  | v :: vs, o, _, h => below_sets hb vs (o + 1) (h.setCell (p := ⟨b, o, none⟩) hb v)
/-- A struct as a result. -/
theorem res_c1 {F : Func} {k : Nat} {T : TypeId} (hF : F.results = #[.cell k T]) (tmps : Array Value) (w : World) (b : Nat) (x : Value) (h0 : tmps.getD k undef = .pointer (some ⟨b, 0, none⟩))
    (l1 : (loadVar T ⟨b, 0, none⟩).run Tryd.prog w = .ok x w) : (results F tmps).run Tryd.prog w = .ok x w := by
  unfold results
  rw [hF]
  have h0' : tmps[k]?.getD undef = .pointer (some ⟨b, 0, none⟩) := by simpa using h0
  simp [h0', l1, asAddr]
theorem res_c2 {F : Func} {k j : Nat} {T : TypeId} (hF : F.results = #[.cell k T, .tmp j]) (tmps : Array Value) (w : World) (b : Nat) (x v : Value) (h0 : tmps.getD k undef = .pointer (some ⟨b, 0, none⟩)) (h1 : tmps.getD j undef = v)
    (l1 : (loadVar T ⟨b, 0, none⟩).run Tryd.prog w = .ok x w) : (results F tmps).run Tryd.prog w = .ok (.tuple #[x, v]) w := by
  unfold results
  rw [hF]
  have h0' : tmps[k]?.getD undef = .pointer (some ⟨b, 0, none⟩) := by simpa using h0
  have h1' : tmps[j]?.getD undef = v := by simpa using h1
  simp [h0', h1', l1, asAddr]
end Go.Proofs.YtdcimnmebgkmjaaDoor
