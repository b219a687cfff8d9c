/- Blocks, footprints; the cells of ids, marks and parts. -/
import Derived.Test.YtdepjiocmbbdpaaDoorKB
import Derived.Test.YtdepjiocmbbdpaaDoorPtM
import Derived.Maps.OwnSet
import Derived.Laws.OwnMore
import Derived.Deep.MidRow
import Derived.Lib.LazyBuf
namespace Go.Proofs.YtdepjiocmbbdpaaDoor
open Go.RowKit Go.Proofs.Fd Go.Proofs.Pt
set_option maxRecDepth 20000

/-- Bytes as cells. -/
def bc (l : Bs) : List Value := l.map fun x => .int .u8 (x.toNat : Int)
theorem bc_len (l : Bs) : (bc l).length = l.length := List.length_map ..
theorem bc_one (l : Bs) : ∀ u ∈ bc l, u.oneCell' = true := fun u h => by
  obtain ⟨x, -, rfl⟩ := List.mem_map.1 h
  rfl
theorem bc_app (l m : Bs) : bc (l ++ m) = bc l ++ bc m := List.map_append ..
/-- All blocks stay but those of which F holds. -/
structure Bf (F : Nat → Prop) (w w' : World) : Prop where
  os : w'.os = w.os
  tape : w'.tape = w.tape
  output : w'.output = w.output
  size : w.heap.size ≤ w'.heap.size
  block : ∀ g, g < w.heap.size → ¬ F g → w'.heap[g]? = w.heap[g]?
theorem Bf.refl (F : Nat → Prop) (w : World) : Bf F w w := ⟨rfl, rfl, rfl, Nat.le_refl _, fun _ _ _ => rfl⟩
theorem Bf.of {F : Nat → Prop} {w w' : World} (h : Below w.heap.size w w') : Bf F w w' := ⟨h.os, h.tape, h.output, h.size, fun g hg _ => h.block g hg⟩
theorem Bf.below {F : Nat → Prop} {B : Nat} {w w' : World} (h : Bf F w w') (hF : ∀ g, F g → B ≤ g) (hB : B ≤ w.heap.size) : Below B w w' :=
  ⟨h.os, h.tape, h.output, h.size, fun g hg => h.block g (Nat.lt_of_lt_of_le hg hB) (fun c => absurd (hF g c) (Nat.not_le.2 hg))⟩
theorem Bf.grown {F : Nat → Prop} {row : Option Nat} {w w' : World} (k : w.grownBy w' row) (hr : ∀ g, row = some g → F g ∨ w.heap.size ≤ g) : Bf F w w' :=
  ⟨k.os, k.tape, k.output, k.size, fun g hg hF => k.block g hg (fun e => by rcases hr g e.symm with h | h; exact hF h; omega)⟩
/-- What comes of a footprint: what it had, and new blocks. -/
def Nx (w : World) (F F' : Nat → Prop) : Prop := ∀ g, F' g → F g ∨ w.heap.size ≤ g
theorem Nx.refl (w : World) (F : Nat → Prop) : Nx w F F := fun _ h => .inl h
theorem Nx.trans {w w' : World} {F F' F'' : Nat → Prop} (h : Nx w F F') (k : Nx w' F' F'') (hs : w.heap.size ≤ w'.heap.size) : Nx w F F'' := fun g hg => by
  rcases k g hg with h1 | h1
  · exact h g h1
  · exact .inr (Nat.le_trans hs h1)
theorem Bf.trans {F F' : Nat → Prop} {a b c : World} (h : Bf F a b) (n : Nx a F F') (k : Bf F' b c) : Bf F a c :=
  ⟨k.os.trans h.os, k.tape.trans h.tape, k.output.trans h.output, Nat.le_trans h.size k.size, fun g hg hF => (k.block g (Nat.lt_of_lt_of_le hg h.size) (fun c => by rcases n g c with h1 | h1; exact hF h1; omega)).trans (h.block g hg hF)⟩
theorem Bf.later {F : Nat → Prop} {a b c : World} (h : Bf F a b) (k : Below b.heap.size b c) : Bf F a c := h.trans (Nx.refl _ _) (Bf.of k)
theorem Bf.cell {F : Nat → Prop} {w w' : World} (h : Bf F w w') {a : Addr} {v : Value} (hc : w.cell? a = some v) (hF : ¬ F a.block) : w'.cell? a = some v :=
  (World.cell?_of_block (h.block a.block (World.block_lt_of_cell? _ _ hc) hF)).trans hc
theorem Bf.set (F : Nat → Prop) (w : World) (b o : Nat) (v : Value) (h : F b) : Bf F w (w.setCell ⟨b, o, none⟩ v) := ⟨rfl, rfl, rfl, by simp, fun g _ hF => Below.heap_setCell w ⟨b, o, none⟩ v g (fun e => hF (by rw [e]; exact h))⟩
theorem Bf.sets (F : Nat → Prop) (b : Nat) (h : F b) : ∀ (vs : List Value) (o : Nat) (w : World), Bf F w (w.setCells b o vs)
  | [], _, w => Bf.refl F w
  | v :: vs, o, w => by
    rw [World.setCells]
    exact (Bf.set F w b o v h).trans (Nx.refl _ _) (Bf.sets F b h vs _ _)
theorem Bf.put1 (w : World) (b o : Nat) (vs : List Value) : Bf (fun g => g = b) w (w.setCells b o vs) := Bf.sets (fun g => g = b) b rfl vs o w
theorem drew_size (w : World) : w.drew.heap.size = w.heap.size := rfl
theorem ownsRow_same {w w' : World} {e : TypeId} {size n : Nat} {v : Value} {xs : List Value} (h : w.ownsRow 0 e size v n xs) (hs : ∀ g, v.ownBlock = some g → w'.heap[g]? = w.heap[g]?) : w'.ownsRow 0 e size v n xs := by
  refine ⟨h.1, ?_⟩
  rcases h.2 with h1 | ⟨g, cap, cur, rfl, h2, h3, h4⟩
  · exact .inl h1
  · exact .inr ⟨g, cap, cur, rfl, h2, (hs g rfl).trans h3, h4⟩
theorem rangeAt_same {w w' : World} {b o : Nat} {cs : List Value} (h : w.rangeAt b o cs) (hs : w'.heap[b]? = w.heap[b]?) : w'.rangeAt b o cs := fun j v hv => (World.cell?_of_block (a := ⟨b, o + j, none⟩) hs).trans (h j v hv)
theorem there_same {w w' : World} {b o n : Nat} (h : w.there b o n) (hs : w'.heap[b]? = w.heap[b]?) : w'.there b o n := fun j hj => ⟨by rw [World.cell?_of_block (a := ⟨b, o + j, none⟩) hs]; exact (h j hj).1, (World.frozen?_of_block (a := ⟨b, o + j, none⟩) hs).trans (h j hj).2⟩
/-- Block b begins with these cells, and may be written. -/
structure Blk (w : World) (b : Nat) (cs : List Value) : Prop where
  r : w.rangeAt b 0 cs
  f : ∀ o, w.frozen? ⟨b, o, none⟩ = false
  n : cs ≠ []
theorem Blk.c {w : World} {b : Nat} {cs : List Value} (h : Blk w b cs) (j : Nat) (v : Value) (hv : cs[j]? = some v) : w.cell? ⟨b, j, none⟩ = some v := by
  have := h.r j v hv
  rw [Nat.zero_add] at this
  exact this
theorem Blk.lt {w : World} {b : Nat} {cs : List Value} (h : Blk w b cs) : b < w.heap.size := by
  obtain ⟨v, r, e⟩ := List.exists_cons_of_ne_nil h.n
  exact World.block_lt_of_cell? _ _ (h.c 0 v (by rw [e]; rfl))
theorem Blk.same {w w' : World} {b : Nat} {cs : List Value} (h : Blk w b cs) (hs : w'.heap[b]? = w.heap[b]?) : Blk w' b cs :=
  ⟨rangeAt_same h.r hs, fun o => (World.frozen?_of_block (a := ⟨b, o, none⟩) hs).trans (h.f o), h.n⟩
theorem Blk.below {w w' : World} {b B : Nat} {cs : List Value} (h : Blk w b cs) (hb : Below B w w') (hl : b < B) : Blk w' b cs := h.same (hb.block b hl)
theorem Blk.later {w w' : World} {b : Nat} {cs : List Value} (h : Blk w b cs) (hb : Below w.heap.size w w') : Blk w' b cs := h.same (hb.block b h.lt)
theorem Blk.bf {w w' : World} {b : Nat} {cs : List Value} (h : Blk w b cs) {F : Nat → Prop} (hb : Bf F w w') (hF : ¬ F b) : Blk w' b cs := h.same (hb.block b h.lt hF)
theorem Blk.new (w : World) (cs : List Value) (ty : TypeId) (hn : cs ≠ []) : Blk (w.alloc (.cells cs.toArray ty)) w.heap.size cs :=
  ⟨fun j v hv => by rw [Nat.zero_add, World.cell?_alloc_new]; simpa using hv, fun o => by simp [go_sem], hn⟩
theorem Blk.drew {w : World} {b : Nat} {cs : List Value} (h : Blk w b cs) : Blk w.drew b cs := ⟨by simpa using h.r, h.f, h.n⟩
theorem frozen_setCells (b : Nat) : ∀ (vs : List Value) (o : Nat) (w : World) (x : Addr), (w.setCells b o vs).frozen? x = w.frozen? x
  | [], _, _, _ => rfl
  | v :: vs, o, w, x => by rw [World.setCells, frozen_setCells b vs, World.frozen?_setCell]
theorem Blk.there {w : World} {b : Nat} {cs : List Value} (h : Blk w b cs) : w.there b 0 cs.length := fun j hj => ⟨h.r.isSome j hj, h.f _⟩
/-- All of it is stored anew. -/
theorem Blk.put {w : World} {b : Nat} {cs : List Value} (h : Blk w b cs) (vs : List Value) (hl : vs.length = cs.length) : Blk (w.setCells b 0 vs) b vs :=
  ⟨World.rangeAt_setCells_same w b 0 vs (by rw [hl]; exact h.there), fun o => (frozen_setCells b vs 0 w _).trans (h.f o), fun e => h.n (by rw [e] at hl; exact List.length_eq_zero_iff.1 hl.symm)⟩
/-- One cell of it. -/
theorem Blk.set {w : World} {b : Nat} {cs : List Value} (h : Blk w b cs) (i : Nat) (hi : i < cs.length) (v : Value) : Blk (w.setCell ⟨b, i, none⟩ v) b (cs.set i v) := by
  refine ⟨fun j u hu => ?_, fun o => by rw [World.frozen?_setCell]; exact h.f o, by simpa using h.n⟩
  rw [Nat.zero_add]
  by_cases e : j = i
  · subst e
    rw [List.getElem?_set_self hi] at hu
    rw [World.cell?_setCell_same _ _ _ (by rw [h.c j _ (List.getElem?_eq_getElem hi)]), hu]
  · rw [List.getElem?_set_ne (Ne.symm e)] at hu
    rw [World.cell?_setCell_other _ _ _ _ (fun q => e (by injection q with q1 q2 q3; exact q2.symm)), h.c j u hu]
theorem below_sets {w : World} {B b : Nat} (hb : B ≤ b) : ∀ (vs : List Value) (o : Nat) {w' : World}, Below B w w' → Below B w (w'.setCells b o vs)
  | [], _, _, h => h
  | v :: vs, o, _, h => below_sets hb vs (o + 1) (h.setCell (p := ⟨b, o, none⟩) hb v)
/-- A struct as a result. -/
theorem res_c1 {F : Func} {k : Nat} {T : TypeId} (hF : F.results = #[.cell k T]) (tmps : Array Value) (w : World) (b : Nat) (x : Value) (h0 : tmps.getD k undef = .pointer (some ⟨b, 0, none⟩))
    (l1 : (loadVar T ⟨b, 0, none⟩).run Tryd.prog w = .ok x w) : (results F tmps).run Tryd.prog w = .ok x w := by
  unfold results
  rw [hF]
  have h0' : tmps[k]?.getD undef = .pointer (some ⟨b, 0, none⟩) := by simpa using h0
  simp [h0', l1, asAddr]
theorem wp_load_run {P : Program} {o : Oper} {a : Act} {w : World} {K : Act → World → Prop} {Q : Exit → Act → World → Prop} (t : TypeId) (x : Operand) (ho : o.op = .load t x) (u : Value) (hu : a.eval x = u)
    (v : Value) (hr : (Instr.loadAt t u).run P w = .ok v w) (h : K (a.put o.dst v) w) : o.wp P a w K Q := by
  unfold Oper.wp execOp
  simp only [ho, hu, Sem.run_bind, hr, Result.andThen_ok]
  exact h
theorem wp_store_run {P : Program} {o : Oper} {a : Act} {w : World} {K : Act → World → Prop} {Q : Exit → Act → World → Prop} (t : TypeId) (x y : Operand) (ho : o.op = .store t x y) (u : Value) (hu : a.eval x = u) (z : Value) (hz : a.eval y = z)
    (w' : World) (hr : (Instr.storeAt t u z).run P w = .ok () w') (h : K (a.put o.dst undef) w') : o.wp P a w K Q := by
  unfold Oper.wp execOp
  simp only [ho, hu, hz, Sem.run_bind, hr, Result.andThen_ok]
  exact h
theorem wp_alloc_run {P : Program} {o : Oper} {a : Act} {w : World} {K : Act → World → Prop} {Q : Exit → Act → World → Prop} (t : TypeId) (ho : o.op = .alloc t)
    (v : Value) (w' : World) (hr : (Instr.alloc t true (.tuple #[])).run P w = .ok v w') (h : K (a.put o.dst v) w') : o.wp P a w K Q := by
  unfold Oper.wp execOp
  simp only [ho, Sem.run_bind, hr, Result.andThen_ok]
  exact h
theorem wp_box_run {P : Program} {o : Oper} {a : Act} {w : World} {K : Act → World → Prop} {Q : Exit → Act → World → Prop} (t : TypeId) (x : Operand) (ho : o.op = .box t x) (u : Value) (hu : a.eval x = u) (v : Value) (w' : World) (hr : (Instr.box t u).run P w = .ok v w') (h : K (a.put o.dst v) w') : o.wp P a w K Q := by
  unfold Oper.wp execOp
  simp only [ho, hu, Sem.run_bind, hr, Result.andThen_ok]
  exact h
theorem wp_build_run {P : Program} {o : Oper} {a : Act} {w : World} {K : Act → World → Prop} {Q : Exit → Act → World → Prop} (t : TypeId) (parts : Array (Nat × Operand)) (ho : o.op = .build t parts) (vs : Array (Nat × Value)) (hv : (parts.map fun (i, x) => (i, a.eval x)) = vs)
    (v : Value) (hr : (Instr.build t vs).run P w = .ok v w) (h : K (a.put o.dst v) w) : o.wp P a w K Q := by
  unfold Oper.wp execOp
  simp only [ho, hv, Sem.run_bind, hr, Result.andThen_ok]
  exact h

/-- A list of bytes as a string. -/
abbrev st (l : Bs) : ByteArray := ⟨l.toArray⟩
theorem st_size (l : Bs) : (st l).size = l.length := by simp [ByteArray.size]
theorem st_data (s : ByteArray) : st s.data.toList = s := by cases s; rfl
/-- The cells of a mark, of a part. -/
def mkc (m : Mk) : List Value := bc m.1 ++ (.int .i64 (m.2.1 : Int) :: bc m.2.2)
def pac (p : Pa) : List Value := mkc p.m ++ [.int .i64 (p.k : Int), .string (st p.p)]
/-- Ids have eight bytes, digests six. -/
structure Mk8 (m : Mk) : Prop where
  a : m.1.length = 8
  b : m.2.2.length = 6
theorem mkc_len {m : Mk} (h : Mk8 m) : (mkc m).length = 15 := by unfold mkc; rw [List.length_append, List.length_cons, bc_len, bc_len, h.a, h.b]
theorem pac_len {p : Pa} (h : Mk8 p.m) : (pac p).length = 17 := by unfold pac; rw [List.length_append, mkc_len h]; rfl
theorem mkc_one (m : Mk) : ∀ u ∈ mkc m, u.oneCell' = true := fun u h => by
  unfold mkc at h
  rw [List.mem_append, List.mem_cons] at h
  rcases h with h | rfl | h
  · exact bc_one _ u h
  · rfl
  · exact bc_one _ u h
theorem pac_one (p : Pa) : ∀ u ∈ pac p, u.oneCell' = true := fun u h => by
  unfold pac at h
  rw [List.mem_append] at h
  rcases h with h | h
  · exact mkc_one _ u h
  · simp only [List.mem_cons, List.not_mem_nil, or_false] at h
    rcases h with rfl | rfl <;> rfl
/-- Structs and arrays, loaded and stored whole. -/
theorem load_row {w : World} {b o n : Nat} {vs : List Value} (T : TypeId) {d : TypeDesc} (hu : Tryd.prog.underlying T = some d) (hd : d.isRow = true) (hs : (Tryd.prog.info? T).map (·.size) = some n) (h : w.rangeAt b o vs) (hl : vs.length = n) :
    (Instr.loadAt T (.pointer (some ⟨b, o, none⟩))).run Tryd.prog w = .ok (.agg vs.toArray) w :=
  run_loadAt_mid w b o T vs d h hu hd (by rw [hl]; exact hs)
theorem store_row {w : World} {b o n : Nat} {vs : List Value} (T : TypeId) (hs : (Tryd.prog.info? T).map (·.size) = some n) (h : w.there b o n) (hl : vs.length = n) (h1 : ∀ v ∈ vs, v.oneCell' = true) :
    (Instr.storeAt T (.pointer (some ⟨b, o, none⟩)) (.agg vs.toArray)).run Tryd.prog w = .ok () (w.setCells b o vs) := by
  have := run_storeAt_mid (P := Tryd.prog) w b o T vs.toArray (by rw [List.size_toArray, hl]; exact h) (by rw [List.size_toArray, hl]; exact hs) (by simpa using h1)
  exact this
theorem sizeName : (Tryd.prog.info? 57).map (·.size) = some 8 := by kernel_rfl
theorem sizeMark : (Tryd.prog.info? 60).map (·.size) = some 15 := by kernel_rfl
theorem sizePart : (Tryd.prog.info? 64).map (·.size) = some 17 := by kernel_rfl
theorem sizeMsg : (Tryd.prog.info? 83).map (·.size) = some 17 := by kernel_rfl
theorem sizeTold : (Tryd.prog.info? 36).map (·.size) = some 2 := by kernel_rfl
theorem load_name {w : World} {b o : Nat} {vs : List Value} (h : w.rangeAt b o vs) (hl : vs.length = 8) : (Instr.loadAt 57 (.pointer (some ⟨b, o, none⟩))).run Tryd.prog w = .ok (.agg vs.toArray) w :=
  load_row _ Tryd.underlying57 rfl sizeName h hl
theorem load_mark {w : World} {b o : Nat} {vs : List Value} (h : w.rangeAt b o vs) (hl : vs.length = 15) : (Instr.loadAt 60 (.pointer (some ⟨b, o, none⟩))).run Tryd.prog w = .ok (.agg vs.toArray) w :=
  load_row _ Tryd.underlying60 rfl sizeMark h hl
theorem load_part {w : World} {b o : Nat} {vs : List Value} (h : w.rangeAt b o vs) (hl : vs.length = 17) : (Instr.loadAt 64 (.pointer (some ⟨b, o, none⟩))).run Tryd.prog w = .ok (.agg vs.toArray) w :=
  load_row _ Tryd.underlying64 rfl sizePart h hl
/-- Parts of a range. -/
theorem range_left {w : World} {b o : Nat} {xs ys : List Value} (h : w.rangeAt b o (xs ++ ys)) : w.rangeAt b o xs := fun j v hv => h j v (by rw [List.getElem?_append_left (List.getElem?_eq_some_iff.1 hv).1]; exact hv)
theorem range_right {w : World} {b o : Nat} {xs ys : List Value} (h : w.rangeAt b o (xs ++ ys)) : w.rangeAt b (o + xs.length) ys := fun j v hv => by
  have := h (xs.length + j) v (by rw [List.getElem?_append_right (by omega), Nat.add_sub_cancel_left]; exact hv)
  rw [show o + xs.length + j = o + (xs.length + j) by omega]; exact this
theorem range_join {w : World} {b o : Nat} {xs ys : List Value} (h : w.rangeAt b o xs) (k : w.rangeAt b (o + xs.length) ys) : w.rangeAt b o (xs ++ ys) := fun j v hv => by
  by_cases hj : j < xs.length
  · rw [List.getElem?_append_left hj] at hv; exact h j v hv
  · rw [List.getElem?_append_right (by omega)] at hv
    have := k (j - xs.length) v hv
    rw [show o + xs.length + (j - xs.length) = o + j by omega] at this; exact this
theorem exec_load {P : Program} {ρ : Operand → Value} {u : Value} {w : World} {v : Value} {t : TypeId} (hr : (Instr.loadAt t u).run P w = .ok v w) (oi : Oper) (x : Operand) (hop : oi.op = .load t x) (hx : ρ x = u) : (execOp ρ oi).run P w = .ok (.value v) w := by
  unfold execOp
  simp only [hop, hx, Sem.run_bind, hr, Result.andThen_ok]
  rfl
theorem exec_build {P : Program} {ρ : Operand → Value} {vs : Array (Nat × Value)} {w : World} {v : Value} {t : TypeId} (hr : (Instr.build t vs).run P w = .ok v w) (oi : Oper) (parts : Array (Nat × Operand)) (hop : oi.op = .build t parts) (hx : (parts.map fun (i, x) => (i, ρ x)) = vs) : (execOp ρ oi).run P w = .ok (.value v) w := by
  unfold execOp
  simp only [hop, hx, Sem.run_bind, hr, Result.andThen_ok]
  rfl
/-- Zero values. -/
def zb (n : Nat) : Bs := List.replicate n 0
def m0 : Mk := (zb 8, 0, zb 6)
def p0 : Pa := ⟨m0, 0, []⟩
theorem m0_ok : Mk8 m0 := ⟨rfl, rfl⟩
theorem info2 {T : TypeId} {z : Value} {n : Nat} (h : (Tryd.prog.info? T).map (fun i => (i.zero, i.size)) = some (some z, n)) : ∃ i0, Tryd.prog.info? T = some i0 ∧ i0.zero = some z ∧ i0.size = n := by
  cases hq : Tryd.prog.info? T with
  | none => rw [hq] at h; cases h
  | some i0 =>
    rw [hq] at h
    simp only [Option.map_some, Option.some.injEq, Prod.mk.injEq] at h
    exact ⟨i0, rfl, h.1, h.2⟩
theorem infoMark : (Tryd.prog.info? 60).map (fun i => (i.zero, i.size)) = some (some (.agg (mkc m0).toArray), 15) := by kernel_rfl
theorem allocMark (w : World) : (Instr.alloc 60 true (.tuple #[])).run Tryd.prog w = .ok (.pointer (some ⟨w.heap.size, 0, none⟩)) (w.alloc (.cells (mkc m0).toArray 60)) := by
  obtain ⟨i0, hi, hz0, hz1⟩ := info2 infoMark
  simp [Instr.alloc, newVar, newRow, zeroValue, typeInfo, hi, hz0, Value.cells]
theorem infoPart : (Tryd.prog.info? 64).map (fun i => (i.zero, i.size)) = some (some (.agg (pac p0).toArray), 17) := by kernel_rfl
theorem allocPart (w : World) : (Instr.alloc 64 true (.tuple #[])).run Tryd.prog w = .ok (.pointer (some ⟨w.heap.size, 0, none⟩)) (w.alloc (.cells (pac p0).toArray 64)) := by
  obtain ⟨i0, hi, hz0, hz1⟩ := info2 infoPart
  simp [Instr.alloc, newVar, newRow, zeroValue, typeInfo, hi, hz0, Value.cells]
theorem list8 {vs : List Value} (h : vs.length = 8) : ∃ a0 a1 a2 a3 a4 a5 a6 a7, vs = [a0, a1, a2, a3, a4, a5, a6, a7] := by
  match vs, h with
  | [a0, a1, a2, a3, a4, a5, a6, a7], _ => exact ⟨_, _, _, _, _, _, _, _, rfl⟩
theorem list15 {vs : List Value} (h : vs.length = 15) : ∃ a0 a1 a2 a3 a4 a5 a6 a7 a8 a9 b0 b1 b2 b3 b4, vs = [a0, a1, a2, a3, a4, a5, a6, a7, a8, a9, b0, b1, b2, b3, b4] := by
  match vs, h with
  | [a0, a1, a2, a3, a4, a5, a6, a7, a8, a9, b0, b1, b2, b3, b4], _ => exact ⟨_, _, _, _, _, _, _, _, _, _, _, _, _, _, _, rfl⟩
theorem build_mark8 (a0 a1 a2 a3 a4 a5 a6 a7 : Value) (n : Int) (w : World) : (Instr.build 60 #[(0, .agg #[a0, a1, a2, a3, a4, a5, a6, a7]), (1, .int .i64 n)]).run Tryd.prog w = .ok (.agg #[a0, a1, a2, a3, a4, a5, a6, a7, .int .i64 n, .int .u8 0, .int .u8 0, .int .u8 0, .int .u8 0, .int .u8 0, .int .u8 0]) w := by kernel_rfl
theorem build_part15 (a0 a1 a2 a3 a4 a5 a6 a7 a8 a9 b0 b1 b2 b3 b4 : Value) (n : Int) (x : ByteArray) (w : World) : (Instr.build 64 #[(0, .agg #[a0, a1, a2, a3, a4, a5, a6, a7, a8, a9, b0, b1, b2, b3, b4]), (1, .int .i64 n), (2, .string x)]).run Tryd.prog w = .ok (.agg #[a0, a1, a2, a3, a4, a5, a6, a7, a8, a9, b0, b1, b2, b3, b4, .int .i64 n, .string x]) w := by kernel_rfl
/-- A mark without its digest, a part, put together. -/
theorem build_mark (i : Bs) (hi : i.length = 8) (n : Nat) (w : World) : (Instr.build 60 #[(0, .agg (bc i).toArray), (1, .int .i64 (n : Int))]).run Tryd.prog w = .ok (.agg (mkc (i, n, zb 6)).toArray) w := by
  unfold mkc
  have hl : (bc i).length = 8 := by rw [bc_len, hi]
  generalize bc i = vs at *
  obtain ⟨a0, a1, a2, a3, a4, a5, a6, a7, rfl⟩ := list8 hl
  exact build_mark8 a0 a1 a2 a3 a4 a5 a6 a7 _ w
theorem build_part (p : Pa) (h : Mk8 p.m) (w : World) : (Instr.build 64 #[(0, .agg (mkc p.m).toArray), (1, .int .i64 (p.k : Int)), (2, .string (st p.p))]).run Tryd.prog w = .ok (.agg (pac p).toArray) w := by
  unfold pac
  have hl := mkc_len h
  generalize mkc p.m = vs at *
  obtain ⟨a0, a1, a2, a3, a4, a5, a6, a7, a8, a9, b0, b1, b2, b3, b4, rfl⟩ := list15 hl
  exact build_part15 a0 a1 a2 a3 a4 a5 a6 a7 a8 a9 b0 b1 b2 b3 b4 _ _ w
theorem build_part0 (w : World) : (Instr.build 64 #[]).run Tryd.prog w = .ok (.agg (pac p0).toArray) w := by kernel_rfl
theorem mkc_ne (m : Mk) : mkc m ≠ [] := by unfold mkc; simp
theorem pac_ne (p : Pa) : pac p ≠ [] := by unfold pac; simp
theorem bc_ne {i : Bs} (h : i.length = 8) : bc i ≠ [] := fun e => by have := bc_len i; rw [e, h] at this; cases this
/-- The digest is laid into a mark. -/
theorem Blk.digest {w : World} {b : Nat} {i d d' : Bs} {n : Nat} (h : Blk w b (mkc (i, n, d'))) (hi : i.length = 8) (hd : d.length = 6) (hd' : d'.length = 6) : Blk (w.setCells b 9 (bc d)) b (mkc (i, n, d)) := by
  have hl : (bc i ++ [Value.int .i64 (n : Int)]).length = 9 := by rw [List.length_append, bc_len, hi]; rfl
  have e : ∀ x : Bs, mkc (i, n, x) = (bc i ++ [Value.int .i64 (n : Int)]) ++ bc x := fun x => by unfold mkc; simp
  have hr := h.r
  rw [e] at hr
  have r1 := range_left hr
  have th : w.there b 9 (bc d).length := fun j hj => by
    have hm : (mkc (i, n, d')).length = 15 := mkc_len ⟨hi, hd'⟩
    have := h.there (9 + j) (by rw [hm]; rw [bc_len, hd] at hj; omega)
    rw [Nat.zero_add] at this; exact this
  refine ⟨?_, fun o => (frozen_setCells b (bc d) 9 w _).trans (h.f o), mkc_ne _⟩
  rw [e]
  refine range_join (World.rangeAt_setCells_apart r1 b 9 (bc d) (.inr (.inl (by rw [hl]; exact Nat.le_refl _)))) ?_
  rw [hl]
  exact World.rangeAt_setCells_same w b 9 (bc d) th
theorem there_digest {w : World} {b : Nat} {m : Mk} (h : Blk w b (mkc m)) (hm : Mk8 m) : w.there b 9 6 := fun j hj => by
  have := h.there (9 + j) (by rw [mkc_len hm]; omega)
  rw [Nat.zero_add] at this; exact this
/-- copy(b, s): the first bytes, as many as fit. -/
theorem copy_str (w : World) (b o n cap : Nat) (s : ByteArray) (m : Nat) (hm : Nat.min s.size n = m) (h : w.there b o n) :
    (Builtin.copy_ #[54, 9] 3 #[.slice (some ⟨b, o, none⟩) n cap, .string s]).run Tryd.prog w = .ok (.int .i64 (m : Int)) (w.setCells b o (bc (s.data.toList.take m))) := by
  have hmn : m ≤ n := by rw [← hm]; exact Nat.min_le_right _ _
  have hms : m ≤ s.size := by rw [← hm]; exact Nat.min_le_left _ _
  have hl : ((s.data.toList.take m).map fun x => Value.int .u8 (x.toNat : Int)).length = m := by
    rw [List.length_map, List.length_take]
    have : s.data.toList.length = s.size := by simp
    omega
  have hst := run_storeCells_cells (P := Tryd.prog) b o ((s.data.toList.take m).map fun x => Value.int .u8 (x.toNat : Int)) 0 w
    (by rw [hl]; intro j hj; simpa using (h j (by omega)).1) (by rw [hl]; intro j hj; simpa using (h j (by omega)).2)
    (by intro v hv; obtain ⟨x, _, rfl⟩ := List.mem_map.1 hv; rfl)
  rw [Nat.add_zero] at hst
  unfold bc
  simp [Builtin.copy_, run_underlying Tryd.underlying54, Builtin.lenOf, Builtin.firstCells, hm]
  rw [← List.map_take, hst]
  rfl
end Go.Proofs.YtdepjiocmbbdpaaDoor
