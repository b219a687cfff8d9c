/- A message is struck from those that wait. -/
import Derived.Test.YtdepjiocmbbdpaaDoorPtK
import Derived.Laws.Externs
import Derived.Shelf.SlicesE.DeleteFunc
namespace Go.Proofs.YtdepjiocmbbdpaaDoor
open Go.RowKit Go.Proofs.Fd Go.Proofs.Pt Go.Sort
set_option maxRecDepth 20000

/-- A block of cells, not an empty one. -/
def Ob (w : World) (b : Nat) : Prop := ∃ C e, w.heap[b]? = some (.cells C e (0, 0)) ∧ C.size ≠ 0
theorem Ob.same {w w' : World} {b : Nat} (h : Ob w b) (hs : w'.heap[b]? = w.heap[b]?) : Ob w' b := by obtain ⟨C, e, h1, h2⟩ := h; exact ⟨C, e, hs.trans h1, h2⟩
theorem MsgAt.ob {w : World} {b g : Nat} {x : Ms} (h : MsgAt w b g x) : Ob w b := by
  obtain ⟨C, e, hC⟩ := h.o
  refine ⟨C, e, hC, fun e0 => ?_⟩
  have c := h.f.2.2.2
  rw [cell_of_row w b 16 C e (0, 0) hC, Array.getElem?_eq_none (by omega)] at c
  cases c
theorem same_addr (b z : Nat) (w : World) (hb : Ob w b) (hz : Ob w z) : (sameAddr ⟨b, 0, none⟩ ⟨z, 0, none⟩).run Tryd.prog w = .ok (decide (b = z)) w := by
  by_cases h : b = z
  · subst h
    simp [sameAddr]
  · obtain ⟨C, e, hC, c0⟩ := hb
    obtain ⟨D, f, hD, d0⟩ := hz
    have hnb : (b == z) = false := by simpa using h
    have hsa : w.shape? b = some (e, C.size) := by simp [World.shape?, hC]
    have hsb : w.shape? z = some (f, D.size) := by simp [World.shape?, hD]
    have hfa : w.frozen? ⟨b, 0, none⟩ = false := by simp [World.frozen?, hC]
    have hfb : w.frozen? ⟨z, 0, none⟩ = false := by simp [World.frozen?, hD]
    have hfa' : w.frozen? ⟨b, C.size, none⟩ = false := by simp [World.frozen?, hC]
    have hfb' : w.frozen? ⟨z, D.size, none⟩ = false := by simp [World.frozen?, hD]
    simp [sameAddr, hnb, frozen, noView, viewAt, mayBeOne, stringish, shape, Sem.run, hsa, hsb, hfa, hfb, hfa', hfb', h]
theorem same_ptr (b z : Nat) (w : World) (hb : Ob w b) (hz : Ob w z) : (binOp .eql 79 (.pointer (some ⟨b, 0, none⟩)) (.pointer (some ⟨z, 0, none⟩))).run Tryd.prog w = .ok (.bool (decide (b = z))) w := by
  have zs : (Go.sizeOf 83).run Tryd.prog w = .ok 17 w := by kernel_rfl
  have r := same_addr b z w hb hz
  have e : (Op.equal 79 (.pointer (some ⟨b, 0, none⟩)) (.pointer (some ⟨z, 0, none⟩))).run Tryd.prog w = .ok (decide (b = z)) w := by
    show (Op.equalIn (9999 + 1) 79 (.pointer (some ⟨b, 0, none⟩)) (.pointer (some ⟨z, 0, none⟩))).run Tryd.prog w = _
    rw [Op.equalIn]
    simp [run_underlying Tryd.underlying79, zs, r]
  simp only [binOp]
  simp [e]
/-- Where the library's DeleteFunc lies, at rows of messages. -/
def dfAt : Go.Shelf.Ren := ⟨fun x => if x = 6 then 63 else if x = 10 then 52 else 0, fun x => if x = 0 then 0 else if x = 3 then 3 else if x = 4 then 4 else if x = 22 then 68 else if x = 23 then 79 else if x = 25 then 115 else 0, fun n => n⟩
theorem dfLies : SlLaysH.n10 Tryd.prog dfAt :=
  { mixed := by kernel_rfl, f6 := ⟨Tryd.f63.name, by kernel_rfl, by kernel_rfl⟩, f10 := ⟨Tryd.f52.name, by kernel_rfl, by kernel_rfl⟩, t0 := by kernel_rfl, a0 := fun _ => by kernel_rfl, z0 := fun _ => by kernel_rfl, v0 := fun _ => by kernel_rfl, t3 := by kernel_rfl, a3 := fun _ => by kernel_rfl, z3 := fun _ => by kernel_rfl, v3 := fun _ => by kernel_rfl, t4 := by kernel_rfl, a4 := fun _ => by kernel_rfl, z4 := fun _ => by kernel_rfl, v4 := fun _ => by kernel_rfl, t22 := by kernel_rfl, a22 := fun _ => by kernel_rfl, z22 := fun _ => by kernel_rfl, v22 := fun _ => by kernel_rfl, a23 := fun _ => by kernel_rfl, z23 := fun _ => by kernel_rfl, t25 := by kernel_rfl, a25 := fun _ => by kernel_rfl, z25 := fun _ => by kernel_rfl, v25 := fun _ => by kernel_rfl }

/-- Addresses of messages, or none. -/
abbrev Al (l : List Nat) := Option {z : Nat // z ∈ l}
def pe {l : List Nat} : Al l → Value
  | none => .pointer none
  | some z => .pointer (some ⟨z.1, 0, none⟩)
def pq {l : List Nat} (b : Nat) : Al l → Bool
  | none => false
  | some z => decide (b = z.1)
/-- What drop asks of each. -/
theorem gives_drop (l : List Nat) (b B : Nat) (y : Al l) (W : World) (hc : W.cell? ⟨B, 0, none⟩ = some (.pointer (some ⟨b, 0, none⟩))) (hb : Ob W b) (hl : ∀ z ∈ l, Ob W z) :
    FnGives Tryd.prog 53 #[.pointer (some ⟨B, 0, none⟩)] #[pe y] (.bool (pq b y)) W := by
  show Calls Tryd.prog 53 #[pe y, .pointer (some ⟨B, 0, none⟩)] W _
  cases y with
  | none =>
    unfold pe pq
    clear hb hl
    go_enter Tryd.func53, Tryd.ntmps53
    go_wp2
    go_ret
    exact ⟨rfl, 0, rfl⟩
  | some z =>
    have SP := same_ptr b z.1 W hb (hl z.1 z.2)
    obtain ⟨R, hR⟩ : ∃ R, decide (b = z.1) = R := ⟨_, rfl⟩
    have HR : pq b (some z) = R := hR
    rw [hR] at SP
    rw [HR]
    unfold pe
    clear hb hl hR HR
    go_enter Tryd.func53, Tryd.ntmps53
    go_wp2
    go_ret
    exact ⟨rfl, 0, rfl⟩
theorem putCells_take {α : Type} [Inhabited α] (enc : α → Value) (d : Array α) (cur : Array Value) (m : Nat) (h1 : m ≤ d.size) (h2 : d.size ≤ cur.size) : (putCells enc 0 d cur).toList.take m = (d.toList.take m).map enc := by
  apply List.ext_getElem?
  intro k
  rw [List.getElem?_take, List.getElem?_map, List.getElem?_take]
  by_cases hk : k < m
  · rw [if_pos hk, if_pos hk]
    have hk1 : k < cur.size := by omega
    have hk2 : k < d.size := by omega
    rw [Array.getElem?_toList, Array.getElem?_toList]
    simp only [putCells, Array.getElem?_mapIdx, Array.getElem?_eq_getElem hk1, Array.getElem?_eq_getElem hk2, Option.map_some]
    rw [if_pos ⟨Nat.zero_le _, by omega⟩, Nat.sub_zero, getElem!_pos d k hk2]
  · rw [if_neg hk, if_neg hk]; rfl
theorem putRow_obj {α : Type} [Inhabited α] (enc : α → Value) (w : World) (g q : Nat) (d : Array α) {C : Array Value} {e : TypeId} {fr : Nat × Nat} (h : w.heap[g]? = some (.cells C e fr)) : (putRow enc (Sort.ahead w q) g 0 d).heap[g]? = some (.cells (putCells enc 0 d C) e fr) := by
  unfold putRow mapBlock
  simp [Array.getElem?_modify, h, onCells]
theorem putRow_bf {α : Type} [Inhabited α] (enc : α → Value) (w : World) (g q : Nat) (d : Array α) : Bf (fun z => z = g) w (putRow enc (Sort.ahead w q) g 0 d) := by
  refine ⟨rfl, rfl, rfl, by simp, fun k _ hF => ?_⟩
  unfold putRow mapBlock
  simp only [Sort.heap_ahead, Array.getElem?_modify]
  rw [if_neg (fun e => hF e.symm)]
/-- One is struck from a row. -/
theorem del_any (l : List Nat) (g c b B : Nat) (w : World) (h : PRow w (.slice (some ⟨g, 0, none⟩) l.length c) l) (hB : w.cell? ⟨B, 0, none⟩ = some (.pointer (some ⟨b, 0, none⟩))) (hgB : B ≠ g) (hb : Ob w b) (hl : ∀ z ∈ l, Ob w z) (hgl : g ∉ l) (hgb : b ≠ g) :
    Calls Tryd.prog 52 #[.slice (some ⟨g, 0, none⟩) l.length c, .func (.func 53) #[] #[.pointer (some ⟨B, 0, none⟩)]] w fun e w' => e = .returned (.slice (some ⟨g, 0, none⟩) (l.filter fun z => decide (z ≠ b)).length c) ∧ PRow w' (.slice (some ⟨g, 0, none⟩) (l.filter fun z => decide (z ≠ b)).length c) (l.filter fun z => decide (z ≠ b)) ∧ Bf (fun z => z = g) w w' := by
  obtain ⟨h1, h2⟩ := h
  rcases h2 with ⟨h2, -⟩ | ⟨g', cap, cur, e, -, hg, hnc, hcm, hcs, htk⟩
  · cases h2
  simp only [Value.slice.injEq, Option.some.injEq, Addr.mk.injEq, true_and, and_true] at e
  obtain ⟨rfl, rfl⟩ := e
  have eg : ∀ args w, (callFunc 53 args).run Tryd.prog w = .ok (.enter 53 args) w := enters_of Tryd.func53 (by kernel_rfl) rfl
  obtain ⟨d, hd⟩ : ∃ d : Array (Al l), d = (l.attach.map some).toArray := ⟨_, rfl⟩
  have ds : d.size = l.length := by rw [hd]; simp
  have dg : ∀ j (hj : j < l.length), d[j]! = some ⟨l[j], List.getElem_mem hj⟩ := fun j hj => by
    rw [getElem!_pos d j (by omega)]; simp [hd]
  have blk : g < w.heap.size := (Array.getElem?_eq_some_iff.1 hg).1
  have hH : Holds (pe (l := l)) w g 0 d := fun j hj => by
    have hj' : j < l.length := by omega
    refine ⟨?_, by simp [World.frozen?, hg]⟩
    rw [dg j hj', Nat.zero_add, cell_of_row w g j cur _ (0, 0) hg]
    have := pcl_get l j hj'
    rw [← htk, List.getElem?_take, if_pos (by omega)] at this
    simpa [pe] using this
  have hp : PredAt Tryd.prog 53 #[.pointer (some ⟨B, 0, none⟩)] (pe (l := l)) (pq b) w := fun W x hW =>
    gives_drop l b B x W (cell_later hW hB) (hb.same (hW.block b (by obtain ⟨C, e, q, -⟩ := hb; exact (Array.getElem?_eq_some_iff.1 q).1))) (fun z hz => (hl z hz).same (hW.block z (by obtain ⟨C, e, q, -⟩ := hl z hz; exact (Array.getElem?_eq_some_iff.1 q).1)))
  have hpo : PredOver Tryd.prog 53 #[.pointer (some ⟨B, 0, none⟩)] (pe (l := l)) (pq b) g 0 d.size w := fun n os dk x _ => by
    have bfw : ∀ z, z < w.heap.size → z ≠ g → (sortWorld (pe (l := l)) w g 0 n dk os).heap[z]? = w.heap[z]? := fun z hz hne => by
      unfold sortWorld grow
      rw [Array.getElem?_append_left (by simpa using hz)]
      exact (putRow_bf (pe (l := l)) w g n dk).block z hz hne
    have lt : ∀ z, Ob w z → z < w.heap.size := fun z hz => by obtain ⟨C, e, q, -⟩ := hz; exact (Array.getElem?_eq_some_iff.1 q).1
    exact gives_drop l b B x _ ((World.cell?_of_block (a := ⟨B, 0, none⟩) (bfw B (World.block_lt_of_cell? _ _ hB) hgB)).trans hB) (hb.same (bfw b (lt b hb) hgb)) (fun z hz => (hl z hz).same (bfw z (lt z (hl z hz)) (fun e => hgl (e ▸ hz))))
  have hcon := AnyE.slices_DeleteFunc dfLies (pe (l := l)) (fun x => by cases x <;> rfl) (pq b) 53 #[.pointer (some ⟨B, 0, none⟩)] eg none (fun w => by kernel_rfl) g 0 c d w hp hpo hH (by unfold maxLen at hcm; omega) (by omega)
  have fe : ∀ m : List {z : Nat // z ∈ l}, ((m.map some).filter fun x : Al l => !pq b x) = (m.filter fun z => decide (z.1 ≠ b)).map some := fun m => by
    induction m with
    | nil => rfl
    | cons x m ih =>
      rw [List.map_cons, List.filter_cons, List.filter_cons, ih]
      by_cases hx : x.1 = b
      · simp [pq, hx]
      · have : ¬ b = x.1 := fun q => hx q.symm
        simp [pq, hx, this]
  have fv : ∀ m : List {z : Nat // z ∈ l}, (((m.filter fun z => decide (z.1 ≠ b)).map some).map (pe (l := l))) = pcl ((m.map Subtype.val).filter fun z => decide (z ≠ b)) := fun m => by
    induction m with
    | nil => rfl
    | cons x m ih =>
      by_cases hx : x.1 = b
      · simp only [List.filter_cons, List.map_cons, hx, ne_eq, not_true_eq_false, decide_false] at ih ⊢
        exact ih
      · simp only [List.filter_cons, List.map_cons, hx, ne_eq, not_false_eq_true, decide_true, if_true] at ih ⊢
        unfold pcl at ih ⊢
        rw [List.map_cons, ih]; rfl
  obtain ⟨r, hr⟩ : ∃ r : List (Al l), (d.toList.filter fun x => !pq b x) = r := ⟨_, rfl⟩
  have er : r.map (pe (l := l)) = pcl (l.filter fun z => decide (z ≠ b)) := by
    rw [← hr, hd, show ((l.attach.map some).toArray).toList = l.attach.map some from rfl, fe, fv, List.attach_map_subtype_val]
  have rl : r.length = (l.filter fun z => decide (z ≠ b)).length := by
    have := congrArg List.length er
    unfold pcl at this
    rw [List.length_map, List.length_map] at this; exact this
  have rle : r.length ≤ l.length := by rw [rl]; exact List.length_filter_le _ _
  rw [hr, rl, ds] at hcon
  refine Calls.mono hcon ?_
  rintro e w' ⟨rfl, q, rfl⟩
  refine ⟨rfl, ⟨by unfold pcl; rw [List.length_map, Nat.mul_one], .inr ⟨g, c, _, rfl, Nat.zero_le _, putRow_obj _ w g q _ hg, by omega, hcm, by unfold putCells; rw [Array.size_mapIdx]; exact hcs, ?_⟩⟩, putRow_bf _ w g q _⟩
  rw [Nat.mul_one, putCells_take _ _ _ _ (by rw [List.size_toArray, List.length_append, ← rl]; omega) (by rw [List.size_toArray, List.length_append, List.length_replicate]; omega)]
  rw [← er, ← rl]
  congr 1
  simp
end Go.Proofs.YtdepjiocmbbdpaaDoor
