/- The document's wheel in memory: a list in order. -/
import Derived.Test.YthnkkkiobbnpmaaWhI
namespace Go.Proofs.Ythnkkkiobbnpmaa
open Go.RowKit Go.Proofs.Fd Go.Proofs.Wh
set_option maxRecDepth 20000

/-- A timer's cells, as the document has them; a row of them. -/
def rc (t : Tm) : List Value := [.int .i64 (t.a : Int), .int .i64 t.i, .int .i64 (t.n : Int)]
def rcs : List Tm → List Value
  | [] => []
  | t :: l => rc t ++ rcs l
theorem rcs_app : ∀ l m : List Tm, rcs (l ++ m) = rcs l ++ rcs m
  | [], _ => rfl
  | t :: l, m => by rw [List.cons_append, rcs, rcs_app l m, rcs, List.append_assoc]
theorem rcs_len : ∀ l : List Tm, (rcs l).length = l.length * 3
  | [] => rfl
  | t :: l => by rw [rcs, List.length_append, rcs_len l, List.length_cons, rc]; simp; omega
theorem rcs_one : ∀ (l : List Tm), ∀ u ∈ rcs l, u.oneCell' = true
  | [], u, h => by cases h
  | t :: l, u, h => by
    rw [rcs, List.mem_append] at h
    rcases h with h | h
    · simp only [rc, List.mem_cons, List.not_mem_nil, or_false] at h
      rcases h with rfl | rfl | rfl <;> rfl
    · exact rcs_one l u h
theorem rcs_get : ∀ (l : List Tm) (i : Nat) (hi : i < l.length), (rcs l)[i * 3]? = some (.int .i64 (l[i].a : Int)) ∧ (rcs l)[i * 3 + 1]? = some (.int .i64 l[i].i) ∧ (rcs l)[i * 3 + 2]? = some (.int .i64 (l[i].n : Int))
  | [], i, hi => absurd hi (Nat.not_lt_zero _)
  | t :: l, 0, _ => ⟨rfl, rfl, rfl⟩
  | t :: l, i + 1, hi => by
    have ih := rcs_get l i (by simpa using hi)
    rw [show (i + 1) * 3 = i * 3 + 3 by omega]
    exact ih
theorem rcs_drop : ∀ (l : List Tm) (i : Nat), rcs (l.drop i) = (rcs l).drop (i * 3)
  | l, 0 => by simp
  | [], i + 1 => by simp [rcs]
  | t :: l, i + 1 => by
    rw [List.drop_succ_cons, rcs_drop l i, show (i + 1) * 3 = i * 3 + 3 by omega]
    rfl
theorem rcs_take : ∀ (l : List Tm) (i : Nat), rcs (l.take i) = (rcs l).take (i * 3)
  | l, 0 => by simp [rcs]
  | [], i + 1 => by simp [rcs]
  | t :: l, i + 1 => by
    rw [List.take_succ_cons, rcs, rcs_take l i, show (i + 1) * 3 = i * 3 + 3 by omega]
    rfl
abbrev OwnsR (w : World) (v : Value) (l : List Tm) : Prop := w.ownsRow 0 61 3 v l.length (rcs l)
theorem infoR : (Try.prog.info? 61).map (fun i => (i.zero, i.size, i.bytes)) = some (some (.agg #[.int .i64 0, .int .i64 0, .int .i64 0]), 3, 24) := by kernel_rfl
theorem ownsR_slice {w : World} {v : Value} {l : List Tm} (h : OwnsR w v l) : ∃ a n c, v = .slice a n c := by
  rcases h.2 with ⟨rfl, -⟩ | ⟨g, cap, cur, rfl, -⟩
  · exact ⟨_, _, _, rfl⟩
  · exact ⟨_, _, _, rfl⟩
/-- What an append takes. -/
def Src (w : World) (x : Value) (l : List Tm) : Prop := (x = .slice none 0 0 ∧ l = []) ∨ ∃ g o c, x = .slice (some ⟨g, o, none⟩) l.length c ∧ ∀ j u, (rcs l)[j]? = some u → w.cell? ⟨g, o + j, none⟩ = some u
theorem Src.later {w w' : World} {x : Value} {l : List Tm} (h : Src w x l) (hb : Below w.heap.size w w') : Src w' x l := by
  rcases h with h | ⟨g, o, c, h1, h2⟩
  · exact .inl h
  · exact .inr ⟨g, o, c, h1, fun j u hu => cell_later hb (h2 j u hu)⟩
theorem app_src (w : World) (ty : TypeId) (v x : Value) (l m : List Tm) (h : OwnsR w v l) (k : Src w x m) (hl : l.length + m.length ≤ 8193) :
    ∃ va vn vc w', (Builtin.append_ #[26, 26] ty #[v, x]).run Try.prog w = .ok (.slice va vn vc) w' ∧ OwnsR w' (.slice va vn vc) (l ++ m) ∧ w.grownBy w' v.ownBlock ∧ ((Value.slice va vn vc).ownBlock = v.ownBlock ∨ (Value.slice va vn vc).ownBlock = some w.heap.size) := by
  obtain ⟨i0, hi, hz0, hz1, hz2⟩ := info_parts infoR
  rcases k with ⟨rfl, rfl⟩ | ⟨g, o, c, rfl, hc⟩
  · obtain ⟨va, vn, vc, rfl⟩ := ownsR_slice h
    refine ⟨va, vn, vc, w, run_append_owned_none (P := Try.prog) w 0 26 ty 61 i0 3 Try.underlying26 hi _ _ _ h, by rw [List.append_nil]; exact h, ⟨rfl, rfl, rfl, Nat.le_refl _, fun _ _ _ => rfl⟩, .inl rfl⟩
  · obtain ⟨v', w', r1, r2, r3, -, r5⟩ := run_append_own_at (P := Try.prog) w 0 26 ty 61 i0 _ 3 24 Try.underlying26 hi hz0 hz1 hz2 rfl (by decide) v l.length (rcs l) h ⟨g, o, none⟩ m.length c (rcs m) (rcs_len m) (fun j u hu => by
        have q : Addr.add ⟨g, o, none⟩ j = ⟨g, o + j, none⟩ := by first | (simp [Addr.add]; done) | (simp [Addr.add]; intro h; simp [h])
        rw [q]
        exact hc j u hu) (rcs_one m) (by unfold maxLen; omega) (by omega) (Nat.zero_le _)
    have r2' : OwnsR w' v' (l ++ m) := by
      unfold OwnsR
      rw [rcs_app, List.length_append]
      exact r2
    obtain ⟨va, vn, vc, rfl⟩ := ownsR_slice r2'
    exact ⟨va, vn, vc, w', r1, r2', r3, r5⟩
theorem ownsR_cells {w : World} {g n c : Nat} {l : List Tm} (h : OwnsR w (.slice (some ⟨g, 0, none⟩) n c) l) : ∀ j u, (rcs l)[j]? = some u → w.cell? ⟨g, j, none⟩ = some u := fun j u hu => by
  have hj : j < l.length * 3 := by have := (List.getElem?_eq_some_iff.1 hu).1; rw [rcs_len] at this; exact this
  rcases h.2 with ⟨h1, -⟩ | ⟨g', cap', cur, h1, -⟩
  · cases h1
  · have h1' := h1
    injection h1' with e1 e2 e3
    subst e2
    rw [h.cellAt j hj]
    exact hu
/-- A row's beginning, and what is behind it. -/
theorem sub_head (w : World) (v : Value) (l : List Tm) (h : OwnsR w v l) (i : Nat) (hi : i ≤ l.length) : ∃ x, (∀ W, (Instr.slice 26 v none (some (.int .i64 (i : Int))) none).run Try.prog W = .ok x W) ∧ Src w x (l.take i) := by
  rcases h.2 with ⟨rfl, hl⟩ | ⟨g, cap, cur, rfl, -, hb, hc, -⟩
  · obtain rfl := List.length_eq_zero_iff.1 hl
    obtain rfl : i = 0 := by simpa using hi
    exact ⟨.slice none 0 0, fun W => by simp [go_sem], .inl ⟨rfl, rfl⟩⟩
  · refine ⟨.slice (some ⟨g, 0, none⟩) i cap, fun W => ?_, .inr ⟨g, 0, cap, by rw [List.length_take, Nat.min_eq_left hi], fun j u hu => ?_⟩⟩
    · have h1 : (i : Int) ≤ (cap : Int) := by omega
      simp [go_sem, h1]
    · rw [Nat.zero_add]
      rw [rcs_take] at hu
      exact ownsR_cells h j u (by
        have hj : j < i * 3 := by
          have := (List.getElem?_eq_some_iff.1 hu).1
          rw [List.length_take] at this
          omega
        rw [List.getElem?_take_of_lt hj] at hu
        exact hu)
theorem sub_tail (w : World) (v : Value) (l : List Tm) (h : OwnsR w v l) (i : Nat) (hi : i ≤ l.length) : ∃ x, (∀ W, (Instr.slice 26 v (some (.int .i64 (i : Int))) none none).run Try.prog W = .ok x W) ∧ Src w x (l.drop i) := by
  rcases h.2 with ⟨rfl, hl⟩ | ⟨g, cap, cur, rfl, -, hb, hc, -⟩
  · obtain rfl := List.length_eq_zero_iff.1 hl
    obtain rfl : i = 0 := by simpa using hi
    exact ⟨.slice none 0 0, fun W => by simp [go_sem], .inl ⟨rfl, rfl⟩⟩
  · have h1 : (i : Int) ≤ (l.length : Int) := by omega
    by_cases q : cap = i
    · have hl : l.length = i := by omega
      refine ⟨.slice (some ⟨g, 0, none⟩) (l.length - i) (cap - i), fun W => ?_, .inr ⟨g, 0, cap - i, by rw [List.length_drop], fun j u hu => ?_⟩⟩
      · simp [go_sem, h1, q]
      · rw [List.drop_of_length_le (by omega)] at hu
        simp [rcs] at hu
    · refine ⟨.slice (some ⟨g, i * 3, none⟩) (l.length - i) (cap - i), fun W => ?_, .inr ⟨g, i * 3, cap - i, by rw [List.length_drop], fun j u hu => ?_⟩⟩
      · simp [go_sem, h1, q]
      · rw [rcs_drop, List.getElem?_drop] at hu
        exact ownsR_cells h _ u hu
/-- The document's wheel at d. -/
structure DAt (w : World) (d : Nat) (v : Value) (s : St) : Prop where
  c0 : w.cell? ⟨d, 0, none⟩ = some v
  c1 : w.cell? ⟨d, 1, none⟩ = some (.int .i64 (s.now : Int))
  c2 : w.cell? ⟨d, 2, none⟩ = some (.int .i64 (s.many : Int))
  fr : ∀ o, w.frozen? ⟨d, o, none⟩ = false
  row : OwnsR w v s.l
  ap : v.ownBlock ≠ some d
theorem DAt.lt {w : World} {d : Nat} {v : Value} {s : St} (h : DAt w d v s) : d < w.heap.size := World.block_lt_of_cell? _ _ h.c0
theorem DAt.same {w w' : World} {d : Nat} {v : Value} {s : St} (h : DAt w d v s) (e1 : w'.heap[d]? = w.heap[d]?) (e2 : ∀ g, v.ownBlock = some g → w'.heap[g]? = w.heap[g]?) : DAt w' d v s :=
  ⟨(World.cell?_of_block (a := ⟨d, 0, none⟩) e1).trans h.c0, (World.cell?_of_block (a := ⟨d, 1, none⟩) e1).trans h.c1, (World.cell?_of_block (a := ⟨d, 2, none⟩) e1).trans h.c2, fun o => (World.frozen?_of_block (a := ⟨d, o, none⟩) e1).trans (h.fr o), ownsRow_same h.row e2, h.ap⟩
theorem DAt.later {w w' : World} {d : Nat} {v : Value} {s : St} (h : DAt w d v s) (hb : Below w.heap.size w w') : DAt w' d v s := h.same (hb.block d h.lt) (fun g e => hb.block g (h.row.lt g e).2)
theorem DAt.other {w w' : World} {d : Nat} {v : Value} {s : St} {F : Nat → Prop} (h : DAt w d v s) (hb : Bf F w w') (h1 : ¬ F d) (h2 : ∀ g, v.ownBlock = some g → ¬ F g) : DAt w' d v s := h.same (hb.block d h.lt h1) (fun g e => hb.block g (h.row.lt g e).2 (h2 g e))
/-- Its list is another one, in a row of its own. -/
theorem DAt.put {w w1 : World} {d : Nat} {v : Value} {s : St} (h : DAt w d v s) (e1 : w1.heap[d]? = w.heap[d]?) {u : Value} {l : List Tm} (ho : OwnsR w1 u l) (hu : u.ownBlock ≠ some d) : DAt (w1.setCell ⟨d, 0, none⟩ u) d u ⟨s.now, s.many, l⟩ := by
  have ck : w1.cell? ⟨d, 0, none⟩ = some v := (World.cell?_of_block (a := ⟨d, 0, none⟩) e1).trans h.c0
  have co : ∀ (o : Nat) (x : Value), o ≠ 0 → w.cell? ⟨d, o, none⟩ = some x → (w1.setCell ⟨d, 0, none⟩ u).cell? ⟨d, o, none⟩ = some x := fun o x ho hc => by
    rw [World.cell?_setCell_other _ _ _ _ (fun q => ho (by injection q with q1 q2 q3; exact q2.symm)), World.cell?_of_block (a := ⟨d, o, none⟩) e1, hc]
  refine ⟨by rw [World.cell?_setCell_same _ _ _ (by rw [ck])], co 1 _ (by omega) h.c1, co 2 _ (by omega) h.c2, fun o => ?_, ownsRow_same ho (fun g e => ?_), fun c => ?_⟩
  · rw [World.frozen?_setCell, World.frozen?_of_block (a := ⟨d, o, none⟩) e1]
    exact h.fr o
  · exact Below.heap_setCell w1 ⟨d, 0, none⟩ u g (fun c => hu (by rw [e, c]))
  · exact hu c
theorem DAt.now {w : World} {d : Nat} {v : Value} {s : St} (h : DAt w d v s) (n : Nat) : DAt (w.setCell ⟨d, 1, none⟩ (.int .i64 (n : Int))) d v ⟨n, s.many, s.l⟩ := by
  have co : ∀ (o : Nat) (x : Value), o ≠ 1 → w.cell? ⟨d, o, none⟩ = some x → (w.setCell ⟨d, 1, none⟩ (.int .i64 (n : Int))).cell? ⟨d, o, none⟩ = some x := fun o x ho hc => by
    rw [World.cell?_setCell_other _ _ _ _ (fun q => ho (by injection q with q1 q2 q3; exact q2.symm)), hc]
  exact ⟨co 0 _ (by omega) h.c0, by rw [World.cell?_setCell_same _ _ _ (by rw [h.c1])], co 2 _ (by omega) h.c2, fun o => by rw [World.frozen?_setCell]; exact h.fr o, ownsRow_same h.row (fun g e => Below.heap_setCell w ⟨d, 1, none⟩ _ g (fun c => h.ap (by rw [e, c]))), h.ap⟩
theorem DAt.many {w : World} {d : Nat} {v : Value} {s : St} (h : DAt w d v s) (n : Nat) : DAt (w.setCell ⟨d, 2, none⟩ (.int .i64 (n : Int))) d v ⟨s.now, n, s.l⟩ := by
  have co : ∀ (o : Nat) (x : Value), o ≠ 2 → w.cell? ⟨d, o, none⟩ = some x → (w.setCell ⟨d, 2, none⟩ (.int .i64 (n : Int))).cell? ⟨d, o, none⟩ = some x := fun o x ho hc => by
    rw [World.cell?_setCell_other _ _ _ _ (fun q => ho (by injection q with q1 q2 q3; exact q2.symm)), hc]
  exact ⟨co 0 _ (by omega) h.c0, co 1 _ (by omega) h.c1, by rw [World.cell?_setCell_same _ _ _ (by rw [h.c2])], fun o => by rw [World.frozen?_setCell]; exact h.fr o, ownsRow_same h.row (fun g e => Below.heap_setCell w ⟨d, 2, none⟩ _ g (fun c => h.ap (by rw [e, c]))), h.ap⟩
/-- What a call leaves of the document's wheel. -/
def DSt (w : World) (d : Nat) (v : Value) (s : St) (w' : World) : Prop := ∃ u, DAt w' d u s ∧ (∀ g, u.ownBlock = some g → v.ownBlock = some g ∨ w.heap.size ≤ g) ∧ Bf (fun g => g = d) w w'
theorem own_unlike {w : World} {x v : Value} {l : List Int} {m : List Tm} (h : OwnsI w x l) (k : OwnsR w v m) {g : Nat} (e : x.ownBlock = some g) : v.ownBlock ≠ some g := fun c => by
  rcases h.2 with ⟨rfl, -⟩ | ⟨g1, c1, cur1, rfl, -, b1, -⟩
  · cases e
  · rcases k.2 with ⟨rfl, -⟩ | ⟨g2, c2, cur2, rfl, -, b2, -⟩
    · cases c
    · injection e with e
      injection c with c
      simp only at e c
      rw [e] at b1
      rw [c, b1] at b2
      injection b2 with b3
      injection b3 with b4 b5 b6
      exact absurd b5 (by decide)
/-- The document's list, as a value. -/
theorem DAt.val {w : World} {d : Nat} {v : Value} {s : St} (h : DAt w d v s) : ∃ va vc, v = .slice va s.l.length vc ∧ ∀ i (hi : i < s.l.length), ∃ g, va = some ⟨g, 0, none⟩ ∧ w.cell? ⟨g, i * 3, none⟩ = some (.int .i64 (s.l[i].a : Int)) ∧ w.cell? ⟨g, i * 3 + 1, none⟩ = some (.int .i64 s.l[i].i) ∧ w.cell? ⟨g, i * 3 + 2, none⟩ = some (.int .i64 (s.l[i].n : Int)) := by
  have hr := h.row
  rcases hr.2 with ⟨e, hl⟩ | ⟨g, cap, cur, e, -⟩
  · have hl' := List.length_eq_zero_iff.1 hl
    exact ⟨none, 0, by rw [e, hl']; rfl, fun i hi => absurd hi (by omega)⟩
  · refine ⟨some ⟨g, 0, none⟩, cap, e, fun i hi => ⟨g, rfl, ?_⟩⟩
    rw [e] at hr
    obtain ⟨a1, a2, a3⟩ := rcs_get s.l i hi
    exact ⟨ownsR_cells hr _ _ a1, ownsR_cells hr _ _ a2, ownsR_cells hr _ _ a3⟩
end Go.Proofs.Ythnkkkiobbnpmaa
