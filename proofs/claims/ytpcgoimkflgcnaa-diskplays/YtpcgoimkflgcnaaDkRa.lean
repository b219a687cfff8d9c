/- The document's disk in memory: what is safe, and the writes that wait. -/
import Derived.Test.YtpcgoimkflgcnaaDkL1
namespace Go.Proofs.Ytpcgoimkflgcnaa
open Go.RowKit Go.Proofs.Fd Go.Proofs.Dk
set_option maxRecDepth 20000

/-- A write's cells, as the document has them; a row of them. -/
def dc (x : Wt) : List Value := [.int .i64 (x.k : Int), sv x.b]
def dcs : List Wt → List Value
  | [] => []
  | x :: l => dc x ++ dcs l
theorem dcs_app : ∀ l m : List Wt, dcs (l ++ m) = dcs l ++ dcs m
  | [], _ => rfl
  | t :: l, m => by rw [List.cons_append, dcs, dcs_app l m, dcs, List.append_assoc]
theorem dcs_len : ∀ l : List Wt, (dcs l).length = l.length * 2
  | [] => rfl
  | t :: l => by rw [dcs, List.length_append, dcs_len l, List.length_cons, dc]; simp; omega
theorem dcs_one : ∀ (l : List Wt), ∀ u ∈ dcs l, u.oneCell' = true
  | [], u, h => by cases h
  | t :: l, u, h => by
    rw [dcs, List.mem_append] at h
    rcases h with h | h
    · simp only [dc, List.mem_cons, List.not_mem_nil, or_false] at h
      rcases h with rfl | rfl <;> rfl
    · exact dcs_one l u h
theorem dcs_get : ∀ (l : List Wt) (i : Nat) (hi : i < l.length), (dcs l)[i * 2]? = some (.int .i64 (l[i].k : Int)) ∧ (dcs l)[i * 2 + 1]? = some (sv l[i].b)
  | [], i, hi => absurd hi (Nat.not_lt_zero _)
  | t :: l, 0, _ => ⟨rfl, rfl⟩
  | t :: l, i + 1, hi => by
    have ih := dcs_get l i (by simpa using hi)
    rw [show (i + 1) * 2 = i * 2 + 2 by omega]
    exact ih
abbrev OwnsD (w : World) (v : Value) (l : List Wt) : Prop := w.ownsRow 0 68 2 v l.length (dcs l)
theorem infoD : (Try.prog.info? 68).map (fun i => (i.zero, i.size, i.bytes)) = some (some (.agg #[.int .i64 0, .string ⟨#[]⟩]), 2, 24) := by kernel_rfl
theorem ownsD_slice {w : World} {v : Value} {l : List Wt} (h : OwnsD w v l) : ∃ a c, v = .slice a l.length c := by
  rcases h.2 with ⟨rfl, h2⟩ | ⟨g, cap, cur, rfl, -⟩
  · exact ⟨_, _, by rw [h2]⟩
  · exact ⟨_, _, rfl⟩
theorem ownsD_cells {w : World} {va : Option Addr} {n c : Nat} {l : List Wt} (h : OwnsD w (.slice va n c) l) (i : Nat) (hi : i < l.length) : ∃ g, va = some ⟨g, 0, none⟩ ∧ (Value.slice va n c).ownBlock = some g ∧ w.cell? ⟨g, i * 2, none⟩ = some (.int .i64 (l[i].k : Int)) ∧ w.cell? ⟨g, i * 2 + 1, none⟩ = some (sv l[i].b) := by
  rcases h.2 with ⟨h1, h2⟩ | ⟨g, cap, cur, h1, -⟩
  · omega
  · have h1' := h1
    injection h1' with e1 e2 e3
    subst e1
    subst e2
    obtain ⟨a1, a2⟩ := dcs_get l i hi
    exact ⟨g, rfl, rfl, by rw [h.cellAt _ (by omega), a1], by rw [h.cellAt _ (by omega), a2]⟩
/-- Texts that lie in a row, and may be written. -/
structure SRow (w : World) (g n : Nat) (f : Nat → Bs) : Prop where
  c : ∀ k, k < n → w.cell? ⟨g, k, none⟩ = some (sv (f k))
  fr : ∀ k, w.frozen? ⟨g, k, none⟩ = false
theorem SRow.same {w w' : World} {g n : Nat} {f : Nat → Bs} (h : SRow w g n f) (e : w'.heap[g]? = w.heap[g]?) : SRow w' g n f := ⟨fun k hk => (World.cell?_of_block (a := ⟨g, k, none⟩) e).trans (h.c k hk), fun k => (World.frozen?_of_block (a := ⟨g, k, none⟩) e).trans (h.fr k)⟩
theorem SRow.set {w : World} {g n : Nat} {f : Nat → Bs} (h : SRow w g n f) (k : Nat) (b : Bs) : SRow (w.setCell ⟨g, k, none⟩ (sv b)) g n (upd f k b) := by
  refine ⟨fun j hj => ?_, fun j => by rw [World.frozen?_setCell]; exact h.fr j⟩
  unfold upd
  split
  · rename_i e
    subst e
    rw [World.cell?_setCell_same _ _ _ (by rw [h.c j hj])]
  · rename_i e
    rw [World.cell?_setCell_other _ _ _ _ (fun q => e (by injection q with q1 q2 q3; exact q2.symm)), h.c j hj]
/-- The document's disk's parts. -/
structure DRaw (w : World) (d n : Nat) (dn : Bool) (fu : Nat) (f : Nat → Bs) (l : List Wt) (sg sc : Nat) (v : Value) : Prop where
  c0 : w.cell? ⟨d, 0, none⟩ = some (.slice (some ⟨sg, 0, none⟩) n sc)
  c1 : w.cell? ⟨d, 1, none⟩ = some v
  c2 : w.cell? ⟨d, 2, none⟩ = some (.int .i64 (fu : Int))
  c3 : w.cell? ⟨d, 3, none⟩ = some (.bool dn)
  c4 : w.cell? ⟨d, 4, none⟩ = some (.int .i64 (n : Int))
  fr : ∀ o, w.frozen? ⟨d, o, none⟩ = false
  sr : SRow w sg n f
  row : OwnsD w v l
  ds : sg ≠ d
  dv : v.ownBlock ≠ some d
  sv : v.ownBlock ≠ some sg
  n1 : 1 ≤ n
def DFoot (d sg : Nat) (v : Value) (g : Nat) : Prop := g = d ∨ g = sg ∨ v.ownBlock = some g
section
variable {w : World} {d n : Nat} {dn : Bool} {fu : Nat} {f : Nat → Bs} {l : List Wt} {sg sc : Nat} {v : Value}
theorem DRaw.lt (h : DRaw w d n dn fu f l sg sc v) {g : Nat} (hg : DFoot d sg v g) : g < w.heap.size := by
  rcases hg with rfl | rfl | e
  · exact World.block_lt_of_cell? _ _ h.c0
  · exact World.block_lt_of_cell? _ _ (h.sr.c 0 h.n1)
  · exact (h.row.lt g e).2
theorem DRaw.same (h : DRaw w d n dn fu f l sg sc v) {w' : World} (hs : ∀ g, DFoot d sg v g → w'.heap[g]? = w.heap[g]?) : DRaw w' d n dn fu f l sg sc v := by
  have hp : w'.heap[d]? = w.heap[d]? := hs d (.inl rfl)
  have cp : ∀ (o : Nat), w'.cell? ⟨d, o, none⟩ = w.cell? ⟨d, o, none⟩ := fun o => World.cell?_of_block (a := ⟨d, o, none⟩) hp
  exact ⟨(cp 0).trans h.c0, (cp 1).trans h.c1, (cp 2).trans h.c2, (cp 3).trans h.c3, (cp 4).trans h.c4, fun o => (World.frozen?_of_block (a := ⟨d, o, none⟩) hp).trans (h.fr o), h.sr.same (hs sg (.inr (.inl rfl))),
    ownsRow_same h.row (fun g e => hs g (.inr (.inr e))), h.ds, h.dv, h.sv, h.n1⟩
theorem DRaw.later (h : DRaw w d n dn fu f l sg sc v) {w' : World} (hb : Below w.heap.size w w') : DRaw w' d n dn fu f l sg sc v := h.same fun g hg => hb.block g (h.lt hg)
theorem DRaw.other (h : DRaw w d n dn fu f l sg sc v) {F : Nat → Prop} {w' : World} (hb : Bf F w w') (hF : ∀ g, DFoot d sg v g → ¬ F g) : DRaw w' d n dn fu f l sg sc v := h.same fun g hg => hb.block g (h.lt hg) (hF g hg)
theorem DRaw.setFuse (h : DRaw w d n dn fu f l sg sc v) (m : Nat) : DRaw (w.setCell ⟨d, 2, none⟩ (.int .i64 (m : Int))) d n dn m f l sg sc v := by
  obtain ⟨s0, co, bo, fo⟩ := set_lemmas w d 2 (.int .i64 (m : Int)) _ h.c2
  exact ⟨co 0 _ (by decide) h.c0, co 1 _ (by decide) h.c1, s0, co 3 _ (by decide) h.c3, co 4 _ (by decide) h.c4, fun o => (fo o).trans (h.fr o), h.sr.same (bo sg h.ds), ownsRow_same h.row (fun g e => bo g (fun c => h.dv (by rw [e, c]))), h.ds, h.dv, h.sv, h.n1⟩
theorem DRaw.setDown (h : DRaw w d n dn fu f l sg sc v) (b : Bool) : DRaw (w.setCell ⟨d, 3, none⟩ (.bool b)) d n b fu f l sg sc v := by
  obtain ⟨s0, co, bo, fo⟩ := set_lemmas w d 3 (.bool b) _ h.c3
  exact ⟨co 0 _ (by decide) h.c0, co 1 _ (by decide) h.c1, co 2 _ (by decide) h.c2, s0, co 4 _ (by decide) h.c4, fun o => (fo o).trans (h.fr o), h.sr.same (bo sg h.ds), ownsRow_same h.row (fun g e => bo g (fun c => h.dv (by rw [e, c]))), h.ds, h.dv, h.sv, h.n1⟩
theorem DRaw.setSafe (h : DRaw w d n dn fu f l sg sc v) (k : Nat) (b : Bs) : DRaw (w.setCell ⟨sg, k, none⟩ (Go.Proofs.Ytpcgoimkflgcnaa.sv b)) d n dn fu (upd f k b) l sg sc v := by
  have bo : ∀ g, g ≠ sg → (w.setCell ⟨sg, k, none⟩ (Go.Proofs.Ytpcgoimkflgcnaa.sv b)).heap[g]? = w.heap[g]? := fun g hg => Below.heap_setCell w ⟨sg, k, none⟩ _ g hg
  have hp := bo d (Ne.symm h.ds)
  have cp : ∀ (o : Nat), (w.setCell ⟨sg, k, none⟩ (Go.Proofs.Ytpcgoimkflgcnaa.sv b)).cell? ⟨d, o, none⟩ = w.cell? ⟨d, o, none⟩ := fun o => World.cell?_of_block (a := ⟨d, o, none⟩) hp
  exact ⟨(cp 0).trans h.c0, (cp 1).trans h.c1, (cp 2).trans h.c2, (cp 3).trans h.c3, (cp 4).trans h.c4, fun o => (World.frozen?_of_block (a := ⟨d, o, none⟩) hp).trans (h.fr o), h.sr.set k b, ownsRow_same h.row (fun g e => bo g (fun c => h.sv (by rw [e, c]))), h.ds, h.dv, h.sv, h.n1⟩
/-- Its row of writes is another one, in new blocks. -/
theorem DRaw.setRow (h : DRaw w d n dn fu f l sg sc v) {w1 : World} (hb : Below w.heap.size w w1) {u : Value} {m : List Wt} (ho : OwnsD w1 u m) (hl : ∀ g, u.ownBlock = some g → w.heap.size ≤ g) :
    DRaw (w1.setCell ⟨d, 1, none⟩ u) d n dn fu f m sg sc u ∧ Nx w (DFoot d sg v) (DFoot d sg u) ∧ Bf (DFoot d sg v) w (w1.setCell ⟨d, 1, none⟩ u) := by
  have h1 := h.later hb
  have ld := h.lt (.inl rfl)
  have ls := h.lt (.inr (.inl rfl))
  obtain ⟨s0, co, bo, fo⟩ := set_lemmas w1 d 1 u _ h1.c1
  have nd : u.ownBlock ≠ some d := fun e => by have := hl d e; omega
  have ns : u.ownBlock ≠ some sg := fun e => by have := hl sg e; omega
  refine ⟨⟨co 0 _ (by decide) h1.c0, s0, co 2 _ (by decide) h1.c2, co 3 _ (by decide) h1.c3, co 4 _ (by decide) h1.c4, fun o => (fo o).trans (h1.fr o), h1.sr.same (bo sg h.ds), ownsRow_same ho (fun g e => bo g (fun c => nd (by rw [e, c]))), h.ds, nd, ns, h.n1⟩, ?_, (Bf.of hb).trans (Nx.refl _ _) (Bf.set _ w1 d 1 u (.inl rfl))⟩
  intro g hg
  rcases hg with e | e | e
  · exact .inl (.inl e)
  · exact .inl (.inr (.inl e))
  · exact .inr (hl g e)
end
/-- The document's disk at d, whose blocks are those of G. -/
def DAt (w : World) (d : Nat) (G : Nat → Prop) (s : St) : Prop := Ok s ∧ ∃ sg sc v, G = DFoot d sg v ∧ DRaw w d s.n s.down s.fuse s.f s.l sg sc v
def DSt (w : World) (d : Nat) (G : Nat → Prop) (s : St) (w' : World) : Prop := ∃ G', DAt w' d G' s ∧ Nx w G G' ∧ Bf G w w'
theorem DAt.lt {w : World} {d : Nat} {G : Nat → Prop} {s : St} (h : DAt w d G s) {g : Nat} (hg : G g) : g < w.heap.size := by
  obtain ⟨-, sg, sc, v, rfl, hr⟩ := h
  exact hr.lt hg
theorem DAt.other {w w' : World} {d : Nat} {F G : Nat → Prop} {s : St} (h : DAt w d G s) (hb : Bf F w w') (hF : ∀ g, G g → ¬ F g) : DAt w' d G s := by
  obtain ⟨ho, sg, sc, v, rfl, hr⟩ := h
  exact ⟨ho, sg, sc, v, rfl, hr.other hb hF⟩
theorem DAt.later {w w' : World} {d : Nat} {G : Nat → Prop} {s : St} (h : DAt w d G s) (hb : Below w.heap.size w w') : DAt w' d G s := by
  obtain ⟨ho, sg, sc, v, rfl, hr⟩ := h
  exact ⟨ho, sg, sc, v, rfl, hr.later hb⟩
theorem DAt.stays {w w' : World} {d : Nat} {G : Nat → Prop} {s : St} (h : DAt w d G s) (hb : Below w.heap.size w w') : DSt w d G s w' := ⟨G, h.later hb, Nx.refl _ _, Bf.of hb⟩
/-- A write or a sync, counted. -/
theorem rburns_any (d : Nat) (G : Nat → Prop) (s : St) (hd : s.down = false) (w : World) (h : DAt w d G s) :
    Calls Try.prog 30 #[.pointer (some ⟨d, 0, none⟩)] w fun e w' => e = .returned (.bool (decide (s.fuse = 1))) ∧ DAt w' d G (brnS s) ∧ Bf G w w' := by
  obtain ⟨ho, sg, sc, v, rfl, hr⟩ := h
  have c2 := hr.c2
  have c3 := hr.c3
  have f2 := hr.fr 2
  have f3 := hr.fr 3
  have hfu := ho.fu
  by_cases h0 : s.fuse = 0
  · have e : brnS s = s := by
      obtain ⟨n, f, l, fuse, down⟩ := s
      simp only at hd h0
      subst hd h0
      rfl
    have HR : Hid (DAt w d (DFoot d sg v) (brnS s) ∧ Bf (DFoot d sg v) w w) := ⟨⟨ho.brn, sg, sc, v, rfl, by rw [e]; exact hr⟩, Bf.refl _ _⟩
    rw [h0] at c2 ⊢
    clear hr ho h0 c3 hfu e
    go_enter Try.func30, Try.ntmps30
    go_wp2
    go_ret
    exact ⟨rfl, HR.out⟩
  · obtain ⟨m, hm⟩ : ∃ m : Nat, s.fuse = m + 1 := ⟨s.fuse - 1, by omega⟩
    have HR : Hid (DAt ((w.setCell ⟨d, 2, none⟩ (.int .i64 (m : Int))).setCell ⟨d, 3, none⟩ (.bool (decide (s.fuse = 1)))) d (DFoot d sg v) (brnS s) ∧ Bf (DFoot d sg v) w ((w.setCell ⟨d, 2, none⟩ (.int .i64 (m : Int))).setCell ⟨d, 3, none⟩ (.bool (decide (s.fuse = 1))))) := by
      refine ⟨⟨ho.brn, sg, sc, v, rfl, ?_⟩, (Bf.set _ w d 2 _ (.inl rfl)).trans (Nx.refl _ _) (Bf.set _ _ d 3 _ (.inl rfl))⟩
      have := (hr.setFuse m).setDown (decide (s.fuse = 1))
      have e : (brnS s).fuse = m := by show s.fuse - 1 = m; omega
      rw [e]
      exact this
    rw [hd] at c3
    by_cases h1 : s.fuse = 1
    · obtain rfl : m = 0 := by omega
      rw [h1] at c2 HR ⊢
      rw [decide_eq_true (show (1 : Nat) = 1 from rfl)] at HR ⊢
      clear hr ho h0 h1 hfu hm hd
      go_enter Try.func30, Try.ntmps30
      go_wp2
      go_ret
      exact ⟨rfl, HR.out⟩
    · rw [decide_eq_false h1] at HR ⊢
      rw [hm] at c2
      have z1 : IntKind.i64.wrap (((m + 1 : Nat) : Int) - 1) = (m : Int) := by rw [IntKind.wrap_i64]; omega
      have z2 : ¬ ((m + 1 : Nat) : Int) = 0 := by omega
      have z3 : ¬ (m : Int) = 0 := by omega
      obtain ⟨x, hx⟩ : ∃ x : Int, ((m + 1 : Nat) : Int) = x := ⟨_, rfl⟩
      obtain ⟨y, hy⟩ : ∃ y : Int, (m : Int) = y := ⟨_, rfl⟩
      rw [hx] at c2 z1 z2
      rw [hy] at z1 z3 HR
      have z4 : (y == 0) = false := by simp [z3]
      clear hr ho h0 h1 hfu hm hx hy hd z3
      go_enter Try.func30, Try.ntmps30
      go_wp2
      go_ret
      exact ⟨rfl, HR.out⟩
theorem DAt.fuse {w : World} {d : Nat} {G : Nat → Prop} {s : St} (h : DAt w d G s) {n : Int} (hd : s.down = false) (h1 : ¬ (n < 0 ∨ 1048576 < n)) : DAt (w.setCell ⟨d, 2, none⟩ (.int .i64 n)) d G (fuS s n) ∧ Bf G w (w.setCell ⟨d, 2, none⟩ (.int .i64 n)) := by
  have hk := h.1.fus n
  obtain ⟨-, sg, sc, v, rfl, hr⟩ := h
  refine ⟨⟨hk, sg, sc, v, rfl, ?_⟩, Bf.set _ w d 2 _ (.inl rfl)⟩
  have e : fuS s n = { s with fuse := n.toNat } := by
    unfold fuS
    rw [if_neg (by rw [hd]; simp), if_neg h1]
  rw [e]
  have := hr.setFuse n.toNat
  rw [Int.toNat_of_nonneg (by omega)] at this
  exact this
theorem rfuse_any (d : Nat) (G : Nat → Prop) (s : St) (n : Int) (w : World) (h : DAt w d G s) :
    Calls Try.prog 20 #[.pointer (some ⟨d, 0, none⟩), .int .i64 n] w fun e w' => e = .returned (.int .i64 (fuE s n)) ∧ DSt w d G (fuS s n) w' := by
  have c3 : w.cell? ⟨d, 3, none⟩ = some (.bool s.down) := by
    obtain ⟨-, sg, sc, v, -, hr⟩ := h
    exact hr.c3
  by_cases hd : s.down = true
  · rw [hd] at c3
    have e1 : fuE s n = 150 := if_pos hd
    have e2 : fuS s n = s := if_pos hd
    rw [e1, e2]
    have FF : Hid (DSt w d G s w) := h.stays (Below.refl _ _)
    clear h e1 e2 hd
    go_enter Try.func20, Try.ntmps20
    go_wp2
    go_ret
    exact ⟨rfl, FF.out⟩
  · have hd' : s.down = false := by simpa using hd
    rw [hd'] at c3
    by_cases h1 : n < 0
    · have e1 : fuE s n = 1 := by rw [fuE, if_neg hd, if_pos (.inl h1)]
      have e2 : fuS s n = s := by rw [fuS, if_neg hd, if_pos (.inl h1)]
      rw [e1, e2]
      have FF : Hid (DSt w d G s w) := h.stays (Below.refl _ _)
      clear h e1 e2 hd hd'
      go_enter Try.func20, Try.ntmps20
      go_wp2
      go_ret
      exact ⟨rfl, FF.out⟩
    · by_cases h2 : 1048576 < n
      · have e1 : fuE s n = 1 := by rw [fuE, if_neg hd, if_pos (.inr h2)]
        have e2 : fuS s n = s := by rw [fuS, if_neg hd, if_pos (.inr h2)]
        rw [e1, e2]
        have FF : Hid (DSt w d G s w) := h.stays (Below.refl _ _)
        clear h e1 e2 hd hd'
        go_enter Try.func20, Try.ntmps20
        go_wp2
        go_ret
        exact ⟨rfl, FF.out⟩
      · have hc : ¬ (n < 0 ∨ 1048576 < n) := fun c => by rcases c with c | c; exact h1 c; exact h2 c
        have e1 : fuE s n = 0 := by rw [fuE, if_neg hd, if_neg hc]
        have K := h.fuse hd' hc
        have FF : Hid (DSt w d G (fuS s n) (w.setCell ⟨d, 2, none⟩ (.int .i64 n))) := ⟨G, K.1, Nx.refl _ _, K.2⟩
        have c1 : ∃ x, w.cell? ⟨d, 2, none⟩ = some x ∧ w.frozen? ⟨d, 2, none⟩ = false := by
          obtain ⟨-, sg, sc, v, -, hr⟩ := h
          exact ⟨_, hr.c2, hr.fr 2⟩
        obtain ⟨x, c1, f1⟩ := c1
        rw [e1]
        obtain ⟨t, ht⟩ : ∃ t, fuS s n = t := ⟨_, rfl⟩
        rw [ht] at FF ⊢
        clear h e1 hd hc K ht hd'
        go_enter Try.func20, Try.ntmps20
        go_wp2
        go_ret
        exact ⟨rfl, FF.out⟩
end Go.Proofs.Ytpcgoimkflgcnaa
