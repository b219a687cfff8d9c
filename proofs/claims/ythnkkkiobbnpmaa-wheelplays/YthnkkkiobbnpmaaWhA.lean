/- The time goes on. -/
import Derived.Test.YthnkkkiobbnpmaaWhX
import Derived.Test.YthnkkkiobbnpmaaWhU
import Derived.Test.YthnkkkiobbnpmaaWhK
namespace Go.Proofs.Ythnkkkiobbnpmaa
open Go.RowKit Go.Proofs.Fd Go.Proofs.Wh
set_option maxRecDepth 20000

def ic (l : List Int) : List Value := l.map (Value.int .i64)
abbrev OwnsI (w : World) (v : Value) (l : List Int) : Prop := w.ownsRow 0 3 1 v l.length (ic l)
theorem infoI : (Try.prog.info? 3).map (fun i => (i.zero, i.size, i.bytes)) = some (some (.int .i64 0), 1, 8) := by kernel_rfl
theorem ownsI_slice {w : World} {v : Value} {l : List Int} (h : OwnsI w v l) : ∃ a n c, v = .slice a n c := by
  rcases h.2 with ⟨rfl, -⟩ | ⟨g, cap, cur, rfl, -⟩
  · exact ⟨_, _, _, rfl⟩
  · exact ⟨_, _, _, rfl⟩
/-- One number more behind a row. -/
theorem app_int (w : World) (ty : TypeId) (v : Value) (l : List Int) (h : OwnsI w v l) (hl : l.length ≤ 8192) (x : Int) (b : Nat) (c0 : w.cell? ⟨b, 0, none⟩ = some (.int .i64 x)) :
    ∃ va vn vc w', (Builtin.append_ #[38, 38] ty #[v, .slice (some ⟨b, 0, none⟩) 1 1]).run Try.prog w = .ok (.slice va vn vc) w' ∧ OwnsI w' (.slice va vn vc) (l ++ [x]) ∧ w.grownBy w' v.ownBlock ∧ ((Value.slice va vn vc).ownBlock = v.ownBlock ∨ (Value.slice va vn vc).ownBlock = some w.heap.size) := by
  obtain ⟨i0, hi, hz0, hz1, hz2⟩ := info_parts infoI
  obtain ⟨v', w', r1, r2, r3, -, r5⟩ := run_append_own_at (P := Try.prog) w 0 38 ty 3 i0 _ 1 8 Try.underlying38 hi hz0 hz1 hz2 rfl (by decide) v l.length (ic l) h ⟨b, 0, none⟩ 1 1 [.int .i64 x] rfl (fun j u hu => by
      have q : Addr.add ⟨b, 0, none⟩ j = ⟨b, j, none⟩ := by simp [Addr.add]; intro h; exact h.symm
      rw [q]
      match j, hu with
      | 0, hu => simp at hu; subst hu; exact c0
      | j + 1, hu => simp at hu) (fun u hu => by simp at hu; subst hu; rfl) (by unfold maxLen; omega) (by omega) (Nat.zero_le _)
  have r2' : OwnsI w' v' (l ++ [x]) := by
    unfold OwnsI ic
    rw [List.map_append, List.length_append]
    exact r2
  obtain ⟨va, vn, vc, rfl⟩ := ownsI_slice r2'
  exact ⟨va, vn, vc, w', r1, r2', r3, r5⟩
/-- So many of those that were reached are put again, or told. -/
def Ad (w : World) (p : Nat) (F : Nat → Prop) (s : St) (sl : Nat → List Tm) (bm tt : Nat) (r : List Tm) (v : Value) (k : Nat) (vi : Value) (wr : World) : Prop :=
  ∃ sv D, Raw wr p tt s.many sv (plc tt (cut sl (pl s.now tt + 1)) (r.take k)) bm D ∧ Mp D (dl tt (r.take k) s.l) ∧ OwnsT wr v r ∧ OwnsI wr vi ((Wh.due tt (r.take k)).map Tm.i)
    ∧ (∀ g, v.ownBlock = some g → ¬ Foot p sv bm g ∧ vi.ownBlock ≠ some g) ∧ (∀ g, vi.ownBlock = some g → ¬ Foot p sv bm g ∧ w.heap.size ≤ g) ∧ Nx w F (Foot p sv bm) ∧ Bf F w wr
theorem Ad.later {w : World} {p : Nat} {F : Nat → Prop} {s : St} {sl : Nat → List Tm} {bm tt : Nat} {r : List Tm} {v : Value} {k : Nat} {vi : Value} {wr w' : World} (h : Ad w p F s sl bm tt r v k vi wr) (hb : Below wr.heap.size wr w') : Ad w p F s sl bm tt r v k vi w' := by
  obtain ⟨sv, D, h1, h2, h3, h4, h5, h6, h7, h8⟩ := h
  exact ⟨sv, D, h1.later hb, h2, ownsRow_same h3 (fun g e => hb.block g (h3.lt g e).2), ownsRow_same h4 (fun g e => hb.block g (h4.lt g e).2), h5, h6, h7, h8.later hb⟩
/-- One that is not due. -/
theorem Ad.late {w : World} {p : Nat} {F : Nat → Prop} {s : St} {sl : Nat → List Tm} {bm tt : Nat} {r : List Tm} {v : Value} {k : Nat} {vi : Value} {wr : World} (h : Ad w p F s sl bm tt r v k vi wr) (hk : k < r.length) (ht : ¬ r[k].a ≤ tt) :
    ∃ sv D, Raw wr p tt s.many sv (plc tt (cut sl (pl s.now tt + 1)) (r.take k)) bm D ∧ ∀ sv' w', Raw w' p tt s.many sv' (upd (plc tt (cut sl (pl s.now tt + 1)) (r.take k)) (pl tt r[k].a) (plc tt (cut sl (pl s.now tt + 1)) (r.take k) (pl tt r[k].a) ++ [r[k]])) bm D → Nx wr (Foot p sv bm) (Foot p sv' bm) → Bf (Foot p sv bm) wr w' → Ad w p F s sl bm tt r v (k + 1) vi w' := by
  obtain ⟨sv, D, h1, h2, h3, h4, h5, h6, h7, h8⟩ := h
  refine ⟨sv, D, h1, fun sv' w' k1 k2 k3 => ?_⟩
  have e : r.take (k + 1) = r.take k ++ [r[k]] := List.take_succ_eq_append_getElem hk
  have ed : Wh.due tt (r.take k ++ [r[k]]) = Wh.due tt (r.take k) := by
    unfold Wh.due
    rw [List.filter_append, List.filter_cons_of_neg (by simpa using by omega), List.filter_nil, List.append_nil]
  have kf : ∀ g, g < wr.heap.size → ¬ Foot p sv bm g → ¬ Foot p sv' bm g := fun g hg hn c => by
    rcases k2 g c with c | c
    · exact hn c
    · omega
  refine ⟨sv', D, ?_, ?_, ?_, ?_, fun g e => ⟨kf g (h3.lt g e).2 (h5 g e).1, (h5 g e).2⟩, fun g e => ⟨kf g (h4.lt g e).2 (h6 g e).1, (h6 g e).2⟩, h7.trans k2 h8.size, h8.trans h7 k3⟩
  · rw [e, plc_late _ _ ht]
    exact k1
  · rw [e, dl_late _ _ ht]
    exact h2
  · exact ownsRow_same h3 (fun g e => k3.block g (h3.lt g e).2 (h5 g e).1)
  · rw [e, ed]
    exact ownsRow_same h4 (fun g e => k3.block g (h4.lt g e).2 (h6 g e).1)
/-- One that is due: struck from the map; then its id is told. -/
theorem Ad.due {w : World} {p : Nat} {F : Nat → Prop} {s : St} {sl : Nat → List Tm} {bm tt : Nat} {r : List Tm} {v : Value} {k : Nat} {vi : Value} {wr : World} (h : Ad w p F s sl bm tt r v k vi wr) (hm : s.many < 1099511627776) (ho : Ok s) (hr : r = rch s tt) (hk : k < r.length) (ht : r[k].a ≤ tt) :
    ∃ w1, wr.cell? ⟨p, 450, none⟩ = some (.map (some bm)) ∧ (Builtin.delete_ #[51, 3] 0 #[.map (some bm), .int .i64 (r[k].n : Int)]).run Try.prog wr = .ok (.tuple #[]) w1 ∧ wr.grownBy w1 (some bm) ∧ p ≠ bm
      ∧ ∀ w2, Below w1.heap.size w1 w2 → ∀ b, w1.heap.size ≤ b → w2.cell? ⟨b, 0, none⟩ = some (.int .i64 r[k].i) → ∃ va vn vc w', (Builtin.append_ #[38, 38] 38 #[vi, .slice (some ⟨b, 0, none⟩) 1 1]).run Try.prog w2 = .ok (.slice va vn vc) w' ∧ Ad w p F s sl bm tt r v (k + 1) (.slice va vn vc) w' := by
  obtain ⟨sv, D, h1, h2, h3, h4, h5, h6, h7, h8⟩ := h
  have hmem : r[k] ∈ s.l := by
    have : r[k] ∈ rch s tt := by
      have := List.getElem_mem hk
      rw [← hr]
      exact this
    exact (List.mem_filter.1 this).1
  have hnum := ho.num _ hmem
  have hapr : r.Pairwise fun x y => x.n ≠ y.n := by
    rw [hr]
    exact ho.apart.filter _
  have hin : r[k] ∈ dl tt (r.take k) s.l := by
    refine List.mem_filter.2 ⟨hmem, ?_⟩
    rw [Bool.not_eq_true', List.any_eq_false]
    intro u hu
    obtain ⟨i, hi, rfl⟩ := List.getElem_of_mem hu
    rw [List.length_take] at hi
    rw [List.getElem_take]
    have := (List.pairwise_iff_getElem.1 hapr) i k (by omega) hk (by omega)
    simp [this]
  obtain ⟨w1, m1, m2, m3⟩ := map_del wr bm D h1.map (r[k].n : Int) (by omega) (by omega) 0
  have R1 := h1.setMap m3 m2
  refine ⟨w1, h1.c3, m1, m3, Ne.symm h1.pm, fun w2 hb b hbl c => ?_⟩
  have R2 := R1.1.later hb
  have hvm : ∀ g, v.ownBlock = some g → some g ≠ some bm := fun g e c => (h5 g e).1 (.inr (.inl (by injection c)))
  have him : ∀ g, vi.ownBlock = some g → some g ≠ some bm := fun g e c => (h6 g e).1 (.inr (.inl (by injection c)))
  have o3 : OwnsT w2 v r := ownsRow_same h3 (fun g e => (hb.block g (Nat.lt_of_lt_of_le (h3.lt g e).2 m3.size)).trans (m3.block g (h3.lt g e).2 (hvm g e)))
  have o4 : OwnsI w2 vi ((Wh.due tt (r.take k)).map Tm.i) := ownsRow_same h4 (fun g e => (hb.block g (Nat.lt_of_lt_of_le (h4.lt g e).2 m3.size)).trans (m3.block g (h4.lt g e).2 (him g e)))
  have hlen : ((Wh.due tt (r.take k)).map Tm.i).length ≤ 4096 := by
    rw [List.length_map]
    refine Nat.le_trans (List.length_filter_le ..) (Nat.le_trans (List.length_take_le _ _) ?_)
    have h9 : r.length ≤ s.l.length := by rw [hr]; exact List.length_filter_le ..
    have : s.l.length ≤ 4096 := ho.long
    have := hk
    omega
  obtain ⟨va, vn, vc, w', r1, r2, r3, r4⟩ := app_int w2 38 vi _ o4 (by omega) r[k].i b c
  have e : r.take (k + 1) = r.take k ++ [r[k]] := List.take_succ_eq_append_getElem hk
  have ed : Wh.due tt (r.take k ++ [r[k]]) = Wh.due tt (r.take k) ++ [r[k]] := by
    unfold Wh.due
    rw [List.filter_append, List.filter_cons_of_pos (by simpa using by omega), List.filter_nil]
  have hsz : wr.heap.size ≤ w2.heap.size := Nat.le_trans m3.size hb.size
  have hloc : ∀ g, (Value.slice va vn vc).ownBlock = some g → vi.ownBlock = some g ∨ w2.heap.size ≤ g := fun g e => by
    rcases r4 with c | c
    · exact .inl (by rw [← c]; exact e)
    · rw [c] at e
      injection e with e
      exact .inr (by omega)
  refine ⟨va, vn, vc, w', r1, sv, D.del (.int .i64 (r[k].n : Int)), ?_, ?_, ?_, ?_, ?_, ?_, h7, ?_⟩
  · rw [e, plc_due _ _ ht]
    exact R2.grown r3 (fun g e => (h6 g e).1)
  · rw [e, dl_due _ _ ht]
    exact h2.del (h1.map.tidy int_key) (ho.apart.filter _) hin
  · exact ownsRow_same o3 (fun g e => r3.block g (o3.lt g e).2 (fun c => (h5 g e).2 c.symm))
  · rw [e, ed, List.map_append]
    exact r2
  · intro g e
    refine ⟨(h5 g e).1, fun c => ?_⟩
    rcases hloc g c with h | h
    · exact (h5 g e).2 h
    · have := (h3.lt g e).2
      omega
  · intro g e
    rcases hloc g e with h | h
    · exact h6 g h
    · refine ⟨fun c => ?_, ?_⟩
      · have := h1.lt c
        omega
      · have := h8.size
        omega
  · have b1 : Bf F w w1 := h8.trans h7 R1.2
    have b2 : Bf F w w2 := b1.later hb
    exact b2.trans (F' := fun g => vi.ownBlock = some g) (fun g e => .inr (h6 g e).2) (Bf.grown r3 (fun g e => .inl e))
end Go.Proofs.Ythnkkkiobbnpmaa
