/- Two wheels side by side, and rows beside them. -/
import Derived.Test.YthnkkkiobbnpmaaWhLa
namespace Go.Proofs.Ythnkkkiobbnpmaa
open Go.RowKit Go.Proofs.Fd Go.Proofs.Wh
set_option maxRecDepth 20000

structure TwoW (w wr : World) (p q : Nat) (F G : Nat → Prop) (s t : St) : Prop where
  fst : Wl w wr p F s
  snd : Wl w wr q G t
  apart : ∀ g, F g → ¬ G g
theorem TwoW.one {w wr w' : World} {p q : Nat} {F F' G : Nat → Prop} {s s' t : St} (h : TwoW w wr p q F G s t) (h1 : Wl w w' p F' s') (h2 : Nx wr F F') (h3 : Bf F wr w') : TwoW w w' p q F' G s' t :=
  ⟨h1, ⟨h.snd.at_.other h3 (fun g hg c => h.apart g c hg), h.snd.new, h1.below⟩, fun g hg c => by
    rcases h2 g hg with e | e
    · exact h.apart g e c
    · have := h.snd.at_.lt c
      omega⟩
theorem TwoW.two {w wr w' : World} {p q : Nat} {F G G' : Nat → Prop} {s t t' : St} (h : TwoW w wr p q F G s t) (h1 : Wl w w' q G' t') (h2 : Nx wr G G') (h3 : Bf G wr w') : TwoW w w' p q F G' s t' :=
  ⟨⟨h.fst.at_.other h3 (fun g hg c => h.apart g hg c), h.fst.new, h1.below⟩, h1, fun g hg c => by
    rcases h2 g c with e | e
    · exact h.apart g hg e
    · have := h.fst.at_.lt hg
      omega⟩
theorem TwoW.later {w wr w' : World} {p q : Nat} {F G : Nat → Prop} {s t : St} (h : TwoW w wr p q F G s t) (hb : Below wr.heap.size wr w') : TwoW w w' p q F G s t := ⟨h.fst.later hb, h.snd.later hb, h.apart⟩
theorem TwoW.grown {w wr w' : World} {p q : Nat} {F G : Nat → Prop} {s t : St} (h : TwoW w wr p q F G s t) {row : Option Nat} (hg : wr.grownBy w' row) (hr : ∀ g, row = some g → ¬ F g ∧ ¬ G g ∧ w.heap.size ≤ g) : TwoW w w' p q F G s t := by
  have hb : Bf (fun g => row = some g) wr w' := Bf.grown hg (fun g e => .inl e)
  have hB : Below w.heap.size w w' := h.fst.below.trans (hb.below (fun g e => (hr g e).2.2) h.fst.below.size)
  exact ⟨⟨h.fst.at_.other hb (fun g hF e => (hr g e).1 hF), h.fst.new, hB⟩, ⟨h.snd.at_.other hb (fun g hG e => (hr g e).2.1 hG), h.snd.new, hB⟩, h.apart⟩
/-- A row of numbers behind a row of numbers. -/
theorem app_nums (w : World) (ty : TypeId) (v u : Value) (l m : List Int) (h : OwnsI w v l) (k : OwnsI w u m) (hl : l.length + m.length ≤ 100000) :
    ∃ va vn vc w', (Builtin.append_ #[38, 38] ty #[v, u]).run Try.prog w = .ok (.slice va vn vc) w' ∧ OwnsI w' (.slice va vn vc) (l ++ m) ∧ w.grownBy w' v.ownBlock ∧ ((Value.slice va vn vc).ownBlock = v.ownBlock ∨ (Value.slice va vn vc).ownBlock = some w.heap.size) := by
  obtain ⟨i0, hi, hz0, hz1, hz2⟩ := info_parts infoI
  rcases k.2 with ⟨rfl, hm⟩ | ⟨g, cap, cur, rfl, -, hb, hc, -⟩
  · obtain rfl := List.length_eq_zero_iff.1 hm
    obtain ⟨va, vn, vc, rfl⟩ := ownsI_slice h
    refine ⟨va, vn, vc, w, run_append_owned_none (P := Try.prog) w 0 38 ty 3 i0 1 Try.underlying38 hi _ _ _ h, by rw [List.append_nil]; exact h, ⟨rfl, rfl, rfl, Nat.le_refl _, fun _ _ _ => rfl⟩, .inl rfl⟩
  · obtain ⟨v', w', r1, r2, r3, -, r5⟩ := run_append_own_at (P := Try.prog) w 0 38 ty 3 i0 _ 1 8 Try.underlying38 hi hz0 hz1 hz2 rfl (by decide) v l.length (ic l) h ⟨g, 0, none⟩ m.length cap (ic m) (by simp [ic]) (k.cells rfl) (fun u hu => by
        simp only [ic, List.mem_map] at hu
        obtain ⟨x, -, rfl⟩ := hu
        rfl) (by unfold maxLen; omega) (by omega) (Nat.zero_le _)
    have r2' : OwnsI w' v' (l ++ m) := by
      unfold OwnsI ic
      rw [List.map_append, List.length_append]
      exact r2
    obtain ⟨va, vn, vc, rfl⟩ := ownsI_slice r2'
    exact ⟨va, vn, vc, w', r1, r2', r3, r5⟩
/-- The greatest of some deadlines. -/
def mx (f : Nat → Nat) : Nat → Nat
  | 0 => 0
  | k + 1 => max (mx f k) (f k)
theorem mx_ge (f : Nat → Nat) : ∀ k i, i < k → f i ≤ mx f k
  | 0, i, h => absurd h (Nat.not_lt_zero _)
  | k + 1, i, h => by
    unfold mx
    by_cases e : i = k
    · subst e
      omega
    · have := mx_ge f k i (by omega)
      omega
theorem mx_le (f : Nat → Nat) (M : Nat) (h : ∀ i, f i ≤ M) : ∀ k, mx f k ≤ M
  | 0 => Nat.zero_le _
  | k + 1 => by
    have := mx_le f M h k
    have := h k
    unfold mx
    omega
/-- One wheel has told all; the other one is on its way. -/
structure Sx (w wr : World) (p q : Nat) (F G : Nat → Prop) (sa : St) (l0 : List Tm) (k c : Nat) (v out : Value) : Prop where
  two : TwoW w wr p q F G sa ⟨c, k, rest c l0⟩
  all : OwnsI wr v (l0.map Tm.i)
  told : OwnsI wr out ((Wh.due c l0).map Tm.i)
  a1 : ∀ g, v.ownBlock = some g → ¬ F g ∧ ¬ G g
  a2 : ∀ g, out.ownBlock = some g → ¬ F g ∧ ¬ G g ∧ v.ownBlock ≠ some g ∧ w.heap.size ≤ g
theorem Sx.later {w wr w' : World} {p q : Nat} {F G : Nat → Prop} {sa : St} {l0 : List Tm} {k c : Nat} {v out : Value} (h : Sx w wr p q F G sa l0 k c v out) (hb : Below wr.heap.size wr w') : Sx w w' p q F G sa l0 k c v out :=
  ⟨h.two.later hb, h.all.later hb, h.told.later hb, h.a1, h.a2⟩
/-- The second wheel's time goes on: it tells l; then l stands behind what was told. -/
theorem Sx.step {w wr w' w2 : World} {p q : Nat} {F G G' : Nat → Prop} {sa : St} {l0 : List Tm} {k c n : Nat} {v out : Value} {la : Option Addr} {ln lc : Nat} (h : Sx w wr p q F G sa l0 k c v out) (hs : l0.Pairwise lt) (hl : l0.length ≤ 4096) (hc : c ≤ n) (hn : n ≤ maxT)
    (h1 : Wl w w' q G' (advS ⟨c, k, rest c l0⟩ n)) (h2 : Nx wr G G') (h3 : Bf G wr w') (h4 : OwnsI w' (.slice la ln lc) (advV ⟨c, k, rest c l0⟩ n)) (hb : Below w'.heap.size w' w2) :
    ∃ oa om oc w3, (Builtin.append_ #[38, 38] 38 #[out, .slice la ln lc]).run Try.prog w2 = .ok (.slice oa om oc) w3 ∧ Sx w w3 p q F G' sa l0 k n v (.slice oa om oc) := by
  have hlt : ∀ g, G' g → g < w'.heap.size := fun g hg => h1.at_.lt hg
  have notG' : ∀ g, g < wr.heap.size → ¬ G g → ¬ G' g := fun g hg hG c => by
    rcases h2 g c with e | e
    · exact hG e
    · omega
  rw [advS_ok (s := ⟨c, k, rest c l0⟩) hc hn, show rest (n : Int) (⟨c, k, rest c l0⟩ : St).l = rest n l0 from rest_step hc l0] at h1
  rw [advV_ok (s := ⟨c, k, rest c l0⟩) hc hn] at h4
  have T := (h.two.two h1 h2 h3).later hb
  have oa : OwnsI w2 v (l0.map Tm.i) := (h.all.kept h3 (fun g e => (h.a1 g e).2)).later hb
  have oo : OwnsI w2 out ((Wh.due c l0).map Tm.i) := (h.told.kept h3 (fun g e => (h.a2 g e).2.1)).later hb
  have d1 : (Wh.due c l0).length ≤ 4096 := Nat.le_trans (List.length_filter_le ..) hl
  have d2 : (Wh.due n (rest c l0)).length ≤ 4096 := Nat.le_trans (List.length_filter_le ..) (Nat.le_trans (List.length_filter_le ..) hl)
  obtain ⟨va, vn, vc, w3, r1, r2, r3, r4⟩ := app_nums w2 38 out (.slice la ln lc) _ _ oo (h4.later hb) (by rw [List.length_map, List.length_map]; show (Wh.due c l0).length + (Wh.due n (rest c l0)).length ≤ _; omega)
  have e := due_step hc hs
  have hsz : wr.heap.size ≤ w2.heap.size := Nat.le_trans h3.size hb.size
  have loc : ∀ g, (Value.slice va vn vc).ownBlock = some g → out.ownBlock = some g ∨ w2.heap.size ≤ g := fun g e => by
    rcases r4 with q | q
    · exact .inl (by rw [← q]; exact e)
    · rw [q] at e
      injection e with e
      exact .inr (by omega)
  refine ⟨va, vn, vc, w3, r1, T.grown r3 (fun g e => ⟨(h.a2 g e).1, notG' g (h.told.lt g e).2 (h.a2 g e).2.1, (h.a2 g e).2.2.2⟩), ?_, ?_, fun g e => ⟨(h.a1 g e).1, notG' g (h.all.lt g e).2 (h.a1 g e).2⟩, fun g e => ?_⟩
  · exact ownsRow_same oa (fun g e => r3.block g (oa.lt g e).2 (fun c => (h.a2 g c.symm).2.2.1 e))
  · rw [e, List.map_append]
    exact r2
  · rcases loc g e with q | q
    · exact ⟨(h.a2 g q).1, notG' g (h.told.lt g q).2 (h.a2 g q).2.1, (h.a2 g q).2.2⟩
    · refine ⟨fun c => ?_, fun c => ?_, fun c => ?_, ?_⟩
      · have := h.two.fst.at_.lt c
        omega
      · have := hlt g c
        have := hb.size
        omega
      · have := (h.all.lt g c).2
        omega
      · have := h.two.fst.below.size
        omega
end Go.Proofs.Ythnkkkiobbnpmaa
