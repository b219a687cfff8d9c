/- Lists of messages in memory. -/
import Derived.Test.YtbaajpefefedbaaMlV
import Derived.Test.YtbaajpefefedbaaFrL3
namespace Go.Proofs.Ytbaajpefefedbaa
open Go.RowKit Go.Proofs.Fd Go.Proofs.Ml
set_option maxRecDepth 20000

/-- A message as it lies in a row: what it says, and where its lists are. -/
structure Mc where
  m : Ml
  a : Option Addr
  n : Nat
  c : Nat
  a2 : Option Addr
  n2 : Nat
  c2 : Nat
def Mc.L (x : Mc) (w : World) : Prop := Lists w x.a x.n x.c x.a2 x.n2 x.c2 x.m.sl x.m.ids
def mcell (x : Mc) : List Value := [.int .i64 x.m.k, .int .i64 x.m.u, .int .i64 x.m.q, .string x.m.t, .string x.m.g, .slice x.a x.n x.c, .slice x.a2 x.n2 x.c2]
def mcells (l : List Mc) : List Value := l.flatMap mcell
theorem mcells_cons (x : Mc) (l : List Mc) : mcells (x :: l) = .int .i64 x.m.k :: .int .i64 x.m.u :: .int .i64 x.m.q :: .string x.m.t :: .string x.m.g :: .slice x.a x.n x.c :: .slice x.a2 x.n2 x.c2 :: mcells l := rfl
theorem mcells_len (l : List Mc) : (mcells l).length = l.length * 7 := by
  induction l with
  | nil => rfl
  | cons s l ih => rw [mcells_cons]; simp only [List.length_cons, ih]; omega
theorem mcells_app (a b : List Mc) : mcells (a ++ b) = mcells a ++ mcells b := by unfold mcells; rw [List.flatMap_append]
theorem mcells_at (l : List Mc) (i : Nat) (hi : i < l.length) (r : Nat) (hr : r < 7) : (mcells l)[i * 7 + r]? = (mcell l[i])[r]? := by
  induction l generalizing i with
  | nil => simp at hi
  | cons s l ih =>
    rw [mcells_cons]
    cases i with
    | zero =>
      rw [Nat.zero_mul, Nat.zero_add]
      match r, hr with
      | 0, _ => rfl
      | 1, _ => rfl
      | 2, _ => rfl
      | 3, _ => rfl
      | 4, _ => rfl
      | 5, _ => rfl
      | 6, _ => rfl
    | succ i =>
      have := ih i (by simpa using hi)
      have e : (i + 1) * 7 + r = i * 7 + r + 7 := by omega
      rw [e]
      exact this
theorem mcells_one (l : List Mc) : ∀ u ∈ mcells l, u.oneCell' = true := by
  intro u hu
  unfold mcells at hu
  rw [List.mem_flatMap] at hu
  obtain ⟨h, -, hu⟩ := hu
  simp [mcell] at hu
  rcases hu with rfl | rfl | rfl | rfl | rfl | rfl | rfl <;> rfl
/-- Messages that lie in a row. -/
def MsAt (w : World) (a : Option Addr) (l : List Mc) : Prop := ∀ i (hi : i < l.length), ∃ b o, a = some ⟨b, o, none⟩ ∧ w.cell? ⟨b, o + i * 7, none⟩ = some (.int .i64 l[i].m.k) ∧ w.cell? ⟨b, o + i * 7 + 1, none⟩ = some (.int .i64 l[i].m.u) ∧ w.cell? ⟨b, o + i * 7 + 2, none⟩ = some (.int .i64 l[i].m.q) ∧ w.cell? ⟨b, o + i * 7 + 3, none⟩ = some (.string l[i].m.t) ∧ w.cell? ⟨b, o + i * 7 + 4, none⟩ = some (.string l[i].m.g) ∧ w.cell? ⟨b, o + i * 7 + 5, none⟩ = some (.slice l[i].a l[i].n l[i].c) ∧ w.cell? ⟨b, o + i * 7 + 6, none⟩ = some (.slice l[i].a2 l[i].n2 l[i].c2)
theorem MsAt.later {w w' : World} {a : Option Addr} {l : List Mc} (h : MsAt w a l) (hb : Below w.heap.size w w') : MsAt w' a l := fun i hi => by
  obtain ⟨b, o, e, h0, h1, h2, h3, h4, h5, h6⟩ := h i hi
  exact ⟨b, o, e, cell_later hb h0, cell_later hb h1, cell_later hb h2, cell_later hb h3, cell_later hb h4, cell_later hb h5, cell_later hb h6⟩
theorem own_msAt {w : World} {base n : Nat} {v : Value} {l : List Mc} (h : w.ownsRow base 25 7 v n (mcells l)) : l.length = n ∧ ∃ a cap, v = .slice a n cap ∧ MsAt w a l := by
  obtain ⟨h1, h2⟩ := h
  have hl : l.length = n := by rw [mcells_len] at h1; omega
  refine ⟨hl, ?_⟩
  rcases h2 with ⟨rfl, rfl⟩ | ⟨g, cap, cur, rfl, hb, hh, hcap, hml, -, ht⟩
  · exact ⟨none, 0, rfl, fun i hi => by omega⟩
  · refine ⟨_, cap, rfl, fun i hi => ⟨g, 0, rfl, ?_⟩⟩
    have key : ∀ r, r < 7 → w.cell? ⟨g, 0 + i * 7 + r, none⟩ = (mcell l[i])[r]? := fun r hr => by
      have e : cur[i * 7 + r]? = (mcells l)[i * 7 + r]? := by
        rw [← ht, List.getElem?_take_of_lt (by omega)]; simp
      rw [Nat.zero_add]
      unfold World.cell?
      rw [hh]
      simp only [Option.isSome_none]
      show cur[i * 7 + r]? = _
      rw [e, mcells_at l i hi r hr]
    exact ⟨key 0 (by omega), key 1 (by omega), key 2 (by omega), key 3 (by omega), key 4 (by omega), key 5 (by omega), key 6 (by omega)⟩
theorem infoMail : (Try.prog.info? 25).map (fun i => (i.zero, i.size, i.bytes)) = some (some (.agg #[.int .i64 0, .int .i64 0, .int .i64 0, .string ⟨#[]⟩, .string ⟨#[]⟩, .slice none 0 0, .slice none 0 0]), 7, 104) := by kernel_rfl
/-- append(l, x), x a message -/
theorem app_mail (V : World) (ty base : Nat) (v : Value) (m : Nat) (ks : List Mc) (hown : V.ownsRow base 25 7 v m (mcells ks)) (x : Mc) (hz : m ≤ 1000) (hb : base ≤ V.heap.size) :
    ∃ v' w', (Builtin.append_ #[39, 39] ty #[v, .slice (some ⟨V.heap.size, 0, none⟩) 1 1]).run Try.prog (V.alloc (.cells #[.int .i64 x.m.k, .int .i64 x.m.u, .int .i64 x.m.q, .string x.m.t, .string x.m.g, .slice x.a x.n x.c, .slice x.a2 x.n2 x.c2] 25)) = .ok v' w' ∧ w'.ownsRow base 25 7 v' (m + 1) (mcells (ks ++ [x])) ∧ Below base V w' ∧ ∀ b, b < V.heap.size → some b ≠ v.ownBlock → w'.heap[b]? = V.heap[b]? := by
  obtain ⟨i0, hi, hz0, hz1, hz2⟩ := info_parts infoMail
  obtain ⟨W, hW⟩ : ∃ W, V.alloc (.cells #[.int .i64 x.m.k, .int .i64 x.m.u, .int .i64 x.m.q, .string x.m.t, .string x.m.g, .slice x.a x.n x.c, .slice x.a2 x.n2 x.c2] 25) = W := ⟨_, rfl⟩
  have hb2 : Below V.heap.size V W := by rw [← hW]; exact (Below.refl _ _).alloc (Nat.le_refl _) _
  have hs : W.heap.size = V.heap.size + 1 := by rw [← hW]; simp
  have o0 : W.ownsRow base 25 7 v m (mcells ks) := own_later hown hb2
  have each : ∀ j u, (mcells [x])[j]? = some u → W.cell? (Addr.add ⟨V.heap.size, 0, none⟩ j) = some u := by
    intro j u hu
    rw [← hW]
    exact cells_new V #[.int .i64 x.m.k, .int .i64 x.m.u, .int .i64 x.m.q, .string x.m.t, .string x.m.g, .slice x.a x.n x.c, .slice x.a2 x.n2 x.c2] 25 j u hu
  rw [hW]
  obtain ⟨v', w', h1, h2, h3, -⟩ := run_append_own (P := Try.prog) W base 39 ty 25 i0 _ 7 104 Try.underlying39 hi hz0 hz1 hz2 rfl (by decide) v m (mcells ks) o0 ⟨V.heap.size, 0, none⟩ 1 1 (mcells [x]) rfl each (mcells_one _) (by unfold maxLen; omega) (by omega) (by omega)
  refine ⟨v', w', h1, ?_, (hb2.mono hb).grown h3 (by omega) (fun k hk => (o0.lt k hk).1), fun b hl hne => ?_⟩
  · rw [mcells_app]; exact h2
  · rw [h3.block b (by omega) hne, hb2.block b hl]
theorem own_unlike {w : World} {b1 b2 s1 s2 n1 n2 : Nat} {e1 e2 : TypeId} {v1 v2 : Value} {l1 l2 : List Value} (h1 : w.ownsRow b1 e1 s1 v1 n1 l1) (h2 : w.ownsRow b2 e2 s2 v2 n2 l2) (he : e1 ≠ e2) : ∀ g, v1.ownBlock = some g → some g ≠ v2.ownBlock := by
  rcases h1.2 with ⟨rfl, -⟩ | ⟨g1, c1, a1, rfl, -, q1, -⟩
  · intro g h; cases h
  · rcases h2.2 with ⟨rfl, -⟩ | ⟨g2, c2, a2, rfl, -, q2, -⟩
    · intro g h z; cases z
    · intro g h z
      simp [Value.ownBlock] at h z
      subst h
      rw [z, q2] at q1
      injection q1 with q1
      injection q1 with _ q1
      exact he q1.symm
/-- A row stays where another kind of row grew. -/
theorem own_stays {w w' : World} {b s n : Nat} {e : TypeId} {v v2 : Value} {l : List Value} (h : w.ownsRow b e s v n l) (hne : ∀ g, v.ownBlock = some g → some g ≠ v2.ownBlock) (hk : ∀ g, g < w.heap.size → some g ≠ v2.ownBlock → w'.heap[g]? = w.heap[g]?) : w'.ownsRow b e s v n l := by
  refine ⟨h.1, ?_⟩
  rcases h.2 with hn | ⟨g, cap, cur, rfl, hb, hh, rest⟩
  · exact .inl hn
  · exact .inr ⟨g, cap, cur, rfl, hb, (hk g (Array.getElem?_eq_some_iff.1 hh).1 (hne g rfl)).trans hh, rest⟩
end Go.Proofs.Ytbaajpefefedbaa
