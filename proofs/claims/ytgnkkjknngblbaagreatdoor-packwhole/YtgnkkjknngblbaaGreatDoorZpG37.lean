/- Lists of hops' keys: their cells, rows of the call's own; secrets, one behind the other. -/
import Derived.Test.YtgnkkjknngblbaaGreatDoorZpG34
import Derived.Test.YtgnkkjknngblbaaGreatDoorZpG16
import Derived.Laws.OwnMore
namespace Go.Proofs.YtgnkkjknngblbaaGreatDoor
open Go.RowKit Go.Proofs.Fd Go.Proofs.Hs Go.Proofs.Cc Go.Proofs.Hd Go.Proofs.Rt
set_option maxRecDepth 20000
def kcell (s : ByteArray) : List Value := [.string s, .string (hdk s lFlow 32), .string (hdk s lMac 32), .string (hdk s lBody 32), .string (bld s), .string (hdk s lTag 16)]
def kcells (l : List ByteArray) : List Value := l.flatMap kcell
theorem kcells_cons (s : ByteArray) (l : List ByteArray) : kcells (s :: l) = .string s :: .string (hdk s lFlow 32) :: .string (hdk s lMac 32) :: .string (hdk s lBody 32) :: .string (bld s) :: .string (hdk s lTag 16) :: kcells l := by
  unfold kcells; rw [List.flatMap_cons]; unfold kcell; rw [List.cons_append, List.cons_append, List.cons_append, List.cons_append, List.cons_append, List.cons_append, List.nil_append]
theorem kcells_snoc (l : List ByteArray) (s : ByteArray) : kcells (l ++ [s]) = kcells l ++ kcell s := by
  unfold kcells; rw [List.flatMap_append, List.flatMap_cons, List.flatMap_nil, List.append_nil]
theorem kcells_len (l : List ByteArray) : (kcells l).length = l.length * 6 := by
  induction l with
  | nil => rfl
  | cons h l ih => rw [kcells_cons]; simp only [List.length_cons, ih]; omega
theorem kcells_at (l : List ByteArray) (i : Nat) (hi : i < l.length) : (kcells l)[i * 6]? = some (.string (nth l i)) ∧ (kcells l)[i * 6 + 1]? = some (.string (hdk (nth l i) lFlow 32)) ∧ (kcells l)[i * 6 + 2]? = some (.string (hdk (nth l i) lMac 32)) ∧ (kcells l)[i * 6 + 3]? = some (.string (hdk (nth l i) lBody 32)) ∧ (kcells l)[i * 6 + 4]? = some (.string (bld (nth l i))) ∧ (kcells l)[i * 6 + 5]? = some (.string (hdk (nth l i) lTag 16)) := by
  induction l generalizing i with
  | nil => simp at hi
  | cons h l ih =>
    rw [kcells_cons]
    cases i with
    | zero => exact ⟨by simp [nth], by simp [nth], by simp [nth], by simp [nth], by simp [nth], by simp [nth]⟩
    | succ i =>
      have := ih i (by simpa using hi)
      have e : (i + 1) * 6 = i * 6 + 6 := by omega
      have e2 : nth (h :: l) (i + 1) = nth l i := by unfold nth; rw [List.getD_cons_succ]
      rw [e, e2]
      simpa using this
theorem owns_hks {w : World} {base n : Nat} {v : Value} {l : List ByteArray} (h : w.ownsRow base 70 6 v n (kcells l)) : l.length = n ∧ ((v = .slice none 0 0 ∧ n = 0) ∨ ∃ g cap, v = .slice (some ⟨g, 0, none⟩) n cap ∧ HksAt w (some ⟨g, 0, none⟩) l ∧ base ≤ g ∧ g < w.heap.size ∧ n ≤ cap ∧ cap ≤ maxLen) := by
  obtain ⟨h1, h2⟩ := h
  have hl : l.length = n := by rw [kcells_len] at h1; omega
  refine ⟨hl, ?_⟩
  rcases h2 with h2 | ⟨g, cap, cur, rfl, hb, hh, hcap, hml, -, ht⟩
  · exact .inl h2
  · have hg : g < w.heap.size := by obtain ⟨q, -⟩ := Array.getElem?_eq_some_iff.1 hh; exact q
    refine .inr ⟨g, cap, rfl, fun i hi => ⟨g, 0, rfl, ?_⟩, hb, hg, hcap, hml⟩
    have key : ∀ j, j < n * 6 → w.cell? ⟨g, 0 + j, none⟩ = (kcells l)[j]? := fun j hj => by
      have e : cur[j]? = (kcells l)[j]? := by
        rw [← ht, List.getElem?_take_of_lt hj]; simp
      rw [Nat.zero_add]
      unfold World.cell?
      rw [hh]
      simp only [Option.isSome_none]
      show cur[j]? = _
      rw [e]
    obtain ⟨g0, g1, g2, g3, g4, g5⟩ := kcells_at l i hi
    refine ⟨?_, ?_, ?_, ?_, ?_, ?_⟩
    · rw [key (i * 6) (by omega)]; exact g0
    · rw [Nat.add_assoc, key (i * 6 + 1) (by omega)]; exact g1
    · rw [Nat.add_assoc, key (i * 6 + 2) (by omega)]; exact g2
    · rw [Nat.add_assoc, key (i * 6 + 3) (by omega)]; exact g3
    · rw [Nat.add_assoc, key (i * 6 + 4) (by omega)]; exact g4
    · rw [Nat.add_assoc, key (i * 6 + 5) (by omega)]; exact g5
theorem infoHk : (Tryz.prog.info? 70).map (fun i => (i.zero, i.size, i.bytes)) = some (some (.agg #[.string ⟨#[]⟩, .string ⟨#[]⟩, .string ⟨#[]⟩, .string ⟨#[]⟩, .string ⟨#[]⟩, .string ⟨#[]⟩]), 6, 96) := by kernel_rfl
theorem own_lat {w w' : World} {base : Nat} {e : TypeId} {size : Nat} {v : Value} {n : Nat} {xs : List Value} (h : w.ownsRow base e size v n xs) (hb : Below w.heap.size w w') : w'.ownsRow base e size v n xs := by
  refine ⟨h.1, ?_⟩
  rcases h.2 with hn | ⟨g, cap, cur, rfl, hbg, hgg, rest⟩
  · exact .inl hn
  · refine .inr ⟨g, cap, cur, rfl, hbg, ?_, rest⟩
    rw [hb.block g (Array.getElem?_eq_some_iff.1 hgg).1]
    exact hgg
theorem own_apart {w w' : World} {base base2 : Nat} {e e2 : TypeId} {size size2 : Nat} {v v2 : Value} {n n2 : Nat} {xs xs2 : List Value} (h : w.ownsRow base e size v n xs) (h2 : w.ownsRow base2 e2 size2 v2 n2 xs2) (hne : e ≠ e2) (hg : w.grownBy w' v2.ownBlock) : w'.ownsRow base e size v n xs := by
  refine ⟨h.1, ?_⟩
  rcases h.2 with hn | ⟨g, cap, cur, rfl, hbg, hgg, rest⟩
  · exact .inl hn
  · refine .inr ⟨g, cap, cur, rfl, hbg, ?_, rest⟩
    have hl := (Array.getElem?_eq_some_iff.1 hgg).1
    rw [hg.block g hl ?_]
    · exact hgg
    · intro he
      rcases h2.2 with ⟨rfl, -⟩ | ⟨g2, cap2, cur2, rfl, -, hg2, -⟩
      · cases he
      · have : g2 = g := by simpa [Value.ownBlock] using he.symm
        subst this
        rw [hgg] at hg2
        injection hg2 with hg2
        injection hg2 with _ q
        exact hne q
theorem blk_apart {w w' : World} {base2 : Nat} {e e2 : TypeId} {size2 : Nat} {v2 : Value} {n2 : Nat} {xs2 : List Value} {b : Nat} {cs : Array Value} (h : w.heap[b]? = some (.cells cs e)) (h2 : w.ownsRow base2 e2 size2 v2 n2 xs2) (hne : e ≠ e2) (hg : w.grownBy w' v2.ownBlock) : w'.heap[b]? = some (.cells cs e) := by
  have hl := (Array.getElem?_eq_some_iff.1 h).1
  rw [hg.block b hl ?_]
  · exact h
  · intro he
    rcases h2.2 with ⟨rfl, -⟩ | ⟨g2, cap2, cur2, rfl, -, hg2, -⟩
    · cases he
    · have : g2 = b := by simpa [Value.ownBlock] using he.symm
      subst this
      rw [h] at hg2
      injection hg2 with hg2
      injection hg2 with _ q
      exact hne q
theorem cells_of_blk {w : World} {b : Nat} {cs : Array Value} {e : TypeId} (h : w.heap[b]? = some (.cells cs e)) : ∀ j u, cs.toList[j]? = some u → w.cell? (Addr.add ⟨b, 0, none⟩ j) = some u := fun j u hu => by
  have q : Addr.add ⟨b, 0, none⟩ j = ⟨b, j, none⟩ := by first | (simp [Addr.add]; done) | (simp [Addr.add]; intro h; simp [h])
  rw [q]
  unfold World.cell?
  rw [h]
  simp only [Option.isSome_none]
  show cs[j]? = _
  simpa using hu
theorem owns_new (w : World) (base : Nat) (e : TypeId) (size : Nat) (xs : List Value) (hb : base ≤ w.heap.size) (hl : xs.length = size) : (w.alloc (.cells xs.toArray e)).ownsRow base e size (.slice (some ⟨w.heap.size, 0, none⟩) 1 1) 1 xs := by
  refine ⟨by omega, .inr ⟨w.heap.size, 1, xs.toArray, rfl, hb, ?_, Nat.le_refl _, by unfold maxLen; omega, by simp [hl], by simp [← hl]⟩⟩
  show (w.heap.push _)[w.heap.size]? = _
  simp
theorem secs_cons (seed p : ByteArray) (ps bs : List ByteArray) : secs seed (p :: ps) bs = (Crv.chn (seed :: bs) p).bind fun s => (secs seed ps (bs ++ [bld s])).map (s :: ·) := secsG_cons _ _ _ _ _
theorem secs_nil (seed : ByteArray) (bs : List ByteArray) : secs seed [] bs = some [] := secsG_nil _ _ _
def Made (seed : ByteArray) (pts : List ByteArray) (k : Nat) (ss : List ByteArray) : Prop := ss.length = k ∧ secs seed pts [] = (secs seed (pts.drop k) (ss.map bld)).map (ss ++ ·)
theorem Made.zero (seed : ByteArray) (pts : List ByteArray) : Made seed pts 0 [] := ⟨rfl, by
  rw [List.drop_zero, List.map_nil]
  cases secs seed pts [] <;> simp⟩
theorem Made.none {seed : ByteArray} {pts : List ByteArray} {k : Nat} {ss : List ByteArray} (h : Made seed pts k ss) (hk : k < pts.length) (hc : Crv.chn (seed :: ss.map bld) pts[k] = none) : secs seed pts [] = none := by
  rw [h.2, List.drop_eq_getElem_cons hk, secs_cons, hc, Option.bind_none, Option.map_none]
theorem Made.succ {seed : ByteArray} {pts : List ByteArray} {k : Nat} {ss : List ByteArray} (h : Made seed pts k ss) (hk : k < pts.length) (s : ByteArray) (hc : Crv.chn (seed :: ss.map bld) pts[k] = some s) : Made seed pts (k + 1) (ss ++ [s]) := by
  refine ⟨by rw [List.length_append, h.1]; rfl, ?_⟩
  rw [h.2, List.drop_eq_getElem_cons hk, secs_cons, hc, Option.bind_some, List.map_append, List.map_cons, List.map_nil]
  cases secs seed (pts.drop (k + 1)) (ss.map bld ++ [bld s]) with
  | none => rfl
  | some l => simp
theorem Made.all {seed : ByteArray} {pts : List ByteArray} {ss : List ByteArray} (h : Made seed pts pts.length ss) : secs seed pts [] = some ss := by
  rw [h.2, List.drop_length, secs_nil]; simp
theorem bld_size (s : ByteArray) : (bld s).size = 32 := hdk_size _ _ _
theorem wh_blds (seed : ByteArray) (ss : List ByteArray) (h : seed.size = 32) : Crv.wh (seed :: ss.map bld) = true := by
  unfold Crv.wh
  rw [List.all_eq_true]
  intro x hx
  rcases List.mem_cons.1 hx with rfl | hx
  · simpa using h
  · obtain ⟨s, -, rfl⟩ := List.mem_map.1 hx
    simpa using bld_size s
end Go.Proofs.YtgnkkjknngblbaaGreatDoor
