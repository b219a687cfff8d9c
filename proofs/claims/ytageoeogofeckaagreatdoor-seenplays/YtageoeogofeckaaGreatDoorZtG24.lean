/- The document's set in memory: its block, its tags with their epochs. -/
import Derived.Test.YtageoeogofeckaaGreatDoorZtG23
namespace Go.Proofs.YtageoeogofeckaaGreatDoor
open Go.RowKit Go.Proofs.Fd Go.Proofs.Dk Go.Proofs.Lg
set_option maxRecDepth 20000
abbrev Hx := Bs × Int
def hx1 (x : Hx) : List Value := [sv x.1, .int .i64 x.2]
def hxs2 : List Hx → List Value
  | [] => []
  | x :: l => hx1 x ++ hxs2 l
theorem hxs2_app : ∀ l m : List Hx, hxs2 (l ++ m) = hxs2 l ++ hxs2 m
  | [], _ => rfl
  | t :: l, m => by rw [List.cons_append, hxs2, hxs2_app l m, hxs2, List.append_assoc]
theorem hxs2_len : ∀ l : List Hx, (hxs2 l).length = l.length * 2
  | [] => rfl
  | t :: l => by rw [hxs2, List.length_append, hxs2_len l, List.length_cons, hx1]; simp; omega
theorem hxs2_one : ∀ (l : List Hx), ∀ u ∈ hxs2 l, u.oneCell' = true
  | [], u, h => by cases h
  | t :: l, u, h => by
    rw [hxs2, List.mem_append] at h
    rcases h with h | h
    · simp only [hx1, List.mem_cons, List.not_mem_nil, or_false] at h
      rcases h with rfl | rfl <;> rfl
    · exact hxs2_one l u h
theorem hxs2_get : ∀ (l : List Hx) (i : Nat) (hi : i < l.length), (hxs2 l)[i * 2]? = some (sv l[i].1) ∧ (hxs2 l)[i * 2 + 1]? = some (.int .i64 l[i].2)
  | [], i, hi => absurd hi (Nat.not_lt_zero _)
  | t :: l, 0, _ => ⟨rfl, rfl⟩
  | t :: l, i + 1, hi => by
    have ih := hxs2_get l i (by simpa using hi)
    rw [show (i + 1) * 2 = i * 2 + 2 by omega]
    exact ih
abbrev OwnsH (w : World) (v : Value) (l : List Hx) : Prop := w.ownsRow 0 77 2 v l.length (hxs2 l)
theorem infoH : (Tryz.prog.info? 77).map (fun i => (i.zero, i.size, i.bytes)) = some (some (.agg #[.string ⟨#[]⟩, .int .i64 0]), 2, 24) := by kernel_rfl
theorem ownsH_slice {w : World} {v : Value} {l : List Hx} (h : OwnsH w v l) : ∃ a c, v = .slice a l.length c := by
  rcases h.2 with ⟨rfl, h2⟩ | ⟨g, cap, cur, rfl, -⟩
  · exact ⟨_, _, by rw [h2]⟩
  · exact ⟨_, _, rfl⟩
theorem ownsH_cells {w : World} {va : Option Addr} {n c : Nat} {l : List Hx} (h : OwnsH w (.slice va n c) l) (i : Nat) (hi : i < l.length) : ∃ g, va = some ⟨g, 0, none⟩ ∧ (Value.slice va n c).ownBlock = some g ∧ w.cell? ⟨g, i * 2, none⟩ = some (sv l[i].1) ∧ w.cell? ⟨g, i * 2 + 1, none⟩ = some (.int .i64 l[i].2) := by
  rcases h.2 with ⟨h1, h2⟩ | ⟨g, cap, cur, h1, -⟩
  · omega
  · have h1' := h1
    injection h1' with e1 e2 e3
    subst e1
    subst e2
    obtain ⟨a1, a2⟩ := hxs2_get l i hi
    exact ⟨g, rfl, rfl, by rw [h.cellAt _ (by omega), a1], by rw [h.cellAt _ (by omega), a2]⟩
theorem owns_nilH (w : World) : OwnsH w (.slice none 0 0) [] := World.ownsRow_nil _ _ _ _
abbrev rsc (q most ep : Nat) (v : Value) : List Value := [.pointer (some ⟨q, 0, none⟩), .int .i64 (most : Int), .int .i64 (ep : Int), v]
structure Rs (w : World) (b q most ep : Nat) (v : Value) (l : List Hx) : Prop where
  bk : Blk w b (rsc q most ep v)
  row : OwnsH w v l
  bv : v.ownBlock ≠ some b
section
variable {w : World} {b q most ep : Nat} {v : Value} {l : List Hx}
theorem Rs.lt (h : Rs w b q most ep v l) {x : Nat} (hx : HFt b v x) : x < w.heap.size := by
  rcases hx with rfl | e
  · exact h.bk.lt
  · exact (h.row.lt x e).2
theorem Rs.same (h : Rs w b q most ep v l) {w' : World} (hs : ∀ x, HFt b v x → w'.heap[x]? = w.heap[x]?) : Rs w' b q most ep v l :=
  ⟨h.bk.same (hs b (.inl rfl)), ownsRow_same h.row (fun x e => hs x (.inr e)), h.bv⟩
theorem Rs.later (h : Rs w b q most ep v l) {w' : World} (hb : Below w.heap.size w w') : Rs w' b q most ep v l := h.same fun x hx => hb.block x (h.lt hx)
theorem Rs.bf (h : Rs w b q most ep v l) {F : Nat → Prop} {w' : World} (hb : Bf F w w') (hF : ∀ x, HFt b v x → ¬ F x) : Rs w' b q most ep v l := h.same fun x hx => hb.block x (h.lt hx) (hF x hx)
theorem Rs.row' (h : Rs w b q most ep v l) {w1 : World} (hb : Below w.heap.size w w1) {u : Value} {m : List Hx} (ho : OwnsH w1 u m) (hu : ∀ x, u.ownBlock = some x → w.heap.size ≤ x) :
    Rs (w1.setCell ⟨b, 3, none⟩ u) b q most ep u m ∧ Bf (HFt b v) w (w1.setCell ⟨b, 3, none⟩ u) ∧ Nx w (HFt b v) (HFt b u) := by
  have hq := h.bk.lt
  have nq : u.ownBlock ≠ some b := fun e => by have := hu b e; omega
  refine ⟨⟨(h.bk.later hb).set 3 (show 3 < 4 by decide) u, ownsRow_same ho (fun x e => Below.heap_setCell w1 ⟨b, 3, none⟩ u x (fun c => nq (by rw [e, c]))), nq⟩, bf_set (Bf.of hb) (.inl rfl), fun y hy => ?_⟩
  rcases hy with e | e
  · exact .inl (.inl e)
  · exact .inr (hu y e)
theorem Rs.ep' (h : Rs w b q most ep v l) (k : Nat) : Rs (w.setCell ⟨b, 2, none⟩ (.int .i64 (k : Int))) b q most k v l ∧ Bf (HFt b v) w (w.setCell ⟨b, 2, none⟩ (.int .i64 (k : Int))) :=
  ⟨⟨h.bk.set 2 (show 2 < 4 by decide) _, ownsRow_same h.row (fun x e => Below.heap_setCell w ⟨b, 2, none⟩ _ x (fun c => h.bv (by rw [e, c]))), h.bv⟩, Bf.set _ w b 2 _ (.inl rfl)⟩
end
set_option maxHeartbeats 1000000 in
theorem rshas_any (b q most ep : Nat) (v : Value) (l : List Hx) (hn : l.length ≤ 100000) (X : ByteArray) (w : World) (h : Hid (Rs w b q most ep v l)) :
    Calls Tryz.prog 28 #[.pointer (some ⟨b, 0, none⟩), .string X] w fun e w' => e = .returned (.bool (decide (X.data.toList ∈ l.map (·.1)))) ∧ w' = w := by
  obtain ⟨va, vc, rfl⟩ := ownsH_slice h.out.row
  have k3 := h.out.bk.c 3 _ rfl
  obtain ⟨n, hnn⟩ : ∃ n, l.length = n := ⟨_, rfl⟩
  have HN : Hid (l.length = n) := hnn
  have CS : Hid (∀ i (hi : i < l.length), ∃ g, va = some ⟨g, 0, none⟩ ∧ w.cell? ⟨g, i * 2, none⟩ = some (sv l[i].1)) := fun i hi => by
    obtain ⟨g, e1, -, e2, -⟩ := ownsH_cells h.out.row i hi
    exact ⟨g, e1, e2⟩
  rw [hnn] at k3 hn
  clear h hnn
  go_enter Tryz.func28, Tryz.ntmps28
  go_wp2
  go_loopw [5] (fun i wr => ∃ k : Nat, k ≤ n ∧ i = .int .i64 (k : Int) ∧ Hid (X.data.toList ∉ (l.take k).map (·.1)) ∧ w = wr) (fun i _ => n - (intOf i).toNat)
  case atStart => exact ⟨0, Nat.zero_le _, rfl, (by rw [List.take_zero]; exact List.not_mem_nil), rfl⟩
  case round =>
    obtain ⟨k, hk, rfl, J, rfl⟩ := hrel
    by_cases hlt : k < n
    · have hkl : k < l.length := by rw [HN.out]; exact hlt
      have g1 : (k : Int) < (n : Int) := by omega
      obtain ⟨g, rfl, c1⟩ := CS.out k hkl
      have ET : Hid (l.take (k + 1) = l.take k ++ [l[k]]) := List.take_succ_eq_append_getElem hkl
      have EM : Hid (l[k].1 ∈ l.map (·.1)) := List.mem_map_of_mem (List.getElem_mem hkl)
      obtain ⟨⟨t, e⟩, ht⟩ : ∃ t, l[k] = t := ⟨_, rfl⟩
      rw [ht] at c1 ET EM
      unfold sv at c1
      clear ht
      by_cases he : X = st t
      · have c2 : w.cell? ⟨g, k * 2, none⟩ = some (.string X) := by rw [he]; exact c1
        have EM2 : Hid (X.data.toList ∈ l.map (·.1)) := by rw [he]; exact EM.out
        clear he c1 J ET EM
        go_wp2
        go_ret
        exact ⟨by rw [decide_eq_true EM2.out]; rfl, rfl⟩
      · have HE : Hid (X.data.toList ≠ t) := fun c => he (by rw [← c]; rfl)
        have hne : ((st t).toList == X.toList) = false := by
          rw [ByteArray.toList_eq, ByteArray.toList_eq]
          exact beq_eq_false_iff_ne.2 (Ne.symm HE.out)
        obtain ⟨T, hT⟩ : ∃ T, st t = T := ⟨_, rfl⟩
        rw [hT] at c1 hne
        clear hT he
        go_wp2
        go_roundw
        case rel => exact ⟨k + 1, by omega, rfl, (by rw [ET.out, List.map_append]; intro c; rcases List.mem_append.1 c with c | c; exact J.out c; exact HE.out (List.mem_singleton.1 c)), by first | rfl | trivial⟩
        case measure => simp [intOf]; omega
    · have g1 : ¬ (k : Int) < (n : Int) := by omega
      have HF : Hid (X.data.toList ∉ l.map (·.1)) := by
        have := J.out
        rw [List.take_of_length_le (show l.length ≤ k by rw [HN.out]; omega)] at this
        exact this
      clear J
      go_wp2
      go_ret
      exact ⟨by rw [decide_eq_false HF.out]; rfl, by first | rfl | trivial⟩
end Go.Proofs.YtageoeogofeckaaGreatDoor
