/- Commands of hops: their bytes' ends; paths: pure. -/
import Derived.Test.YthcopaeelbaobaaRM
namespace Go.Proofs.Rt
theorem byt_first (h : Hp) (e : ok h = true) : ((byt h).getD 0 0).toNat = h.k := by
  have g0 : (byt h).getD 0 0 = UInt8.ofNat h.k.toNat := rfl
  rw [g0, u8_of]
  · rcases ok_cases h e with g | g | g | g <;> omega
  · rcases ok_cases h e with g | g | g | g <;> omega
theorem byt_last (h : Hp) (e : ok h = true) : (byt h).drop 20 = [0, 0, 0, 0] := by
  have hs := id_len h e
  have : (byt h).drop 4 = h.id.data.toList ++ List.replicate (20 - h.id.size) 0 := rfl
  have e1 : (byt h).drop 20 = ((byt h).drop 4).drop 16 := by rw [List.drop_drop]
  rw [e1, this]
  rcases hs with g | g
  · rw [ba_zero _ g]; rfl
  · rw [List.drop_append_of_le_length (by simp [g]), List.drop_of_length_le (by simp [g]), g]; rfl
theorem pth_no (l : List Hp) (j : Nat) (hj : j < l.length) (h : ¬ ok (l.getD j zh) = true) : pth l = 70 := by
  unfold pth
  rw [if_neg]
  intro g
  rw [List.all_eq_true] at g
  apply h
  rw [List.getD_eq_getElem?_getD, List.getElem?_eq_getElem hj]
  exact g _ (List.getElem_mem hj)
theorem all_ok (l : List Hp) (h : ∀ j, j < l.length → ok (l.getD j zh) = true) : l.all ok = true := by
  rw [List.all_eq_true]
  intro x hx
  obtain ⟨j, hj, rfl⟩ := List.mem_iff_getElem.1 hx
  have := h j hj
  rw [List.getD_eq_getElem?_getD, List.getElem?_eq_getElem hj] at this
  exact this
theorem pth_len (l : List Hp) (h : l.all ok = true) (hl : l.length = 0 ∨ 5 < l.length) : pth l = 4 := by
  unfold pth; rw [if_pos h, if_pos hl]
theorem pth_shape (l : List Hp) (h : l.all ok = true) (hl : ¬ (l.length = 0 ∨ 5 < l.length)) (j : Nat) (hj : j < l.length) (hs : ¬ ((l.getD j zh).k = 1 ↔ j + 1 < l.length)) : pth l = 4 := by
  unfold pth; rw [if_pos h, if_neg hl, if_neg]
  intro g
  unfold shp at g
  rw [List.all_eq_true] at g
  have := g j (List.mem_range.2 hj)
  apply hs
  by_cases q1 : (l.getD j zh).k = 1 <;> by_cases q2 : j + 1 < l.length <;> simp_all
theorem pth_ok (l : List Hp) (h : l.all ok = true) (hl : ¬ (l.length = 0 ∨ 5 < l.length)) (hs : ∀ j, j < l.length → ((l.getD j zh).k = 1 ↔ j + 1 < l.length)) : pth l = 0 := by
  unfold pth; rw [if_pos h, if_neg hl, if_pos]
  unfold shp
  rw [List.all_eq_true]
  intro j hj
  have := hs j (List.mem_range.1 hj)
  by_cases q1 : (l.getD j zh).k = 1 <;> by_cases q2 : j + 1 < l.length <;> simp_all
theorem pth_zero (l : List Hp) (h : pth l = 0) : l.all ok = true ∧ 1 ≤ l.length ∧ l.length ≤ 5 ∧ ∀ j, j < l.length → ((l.getD j zh).k = 1 ↔ j + 1 < l.length) := by
  unfold pth at h
  split at h
  · rename_i h1
    split at h
    · exact absurd h (by decide)
    · rename_i h2
      split at h
      · rename_i h3
        refine ⟨h1, by omega, by omega, fun j hj => ?_⟩
        unfold shp at h3
        rw [List.all_eq_true] at h3
        have := h3 j (List.mem_range.2 hj)
        by_cases q1 : (l.getD j zh).k = 1 <;> by_cases q2 : j + 1 < l.length <;> simp_all
      · exact absurd h (by decide)
  · exact absurd h (by decide)
theorem getD_take (l : List Hp) (m j : Nat) (h : j < m) : (l.take m).getD j zh = l.getD j zh := by
  rw [List.getD_eq_getElem?_getD, List.getD_eq_getElem?_getD, List.getElem?_take_of_lt h]
theorem pth_less (l : List Hp) (h : pth l = 0) (h2 : 1 < l.length) : pth (l.take (l.length - 1)) = 4 := by
  obtain ⟨g1, g2, g3, g4⟩ := pth_zero l h
  have hl : (l.take (l.length - 1)).length = l.length - 1 := by rw [List.length_take]; omega
  refine pth_shape _ ?_ (by omega) (l.length - 2) (by omega) ?_
  · rw [List.all_eq_true] at g1 ⊢
    exact fun x hx => g1 x (List.mem_of_mem_take hx)
  · rw [getD_take _ _ _ (by omega), hl]
    have := g4 (l.length - 2) (by omega)
    intro q
    have := this.2 (by omega)
    have := q.1 this
    omega
theorem pth_more (h : Hp) (l : List Hp) (hl : pth l = 0) (hk : ok h = true) (h1 : h.k = 1) : pth (h :: l) = if l.length < 5 then 0 else 4 := by
  obtain ⟨g1, g2, g3, g4⟩ := pth_zero l hl
  have ga : (h :: l).all ok = true := by rw [List.all_cons, hk, g1]; rfl
  by_cases q : l.length < 5
  · rw [if_pos q]
    refine pth_ok _ ga (by simp; omega) fun j hj => ?_
    cases j with
    | zero => simp; exact ⟨fun _ => by cases l with | nil => simp at g2 | cons x y => simp, fun _ => h1⟩
    | succ j =>
      have := g4 j (by simpa using hj)
      rw [List.length_cons]
      show (l.getD j zh).k = 1 ↔ _
      rw [this]
      omega
  · rw [if_neg q]
    exact pth_len _ ga (by simp; omega)
end Go.Proofs.Rt
