/- Timers that are sorted. -/
import Derived.Test.YthnkkkiobbnpmaaWhR
import Derived.Shelf.SlSortCmp.WholeK
namespace Go.Proofs.Ythnkkkiobbnpmaa
open Go.RowKit Go.Proofs.Fd Go.Proofs.Wh
set_option maxRecDepth 20000

def sortAt : Go.Shelf.Ren := ⟨fun x => if x = 6 then 29 else if x = 14 then 34 else if x = 15 then 32 else if x = 20 then 39 else if x = 21 then 40 else if x = 22 then 41 else if x = 23 then 42 else if x = 24 then 43 else if x = 25 then 44 else if x = 26 then 45 else if x = 27 then 46 else if x = 28 then 37 else if x = 29 then 38 else if x = 46 then 48 else if x = 47 then 49 else if x = 48 then 50 else if x = 49 then 51 else if x = 50 then 52 else if x = 57 then 53 else 0, fun x => if x = 0 then 0 else if x = 3 then 3 else if x = 4 then 4 else if x = 5 then 5 else if x = 9 then 9 else if x = 20 then 20 else if x = 22 then 52 else if x = 24 then 59 else if x = 25 then 68 else if x = 39 then 71 else if x = 45 then 79 else if x = 46 then 80 else if x = 50 then 43 else if x = 53 then 76 else if x = 55 then 47 else if x = 66 then 86 else if x = 70 then 90 else if x = 76 then 92 else if x = 77 then 62 else 0, fun n => n⟩
set_option maxHeartbeats 2000000 in
theorem sortLies : SlLaysF0.n6 Try.prog sortAt :=
  { mixed := by kernel_rfl, f6 := ⟨Try.f29.name, by kernel_rfl, by kernel_rfl⟩, f14 := ⟨Try.f34.name, by kernel_rfl, by kernel_rfl⟩, f15 := by kernel_rfl, f20 := ⟨Try.f39.name, by kernel_rfl, by kernel_rfl⟩, f21 := ⟨Try.f40.name, by kernel_rfl, by kernel_rfl⟩, f22 := ⟨Try.f41.name, by kernel_rfl, by kernel_rfl⟩, f23 := ⟨Try.f42.name, by kernel_rfl, by kernel_rfl⟩, f24 := ⟨Try.f43.name, by kernel_rfl, by kernel_rfl⟩, f25 := ⟨Try.f44.name, by kernel_rfl, by kernel_rfl⟩, f26 := ⟨Try.f45.name, by kernel_rfl, by kernel_rfl⟩, f27 := ⟨Try.f46.name, by kernel_rfl, by kernel_rfl⟩, f28 := by kernel_rfl, f29 := by kernel_rfl, f46 := ⟨Try.f48.name, by kernel_rfl, by kernel_rfl⟩, f47 := by kernel_rfl, f48 := by kernel_rfl, f49 := ⟨Try.f51.name, by kernel_rfl, by kernel_rfl⟩, f50 := ⟨Try.f52.name, by kernel_rfl, by kernel_rfl⟩, f57 := ⟨Try.f53.name, by kernel_rfl, by kernel_rfl⟩, t0 := by kernel_rfl, a0 := fun _ => by kernel_rfl, z0 := fun _ => by kernel_rfl, v0 := fun _ => by kernel_rfl, t3 := by kernel_rfl, a3 := fun _ => by kernel_rfl, z3 := fun _ => by kernel_rfl, v3 := fun _ => by kernel_rfl, t4 := by kernel_rfl, a4 := fun _ => by kernel_rfl, z4 := fun _ => by kernel_rfl, v4 := fun _ => by kernel_rfl, t5 := by kernel_rfl, a5 := fun _ => by kernel_rfl, z5 := fun _ => by kernel_rfl, v5 := fun _ => by kernel_rfl, t9 := by kernel_rfl, a9 := fun _ => by kernel_rfl, z9 := fun _ => by kernel_rfl, v9 := fun _ => by kernel_rfl, t22 := by kernel_rfl, a22 := fun _ => by kernel_rfl, z22 := fun _ => by kernel_rfl, v22 := fun _ => by kernel_rfl, t25 := by kernel_rfl, a25 := fun _ => by kernel_rfl, z25 := fun _ => by kernel_rfl, v25 := fun _ => by kernel_rfl, t39 := by kernel_rfl, a39 := fun _ => by kernel_rfl, z39 := fun _ => by kernel_rfl, v39 := fun _ => by kernel_rfl, t45 := by kernel_rfl, a45 := fun _ => by kernel_rfl, z45 := fun _ => by kernel_rfl, v45 := fun _ => by kernel_rfl, t46 := by kernel_rfl, a46 := fun _ => by kernel_rfl, z46 := fun _ => by kernel_rfl, v46 := fun _ => by kernel_rfl, t50 := by kernel_rfl, a50 := fun _ => by kernel_rfl, z50 := fun _ => by kernel_rfl, v50 := fun _ => by kernel_rfl, t53 := by kernel_rfl, a53 := fun _ => by kernel_rfl, z53 := fun _ => by kernel_rfl, v53 := fun _ => by kernel_rfl, t55 := by kernel_rfl, a55 := fun _ => by kernel_rfl, z55 := fun _ => by kernel_rfl, v55 := fun _ => by kernel_rfl, t66 := by kernel_rfl, a66 := fun _ => by kernel_rfl, z66 := fun _ => by kernel_rfl, v66 := fun _ => by kernel_rfl, t70 := by kernel_rfl, a70 := fun _ => by kernel_rfl, z70 := fun _ => by kernel_rfl, v70 := fun _ => by kernel_rfl, t76 := by kernel_rfl, a76 := fun _ => by kernel_rfl, z76 := fun _ => by kernel_rfl, v76 := fun _ => by kernel_rfl, t77 := by kernel_rfl, a77 := fun _ => by kernel_rfl, z77 := fun _ => by kernel_rfl, v77 := fun _ => by kernel_rfl }
theorem swoT : Go.Sort.SWO (ltOf cmpT) := by
  have h : ∀ x y, ltOf cmpT x y = true ↔ lt x y := fun x y => by unfold ltOf; rw [decide_eq_true_eq]; exact cmpT_lt x y
  have h' : ∀ x y, ltOf cmpT x y = false ↔ ¬ lt x y := fun x y => by rw [← h]; simp
  refine ⟨fun x => (h' x x).2 (lt_irrefl x), fun x y z h1 h2 => (h x z).2 (lt_trans ((h x y).1 h1) ((h y z).1 h2)), fun x y z h1 h2 => ?_⟩
  rw [h'] at *
  unfold lt at *
  omega
theorem cmpLaysT [Inhabited Tm] (blk off size : Nat) (w : World) : CmpLays Try.prog 30 #[] tc 3 cmpT blk off size w := fun _ _ _ _ x y => stand_any x y _
theorem isAggT (w : World) : (isAgg 59).run Try.prog w = .ok true w := by kernel_rfl
theorem sizeT (w : World) : (Go.sizeOf 59).run Try.prog w = .ok 3 w := by kernel_rfl
theorem tc_get (t : Tm) (j : Nat) (hj : j < 3) : ∃ u, (tc t)[j]? = some u ∧ (tc t)[j]! = u := by
  match j, hj with
  | 0, _ => exact ⟨_, rfl, rfl⟩
  | 1, _ => exact ⟨_, rfl, rfl⟩
  | 2, _ => exact ⟨_, rfl, rfl⟩
theorem tcs_at : ∀ (l : List Tm) (j : Nat) (hj : j < l.length * 3), (tcs l)[j]? = some ((tc l[j / 3])[j % 3]!)
  | [], j, hj => absurd hj (by simp)
  | t :: l, j, hj => by
    rw [tcs]
    by_cases h : j < 3
    · rw [List.getElem?_append_left (by simpa [tc] using h)]
      have e1 : j / 3 = 0 := by omega
      have e2 : j % 3 = j := by omega
      simp only [e1, e2, List.getElem_cons_zero]
      obtain ⟨u, h1, h2⟩ := tc_get t j h
      rw [h1, h2]
    · rw [List.getElem?_append_right (by simp [tc]; omega)]
      have e0 : (tc t).length = 3 := rfl
      rw [e0, tcs_at l (j - 3) (by rw [List.length_cons] at hj; omega)]
      have e1 : j / 3 = (j - 3) / 3 + 1 := by omega
      have e2 : j % 3 = (j - 3) % 3 := by omega
      simp only [e1, e2, List.getElem_cons_succ]
theorem flat_tcs [Inhabited Tm] (l : List Tm) : (Go.Sort.flatK tc 3 l.toArray).toList = tcs l := by
  apply List.ext_getElem?
  intro j
  by_cases hj : j < l.length * 3
  · rw [tcs_at l j hj, Array.getElem?_toList, Array.getElem?_eq_getElem (by rw [Go.Sort.size_flatK]; simpa using hj), ← getElem!_pos, Go.Sort.get_flatK tc 3 l.toArray j (by simpa using hj)]
    have : j / 3 < l.toArray.size := by simp; omega
    rw [getElem!_pos l.toArray (j / 3) this]
    simp
  · rw [List.getElem?_eq_none (by rw [Array.length_toList, Go.Sort.size_flatK]; simp; omega), List.getElem?_eq_none (by rw [tcs_len]; omega)]
theorem sort_in [Inhabited Tm] (g cap : Nat) (l : List Tm) (n : Nat) (hn : l.length = n) (h1 : n ≤ 4096) (w : World) (h : OwnsT w (.slice (some ⟨g, 0, none⟩) n cap) l) :
    Calls Try.prog 29 #[.slice (some ⟨g, 0, none⟩) n cap, .func (.func 30) #[] #[]] w fun e w' => e = .returned (.tuple #[]) ∧ ∃ l' : List Tm, l'.Perm l ∧ l'.Pairwise (fun x y => ¬ lt y x) ∧ OwnsT w' (.slice (some ⟨g, 0, none⟩) n cap) l' ∧ w.grownBy w' (some g) := by
  subst hn
  rcases h.2 with ⟨h2, -⟩ | ⟨g', cap', cur, h2, -, hb, hnc, hcm, hcs, htk⟩
  · cases h2
  · cases h2
    have hF : Go.Sort.flatK tc 3 l.toArray = (tcs l).toArray := by apply Array.ext'; rw [flat_tcs]
    have hH : Go.Sort.HoldsK tc 3 w g 0 l.toArray := by
      intro j hj
      rw [Go.Sort.size_flatK] at hj
      have hj' : j < l.length * 3 := by simpa using hj
      refine ⟨?_, by simp [World.frozen?, hb]⟩
      rw [Nat.zero_add, h.cellAt j hj', tcs_at l j hj', Go.Sort.get_flatK tc 3 l.toArray j hj]
      have : j / 3 < l.toArray.size := by simp; omega
      rw [getElem!_pos l.toArray (j / 3) this]
      simp
    have eg : ∀ args w, (callFunc 30 args).run Try.prog w = .ok (.enter 30 args) w := enters_of Try.func30 (by kernel_rfl) rfl
    have hg : g < w.heap.size := (Array.getElem?_eq_some_iff.1 hb).1
    have hcon := AnyQ.slices_SortFunc sortLies 3 isAggT sizeT tc (fun _ => rfl) (fun x v hv => tcs_one [x] v (by simpa [tcs] using hv)) cmpT swoT 30 #[] g 0 cap l.toArray w eg (cmpLaysT g 0 l.toArray.size w) hH hg (by simp; omega)
    have es : l.toArray.size = l.length := by simp
    rw [es] at hcon
    change Calls Try.prog 29 _ _ _ at hcon
    refine Calls.mono hcon ?_
    rintro e w' ⟨rfl, d', m, os, ⟨p1, p2, p3⟩, hs, rfl⟩
    have d1 : d'.size = l.length := p1.trans es
    refine ⟨rfl, d'.toList, ?_, ?_, ?_, ?_⟩
    · have e1 : d'.extract 0 l.length = d' := by rw [← d1]; exact Array.extract_size
      have e2 : l.toArray.extract 0 l.length = l.toArray := by rw [← es]; exact Array.extract_size
      rw [e1, e2] at p3
      exact p3
    · rw [List.pairwise_iff_getElem]
      intro i j hi hj hij
      have := hs i j (Nat.zero_le _) hij (by rw [← d1]; simpa using hj)
      rw [getElem!_pos d' j (by simpa using hj), getElem!_pos d' i (by simpa using hi)] at this
      rw [← cmpT_lt]
      simpa [ltOf] using this
    · have dl : d'.toList.length = l.length := by simpa using d1
      have hF' : Go.Sort.flatK tc 3 d' = (tcs d'.toList).toArray := by
        apply Array.ext'
        have := flat_tcs d'.toList
        simpa using this
      refine ⟨by rw [tcs_len], .inr ⟨g, cap, Go.Sort.putCells id 0 (Go.Sort.flatK tc 3 d') cur, by rw [dl], Nat.zero_le _, ?_, by rw [dl]; omega, hcm, by simp [Go.Sort.putCells, hcs], ?_⟩⟩
      · unfold sortWorldK Go.Sort.putRowK
        rw [Go.Sort.heap_grow_old _ _ (by simpa [Go.Sort.putRow, Go.Sort.mapBlock, Go.Sort.ahead] using hg)]
        simp [Go.Sort.putRow, Go.Sort.mapBlock, Go.Sort.ahead, Array.getElem?_modify, hb, Go.Sort.onCells]
      · rw [hF', dl]
        apply List.ext_getElem?
        intro j
        by_cases hj : j < l.length * 3
        · have hj2 : j < (tcs d'.toList).length := by rw [tcs_len, dl]; exact hj
          have hj3 : j < cur.size := by rw [hcs]; omega
          rw [List.getElem?_take_of_lt hj, Array.getElem?_toList]
          simp [Go.Sort.putCells, hj2, hj3]
        · rw [List.getElem?_take_eq_none (by omega), List.getElem?_eq_none (by rw [tcs_len, dl]; omega)]
    · refine ⟨rfl, rfl, rfl, by simp [sortWorldK, Go.Sort.putRowK, Go.Sort.putRow, Go.Sort.mapBlock, Go.Sort.ahead], fun k hk hne => ?_⟩
      unfold sortWorldK Go.Sort.putRowK
      rw [Go.Sort.heap_grow_old _ _ (by simpa [Go.Sort.putRow, Go.Sort.mapBlock, Go.Sort.ahead] using hk)]
      have : g ≠ k := fun e => hne (by rw [e])
      simp [Go.Sort.putRow, Go.Sort.mapBlock, Go.Sort.ahead, Array.getElem?_modify, this]
theorem sort_any (g cap : Nat) (l : List Tm) (n : Nat) (hn : l.length = n) (h1 : n ≤ 4096) (w : World) (h : OwnsT w (.slice (some ⟨g, 0, none⟩) n cap) l) :
    Calls Try.prog 29 #[.slice (some ⟨g, 0, none⟩) n cap, .func (.func 30) #[] #[]] w fun e w' => e = .returned (.tuple #[]) ∧ ∃ l' : List Tm, l'.Perm l ∧ l'.Pairwise (fun x y => ¬ lt y x) ∧ OwnsT w' (.slice (some ⟨g, 0, none⟩) n cap) l' ∧ w.grownBy w' (some g) :=
  @sort_in ⟨⟨0, 0, 0⟩⟩ g cap l n hn h1 w h
end Go.Proofs.Ythnkkkiobbnpmaa
