/- How timers stand, as the program asks it. -/
import Derived.Test.YthnkkkiobbnpmaaWhB
import Derived.Shelf.GgSortFunc.RowK
namespace Go.Proofs.Ythnkkkiobbnpmaa
open Go.RowKit Go.Proofs.Fd Go.Proofs.Wh
set_option maxRecDepth 20000

def cmpI (x y : Int) : Int := if x < y then -1 else if y < x then 1 else 0
def cmpT (x y : Tm) : Int := if cmpI x.a y.a = 0 then cmpI x.n y.n else cmpI x.a y.a
theorem nan_any (x : Int) (w : World) : Calls Try.prog 47 #[.int .i64 x] w fun e w' => e = .returned (.bool false) ∧ w' = w := by
  go_enter Try.func47, Try.ntmps47
  go_wp2
  go_ret
  exact ⟨rfl, rfl⟩
theorem compare_any (x y : Int) (w : World) : Calls Try.prog 36 #[.int .i64 x, .int .i64 y] w fun e w' => e = .returned (.int .i64 (cmpI x y)) ∧ w' = w := by
  have n1 := fun W => nan_any x W
  have n2 := fun W => nan_any y W
  unfold cmpI
  by_cases h1 : x < y
  · rw [if_pos h1]
    go_enter Try.func36, Try.ntmps36
    go_wp2_with (first | (go_at_call 47; refine (n1 _).mono ?_; rintro e w' ⟨rfl, rfl⟩) | (go_at_call 47; refine (n2 _).mono ?_; rintro e w' ⟨rfl, rfl⟩))
    go_ret
    exact ⟨rfl, rfl⟩
  · rw [if_neg h1]
    by_cases h2 : y < x
    · rw [if_pos h2]
      go_enter Try.func36, Try.ntmps36
      go_wp2_with (first | (go_at_call 47; refine (n1 _).mono ?_; rintro e w' ⟨rfl, rfl⟩) | (go_at_call 47; refine (n2 _).mono ?_; rintro e w' ⟨rfl, rfl⟩))
      go_ret
      exact ⟨rfl, rfl⟩
    · rw [if_neg h2]
      go_enter Try.func36, Try.ntmps36
      go_wp2_with (first | (go_at_call 47; refine (n1 _).mono ?_; rintro e w' ⟨rfl, rfl⟩) | (go_at_call 47; refine (n2 _).mono ?_; rintro e w' ⟨rfl, rfl⟩))
      go_ret
      exact ⟨rfl, rfl⟩
theorem or_any (g : Nat) (x y : Int) (w : World) (h1 : w.cell? ⟨g, 0, none⟩ = some (.int .i64 x)) (h2 : w.cell? ⟨g, 1, none⟩ = some (.int .i64 y)) :
    Calls Try.prog 35 #[.slice (some ⟨g, 0, none⟩) 2 2] w fun e w' => e = .returned (.int .i64 (if x = 0 then y else x)) ∧ w' = w := by
  by_cases hx : x = 0
  · rw [if_pos hx]
    subst hx
    by_cases hy : y = 0
    · subst hy
      go_enter Try.func35, Try.ntmps35
      go_wp2
      refine wp_loop_rounds 4 ?_
      rw [rounds_succ]
      go_wp2
      rw [rounds_succ]
      go_wp2
      rw [rounds_succ]
      go_wp2
      go_ret
      exact ⟨rfl, rfl⟩
    · go_enter Try.func35, Try.ntmps35
      go_wp2
      refine wp_loop_rounds 4 ?_
      rw [rounds_succ]
      go_wp2
      rw [rounds_succ]
      go_wp2
      go_ret
      exact ⟨rfl, rfl⟩
  · rw [if_neg hx]
    go_enter Try.func35, Try.ntmps35
    go_wp2
    refine wp_loop_rounds 4 ?_
    rw [rounds_succ]
    go_wp2
    go_ret
    exact ⟨rfl, rfl⟩
/-- Some draws and new blocks behind a world. -/
def Gr (w w' : World) : Prop := ∃ q os, w' = Go.Sort.grow (w.drewN q) os
theorem Gr.refl (w : World) : Gr w w := ⟨0, #[], by simp; rfl⟩
theorem Gr.alloc {w w' : World} (h : Gr w w') (o : Obj) : Gr w (w'.alloc o) := by
  obtain ⟨q, os, rfl⟩ := h
  exact ⟨q, os ++ #[o], by rw [Go.Sort.alloc_eq_grow, Go.Sort.grow_grow]⟩
theorem Gr.drew {w w' : World} (h : Gr w w') : Gr w w'.drew := by
  obtain ⟨q, os, rfl⟩ := h
  exact ⟨q + 1, os, rfl⟩
theorem Gr.below {w w' : World} (h : Gr w w') : Below w.heap.size w w' := by
  obtain ⟨q, os, rfl⟩ := h
  exact ⟨rfl, rfl, rfl, by simp, fun k hk => Go.Sort.heap_grow_old _ os hk⟩
def C4 (w : World) (g h : Nat) (xa xn ya yn : Int) (w' : World) : Prop := w'.cell? ⟨g, 0, none⟩ = some (.int .i64 xa) ∧ w'.cell? ⟨g, 1, none⟩ = some (.int .i64 xn) ∧ w'.cell? ⟨h, 0, none⟩ = some (.int .i64 ya) ∧ w'.cell? ⟨h, 1, none⟩ = some (.int .i64 yn) ∧ Gr w w'
theorem keepS {w w' : World} {g h : Nat} {xa xn ya yn : Int} (o : Obj) (k : w'.cell? ⟨g, 0, none⟩ = some (.int .i64 xa) ∧ w'.cell? ⟨g, 1, none⟩ = some (.int .i64 xn) ∧ w'.cell? ⟨h, 0, none⟩ = some (.int .i64 ya) ∧ w'.cell? ⟨h, 1, none⟩ = some (.int .i64 yn) ∧ Gr w w') :
    (w'.alloc o).cell? ⟨g, 0, none⟩ = some (.int .i64 xa) ∧ (w'.alloc o).cell? ⟨g, 1, none⟩ = some (.int .i64 xn) ∧ (w'.alloc o).cell? ⟨h, 0, none⟩ = some (.int .i64 ya) ∧ (w'.alloc o).cell? ⟨h, 1, none⟩ = some (.int .i64 yn) ∧ Gr w (w'.alloc o) :=
  ⟨cell_alloc k.1, cell_alloc k.2.1, cell_alloc k.2.2.1, cell_alloc k.2.2.2.1, k.2.2.2.2.alloc o⟩
set_option maxHeartbeats 1000000 in
theorem stand_any (x y : Tm) (w : World) :
    Calls Try.prog 30 #[.agg #[.int .i64 (x.a : Int), .int .i64 (x.n : Int), .int .i64 x.i], .agg #[.int .i64 (y.a : Int), .int .i64 (y.n : Int), .int .i64 y.i]] w fun e w' => e = .returned (.int .i64 (cmpT x y)) ∧ Gr w w' := by
  have C1 : Hid (∀ W, Calls Try.prog 36 #[.int .i64 (x.a : Int), .int .i64 (y.a : Int)] W fun e w' => e = .returned (.int .i64 (cmpI x.a y.a)) ∧ w' = W) := fun W => compare_any x.a y.a W
  have C2 : Hid (∀ W, Calls Try.prog 36 #[.int .i64 (x.n : Int), .int .i64 (y.n : Int)] W fun e w' => e = .returned (.int .i64 (cmpI x.n y.n)) ∧ w' = W) := fun W => compare_any x.n y.n W
  unfold cmpT
  obtain ⟨u, hu⟩ : ∃ u, cmpI x.a y.a = u := ⟨_, rfl⟩
  obtain ⟨v, hv⟩ : ∃ v, cmpI x.n y.n = v := ⟨_, rfl⟩
  rw [hu] at C1
  rw [hv] at C2
  rw [hu, hv]
  clear hu hv
  have C3' := fun g W h1 h2 => or_any g u v W h1 h2
  obtain ⟨r, hr⟩ : ∃ r, (if u = 0 then v else u) = r := ⟨_, rfl⟩
  rw [hr] at C3' ⊢
  have C3 : Hid _ := C3'
  clear hr C3'
  have c0 : ((w.alloc (.cells #[.int .i64 (x.a : Int), .int .i64 (x.n : Int), .int .i64 x.i] 59)).alloc (.cells #[.int .i64 (y.a : Int), .int .i64 (y.n : Int), .int .i64 y.i] 59)).cell? ⟨w.heap.size, 0, none⟩ = some (.int .i64 (x.a : Int)) := by simp [go_sem]
  have c1 : ((w.alloc (.cells #[.int .i64 (x.a : Int), .int .i64 (x.n : Int), .int .i64 x.i] 59)).alloc (.cells #[.int .i64 (y.a : Int), .int .i64 (y.n : Int), .int .i64 y.i] 59)).cell? ⟨w.heap.size, 1, none⟩ = some (.int .i64 (x.n : Int)) := by simp [go_sem]
  have c2 : ((w.alloc (.cells #[.int .i64 (x.a : Int), .int .i64 (x.n : Int), .int .i64 x.i] 59)).alloc (.cells #[.int .i64 (y.a : Int), .int .i64 (y.n : Int), .int .i64 y.i] 59)).cell? ⟨w.heap.size + 1, 0, none⟩ = some (.int .i64 (y.a : Int)) := by simp [go_sem]
  have c3 : ((w.alloc (.cells #[.int .i64 (x.a : Int), .int .i64 (x.n : Int), .int .i64 x.i] 59)).alloc (.cells #[.int .i64 (y.a : Int), .int .i64 (y.n : Int), .int .i64 y.i] 59)).cell? ⟨w.heap.size + 1, 1, none⟩ = some (.int .i64 (y.n : Int)) := by simp [go_sem]
  have hgr : Hid (Gr w ((w.alloc (.cells #[.int .i64 (x.a : Int), .int .i64 (x.n : Int), .int .i64 x.i] 59)).alloc (.cells #[.int .i64 (y.a : Int), .int .i64 (y.n : Int), .int .i64 y.i] 59))) := ((Gr.refl w).alloc _).alloc _
  go_enter Try.func30, Try.ntmps30
  go_wp2
  obtain ⟨W, hW⟩ : ∃ W, ((w.alloc (.cells #[.int .i64 (x.a : Int), .int .i64 (x.n : Int), .int .i64 x.i] 59)).alloc (.cells #[.int .i64 (y.a : Int), .int .i64 (y.n : Int), .int .i64 y.i] 59)) = W := ⟨_, rfl⟩
  rw [hW] at c0 c1 c2 c3 hgr ⊢
  clear hW
  obtain ⟨g, hg⟩ : ∃ g, w.heap.size = g := ⟨_, rfl⟩
  rw [hg] at c0 c1 c2 c3 ⊢
  clear hg
  go_region_held3 (fun w' => w'.cell? ⟨g, 0, none⟩ = some (.int .i64 (x.a : Int)) ∧ w'.cell? ⟨g, 1, none⟩ = some (.int .i64 (x.n : Int)) ∧ w'.cell? ⟨g + 1, 0, none⟩ = some (.int .i64 (y.a : Int)) ∧ w'.cell? ⟨g + 1, 1, none⟩ = some (.int .i64 (y.n : Int)) ∧ Gr w w') (first | exact ⟨c0, c1, c2, c3, hgr.out.drew⟩ | assumption | exact keepS _ (by assumption)) (first | (go_at_call 36; revert C1; intro C1; refine Calls.mono (C1.out _) ?_; rintro e w' ⟨rfl, rfl⟩; clear C1) | (go_at_call 36; refine Calls.mono (C2.out _) ?_; rintro e w' ⟨rfl, rfl⟩; clear C2) | (go_at_call 35; refine Calls.mono (C3.out _ _ (by simp [go_sem]) (by simp [go_sem])) ?_; rintro e w' ⟨rfl, rfl⟩))
  rename_i hH
  have hX : Hid (Gr w (W.alloc (.cells #[.int .i64 u, .int .i64 v] 3)).drew) := hH.2.2.2.2
  clear hH c0 c1 c2 c3 hgr
  go_wp2
  go_ret
  exact ⟨rfl, hX.out⟩
theorem cmpT_lt (x y : Tm) : cmpT x y < 0 ↔ lt x y := by
  unfold cmpT cmpI lt
  split <;> split <;> omega
end Go.Proofs.Ythnkkkiobbnpmaa
