/- A timer is put into the slot of its deadline. -/
import Derived.Test.YthnkkkiobbnpmaaWhR
import Derived.Lib.AppendZeros
namespace Go.Proofs.Ythnkkkiobbnpmaa
open Go.RowKit Go.Proofs.Fd Go.Proofs.Wh
set_option maxRecDepth 20000

theorem infoT : (Try.prog.info? 59).map (fun i => (i.zero, i.size, i.bytes)) = some (some (.agg #[.int .i64 0, .int .i64 0, .int .i64 0]), 3, 24) := by kernel_rfl
/-- One timer more behind a row. -/
theorem app_one (w : World) (ty : TypeId) (v : Value) (l : List Tm) (h : OwnsT w v l) (hl : l.length ≤ 4096) (t : Tm) (b : Nat) (c0 : w.cell? ⟨b, 0, none⟩ = some (.int .i64 (t.a : Int))) (c1 : w.cell? ⟨b, 1, none⟩ = some (.int .i64 (t.n : Int))) (c2 : w.cell? ⟨b, 2, none⟩ = some (.int .i64 t.i)) :
    ∃ v' w', (Builtin.append_ #[52, 52] ty #[v, .slice (some ⟨b, 0, none⟩) 1 1]).run Try.prog w = .ok v' w' ∧ OwnsT w' v' (l ++ [t]) ∧ w.grownBy w' v.ownBlock ∧ (v'.ownBlock = v.ownBlock ∨ v'.ownBlock = some w.heap.size) := by
  obtain ⟨i0, hi, hz0, hz1, hz2⟩ := info_parts infoT
  obtain ⟨v', w', r1, r2, r3, -, r5⟩ := run_append_own_at (P := Try.prog) w 0 52 ty 59 i0 _ 3 24 Try.underlying52 hi hz0 hz1 hz2 rfl (by decide) v l.length (tcs l) h ⟨b, 0, none⟩ 1 1 (tc t) rfl (fun j u hu => by
      have q : Addr.add ⟨b, 0, none⟩ j = ⟨b, j, none⟩ := by simp [Addr.add]; intro h; exact h.symm
      rw [q]
      match j, hu with
      | 0, hu => simp [tc] at hu; subst hu; exact c0
      | 1, hu => simp [tc] at hu; subst hu; exact c1
      | 2, hu => simp [tc] at hu; subst hu; exact c2
      | j + 3, hu => simp [tc] at hu) (tcs_one [t]) (by unfold maxLen; omega) (by omega) (Nat.zero_le _)
  refine ⟨v', w', r1, ?_, r3, r5⟩
  unfold OwnsT
  rw [tcs_app, List.length_append]
  simpa [tcs] using r2
theorem owns_slice {w : World} {v : Value} {l : List Tm} (h : OwnsT w v l) : ∃ a n c, v = .slice a n c := by
  rcases h.2 with ⟨rfl, -⟩ | ⟨g, cap, cur, rfl, -⟩
  · exact ⟨_, _, _, rfl⟩
  · exact ⟨_, _, _, rfl⟩
theorem keepB3 {w : World} {p B o : Nat} {v x y z : Value} (hne : p ≠ B) (h : w.cell? ⟨B, 0, none⟩ = some x ∧ w.cell? ⟨B, 1, none⟩ = some y ∧ w.cell? ⟨B, 2, none⟩ = some z) :
    (w.setCell ⟨p, o, none⟩ v).cell? ⟨B, 0, none⟩ = some x ∧ (w.setCell ⟨p, o, none⟩ v).cell? ⟨B, 1, none⟩ = some y ∧ (w.setCell ⟨p, o, none⟩ v).cell? ⟨B, 2, none⟩ = some z :=
  ⟨cell_setCell h.1 hne, cell_setCell h.2.1 hne, cell_setCell h.2.2 hne⟩
def opl0 : Oper := { dst := some 13, op := Go.Op.move (Go.Operand.tmp 0), type := 23, pos := "wheel.go:119", after := #[], guard := none }
def opl1 : Oper := { dst := some 14, op := Go.Op.move (Go.Operand.tmp 4), type := 3, pos := "wheel.go:119", after := #[], guard := none }
def opl2 : Oper := { dst := some 15, op := Go.Op.move (Go.Operand.tmp 5), type := 3, pos := "wheel.go:119", after := #[], guard := none }
def opl3 : Oper := { dst := some 16, op := Go.Op.move (Go.Operand.tmp 0), type := 23, pos := "wheel.go:119", after := #[], guard := none }
def opl4 : Oper := { dst := some 17, op := Go.Op.move (Go.Operand.tmp 4), type := 3, pos := "wheel.go:119", after := #[], guard := none }
def opl5 : Oper := { dst := some 18, op := Go.Op.move (Go.Operand.tmp 5), type := 3, pos := "wheel.go:119", after := #[], guard := none }
def opl6 : Oper := { dst := some 19, op := Go.Op.nilCheck (Go.Operand.tmp 16), type := 0, pos := "wheel.go:119", after := #[{ on := 3, ground := Go.Ground.data }], guard := none }
def opl7 : Oper := { dst := some 20, op := Go.Op.fieldAddr 56 (Go.Operand.tmp 19) 2, type := 0, pos := "wheel.go:119", after := #[{ on := 6, ground := Go.Ground.data }], guard := none }
def opl8 : Oper := { dst := some 21, op := Go.Op.indexAddr 54 (Go.Operand.tmp 20) (Go.Operand.tmp 17), type := 0, pos := "wheel.go:119", after := #[{ on := 7, ground := Go.Ground.data }, { on := 4, ground := Go.Ground.data }], guard := none }
def opl9 : Oper := { dst := some 22, op := Go.Op.indexAddr 53 (Go.Operand.tmp 21) (Go.Operand.tmp 18), type := 0, pos := "wheel.go:119", after := #[{ on := 8, ground := Go.Ground.data }, { on := 5, ground := Go.Ground.data }], guard := none }
def opl10 : Oper := { dst := some 23, op := Go.Op.load 52 (Go.Operand.tmp 22), type := 52, pos := "wheel.go:119", after := #[{ on := 9, ground := Go.Ground.data }], guard := none }
def opl11 : Oper := { dst := some 24, op := Go.Op.load 59 (Go.Operand.tmp 3), type := 59, pos := "wheel.go:119", after := #[], guard := none }
def opl12 : Oper := { dst := some 25, op := Go.Op.buildSlice 52 1 #[(0, Go.Operand.tmp 24)], type := 52, pos := "wheel.go:119", after := #[{ on := 11, ground := Go.Ground.data }], guard := none }
def opl13 : Oper := { dst := some 26, op := Go.Op.call { callee := Go.Callee.builtin Go.Builtin.append, args := #[Go.Operand.tmp 23, Go.Operand.tmp 25], argTypes := #[52, 52] }, type := 52, pos := "wheel.go:119", after := #[{ on := 10, ground := Go.Ground.data }, { on := 12, ground := Go.Ground.data }], guard := none }
def opl14 : Oper := { dst := some 27, op := Go.Op.nilCheck (Go.Operand.tmp 13), type := 0, pos := "wheel.go:119", after := #[{ on := 0, ground := Go.Ground.data }], guard := none }
def opl15 : Oper := { dst := some 28, op := Go.Op.fieldAddr 56 (Go.Operand.tmp 27) 2, type := 0, pos := "wheel.go:119", after := #[{ on := 14, ground := Go.Ground.data }], guard := none }
def opl16 : Oper := { dst := some 29, op := Go.Op.indexAddr 54 (Go.Operand.tmp 28) (Go.Operand.tmp 14), type := 0, pos := "wheel.go:119", after := #[{ on := 15, ground := Go.Ground.data }, { on := 1, ground := Go.Ground.data }], guard := none }
def opl17 : Oper := { dst := some 30, op := Go.Op.indexAddr 53 (Go.Operand.tmp 29) (Go.Operand.tmp 15), type := 0, pos := "wheel.go:119", after := #[{ on := 16, ground := Go.Ground.data }, { on := 2, ground := Go.Ground.data }, { on := 0, ground := Go.Ground.phase }, { on := 1, ground := Go.Ground.phase }, { on := 2, ground := Go.Ground.phase }, { on := 3, ground := Go.Ground.phase }, { on := 4, ground := Go.Ground.phase }, { on := 5, ground := Go.Ground.phase }, { on := 6, ground := Go.Ground.phase }, { on := 7, ground := Go.Ground.phase }, { on := 8, ground := Go.Ground.phase }, { on := 9, ground := Go.Ground.phase }, { on := 10, ground := Go.Ground.phase }, { on := 11, ground := Go.Ground.phase }, { on := 12, ground := Go.Ground.phase }, { on := 13, ground := Go.Ground.phase }], guard := none }
def opl18 : Oper := { dst := none, op := Go.Op.store 52 (Go.Operand.tmp 30) (Go.Operand.tmp 26), type := 0, pos := "wheel.go:119", after := #[{ on := 17, ground := Go.Ground.data }, { on := 13, ground := Go.Ground.data }, { on := 13, ground := Go.Ground.chain }, { on := 0, ground := Go.Ground.phase }, { on := 1, ground := Go.Ground.phase }, { on := 2, ground := Go.Ground.phase }, { on := 3, ground := Go.Ground.phase }, { on := 4, ground := Go.Ground.phase }, { on := 5, ground := Go.Ground.phase }, { on := 6, ground := Go.Ground.phase }, { on := 7, ground := Go.Ground.phase }, { on := 8, ground := Go.Ground.phase }, { on := 9, ground := Go.Ground.phase }, { on := 10, ground := Go.Ground.phase }, { on := 11, ground := Go.Ground.phase }, { on := 12, ground := Go.Ground.phase }, { on := 13, ground := Go.Ground.phase }], guard := none }
set_option maxHeartbeats 2000000 in
theorem place_any (p now put : Nat) (sv : Nat → Value) (sl : Nat → List Tm) (bm : Nat) (D : DataW Unit) (t : Tm) (h1 : now ≤ 1099511627776) (h2 : t.a ≤ 1099511627776) (w : World) (R : Hid (Raw w p now put sv sl bm D)) (hl : (sl (pl now t.a)).length ≤ 4096) :
    Calls Try.prog 24 #[.pointer (some ⟨p, 0, none⟩), .agg #[.int .i64 (t.a : Int), .int .i64 (t.n : Int), .int .i64 t.i]] w fun e w' => e = .returned (.tuple #[]) ∧ ∃ sv', Raw w' p now put sv' (upd sl (pl now t.a) (sl (pl now t.a) ++ [t])) bm D ∧ Nx w (Foot p sv bm) (Foot p sv' bm) ∧ Bf (Foot p sv bm) w w' := by
  have hpl := pl_small h1 h2
  have hlv := lv_small h1 h2
  have hmod := Nat.mod_lt (pl now t.a) (show 0 < 64 by decide)
  have hsum : 64 * lv now t.a + pl now t.a % 64 = pl now t.a := by have := pl_div now t.a; omega
  have R1 : Hid (Raw (w.alloc (.cells #[.int .i64 (t.a : Int), .int .i64 (t.n : Int), .int .i64 t.i] 59)) p now put sv sl bm D) := R.out.later ((Below.refl _ _).alloc (Nat.le_refl _) _)
  have CP : Hid _ := fun W c => placeOf_any p now t.a h1 h2 W c
  obtain ⟨k, hk⟩ : ∃ k, pl now t.a = k := ⟨_, rfl⟩
  obtain ⟨x, hx⟩ : ∃ x, lv now t.a = x := ⟨_, rfl⟩
  obtain ⟨y, hy⟩ : ∃ y, pl now t.a % 64 = y := ⟨_, rfl⟩
  rw [hy] at CP hmod hsum
  rw [hx] at CP hlv hsum
  rw [hk] at hl hpl hsum ⊢
  clear hy hx hk
  have q1 : (x : Int) < 7 := by omega
  have q2 : (y : Int) < 64 := by omega
  go_enter Try.func24, Try.ntmps24
  go_wp2_with fail
  refine Calls.mono (CP.out _ R1.out.c0) ?_
  rintro e w1 ⟨rfl, ⟨q, rfl⟩⟩
  go_wp2_with fail
  obtain ⟨B, hB⟩ : ∃ B, w.heap.size = B := ⟨_, rfl⟩
  have R2 : Hid (Raw ((w.alloc (.cells #[.int .i64 (t.a : Int), .int .i64 (t.n : Int), .int .i64 t.i] 59)).drewN q) p now put sv sl bm D) := R1.out.later (below_drewN (Below.refl _ _) _)
  have HT : Hid (T1 ((w.alloc (.cells #[.int .i64 (t.a : Int), .int .i64 (t.n : Int), .int .i64 t.i] 59)).drewN q) B t) := by
    rw [← hB]
    exact ⟨by simp [go_sem], by simp [go_sem], by simp [go_sem], fun o => by simp [go_sem]⟩
  have BW : Hid (Below B w ((w.alloc (.cells #[.int .i64 (t.a : Int), .int .i64 (t.n : Int), .int .i64 t.i] 59)).drewN q)) := by
    rw [← hB]
    exact below_drewN ((Below.refl _ _).alloc (Nat.le_refl _) _) _
  have HX : Hid (((w.alloc (.cells #[.int .i64 (t.a : Int), .int .i64 (t.n : Int), .int .i64 t.i] 59)).drewN q).heap[B]? = some (.cells #[.int .i64 (t.a : Int), .int .i64 (t.n : Int), .int .i64 t.i] 59 (0, 0))) := by
    rw [← hB]
    exact heap_alloc_new w _
  have NB : Hid (∀ g, (sv k).ownBlock = some g → g < w.heap.size) := fun g hg => R.out.lt (.inr (.inr ⟨k, hpl, hg⟩))
  obtain ⟨W, hW⟩ : ∃ W, ((w.alloc (.cells #[.int .i64 (t.a : Int), .int .i64 (t.n : Int), .int .i64 t.i] 59)).drewN q) = W := ⟨_, rfl⟩
  have HB : Hid (w.heap.size = B) := hB
  rw [hW] at R2 HT BW HX ⊢
  rw [hB]
  clear hW hB R1 CP R
  obtain ⟨b0, b1, b2, -⟩ := HT.out
  have e1 : 2 + k = 2 + x * 64 + y := by omega
  have ck := R2.out.cs k hpl
  rw [e1] at ck
  have PB : Hid (p ≠ B) := fun c => absurd (R2.out.fr 0) (by
    have h1 := HT.out.1
    have h2 := R2.out.c1
    have h3 := R2.out.c3
    rw [c] at h3
    have h4 : W.heap[B]? = some (.cells #[.int .i64 (t.a : Int), .int .i64 (t.n : Int), .int .i64 t.i] 59 (0, 0)) := HX.out
    simp [World.cell?, h4] at h3)
  have AA : Hid (∀ Z, W.drew = Z → ∃ va vn vc w', (Builtin.append_ #[52, 52] 52 #[sv k, .slice (some ⟨Z.heap.size, 0, none⟩) 1 1]).run Try.prog (Z.alloc (.cells #[.int .i64 (t.a : Int), .int .i64 (t.n : Int), .int .i64 t.i] 59)) = .ok (.slice va vn vc) w' ∧ Hid (w'.cell? ⟨p, 2 + x * 64 + y, none⟩ = some (sv k) ∧ w'.frozen? ⟨p, 2 + x * 64 + y, none⟩ = false ∧ (∃ sv', Raw (w'.setCell ⟨p, 2 + x * 64 + y, none⟩ (.slice va vn vc)) p now put sv' (upd sl k (sl k ++ [t])) bm D ∧ Nx w (Foot p sv bm) (Foot p sv' bm) ∧ Bf (Foot p sv bm) w (w'.setCell ⟨p, 2 + x * 64 + y, none⟩ (.slice va vn vc))) ∧ ((Z.alloc (.cells #[.int .i64 (t.a : Int), .int .i64 (t.n : Int), .int .i64 t.i] 59)).cell? ⟨B, 0, none⟩ = some (.int .i64 (t.a : Int)) ∧ (Z.alloc (.cells #[.int .i64 (t.a : Int), .int .i64 (t.n : Int), .int .i64 t.i] 59)).cell? ⟨B, 1, none⟩ = some (.int .i64 (t.n : Int)) ∧ (Z.alloc (.cells #[.int .i64 (t.a : Int), .int .i64 (t.n : Int), .int .i64 t.i] 59)).cell? ⟨B, 2, none⟩ = some (.int .i64 t.i) → w'.cell? ⟨B, 0, none⟩ = some (.int .i64 (t.a : Int)) ∧ w'.cell? ⟨B, 1, none⟩ = some (.int .i64 (t.n : Int)) ∧ w'.cell? ⟨B, 2, none⟩ = some (.int .i64 t.i)))) := by
    rintro Z rfl
    have R3 : Raw (W.drew.alloc (.cells #[.int .i64 (t.a : Int), .int .i64 (t.n : Int), .int .i64 t.i] 59)) p now put sv sl bm D := R2.out.later ((Below.refl _ _).drew.alloc (Nat.le_refl _) _)
    obtain ⟨v', w', r1, r2, r3, r4⟩ := app_one _ 52 (sv k) (sl k) (R3.row k hpl) hl t W.drew.heap.size (by simp [go_sem]) (by simp [go_sem]) (by simp [go_sem])
    obtain ⟨va, vn, vc, rfl⟩ := owns_slice r2
    have r5 := R3.setRow hpl r3 r2 (fun g hg => by
      rcases r4 with h | h
      · exact .inl (h.symm.trans hg)
      · rw [h] at hg
        injection hg with hg
        exact .inr (by omega))
    have hp1 : w'.heap[p]? = (W.drew.alloc (.cells #[.int .i64 (t.a : Int), .int .i64 (t.n : Int), .int .i64 t.i] 59)).heap[p]? := r3.block p (R3.lt (.inl rfl)) (fun e => R3.pr k hpl e.symm)
    refine ⟨va, vn, vc, w', r1, ?_, ?_, ?_, ?_⟩
    · rw [← e1]
      exact (World.cell?_of_block (a := ⟨p, 2 + k, none⟩) hp1).trans (R3.cs k hpl)
    · exact (World.frozen?_of_block (a := ⟨p, 2 + x * 64 + y, none⟩) hp1).trans (R3.fr _)
    · rw [← e1]
      have b0 : Bf (Foot p sv bm) w (W.drew.alloc (.cells #[.int .i64 (t.a : Int), .int .i64 (t.n : Int), .int .i64 t.i] 59)) := by
        have hbw := BW.out
        rw [← HB.out] at hbw
        exact (Bf.of hbw).later ((Below.refl _ _).drew.alloc (Nat.le_refl _) _)
      exact ⟨_, r5.1, (Nx.refl w _).trans r5.2.1 b0.size, b0.trans (Nx.refl _ _) r5.2.2⟩
    · rintro ⟨d0, d1, d2⟩
      have hne : some B ≠ (sv k).ownBlock := fun c => by
        have h4 : W.heap[B]? = some (.cells #[.int .i64 (t.a : Int), .int .i64 (t.n : Int), .int .i64 t.i] 59 (0, 0)) := HX.out
        have h5 : B < w.heap.size := NB.out B c.symm
        have := HB.out
        omega
      exact ⟨r3.cell d0 hne, r3.cell d1 hne, r3.cell d2 hne⟩
  clear R2 HT BW HX
  refine wp_region_noPanic ?_
  refine wp_region_held_drew (S := fun w' => w'.cell? ⟨B, 0, none⟩ = some (.int .i64 (t.a : Int)) ∧ w'.cell? ⟨B, 1, none⟩ = some (.int .i64 (t.n : Int)) ∧ w'.cell? ⟨B, 2, none⟩ = some (.int .i64 t.i)) (by kernel_rfl) (⟨b0, b1, b2⟩) (fun hHeld => ?_)
  obtain ⟨Z, hZ⟩ : ∃ Z, W.drew = Z := ⟨_, rfl⟩
  rw [hZ] at hHeld ⊢
  have ckZ : Hid (Z.cell? ⟨p, 2 + x * 64 + y, none⟩ = some (sv k)) := by rw [← hZ]; exact ck
  clear ck b0 b1 b2
  refine wpAnyH_take (i := 0) (oi := opl0) (v := ?_) rfl (by kernel_rfl) (by kernel_rfl) (by kernel_rfl) (fun _ _ _ h => h) (Or.inl ⟨by rfl, ?_⟩) (by assumption) ?_
  rotate_left
  · intro w' hSw
    clear hSw
    unfold opl0
    first
    | (go_simp; done)
    | (go_simp; with_reducible rfl)
  simp only [opl0, Act.put, List.setIfInBounds_toArray, List.set_cons_zero, List.set_cons_succ]
  refine wpAnyH_take (i := 1) (oi := opl1) (v := ?_) rfl (by kernel_rfl) (by kernel_rfl) (by kernel_rfl) (fun _ _ _ h => h) (Or.inl ⟨by rfl, ?_⟩) (by assumption) ?_
  rotate_left
  · intro w' hSw
    clear hSw
    unfold opl1
    first
    | (go_simp; done)
    | (go_simp; with_reducible rfl)
  simp only [opl1, Act.put, List.setIfInBounds_toArray, List.set_cons_zero, List.set_cons_succ]
  refine wpAnyH_take (i := 2) (oi := opl2) (v := ?_) rfl (by kernel_rfl) (by kernel_rfl) (by kernel_rfl) (fun _ _ _ h => h) (Or.inl ⟨by rfl, ?_⟩) (by assumption) ?_
  rotate_left
  · intro w' hSw
    clear hSw
    unfold opl2
    first
    | (go_simp; done)
    | (go_simp; with_reducible rfl)
  simp only [opl2, Act.put, List.setIfInBounds_toArray, List.set_cons_zero, List.set_cons_succ]
  refine wpAnyH_take (i := 3) (oi := opl3) (v := ?_) rfl (by kernel_rfl) (by kernel_rfl) (by kernel_rfl) (fun _ _ _ h => h) (Or.inl ⟨by rfl, ?_⟩) (by assumption) ?_
  rotate_left
  · intro w' hSw
    clear hSw
    unfold opl3
    first
    | (go_simp; done)
    | (go_simp; with_reducible rfl)
  simp only [opl3, Act.put, List.setIfInBounds_toArray, List.set_cons_zero, List.set_cons_succ]
  refine wpAnyH_take (i := 4) (oi := opl4) (v := ?_) rfl (by kernel_rfl) (by kernel_rfl) (by kernel_rfl) (fun _ _ _ h => h) (Or.inl ⟨by rfl, ?_⟩) (by assumption) ?_
  rotate_left
  · intro w' hSw
    clear hSw
    unfold opl4
    first
    | (go_simp; done)
    | (go_simp; with_reducible rfl)
  simp only [opl4, Act.put, List.setIfInBounds_toArray, List.set_cons_zero, List.set_cons_succ]
  refine wpAnyH_take (i := 5) (oi := opl5) (v := ?_) rfl (by kernel_rfl) (by kernel_rfl) (by kernel_rfl) (fun _ _ _ h => h) (Or.inl ⟨by rfl, ?_⟩) (by assumption) ?_
  rotate_left
  · intro w' hSw
    clear hSw
    unfold opl5
    first
    | (go_simp; done)
    | (go_simp; with_reducible rfl)
  simp only [opl5, Act.put, List.setIfInBounds_toArray, List.set_cons_zero, List.set_cons_succ]
  refine wpAnyH_take (i := 6) (oi := opl6) (v := ?_) rfl (by kernel_rfl) (by kernel_rfl) (by kernel_rfl) (fun _ _ _ h => h) (Or.inl ⟨by rfl, ?_⟩) (by assumption) ?_
  rotate_left
  · intro w' hSw
    clear hSw
    unfold opl6
    first
    | (go_simp; done)
    | (go_simp; with_reducible rfl)
  simp only [opl6, Act.put, List.setIfInBounds_toArray, List.set_cons_zero, List.set_cons_succ]
  refine wpAnyH_take (i := 7) (oi := opl7) (v := ?_) rfl (by kernel_rfl) (by kernel_rfl) (by kernel_rfl) (fun _ _ _ h => h) (Or.inl ⟨by rfl, ?_⟩) (by assumption) ?_
  rotate_left
  · intro w' hSw
    clear hSw
    unfold opl7
    first
    | (go_simp; done)
    | (go_simp; with_reducible rfl)
  simp only [opl7, Act.put, List.setIfInBounds_toArray, List.set_cons_zero, List.set_cons_succ]
  refine wpAnyH_take (i := 8) (oi := opl8) (v := ?_) rfl (by kernel_rfl) (by kernel_rfl) (by kernel_rfl) (fun _ _ _ h => h) (Or.inl ⟨by rfl, ?_⟩) (by assumption) ?_
  rotate_left
  · intro w' hSw
    clear hSw
    unfold opl8
    first
    | (go_simp; done)
    | (go_simp; with_reducible rfl)
  simp only [opl8, Act.put, List.setIfInBounds_toArray, List.set_cons_zero, List.set_cons_succ]
  refine wpAnyH_take (i := 9) (oi := opl9) (v := ?_) rfl (by kernel_rfl) (by kernel_rfl) (by kernel_rfl) (fun _ _ _ h => h) (Or.inl ⟨by rfl, ?_⟩) (by assumption) ?_
  rotate_left
  · intro w' hSw
    clear hSw
    unfold opl9
    first
    | (go_simp; done)
    | (go_simp; with_reducible rfl)
  simp only [opl9, Act.put, List.setIfInBounds_toArray, List.set_cons_zero, List.set_cons_succ]
  refine wpAnyH_take (i := 11) (oi := opl11) (v := ?_) rfl (by kernel_rfl) (by kernel_rfl) (by kernel_rfl) (fun _ _ _ h => h) (Or.inl ⟨by rfl, ?_⟩) (by assumption) ?_
  rotate_left
  · intro w' hSw
    obtain ⟨s0, s1, s2⟩ := hSw
    unfold opl11
    first
    | (go_simp; done)
    | (go_simp; with_reducible rfl)
  simp only [opl11, Act.put, List.setIfInBounds_toArray, List.set_cons_zero, List.set_cons_succ]
  refine wpAnyH_take (i := 14) (oi := opl14) (v := ?_) rfl (by kernel_rfl) (by kernel_rfl) (by kernel_rfl) (fun _ _ _ h => h) (Or.inl ⟨by rfl, ?_⟩) (by assumption) ?_
  rotate_left
  · intro w' hSw
    clear hSw
    unfold opl14
    first
    | (go_simp; done)
    | (go_simp; with_reducible rfl)
  simp only [opl14, Act.put, List.setIfInBounds_toArray, List.set_cons_zero, List.set_cons_succ]
  refine wpAnyH_take (i := 15) (oi := opl15) (v := ?_) rfl (by kernel_rfl) (by kernel_rfl) (by kernel_rfl) (fun _ _ _ h => h) (Or.inl ⟨by rfl, ?_⟩) (by assumption) ?_
  rotate_left
  · intro w' hSw
    clear hSw
    unfold opl15
    first
    | (go_simp; done)
    | (go_simp; with_reducible rfl)
  simp only [opl15, Act.put, List.setIfInBounds_toArray, List.set_cons_zero, List.set_cons_succ]
  refine wpAnyH_take (i := 16) (oi := opl16) (v := ?_) rfl (by kernel_rfl) (by kernel_rfl) (by kernel_rfl) (fun _ _ _ h => h) (Or.inl ⟨by rfl, ?_⟩) (by assumption) ?_
  rotate_left
  · intro w' hSw
    clear hSw
    unfold opl16
    first
    | (go_simp; done)
    | (go_simp; with_reducible rfl)
  simp only [opl16, Act.put, List.setIfInBounds_toArray, List.set_cons_zero, List.set_cons_succ]
  refine wpAnyH_ready (rs := [10, 12]) (by kernel_rfl) (by simp) ?_
  refine AllReadyH.cons (o := opl10) rfl (fun KK hKK => ?_) (AllReadyH.cons (o := opl12) rfl (fun KK hKK => ?_) AllReadyH.nil)
  · have lc := ckZ.out
    unfold opl10
    go_simp
    refine hKK.out _ _ hHeld (fun hHeldL => ?_)
    clear hKK KK lc
    refine wpAnyH_ready (rs := [12]) (by kernel_rfl) (by simp) ?_
    refine AllReadyH.cons (o := opl12) rfl (fun KK hKK => ?_) AllReadyH.nil
    unfold opl12
    go_simp
    refine hKK.out _ _ ⟨cell_alloc hHeldL.1, cell_alloc hHeldL.2.1, cell_alloc hHeldL.2.2⟩ (fun hHeldB => ?_)
    clear hKK KK
    refine wpAnyH_ready (rs := [13]) (by kernel_rfl) (by simp) ?_
    refine AllReadyH.cons (o := opl13) rfl (fun KK hKK => ?_) AllReadyH.nil
    obtain ⟨va, vn, vc, w', hr, AO⟩ := AA.out Z hZ
    rw [if_pos (by kernel_rfl)]
    refine Go.Lib.wp_append_run _ _ _ _ _ rfl _ _ rfl rfl _ _ hr ?_
    refine hKK.out _ _ (AO.out.2.2.2 hHeldB) (fun hHeldA => ?_)
    clear hKK KK hr
    simp only [opl13, Act.put, List.setIfInBounds_toArray, List.set_cons_zero, List.set_cons_succ]
    refine wpAnyH_take (i := 17) (oi := opl17) (v := ?_) rfl (by kernel_rfl) (by kernel_rfl) (by kernel_rfl) (fun _ _ _ h => h) (Or.inl ⟨by rfl, ?_⟩) (by assumption) ?_
    rotate_left
    · intro w' hSw
      clear hSw
      unfold opl17
      first
      | (go_simp; done)
      | (go_simp; with_reducible rfl)
    simp only [opl17, Act.put, List.setIfInBounds_toArray, List.set_cons_zero, List.set_cons_succ]
    refine wpAnyH_ready (rs := [18]) (by kernel_rfl) (by simp) ?_
    refine AllReadyH.cons (o := opl18) rfl (fun KK hKK => ?_) AllReadyH.nil
    have sc := AO.out.1
    have sf := AO.out.2.1
    unfold opl18
    go_simp
    refine hKK.out _ _ (keepB3 PB.out hHeldA) (fun hHeldS => ?_)
    clear hKK KK sc sf
    refine wpAnyH_done (by kernel_rfl) ?_ _
    refine NoPanic.normal ?_
    go_end0
    exact ⟨rfl, AO.out.2.2.1⟩
  · unfold opl12
    go_simp
    refine hKK.out _ _ ⟨cell_alloc hHeld.1, cell_alloc hHeld.2.1, cell_alloc hHeld.2.2⟩ (fun hHeldB => ?_)
    clear hKK KK
    refine wpAnyH_ready (rs := [10]) (by kernel_rfl) (by simp) ?_
    refine AllReadyH.cons (o := opl10) rfl (fun KK hKK => ?_) AllReadyH.nil
    have lc := cell_alloc (o := (.cells #[.int .i64 (t.a : Int), .int .i64 (t.n : Int), .int .i64 t.i] 59)) ckZ.out
    unfold opl10
    go_simp
    refine hKK.out _ _ hHeldB (fun hHeldL => ?_)
    clear hKK KK lc
    refine wpAnyH_ready (rs := [13]) (by kernel_rfl) (by simp) ?_
    refine AllReadyH.cons (o := opl13) rfl (fun KK hKK => ?_) AllReadyH.nil
    obtain ⟨va, vn, vc, w', hr, AO⟩ := AA.out Z hZ
    rw [if_pos (by kernel_rfl)]
    refine Go.Lib.wp_append_run _ _ _ _ _ rfl _ _ rfl rfl _ _ hr ?_
    refine hKK.out _ _ (AO.out.2.2.2 hHeldL) (fun hHeldA => ?_)
    clear hKK KK hr
    simp only [opl13, Act.put, List.setIfInBounds_toArray, List.set_cons_zero, List.set_cons_succ]
    refine wpAnyH_take (i := 17) (oi := opl17) (v := ?_) rfl (by kernel_rfl) (by kernel_rfl) (by kernel_rfl) (fun _ _ _ h => h) (Or.inl ⟨by rfl, ?_⟩) (by assumption) ?_
    rotate_left
    · intro w' hSw
      clear hSw
      unfold opl17
      first
      | (go_simp; done)
      | (go_simp; with_reducible rfl)
    simp only [opl17, Act.put, List.setIfInBounds_toArray, List.set_cons_zero, List.set_cons_succ]
    refine wpAnyH_ready (rs := [18]) (by kernel_rfl) (by simp) ?_
    refine AllReadyH.cons (o := opl18) rfl (fun KK hKK => ?_) AllReadyH.nil
    have sc := AO.out.1
    have sf := AO.out.2.1
    unfold opl18
    go_simp
    refine hKK.out _ _ (keepB3 PB.out hHeldA) (fun hHeldS => ?_)
    clear hKK KK sc sf
    refine wpAnyH_done (by kernel_rfl) ?_ _
    refine NoPanic.normal ?_
    go_end0
    exact ⟨rfl, AO.out.2.2.1⟩
end Go.Proofs.Ythnkkkiobbnpmaa
