/- Boxes of the program: First. -/
import Derived.Test.YtjpaodepnacimaaGreatDoorZbG30
import Derived.Test.YtjpaodepnacimaaGreatDoorZbG11
namespace Go.Proofs.YtjpaodepnacimaaGreatDoor
open Go.RowKit Go.Proofs.Fd Go.Proofs.Dk Go.Proofs.Lg Go.Proofs.Bx
set_option maxRecDepth 20000
theorem app_slot1 (base : Nat) (W : World) (ty : TypeId) (v : Value) (L : List Sl) (h : W.ownsRow base 58 2 v L.length (scx L)) (hb : base ≤ W.heap.size) (hl : L.length ≤ 1000000) (e : Sl) :
    ∃ v' W2, (Builtin.append_ #[45, 45] ty #[v, .slice (some ⟨W.heap.size, 0, none⟩) 1 1]).run Tryz.prog (W.alloc (.cells #[.string (st e.1), .string (st e.2)] 58)) = .ok v' W2 ∧ W2.ownsRow base 58 2 v' (L ++ [e]).length (scx (L ++ [e])) ∧ Below base W W2 ∧ (∀ q o val, v.ownBlock ≠ some q → W.cell? ⟨q, o, none⟩ = some val → W2.cell? ⟨q, o, none⟩ = some val) := by
  obtain ⟨i0, hi, hz0, hz1, hz2⟩ := info_parts infoX
  have hown : (W.alloc (.cells #[.string (st e.1), .string (st e.2)] 58)).ownsRow base 58 2 v L.length (scx L) := h.alloc _
  have he : SlAt (W.alloc (.cells #[.string (st e.1), .string (st e.2)] 58)) (some ⟨W.heap.size, 0, none⟩) [e] := fun i hi => by
    obtain rfl : i = 0 := by simpa using hi
    exact ⟨W.heap.size, 0, rfl, by rw [World.cell?_alloc_new]; rfl, by rw [World.cell?_alloc_new]; rfl⟩
  obtain ⟨v', w', r1, r2, r3, -, -⟩ := run_append_own_at (P := Tryz.prog) (W.alloc (.cells #[.string (st e.1), .string (st e.2)] 58)) base 45 ty 58 i0 _ 2 32 Tryz.underlying45 hi hz0 hz1 hz2 rfl (by decide) v L.length (scx L) hown ⟨W.heap.size, 0, none⟩ 1 1 (scx [e]) rfl (fun j u hj => he.cells j u hj) (scx_one _) (by unfold maxLen; omega) (by omega) (by simp; omega)
  refine ⟨v', w', r1, ?_, ?_, ?_⟩
  · rw [scx_app, List.length_append]
    exact r2
  · exact ((Below.refl base W).alloc hb _).grown r3 (by simp; omega) (fun q hq => (hown.lt q hq).1)
  · intro q o val hq hc
    have hc2 := cell_alloc (o := .cells #[.string (st e.1), .string (st e.2)] 58) hc
    exact (World.cell?_of_block (a := ⟨q, o, none⟩) (r3.block q (World.block_lt_of_cell? _ _ hc2) (fun c => hq c.symm))).trans hc2
theorem owns_laterX {w w' : World} {base : Nat} {v : Value} {n : Nat} {xs : List Value} (h : w.ownsRow base 58 2 v n xs) (hb : Below w.heap.size w w') : w'.ownsRow base 58 2 v n xs := by
  refine ⟨h.1, ?_⟩
  rcases h.2 with h2 | ⟨g, cap, cur, rfl, hg, hh, hr⟩
  · exact .inl h2
  · exact .inr ⟨g, cap, cur, rfl, hg, (hb.block g (Array.getElem?_eq_some_iff.1 hh).1).trans hh, hr⟩
theorem sl_head0 (a : Option Addr) (n c i : Nat) (hi : i ≤ n) (hc : n ≤ c) (h0 : a = none → n = 0 ∧ c = 0) (hs : ∀ x, a = some x → x.spot = none) (W : World) : (Instr.slice 83 (.slice a n c) none (some (.int .i64 (i : Int))) none).run Tryz.prog W = .ok (.slice a i c) W := by
  cases a with
  | none =>
    obtain ⟨rfl, rfl⟩ := h0 rfl
    obtain rfl : i = 0 := by omega
    simp [go_sem]
  | some x =>
    obtain ⟨b, o, sp⟩ := x
    have : sp = none := hs _ rfl
    subst this
    exact sl_head b o n c i hi hc W
def opfi0 : Oper := { dst := some 39, op := Go.Op.move (Go.Operand.tmp 8), type := 45, pos := "boxes.go:67", after := #[], guard := none }
def opfi1 : Oper := { dst := some 40, op := Go.Op.fieldAddr 58 (Go.Operand.tmp 10) 0, type := 0, pos := "boxes.go:67", after := #[], guard := none }
def opfi2 : Oper := { dst := some 41, op := Go.Op.load 9 (Go.Operand.tmp 40), type := 9, pos := "boxes.go:67", after := #[{ on := 1, ground := Go.Ground.data }], guard := none }
def opfi3 : Oper := { dst := some 42, op := Go.Op.call { callee := Go.Callee.value (Go.Operand.func 43), args := #[Go.Operand.tmp 41], argTypes := #[9] }, type := 9, pos := "boxes.go:67", after := #[{ on := 2, ground := Go.Ground.data }], guard := none }
def opfi4 : Oper := { dst := some 43, op := Go.Op.fieldAddr 58 (Go.Operand.tmp 10) 1, type := 0, pos := "boxes.go:67", after := #[], guard := none }
def opfi5 : Oper := { dst := some 44, op := Go.Op.load 9 (Go.Operand.tmp 43), type := 9, pos := "boxes.go:67", after := #[{ on := 4, ground := Go.Ground.data }], guard := none }
def opfi6 : Oper := { dst := some 45, op := Go.Op.call { callee := Go.Callee.value (Go.Operand.func 43), args := #[Go.Operand.tmp 44], argTypes := #[9] }, type := 9, pos := "boxes.go:67", after := #[{ on := 5, ground := Go.Ground.data }, { on := 3, ground := Go.Ground.chain }], guard := none }
def opfi7 : Oper := { dst := some 46, op := Go.Op.build 58 #[(0, Go.Operand.tmp 42), (1, Go.Operand.tmp 45)], type := 58, pos := "boxes.go:67", after := #[{ on := 3, ground := Go.Ground.data }, { on := 6, ground := Go.Ground.data }], guard := none }
def opfi8 : Oper := { dst := some 47, op := Go.Op.buildSlice 45 1 #[(0, Go.Operand.tmp 46)], type := 45, pos := "boxes.go:67", after := #[{ on := 7, ground := Go.Ground.data }], guard := none }
def opfi9 : Oper := { dst := some 48, op := Go.Op.call { callee := Go.Callee.builtin Go.Builtin.append, args := #[Go.Operand.tmp 39, Go.Operand.tmp 47], argTypes := #[45, 45] }, type := 45, pos := "boxes.go:67", after := #[{ on := 0, ground := Go.Ground.data }, { on := 8, ground := Go.Ground.data }, { on := 6, ground := Go.Ground.chain }], guard := none }
def opfi10 : Oper := { dst := some 8, op := Go.Op.assign (Go.Operand.tmp 48), type := 45, pos := "boxes.go:67", after := #[{ on := 9, ground := Go.Ground.data }, { on := 9, ground := Go.Ground.chain }, { on := 0, ground := Go.Ground.phase }, { on := 1, ground := Go.Ground.phase }, { on := 2, ground := Go.Ground.phase }, { on := 3, ground := Go.Ground.phase }, { on := 4, ground := Go.Ground.phase }, { on := 5, ground := Go.Ground.phase }, { on := 6, ground := Go.Ground.phase }, { on := 7, ground := Go.Ground.phase }, { on := 8, ground := Go.Ground.phase }, { on := 9, ground := Go.Ground.phase }], guard := none }
set_option maxHeartbeats 8000000 in
theorem xfirst_any (w : World) (p q b quota : Nat) (s : St) (x : Lo) (bx : Bxs) (F : Nat → Prop) (v : Value) (vs : List Value) (u z : Int) (gb : Gx bx) (hm : manyX bx 64 ≤ 30000) (wa : World) (k : Hid (Py w wa p F s q v x b quota vs bx)) :
    Calls Tryz.prog 22 #[.pointer (some ⟨b, 0, none⟩), .int .i64 u, .int .i64 z] wa fun e w' => ∃ y, e = .returned (.tuple #[y, .int .i64 (fiX bx u z).1]) ∧ w'.ownsRow wa.heap.size 58 2 y (fiX bx u z).2.length (scx (fiX bx u z).2) ∧ Below wa.heap.size wa w' := by
  have US : Hid _ := xuser_any u wa
  have NIL : Hid (∀ W : World, W.ownsRow wa.heap.size 58 2 (.slice none 0 0) ([] : List Sl).length (scx [])) := fun W => World.ownsRow_nil _ _ _ _
  obtain ⟨R, hR⟩ : ∃ R, fiX bx u z = R := ⟨_, rfl⟩
  rw [hR]
  unfold fiX at hR
  cases hU : noU u with
  | true =>
    rw [if_pos (.inl hU)] at hR
    rw [hU] at US
    have ER : Hid _ := hR
    clear hR k hU
    go_enter Tryz.func22, Tryz.ntmps22
    go_wp2_with fail
    refine Calls.mono US.out ?_
    rintro e w2 ⟨rfl, hw2⟩
    subst hw2
    clear US
    go_wp2
    go_ret2
    exact ⟨_, by rw [← ER.out]; rfl, by rw [← ER.out]; exact NIL.out _, Below.refl _ _⟩
  | false =>
    rw [hU] at US
    by_cases hz0 : z < 0
    · rw [if_pos (.inr (.inl hz0))] at hR
      have ER : Hid _ := hR
      clear hR k hU
      go_enter Tryz.func22, Tryz.ntmps22
      go_wp2_with fail
      refine Calls.mono US.out ?_
      rintro e w2 ⟨rfl, hw2⟩
      subst hw2
      clear US
      go_wp2
      go_ret2
      exact ⟨_, by rw [← ER.out]; rfl, by rw [← ER.out]; exact NIL.out _, Below.refl _ _⟩
    · by_cases hz1 : 256 < z
      · rw [if_pos (.inr (.inr hz1))] at hR
        have ER : Hid _ := hR
        clear hR k hU
        go_enter Tryz.func22, Tryz.ntmps22
        go_wp2_with fail
        refine Calls.mono US.out ?_
        rintro e w2 ⟨rfl, hw2⟩
        subst hw2
        clear US
        go_wp2
        go_ret2
        exact ⟨_, by rw [← ER.out]; rfl, by rw [← ER.out]; exact NIL.out _, Below.refl _ _⟩
      · rw [if_neg (by rw [hU]; intro h; rcases h with h | h | h; cases h; exact hz0 h; exact hz1 h)] at hR
        obtain ⟨u, rfl, hu⟩ := noU_nat hU
        rw [Int.toNat_natCast] at hR
        obtain ⟨Z, rfl⟩ : ∃ Z : Nat, z = (Z : Int) := ⟨z.toNat, by omega⟩
        rw [Int.toNat_natCast] at hR
        obtain ⟨a, m, c, cu, sl⟩ := k.out.cell hu
        have hml : m ≤ 30000 := by
          have := manyX_at 64 bx u hu
          have := sl.len
          omega
        have LN : Hid (∀ W, Below wa.heap.size wa W → Calls Tryz.prog 10 #[.pointer (some ⟨b, 0, none⟩), .int .i64 (u : Int)] W fun e w' => e = .returned (.int .i64 (m : Int)) ∧ w' = W) := fun W hb => by
          have := xlen_any w W p F s q v x b quota vs bx (u : Int) (k.out.later hb)
          unfold lnX at this
          rw [if_neg (by rw [hU]; simp), Int.toNat_natCast, sl.len] at this
          exact this
        obtain ⟨r, hr⟩ : ∃ r, min Z m = r := ⟨_, rfl⟩
        have hrm : r ≤ m := by omega
        have hmin : min (Z : Int) (m : Int) = (r : Int) := by omega
        have hmin2 : min (m : Int) (Z : Int) = (r : Int) := by omega
        have SH := sl_head0 a m c r hrm sl.le sl.nl sl.sp
        have EL : Hid (((bx u).take Z) = (bx u).take r ∧ ((bx u).take r).length = r) := by
          refine ⟨?_, by rw [List.length_take, sl.len]; omega⟩
          rw [← hr]
          by_cases h : Z ≤ m
          · rw [Nat.min_eq_left h]
          · rw [Nat.min_eq_right (by omega), List.take_of_length_le (by rw [sl.len]; omega), List.take_of_length_le (by rw [sl.len]; exact Nat.le_refl _)]
        rw [EL.out.1] at hR
        have ER : Hid _ := hR
        have SA : Hid (∀ W, Below wa.heap.size wa W → SlAt W a (bx u)) := fun W hb => sl.at_.later hb
        have BL : Hid ((bx u).length = m) := sl.len
        have FT : Hid (∀ e ∈ bx u, (st e.1).size ≤ 1000 ∧ (st e.2).size ≤ 1000) := fun e he => by
          have := gb.i u e he
          have h1 := okI_len this.1
          rw [st_size, st_size]
          omega
        have AP : Hid (∀ (W : World) (y : Value) (L : List Sl) (e : Sl), W.ownsRow wa.heap.size 58 2 y L.length (scx L) → wa.heap.size ≤ W.heap.size → L.length ≤ 1000000 → _) := fun W y L e h1 h2 h3 => app_slot1 wa.heap.size W 45 y L h1 h2 h3 e
        have CL : Hid (∀ (t : ByteArray) W, t.size ≤ 1000 → Calls Tryz.prog 43 #[.string t] W fun e w' => e = .returned (.string t) ∧ Below W.heap.size W w') := fun t W ht => sclone_any t (by omega) W
        have g0 : (0 : Int) ≤ (u : Int) := by omega
        have g64 : (u : Int) < 64 := by omega
        have gz0 : ¬ (Z : Int) < 0 := by omega
        have gz1 : ¬ (256 : Int) < (Z : Int) := hz1
        have cu1 : wa.drew.cell? ⟨b, 1 + u, none⟩ = some (.slice a m c) := cu
        have L1 : Hid _ := LN.out wa.drew (Below.refl _ _).drew
        have hr3 : r ≤ 30000 := by omega
        clear hR k hU hz0 hz1 hr sl LN hmin2 cu gb hm
        go_enter Tryz.func22, Tryz.ntmps22
        go_wp2_with fail
        refine Calls.mono US.out ?_
        rintro e w2 ⟨rfl, hw2⟩
        subst hw2
        clear US
        go_wp2_with fail
        go_region_held3 (fun w' => w'.cell? ⟨b, 1 + u, none⟩ = some (.slice a m c)) (first | exact cu1 | assumption) (first | (go_at_call 10; refine Calls.mono L1.out ?_; rintro e w3 ⟨rfl, hw3⟩; subst hw3))
        clear cu1 L1
        go_wp2_with fail
        go_loopw [8, 35] (fun y i wr => ∃ j : Nat, j ≤ r ∧ i = .int .i64 (j : Int) ∧ Hid (wr.ownsRow w2.heap.size 58 2 y ((bx u).take j).length (scx ((bx u).take j)) ∧ Below w2.heap.size w2 wr)) (fun _ i _ => r - (intOf i).toNat)
        case atStart => exact ⟨0, by omega, rfl, NIL.out _, (Below.refl _ _).drew⟩
        case round =>
          obtain ⟨j, hj, rfl, J⟩ := hrel
          by_cases hjr : j < r
          · have hjl : j < (bx u).length := by rw [BL.out]; omega
            have g2 : (j : Int) < (r : Int) := by omega
            obtain ⟨b1, o1, rfl, c0, c1⟩ := (SA.out _ J.out.2) j hjl
            have hx := FT.out _ (List.getElem_mem hjl)
            have AX : Hid (∀ W, Below wr.heap.size wr W → ∃ v' W2, (Builtin.append_ #[45, 45] 45 #[u8, .slice (some ⟨W.heap.size, 0, none⟩) 1 1]).run Tryz.prog (W.alloc (.cells #[.string (st (bx u)[j].1), .string (st (bx u)[j].2)] 58)) = .ok v' W2 ∧ Hid (W2.ownsRow w2.heap.size 58 2 v' ((bx u).take (j + 1)).length (scx ((bx u).take (j + 1))) ∧ Below w2.heap.size w2 W2) ∧ (∀ o val, W.cell? ⟨wr.heap.size, o, none⟩ = some val → W2.cell? ⟨wr.heap.size, o, none⟩ = some val)) := fun W hb => by
              have ow := owns_laterX J.out.1 hb
              have s1 := J.out.2.size
              have s2 := hb.size
              obtain ⟨v', W2, r1, r2, r3, r4⟩ := AP.out W u8 _ (bx u)[j] ow (by omega) (by rw [List.length_take]; omega)
              refine ⟨v', W2, r1, ⟨?_, (J.out.2.trans (hb.mono s1)).trans r3⟩, fun o val hc => r4 _ o val (fun e => Nat.lt_irrefl _ (J.out.1.lt _ e).2) hc⟩
              rw [List.take_succ_eq_append_getElem hjl]
              exact r2
            have D01 : Hid ((wr.alloc (.cells #[.string (st (bx u)[j].1), .string (st (bx u)[j].2)] 58)).drew.cell? ⟨wr.heap.size, 0, none⟩ = some (.string (st (bx u)[j].1)) ∧ (wr.alloc (.cells #[.string (st (bx u)[j].1), .string (st (bx u)[j].2)] 58)).drew.cell? ⟨wr.heap.size, 1, none⟩ = some (.string (st (bx u)[j].2))) := ⟨by show (wr.alloc _).cell? _ = _; rw [World.cell?_alloc_new]; rfl, by show (wr.alloc _).cell? _ = _; rw [World.cell?_alloc_new]; rfl⟩
            have hb0 : Hid (Below wr.heap.size wr (wr.alloc (.cells #[.string (st (bx u)[j].1), .string (st (bx u)[j].2)] 58)).drew) := (nb wr _).drew
            unfold sv at c0 c1
            obtain ⟨X1, hX1⟩ : ∃ X, st (bx u)[j].1 = X := ⟨_, rfl⟩
            obtain ⟨X2, hX2⟩ : ∃ X, st (bx u)[j].2 = X := ⟨_, rfl⟩
            rw [hX1] at c0 hx
            rw [hX2] at c1 hx
            rw [hX1, hX2] at AX D01 hb0
            have C1 : Hid (∀ W, _) := fun W => CL.out X1 W hx.1
            have C2 : Hid (∀ W, _) := fun W => CL.out X2 W hx.2
            clear hX1 hX2 J AP CL FT SA hx
            go_wp2_with fail
            clear c0 c1
            refine wp_region_noPanic ?_
            refine wp_region_held_drew (S := fun w' => w'.cell? ⟨wr.heap.size, 0, none⟩ = some (.string X1) ∧ w'.cell? ⟨wr.heap.size, 1, none⟩ = some (.string X2)) (by kernel_rfl) (D01.out) (fun hHeld => ?_)
            obtain ⟨Z, hZ⟩ : ∃ Z, (wr.alloc (.cells #[.string X1, .string X2] 58)).drew = Z := ⟨_, rfl⟩
            rw [hZ] at hHeld hb0 ⊢
            clear hZ D01
            refine wpAnyH_take (i := 0) (oi := opfi0) (v := ?_) rfl (by kernel_rfl) (by kernel_rfl) (by kernel_rfl) (fun _ _ _ h => h) (Or.inl ⟨by rfl, ?_⟩) (by assumption) ?_
            rotate_left
            · intro w' hSw
              clear hSw
              unfold opfi0
              first
              | (go_simp; done)
              | (go_simp; with_reducible rfl)
            simp only [opfi0, Act.put, List.setIfInBounds_toArray, List.set_cons_zero, List.set_cons_succ]
            refine wpAnyH_take (i := 1) (oi := opfi1) (v := ?_) rfl (by kernel_rfl) (by kernel_rfl) (by kernel_rfl) (fun _ _ _ h => h) (Or.inl ⟨by rfl, ?_⟩) (by assumption) ?_
            rotate_left
            · intro w' hSw
              clear hSw
              unfold opfi1
              first
              | (go_simp; done)
              | (go_simp; with_reducible rfl)
            simp only [opfi1, Act.put, List.setIfInBounds_toArray, List.set_cons_zero, List.set_cons_succ]
            refine wpAnyH_take (i := 2) (oi := opfi2) (v := ?_) rfl (by kernel_rfl) (by kernel_rfl) (by kernel_rfl) (fun _ _ _ h => h) (Or.inl ⟨by rfl, ?_⟩) (by assumption) ?_
            rotate_left
            · intro w' hSw
              have s1 := hSw.1
              unfold opfi2
              first
              | (go_simp; done)
              | (go_simp; with_reducible rfl)
            simp only [opfi2, Act.put, List.setIfInBounds_toArray, List.set_cons_zero, List.set_cons_succ]
            refine wpAnyH_take (i := 4) (oi := opfi4) (v := ?_) rfl (by kernel_rfl) (by kernel_rfl) (by kernel_rfl) (fun _ _ _ h => h) (Or.inl ⟨by rfl, ?_⟩) (by assumption) ?_
            rotate_left
            · intro w' hSw
              clear hSw
              unfold opfi4
              first
              | (go_simp; done)
              | (go_simp; with_reducible rfl)
            simp only [opfi4, Act.put, List.setIfInBounds_toArray, List.set_cons_zero, List.set_cons_succ]
            refine wpAnyH_take (i := 5) (oi := opfi5) (v := ?_) rfl (by kernel_rfl) (by kernel_rfl) (by kernel_rfl) (fun _ _ _ h => h) (Or.inl ⟨by rfl, ?_⟩) (by assumption) ?_
            rotate_left
            · intro w' hSw
              have s1 := hSw.2
              unfold opfi5
              first
              | (go_simp; done)
              | (go_simp; with_reducible rfl)
            simp only [opfi5, Act.put, List.setIfInBounds_toArray, List.set_cons_zero, List.set_cons_succ]
            refine wpAnyH_ready (rs := [3]) (by kernel_rfl) (by simp) ?_
            refine AllReadyH.cons (o := opfi3) rfl (fun KK hKK => ?_) AllReadyH.nil
            unfold opfi3
            go_simp
            refine Calls.mono (C1.out _) ?_
            rintro e k1 ⟨rfl, hc1⟩
            have hb1 : Hid (Below wr.heap.size wr k1) := chain hb0.out hc1
            refine hKK.out _ _ ⟨cell_later hc1 hHeld.1, cell_later hc1 hHeld.2⟩ (fun hH1 => ?_)
            clear hKK KK hHeld hc1 C1 hb0
            try simp only [opfi3, Act.put, List.setIfInBounds_toArray, List.set_cons_zero, List.set_cons_succ]
            refine wpAnyH_ready (rs := [6]) (by kernel_rfl) (by simp) ?_
            refine AllReadyH.cons (o := opfi6) rfl (fun KK hKK => ?_) AllReadyH.nil
            unfold opfi6
            go_simp
            refine Calls.mono (C2.out _) ?_
            rintro e k2 ⟨rfl, hc2⟩
            have hb2 : Hid (Below wr.heap.size wr k2) := chain hb1.out hc2
            refine hKK.out _ _ ⟨cell_later hc2 hH1.1, cell_later hc2 hH1.2⟩ (fun hH2 => ?_)
            clear hKK KK hH1 hc2 C2 hb1
            try simp only [opfi6, Act.put, List.setIfInBounds_toArray, List.set_cons_zero, List.set_cons_succ]
            refine wpAnyH_take (i := 7) (oi := opfi7) (v := ?_) rfl (by kernel_rfl) (by kernel_rfl) (by kernel_rfl) (fun _ _ _ h => h) (Or.inl ⟨by rfl, ?_⟩) (by assumption) ?_
            rotate_left
            · intro w' hSw
              clear hSw
              unfold opfi7
              first
              | (go_simp; done)
              | (go_simp; with_reducible rfl)
            simp only [opfi7, Act.put, List.setIfInBounds_toArray, List.set_cons_zero, List.set_cons_succ]
            refine wpAnyH_ready (rs := [8]) (by kernel_rfl) (by simp) ?_
            refine AllReadyH.cons (o := opfi8) rfl (fun KK hKK => ?_) AllReadyH.nil
            unfold opfi8
            go_simp
            refine hKK.out _ _ ⟨cell_alloc hH2.1, cell_alloc hH2.2⟩ (fun hH3 => ?_)
            clear hKK KK
            try simp only [opfi8, Act.put, List.setIfInBounds_toArray, List.set_cons_zero, List.set_cons_succ]
            refine wpAnyH_ready (rs := [9]) (by kernel_rfl) (by simp) ?_
            refine AllReadyH.cons (o := opfi9) rfl (fun KK hKK => ?_) AllReadyH.nil
            obtain ⟨y', W5, hr, F5, KC⟩ := AX.out k2 hb2.out
            rw [if_pos (by kernel_rfl)]
            refine Go.Lib.wp_append_run _ _ _ _ _ rfl _ _ rfl rfl _ _ hr ?_
            refine hKK.out _ _ ⟨KC 0 _ hH2.1, KC 1 _ hH2.2⟩ (fun hH4 => ?_)
            clear hKK KK hr hH2 hH3 KC AX
            try simp only [opfi9, Act.put, List.setIfInBounds_toArray, List.set_cons_zero, List.set_cons_succ]
            refine wpAnyH_take (i := 10) (oi := opfi10) (v := ?_) rfl (by kernel_rfl) (by kernel_rfl) (by kernel_rfl) (fun _ _ _ h => h) (Or.inl ⟨by rfl, ?_⟩) (by assumption) ?_
            rotate_left
            · intro w' hSw
              clear hSw
              unfold opfi10
              first
              | (go_simp; done)
              | (go_simp; with_reducible rfl)
            simp only [opfi10, Act.put, List.setIfInBounds_toArray, List.set_cons_zero, List.set_cons_succ]
            refine wpAnyH_done (by kernel_rfl) ?_ _
            refine NoPanic.normal ?_
            go_wp2
            go_roundw
            case rel => exact ⟨j + 1, by omega, by go_num, F5.out⟩
            case measure => simp [intOf]; omega
          · obtain rfl : j = r := by omega
            have g2 : ¬ (j : Int) < (j : Int) := by omega
            go_wp2
            go_ret2
            exact ⟨_, by rw [← ER.out]; rfl, by rw [← ER.out]; exact J.out.1, J.out.2⟩
end Go.Proofs.YtjpaodepnacimaaGreatDoor
