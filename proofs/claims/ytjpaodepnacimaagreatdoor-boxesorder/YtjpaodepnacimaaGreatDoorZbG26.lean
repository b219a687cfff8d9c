/- Boxes of the program: a shelf of them; a record is taken up. -/
import Derived.Test.YtjpaodepnacimaaGreatDoorZbG25
import Derived.Deep.MidRow
namespace Go.Proofs.YtjpaodepnacimaaGreatDoor
open Go.RowKit Go.Proofs.Fd Go.Proofs.Dk Go.Proofs.Lg Go.Proofs.Bx
set_option maxRecDepth 20000
structure Bvs (K : Nat → Prop) (w : World) (vs : List Value) (b : Bxs) : Prop where
  ln : vs.length = 64
  bx : ∀ u, u < 64 → ∃ a n c, vs[u]? = some (.slice a n c) ∧ Sli w a n c (b u) ∧ ∀ x, a = some x → 0 < n → K x.block
theorem Bvs.later {K : Nat → Prop} {w w' : World} {vs : List Value} {b : Bxs} (h : Bvs K w vs b) (hb : Below w.heap.size w w') : Bvs K w' vs b := ⟨h.ln, fun u hu => by
  obtain ⟨a, n, c, e, s, k⟩ := h.bx u hu
  exact ⟨a, n, c, e, s.later hb, k⟩⟩
theorem Bvs.bf {K F : Nat → Prop} {w w' : World} {vs : List Value} {b : Bxs} (h : Bvs K w vs b) (hb : Bf F w w') (hF : ∀ z, K z → ¬ F z) : Bvs K w' vs b := ⟨h.ln, fun u hu => by
  obtain ⟨a, n, c, e, s, k⟩ := h.bx u hu
  exact ⟨a, n, c, e, s.bf hb (fun x ex h0 => hF _ (k x ex h0)), k⟩⟩
theorem Bvs.imp {K K' : Nat → Prop} {w : World} {vs : List Value} {b : Bxs} (h : Bvs K w vs b) (hK : ∀ z, K z → z < w.heap.size → K' z) : Bvs K' w vs b := ⟨h.ln, fun u hu => by
  obtain ⟨a, n, c, e, s, k⟩ := h.bx u hu
  exact ⟨a, n, c, e, s, fun x ex h0 => hK _ (k x ex h0) (s.at_.lt x ex (by rw [s.len]; exact h0))⟩⟩
theorem Bvs.set {K : Nat → Prop} {w : World} {vs : List Value} {b : Bxs} (h : Bvs K w vs b) (u : Nat) {a : Option Addr} {n c : Nat} {l : List Sl} (s : Sli w a n c l) (k : ∀ x, a = some x → 0 < n → K x.block) : Bvs K w (vs.set u (.slice a n c)) (upB b u l) := ⟨by rw [List.length_set]; exact h.ln, fun v hv => by
  by_cases e : v = u
  · subst e
    rw [upB_same, List.getElem?_set_self (by rw [h.ln]; exact hv)]
    exact ⟨a, n, c, rfl, s, k⟩
  · rw [upB_other _ _ e, List.getElem?_set_ne (fun d => e d.symm)]
    exact h.bx v hv⟩
structure Shl (K : Nat → Prop) (w : World) (S : Nat) (vs : List Value) (b : Bxs) : Prop where
  bk : Blk w S vs
  bv : Bvs K w vs b
  ks : ¬ K S
theorem Shl.later {K : Nat → Prop} {w w' : World} {S : Nat} {vs : List Value} {b : Bxs} (h : Shl K w S vs b) (hb : Below w.heap.size w w') : Shl K w' S vs b := ⟨h.bk.later hb, h.bv.later hb, h.ks⟩
def opbp0 : Oper := { dst := some 31, op := Go.Op.move (Go.Operand.tmp 0), type := 159, pos := "shelf.go:57", after := #[], guard := none }
def opbp1 : Oper := { dst := some 32, op := Go.Op.move (Go.Operand.tmp 1), type := 3, pos := "shelf.go:57", after := #[], guard := none }
def opbp2 : Oper := { dst := some 33, op := Go.Op.move (Go.Operand.tmp 0), type := 159, pos := "shelf.go:57", after := #[], guard := none }
def opbp3 : Oper := { dst := some 34, op := Go.Op.move (Go.Operand.tmp 1), type := 3, pos := "shelf.go:57", after := #[], guard := none }
def opbp4 : Oper := { dst := some 35, op := Go.Op.nilCheck (Go.Operand.tmp 33), type := 0, pos := "shelf.go:57", after := #[{ on := 2, ground := Go.Ground.data }], guard := none }
def opbp5 : Oper := { dst := some 36, op := Go.Op.indexAddr 86 (Go.Operand.tmp 35) (Go.Operand.tmp 34), type := 0, pos := "shelf.go:57", after := #[{ on := 4, ground := Go.Ground.data }, { on := 3, ground := Go.Ground.data }], guard := none }
def opbp6 : Oper := { dst := some 37, op := Go.Op.load 83 (Go.Operand.tmp 36), type := 83, pos := "shelf.go:57", after := #[{ on := 5, ground := Go.Ground.data }], guard := none }
def opbp7 : Oper := { dst := some 38, op := Go.Op.call { callee := Go.Callee.value (Go.Operand.func 138), args := #[Go.Operand.tmp 37], argTypes := #[83] }, type := 83, pos := "shelf.go:57", after := #[{ on := 6, ground := Go.Ground.data }], guard := none }
def opbp8 : Oper := { dst := some 39, op := Go.Op.move (Go.Operand.tmp 2), type := 9, pos := "shelf.go:57", after := #[], guard := none }
def opbp9 : Oper := { dst := some 40, op := Go.Op.move (Go.Operand.tmp 3), type := 9, pos := "shelf.go:57", after := #[], guard := none }
def opbp10 : Oper := { dst := some 41, op := Go.Op.build 58 #[(0, Go.Operand.tmp 39), (1, Go.Operand.tmp 40)], type := 58, pos := "shelf.go:57", after := #[{ on := 8, ground := Go.Ground.data }, { on := 9, ground := Go.Ground.data }], guard := none }
def opbp11 : Oper := { dst := some 42, op := Go.Op.buildSlice 83 1 #[(0, Go.Operand.tmp 41)], type := 83, pos := "shelf.go:57", after := #[{ on := 10, ground := Go.Ground.data }], guard := none }
def opbp12 : Oper := { dst := some 43, op := Go.Op.call { callee := Go.Callee.builtin Go.Builtin.append, args := #[Go.Operand.tmp 38, Go.Operand.tmp 42], argTypes := #[83, 83] }, type := 83, pos := "shelf.go:57", after := #[{ on := 7, ground := Go.Ground.data }, { on := 11, ground := Go.Ground.data }, { on := 7, ground := Go.Ground.chain }], guard := none }
def opbp13 : Oper := { dst := some 44, op := Go.Op.nilCheck (Go.Operand.tmp 31), type := 0, pos := "shelf.go:57", after := #[{ on := 0, ground := Go.Ground.data }], guard := none }
def opbp14 : Oper := { dst := some 45, op := Go.Op.indexAddr 86 (Go.Operand.tmp 44) (Go.Operand.tmp 32), type := 0, pos := "shelf.go:57", after := #[{ on := 13, ground := Go.Ground.data }, { on := 1, ground := Go.Ground.data }, { on := 0, ground := Go.Ground.phase }, { on := 1, ground := Go.Ground.phase }, { on := 2, ground := Go.Ground.phase }, { on := 3, ground := Go.Ground.phase }, { on := 4, ground := Go.Ground.phase }, { on := 5, ground := Go.Ground.phase }, { on := 6, ground := Go.Ground.phase }, { on := 7, ground := Go.Ground.phase }, { on := 8, ground := Go.Ground.phase }, { on := 9, ground := Go.Ground.phase }, { on := 10, ground := Go.Ground.phase }, { on := 11, ground := Go.Ground.phase }, { on := 12, ground := Go.Ground.phase }], guard := none }
def opbp15 : Oper := { dst := none, op := Go.Op.store 83 (Go.Operand.tmp 45) (Go.Operand.tmp 43), type := 0, pos := "shelf.go:57", after := #[{ on := 14, ground := Go.Ground.data }, { on := 12, ground := Go.Ground.data }, { on := 12, ground := Go.Ground.chain }, { on := 0, ground := Go.Ground.phase }, { on := 1, ground := Go.Ground.phase }, { on := 2, ground := Go.Ground.phase }, { on := 3, ground := Go.Ground.phase }, { on := 4, ground := Go.Ground.phase }, { on := 5, ground := Go.Ground.phase }, { on := 6, ground := Go.Ground.phase }, { on := 7, ground := Go.Ground.phase }, { on := 8, ground := Go.Ground.phase }, { on := 9, ground := Go.Ground.phase }, { on := 10, ground := Go.Ground.phase }, { on := 11, ground := Go.Ground.phase }, { on := 12, ground := Go.Ground.phase }], guard := none }
def ShP (K : Nat → Prop) (w : World) (S : Nat) (b : Bxs) (w' : World) : Prop := ∃ vs, Shl K w' S vs b ∧ Bf (fun z => z = S) w w'
set_option maxHeartbeats 4000000 in
theorem xsput_any (K : Nat → Prop) (w : World) (S : Nat) (vs : List Value) (b : Bxs) (u : Nat) (hu : u < 64) (X T : ByteArray) (hX : okI X.data.toList = true) (hT : T.size ≤ 222) (hm : X.data.toList ∉ ids (b u)) (hl : (b u).length ≤ 100000) (hK : ∀ z, w.heap.size ≤ z → K z) (h : Hid (Shl K w S vs b)) :
    Calls Tryz.prog 108 #[.pointer (some ⟨S, 0, none⟩), .int .i64 (u : Int), .string X, .string T] w fun e w' => e = .returned (.bool true) ∧ ShP K w S (upB b u (b u ++ [(X.data.toList, T.data.toList)])) w' := by
  obtain ⟨a, n, c, ev, sl, kb⟩ := h.out.bv.bx u hu
  have cu := h.out.bk.c u _ ev
  have fz := h.out.bk.f
  have len := sl.len
  have US : Hid (∀ W, Calls Tryz.prog 32 #[.int .i64 (u : Int)] W fun e w' => e = .returned (.bool true) ∧ w' = W) := fun W => by
    have := xuser_any (u : Int) W
    rw [show noU (u : Int) = false by unfold noU; simp; omega] at this
    exact this
  have ID : Hid (∀ W, Calls Tryz.prog 38 #[.string X] W fun e w' => e = .returned (.bool true) ∧ Below W.heap.size W w') := fun W => by
    have := xid_any X W
    rw [hX] at this
    exact this
  have TX : Hid (∀ W, Calls Tryz.prog 39 #[.string T] W fun e w' => e = .returned (.bool true) ∧ w' = W) := fun W => by
    have := xtext_any T W
    rw [decide_eq_true hT] at this
    exact this
  have HS : Hid (∀ W, Below w.heap.size w W → Calls Tryz.prog 40 #[.slice a n c, .string X] W fun e w' => e = .returned (.bool false) ∧ Below W.heap.size W w') := fun W hb => by
    have := xhas_any a n c (b u) X len (by omega) W (sl.at_.later hb)
    rw [decide_eq_false hm] at this
    exact this
  have CL : Hid (∀ W, Calls Tryz.prog 138 #[.slice a n c] W fun e w' => e = .returned (.slice a n n) ∧ w' = W) := fun W => xclip_any a n c sl.le sl.cm sl.nl W
  have KC : Hid (∀ W, Below w.heap.size w W → W.cell? ⟨S, u, none⟩ = some (.slice a n c) ∧ W.frozen? ⟨S, u, none⟩ = false ∧ S < W.heap.size) := fun W hb => ⟨cell_later hb cu, (h.out.bk.later hb).f u, (h.out.bk.later hb).lt⟩
  have AP : Hid (∀ W, Below w.heap.size w W → ∃ a' c' W2, (Builtin.append_ #[83, 83] 83 #[.slice a n n, .slice (some ⟨W.heap.size, 0, none⟩) 1 1]).run Tryz.prog (W.alloc (.cells #[.string X, .string T] 58)) = .ok (.slice a' (n + 1) c') W2 ∧ (W2.cell? ⟨S, u, none⟩ = some (.slice a n c) ∧ W2.frozen? ⟨S, u, none⟩ = false) ∧ Hid (ShP K w S (upB b u (b u ++ [(X.data.toList, T.data.toList)])) (W2.setCell ⟨S, u, none⟩ (.slice a' (n + 1) c')))) := fun W hb => by
    have nb1 := nb W (.cells #[.string X, .string T] 58)
    obtain ⟨a', c', W2, r1, r2, r3, r4⟩ := app_one (W.alloc (.cells #[.string X, .string T] 58)) 83 a n (b u) len (by omega) (sl.at_.later (chain hb nb1)) (fun e => (sl.nl e).1) W.heap.size (X.data.toList, T.data.toList) ⟨by rw [World.cell?_alloc_new]; rfl, by rw [World.cell?_alloc_new]; rfl⟩
    have hb2 : Below w.heap.size w W2 := chain (chain hb nb1) r4
    have hbk := h.out.bk.later hb2
    have bf : Bf (fun z => z = S) W2 (W2.setCell ⟨S, u, none⟩ (.slice a' (n + 1) c')) := Bf.set (fun z => z = S) W2 S u _ rfl
    have hlen : u < vs.length := by rw [h.out.bv.ln]; exact hu
    have sS : S < w.heap.size := h.out.bk.lt
    have hw := hb.size
    have n1 := nb1.size
    refine ⟨a', c', W2, r1, ⟨cell_later hb2 cu, hbk.f u⟩, vs.set u (.slice a' (n + 1) c'), ⟨hbk.set u hlen _, ?_, h.out.ks⟩, (Bf.of hb2).trans (Nx.refl _ _) bf⟩
    have bv2 : Bvs K (W2.setCell ⟨S, u, none⟩ (.slice a' (n + 1) c')) vs b := by
      refine ⟨h.out.bv.ln, fun v hv => ?_⟩
      obtain ⟨a1, n1, c1, e1, s1, k1⟩ := h.out.bv.bx v hv
      exact ⟨a1, n1, c1, e1, (s1.later hb2).bf bf (fun x ex h0 c => h.out.ks (by rw [← c]; exact k1 x ex h0)), k1⟩
    exact bv2.set u (r2.bf bf (fun x ex _ c => by have := r3 x ex; omega)) (fun x ex _ => hK _ (by have := r3 x ex; omega))
  have g0 : (0 : Int) ≤ (u : Int) := by omega
  have g64 : (u : Int) < 64 := by omega
  clear ev sl kb h hK hX hT hm hl len
  go_enter Tryz.func108, Tryz.ntmps108
  go_wp2_with fail
  refine Calls.mono (US.out _) ?_
  rintro e w1 ⟨rfl, rfl⟩
  clear US
  go_wp2_with fail
  refine Calls.mono (ID.out _) ?_
  rintro e w2 ⟨rfl, hb2⟩
  clear ID
  go_wp2_with fail
  refine Calls.mono (TX.out _) ?_
  rintro e w3 ⟨rfl, rfl⟩
  obtain ⟨c2, f2, l2⟩ := KC.out _ hb2
  clear TX cu fz
  go_wp2_with fail
  refine Calls.mono (HS.out _ hb2) ?_
  rintro e w4 ⟨rfl, hb4⟩
  have B4 : Below _ _ w4.drew := (chain hb2 hb4).drew
  obtain ⟨c4, f4, l4⟩ := KC.out _ B4
  obtain ⟨a', c', W2, r1, ⟨c5, f5⟩, FF⟩ := AP.out _ B4
  have AP1 : Hid _ := r1
  have c4a := cell_alloc (o := .cells #[.string X, .string T] 58) c4
  clear HS KC AP r1 c2 f2 l2 hb2 hb4 B4
  go_wp2_with fail
  refine wp_region_noPanic ?_
  refine wp_region_held_drew (S := fun _ => True) (by kernel_rfl) (trivial) (fun hHeld => ?_)
  obtain ⟨D, hD⟩ : ∃ D, w4.drew = D := ⟨_, rfl⟩
  rw [hD] at c4 f4 l4 c4a AP1 ⊢
  clear hD
  refine wpAnyH_take (i := 0) (oi := opbp0) (v := ?_) rfl (by kernel_rfl) (by kernel_rfl) (by kernel_rfl) (fun _ _ _ h => h) (Or.inl ⟨by rfl, ?_⟩) (by assumption) ?_
  rotate_left
  · intro w' hSw
    clear hSw
    unfold opbp0
    first
    | (go_simp; done)
    | (go_simp; with_reducible rfl)
  simp only [opbp0, Act.put, List.setIfInBounds_toArray, List.set_cons_zero, List.set_cons_succ]
  refine wpAnyH_take (i := 1) (oi := opbp1) (v := ?_) rfl (by kernel_rfl) (by kernel_rfl) (by kernel_rfl) (fun _ _ _ h => h) (Or.inl ⟨by rfl, ?_⟩) (by assumption) ?_
  rotate_left
  · intro w' hSw
    clear hSw
    unfold opbp1
    first
    | (go_simp; done)
    | (go_simp; with_reducible rfl)
  simp only [opbp1, Act.put, List.setIfInBounds_toArray, List.set_cons_zero, List.set_cons_succ]
  refine wpAnyH_take (i := 2) (oi := opbp2) (v := ?_) rfl (by kernel_rfl) (by kernel_rfl) (by kernel_rfl) (fun _ _ _ h => h) (Or.inl ⟨by rfl, ?_⟩) (by assumption) ?_
  rotate_left
  · intro w' hSw
    clear hSw
    unfold opbp2
    first
    | (go_simp; done)
    | (go_simp; with_reducible rfl)
  simp only [opbp2, Act.put, List.setIfInBounds_toArray, List.set_cons_zero, List.set_cons_succ]
  refine wpAnyH_take (i := 3) (oi := opbp3) (v := ?_) rfl (by kernel_rfl) (by kernel_rfl) (by kernel_rfl) (fun _ _ _ h => h) (Or.inl ⟨by rfl, ?_⟩) (by assumption) ?_
  rotate_left
  · intro w' hSw
    clear hSw
    unfold opbp3
    first
    | (go_simp; done)
    | (go_simp; with_reducible rfl)
  simp only [opbp3, Act.put, List.setIfInBounds_toArray, List.set_cons_zero, List.set_cons_succ]
  refine wpAnyH_take (i := 4) (oi := opbp4) (v := ?_) rfl (by kernel_rfl) (by kernel_rfl) (by kernel_rfl) (fun _ _ _ h => h) (Or.inl ⟨by rfl, ?_⟩) (by assumption) ?_
  rotate_left
  · intro w' hSw
    clear hSw
    unfold opbp4
    first
    | (go_simp; done)
    | (go_simp; with_reducible rfl)
  simp only [opbp4, Act.put, List.setIfInBounds_toArray, List.set_cons_zero, List.set_cons_succ]
  refine wpAnyH_take (i := 5) (oi := opbp5) (v := ?_) rfl (by kernel_rfl) (by kernel_rfl) (by kernel_rfl) (fun _ _ _ h => h) (Or.inl ⟨by rfl, ?_⟩) (by assumption) ?_
  rotate_left
  · intro w' hSw
    clear hSw
    unfold opbp5
    first
    | (go_simp; done)
    | (go_simp; with_reducible rfl)
  simp only [opbp5, Act.put, List.setIfInBounds_toArray, List.set_cons_zero, List.set_cons_succ]
  refine wpAnyH_take (i := 8) (oi := opbp8) (v := ?_) rfl (by kernel_rfl) (by kernel_rfl) (by kernel_rfl) (fun _ _ _ h => h) (Or.inl ⟨by rfl, ?_⟩) (by assumption) ?_
  rotate_left
  · intro w' hSw
    clear hSw
    unfold opbp8
    first
    | (go_simp; done)
    | (go_simp; with_reducible rfl)
  simp only [opbp8, Act.put, List.setIfInBounds_toArray, List.set_cons_zero, List.set_cons_succ]
  refine wpAnyH_take (i := 9) (oi := opbp9) (v := ?_) rfl (by kernel_rfl) (by kernel_rfl) (by kernel_rfl) (fun _ _ _ h => h) (Or.inl ⟨by rfl, ?_⟩) (by assumption) ?_
  rotate_left
  · intro w' hSw
    clear hSw
    unfold opbp9
    first
    | (go_simp; done)
    | (go_simp; with_reducible rfl)
  simp only [opbp9, Act.put, List.setIfInBounds_toArray, List.set_cons_zero, List.set_cons_succ]
  refine wpAnyH_take (i := 10) (oi := opbp10) (v := ?_) rfl (by kernel_rfl) (by kernel_rfl) (by kernel_rfl) (fun _ _ _ h => h) (Or.inl ⟨by rfl, ?_⟩) (by assumption) ?_
  rotate_left
  · intro w' hSw
    clear hSw
    unfold opbp10
    first
    | (go_simp; done)
    | (go_simp; with_reducible rfl)
  simp only [opbp10, Act.put, List.setIfInBounds_toArray, List.set_cons_zero, List.set_cons_succ]
  refine wpAnyH_take (i := 13) (oi := opbp13) (v := ?_) rfl (by kernel_rfl) (by kernel_rfl) (by kernel_rfl) (fun _ _ _ h => h) (Or.inl ⟨by rfl, ?_⟩) (by assumption) ?_
  rotate_left
  · intro w' hSw
    clear hSw
    unfold opbp13
    first
    | (go_simp; done)
    | (go_simp; with_reducible rfl)
  simp only [opbp13, Act.put, List.setIfInBounds_toArray, List.set_cons_zero, List.set_cons_succ]
  refine wpAnyH_ready (rs := [6, 11]) (by kernel_rfl) (by simp) ?_
  refine AllReadyH.cons (o := opbp6) rfl (fun KK hKK => ?_) (AllReadyH.cons (o := opbp11) rfl (fun KK hKK => ?_) AllReadyH.nil)
  · unfold opbp6
    go_simp
    refine hKK.out _ _ trivial (fun _ => ?_)
    clear hKK KK
    try simp only [opbp6, Act.put, List.setIfInBounds_toArray, List.set_cons_zero, List.set_cons_succ]
    refine wpAnyH_ready (rs := [7, 11]) (by kernel_rfl) (by simp) ?_
    refine AllReadyH.cons (o := opbp7) rfl (fun KK hKK => ?_) (AllReadyH.cons (o := opbp11) rfl (fun KK hKK => ?_) AllReadyH.nil)
    · unfold opbp7
      go_simp
      refine Calls.mono (CL.out _) ?_
      rintro e wk ⟨rfl, hwk⟩
      subst hwk
      refine hKK.out _ _ trivial (fun _ => ?_)
      clear hKK KK
      try simp only [opbp7, Act.put, List.setIfInBounds_toArray, List.set_cons_zero, List.set_cons_succ]
      refine wpAnyH_ready (rs := [11]) (by kernel_rfl) (by simp) ?_
      refine AllReadyH.cons (o := opbp11) rfl (fun KK hKK => ?_) AllReadyH.nil
      unfold opbp11
      go_simp
      refine hKK.out _ _ trivial (fun _ => ?_)
      clear hKK KK
      try simp only [opbp11, Act.put, List.setIfInBounds_toArray, List.set_cons_zero, List.set_cons_succ]
      refine wpAnyH_ready (rs := [12]) (by kernel_rfl) (by simp) ?_
      refine AllReadyH.cons (o := opbp12) rfl (fun KK hKK => ?_) AllReadyH.nil
      have hr := AP1.out
      rw [if_pos (by kernel_rfl)]
      refine Go.Lib.wp_append_run _ _ _ _ _ rfl _ _ rfl rfl _ _ hr ?_
      refine hKK.out _ _ trivial (fun _ => ?_)
      clear hKK KK hr
      simp only [opbp12, Act.put, List.setIfInBounds_toArray, List.set_cons_zero, List.set_cons_succ]
      refine wpAnyH_take (i := 14) (oi := opbp14) (v := ?_) rfl (by kernel_rfl) (by kernel_rfl) (by kernel_rfl) (fun _ _ _ h => h) (Or.inl ⟨by rfl, ?_⟩) (by assumption) ?_
      rotate_left
      · intro w' hSw
        clear hSw
        unfold opbp14
        first
        | (go_simp; done)
        | (go_simp; with_reducible rfl)
      simp only [opbp14, Act.put, List.setIfInBounds_toArray, List.set_cons_zero, List.set_cons_succ]
      refine wpAnyH_ready (rs := [15]) (by kernel_rfl) (by simp) ?_
      refine AllReadyH.cons (o := opbp15) rfl (fun KK hKK => ?_) AllReadyH.nil
      unfold opbp15
      go_simp
      refine hKK.out _ _ trivial (fun _ => ?_)
      clear hKK KK
      refine wpAnyH_done (by kernel_rfl) ?_ _
      refine NoPanic.normal ?_
      go_wp2
      go_ret
      exact ⟨rfl, FF.out⟩
    · unfold opbp11
      go_simp
      refine hKK.out _ _ trivial (fun _ => ?_)
      clear hKK KK
      try simp only [opbp11, Act.put, List.setIfInBounds_toArray, List.set_cons_zero, List.set_cons_succ]
      refine wpAnyH_ready (rs := [7]) (by kernel_rfl) (by simp) ?_
      refine AllReadyH.cons (o := opbp7) rfl (fun KK hKK => ?_) AllReadyH.nil
      unfold opbp7
      go_simp
      refine Calls.mono (CL.out _) ?_
      rintro e wk ⟨rfl, hwk⟩
      subst hwk
      refine hKK.out _ _ trivial (fun _ => ?_)
      clear hKK KK
      try simp only [opbp7, Act.put, List.setIfInBounds_toArray, List.set_cons_zero, List.set_cons_succ]
      refine wpAnyH_ready (rs := [12]) (by kernel_rfl) (by simp) ?_
      refine AllReadyH.cons (o := opbp12) rfl (fun KK hKK => ?_) AllReadyH.nil
      have hr := AP1.out
      rw [if_pos (by kernel_rfl)]
      refine Go.Lib.wp_append_run _ _ _ _ _ rfl _ _ rfl rfl _ _ hr ?_
      refine hKK.out _ _ trivial (fun _ => ?_)
      clear hKK KK hr
      simp only [opbp12, Act.put, List.setIfInBounds_toArray, List.set_cons_zero, List.set_cons_succ]
      refine wpAnyH_take (i := 14) (oi := opbp14) (v := ?_) rfl (by kernel_rfl) (by kernel_rfl) (by kernel_rfl) (fun _ _ _ h => h) (Or.inl ⟨by rfl, ?_⟩) (by assumption) ?_
      rotate_left
      · intro w' hSw
        clear hSw
        unfold opbp14
        first
        | (go_simp; done)
        | (go_simp; with_reducible rfl)
      simp only [opbp14, Act.put, List.setIfInBounds_toArray, List.set_cons_zero, List.set_cons_succ]
      refine wpAnyH_ready (rs := [15]) (by kernel_rfl) (by simp) ?_
      refine AllReadyH.cons (o := opbp15) rfl (fun KK hKK => ?_) AllReadyH.nil
      unfold opbp15
      go_simp
      refine hKK.out _ _ trivial (fun _ => ?_)
      clear hKK KK
      refine wpAnyH_done (by kernel_rfl) ?_ _
      refine NoPanic.normal ?_
      go_wp2
      go_ret
      exact ⟨rfl, FF.out⟩
  · unfold opbp11
    go_simp
    refine hKK.out _ _ trivial (fun _ => ?_)
    clear hKK KK
    try simp only [opbp11, Act.put, List.setIfInBounds_toArray, List.set_cons_zero, List.set_cons_succ]
    refine wpAnyH_ready (rs := [6]) (by kernel_rfl) (by simp) ?_
    refine AllReadyH.cons (o := opbp6) rfl (fun KK hKK => ?_) AllReadyH.nil
    unfold opbp6
    go_simp
    refine hKK.out _ _ trivial (fun _ => ?_)
    clear hKK KK
    try simp only [opbp6, Act.put, List.setIfInBounds_toArray, List.set_cons_zero, List.set_cons_succ]
    refine wpAnyH_ready (rs := [7]) (by kernel_rfl) (by simp) ?_
    refine AllReadyH.cons (o := opbp7) rfl (fun KK hKK => ?_) AllReadyH.nil
    unfold opbp7
    go_simp
    refine Calls.mono (CL.out _) ?_
    rintro e wk ⟨rfl, hwk⟩
    subst hwk
    refine hKK.out _ _ trivial (fun _ => ?_)
    clear hKK KK
    try simp only [opbp7, Act.put, List.setIfInBounds_toArray, List.set_cons_zero, List.set_cons_succ]
    refine wpAnyH_ready (rs := [12]) (by kernel_rfl) (by simp) ?_
    refine AllReadyH.cons (o := opbp12) rfl (fun KK hKK => ?_) AllReadyH.nil
    have hr := AP1.out
    rw [if_pos (by kernel_rfl)]
    refine Go.Lib.wp_append_run _ _ _ _ _ rfl _ _ rfl rfl _ _ hr ?_
    refine hKK.out _ _ trivial (fun _ => ?_)
    clear hKK KK hr
    simp only [opbp12, Act.put, List.setIfInBounds_toArray, List.set_cons_zero, List.set_cons_succ]
    refine wpAnyH_take (i := 14) (oi := opbp14) (v := ?_) rfl (by kernel_rfl) (by kernel_rfl) (by kernel_rfl) (fun _ _ _ h => h) (Or.inl ⟨by rfl, ?_⟩) (by assumption) ?_
    rotate_left
    · intro w' hSw
      clear hSw
      unfold opbp14
      first
      | (go_simp; done)
      | (go_simp; with_reducible rfl)
    simp only [opbp14, Act.put, List.setIfInBounds_toArray, List.set_cons_zero, List.set_cons_succ]
    refine wpAnyH_ready (rs := [15]) (by kernel_rfl) (by simp) ?_
    refine AllReadyH.cons (o := opbp15) rfl (fun KK hKK => ?_) AllReadyH.nil
    unfold opbp15
    go_simp
    refine hKK.out _ _ trivial (fun _ => ?_)
    clear hKK KK
    refine wpAnyH_done (by kernel_rfl) ?_ _
    refine NoPanic.normal ?_
    go_wp2
    go_ret
    exact ⟨rfl, FF.out⟩
theorem sl_head (b o n c i : Nat) (hi : i ≤ n) (hc : n ≤ c) (W : World) : (Instr.slice 83 (.slice (some ⟨b, o, none⟩) n c) none (some (.int .i64 (i : Int))) none).run Tryz.prog W = .ok (.slice (some ⟨b, o, none⟩) i c) W := by
  have h1 : (i : Int) ≤ (c : Int) := by omega
  simp [go_sem, h1]
theorem sl_tail (w : World) (b o n c i : Nat) (l : List Sl) (h : SlAt w (some ⟨b, o, none⟩) l) (hl : l.length = n) (hi : i ≤ n) (hc : n ≤ c) : ∃ o2, (∀ W, (Instr.slice 83 (.slice (some ⟨b, o, none⟩) n c) (some (.int .i64 (i : Int))) none none).run Tryz.prog W = .ok (.slice (some ⟨b, o2, none⟩) (n - i) (c - i)) W) ∧ SlAt w (some ⟨b, o2, none⟩) (l.drop i) := by
  have h1 : (i : Int) ≤ (n : Int) := by omega
  by_cases q : c = i
  · refine ⟨o, fun W => by simp [go_sem, h1, q], ?_⟩
    rw [List.drop_of_length_le (by omega)]
    exact SlAt.nil _ _
  · exact ⟨o + i * 2, fun W => by simp [go_sem, h1, q], h.cut i⟩
def opba0 : Oper := { dst := some 28, op := Go.Op.move (Go.Operand.tmp 0), type := 159, pos := "shelf.go:66", after := #[], guard := none }
def opba1 : Oper := { dst := some 29, op := Go.Op.move (Go.Operand.tmp 1), type := 3, pos := "shelf.go:66", after := #[], guard := none }
def opba2 : Oper := { dst := some 30, op := Go.Op.move (Go.Operand.tmp 0), type := 159, pos := "shelf.go:66", after := #[], guard := none }
def opba3 : Oper := { dst := some 31, op := Go.Op.move (Go.Operand.tmp 1), type := 3, pos := "shelf.go:66", after := #[], guard := none }
def opba4 : Oper := { dst := some 32, op := Go.Op.nilCheck (Go.Operand.tmp 30), type := 0, pos := "shelf.go:66", after := #[{ on := 2, ground := Go.Ground.data }], guard := none }
def opba5 : Oper := { dst := some 33, op := Go.Op.indexAddr 86 (Go.Operand.tmp 32) (Go.Operand.tmp 31), type := 0, pos := "shelf.go:66", after := #[{ on := 4, ground := Go.Ground.data }, { on := 3, ground := Go.Ground.data }], guard := none }
def opba6 : Oper := { dst := some 34, op := Go.Op.load 83 (Go.Operand.tmp 33), type := 83, pos := "shelf.go:66", after := #[{ on := 5, ground := Go.Ground.data }], guard := none }
def opba7 : Oper := { dst := some 35, op := Go.Op.move (Go.Operand.tmp 7), type := 3, pos := "shelf.go:66", after := #[], guard := none }
def opba8 : Oper := { dst := some 36, op := Go.Op.slice 83 (Go.Operand.tmp 34) none (some (Go.Operand.tmp 35)) none, type := 83, pos := "shelf.go:66", after := #[{ on := 6, ground := Go.Ground.data }, { on := 7, ground := Go.Ground.data }], guard := none }
def opba9 : Oper := { dst := some 37, op := Go.Op.move (Go.Operand.tmp 0), type := 159, pos := "shelf.go:66", after := #[], guard := none }
def opba10 : Oper := { dst := some 38, op := Go.Op.move (Go.Operand.tmp 1), type := 3, pos := "shelf.go:66", after := #[], guard := none }
def opba11 : Oper := { dst := some 39, op := Go.Op.nilCheck (Go.Operand.tmp 37), type := 0, pos := "shelf.go:66", after := #[{ on := 9, ground := Go.Ground.data }], guard := none }
def opba12 : Oper := { dst := some 40, op := Go.Op.indexAddr 86 (Go.Operand.tmp 39) (Go.Operand.tmp 38), type := 0, pos := "shelf.go:66", after := #[{ on := 11, ground := Go.Ground.data }, { on := 10, ground := Go.Ground.data }], guard := none }
def opba13 : Oper := { dst := some 41, op := Go.Op.load 83 (Go.Operand.tmp 40), type := 83, pos := "shelf.go:66", after := #[{ on := 12, ground := Go.Ground.data }], guard := none }
def opba14 : Oper := { dst := some 42, op := Go.Op.move (Go.Operand.tmp 7), type := 3, pos := "shelf.go:66", after := #[], guard := none }
def opba15 : Oper := { dst := some 43, op := Go.Op.binOp Go.BinOp.add 3 (Go.Operand.tmp 42) (Go.Operand.const (Go.Value.int Go.IntKind.i64 1)) 3, type := 3, pos := "shelf.go:66", after := #[{ on := 14, ground := Go.Ground.data }], guard := none }
def opba16 : Oper := { dst := some 44, op := Go.Op.slice 83 (Go.Operand.tmp 41) (some (Go.Operand.tmp 43)) none none, type := 83, pos := "shelf.go:66", after := #[{ on := 13, ground := Go.Ground.data }, { on := 15, ground := Go.Ground.data }], guard := none }
def opba17 : Oper := { dst := some 45, op := Go.Op.buildSlice 208 2 #[(0, Go.Operand.tmp 36), (1, Go.Operand.tmp 44)], type := 208, pos := "shelf.go:66", after := #[{ on := 8, ground := Go.Ground.data }, { on := 16, ground := Go.Ground.data }], guard := none }
def opba18 : Oper := { dst := some 46, op := Go.Op.call { callee := Go.Callee.value (Go.Operand.func 139), args := #[Go.Operand.tmp 45], argTypes := #[208] }, type := 83, pos := "shelf.go:66", after := #[{ on := 17, ground := Go.Ground.data }], guard := none }
def opba19 : Oper := { dst := some 47, op := Go.Op.nilCheck (Go.Operand.tmp 28), type := 0, pos := "shelf.go:66", after := #[{ on := 0, ground := Go.Ground.data }], guard := none }
def opba20 : Oper := { dst := some 48, op := Go.Op.indexAddr 86 (Go.Operand.tmp 47) (Go.Operand.tmp 29), type := 0, pos := "shelf.go:66", after := #[{ on := 19, ground := Go.Ground.data }, { on := 1, ground := Go.Ground.data }, { on := 0, ground := Go.Ground.phase }, { on := 1, ground := Go.Ground.phase }, { on := 2, ground := Go.Ground.phase }, { on := 3, ground := Go.Ground.phase }, { on := 4, ground := Go.Ground.phase }, { on := 5, ground := Go.Ground.phase }, { on := 6, ground := Go.Ground.phase }, { on := 7, ground := Go.Ground.phase }, { on := 8, ground := Go.Ground.phase }, { on := 9, ground := Go.Ground.phase }, { on := 10, ground := Go.Ground.phase }, { on := 11, ground := Go.Ground.phase }, { on := 12, ground := Go.Ground.phase }, { on := 13, ground := Go.Ground.phase }, { on := 14, ground := Go.Ground.phase }, { on := 15, ground := Go.Ground.phase }, { on := 16, ground := Go.Ground.phase }, { on := 17, ground := Go.Ground.phase }, { on := 18, ground := Go.Ground.phase }], guard := none }
def opba21 : Oper := { dst := none, op := Go.Op.store 83 (Go.Operand.tmp 48) (Go.Operand.tmp 46), type := 0, pos := "shelf.go:66", after := #[{ on := 20, ground := Go.Ground.data }, { on := 18, ground := Go.Ground.data }, { on := 18, ground := Go.Ground.chain }, { on := 0, ground := Go.Ground.phase }, { on := 1, ground := Go.Ground.phase }, { on := 2, ground := Go.Ground.phase }, { on := 3, ground := Go.Ground.phase }, { on := 4, ground := Go.Ground.phase }, { on := 5, ground := Go.Ground.phase }, { on := 6, ground := Go.Ground.phase }, { on := 7, ground := Go.Ground.phase }, { on := 8, ground := Go.Ground.phase }, { on := 9, ground := Go.Ground.phase }, { on := 10, ground := Go.Ground.phase }, { on := 11, ground := Go.Ground.phase }, { on := 12, ground := Go.Ground.phase }, { on := 13, ground := Go.Ground.phase }, { on := 14, ground := Go.Ground.phase }, { on := 15, ground := Go.Ground.phase }, { on := 16, ground := Go.Ground.phase }, { on := 17, ground := Go.Ground.phase }, { on := 18, ground := Go.Ground.phase }], guard := none }
set_option maxHeartbeats 4000000 in
theorem xsack_any (K : Nat → Prop) (w : World) (S : Nat) (vs : List Value) (b : Bxs) (u : Nat) (hu : u < 64) (X : ByteArray) (hm : X.data.toList ∈ ids (b u)) (hl : (b u).length ≤ 100000) (hK : ∀ z, w.heap.size ≤ z → K z) (h : Hid (Shl K w S vs b)) :
    Calls Tryz.prog 109 #[.pointer (some ⟨S, 0, none⟩), .int .i64 (u : Int), .string X] w fun e w' => e = .returned (.bool true) ∧ ShP K w S (upB b u (rmL (b u) X.data.toList)) w' := by
  obtain ⟨a, n, c, ev, sl, kb⟩ := h.out.bv.bx u hu
  have cu := h.out.bk.c u _ ev
  have len := sl.len
  have hix := (idx_lt _ _).2 hm
  have hf : fnd (b u) X.data.toList = (idx (b u) X.data.toList : Int) := if_pos hm
  have hrm := rmL_cut _ _ hm
  obtain ⟨k, hk⟩ : ∃ k, idx (b u) X.data.toList = k := ⟨_, rfl⟩
  rw [hk] at hix hf hrm
  obtain ⟨b1, o1, rfl, -, -⟩ := sl.at_ 0 (by omega)
  have US : Hid (∀ W, Calls Tryz.prog 32 #[.int .i64 (u : Int)] W fun e w' => e = .returned (.bool true) ∧ w' = W) := fun W => by
    have := xuser_any (u : Int) W
    rw [show noU (u : Int) = false by unfold noU; simp; omega] at this
    exact this
  have HS : Hid (∀ W, Below w.heap.size w W → Calls Tryz.prog 40 #[.slice (some ⟨b1, o1, none⟩) n c, .string X] W fun e w' => e = .returned (.bool true) ∧ Below W.heap.size W w') := fun W hb => by
    have := xhas_any _ n c (b u) X len (by omega) W (sl.at_.later hb)
    rw [decide_eq_true hm] at this
    exact this
  have FN : Hid (∀ W, Below w.heap.size w W → Calls Tryz.prog 69 #[.slice (some ⟨b1, o1, none⟩) n c, .string X] W fun e w' => e = .returned (.int .i64 (k : Int)) ∧ Below W.heap.size W w') := fun W hb => by
    have := xfind_any _ n c (b u) X len (by omega) W (sl.at_.later hb)
    rw [hf] at this
    exact this
  have KC : Hid (∀ W, Below w.heap.size w W → W.cell? ⟨S, u, none⟩ = some (.slice (some ⟨b1, o1, none⟩) n c) ∧ W.frozen? ⟨S, u, none⟩ = false ∧ S < W.heap.size) := fun W hb => ⟨cell_later hb cu, (h.out.bk.later hb).f u, (h.out.bk.later hb).lt⟩
  obtain ⟨o2, SL, st2⟩ := sl_tail w b1 o1 n c (k + 1) (b u) sl.at_ len (by omega) sl.le
  have SH := sl_head b1 o1 n c k (by omega) sl.le
  have st1 := sl.at_.take k
  have CC : Hid (∀ W, Below w.heap.size w W → Calls Tryz.prog 139 #[.slice (some ⟨W.heap.size, 0, none⟩) 2 2] (W.alloc (.cells #[.slice (some ⟨b1, o1, none⟩) k c, .slice (some ⟨b1, o2, none⟩) (n - (k + 1)) (c - (k + 1))] 83)) fun e W2 => ∃ a' n' c', e = .returned (.slice a' n' c') ∧ (W2.cell? ⟨S, u, none⟩ = some (.slice (some ⟨b1, o1, none⟩) n c) ∧ W2.frozen? ⟨S, u, none⟩ = false) ∧ Hid (ShP K w S (upB b u (rmL (b u) X.data.toList)) (W2.setCell ⟨S, u, none⟩ (.slice a' n' c')))) := fun W hb => by
    have nb1 := nb W (.cells #[.slice (some ⟨b1, o1, none⟩) k c, .slice (some ⟨b1, o2, none⟩) (n - (k + 1)) (c - (k + 1))] 83)
    have hb1 := chain hb nb1
    refine (xconcat_any W.heap.size (some ⟨b1, o1, none⟩) (some ⟨b1, o2, none⟩) k (n - (k + 1)) c (c - (k + 1)) ((b u).take k) ((b u).drop (k + 1)) (by rw [List.length_take]; omega) (by rw [List.length_drop]; omega) (by omega) (by omega) _ (by rw [World.cell?_alloc_new]; rfl) (by rw [World.cell?_alloc_new]; rfl) (st1.later hb1) (st2.later hb1)).mono ?_
    rintro e W2 ⟨a', c', rfl, r2, r3, r4⟩
    have hb2 : Below w.heap.size w W2 := chain hb1 r4
    have hbk := h.out.bk.later hb2
    have bf : Bf (fun z => z = S) W2 (W2.setCell ⟨S, u, none⟩ (.slice a' (k + (n - (k + 1))) c')) := Bf.set (fun z => z = S) W2 S u _ rfl
    have hlen : u < vs.length := by rw [h.out.bv.ln]; exact hu
    have sS : S < w.heap.size := h.out.bk.lt
    have hw := hb1.size
    refine ⟨a', _, c', rfl, ⟨cell_later hb2 cu, hbk.f u⟩, vs.set u (.slice a' (k + (n - (k + 1))) c'), ⟨hbk.set u hlen _, ?_, h.out.ks⟩, (Bf.of hb2).trans (Nx.refl _ _) bf⟩
    have bv2 : Bvs K (W2.setCell ⟨S, u, none⟩ (.slice a' (k + (n - (k + 1))) c')) vs b := by
      refine ⟨h.out.bv.ln, fun v hv => ?_⟩
      obtain ⟨a1, n1, c1, e1, s1, k1⟩ := h.out.bv.bx v hv
      exact ⟨a1, n1, c1, e1, (s1.later hb2).bf bf (fun x ex h0 c => h.out.ks (by rw [← c]; exact k1 x ex h0)), k1⟩
    rw [hrm]
    exact bv2.set u (r2.bf bf (fun x ex _ c => by have := r3 x ex; omega)) (fun x ex _ => hK _ (by have := r3 x ex; omega))
  have g0 : (0 : Int) ≤ (u : Int) := by omega
  have g64 : (u : Int) < 64 := by omega
  have hkn : k < n := by omega
  have e1 : IntKind.i64.wrap ((k : Int) + 1) = ((k + 1 : Nat) : Int) := by rw [IntKind.wrap_i64]; omega
  obtain ⟨n2, hn2⟩ : ∃ n2, n - (k + 1) = n2 := ⟨_, rfl⟩
  obtain ⟨c2, hc2⟩ : ∃ n2, c - (k + 1) = n2 := ⟨_, rfl⟩
  obtain ⟨k1, hk1⟩ : ∃ n2 : Int, ((k + 1 : Nat) : Int) = n2 := ⟨_, rfl⟩
  rw [hn2, hc2] at SL CC
  rw [hk1] at SL e1
  clear ev sl kb h hK hm hl len hix hf hrm hk st1 st2 hn2 hc2 hk1 hkn
  obtain ⟨ki, hki⟩ : ∃ z : Int, (k : Int) = z := ⟨_, rfl⟩
  rw [hki] at FN SH e1
  clear hki
  go_enter Tryz.func109, Tryz.ntmps109
  go_wp2_with fail
  refine Calls.mono (US.out _) ?_
  rintro e w1 ⟨rfl, rfl⟩
  clear US
  go_wp2_with fail
  refine Calls.mono (HS.out _ (Below.refl _ _)) ?_
  rintro e w2 ⟨rfl, hb2⟩
  obtain ⟨x2, f2, l2⟩ := KC.out _ hb2
  clear cu HS
  go_wp2_with fail
  refine Calls.mono (FN.out _ hb2) ?_
  rintro e w4 ⟨rfl, hb4⟩
  have B4 : Below _ _ w4.drew := (chain hb2 hb4).drew
  obtain ⟨c4, f4, l4⟩ := KC.out _ B4
  have C4 : Hid _ := CC.out _ B4
  have c4a := cell_alloc (o := .cells #[.slice (some ⟨b1, o1, none⟩) k c, .slice (some ⟨b1, o2, none⟩) n2 c2] 83) c4
  clear FN KC CC x2 f2 l2 hb2 hb4 B4
  go_wp2_with fail
  refine wp_region_noPanic ?_
  refine wp_region_held_drew (S := fun _ => True) (by kernel_rfl) (trivial) (fun hHeld => ?_)
  obtain ⟨D, hD⟩ : ∃ D, w4.drew = D := ⟨_, rfl⟩
  rw [hD] at c4 f4 l4 c4a C4 ⊢
  clear hD
  refine wpAnyH_take (i := 0) (oi := opba0) (v := ?_) rfl (by kernel_rfl) (by kernel_rfl) (by kernel_rfl) (fun _ _ _ h => h) (Or.inl ⟨by rfl, ?_⟩) (by assumption) ?_
  rotate_left
  · intro w' hSw
    clear hSw
    unfold opba0
    first
    | (go_simp; done)
    | (go_simp; with_reducible rfl)
  simp only [opba0, Act.put, List.setIfInBounds_toArray, List.set_cons_zero, List.set_cons_succ]
  refine wpAnyH_take (i := 1) (oi := opba1) (v := ?_) rfl (by kernel_rfl) (by kernel_rfl) (by kernel_rfl) (fun _ _ _ h => h) (Or.inl ⟨by rfl, ?_⟩) (by assumption) ?_
  rotate_left
  · intro w' hSw
    clear hSw
    unfold opba1
    first
    | (go_simp; done)
    | (go_simp; with_reducible rfl)
  simp only [opba1, Act.put, List.setIfInBounds_toArray, List.set_cons_zero, List.set_cons_succ]
  refine wpAnyH_take (i := 2) (oi := opba2) (v := ?_) rfl (by kernel_rfl) (by kernel_rfl) (by kernel_rfl) (fun _ _ _ h => h) (Or.inl ⟨by rfl, ?_⟩) (by assumption) ?_
  rotate_left
  · intro w' hSw
    clear hSw
    unfold opba2
    first
    | (go_simp; done)
    | (go_simp; with_reducible rfl)
  simp only [opba2, Act.put, List.setIfInBounds_toArray, List.set_cons_zero, List.set_cons_succ]
  refine wpAnyH_take (i := 3) (oi := opba3) (v := ?_) rfl (by kernel_rfl) (by kernel_rfl) (by kernel_rfl) (fun _ _ _ h => h) (Or.inl ⟨by rfl, ?_⟩) (by assumption) ?_
  rotate_left
  · intro w' hSw
    clear hSw
    unfold opba3
    first
    | (go_simp; done)
    | (go_simp; with_reducible rfl)
  simp only [opba3, Act.put, List.setIfInBounds_toArray, List.set_cons_zero, List.set_cons_succ]
  refine wpAnyH_take (i := 4) (oi := opba4) (v := ?_) rfl (by kernel_rfl) (by kernel_rfl) (by kernel_rfl) (fun _ _ _ h => h) (Or.inl ⟨by rfl, ?_⟩) (by assumption) ?_
  rotate_left
  · intro w' hSw
    clear hSw
    unfold opba4
    first
    | (go_simp; done)
    | (go_simp; with_reducible rfl)
  simp only [opba4, Act.put, List.setIfInBounds_toArray, List.set_cons_zero, List.set_cons_succ]
  refine wpAnyH_take (i := 5) (oi := opba5) (v := ?_) rfl (by kernel_rfl) (by kernel_rfl) (by kernel_rfl) (fun _ _ _ h => h) (Or.inl ⟨by rfl, ?_⟩) (by assumption) ?_
  rotate_left
  · intro w' hSw
    clear hSw
    unfold opba5
    first
    | (go_simp; done)
    | (go_simp; with_reducible rfl)
  simp only [opba5, Act.put, List.setIfInBounds_toArray, List.set_cons_zero, List.set_cons_succ]
  refine wpAnyH_take (i := 7) (oi := opba7) (v := ?_) rfl (by kernel_rfl) (by kernel_rfl) (by kernel_rfl) (fun _ _ _ h => h) (Or.inl ⟨by rfl, ?_⟩) (by assumption) ?_
  rotate_left
  · intro w' hSw
    clear hSw
    unfold opba7
    first
    | (go_simp; done)
    | (go_simp; with_reducible rfl)
  simp only [opba7, Act.put, List.setIfInBounds_toArray, List.set_cons_zero, List.set_cons_succ]
  refine wpAnyH_take (i := 9) (oi := opba9) (v := ?_) rfl (by kernel_rfl) (by kernel_rfl) (by kernel_rfl) (fun _ _ _ h => h) (Or.inl ⟨by rfl, ?_⟩) (by assumption) ?_
  rotate_left
  · intro w' hSw
    clear hSw
    unfold opba9
    first
    | (go_simp; done)
    | (go_simp; with_reducible rfl)
  simp only [opba9, Act.put, List.setIfInBounds_toArray, List.set_cons_zero, List.set_cons_succ]
  refine wpAnyH_take (i := 10) (oi := opba10) (v := ?_) rfl (by kernel_rfl) (by kernel_rfl) (by kernel_rfl) (fun _ _ _ h => h) (Or.inl ⟨by rfl, ?_⟩) (by assumption) ?_
  rotate_left
  · intro w' hSw
    clear hSw
    unfold opba10
    first
    | (go_simp; done)
    | (go_simp; with_reducible rfl)
  simp only [opba10, Act.put, List.setIfInBounds_toArray, List.set_cons_zero, List.set_cons_succ]
  refine wpAnyH_take (i := 11) (oi := opba11) (v := ?_) rfl (by kernel_rfl) (by kernel_rfl) (by kernel_rfl) (fun _ _ _ h => h) (Or.inl ⟨by rfl, ?_⟩) (by assumption) ?_
  rotate_left
  · intro w' hSw
    clear hSw
    unfold opba11
    first
    | (go_simp; done)
    | (go_simp; with_reducible rfl)
  simp only [opba11, Act.put, List.setIfInBounds_toArray, List.set_cons_zero, List.set_cons_succ]
  refine wpAnyH_take (i := 12) (oi := opba12) (v := ?_) rfl (by kernel_rfl) (by kernel_rfl) (by kernel_rfl) (fun _ _ _ h => h) (Or.inl ⟨by rfl, ?_⟩) (by assumption) ?_
  rotate_left
  · intro w' hSw
    clear hSw
    unfold opba12
    first
    | (go_simp; done)
    | (go_simp; with_reducible rfl)
  simp only [opba12, Act.put, List.setIfInBounds_toArray, List.set_cons_zero, List.set_cons_succ]
  refine wpAnyH_take (i := 14) (oi := opba14) (v := ?_) rfl (by kernel_rfl) (by kernel_rfl) (by kernel_rfl) (fun _ _ _ h => h) (Or.inl ⟨by rfl, ?_⟩) (by assumption) ?_
  rotate_left
  · intro w' hSw
    clear hSw
    unfold opba14
    first
    | (go_simp; done)
    | (go_simp; with_reducible rfl)
  simp only [opba14, Act.put, List.setIfInBounds_toArray, List.set_cons_zero, List.set_cons_succ]
  refine wpAnyH_take (i := 15) (oi := opba15) (v := ?_) rfl (by kernel_rfl) (by kernel_rfl) (by kernel_rfl) (fun _ _ _ h => h) (Or.inl ⟨by rfl, ?_⟩) (by assumption) ?_
  rotate_left
  · intro w' hSw
    clear hSw
    unfold opba15
    first
    | (go_simp; done)
    | (go_simp; with_reducible rfl)
  simp only [opba15, Act.put, List.setIfInBounds_toArray, List.set_cons_zero, List.set_cons_succ]
  refine wpAnyH_take (i := 19) (oi := opba19) (v := ?_) rfl (by kernel_rfl) (by kernel_rfl) (by kernel_rfl) (fun _ _ _ h => h) (Or.inl ⟨by rfl, ?_⟩) (by assumption) ?_
  rotate_left
  · intro w' hSw
    clear hSw
    unfold opba19
    first
    | (go_simp; done)
    | (go_simp; with_reducible rfl)
  simp only [opba19, Act.put, List.setIfInBounds_toArray, List.set_cons_zero, List.set_cons_succ]
  refine wpAnyH_ready (rs := [6, 13]) (by kernel_rfl) (by simp) ?_
  refine AllReadyH.cons (o := opba6) rfl (fun KK hKK => ?_) (AllReadyH.cons (o := opba13) rfl (fun KK hKK => ?_) AllReadyH.nil)
  · unfold opba6
    go_simp
    refine hKK.out _ _ trivial (fun _ => ?_)
    clear hKK KK
    try simp only [opba6, Act.put, List.setIfInBounds_toArray, List.set_cons_zero, List.set_cons_succ]
    refine wpAnyH_take (i := 8) (oi := opba8) (v := ?_) rfl (by kernel_rfl) (by kernel_rfl) (by kernel_rfl) (fun _ _ _ h => h) (Or.inl ⟨by rfl, ?_⟩) (by assumption) ?_
    rotate_left
    · intro w' hSw
      clear hSw
      unfold opba8
      first
      | (go_simp; done)
      | (go_simp; with_reducible rfl)
    simp only [opba8, Act.put, List.setIfInBounds_toArray, List.set_cons_zero, List.set_cons_succ]
    refine wpAnyH_ready (rs := [13]) (by kernel_rfl) (by simp) ?_
    refine AllReadyH.cons (o := opba13) rfl (fun KK hKK => ?_) AllReadyH.nil
    unfold opba13
    go_simp
    refine hKK.out _ _ trivial (fun _ => ?_)
    clear hKK KK
    try simp only [opba13, Act.put, List.setIfInBounds_toArray, List.set_cons_zero, List.set_cons_succ]
    refine wpAnyH_take (i := 16) (oi := opba16) (v := ?_) rfl (by kernel_rfl) (by kernel_rfl) (by kernel_rfl) (fun _ _ _ h => h) (Or.inl ⟨by rfl, ?_⟩) (by assumption) ?_
    rotate_left
    · intro w' hSw
      clear hSw
      unfold opba16
      first
      | (go_simp; done)
      | (go_simp; with_reducible rfl)
    simp only [opba16, Act.put, List.setIfInBounds_toArray, List.set_cons_zero, List.set_cons_succ]
    refine wpAnyH_ready (rs := [17]) (by kernel_rfl) (by simp) ?_
    refine AllReadyH.cons (o := opba17) rfl (fun KK hKK => ?_) AllReadyH.nil
    unfold opba17
    go_simp
    refine hKK.out _ _ trivial (fun _ => ?_)
    clear hKK KK
    try simp only [opba17, Act.put, List.setIfInBounds_toArray, List.set_cons_zero, List.set_cons_succ]
    refine wpAnyH_ready (rs := [18]) (by kernel_rfl) (by simp) ?_
    refine AllReadyH.cons (o := opba18) rfl (fun KK hKK => ?_) AllReadyH.nil
    unfold opba18
    go_simp
    refine Calls.mono C4.out ?_
    rintro e w5 ⟨a', n', c', rfl, ⟨c5, f5⟩, FF⟩
    refine hKK.out _ _ trivial (fun _ => ?_)
    clear hKK KK
    try simp only [opba18, Act.put, List.setIfInBounds_toArray, List.set_cons_zero, List.set_cons_succ]
    refine wpAnyH_take (i := 20) (oi := opba20) (v := ?_) rfl (by kernel_rfl) (by kernel_rfl) (by kernel_rfl) (fun _ _ _ h => h) (Or.inl ⟨by rfl, ?_⟩) (by assumption) ?_
    rotate_left
    · intro w' hSw
      clear hSw
      unfold opba20
      first
      | (go_simp; done)
      | (go_simp; with_reducible rfl)
    simp only [opba20, Act.put, List.setIfInBounds_toArray, List.set_cons_zero, List.set_cons_succ]
    refine wpAnyH_ready (rs := [21]) (by kernel_rfl) (by simp) ?_
    refine AllReadyH.cons (o := opba21) rfl (fun KK hKK => ?_) AllReadyH.nil
    unfold opba21
    go_simp
    refine hKK.out _ _ trivial (fun _ => ?_)
    clear hKK KK
    refine wpAnyH_done (by kernel_rfl) ?_ _
    refine NoPanic.normal ?_
    go_wp2
    go_ret
    exact ⟨rfl, FF.out⟩
  · unfold opba13
    go_simp
    refine hKK.out _ _ trivial (fun _ => ?_)
    clear hKK KK
    try simp only [opba13, Act.put, List.setIfInBounds_toArray, List.set_cons_zero, List.set_cons_succ]
    refine wpAnyH_take (i := 16) (oi := opba16) (v := ?_) rfl (by kernel_rfl) (by kernel_rfl) (by kernel_rfl) (fun _ _ _ h => h) (Or.inl ⟨by rfl, ?_⟩) (by assumption) ?_
    rotate_left
    · intro w' hSw
      clear hSw
      unfold opba16
      first
      | (go_simp; done)
      | (go_simp; with_reducible rfl)
    simp only [opba16, Act.put, List.setIfInBounds_toArray, List.set_cons_zero, List.set_cons_succ]
    refine wpAnyH_ready (rs := [6]) (by kernel_rfl) (by simp) ?_
    refine AllReadyH.cons (o := opba6) rfl (fun KK hKK => ?_) AllReadyH.nil
    unfold opba6
    go_simp
    refine hKK.out _ _ trivial (fun _ => ?_)
    clear hKK KK
    try simp only [opba6, Act.put, List.setIfInBounds_toArray, List.set_cons_zero, List.set_cons_succ]
    refine wpAnyH_take (i := 8) (oi := opba8) (v := ?_) rfl (by kernel_rfl) (by kernel_rfl) (by kernel_rfl) (fun _ _ _ h => h) (Or.inl ⟨by rfl, ?_⟩) (by assumption) ?_
    rotate_left
    · intro w' hSw
      clear hSw
      unfold opba8
      first
      | (go_simp; done)
      | (go_simp; with_reducible rfl)
    simp only [opba8, Act.put, List.setIfInBounds_toArray, List.set_cons_zero, List.set_cons_succ]
    refine wpAnyH_ready (rs := [17]) (by kernel_rfl) (by simp) ?_
    refine AllReadyH.cons (o := opba17) rfl (fun KK hKK => ?_) AllReadyH.nil
    unfold opba17
    go_simp
    refine hKK.out _ _ trivial (fun _ => ?_)
    clear hKK KK
    try simp only [opba17, Act.put, List.setIfInBounds_toArray, List.set_cons_zero, List.set_cons_succ]
    refine wpAnyH_ready (rs := [18]) (by kernel_rfl) (by simp) ?_
    refine AllReadyH.cons (o := opba18) rfl (fun KK hKK => ?_) AllReadyH.nil
    unfold opba18
    go_simp
    refine Calls.mono C4.out ?_
    rintro e w5 ⟨a', n', c', rfl, ⟨c5, f5⟩, FF⟩
    refine hKK.out _ _ trivial (fun _ => ?_)
    clear hKK KK
    try simp only [opba18, Act.put, List.setIfInBounds_toArray, List.set_cons_zero, List.set_cons_succ]
    refine wpAnyH_take (i := 20) (oi := opba20) (v := ?_) rfl (by kernel_rfl) (by kernel_rfl) (by kernel_rfl) (fun _ _ _ h => h) (Or.inl ⟨by rfl, ?_⟩) (by assumption) ?_
    rotate_left
    · intro w' hSw
      clear hSw
      unfold opba20
      first
      | (go_simp; done)
      | (go_simp; with_reducible rfl)
    simp only [opba20, Act.put, List.setIfInBounds_toArray, List.set_cons_zero, List.set_cons_succ]
    refine wpAnyH_ready (rs := [21]) (by kernel_rfl) (by simp) ?_
    refine AllReadyH.cons (o := opba21) rfl (fun KK hKK => ?_) AllReadyH.nil
    unfold opba21
    go_simp
    refine hKK.out _ _ trivial (fun _ => ?_)
    clear hKK KK
    refine wpAnyH_done (by kernel_rfl) ?_ _
    refine NoPanic.normal ?_
    go_wp2
    go_ret
    exact ⟨rfl, FF.out⟩
end Go.Proofs.YtjpaodepnacimaaGreatDoor
