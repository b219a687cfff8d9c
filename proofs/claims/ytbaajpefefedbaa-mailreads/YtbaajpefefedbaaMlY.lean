/- The document's Decode: replies; all kinds. -/
import Derived.Test.YtbaajpefefedbaaMlX
namespace Go.Proofs.Ytbaajpefefedbaa
open Go.RowKit Go.Proofs.Fd Go.Proofs.Ml
set_option maxRecDepth 20000

def opz0 : Oper := { dst := some 96, op := Go.Op.fieldAddr 25 (Go.Operand.tmp 4) 5, type := 0, pos := "ref.go:150", after := #[], guard := none }
def opz1 : Oper := { dst := some 97, op := Go.Op.load 22 (Go.Operand.tmp 96), type := 22, pos := "ref.go:150", after := #[{ on := 0, ground := Go.Ground.data }], guard := none }
def opz2 : Oper := { dst := some 98, op := Go.Op.move (Go.Operand.tmp 5), type := 9, pos := "ref.go:150", after := #[], guard := none }
def opz3 : Oper := { dst := some 99, op := Go.Op.slice 9 (Go.Operand.tmp 98) none (some (Go.Operand.const (Go.Value.int Go.IntKind.i64 16))) none, type := 9, pos := "ref.go:150", after := #[{ on := 2, ground := Go.Ground.data }], guard := none }
def opz4 : Oper := { dst := some 100, op := Go.Op.call { callee := Go.Callee.value (Go.Operand.func 35), args := #[Go.Operand.tmp 99], argTypes := #[9] }, type := 9, pos := "ref.go:150", after := #[{ on := 3, ground := Go.Ground.data }], guard := none }
def opz5 : Oper := { dst := some 101, op := Go.Op.move (Go.Operand.tmp 5), type := 9, pos := "ref.go:150", after := #[], guard := none }
def opz6 : Oper := { dst := some 102, op := Go.Op.move (Go.Operand.tmp 6), type := 3, pos := "ref.go:150", after := #[], guard := none }
def opz7 : Oper := { dst := some 103, op := Go.Op.binOp Go.BinOp.add 3 (Go.Operand.const (Go.Value.int Go.IntKind.i64 17)) (Go.Operand.tmp 102) 3, type := 3, pos := "ref.go:150", after := #[{ on := 6, ground := Go.Ground.data }], guard := none }
def opz8 : Oper := { dst := some 104, op := Go.Op.slice 9 (Go.Operand.tmp 101) (some (Go.Operand.const (Go.Value.int Go.IntKind.i64 17))) (some (Go.Operand.tmp 103)) none, type := 9, pos := "ref.go:150", after := #[{ on := 5, ground := Go.Ground.data }, { on := 7, ground := Go.Ground.data }], guard := none }
def opz9 : Oper := { dst := some 105, op := Go.Op.build 52 #[(0, Go.Operand.tmp 100), (1, Go.Operand.tmp 104)], type := 52, pos := "ref.go:150", after := #[{ on := 4, ground := Go.Ground.data }, { on := 8, ground := Go.Ground.data }], guard := none }
def opz10 : Oper := { dst := some 106, op := Go.Op.buildSlice 22 1 #[(0, Go.Operand.tmp 105)], type := 22, pos := "ref.go:150", after := #[{ on := 9, ground := Go.Ground.data }], guard := none }
def opz11 : Oper := { dst := some 107, op := Go.Op.call { callee := Go.Callee.builtin Go.Builtin.append, args := #[Go.Operand.tmp 97, Go.Operand.tmp 106], argTypes := #[22, 22] }, type := 22, pos := "ref.go:150", after := #[{ on := 1, ground := Go.Ground.data }, { on := 10, ground := Go.Ground.data }, { on := 4, ground := Go.Ground.chain }], guard := none }
def opz12 : Oper := { dst := some 108, op := Go.Op.fieldAddr 25 (Go.Operand.tmp 4) 5, type := 0, pos := "ref.go:150", after := #[{ on := 0, ground := Go.Ground.phase }, { on := 1, ground := Go.Ground.phase }, { on := 2, ground := Go.Ground.phase }, { on := 3, ground := Go.Ground.phase }, { on := 4, ground := Go.Ground.phase }, { on := 5, ground := Go.Ground.phase }, { on := 6, ground := Go.Ground.phase }, { on := 7, ground := Go.Ground.phase }, { on := 8, ground := Go.Ground.phase }, { on := 9, ground := Go.Ground.phase }, { on := 10, ground := Go.Ground.phase }, { on := 11, ground := Go.Ground.phase }], guard := none }
def opz13 : Oper := { dst := none, op := Go.Op.store 22 (Go.Operand.tmp 108) (Go.Operand.tmp 107), type := 0, pos := "ref.go:150", after := #[{ on := 12, ground := Go.Ground.data }, { on := 11, ground := Go.Ground.data }, { on := 11, ground := Go.Ground.chain }, { on := 0, ground := Go.Ground.phase }, { on := 1, ground := Go.Ground.phase }, { on := 2, ground := Go.Ground.phase }, { on := 3, ground := Go.Ground.phase }, { on := 4, ground := Go.Ground.phase }, { on := 5, ground := Go.Ground.phase }, { on := 6, ground := Go.Ground.phase }, { on := 7, ground := Go.Ground.phase }, { on := 8, ground := Go.Ground.phase }, { on := 9, ground := Go.Ground.phase }, { on := 10, ground := Go.Ground.phase }, { on := 11, ground := Go.Ground.phase }], guard := none }
set_option maxHeartbeats 8000000 in
theorem rdecode_3 (s : ByteArray) (hs : s.size = 962) (h1 : bn (by' s) 0 = 3) (w : World) :
    Calls Try.prog 18 #[.string s] w fun e w' => ∃ v, e = .returned (.tuple #[v, .int .i64 (deR (by' s))]) ∧ MlV w' v (dmR (by' s)) ∧ Below w.heap.size w w' := by
  have z1 : (s.toList == []) = false := by rw [size_toList, decide_eq_false (by omega)]
  have DR : Hid (decR (by' s) = (okB (rdR (by' s)) && decide (txt (rdR (by' s)) = by' s))) := decR_of (by
    unfold fitM
    rw [h1, by_len, hs, decide_eq_false (fun z => by have := by_len s; rw [z, hs] at this; cases this)]
    rfl)
  have g0 : 0 < s.size := by omega
  have g1 : 1 < s.size := by omega
  have g2 : 2 < s.size := by omega
  have g3 : 3 < s.size := by omega
  have g4 : 4 < s.size := by omega
  have g5 : 5 < s.size := by omega
  have b0 : (s[0].toNat : Int) = 3 := by rw [get_bn s 0 g0, h1]; rfl
  have b1 := get_bn s 1 g1
  have t1 : bn (by' s) 1 < 256 := ((by' s).getD 1 0).toNat_lt
  have b2 := get_bn s 2 g2
  have t2 : bn (by' s) 2 < 256 := ((by' s).getD 2 0).toNat_lt
  have b3 := get_bn s 3 g3
  have t3 : bn (by' s) 3 < 256 := ((by' s).getD 3 0).toNat_lt
  have b4 := get_bn s 4 g4
  have t4 : bn (by' s) 4 < 256 := ((by' s).getD 4 0).toNat_lt
  have b5 := get_bn s 5 g5
  have t5 : bn (by' s) 5 < 256 := ((by' s).getD 5 0).toNat_lt
  obtain ⟨Q, hQ⟩ : ∃ Q : Int, (rSeq (by' s) : Int) = Q := ⟨_, rfl⟩
  obtain ⟨u, hu⟩ : ∃ u : Int, (bn (by' s) 1 : Int) = u := ⟨_, rfl⟩
  obtain ⟨x2, hx2⟩ : ∃ x : Int, (s[2].toNat : Int) = x := ⟨_, rfl⟩
  obtain ⟨x3, hx3⟩ : ∃ x : Int, (s[3].toNat : Int) = x := ⟨_, rfl⟩
  obtain ⟨x4, hx4⟩ : ∃ x : Int, (s[4].toNat : Int) = x := ⟨_, rfl⟩
  obtain ⟨x5, hx5⟩ : ∃ x : Int, (s[5].toNat : Int) = x := ⟨_, rfl⟩
  rw [hu] at b1
  have r2 : 0 ≤ x2 ∧ x2 < 256 := by rw [← hx2, b2]; omega
  have r3 : 0 ≤ x3 ∧ x3 < 256 := by rw [← hx3, b3]; omega
  have r4 : 0 ≤ x4 ∧ x4 < 256 := by rw [← hx4, b4]; omega
  have r5 : 0 ≤ x5 ∧ x5 < 256 := by rw [← hx5, b5]; omega
  have hQ2 : x2 * 16777216 + x3 * 65536 + x4 * 256 + x5 = Q := by rw [← hQ, ← hx2, ← hx3, ← hx4, ← hx5, b2, b3, b4, b5]; unfold rSeq; omega
  have r1 : 0 ≤ u ∧ u < 256 := by rw [← hu]; omega
  obtain ⟨y1, hy1⟩ : ∃ y : Int, x2 * 16777216 + x3 * 65536 = y := ⟨_, rfl⟩
  obtain ⟨y2, hy2⟩ : ∃ y : Int, y1 + x4 * 256 = y := ⟨_, rfl⟩
  have m2 : IntKind.i64.wrap (x2 * 16777216) = x2 * 16777216 := by rw [IntKind.wrap_i64]; omega
  have m3 : IntKind.i64.wrap (x3 * 65536) = x3 * 65536 := by rw [IntKind.wrap_i64]; omega
  have m4 : IntKind.i64.wrap (x4 * 256) = x4 * 256 := by rw [IntKind.wrap_i64]; omega
  have n1' : IntKind.i64.wrap (x2 * 16777216 + x3 * 65536) = y1 := by rw [IntKind.wrap_i64]; omega
  have n2' : IntKind.i64.wrap (y1 + x4 * 256) = y2 := by rw [IntKind.wrap_i64]; omega
  have n3' : IntKind.i64.wrap (y2 + x5) = Q := by rw [IntKind.wrap_i64]; omega
  have v2 : IntKind.i64.wrap x2 = x2 := by rw [IntKind.wrap_i64]; omega
  have v3 : IntKind.i64.wrap x3 = x3 := by rw [IntKind.wrap_i64]; omega
  have v4 : IntKind.i64.wrap x4 = x4 := by rw [IntKind.wrap_i64]; omega
  have v5 : IntKind.i64.wrap x5 = x5 := by rw [IntKind.wrap_i64]; omega
  have v1 : wrap64 u = u := by unfold wrap64; omega
  obtain ⟨S, hS⟩ : ∃ S, s.extract 6 962 = S := ⟨_, rfl⟩
  have SS : S.size = 956 := by rw [← hS, ext_size _ _ _ (by omega) (by omega)]
  have SB : by' S = (by' s).drop 6 := by rw [← hS, ext_tail _ _ _ (by omega), by_mk]
  have HM : Hid (rdR (by' s) = ⟨3, u, Q, ⟨#[]⟩, ⟨#[]⟩, rSlots 4 (by' S), []⟩) := by
    show _ = _
    unfold rdR
    rw [rdW_3 _ h1, hu, hQ, ← SB]; rfl
  clear SB hQ hu h1 b2 b3 b4 b5 t1 t2 t3 t4 t5 r2 r3 r4 r5 r1 hQ2 hy1 hy2
  go_enter Try.func18, Try.ntmps18
  go_wp2_with fail
  refine Calls.mono (rlong_any 3 _) ?_
  rintro e w1 ⟨rfl, hw1⟩
  have hw2 := hw1.symm
  subst hw2
  clear hw1
  rw [show ((long 3 : Nat) : Int) = 962 from rfl]
  go_wp2_with fail
  obtain ⟨X, hX⟩ : ∃ X, (w.alloc (.cells #[.int .i64 0, .int .i64 0, .int .i64 0, .string ⟨#[]⟩, .string ⟨#[]⟩, .slice none 0 0, .slice none 0 0] 25)).alloc (.cells #[.int .i64 3, .int .i64 u, .int .i64 0, .string ⟨#[]⟩, .string ⟨#[]⟩, .slice none 0 0, .slice none 0 0] 25) = X := ⟨_, rfl⟩
  rw [hX]
  have F0 : Hid (Below w.heap.size w X ∧ Box2 X w.heap.size 3 u 0 ⟨#[]⟩ ⟨#[]⟩ none 0 0 none 0 0) := by
    rw [← hX]
    exact ⟨((Below.refl _ w).alloc (Nat.le_refl _) _).alloc (by simp) _, box2_new _ _ _ _⟩
  clear hX
  obtain ⟨⟨f, p0, p1, p2, p3, p4, p5, p6⟩, f', q0, q1, q2, q3, q4, q5, q6⟩ := F0.out.2
  have n1 : ¬ w.heap.size + 1 = w.heap.size := by omega
  have n2 : ¬ w.heap.size = w.heap.size + 1 := by omega
  refine wp_region_noPanic ?_
  refine wp_region_held_drew (S := fun _ => True) (by kernel_rfl) (trivial) (fun hHeld => ?_)
  refine wpAnyH_take (i := 0) (oi := opx0) (v := ?_) rfl (by kernel_rfl) (by kernel_rfl) (by kernel_rfl) (fun _ _ _ h => h) (Or.inl ⟨by rfl, ?_⟩) (by assumption) ?_
  rotate_left
  · intro w' hSw
    clear hSw
    unfold opx0
    first
    | (go_simp; done)
    | (go_simp; with_reducible rfl)
  simp only [opx0, Act.put, List.setIfInBounds_toArray, List.set_cons_zero, List.set_cons_succ]
  refine wpAnyH_take (i := 1) (oi := opx1) (v := ?_) rfl (by kernel_rfl) (by kernel_rfl) (by kernel_rfl) (fun _ _ _ h => h) (Or.inl ⟨by rfl, ?_⟩) (by assumption) ?_
  rotate_left
  · intro w' hSw
    clear hSw
    unfold opx1
    first
    | (go_simp; done)
    | (go_simp; with_reducible rfl)
  simp only [opx1, Act.put, List.setIfInBounds_toArray, List.set_cons_zero, List.set_cons_succ]
  refine wpAnyH_take (i := 2) (oi := opx2) (v := ?_) rfl (by kernel_rfl) (by kernel_rfl) (by kernel_rfl) (fun _ _ _ h => h) (Or.inl ⟨by rfl, ?_⟩) (by assumption) ?_
  rotate_left
  · intro w' hSw
    clear hSw
    unfold opx2
    first
    | (go_simp; done)
    | (go_simp; with_reducible rfl)
  simp only [opx2, Act.put, List.setIfInBounds_toArray, List.set_cons_zero, List.set_cons_succ]
  refine wpAnyH_take (i := 3) (oi := opx3) (v := ?_) rfl (by kernel_rfl) (by kernel_rfl) (by kernel_rfl) (fun _ _ _ h => h) (Or.inl ⟨by rfl, ?_⟩) (by assumption) ?_
  rotate_left
  · intro w' hSw
    clear hSw
    unfold opx3
    first
    | (go_simp; done)
    | (go_simp; with_reducible rfl)
  simp only [opx3, Act.put, List.setIfInBounds_toArray, List.set_cons_zero, List.set_cons_succ]
  refine wpAnyH_take (i := 4) (oi := opx4) (v := ?_) rfl (by kernel_rfl) (by kernel_rfl) (by kernel_rfl) (fun _ _ _ h => h) (Or.inl ⟨by rfl, ?_⟩) (by assumption) ?_
  rotate_left
  · intro w' hSw
    clear hSw
    unfold opx4
    first
    | (go_simp; done)
    | (go_simp; with_reducible rfl)
  simp only [opx4, Act.put, List.setIfInBounds_toArray, List.set_cons_zero, List.set_cons_succ]
  refine wpAnyH_take (i := 5) (oi := opx5) (v := ?_) rfl (by kernel_rfl) (by kernel_rfl) (by kernel_rfl) (fun _ _ _ h => h) (Or.inl ⟨by rfl, ?_⟩) (by assumption) ?_
  rotate_left
  · intro w' hSw
    clear hSw
    unfold opx5
    first
    | (go_simp; done)
    | (go_simp; with_reducible rfl)
  simp only [opx5, Act.put, List.setIfInBounds_toArray, List.set_cons_zero, List.set_cons_succ]
  refine wpAnyH_take (i := 6) (oi := opx6) (v := ?_) rfl (by kernel_rfl) (by kernel_rfl) (by kernel_rfl) (fun _ _ _ h => h) (Or.inl ⟨by rfl, ?_⟩) (by assumption) ?_
  rotate_left
  · intro w' hSw
    clear hSw
    unfold opx6
    first
    | (go_simp; done)
    | (go_simp; with_reducible rfl)
  simp only [opx6, Act.put, List.setIfInBounds_toArray, List.set_cons_zero, List.set_cons_succ]
  refine wpAnyH_take (i := 7) (oi := opx7) (v := ?_) rfl (by kernel_rfl) (by kernel_rfl) (by kernel_rfl) (fun _ _ _ h => h) (Or.inl ⟨by rfl, ?_⟩) (by assumption) ?_
  rotate_left
  · intro w' hSw
    clear hSw
    unfold opx7
    first
    | (go_simp; done)
    | (go_simp; with_reducible rfl)
  simp only [opx7, Act.put, List.setIfInBounds_toArray, List.set_cons_zero, List.set_cons_succ]
  refine wpAnyH_take (i := 8) (oi := opx8) (v := ?_) rfl (by kernel_rfl) (by kernel_rfl) (by kernel_rfl) (fun _ _ _ h => h) (Or.inl ⟨by rfl, ?_⟩) (by assumption) ?_
  rotate_left
  · intro w' hSw
    clear hSw
    unfold opx8
    first
    | (go_simp; done)
    | (go_simp; with_reducible rfl)
  simp only [opx8, Act.put, List.setIfInBounds_toArray, List.set_cons_zero, List.set_cons_succ]
  refine wpAnyH_take (i := 9) (oi := opx9) (v := ?_) rfl (by kernel_rfl) (by kernel_rfl) (by kernel_rfl) (fun _ _ _ h => h) (Or.inl ⟨by rfl, ?_⟩) (by assumption) ?_
  rotate_left
  · intro w' hSw
    clear hSw
    unfold opx9
    first
    | (go_simp; done)
    | (go_simp; with_reducible rfl)
  simp only [opx9, Act.put, List.setIfInBounds_toArray, List.set_cons_zero, List.set_cons_succ]
  refine wpAnyH_take (i := 10) (oi := opx10) (v := ?_) rfl (by kernel_rfl) (by kernel_rfl) (by kernel_rfl) (fun _ _ _ h => h) (Or.inl ⟨by rfl, ?_⟩) (by assumption) ?_
  rotate_left
  · intro w' hSw
    clear hSw
    unfold opx10
    first
    | (go_simp; done)
    | (go_simp; with_reducible rfl)
  simp only [opx10, Act.put, List.setIfInBounds_toArray, List.set_cons_zero, List.set_cons_succ]
  refine wpAnyH_take (i := 11) (oi := opx11) (v := ?_) rfl (by kernel_rfl) (by kernel_rfl) (by kernel_rfl) (fun _ _ _ h => h) (Or.inl ⟨by rfl, ?_⟩) (by assumption) ?_
  rotate_left
  · intro w' hSw
    clear hSw
    unfold opx11
    first
    | (go_simp; done)
    | (go_simp; with_reducible rfl)
  simp only [opx11, Act.put, List.setIfInBounds_toArray, List.set_cons_zero, List.set_cons_succ]
  refine wpAnyH_take (i := 12) (oi := opx12) (v := ?_) rfl (by kernel_rfl) (by kernel_rfl) (by kernel_rfl) (fun _ _ _ h => h) (Or.inl ⟨by rfl, ?_⟩) (by assumption) ?_
  rotate_left
  · intro w' hSw
    clear hSw
    unfold opx12
    first
    | (go_simp; done)
    | (go_simp; with_reducible rfl)
  simp only [opx12, Act.put, List.setIfInBounds_toArray, List.set_cons_zero, List.set_cons_succ]
  refine wpAnyH_take (i := 13) (oi := opx13) (v := ?_) rfl (by kernel_rfl) (by kernel_rfl) (by kernel_rfl) (fun _ _ _ h => h) (Or.inl ⟨by rfl, ?_⟩) (by assumption) ?_
  rotate_left
  · intro w' hSw
    clear hSw
    unfold opx13
    first
    | (go_simp; done)
    | (go_simp; with_reducible rfl)
  simp only [opx13, Act.put, List.setIfInBounds_toArray, List.set_cons_zero, List.set_cons_succ]
  refine wpAnyH_take (i := 14) (oi := opx14) (v := ?_) rfl (by kernel_rfl) (by kernel_rfl) (by kernel_rfl) (fun _ _ _ h => h) (Or.inl ⟨by rfl, ?_⟩) (by assumption) ?_
  rotate_left
  · intro w' hSw
    clear hSw
    unfold opx14
    first
    | (go_simp; done)
    | (go_simp; with_reducible rfl)
  simp only [opx14, Act.put, List.setIfInBounds_toArray, List.set_cons_zero, List.set_cons_succ]
  refine wpAnyH_take (i := 15) (oi := opx15) (v := ?_) rfl (by kernel_rfl) (by kernel_rfl) (by kernel_rfl) (fun _ _ _ h => h) (Or.inl ⟨by rfl, ?_⟩) (by assumption) ?_
  rotate_left
  · intro w' hSw
    clear hSw
    unfold opx15
    first
    | (go_simp; done)
    | (go_simp; with_reducible rfl)
  simp only [opx15, Act.put, List.setIfInBounds_toArray, List.set_cons_zero, List.set_cons_succ]
  refine wpAnyH_take (i := 16) (oi := opx16) (v := ?_) rfl (by kernel_rfl) (by kernel_rfl) (by kernel_rfl) (fun _ _ _ h => h) (Or.inl ⟨by rfl, ?_⟩) (by assumption) ?_
  rotate_left
  · intro w' hSw
    clear hSw
    unfold opx16
    first
    | (go_simp; done)
    | (go_simp; with_reducible rfl)
  simp only [opx16, Act.put, List.setIfInBounds_toArray, List.set_cons_zero, List.set_cons_succ]
  refine wpAnyH_take (i := 17) (oi := opx17) (v := ?_) rfl (by kernel_rfl) (by kernel_rfl) (by kernel_rfl) (fun _ _ _ h => h) (Or.inl ⟨by rfl, ?_⟩) (by assumption) ?_
  rotate_left
  · intro w' hSw
    clear hSw
    unfold opx17
    first
    | (go_simp; done)
    | (go_simp; with_reducible rfl)
  simp only [opx17, Act.put, List.setIfInBounds_toArray, List.set_cons_zero, List.set_cons_succ]
  refine wpAnyH_take (i := 18) (oi := opx18) (v := ?_) rfl (by kernel_rfl) (by kernel_rfl) (by kernel_rfl) (fun _ _ _ h => h) (Or.inl ⟨by rfl, ?_⟩) (by assumption) ?_
  rotate_left
  · intro w' hSw
    clear hSw
    unfold opx18
    first
    | (go_simp; done)
    | (go_simp; with_reducible rfl)
  simp only [opx18, Act.put, List.setIfInBounds_toArray, List.set_cons_zero, List.set_cons_succ]
  refine wpAnyH_ready (rs := [19]) (by kernel_rfl) (by simp) ?_
  refine AllReadyH.cons (o := opx19) rfl (fun KK hKK => ?_) AllReadyH.nil
  unfold opx19
  go_simp
  refine hKK.out _ _ trivial (fun hHeldZ => ?_)
  clear hKK KK
  refine wpAnyH_done (by kernel_rfl) ?_ _
  refine NoPanic.normal ?_
  obtain ⟨Y, hY⟩ : ∃ Y, (X.setCell ⟨w.heap.size + 1, 2, none⟩ (.int .i64 Q)).drew = Y := ⟨_, rfl⟩
  have F1 : Hid (Below w.heap.size w Y ∧ Box2 Y w.heap.size 3 u Q ⟨#[]⟩ ⟨#[]⟩ none 0 0 none 0 0) := by
    rw [← hY]
    exact ⟨(F0.out.1.setCell (p := ⟨w.heap.size + 1, 2, none⟩) (Nat.le_succ _) _).drew, Box2.later (w := X.setCell ⟨w.heap.size + 1, 2, none⟩ (.int .i64 Q)) ⟨F0.out.2.1.other (p := ⟨w.heap.size + 1, 2, none⟩) n1 _, F0.out.2.2.put2 Q⟩ (Below.refl _ _).drew⟩
  clear f p0 p1 p2 p3 p4 p5 p6 f' q0 q1 q2 q3 q4 q5 q6 F0 hHeldZ hHeld
  rw [hY]
  clear hY m2 m3 m4 n1' n2' n3' v2 v3 v4 v5 v1 hx2 hx3 hx4 hx5 b1 b0
  obtain ⟨⟨f, p0, p1, p2, p3, p4, p5, p6⟩, f', q0, q1, q2, q3, q4, q5, q6⟩ := F1.out.2
  go_wp2_with fail
  obtain ⟨SL, hSL⟩ : ∃ l, rSlots 4 (by' S) = l := ⟨_, rfl⟩
  rw [hSL] at HM
  have HI : Hid (SL = rSlots 4 (by' S)) := hSL.symm
  clear hSL
  clear f p0 p1 p2 p3 p4 p5 p6 f' q0 q1 q2 q3 q4 q5 q6
  go_loopw [5] (fun sv wr => sv = .string S ∧ Hid (Below w.heap.size w wr ∧ Box2 wr w.heap.size 3 u Q ⟨#[]⟩ ⟨#[]⟩ none 0 0 none 0 0)) (fun _ _ => 0)
  case atStart => exact ⟨rfl, F1.out⟩
  case round =>
    obtain ⟨rfl, I1⟩ := hrel
    obtain ⟨⟨f, p0, p1, p2, p3, p4, p5, p6⟩, f', q0, q1, q2, q3, q4, q5, q6⟩ := I1.out.2
    go_wp2
    clear f p0 p1 p2 p3 p4 p5 p6 f' q0 q1 q2 q3 q4 q5 q6
    go_loopw [5, 6] (fun sv _ wr => ∃ (f : Nat) (x : ByteArray) (out : List Sl) (a5 : Option Addr) (n5 c5 : Nat), sv = .string x ∧ Hid (f ≤ 4 ∧ x.size = 239 * f ∧ SL = out ++ rSlots f (by' x) ∧ n5 = 4 - f) ∧ Hid (wr.ownsRow (w.heap.size + 2) 52 2 (.slice a5 n5 c5) n5 (slcells out) ∧ Below w.heap.size w wr ∧ Box2 wr w.heap.size 3 u Q ⟨#[]⟩ ⟨#[]⟩ a5 n5 c5 none 0 0)) (fun sv _ _ => match sv with | .string x => x.size | _ => 0)
    case atStart => exact ⟨4, S, [], none, 0, 0, rfl, ⟨Nat.le_refl _, SS, HI.out, rfl⟩, World.ownsRow_nil _ _ _ _, I1.out.1, I1.out.2⟩
    case round =>
      obtain ⟨fu, x, out, a5, n5, c5, rfl, J, I⟩ := hrel
      clear HI SS
      obtain ⟨⟨f, p0, p1, p2, p3, p4, p5, p6⟩, f', q0, q1, q2, q3, q4, q5, q6⟩ := I.out.2.2
      cases fu with
      | zero =>
        obtain rfl := nil_of (show x.size = 0 by have := J.out.2.1; omega)
        obtain ⟨lo, a5', c5', e5, s5, z5, b5⟩ := own_slAt I.out.1
        cases e5
        have E : Hid (SL = out ∧ n5 ≤ 4) := ⟨by rw [J.out.2.2.1]; show out ++ [] = out; simp, by have := J.out.2.2.2; omega⟩
        have I3 : Hid (Below w.heap.size w wr ∧ Box2 wr w.heap.size 3 u Q ⟨#[]⟩ ⟨#[]⟩ a5 n5 c5 none 0 0 ∧ Lists wr a5 n5 c5 none 0 0 SL [] ∧ (∀ x : Addr, a5 = some x → w.heap.size ≠ x.block) ∧ ∀ x : Addr, (none : Option Addr) = some x → w.heap.size ≠ x.block) := by
          refine ⟨I.out.2.1, I.out.2.2, ⟨by rw [E.out.1]; exact s5, StrAt.nil _ _, by rw [E.out.1]; exact lo, rfl, z5, fun _ => ⟨rfl, rfl⟩, by have := E.out.2; omega, by decide⟩, fun x hx => by have := b5 x hx; omega, fun x h => (by cases h)⟩
        clear J I lo s5 z5 b5 f p0 p1 p2 p3 p4 p5 p6 f' q0 q1 q2 q3 q4 q5 q6
        unfold e0
        obtain ⟨⟨f, p0, p1, p2, p3, p4, p5, p6⟩, f', q0, q1, q2, q3, q4, q5, q6⟩ := I3.out.2.1
        go_wp2_with fail
        refine Calls.mono (rcheck_any 3 u Q ⟨#[]⟩ ⟨#[]⟩ a5 n5 c5 none 0 0 SL [] wr I3.out.2.2.1) ?_
        rintro e x1 ⟨rfl, hc1⟩
        have G1 : Hid (Below w.heap.size w x1 ∧ Box2 x1 w.heap.size 3 u Q ⟨#[]⟩ ⟨#[]⟩ a5 n5 c5 none 0 0 ∧ Lists x1 a5 n5 c5 none 0 0 SL []) := ⟨chain I3.out.1 hc1, I3.out.2.1.later hc1, I3.out.2.2.1.later hc1⟩
        clear hc1 f p0 p1 p2 p3 p4 p5 p6 f' q0 q1 q2 q3 q4 q5 q6
        obtain ⟨⟨f, p0, p1, p2, p3, p4, p5, p6⟩, f', q0, q1, q2, q3, q4, q5, q6⟩ := G1.out.2.1
        cases hok : okB ⟨3, u, Q, ⟨#[]⟩, ⟨#[]⟩, SL, []⟩ with
        | false =>
          have ED : Hid (deR (by' s) = 110 ∧ dmR (by' s) = zm) := by
            have e : decR (by' s) = false := by rw [DR.out, HM.out]; show (okB ⟨3, u, Q, ⟨#[]⟩, ⟨#[]⟩, SL, []⟩ && _) = _; rw [hok]; rfl
            unfold deR dmR
            rw [e]; exact ⟨rfl, rfl⟩
          rw [show chkE false = 110 from rfl]
          clear hok
          go_wp2
          refine bodyPost_ret (v := .tuple #[mv 0 0 0 ⟨#[]⟩ ⟨#[]⟩ none 0 0 none 0 0, .int .i64 110]) ?_ rfl ⟨mv 0 0 0 ⟨#[]⟩ ⟨#[]⟩ none 0 0 none 0 0, by rw [ED.out.1], by rw [ED.out.2]; exact MlV.zero _, below_whole G1.out.1 (Nat.le_refl _) _ _ _ _ _ _ _⟩
          exact res_rdecode _ _ w.heap.size _ _ _ _ _ _ _ _ _ _ _ _ (by kernel_rfl) (by kernel_rfl) (zero_store G1.out.2.1.1)
        | true =>
          rw [show chkE true = 0 from rfl]
          obtain ⟨T, hT⟩ : ∃ T, mk (txt ⟨3, u, Q, ⟨#[]⟩, ⟨#[]⟩, SL, []⟩) = T := ⟨_, rfl⟩
          have TX : Hid (Calls Try.prog 28 #[mv 3 u Q ⟨#[]⟩ ⟨#[]⟩ a5 n5 c5 none 0 0] x1 fun e w' => e = .returned (.string T) ∧ Below x1.heap.size x1 w') := by
            rw [← hT]; exact rtext_any 3 u Q ⟨#[]⟩ ⟨#[]⟩ a5 n5 c5 none 0 0 SL [] hok x1 G1.out.2.2
          go_wp2_with fail
          refine Calls.mono TX.out ?_
          rintro e x2 ⟨rfl, hc2⟩
          have G2 : Hid (Below w.heap.size w x2 ∧ Box2 x2 w.heap.size 3 u Q ⟨#[]⟩ ⟨#[]⟩ a5 n5 c5 none 0 0 ∧ Lists x2 a5 n5 c5 none 0 0 SL []) := ⟨chain G1.out.1 hc2, G1.out.2.1.later hc2, G1.out.2.2.later hc2⟩
          clear hc2 TX f p0 p1 p2 p3 p4 p5 p6 f' q0 q1 q2 q3 q4 q5 q6
          obtain ⟨⟨f, p0, p1, p2, p3, p4, p5, p6⟩, f', q0, q1, q2, q3, q4, q5, q6⟩ := G2.out.2.1
          by_cases hq : txt ⟨3, u, Q, ⟨#[]⟩, ⟨#[]⟩, SL, []⟩ = by' s
          · have ED : Hid (deR (by' s) = 0 ∧ dmR (by' s) = ⟨3, u, Q, ⟨#[]⟩, ⟨#[]⟩, SL, []⟩) := by
              have e : decR (by' s) = true := by rw [DR.out, HM.out]; show (okB ⟨3, u, Q, ⟨#[]⟩, ⟨#[]⟩, SL, []⟩ && decide (txt ⟨3, u, Q, ⟨#[]⟩, ⟨#[]⟩, SL, []⟩ = _)) = _; rw [hok, decide_eq_true hq]; rfl
              unfold deR dmR
              rw [e, HM.out]; exact ⟨rfl, rfl⟩
            have hTs : T = s := by rw [← hT, hq]; rfl
            clear hT hq hok
            have YY : (T.toList == s.toList) = true := by rw [hTs]; simp
            clear hTs
            go_wp2
            refine bodyPost_ret (v := .tuple #[mv 3 u Q ⟨#[]⟩ ⟨#[]⟩ a5 n5 c5 none 0 0, .int .i64 0]) ?_ rfl ⟨mv 3 u Q ⟨#[]⟩ ⟨#[]⟩ a5 n5 c5 none 0 0, by rw [ED.out.1], by rw [ED.out.2]; exact ⟨_, _, _, _, _, _, rfl, lists_whole G2.out.2.2 I3.out.2.2.2.1 I3.out.2.2.2.2 _ _ _ _ _ _ _⟩, below_whole G2.out.1 (Nat.le_refl _) _ _ _ _ _ _ _⟩
            exact res_rdecode _ _ w.heap.size _ _ _ _ _ _ _ _ _ _ _ _ (by kernel_rfl) (by kernel_rfl) (G2.out.2.1.1.whole _ _ _ _ _ _ _ _ _ _ _)
          · have ED : Hid (deR (by' s) = 110 ∧ dmR (by' s) = zm) := by
              have e : decR (by' s) = false := by rw [DR.out, HM.out]; show (okB ⟨3, u, Q, ⟨#[]⟩, ⟨#[]⟩, SL, []⟩ && decide (txt ⟨3, u, Q, ⟨#[]⟩, ⟨#[]⟩, SL, []⟩ = _)) = _; rw [hok, decide_eq_false hq]; rfl
              unfold deR dmR
              rw [e]; exact ⟨rfl, rfl⟩
            have NN : (T.toList == s.toList) = false := by
              rw [beq_eq_false_iff_ne, toList_by, toList_by, ← hT, by_mk]; exact hq
            clear hT hq hok
            go_wp2
            refine bodyPost_ret (v := .tuple #[mv 0 0 0 ⟨#[]⟩ ⟨#[]⟩ none 0 0 none 0 0, .int .i64 110]) ?_ rfl ⟨mv 0 0 0 ⟨#[]⟩ ⟨#[]⟩ none 0 0 none 0 0, by rw [ED.out.1], by rw [ED.out.2]; exact MlV.zero _, below_whole G2.out.1 (Nat.le_refl _) _ _ _ _ _ _ _⟩
            exact res_rdecode _ _ w.heap.size _ _ _ _ _ _ _ _ _ _ _ _ (by kernel_rfl) (by kernel_rfl) (zero_store G2.out.2.1.1)
      | succ fu =>
        have hf := J.out.1
        have hx := J.out.2.1
        have z2 : (0 : Int) < (x.size : Int) := by omega
        have z3 : (16 : Int) ≤ (x.size : Int) := by omega
        have z16 : 16 < x.size := by omega
        have z16' : (16 : Int) < (x.size : Int) := by omega
        have z239 : (239 : Int) ≤ (x.size : Int) := by omega
        have b16 := get_bn x 16 z16
        have t16 : bn (by' x) 16 < 256 := ((by' x).getD 16 0).toNat_lt
        obtain ⟨m, hm⟩ : ∃ m : Nat, min (bn (by' x) 16) 222 = m := ⟨_, rfl⟩
        obtain ⟨p, hp⟩ : ∃ p : Int, (x[16].toNat : Int) = p := ⟨_, rfl⟩
        rw [hp] at b16
        have wp : wrap64 p = p := by unfold wrap64; omega
        have wp' : IntKind.i64.wrap p = p := by rw [IntKind.wrap_i64]; omega
        have mn : min p 222 = (m : Int) := by rw [b16]; omega
        obtain ⟨e, he⟩ : ∃ e : Nat, 17 + m = e := ⟨_, rfl⟩
        have we : IntKind.i64.wrap (17 + (m : Int)) = (e : Int) := by rw [IntKind.wrap_i64]; omega
        have we1 : (17 : Int) ≤ (e : Int) := by omega
        have we2 : (e : Int) ≤ (x.size : Int) := by omega
        obtain ⟨y, hy⟩ : ∃ y, x.extract 0 16 = y := ⟨_, rfl⟩
        obtain ⟨tx, htx⟩ : ∃ y, x.extract 17 e = y := ⟨_, rfl⟩
        obtain ⟨r, hr⟩ : ∃ r, x.extract 239 x.size = r := ⟨_, rfl⟩
        have ys : y.size = 16 := by rw [← hy, ext_size _ 0 16 (by omega) (by omega)]
        have yb : by' y = (by' x).take 16 := by rw [← hy, ext_by, List.drop_zero]
        have rb : by' r = (by' x).drop 239 := by rw [← hr, ext_tail _ _ _ (Nat.le_refl _), by_mk]
        have rs : r.size = 239 * fu := by rw [← hr, ext_size _ _ _ (Nat.le_refl _) (by omega)]; omega
        have hrl : r.size < x.size := by omega
        have SH0 := rshown_any y
        obtain ⟨id, hid⟩ : ∃ i, (if idB y = true then y else e0) = i := ⟨_, rfl⟩
        rw [hid] at SH0
        have SH : Hid (∀ w, Calls Try.prog 35 #[.string y] w fun e w' => e = .returned (.string id) ∧ Below w.heap.size w w') := SH0
        have SE : rSlot ((by' x).take 239) = ⟨id, tx⟩ := by
          unfold rSlot
          rw [List.take_take, show min 16 239 = 16 from rfl, ← yb, ← idB_nz ys]
          have e1 : ((by' x).take 239).getD 16 0 = (by' x).getD 16 0 := by rw [List.getD_eq_getElem?_getD, List.getElem?_take_of_lt (by decide), ← List.getD_eq_getElem?_getD]
          rw [e1]
          show Sl.mk (if idB y = true then mk (by' y) else e0) (mk ((((by' x).take 239).drop 17).take (min (bn (by' x) 16) 222))) = _
          rw [hm, mk_by, hid, ← htx, ext_mk, ← he, List.drop_take, List.drop_take, List.take_take, show min m (239 - 17) = m by omega, show 17 + m - 17 = m by omega]
        have J2 : Hid (fu ≤ 4 ∧ r.size = 239 * fu ∧ SL = (out ++ [⟨id, tx⟩]) ++ rSlots fu (by' r) ∧ n5 + 1 = 4 - fu) := by
          obtain ⟨j1, j2, j3, j4⟩ := J.out
          refine ⟨by omega, rs, ?_, by omega⟩
          rw [j3, rb]
          conv => lhs; unfold rSlots
          rw [SE]
          simp
        have n4 : n5 ≤ 1000 := by have := J.out.2.2.2; omega
        have FI : Hid (wr.ownsRow (w.heap.size + 2) 52 2 (.slice a5 n5 c5) n5 (slcells out) ∧ Below w.heap.size w wr ∧ Box2 wr w.heap.size 3 u Q ⟨#[]⟩ ⟨#[]⟩ a5 n5 c5 none 0 0) := I.out
        clear J SE hid SH0 rb rs yb ys hx hf b16 t16 hm I he
        obtain ⟨V, hV⟩ : ∃ V, V = wr := ⟨wr, rfl⟩
        have FV : Hid (V.ownsRow (w.heap.size + 2) 52 2 (.slice a5 n5 c5) n5 (slcells out) ∧ Below w.heap.size w V ∧ MlAt V w.heap.size 0 0 0 ⟨#[]⟩ ⟨#[]⟩ none 0 0 none 0 0 ∧ MlAt V (w.heap.size + 1) 3 u Q ⟨#[]⟩ ⟨#[]⟩ a5 n5 c5 none 0 0) := hV ▸ ⟨FI.out.1, FI.out.2.1, FI.out.2.2.1, FI.out.2.2.2⟩
        have APP : Hid (∀ W, Below V.heap.size V W → ∃ v' w', (Builtin.append_ #[22, 22] 22 #[.slice a5 n5 c5, .slice (some ⟨W.heap.size, 0, none⟩) 1 1]).run Try.prog (W.alloc (.cells #[.string id, .string tx] 52)) = .ok v' w' ∧ ∃ a' c', v' = .slice a' (n5 + 1) c' ∧ Hid (w'.ownsRow (w.heap.size + 2) 52 2 (.slice a' (n5 + 1) c') (n5 + 1) (slcells (out ++ [⟨id, tx⟩])) ∧ Below w.heap.size w w' ∧ MlAt w' w.heap.size 0 0 0 ⟨#[]⟩ ⟨#[]⟩ none 0 0 none 0 0 ∧ MlAt w' (w.heap.size + 1) 3 u Q ⟨#[]⟩ ⟨#[]⟩ a5 n5 c5 none 0 0)) := fun W hW => by
          have hbs : w.heap.size + 2 ≤ W.heap.size := Nat.le_trans FV.out.2.2.2.lt hW.size
          obtain ⟨v', w', h1, h2, h3⟩ := app_slot W 22 (w.heap.size + 2) (.slice a5 n5 c5) n5 out (own_later FV.out.1 hW) id tx n4 hbs
          obtain ⟨-, a', c', rfl, -⟩ := own_slAt h2
          exact ⟨_, w', h1, a', c', rfl, h2, (chain FV.out.2.1 hW).trans (h3.mono (by omega)), (FV.out.2.2.1.later hW).keep h3 (by omega), (FV.out.2.2.2.later hW).keep h3 (by omega)⟩
        rw [← hV]
        rw [← hV] at p0 p1 p2 p3 p4 p5 p6 q0 q1 q2 q3 q4 q5 q6
        clear hV FI
        go_wp2_with fail
        clear f p0 p1 p2 p3 p4 p5 p6 f' q0 q1 q2 q3 q4 q5 q6
        refine (fun (KEY : ∀ (D9 : World) (a9 : Option Addr) (c9 : Nat) (w9 : World), (w9.ownsRow (w.heap.size + 2) 52 2 (.slice a9 (n5 + 1) c9) (n5 + 1) (slcells (out ++ [⟨id, tx⟩])) ∧ Below w.heap.size w w9 ∧ MlAt w9 w.heap.size 0 0 0 ⟨#[]⟩ ⟨#[]⟩ none 0 0 none 0 0 ∧ MlAt w9 (w.heap.size + 1) 3 u Q ⟨#[]⟩ ⟨#[]⟩ a5 n5 c5 none 0 0) → (?KK3 : World → Option Addr → Nat → World → Prop) D9 a9 c9 w9) => ?main3) ?key3
        case main3 =>
          refine wp_region_noPanic ?_
          refine wp_region_held_drew (S := fun _ => True) (by kernel_rfl) (trivial) (fun hHeld => ?_)
          obtain ⟨D, hD⟩ : ∃ D, V.drew = D := ⟨_, rfl⟩
          have hbD : Below V.heap.size V D := by rw [← hD]; exact (Below.refl _ _).drew
          rw [hD]
          clear hD
          have mm0 := FV.out.2.2.2.later hbD
          refine wpAnyH_take (i := 0) (oi := opz0) (v := ?_) rfl (by kernel_rfl) (by kernel_rfl) (by kernel_rfl) (fun _ _ _ h => h) (Or.inl ⟨by rfl, ?_⟩) (by assumption) ?_
          rotate_left
          · intro w' hSw
            clear hSw
            unfold opz0
            first
            | (go_simp; done)
            | (go_simp; with_reducible rfl)
          simp only [opz0, Act.put, List.setIfInBounds_toArray, List.set_cons_zero, List.set_cons_succ]
          refine wpAnyH_take (i := 2) (oi := opz2) (v := ?_) rfl (by kernel_rfl) (by kernel_rfl) (by kernel_rfl) (fun _ _ _ h => h) (Or.inl ⟨by rfl, ?_⟩) (by assumption) ?_
          rotate_left
          · intro w' hSw
            clear hSw
            unfold opz2
            first
            | (go_simp; done)
            | (go_simp; with_reducible rfl)
          simp only [opz2, Act.put, List.setIfInBounds_toArray, List.set_cons_zero, List.set_cons_succ]
          refine wpAnyH_take (i := 3) (oi := opz3) (v := ?_) rfl (by kernel_rfl) (by kernel_rfl) (by kernel_rfl) (fun _ _ _ h => h) (Or.inl ⟨by rfl, ?_⟩) (by assumption) ?_
          rotate_left
          · intro w' hSw
            clear hSw
            unfold opz3
            first
            | (go_simp; done)
            | (go_simp; with_reducible rfl)
          simp only [opz3, Act.put, List.setIfInBounds_toArray, List.set_cons_zero, List.set_cons_succ]
          refine wpAnyH_take (i := 5) (oi := opz5) (v := ?_) rfl (by kernel_rfl) (by kernel_rfl) (by kernel_rfl) (fun _ _ _ h => h) (Or.inl ⟨by rfl, ?_⟩) (by assumption) ?_
          rotate_left
          · intro w' hSw
            clear hSw
            unfold opz5
            first
            | (go_simp; done)
            | (go_simp; with_reducible rfl)
          simp only [opz5, Act.put, List.setIfInBounds_toArray, List.set_cons_zero, List.set_cons_succ]
          refine wpAnyH_take (i := 6) (oi := opz6) (v := ?_) rfl (by kernel_rfl) (by kernel_rfl) (by kernel_rfl) (fun _ _ _ h => h) (Or.inl ⟨by rfl, ?_⟩) (by assumption) ?_
          rotate_left
          · intro w' hSw
            clear hSw
            unfold opz6
            first
            | (go_simp; done)
            | (go_simp; with_reducible rfl)
          simp only [opz6, Act.put, List.setIfInBounds_toArray, List.set_cons_zero, List.set_cons_succ]
          refine wpAnyH_take (i := 7) (oi := opz7) (v := ?_) rfl (by kernel_rfl) (by kernel_rfl) (by kernel_rfl) (fun _ _ _ h => h) (Or.inl ⟨by rfl, ?_⟩) (by assumption) ?_
          rotate_left
          · intro w' hSw
            clear hSw
            unfold opz7
            first
            | (go_simp; done)
            | (go_simp; with_reducible rfl)
          simp only [opz7, Act.put, List.setIfInBounds_toArray, List.set_cons_zero, List.set_cons_succ]
          refine wpAnyH_take (i := 8) (oi := opz8) (v := ?_) rfl (by kernel_rfl) (by kernel_rfl) (by kernel_rfl) (fun _ _ _ h => h) (Or.inl ⟨by rfl, ?_⟩) (by assumption) ?_
          rotate_left
          · intro w' hSw
            clear hSw
            unfold opz8
            first
            | (go_simp; done)
            | (go_simp; with_reducible rfl)
          simp only [opz8, Act.put, List.setIfInBounds_toArray, List.set_cons_zero, List.set_cons_succ]
          refine wpAnyH_ready (rs := [1, 4]) (by kernel_rfl) (by simp) ?_
          refine AllReadyH.cons (o := opz1) rfl (fun KK hKK => ?_) (AllReadyH.cons (o := opz4) rfl (fun KK hKK => ?_) AllReadyH.nil)
          · have lc := mm0.2.2.2.2.2.2.1
            unfold opz1
            go_simp
            refine hKK.out _ _ trivial (fun hHeld1 => ?_)
            clear hKK KK lc
            refine wpAnyH_ready (rs := [4]) (by kernel_rfl) (by simp) ?_
            refine AllReadyH.cons (o := opz4) rfl (fun KK hKK => ?_) AllReadyH.nil
            unfold opz4
            go_simp
            refine Calls.mono (SH.out _) ?_
            rintro e v2 ⟨rfl, hc⟩
            have hb2 : Below V.heap.size V v2 := chain hbD hc
            have mm2 := mm0.later hc
            clear hc
            refine hKK.out _ _ trivial (fun hHeld2 => ?_)
            clear hKK KK
            refine wpAnyH_take (i := 9) (oi := opz9) (v := ?_) rfl (by kernel_rfl) (by kernel_rfl) (by kernel_rfl) (fun _ _ _ h => h) (Or.inl ⟨by rfl, ?_⟩) (by assumption) ?_
            rotate_left
            · intro w' hSw
              clear hSw
              unfold opz9
              first
              | (go_simp; done)
              | (go_simp; with_reducible rfl)
            simp only [opz9, Act.put, List.setIfInBounds_toArray, List.set_cons_zero, List.set_cons_succ]
            refine wpAnyH_ready (rs := [10]) (by kernel_rfl) (by simp) ?_
            refine AllReadyH.cons (o := opz10) rfl (fun KK hKK => ?_) AllReadyH.nil
            unfold opz10
            go_simp
            have mm3 : MlAt (v2.alloc (.cells #[.string id, .string tx] 52)) (w.heap.size + 1) _ _ _ _ _ _ _ _ _ _ _ := mm2.later ((Below.refl _ _).alloc (Nat.le_refl _) _)
            refine hKK.out _ _ trivial (fun hHeld3 => ?_)
            clear hKK KK
            refine wpAnyH_ready (rs := [11]) (by kernel_rfl) (by simp) ?_
            refine AllReadyH.cons (o := opz11) rfl (fun KK hKK => ?_) AllReadyH.nil
            obtain ⟨v9, w9, hr, A9⟩ := APP.out v2 hb2
            rw [if_pos (by kernel_rfl)]
            refine Go.Lib.wp_append_run _ _ _ _ _ rfl _ _ rfl rfl _ _ hr ?_
            refine hKK.out _ _ trivial (fun hHeld9 => ?_)
            clear hKK KK hr
            simp only [opz11, Act.put, List.setIfInBounds_toArray, List.set_cons_zero, List.set_cons_succ]
            obtain ⟨a9, c9, rfl, O9⟩ := A9
            refine wpAnyH_take (i := 12) (oi := opz12) (v := ?_) rfl (by kernel_rfl) (by kernel_rfl) (by kernel_rfl) (fun _ _ _ h => h) (Or.inl ⟨by rfl, ?_⟩) (by assumption) ?_
            rotate_left
            · intro w' hSw
              clear hSw
              unfold opz12
              first
              | (go_simp; done)
              | (go_simp; with_reducible rfl)
            simp only [opz12, Act.put, List.setIfInBounds_toArray, List.set_cons_zero, List.set_cons_succ]
            refine wpAnyH_ready (rs := [13]) (by kernel_rfl) (by simp) ?_
            refine AllReadyH.cons (o := opz13) rfl (fun KK hKK => ?_) AllReadyH.nil
            obtain ⟨f, q0, q1, q2, q3, q4, q5, q6⟩ := O9.out.2.2.2
            have fz := f 5
            have fy := f 6
            unfold opz13
            go_simp
            refine hKK.out _ _ trivial (fun hHeldS => ?_)
            clear hKK KK f q0 q1 q2 q3 q4 q5 q6 fz fy
            refine wpAnyH_done (by kernel_rfl) ?_ _
            refine NoPanic.normal ?_
            exact KEY v2 a9 c9 w9 O9.out
          · unfold opz4
            go_simp
            refine Calls.mono (SH.out _) ?_
            rintro e v1 ⟨rfl, hc⟩
            have hb1 : Below V.heap.size V v1 := chain hbD hc
            have mm1 := mm0.later hc
            clear hc
            refine hKK.out _ _ trivial (fun hHeld1 => ?_)
            clear hKK KK
            refine wpAnyH_take (i := 9) (oi := opz9) (v := ?_) rfl (by kernel_rfl) (by kernel_rfl) (by kernel_rfl) (fun _ _ _ h => h) (Or.inl ⟨by rfl, ?_⟩) (by assumption) ?_
            rotate_left
            · intro w' hSw
              clear hSw
              unfold opz9
              first
              | (go_simp; done)
              | (go_simp; with_reducible rfl)
            simp only [opz9, Act.put, List.setIfInBounds_toArray, List.set_cons_zero, List.set_cons_succ]
            refine wpAnyH_ready (rs := [1, 10]) (by kernel_rfl) (by simp) ?_
            refine AllReadyH.cons (o := opz1) rfl (fun KK hKK => ?_) (AllReadyH.cons (o := opz10) rfl (fun KK hKK => ?_) AllReadyH.nil)
            · have lc := mm1.2.2.2.2.2.2.1
              unfold opz1
              go_simp
              refine hKK.out _ _ trivial (fun hHeld2 => ?_)
              clear hKK KK lc
              refine wpAnyH_ready (rs := [10]) (by kernel_rfl) (by simp) ?_
              refine AllReadyH.cons (o := opz10) rfl (fun KK hKK => ?_) AllReadyH.nil
              unfold opz10
              go_simp
              have mm3 : MlAt (v1.alloc (.cells #[.string id, .string tx] 52)) (w.heap.size + 1) _ _ _ _ _ _ _ _ _ _ _ := mm1.later ((Below.refl _ _).alloc (Nat.le_refl _) _)
              refine hKK.out _ _ trivial (fun hHeld3 => ?_)
              clear hKK KK
              refine wpAnyH_ready (rs := [11]) (by kernel_rfl) (by simp) ?_
              refine AllReadyH.cons (o := opz11) rfl (fun KK hKK => ?_) AllReadyH.nil
              obtain ⟨v9, w9, hr, A9⟩ := APP.out v1 hb1
              rw [if_pos (by kernel_rfl)]
              refine Go.Lib.wp_append_run _ _ _ _ _ rfl _ _ rfl rfl _ _ hr ?_
              refine hKK.out _ _ trivial (fun hHeld9 => ?_)
              clear hKK KK hr
              simp only [opz11, Act.put, List.setIfInBounds_toArray, List.set_cons_zero, List.set_cons_succ]
              obtain ⟨a9, c9, rfl, O9⟩ := A9
              refine wpAnyH_take (i := 12) (oi := opz12) (v := ?_) rfl (by kernel_rfl) (by kernel_rfl) (by kernel_rfl) (fun _ _ _ h => h) (Or.inl ⟨by rfl, ?_⟩) (by assumption) ?_
              rotate_left
              · intro w' hSw
                clear hSw
                unfold opz12
                first
                | (go_simp; done)
                | (go_simp; with_reducible rfl)
              simp only [opz12, Act.put, List.setIfInBounds_toArray, List.set_cons_zero, List.set_cons_succ]
              refine wpAnyH_ready (rs := [13]) (by kernel_rfl) (by simp) ?_
              refine AllReadyH.cons (o := opz13) rfl (fun KK hKK => ?_) AllReadyH.nil
              obtain ⟨f, q0, q1, q2, q3, q4, q5, q6⟩ := O9.out.2.2.2
              have fz := f 5
              have fy := f 6
              unfold opz13
              go_simp
              refine hKK.out _ _ trivial (fun hHeldS => ?_)
              clear hKK KK f q0 q1 q2 q3 q4 q5 q6 fz fy
              refine wpAnyH_done (by kernel_rfl) ?_ _
              refine NoPanic.normal ?_
              exact KEY v1 a9 c9 w9 O9.out
            · unfold opz10
              go_simp
              have mm2 : MlAt (v1.alloc (.cells #[.string id, .string tx] 52)) (w.heap.size + 1) _ _ _ _ _ _ _ _ _ _ _ := mm1.later ((Below.refl _ _).alloc (Nat.le_refl _) _)
              refine hKK.out _ _ trivial (fun hHeld2 => ?_)
              clear hKK KK
              refine wpAnyH_ready (rs := [1]) (by kernel_rfl) (by simp) ?_
              refine AllReadyH.cons (o := opz1) rfl (fun KK hKK => ?_) AllReadyH.nil
              have lc := mm2.2.2.2.2.2.2.1
              unfold opz1
              go_simp
              refine hKK.out _ _ trivial (fun hHeld3 => ?_)
              clear hKK KK lc
              refine wpAnyH_ready (rs := [11]) (by kernel_rfl) (by simp) ?_
              refine AllReadyH.cons (o := opz11) rfl (fun KK hKK => ?_) AllReadyH.nil
              obtain ⟨v9, w9, hr, A9⟩ := APP.out v1 hb1
              rw [if_pos (by kernel_rfl)]
              refine Go.Lib.wp_append_run _ _ _ _ _ rfl _ _ rfl rfl _ _ hr ?_
              refine hKK.out _ _ trivial (fun hHeld9 => ?_)
              clear hKK KK hr
              simp only [opz11, Act.put, List.setIfInBounds_toArray, List.set_cons_zero, List.set_cons_succ]
              obtain ⟨a9, c9, rfl, O9⟩ := A9
              refine wpAnyH_take (i := 12) (oi := opz12) (v := ?_) rfl (by kernel_rfl) (by kernel_rfl) (by kernel_rfl) (fun _ _ _ h => h) (Or.inl ⟨by rfl, ?_⟩) (by assumption) ?_
              rotate_left
              · intro w' hSw
                clear hSw
                unfold opz12
                first
                | (go_simp; done)
                | (go_simp; with_reducible rfl)
              simp only [opz12, Act.put, List.setIfInBounds_toArray, List.set_cons_zero, List.set_cons_succ]
              refine wpAnyH_ready (rs := [13]) (by kernel_rfl) (by simp) ?_
              refine AllReadyH.cons (o := opz13) rfl (fun KK hKK => ?_) AllReadyH.nil
              obtain ⟨f, q0, q1, q2, q3, q4, q5, q6⟩ := O9.out.2.2.2
              have fz := f 5
              have fy := f 6
              unfold opz13
              go_simp
              refine hKK.out _ _ trivial (fun hHeldS => ?_)
              clear hKK KK f q0 q1 q2 q3 q4 q5 q6 fz fy
              refine wpAnyH_done (by kernel_rfl) ?_ _
              refine NoPanic.normal ?_
              exact KEY v1 a9 c9 w9 O9.out
        case key3 =>
          intro D9 a9 c9 w9 hO
          have I2 : Hid ((w9.setCell ⟨w.heap.size + 1, 5, none⟩ (.slice a9 (n5 + 1) c9)).ownsRow (w.heap.size + 2) 52 2 (.slice a9 (n5 + 1) c9) (n5 + 1) (slcells (out ++ [⟨id, tx⟩])) ∧ Below w.heap.size w (w9.setCell ⟨w.heap.size + 1, 5, none⟩ (.slice a9 (n5 + 1) c9)) ∧ Box2 (w9.setCell ⟨w.heap.size + 1, 5, none⟩ (.slice a9 (n5 + 1) c9)) w.heap.size 3 u Q ⟨#[]⟩ ⟨#[]⟩ a9 (n5 + 1) c9 none 0 0) := ⟨own_other hO.1 (by show w.heap.size + 1 < _; omega) _, hO.2.1.setCell (p := ⟨w.heap.size + 1, 5, none⟩) (Nat.le_succ _) _, hO.2.2.1.other (p := ⟨w.heap.size + 1, 5, none⟩) n1 _, hO.2.2.2.put5 _ _ _⟩
          clear hO
          go_wp2
          go_roundw
          case rel => exact ⟨fu, r, out ++ [Sl.mk id tx], a9, n5 + 1, c9, rfl, J2.out, I2.out⟩
          case measure => exact hrl
theorem rdecode_any (s : ByteArray) (hz : s.size ≤ 140737488355328) (w : World) :
    Calls Try.prog 18 #[.string s] w fun e w' => ∃ v, e = .returned (.tuple #[v, .int .i64 (de (by' s))]) ∧ MlV w' v (dm (by' s)) ∧ Below w.heap.size w w' := by
  rw [← (dR_same (by' s)).1, ← (dR_same (by' s)).2]
  cases h : fitM (by' s) with
  | true =>
    obtain ⟨-, ⟨k, l⟩ | ⟨k, l⟩ | ⟨k, l⟩ | ⟨k, l⟩⟩ := fit_of h <;> rw [by_len] at l
    · exact rdecode_1 s l k w
    · exact rdecode_2 s l k w
    · exact rdecode_3 s l k w
    · exact rdecode_4 s l k w
  | false =>
    refine Calls.mono (rdecode_unfit s h hz w) ?_
    rintro e w' ⟨rfl, hb⟩
    have q : decR (by' s) = false := by unfold decR; rw [h]; rfl
    have E : deR (by' s) = 110 ∧ dmR (by' s) = zm := by unfold deR dmR; rw [q]; exact ⟨rfl, rfl⟩
    rw [E.1, E.2]
    exact ⟨_, rfl, MlV.zero _, hb⟩
set_option maxHeartbeats 1000000 in
theorem MailReads_walk (s : ByteArray) (hz : s.size ≤ 140737488355328) (w : World) :
    Calls Try.prog 4 #[.string s] w fun e w' => e = .returned (.bool true) ∧ Below w.heap.size w w' := by
  obtain ⟨E, hE⟩ : ∃ E, de (by' s) = E := ⟨_, rfl⟩
  obtain ⟨M, hM⟩ : ∃ M, dm (by' s) = M := ⟨_, rfl⟩
  have D1 : Hid (∀ w, Calls Try.prog 17 #[.string s] w fun e w' => ∃ a n c a2 n2 c2, e = .returned (.tuple #[mv M.k M.u M.q M.t M.g a n c a2 n2 c2, .int .i64 E]) ∧ Lists w' a n c a2 n2 c2 M.sl M.ids ∧ Below w.heap.size w w') := fun w => by
    rw [← hE, ← hM]
    refine Calls.mono (decode_any s hz w) ?_
    rintro e w' ⟨v, rfl, ⟨a, n, c, a2, n2, c2, rfl, L⟩, hb⟩
    exact ⟨a, n, c, a2, n2, c2, rfl, L, hb⟩
  have D2 : Hid (∀ w, Calls Try.prog 18 #[.string s] w fun e w' => ∃ a n c a2 n2 c2, e = .returned (.tuple #[mv M.k M.u M.q M.t M.g a n c a2 n2 c2, .int .i64 E]) ∧ Lists w' a n c a2 n2 c2 M.sl M.ids ∧ Below w.heap.size w w') := fun w => by
    rw [← hE, ← hM]
    refine Calls.mono (rdecode_any s hz w) ?_
    rintro e w' ⟨v, rfl, ⟨a, n, c, a2, n2, c2, rfl, L⟩, hb⟩
    exact ⟨a, n, c, a2, n2, c2, rfl, L, hb⟩
  clear hE hM
  obtain ⟨k, u, q, t, g, ss, is⟩ := M
  simp only at D1 D2
  have EE : (E == E) = true := by simp
  go_enter Try.func4, Try.ntmps4
  go_wp2_with fail
  refine Calls.mono (D1.out w) ?_
  rintro e w1 ⟨a, n, c, a2, n2, c2, rfl, L1, hb1⟩
  obtain ⟨X, hX⟩ : ∃ X, w1.alloc (.cells #[.int .i64 k, .int .i64 u, .int .i64 q, .string t, .string g, .slice a n c, .slice a2 n2 c2] 25) = X := ⟨_, rfl⟩
  obtain ⟨g1, hg1⟩ : ∃ g1, w1.heap.size = g1 := ⟨_, rfl⟩
  have F1 : Hid (Below w.heap.size w X ∧ MlAt X g1 k u q t g a n c a2 n2 c2 ∧ Lists X a n c a2 n2 c2 ss is) := by
    have hb : ∀ o : Obj, Below w1.heap.size w1 (w1.alloc o) := fun o => (Below.refl _ _).alloc (Nat.le_refl _) _
    rw [← hX, ← hg1]
    exact ⟨chain hb1 (hb _), MlAt.new _ _ _ _ _ _ _ _ _ _ _ _ _, L1.later (hb _)⟩
  clear hb1 L1 D1
  go_wp2_with fail
  clear hX hg1
  refine Calls.mono (D2.out X) ?_
  rintro e w2 ⟨b, m, d, b2, m2, d2, rfl, L2, hb2⟩
  obtain ⟨Y, hY⟩ : ∃ X, w2.alloc (.cells #[.int .i64 k, .int .i64 u, .int .i64 q, .string t, .string g, .slice b m d, .slice b2 m2 d2] 25) = X := ⟨_, rfl⟩
  obtain ⟨g2, hg2⟩ : ∃ g1, w2.heap.size = g1 := ⟨_, rfl⟩
  have F2 : Hid (Below w.heap.size w Y ∧ MlAt Y g1 k u q t g a n c a2 n2 c2 ∧ MlAt Y g2 k u q t g b m d b2 m2 d2 ∧ Lists Y a n c a2 n2 c2 ss is ∧ Lists Y b m d b2 m2 d2 ss is) := by
    have hb : ∀ o : Obj, Below w2.heap.size w2 (w2.alloc o) := fun o => (Below.refl _ _).alloc (Nat.le_refl _) _
    rw [← hY, ← hg2]
    exact ⟨chain (chain F1.out.1 hb2) (hb _), (F1.out.2.1.later hb2).later (hb _), MlAt.new _ _ _ _ _ _ _ _ _ _ _ _ _, (F1.out.2.2.later hb2).later (hb _), L2.later (hb _)⟩
  clear hb2 L2 D2 F1
  obtain ⟨-, p0, p1, p2, p3, p4, p5, p6⟩ := F2.out.2.1
  obtain ⟨-, q0, q1, q2, q3, q4, q5, q6⟩ := F2.out.2.2.1
  go_wp2_with fail
  clear hY hg2
  refine Calls.mono (sameMail_yes _ _ ⟨k, u, q, t, g, ss, is⟩ Y ⟨a, n, c, a2, n2, c2, rfl, F2.out.2.2.2.1⟩ ⟨b, m, d, b2, m2, d2, rfl, F2.out.2.2.2.2⟩) ?_
  rintro e w3 ⟨rfl, hb3⟩
  have F3 : Hid (Below w.heap.size w w3) := chain F2.out.1 hb3
  clear hb3 F2 p0 p1 p2 p3 p4 p5 p6 q0 q1 q2 q3 q4 q5 q6
  go_wp2_with fail
  refine Calls.mono (mworks_any w3) ?_
  rintro e w4 ⟨rfl, hb4⟩
  have F4 : Hid (Below w.heap.size w w4) := chain F3.out hb4
  clear hb4 F3
  go_wp2
  go_ret
  exact ⟨rfl, F4.out⟩
end Go.Proofs.Ytbaajpefefedbaa
