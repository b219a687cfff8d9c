/- A part out of a text. -/
import Derived.Test.YtdepjiocmbbdpaaDoorPtE
namespace Go.Proofs.YtdepjiocmbbdpaaDoor
open Go.RowKit Go.Proofs.Fd Go.Proofs.Pt
set_option maxRecDepth 20000

def oprd0 : Oper := { dst := some 10, op := Go.Op.move (Go.Operand.tmp 0), type := 9, pos := "part.go:77", after := #[], guard := none }
def oprd1 : Oper := { dst := some 11, op := Go.Op.slice 9 (Go.Operand.tmp 10) none (some (Go.Operand.const (Go.Value.int Go.IntKind.i64 8))) none, type := 9, pos := "part.go:77", after := #[{ on := 0, ground := Go.Ground.data }], guard := none }
def oprd2 : Oper := { dst := some 12, op := Go.Op.call { callee := Go.Callee.value (Go.Operand.func 20), args := #[Go.Operand.tmp 11], argTypes := #[9] }, type := 57, pos := "part.go:77", after := #[{ on := 1, ground := Go.Ground.data }], guard := none }
def oprd3 : Oper := { dst := some 13, op := Go.Op.move (Go.Operand.tmp 0), type := 9, pos := "part.go:77", after := #[], guard := none }
def oprd4 : Oper := { dst := some 14, op := Go.Op.index 9 (Go.Operand.tmp 13) (Go.Operand.const (Go.Value.int Go.IntKind.i64 9)), type := 5, pos := "part.go:77", after := #[{ on := 3, ground := Go.Ground.data }], guard := none }
def oprd5 : Oper := { dst := some 15, op := Go.Op.convert 5 3 (Go.Operand.tmp 14), type := 3, pos := "part.go:77", after := #[{ on := 4, ground := Go.Ground.data }], guard := none }
def oprd6 : Oper := { dst := some 16, op := Go.Op.build 60 #[(0, Go.Operand.tmp 12), (1, Go.Operand.tmp 15)], type := 60, pos := "part.go:77", after := #[{ on := 2, ground := Go.Ground.data }, { on := 5, ground := Go.Ground.data }], guard := none }
def oprd7 : Oper := { dst := some 4, op := Go.Op.alloc 60, type := 0, pos := "part.go:77", after := #[], guard := none }
def oprd8 : Oper := { dst := none, op := Go.Op.store 60 (Go.Operand.tmp 4) (Go.Operand.tmp 16), type := 0, pos := "part.go:77", after := #[{ on := 7, ground := Go.Ground.data }, { on := 6, ground := Go.Ground.data }, { on := 2, ground := Go.Ground.chain }, { on := 0, ground := Go.Ground.phase }, { on := 1, ground := Go.Ground.phase }, { on := 2, ground := Go.Ground.phase }, { on := 3, ground := Go.Ground.phase }, { on := 4, ground := Go.Ground.phase }, { on := 5, ground := Go.Ground.phase }, { on := 6, ground := Go.Ground.phase }, { on := 7, ground := Go.Ground.phase }], guard := none }
def oprf0 : Oper := { dst := some 17, op := Go.Op.fieldAddr 60 (Go.Operand.tmp 4) 2, type := 0, pos := "part.go:78", after := #[], guard := none }
def oprf1 : Oper := { dst := some 18, op := Go.Op.slice 58 (Go.Operand.tmp 17) none none none, type := 54, pos := "part.go:78", after := #[{ on := 0, ground := Go.Ground.data }], guard := none }
def oprf2 : Oper := { dst := some 19, op := Go.Op.move (Go.Operand.tmp 0), type := 9, pos := "part.go:78", after := #[], guard := none }
def oprf3 : Oper := { dst := some 20, op := Go.Op.slice 9 (Go.Operand.tmp 19) (some (Go.Operand.const (Go.Value.int Go.IntKind.i64 10))) (some (Go.Operand.const (Go.Value.int Go.IntKind.i64 16))) none, type := 9, pos := "part.go:78", after := #[{ on := 2, ground := Go.Ground.data }], guard := none }
def oprf4 : Oper := { dst := some 21, op := Go.Op.call { callee := Go.Callee.builtin Go.Builtin.copy, args := #[Go.Operand.tmp 18, Go.Operand.tmp 20], argTypes := #[54, 9] }, type := 3, pos := "part.go:78", after := #[{ on := 1, ground := Go.Ground.data }, { on := 3, ground := Go.Ground.data }], guard := none }
def oprg0 : Oper := { dst := some 22, op := Go.Op.load 60 (Go.Operand.tmp 4), type := 60, pos := "part.go:79", after := #[], guard := none }
def oprg1 : Oper := { dst := some 23, op := Go.Op.move (Go.Operand.tmp 0), type := 9, pos := "part.go:79", after := #[], guard := none }
def oprg2 : Oper := { dst := some 24, op := Go.Op.index 9 (Go.Operand.tmp 23) (Go.Operand.const (Go.Value.int Go.IntKind.i64 8)), type := 5, pos := "part.go:79", after := #[{ on := 1, ground := Go.Ground.data }], guard := none }
def oprg3 : Oper := { dst := some 25, op := Go.Op.convert 5 3 (Go.Operand.tmp 24), type := 3, pos := "part.go:79", after := #[{ on := 2, ground := Go.Ground.data }], guard := none }
def oprg4 : Oper := { dst := some 26, op := Go.Op.move (Go.Operand.tmp 0), type := 9, pos := "part.go:79", after := #[], guard := none }
def oprg5 : Oper := { dst := some 27, op := Go.Op.slice 9 (Go.Operand.tmp 26) (some (Go.Operand.const (Go.Value.int Go.IntKind.i64 16))) none none, type := 9, pos := "part.go:79", after := #[{ on := 4, ground := Go.Ground.data }], guard := none }
def oprg6 : Oper := { dst := some 28, op := Go.Op.build 64 #[(0, Go.Operand.tmp 22), (1, Go.Operand.tmp 25), (2, Go.Operand.tmp 27)], type := 64, pos := "part.go:79", after := #[{ on := 0, ground := Go.Ground.data }, { on := 3, ground := Go.Ground.data }, { on := 5, ground := Go.Ground.data }], guard := none }
def oprg7 : Oper := { dst := some 5, op := Go.Op.alloc 64, type := 0, pos := "part.go:79", after := #[], guard := none }
def oprg8 : Oper := { dst := none, op := Go.Op.store 64 (Go.Operand.tmp 5) (Go.Operand.tmp 28), type := 0, pos := "part.go:79", after := #[{ on := 7, ground := Go.Ground.data }, { on := 6, ground := Go.Ground.data }, { on := 0, ground := Go.Ground.phase }, { on := 1, ground := Go.Ground.phase }, { on := 2, ground := Go.Ground.phase }, { on := 3, ground := Go.Ground.phase }, { on := 4, ground := Go.Ground.phase }, { on := 5, ground := Go.Ground.phase }, { on := 6, ground := Go.Ground.phase }, { on := 7, ground := Go.Ground.phase }], guard := none }
theorem st_cut (l : Bs) (a b : Nat) : (st l).extract a b = st ((l.drop a).take (b - a)) := by
  apply ByteArray.ext
  apply Array.ext'
  simp [ByteArray.data_extract]
theorem st_at (l : Bs) (k : Nat) (h : k < (st l).size) : (st l)[k] = l.getD k 0 := by
  have h' : k < l.length := by rw [st_size] at h; exact h
  rw [List.getD_eq_getElem?_getD, List.getElem?_eq_getElem h']
  rfl
/-- A block of a type is laid, wherever. -/
theorem alloc_mark_any (W : World) : ∃ X V, (Instr.alloc 60 true (.tuple #[])).run Tryd.prog W = .ok (.pointer (some ⟨X, 0, none⟩)) V ∧ Blk V X (mkc m0) ∧ W.heap.size ≤ X ∧ Below W.heap.size W V :=
  ⟨_, _, allocMark W, Blk.new W _ _ (mkc_ne _), Nat.le_refl _, (Below.refl _ W).alloc (Nat.le_refl _) _⟩
theorem alloc_part_any (W : World) : ∃ X V, (Instr.alloc 64 true (.tuple #[])).run Tryd.prog W = .ok (.pointer (some ⟨X, 0, none⟩)) V ∧ Blk V X (pac p0) ∧ W.heap.size ≤ X ∧ Below W.heap.size W V :=
  ⟨_, _, allocPart W, Blk.new W _ _ (pac_ne _), Nat.le_refl _, (Below.refl _ W).alloc (Nat.le_refl _) _⟩
theorem store_mark_any {W : World} {X : Nat} {m m' : Mk} (h : Blk W X (mkc m)) (hm : Mk8 m) (hm' : Mk8 m') : ∃ V, (Instr.storeAt 60 (.pointer (some ⟨X, 0, none⟩)) (.agg (mkc m').toArray)).run Tryd.prog W = .ok () V ∧ Blk V X (mkc m') ∧ Bf (fun g => g = X) W V :=
  ⟨_, store_row 60 sizeMark (by have := h.there; rw [mkc_len hm] at this; exact this) (mkc_len hm') (mkc_one _), h.put _ (by rw [mkc_len hm', mkc_len hm]), Bf.put1 _ _ _ _⟩
theorem store_part_any {W : World} {X : Nat} {p p' : Pa} (h : Blk W X (pac p)) (hm : Mk8 p.m) (hm' : Mk8 p'.m) : ∃ V, (Instr.storeAt 64 (.pointer (some ⟨X, 0, none⟩)) (.agg (pac p').toArray)).run Tryd.prog W = .ok () V ∧ Blk V X (pac p') ∧ Bf (fun g => g = X) W V :=
  ⟨_, store_row 64 sizePart (by have := h.there; rw [pac_len hm] at this; exact this) (pac_len hm') (pac_one _), h.put _ (by rw [pac_len hm', pac_len hm]), Bf.put1 _ _ _ _⟩
/-- The result's cell and a block of the call's own. -/
structure Rd3 (w : World) (X : Nat) (cs : List Value) (V : World) : Prop where
  a : Blk V w.heap.size (pac p0)
  b : Blk V X cs
  c : w.heap.size < X
  d : Below w.heap.size w V
theorem Rd3.later {w : World} {X : Nat} {cs : List Value} {V V' : World} (h : Rd3 w X cs V) (hb : Below V.heap.size V V') : Rd3 w X cs V' := ⟨h.a.later hb, h.b.later hb, h.c, chain h.d hb⟩
/-- What read answers. -/
def rdV (s : Bs) : Value := match rd s with
  | none => .tuple #[.agg (pac p0).toArray, .int .i64 220]
  | some p => .tuple #[.agg (pac p).toArray, .int .i64 0]
theorem rdV_short {s : Bs} (h : s.length < 16) : rdV s = .tuple #[.agg (pac p0).toArray, .int .i64 220] := by unfold rdV rd; rw [if_pos h]
theorem rdV_no {s : Bs} (h : ¬ s.length < 16) (hm : ¬ May (raw s)) : rdV s = .tuple #[.agg (pac p0).toArray, .int .i64 220] := by unfold rdV rd; rw [if_neg h, if_neg hm]
theorem rdV_ok {s : Bs} (h : ¬ s.length < 16) (hm : May (raw s)) : rdV s = .tuple #[.agg (pac (raw s)).toArray, .int .i64 0] := by unfold rdV rd; rw [if_neg h, if_pos hm]
/-- A struct and a number as results. -/
theorem res_c2 {F : Func} {k m : Nat} {T : TypeId} (hF : F.results = #[.cell k T, .tmp m]) (tmps : Array Value) (w : World) (b : Nat) (x y : Value) (h0 : tmps.getD k undef = .pointer (some ⟨b, 0, none⟩)) (h1 : tmps.getD m undef = y)
    (l1 : (loadVar T ⟨b, 0, none⟩).run Tryd.prog w = .ok x w) : (results F tmps).run Tryd.prog w = .ok (.tuple #[x, y]) w := by
  unfold results
  rw [hF]
  have h0' : tmps[k]?.getD undef = .pointer (some ⟨b, 0, none⟩) := by simpa using h0
  have h1' : tmps[m]?.getD undef = y := by simpa using h1
  simp [h0', h1', l1, asAddr]
set_option maxHeartbeats 4000000 in
theorem read_any (s : Bs) (hs : s.length ≤ 140737488000000) (w : World) :
    Calls Tryd.prog 25 #[.string (st s)] w fun e w' => e = .returned (rdV s) ∧ Below w.heap.size w w' := by
  obtain ⟨W0, hW0⟩ : ∃ W, w.alloc (.cells (pac p0).toArray 64) = W := ⟨_, rfl⟩
  have AL0 : Hid ((Instr.alloc 64 true (.tuple #[])).run Tryd.prog w = .ok (.pointer (some ⟨w.heap.size, 0, none⟩)) W0) := by
    have := allocPart w; rw [hW0] at this; exact this
  have y0 : Blk W0 w.heap.size (pac p0) := hW0 ▸ Blk.new w (pac p0) _ (pac_ne _)
  have b0 : Below w.heap.size w W0 := hW0 ▸ (Below.refl _ w).alloc (Nat.le_refl _) _
  have sz := st_size s
  have E8 := st_cut s 0 8
  have E10 := st_cut s 10 16
  have E16 := st_cut s 16 (st s).size
  clear hW0
  by_cases h16 : s.length < 16
  · rw [rdV_short h16]
    obtain ⟨V, hV, v1, v2⟩ := store_part_any y0 m0_ok (p' := p0) m0_ok
    have ST : Hid _ := hV
    have BU : Hid (∀ w, (Instr.build 64 #[]).run Tryd.prog w = .ok (.agg (pac p0).toArray) w) := build_part0
    have FI : Hid (Blk V w.heap.size (pac p0) ∧ Below w.heap.size w V) := ⟨v1, b0.trans (v2.below (fun g e => by omega) b0.size)⟩
    have g : ((s.length : Nat) : Int) < 16 := by omega
    generalize st s = Sx at *
    clear hV v1 v2 y0 b0 E8 E10 E16 hs
    go_enter Tryd.func25, Tryd.ntmps25
    go_upto_region 0 with fail
    refine wp_region_lit ?_
    refine wpList_plain rfl (fun K2 hK2 => wp_alloc_run _ rfl _ _ (AL0.out) (hK2 _ _ ?_))
    try simp only [Act.put, List.setIfInBounds_toArray, List.set_cons_zero, List.set_cons_succ]
    refine wpList_plain rfl (fun K2 hK2 => ?_)
    go_simp
    refine hK2 _ _ ?_
    clear hK2 K2
    refine wpList_nil ?_
    try simp only [Act.put, List.setIfInBounds_toArray, List.set_cons_zero, List.set_cons_succ]
    go_upto_region 2 with fail
    refine wp_region_lit ?_
    refine wpList_plain rfl (fun K2 hK2 => wp_build_run _ _ rfl #[] (by first | rfl | kernel_rfl) _ (BU.out _) (hK2 _ _ ?_))
    try simp only [Act.put, List.setIfInBounds_toArray, List.set_cons_zero, List.set_cons_succ]
    refine wpList_plain rfl (fun K2 hK2 => wp_store_run _ _ _ rfl _ rfl _ rfl _ (ST.out) (hK2 _ _ ?_))
    try simp only [Act.put]
    refine wpList_plain rfl (fun K2 hK2 => ?_)
    go_simp
    refine hK2 _ _ ?_
    clear hK2 K2
    refine wpList_nil ?_
    try simp only [Act.put, List.setIfInBounds_toArray, List.set_cons_zero, List.set_cons_succ]
    go_wp2
    refine bodyPost_ret (v := .tuple #[.agg (pac p0).toArray, .int .i64 220]) ?_ rfl ⟨rfl, FI.out.2⟩
    exact res_c2 Tryd.results25 _ _ w.heap.size _ _ (by kernel_rfl) (by kernel_rfl) (run_loadVar_mid _ w.heap.size 0 64 (pac p0) _ FI.out.1.r Tryd.underlying64 rfl (by rw [pac_len m0_ok]; exact sizePart))
  have hi8 : (s.take 8).length = 8 := by rw [List.length_take]; omega
  have hd6 : ((s.drop 10).take 6).length = 6 := by rw [List.length_take, List.length_drop]; omega
  obtain ⟨p, hp⟩ : ∃ p, raw s = p := ⟨_, rfl⟩
  have hp1 : p.m.1 = s.take 8 := by rw [← hp]; rfl
  have hp2 : p.m.2.1 = (s.getD 9 0).toNat := by rw [← hp]; rfl
  have hp3 : p.m.2.2 = (s.drop 10).take 6 := by rw [← hp]; rfl
  have hpk : p.k = (s.getD 8 0).toNat := by rw [← hp]; rfl
  have hpp : p.p = s.drop 16 := by rw [← hp]; rfl
  have M8 : Mk8 p.m := ⟨by rw [hp1]; exact hi8, by rw [hp3]; exact hd6⟩
  have M8' : Mk8 (p.m.1, p.m.2.1, zb 6) := ⟨M8.a, rfl⟩
  have l9 : 9 < (st s).size := by omega
  have l8 : 8 < (st s).size := by omega
  have x9 : IntKind.i64.wrap (((st s)[9]'l9).toNat : Int) = (p.m.2.1 : Int) := by
    rw [st_at, ← hp2, IntKind.wrap_i64]; have := (s.getD 9 0).toNat_lt; rw [← hp2] at this; omega
  have x8 : IntKind.i64.wrap (((st s)[8]'l8).toNat : Int) = (p.k : Int) := by
    rw [st_at, ← hpk, IntKind.wrap_i64]; have := (s.getD 8 0).toNat_lt; rw [← hpk] at this; omega
  have k256 : p.k < 256 := by rw [hpk]; exact (s.getD 8 0).toNat_lt
  have n256 : p.m.2.1 < 256 := by rw [hp2]; exact (s.getD 9 0).toNat_lt
  have pl : p.p.length ≤ 140737488000000 := by rw [hpp, List.length_drop]; omega
  have E8' : (st s).extract 0 8 = st p.m.1 := by rw [E8, hp1]; rfl
  have E10' : (st s).extract 10 16 = st p.m.2.2 := by rw [E10, hp3]
  have E16' : (st s).extract 16 (st s).size = st p.p := by rw [E16, hpp, List.take_of_length_le (by rw [List.length_drop, st_size]; exact Nat.le_refl _)]
  obtain ⟨M, hM⟩ : ∃ M, decide (May p) = M := ⟨_, rfl⟩
  have NO : Hid (∀ w, Calls Tryd.prog 20 #[.string (st p.m.1)] w fun e w' => e = .returned (.agg (bc p.m.1).toArray) ∧ Below w.heap.size w w') := nameOf_any p.m.1 M8.a
  have MB : Hid (∀ w, Calls Tryd.prog 37 #[.agg (pac p).toArray] w fun e w' => e = .returned (.bool M) ∧ Below w.heap.size w w') := fun w => by have := mayBe_any p M8 k256 n256 pl w; rw [hM] at this; exact this
  have B8 : Hid (∀ w, (Instr.build 60 #[(0, .agg (bc p.m.1).toArray), (1, .int .i64 (p.m.2.1 : Int))]).run Tryd.prog w = .ok (.agg (mkc (p.m.1, p.m.2.1, zb 6)).toArray) w) := fun w => build_mark p.m.1 M8.a _ w
  have B15 : Hid (∀ w, (Instr.build 64 #[(0, .agg (mkc p.m).toArray), (1, .int .i64 (p.k : Int)), (2, .string (st p.p))]).run Tryd.prog w = .ok (.agg (pac p).toArray) w) := fun w => build_part p M8 w
  have BU : Hid (∀ w, (Instr.build 64 #[]).run Tryd.prog w = .ok (.agg (pac p0).toArray) w) := build_part0
  have RV : Hid (rdV s = if M = true then .tuple #[.agg (pac p).toArray, .int .i64 0] else .tuple #[.agg (pac p0).toArray, .int .i64 220]) := by
    by_cases hm : May p
    · show _ = ite _ _ _
      rw [if_pos (by rw [← hM]; exact decide_eq_true hm)]; rw [← hp] at hm ⊢; exact rdV_ok h16 hm
    · show _ = ite _ _ _
      rw [if_neg (by rw [← hM]; simp only [decide_eq_true_eq]; exact hm)]; rw [← hp] at hm; exact rdV_no h16 hm
  have g : ¬ ((st s).size : Int) < 16 := by omega
  have q8 : (8 : Int) ≤ (s.length : Int) := by omega
  have q9 : (9 : Int) < (s.length : Int) := by omega
  have q88 : (8 : Int) < (s.length : Int) := by omega
  have q16 : (16 : Int) ≤ (s.length : Int) := by omega
  have g' : ¬ (s.length : Int) < 16 := by omega
  rw [sz] at E16'
  have sz6 : (st p.m.2.2).size = 6 := by rw [st_size]; exact M8.b
  have tk6 : p.m.2.2.take 6 = p.m.2.2 := List.take_of_length_le (by rw [M8.b]; exact Nat.le_refl _)
  have mk : (p.m.1, p.m.2.1, p.m.2.2) = p.m := rfl
  have Y0 : Hid (Blk W0.drew w.heap.size (pac p0) ∧ Below w.heap.size w W0.drew) := ⟨y0.drew, b0.drew⟩
  obtain ⟨RR, hRR⟩ : ∃ r, rdV s = r := ⟨_, rfl⟩
  rw [hRR] at RV ⊢
  clear hRR hp hp1 hp2 hp3 hpk hpp hi8 hd6 h16 E8 E10 E16 hs
  generalize st s = Sx at *
  go_enter Tryd.func25, Tryd.ntmps25
  go_upto_region 0 with fail
  refine wp_region_lit ?_
  refine wpList_plain rfl (fun K2 hK2 => wp_alloc_run _ rfl _ _ (AL0.out) (hK2 _ _ ?_))
  try simp only [Act.put, List.setIfInBounds_toArray, List.set_cons_zero, List.set_cons_succ]
  refine wpList_plain rfl (fun K2 hK2 => ?_)
  go_simp
  refine hK2 _ _ ?_
  clear hK2 K2
  refine wpList_nil ?_
  try simp only [Act.put, List.setIfInBounds_toArray, List.set_cons_zero, List.set_cons_succ]
  go_upto_region 3 with fail
  refine (fun (KEY : ∀ (X : Nat) (V : World), Hid (Rd3 w X (mkc (p.m.1, p.m.2.1, zb 6)) V) → (?KA : Nat → World → Prop) X V) => ?mainA) ?keyA
  case mainA =>
    refine wp_region_noPanic ?_
    refine wp_region_held_drew (S := fun w' => Blk w' w.heap.size (pac p0) ∧ Below w.heap.size w w') (by kernel_rfl) (Y0.out) (fun hHeld => ?_)
    refine wpAnyH_take (i := 0) (oi := oprd0) (v := ?_) rfl (by kernel_rfl) (by kernel_rfl) (by kernel_rfl) (fun _ _ _ h => h) (Or.inl ⟨by rfl, ?_⟩) (by assumption) ?_
    rotate_left
    · intro w' hSw
      clear hSw
      unfold oprd0
      first
      | (go_simp; done)
      | (go_simp; with_reducible rfl)
    simp only [oprd0, Act.put, List.setIfInBounds_toArray, List.set_cons_zero, List.set_cons_succ]
    refine wpAnyH_take (i := 1) (oi := oprd1) (v := ?_) rfl (by kernel_rfl) (by kernel_rfl) (by kernel_rfl) (fun _ _ _ h => h) (Or.inl ⟨by rfl, ?_⟩) (by assumption) ?_
    rotate_left
    · intro w' hSw
      clear hSw
      unfold oprd1
      first
      | (go_simp; done)
      | (go_simp; with_reducible rfl)
    simp only [oprd1, Act.put, List.setIfInBounds_toArray, List.set_cons_zero, List.set_cons_succ]
    refine wpAnyH_take (i := 3) (oi := oprd3) (v := ?_) rfl (by kernel_rfl) (by kernel_rfl) (by kernel_rfl) (fun _ _ _ h => h) (Or.inl ⟨by rfl, ?_⟩) (by assumption) ?_
    rotate_left
    · intro w' hSw
      clear hSw
      unfold oprd3
      first
      | (go_simp; done)
      | (go_simp; with_reducible rfl)
    simp only [oprd3, Act.put, List.setIfInBounds_toArray, List.set_cons_zero, List.set_cons_succ]
    refine wpAnyH_take (i := 4) (oi := oprd4) (v := ?_) rfl (by kernel_rfl) (by kernel_rfl) (by kernel_rfl) (fun _ _ _ h => h) (Or.inl ⟨by rfl, ?_⟩) (by assumption) ?_
    rotate_left
    · intro w' hSw
      clear hSw
      unfold oprd4
      first
      | (go_simp; done)
      | (go_simp; with_reducible rfl)
    simp only [oprd4, Act.put, List.setIfInBounds_toArray, List.set_cons_zero, List.set_cons_succ]
    refine wpAnyH_take (i := 5) (oi := oprd5) (v := ?_) rfl (by kernel_rfl) (by kernel_rfl) (by kernel_rfl) (fun _ _ _ h => h) (Or.inl ⟨by rfl, ?_⟩) (by assumption) ?_
    rotate_left
    · intro w' hSw
      clear hSw
      unfold oprd5
      first
      | (go_simp; done)
      | (go_simp; with_reducible rfl)
    simp only [oprd5, Act.put, List.setIfInBounds_toArray, List.set_cons_zero, List.set_cons_succ]
    refine wpAnyH_ready (rs := [2, 7]) (by kernel_rfl) (by simp) ?_
    refine AllReadyH.cons (o := oprd2) rfl (fun KK hKK => ?_) (AllReadyH.cons (o := oprd7) rfl (fun KK hKK => ?_) AllReadyH.nil)
    · unfold oprd2
      go_simp
      refine Calls.mono (NO.out _) ?_
      rintro e w5 ⟨rfl, hb5⟩
      refine hKK.out _ _ (⟨hHeld.1.later hb5, chain hHeld.2 hb5⟩) (fun hHeld => ?_)
      clear hKK KK hb5
      try simp only [oprd2, Act.put, List.setIfInBounds_toArray, List.set_cons_zero, List.set_cons_succ]
      refine wpAnyH_take (i := 6) (oi := oprd6) (v := ?_) rfl (by kernel_rfl) (by kernel_rfl) (by kernel_rfl) (fun _ _ _ h => h) (Or.inl ⟨by rfl, ?_⟩) (by assumption) ?_
      rotate_left
      · intro w' hSw
        exact exec_build (B8.out w') oprd6 _ rfl (by first | rfl | kernel_rfl)
      simp only [oprd6, Act.put, List.setIfInBounds_toArray, List.set_cons_zero, List.set_cons_succ]
      refine wpAnyH_ready (rs := [7]) (by kernel_rfl) (by simp) ?_
      refine AllReadyH.cons (o := oprd7) rfl (fun KK hKK => ?_) AllReadyH.nil
      rw [if_pos (by kernel_rfl)]
      have ltW := hHeld.1.lt
      obtain ⟨X, V, hr, bX, hx, hbV⟩ := alloc_mark_any _
      refine wp_alloc_run _ rfl _ _ hr ?_
      refine hKK.out _ _ (⟨hHeld.1.later hbV, chain hHeld.2 hbV⟩) (fun hHeld => ?_)
      clear hKK KK hr
      try simp only [oprd7, Act.put, List.setIfInBounds_toArray, List.set_cons_zero, List.set_cons_succ]
      refine wpAnyH_ready (rs := [8]) (by kernel_rfl) (by simp) ?_
      refine AllReadyH.cons (o := oprd8) rfl (fun KK hKK => ?_) AllReadyH.nil
      rw [if_pos (by kernel_rfl)]
      obtain ⟨V9, hr9, b9, bf9⟩ := store_mark_any bX m0_ok M8'
      have hlt : w.heap.size < X := Nat.lt_of_lt_of_le ltW hx
      refine wp_store_run _ _ _ rfl _ rfl _ rfl _ hr9 ?_
      refine hKK.out _ _ (⟨hHeld.1.bf bf9 (by omega), hHeld.2.trans (bf9.below (fun g e => by omega) hHeld.2.size)⟩) (fun hHeld => ?_)
      clear hKK KK hr9
      try simp only [oprd8, Act.put]
      refine wpAnyH_done (by kernel_rfl) ?_ _
      refine NoPanic.normal ?_
      exact KEY X V9 ⟨hHeld.1, b9, hlt, hHeld.2⟩
    · rw [if_pos (by kernel_rfl)]
      have ltW := hHeld.1.lt
      obtain ⟨X, V, hr, bX, hx, hbV⟩ := alloc_mark_any _
      refine wp_alloc_run _ rfl _ _ hr ?_
      refine hKK.out _ _ (⟨hHeld.1.later hbV, chain hHeld.2 hbV⟩) (fun hHeld => ?_)
      clear hKK KK hr
      try simp only [oprd7, Act.put, List.setIfInBounds_toArray, List.set_cons_zero, List.set_cons_succ]
      refine wpAnyH_ready (rs := [2]) (by kernel_rfl) (by simp) ?_
      refine AllReadyH.cons (o := oprd2) rfl (fun KK hKK => ?_) AllReadyH.nil
      unfold oprd2
      go_simp
      refine Calls.mono (NO.out _) ?_
      rintro e w5 ⟨rfl, hb5⟩
      have bX := bX.later hb5
      refine hKK.out _ _ (⟨hHeld.1.later hb5, chain hHeld.2 hb5⟩) (fun hHeld => ?_)
      clear hKK KK hb5
      try simp only [oprd2, Act.put, List.setIfInBounds_toArray, List.set_cons_zero, List.set_cons_succ]
      refine wpAnyH_take (i := 6) (oi := oprd6) (v := ?_) rfl (by kernel_rfl) (by kernel_rfl) (by kernel_rfl) (fun _ _ _ h => h) (Or.inl ⟨by rfl, ?_⟩) (by assumption) ?_
      rotate_left
      · intro w' hSw
        exact exec_build (B8.out w') oprd6 _ rfl (by first | rfl | kernel_rfl)
      simp only [oprd6, Act.put, List.setIfInBounds_toArray, List.set_cons_zero, List.set_cons_succ]
      refine wpAnyH_ready (rs := [8]) (by kernel_rfl) (by simp) ?_
      refine AllReadyH.cons (o := oprd8) rfl (fun KK hKK => ?_) AllReadyH.nil
      rw [if_pos (by kernel_rfl)]
      obtain ⟨V9, hr9, b9, bf9⟩ := store_mark_any bX m0_ok M8'
      have hlt : w.heap.size < X := Nat.lt_of_lt_of_le ltW hx
      refine wp_store_run _ _ _ rfl _ rfl _ rfl _ hr9 ?_
      refine hKK.out _ _ (⟨hHeld.1.bf bf9 (by omega), hHeld.2.trans (bf9.below (fun g e => by omega) hHeld.2.size)⟩) (fun hHeld => ?_)
      clear hKK KK hr9
      try simp only [oprd8, Act.put]
      refine wpAnyH_done (by kernel_rfl) ?_ _
      refine NoPanic.normal ?_
      exact KEY X V9 ⟨hHeld.1, b9, hlt, hHeld.2⟩
  intro X3 V3 I3
  clear y0 b0 Y0 AL0 NO B8
  obtain ⟨W4, hW4⟩ : ∃ W, V3.drew.setCells X3 9 (bc p.m.2.2) = W := ⟨_, rfl⟩
  have C4 : Hid ((Builtin.copy_ #[54, 9] 3 #[.slice (some ⟨X3, 9, none⟩) 6 6, .string (st p.m.2.2)]).run Tryd.prog V3.drew = .ok (.int .i64 ((6 : Nat) : Int)) W4) := by
    have := copy_str V3.drew X3 9 6 6 (st p.m.2.2) 6 (by rw [sz6]; rfl) (there_digest I3.out.b.drew M8')
    rw [show (st p.m.2.2).data.toList = p.m.2.2 from rfl, tk6, hW4] at this
    exact this
  have bf4 : Bf (fun g => g = X3) V3.drew W4 := hW4 ▸ Bf.put1 _ _ _ _
  have I4 : Hid (Rd3 w X3 (mkc p.m) W4) := ⟨I3.out.a.drew.bf bf4 (by have := I3.out.c; omega), hW4 ▸ I3.out.b.drew.digest M8.a M8.b rfl, I3.out.c, I3.out.d.drew.trans (bf4.below (fun g e => by have := I3.out.c; omega) (by have := I3.out.d.size; exact this))⟩
  clear I3 bf4 hW4 M8'
  go_upto_region 4 with fail
  refine wp_region_noPanic ?_
  refine wp_region_held_drew (S := fun _ => True) (by kernel_rfl) (trivial) (fun hHeld => ?_)
  refine wpAnyH_take (i := 0) (oi := oprf0) (v := ?_) rfl (by kernel_rfl) (by kernel_rfl) (by kernel_rfl) (fun _ _ _ h => h) (Or.inl ⟨by rfl, ?_⟩) (by assumption) ?_
  rotate_left
  · intro w' hSw
    clear hSw
    unfold oprf0
    first
    | (go_simp; done)
    | (go_simp; with_reducible rfl)
  simp only [oprf0, Act.put, List.setIfInBounds_toArray, List.set_cons_zero, List.set_cons_succ]
  refine wpAnyH_take (i := 1) (oi := oprf1) (v := ?_) rfl (by kernel_rfl) (by kernel_rfl) (by kernel_rfl) (fun _ _ _ h => h) (Or.inl ⟨by rfl, ?_⟩) (by assumption) ?_
  rotate_left
  · intro w' hSw
    clear hSw
    unfold oprf1
    first
    | (go_simp; done)
    | (go_simp; with_reducible rfl)
  simp only [oprf1, Act.put, List.setIfInBounds_toArray, List.set_cons_zero, List.set_cons_succ]
  refine wpAnyH_take (i := 2) (oi := oprf2) (v := ?_) rfl (by kernel_rfl) (by kernel_rfl) (by kernel_rfl) (fun _ _ _ h => h) (Or.inl ⟨by rfl, ?_⟩) (by assumption) ?_
  rotate_left
  · intro w' hSw
    clear hSw
    unfold oprf2
    first
    | (go_simp; done)
    | (go_simp; with_reducible rfl)
  simp only [oprf2, Act.put, List.setIfInBounds_toArray, List.set_cons_zero, List.set_cons_succ]
  refine wpAnyH_take (i := 3) (oi := oprf3) (v := ?_) rfl (by kernel_rfl) (by kernel_rfl) (by kernel_rfl) (fun _ _ _ h => h) (Or.inl ⟨by rfl, ?_⟩) (by assumption) ?_
  rotate_left
  · intro w' hSw
    clear hSw
    unfold oprf3
    first
    | (go_simp; done)
    | (go_simp; with_reducible rfl)
  simp only [oprf3, Act.put, List.setIfInBounds_toArray, List.set_cons_zero, List.set_cons_succ]
  refine wpAnyH_ready (rs := [4]) (by kernel_rfl) (by simp) ?_
  refine AllReadyH.cons (o := oprf4) rfl (fun KK hKK => ?_) AllReadyH.nil
  have c4 := C4.out
  unfold oprf4
  go_simp
  refine hKK.out _ _ (trivial) (fun hHeld => ?_)
  clear hKK KK c4
  try simp only [oprf4, Act.put, List.setIfInBounds_toArray, List.set_cons_zero, List.set_cons_succ]
  refine wpAnyH_done (by kernel_rfl) ?_ _
  refine NoPanic.normal ?_
  go_upto_region 5 with fail
  refine (fun (KEY : ∀ (X : Nat) (V : World), Hid (Rd3 w X (pac p) V) → (?KB : Nat → World → Prop) X V) => ?mainB) ?keyB
  case mainB =>
    refine wp_region_noPanic ?_
    refine wp_region_held_drew (S := fun w' => Rd3 w X3 (mkc p.m) w') (by kernel_rfl) (⟨I4.out.a.drew, I4.out.b.drew, I4.out.c, I4.out.d.drew⟩) (fun hHeld => ?_)
    refine wpAnyH_take (i := 0) (oi := oprg0) (v := ?_) rfl (by kernel_rfl) (by kernel_rfl) (by kernel_rfl) (fun _ _ _ h => h) (Or.inl ⟨by rfl, ?_⟩) (by assumption) ?_
    rotate_left
    · intro w' hSw
      exact exec_load (load_mark hSw.b.r (mkc_len M8)) oprg0 _ rfl (by first | rfl | kernel_rfl)
    simp only [oprg0, Act.put, List.setIfInBounds_toArray, List.set_cons_zero, List.set_cons_succ]
    refine wpAnyH_take (i := 1) (oi := oprg1) (v := ?_) rfl (by kernel_rfl) (by kernel_rfl) (by kernel_rfl) (fun _ _ _ h => h) (Or.inl ⟨by rfl, ?_⟩) (by assumption) ?_
    rotate_left
    · intro w' hSw
      clear hSw
      unfold oprg1
      first
      | (go_simp; done)
      | (go_simp; with_reducible rfl)
    simp only [oprg1, Act.put, List.setIfInBounds_toArray, List.set_cons_zero, List.set_cons_succ]
    refine wpAnyH_take (i := 2) (oi := oprg2) (v := ?_) rfl (by kernel_rfl) (by kernel_rfl) (by kernel_rfl) (fun _ _ _ h => h) (Or.inl ⟨by rfl, ?_⟩) (by assumption) ?_
    rotate_left
    · intro w' hSw
      clear hSw
      unfold oprg2
      first
      | (go_simp; done)
      | (go_simp; with_reducible rfl)
    simp only [oprg2, Act.put, List.setIfInBounds_toArray, List.set_cons_zero, List.set_cons_succ]
    refine wpAnyH_take (i := 3) (oi := oprg3) (v := ?_) rfl (by kernel_rfl) (by kernel_rfl) (by kernel_rfl) (fun _ _ _ h => h) (Or.inl ⟨by rfl, ?_⟩) (by assumption) ?_
    rotate_left
    · intro w' hSw
      clear hSw
      unfold oprg3
      first
      | (go_simp; done)
      | (go_simp; with_reducible rfl)
    simp only [oprg3, Act.put, List.setIfInBounds_toArray, List.set_cons_zero, List.set_cons_succ]
    refine wpAnyH_take (i := 4) (oi := oprg4) (v := ?_) rfl (by kernel_rfl) (by kernel_rfl) (by kernel_rfl) (fun _ _ _ h => h) (Or.inl ⟨by rfl, ?_⟩) (by assumption) ?_
    rotate_left
    · intro w' hSw
      clear hSw
      unfold oprg4
      first
      | (go_simp; done)
      | (go_simp; with_reducible rfl)
    simp only [oprg4, Act.put, List.setIfInBounds_toArray, List.set_cons_zero, List.set_cons_succ]
    refine wpAnyH_take (i := 5) (oi := oprg5) (v := ?_) rfl (by kernel_rfl) (by kernel_rfl) (by kernel_rfl) (fun _ _ _ h => h) (Or.inl ⟨by rfl, ?_⟩) (by assumption) ?_
    rotate_left
    · intro w' hSw
      clear hSw
      unfold oprg5
      first
      | (go_simp; done)
      | (go_simp; with_reducible rfl)
    simp only [oprg5, Act.put, List.setIfInBounds_toArray, List.set_cons_zero, List.set_cons_succ]
    refine wpAnyH_take (i := 6) (oi := oprg6) (v := ?_) rfl (by kernel_rfl) (by kernel_rfl) (by kernel_rfl) (fun _ _ _ h => h) (Or.inl ⟨by rfl, ?_⟩) (by assumption) ?_
    rotate_left
    · intro w' hSw
      exact exec_build (B15.out w') oprg6 _ rfl (by first | rfl | kernel_rfl)
    simp only [oprg6, Act.put, List.setIfInBounds_toArray, List.set_cons_zero, List.set_cons_succ]
    refine wpAnyH_ready (rs := [7]) (by kernel_rfl) (by simp) ?_
    refine AllReadyH.cons (o := oprg7) rfl (fun KK hKK => ?_) AllReadyH.nil
    rw [if_pos (by kernel_rfl)]
    have ltW := hHeld.a.lt
    have ltX := hHeld.b.lt
    obtain ⟨X, V, hr, bX, hx, hbV⟩ := alloc_part_any _
    refine wp_alloc_run _ rfl _ _ hr ?_
    refine hKK.out _ _ (hHeld.later hbV) (fun hHeld => ?_)
    clear hKK KK hr
    try simp only [oprg7, Act.put, List.setIfInBounds_toArray, List.set_cons_zero, List.set_cons_succ]
    refine wpAnyH_ready (rs := [8]) (by kernel_rfl) (by simp) ?_
    refine AllReadyH.cons (o := oprg8) rfl (fun KK hKK => ?_) AllReadyH.nil
    rw [if_pos (by kernel_rfl)]
    obtain ⟨V9, hr9, b9, bf9⟩ := store_part_any bX m0_ok M8
    have hlt : w.heap.size < X := Nat.lt_of_lt_of_le ltW hx
    refine wp_store_run _ _ _ rfl _ rfl _ rfl _ hr9 ?_
    refine hKK.out _ _ (⟨hHeld.a.bf bf9 (by omega), hHeld.b.bf bf9 (by omega), hHeld.c, hHeld.d.trans (bf9.below (fun g e => by omega) hHeld.d.size)⟩) (fun hHeld => ?_)
    clear hKK KK hr9
    try simp only [oprg8, Act.put]
    refine wpAnyH_done (by kernel_rfl) ?_ _
    refine NoPanic.normal ?_
    exact KEY X V9 ⟨hHeld.a, b9, hlt, hHeld.d⟩
  intro X5 V5 I5
  clear I4 C4 B15
  have L5 : Hid (∀ V, V.heap[X5]? = V5.heap[X5]? → (Instr.loadAt 64 (.pointer (some ⟨X5, 0, none⟩))).run Tryd.prog V = .ok (.agg (pac p).toArray) V) := fun V e => load_part (rangeAt_same I5.out.b.r e) (pac_len M8)
  go_upto_region 6 with fail
  refine wp_region_lit ?_
  refine wpList_plain rfl (fun K2 hK2 => wp_load_run _ _ rfl _ rfl _ (L5.out _ rfl) (hK2 _ _ ?_))
  try simp only [Act.put, List.setIfInBounds_toArray, List.set_cons_zero, List.set_cons_succ]
  refine wpList_plain rfl (fun K2 hK2 => ?_)
  go_simp
  refine Calls.mono (MB.out _) ?_
  rintro e w6 ⟨rfl, hb6⟩
  have I6 : Hid (Rd3 w X5 (pac p) w6) := I5.out.later hb6
  clear hb6
  refine hK2 _ _ ?_
  clear hK2 K2
  try simp only [Act.put, List.setIfInBounds_toArray, List.set_cons_zero, List.set_cons_succ]
  refine wpList_plain rfl (fun K2 hK2 => ?_)
  go_simp
  refine hK2 _ _ ?_
  clear hK2 K2
  refine wpList_nil ?_
  try simp only [Act.put, List.setIfInBounds_toArray, List.set_cons_zero, List.set_cons_succ]
  clear hM
  cases M with
  | true =>
    have ER := RV.out
    rw [if_pos rfl] at ER
    obtain ⟨V9, hr9, z9, bf9⟩ := store_part_any I6.out.a m0_ok M8
    have L6 : Hid ((Instr.loadAt 64 (.pointer (some ⟨X5, 0, none⟩))).run Tryd.prog w6 = .ok (.agg (pac p).toArray) w6) := load_part I6.out.b.r (pac_len M8)
    have ST9 : Hid _ := hr9
    have F9 : Hid (Blk V9 w.heap.size (pac p) ∧ Below w.heap.size w V9) := ⟨z9, I6.out.d.trans (bf9.below (fun g e => by omega) I6.out.d.size)⟩
    have lp : Hid ((pac p).length = 17) := pac_len M8
    subst ER
    clear RV L5 hr9 z9 bf9 I6 I5 BU MB M8 E8' E10' E16' x8 x9 l8 l9
    go_upto_region 8 with fail
    refine wp_region_lit ?_
    refine wpList_plain rfl (fun K2 hK2 => wp_load_run _ _ rfl _ rfl _ (L6.out) (hK2 _ _ ?_))
    try simp only [Act.put, List.setIfInBounds_toArray, List.set_cons_zero, List.set_cons_succ]
    refine wpList_plain rfl (fun K2 hK2 => wp_store_run _ _ _ rfl _ rfl _ rfl _ (ST9.out) (hK2 _ _ ?_))
    try simp only [Act.put]
    refine wpList_plain rfl (fun K2 hK2 => ?_)
    go_simp
    refine hK2 _ _ ?_
    clear hK2 K2
    refine wpList_nil ?_
    try simp only [Act.put, List.setIfInBounds_toArray, List.set_cons_zero, List.set_cons_succ]
    go_wp2
    refine bodyPost_ret (v := .tuple #[.agg (pac p).toArray, .int .i64 0]) ?_ rfl ⟨rfl, F9.out.2⟩
    exact res_c2 Tryd.results25 _ _ w.heap.size _ _ (by kernel_rfl) (by kernel_rfl) (run_loadVar_mid _ w.heap.size 0 64 (pac p) _ F9.out.1.r Tryd.underlying64 rfl (by rw [lp.out]; exact sizePart))
  | false =>
    have ER := RV.out
    rw [if_neg (by decide)] at ER
    obtain ⟨V9, hr9, z9, bf9⟩ := store_part_any I6.out.a m0_ok (p' := p0) m0_ok
    have ST9 : Hid _ := hr9
    have F9 : Hid (Blk V9 w.heap.size (pac p0) ∧ Below w.heap.size w V9) := ⟨z9, I6.out.d.trans (bf9.below (fun g e => by omega) I6.out.d.size)⟩
    subst ER
    clear RV L5 hr9 z9 bf9 I6 I5 MB M8 E8' E10' E16' x8 x9 l8 l9
    go_upto_region 7 with fail
    refine wp_region_lit ?_
    refine wpList_plain rfl (fun K2 hK2 => wp_build_run _ _ rfl #[] (by first | rfl | kernel_rfl) _ (BU.out _) (hK2 _ _ ?_))
    try simp only [Act.put, List.setIfInBounds_toArray, List.set_cons_zero, List.set_cons_succ]
    refine wpList_plain rfl (fun K2 hK2 => wp_store_run _ _ _ rfl _ rfl _ rfl _ (ST9.out) (hK2 _ _ ?_))
    try simp only [Act.put]
    refine wpList_plain rfl (fun K2 hK2 => ?_)
    go_simp
    refine hK2 _ _ ?_
    clear hK2 K2
    refine wpList_nil ?_
    try simp only [Act.put, List.setIfInBounds_toArray, List.set_cons_zero, List.set_cons_succ]
    go_wp2
    refine bodyPost_ret (v := .tuple #[.agg (pac p0).toArray, .int .i64 220]) ?_ rfl ⟨rfl, F9.out.2⟩
    exact res_c2 Tryd.results25 _ _ w.heap.size _ _ (by kernel_rfl) (by kernel_rfl) (run_loadVar_mid _ w.heap.size 0 64 (pac p0) _ F9.out.1.r Tryd.underlying64 rfl (by rw [pac_len m0_ok]; exact sizePart))
end Go.Proofs.YtdepjiocmbbdpaaDoor
