/- law18: the entries behind one thing more. -/
import Derived.Test.YtjpaodepnacimaaGreatDoorZbG33
import Derived.Test.YtjpaodepnacimaaGreatDoorZbG34
namespace Go.Proofs.YtjpaodepnacimaaGreatDoor
open Go.RowKit Go.Proofs.Fd Go.Proofs.Dk Go.Proofs.Lg Go.Proofs.Bx
set_option maxRecDepth 20000
def Okv (w : World) (y : Value) (l : List Sl) : Prop := ∃ a c, y = .slice a l.length c ∧ Sli w a l.length c l
theorem Ok3.okv {C : Nat} {w : World} {y : Value} {l : List Sl} (h : Ok3 C w y l) : Okv w y l := by
  obtain ⟨a, c, e, s, -⟩ := h
  exact ⟨a, c, e, s⟩
theorem Okv.one {w : World} {y : Value} {l : List Sl} (h : Okv w y l) : y.oneCell' = true := by
  obtain ⟨a, c, rfl, -⟩ := h
  rfl
theorem owns_one {w : World} {base : Nat} {y : Value} {n : Nat} {xs : List Value} (h : w.ownsRow base 58 2 y n xs) : y.oneCell' = true := by
  rcases h.2 with ⟨rfl, -⟩ | ⟨g, cap, cur, rfl, -⟩ <;> rfl
theorem own_low {w : World} {base base' : Nat} {y : Value} {n : Nat} {xs : List Value} (h : w.ownsRow base 58 2 y n xs) (hb : base' ≤ base) : w.ownsRow base' 58 2 y n xs := by
  refine ⟨h.1, ?_⟩
  rcases h.2 with h2 | ⟨g, cap, cur, rfl, hg, hh⟩
  · exact .inl h2
  · exact .inr ⟨g, cap, cur, rfl, Nat.le_trans hb hg, hh⟩
theorem then_end {wr : World} {A R who : Nat} {v0 v1 v2 y : Value} (hA : Blk wr A [v0, v1, v2]) (hR : Blk wr R z3) (ne : A ≠ R) (hw : who < 3) (o0 : v0.oneCell' = true) (o1 : v1.oneCell' = true) (o2 : v2.oneCell' = true) (oy : y.oneCell' = true) {r : World} (hr : wr.setCell ⟨A, who, none⟩ y = r) :
    (Instr.loadAt 54 (.pointer (some ⟨A, 0, none⟩))).run Tryz.prog r = .ok (.agg ([v0, v1, v2].set who y).toArray) r ∧ (Instr.storeAt 54 (.pointer (some ⟨R, 0, none⟩)) (.agg ([v0, v1, v2].set who y).toArray)).run Tryz.prog r = .ok () (r.setCells R 0 ([v0, v1, v2].set who y)) ∧ (loadVar 54 ⟨R, 0, none⟩).run Tryz.prog (r.setCells R 0 ([v0, v1, v2].set who y)) = .ok (.agg ([v0, v1, v2].set who y).toArray) (r.setCells R 0 ([v0, v1, v2].set who y)) := by
  subst hr
  have hl : ([v0, v1, v2].set who y).length = 3 := by simp
  have one : ∀ v ∈ [v0, v1, v2].set who y, v.oneCell' = true := fun v hv => by
    rcases List.mem_or_eq_of_mem_set hv with h | h
    · simp at h
      rcases h with rfl | rfl | rfl <;> assumption
    · rw [h]; exact oy
  have kA := hA.set who (show who < 3 from hw) y
  have kR : Blk (wr.setCell ⟨A, who, none⟩ y) R z3 := hR.bf (Bf.set (fun z => z = A) wr A who y rfl) (fun e => ne e.symm)
  refine ⟨run_loadAt_mid (P := Tryz.prog) _ A 0 54 ([v0, v1, v2].set who y) _ kA.r Tryz.underlying54 rfl (by rw [hl]; exact size3), ?_, ?_⟩
  · exact run_storeAt_mid (P := Tryz.prog) _ R 0 54 ([v0, v1, v2].set who y).toArray (by rw [List.size_toArray, hl]; exact kR.there) (by rw [List.size_toArray, hl]; exact size3) (all_oneCell_toArray one)
  · exact run_loadVar_mid (P := Tryz.prog) _ R 0 54 ([v0, v1, v2].set who y) _ (kR.put _ (by rw [hl]; rfl)).r Tryz.underlying54 rfl (by rw [hl]; exact size3)
def thn (away : Bool) (i t : Bs) (l : List Sl) : List Sl := if away then l.filter (fun e => !decide (e.1 = i)) else l ++ [(i, t)]
theorem owns_bfX {w w' : World} {base : Nat} {y : Value} {n : Nat} {xs : List Value} (h : w.ownsRow base 58 2 y n xs) {F : Nat → Prop} (hb : Bf F w w') (hF : ∀ g, y.ownBlock = some g → ¬ F g) : w'.ownsRow base 58 2 y n xs := by
  refine ⟨h.1, ?_⟩
  rcases h.2 with h2 | ⟨g, cap, cur, rfl, hg, hh, hr⟩
  · exact .inl h2
  · exact .inr ⟨g, cap, cur, rfl, hg, (hb.block g (Array.getElem?_eq_some_iff.1 hh).1 (hF g rfl)).trans hh, hr⟩
def opth0 : Oper := { dst := some 20, op := Go.Op.fieldAddr 56 (Go.Operand.tmp 3) 2, type := 0, pos := "theorems.go:69", after := #[], guard := none }
def opth1 : Oper := { dst := some 21, op := Go.Op.load 4 (Go.Operand.tmp 20), type := 4, pos := "theorems.go:69", after := #[{ on := 0, ground := Go.Ground.data }], guard := none }
def opth2 : Oper := { dst := some 22, op := Go.Op.unOp Go.UnOp.not 4 (Go.Operand.tmp 21), type := 4, pos := "theorems.go:69", after := #[{ on := 1, ground := Go.Ground.data }], guard := none }
def opth3 : Oper := { dst := some 23, op := Go.Op.move (Go.Operand.tmp 22), type := 4, pos := "theorems.go:69", after := #[{ on := 2, ground := Go.Ground.data }], guard := none }
def opth4 : Oper := { dst := some 24, op := Go.Op.fieldAddr 58 (Go.Operand.tmp 8) 0, type := 0, pos := "theorems.go:69", after := #[{ on := 3, ground := Go.Ground.guard }], guard := some (3, false) }
def opth5 : Oper := { dst := some 25, op := Go.Op.load 9 (Go.Operand.tmp 24), type := 9, pos := "theorems.go:69", after := #[{ on := 4, ground := Go.Ground.data }, { on := 3, ground := Go.Ground.guard }], guard := some (3, false) }
def opth6 : Oper := { dst := some 26, op := Go.Op.fieldAddr 56 (Go.Operand.tmp 3) 1, type := 0, pos := "theorems.go:69", after := #[{ on := 3, ground := Go.Ground.guard }], guard := some (3, false) }
def opth7 : Oper := { dst := some 27, op := Go.Op.load 3 (Go.Operand.tmp 26), type := 3, pos := "theorems.go:69", after := #[{ on := 6, ground := Go.Ground.data }, { on := 3, ground := Go.Ground.guard }], guard := some (3, false) }
def opth8 : Oper := { dst := some 28, op := Go.Op.call { callee := Go.Callee.value (Go.Operand.func 16), args := #[Go.Operand.tmp 27], argTypes := #[3] }, type := 9, pos := "theorems.go:69", after := #[{ on := 7, ground := Go.Ground.data }, { on := 3, ground := Go.Ground.chain }, { on := 3, ground := Go.Ground.guard }], guard := some (3, false) }
def opth9 : Oper := { dst := some 29, op := Go.Op.binOp Go.BinOp.neq 9 (Go.Operand.tmp 25) (Go.Operand.tmp 28) 9, type := 4, pos := "theorems.go:69", after := #[{ on := 5, ground := Go.Ground.data }, { on := 8, ground := Go.Ground.data }, { on := 3, ground := Go.Ground.guard }], guard := some (3, false) }
def opth10 : Oper := { dst := some 30, op := Go.Op.pick (Go.Operand.tmp 23) (Go.Operand.const (Go.Value.bool true)) (Go.Operand.tmp 29), type := 4, pos := "theorems.go:69", after := #[{ on := 3, ground := Go.Ground.data }, { on := 9, ground := Go.Ground.data }], guard := none }
def opti0 : Oper := { dst := some 39, op := Go.Op.move (Go.Operand.tmp 6), type := 45, pos := "theorems.go:74", after := #[], guard := none }
def opti1 : Oper := { dst := some 40, op := Go.Op.fieldAddr 56 (Go.Operand.tmp 3) 1, type := 0, pos := "theorems.go:74", after := #[], guard := none }
def opti2 : Oper := { dst := some 41, op := Go.Op.load 3 (Go.Operand.tmp 40), type := 3, pos := "theorems.go:74", after := #[{ on := 1, ground := Go.Ground.data }], guard := none }
def opti3 : Oper := { dst := some 42, op := Go.Op.call { callee := Go.Callee.value (Go.Operand.func 16), args := #[Go.Operand.tmp 41], argTypes := #[3] }, type := 9, pos := "theorems.go:74", after := #[{ on := 2, ground := Go.Ground.data }], guard := none }
def opti4 : Oper := { dst := some 43, op := Go.Op.fieldAddr 56 (Go.Operand.tmp 3) 3, type := 0, pos := "theorems.go:74", after := #[], guard := none }
def opti5 : Oper := { dst := some 44, op := Go.Op.load 9 (Go.Operand.tmp 43), type := 9, pos := "theorems.go:74", after := #[{ on := 4, ground := Go.Ground.data }], guard := none }
def opti6 : Oper := { dst := some 45, op := Go.Op.build 58 #[(0, Go.Operand.tmp 42), (1, Go.Operand.tmp 44)], type := 58, pos := "theorems.go:74", after := #[{ on := 3, ground := Go.Ground.data }, { on := 5, ground := Go.Ground.data }], guard := none }
def opti7 : Oper := { dst := some 46, op := Go.Op.buildSlice 45 1 #[(0, Go.Operand.tmp 45)], type := 45, pos := "theorems.go:74", after := #[{ on := 6, ground := Go.Ground.data }], guard := none }
def opti8 : Oper := { dst := some 47, op := Go.Op.call { callee := Go.Callee.builtin Go.Builtin.append, args := #[Go.Operand.tmp 39, Go.Operand.tmp 46], argTypes := #[45, 45] }, type := 45, pos := "theorems.go:74", after := #[{ on := 0, ground := Go.Ground.data }, { on := 7, ground := Go.Ground.data }, { on := 3, ground := Go.Ground.chain }], guard := none }
def opti9 : Oper := { dst := some 6, op := Go.Op.assign (Go.Operand.tmp 47), type := 45, pos := "theorems.go:74", after := #[{ on := 8, ground := Go.Ground.data }, { on := 8, ground := Go.Ground.chain }, { on := 0, ground := Go.Ground.phase }, { on := 1, ground := Go.Ground.phase }, { on := 2, ground := Go.Ground.phase }, { on := 3, ground := Go.Ground.phase }, { on := 4, ground := Go.Ground.phase }, { on := 5, ground := Go.Ground.phase }, { on := 6, ground := Go.Ground.phase }, { on := 7, ground := Go.Ground.phase }, { on := 8, ground := Go.Ground.phase }], guard := none }
set_option maxHeartbeats 8000000 in
theorem xthen_ack (who m : Nat) (i0 i1 : Int) (T : ByteArray) (x0 x1 x2 : Option Addr) (n0 n1 n2 c0 c1 c2 : Nat) (a : Option Addr) (n c : Nat) (l : List Sl) (hw : who < 3) (hn : l.length = n) (hn2 : n ≤ 1000) (hsel : ([.slice x0 n0 c0, .slice x1 n1 c1, .slice x2 n2 c2] : List Value)[who]? = some (.slice a n c)) (W : World) (hat : SlAt W a l)
    (AM : Hid (∀ w, Calls Tryz.prog 14 #[.int .i64 i0, .int .i64 3] w fun e w' => e = .returned (.int .i64 (who : Int)) ∧ w' = w))
    (ID : Hid (∀ w, Calls Tryz.prog 16 #[.int .i64 i1] w fun e w' => e = .returned (.string (st (xid m))) ∧ Below w.heap.size w w')) :
    Calls Tryz.prog 18 #[.agg #[.slice x0 n0 c0, .slice x1 n1 c1, .slice x2 n2 c2], .agg #[.int .i64 i0, .int .i64 i1, .bool true, .string T]] W fun e w' => ∃ y, e = .returned (.agg (([.slice x0 n0 c0, .slice x1 n1 c1, .slice x2 n2 c2] : List Value).set who y).toArray) ∧ w'.ownsRow W.heap.size 58 2 y (thn true (xid m) T.data.toList l).length (scx (thn true (xid m) T.data.toList l)) ∧ Below W.heap.size W w' := by
  have e1 : (W.alloc (.cells #[.slice x0 n0 c0, .slice x1 n1 c1, .slice x2 n2 c2] 54)).heap.size = W.heap.size + 1 := by simp
  have e2 : ((W.alloc (.cells #[.slice x0 n0 c0, .slice x1 n1 c1, .slice x2 n2 c2] 54)).alloc (.cells #[.int .i64 i0, .int .i64 i1, .bool true, .string T] 56)).heap.size = W.heap.size + 2 := by simp
  have b1 := nb W (.cells #[.slice x0 n0 c0, .slice x1 n1 c1, .slice x2 n2 c2] 54)
  have b2 := nb (W.alloc (.cells #[.slice x0 n0 c0, .slice x1 n1 c1, .slice x2 n2 c2] 54)) (.cells #[.int .i64 i0, .int .i64 i1, .bool true, .string T] 56)
  have b3 := nb ((W.alloc (.cells #[.slice x0 n0 c0, .slice x1 n1 c1, .slice x2 n2 c2] 54)).alloc (.cells #[.int .i64 i0, .int .i64 i1, .bool true, .string T] 56)) (.cells #[.slice none 0 0, .slice none 0 0, .slice none 0 0] 54)
  have BZ : Hid (Below W.heap.size W (((W.alloc (.cells #[.slice x0 n0 c0, .slice x1 n1 c1, .slice x2 n2 c2] 54)).alloc (.cells #[.int .i64 i0, .int .i64 i1, .bool true, .string T] 56)).alloc (.cells #[.slice none 0 0, .slice none 0 0, .slice none 0 0] 54))) := chain b1 (chain b2 b3)
  have KA : Blk (((W.alloc (.cells #[.slice x0 n0 c0, .slice x1 n1 c1, .slice x2 n2 c2] 54)).alloc (.cells #[.int .i64 i0, .int .i64 i1, .bool true, .string T] 56)).alloc (.cells #[.slice none 0 0, .slice none 0 0, .slice none 0 0] 54)) W.heap.size [.slice x0 n0 c0, .slice x1 n1 c1, .slice x2 n2 c2] := ((Blk.new W [.slice x0 n0 c0, .slice x1 n1 c1, .slice x2 n2 c2] 54 (by simp)).later b2).later b3
  have KD : Blk (((W.alloc (.cells #[.slice x0 n0 c0, .slice x1 n1 c1, .slice x2 n2 c2] 54)).alloc (.cells #[.int .i64 i0, .int .i64 i1, .bool true, .string T] 56)).alloc (.cells #[.slice none 0 0, .slice none 0 0, .slice none 0 0] 54)) (W.heap.size + 1) [.int .i64 i0, .int .i64 i1, .bool true, .string T] := by
    have := (Blk.new (W.alloc (.cells #[.slice x0 n0 c0, .slice x1 n1 c1, .slice x2 n2 c2] 54)) [.int .i64 i0, .int .i64 i1, .bool true, .string T] 56 (by simp)).later b3
    rw [e1] at this
    exact this
  have KR : Blk (((W.alloc (.cells #[.slice x0 n0 c0, .slice x1 n1 c1, .slice x2 n2 c2] 54)).alloc (.cells #[.int .i64 i0, .int .i64 i1, .bool true, .string T] 56)).alloc (.cells #[.slice none 0 0, .slice none 0 0, .slice none 0 0] 54)) (W.heap.size + 2) z3 := by
    have := Blk.new ((W.alloc (.cells #[.slice x0 n0 c0, .slice x1 n1 c1, .slice x2 n2 c2] 54)).alloc (.cells #[.int .i64 i0, .int .i64 i1, .bool true, .string T] 56)) z3 54 (by unfold z3; simp)
    rw [e2] at this
    exact this
  have SZ : SlAt (((W.alloc (.cells #[.slice x0 n0 c0, .slice x1 n1 c1, .slice x2 n2 c2] 54)).alloc (.cells #[.int .i64 i0, .int .i64 i1, .bool true, .string T] 56)).alloc (.cells #[.slice none 0 0, .slice none 0 0, .slice none 0 0] 54)) a l := hat.later BZ.out
  have KZ : (((W.alloc (.cells #[.slice x0 n0 c0, .slice x1 n1 c1, .slice x2 n2 c2] 54)).alloc (.cells #[.int .i64 i0, .int .i64 i1, .bool true, .string T] 56)).alloc (.cells #[.slice none 0 0, .slice none 0 0, .slice none 0 0] 54)).heap.size = W.heap.size + 3 := by simp
  clear b1 b2 b3 e1 e2 hat
  obtain ⟨A, hA⟩ : ∃ A, W.heap.size = A := ⟨_, rfl⟩
  obtain ⟨D, hD⟩ : ∃ D, A + 1 = D := ⟨_, rfl⟩
  obtain ⟨R, hR0⟩ : ∃ R, D + 1 = R := ⟨_, rfl⟩
  have hR : A + 2 = R := by omega
  have NE : Hid (A ≠ R) := (by omega : A ≠ R)
  have FIN : Hid (∀ w' y k, Below (((W.alloc (.cells #[.slice x0 n0 c0, .slice x1 n1 c1, .slice x2 n2 c2] 54)).alloc (.cells #[.int .i64 i0, .int .i64 i1, .bool true, .string T] 56)).alloc (.cells #[.slice none 0 0, .slice none 0 0, .slice none 0 0] 54)).heap.size (((W.alloc (.cells #[.slice x0 n0 c0, .slice x1 n1 c1, .slice x2 n2 c2] 54)).alloc (.cells #[.int .i64 i0, .int .i64 i1, .bool true, .string T] 56)).alloc (.cells #[.slice none 0 0, .slice none 0 0, .slice none 0 0] 54)) w' → w'.ownsRow (((W.alloc (.cells #[.slice x0 n0 c0, .slice x1 n1 c1, .slice x2 n2 c2] 54)).alloc (.cells #[.int .i64 i0, .int .i64 i1, .bool true, .string T] 56)).alloc (.cells #[.slice none 0 0, .slice none 0 0, .slice none 0 0] 54)).heap.size 58 2 y k.length (scx k) → k = (thn true (xid m) T.data.toList l) → ∃ r, w'.setCell ⟨A, who, none⟩ y = r ∧ (Instr.loadAt 54 (.pointer (some ⟨A, 0, none⟩))).run Tryz.prog r = .ok (.agg (([.slice x0 n0 c0, .slice x1 n1 c1, .slice x2 n2 c2] : List Value).set who y).toArray) r ∧ (Instr.storeAt 54 (.pointer (some ⟨R, 0, none⟩)) (.agg (([.slice x0 n0 c0, .slice x1 n1 c1, .slice x2 n2 c2] : List Value).set who y).toArray)).run Tryz.prog r = .ok () (r.setCells R 0 (([.slice x0 n0 c0, .slice x1 n1 c1, .slice x2 n2 c2] : List Value).set who y)) ∧ Hid ((loadVar 54 ⟨R, 0, none⟩).run Tryz.prog (r.setCells R 0 (([.slice x0 n0 c0, .slice x1 n1 c1, .slice x2 n2 c2] : List Value).set who y)) = .ok (.agg (([.slice x0 n0 c0, .slice x1 n1 c1, .slice x2 n2 c2] : List Value).set who y).toArray) (r.setCells R 0 (([.slice x0 n0 c0, .slice x1 n1 c1, .slice x2 n2 c2] : List Value).set who y)) ∧ (r.setCells R 0 (([.slice x0 n0 c0, .slice x1 n1 c1, .slice x2 n2 c2] : List Value).set who y)).ownsRow A 58 2 y (thn true (xid m) T.data.toList l).length (scx (thn true (xid m) T.data.toList l)) ∧ Below A W (r.setCells R 0 (([.slice x0 n0 c0, .slice x1 n1 c1, .slice x2 n2 c2] : List Value).set who y))) ∧ w'.cell? ⟨A, who, none⟩ = some (.slice a n c) ∧ w'.frozen? ⟨A, who, none⟩ = false) := fun w' y k hb ho hk => by
    subst hk
    have lA : W.heap.size < (((W.alloc (.cells #[.slice x0 n0 c0, .slice x1 n1 c1, .slice x2 n2 c2] 54)).alloc (.cells #[.int .i64 i0, .int .i64 i1, .bool true, .string T] 56)).alloc (.cells #[.slice none 0 0, .slice none 0 0, .slice none 0 0] 54)).heap.size := by rw [KZ]; omega
    have lR : W.heap.size + 2 < (((W.alloc (.cells #[.slice x0 n0 c0, .slice x1 n1 c1, .slice x2 n2 c2] 54)).alloc (.cells #[.int .i64 i0, .int .i64 i1, .bool true, .string T] 56)).alloc (.cells #[.slice none 0 0, .slice none 0 0, .slice none 0 0] 54)).heap.size := by rw [KZ]; omega
    have ka := KA.later hb
    have kr := KR.later hb
    rw [hA] at ka lA
    rw [hA, hR] at kr lR
    obtain ⟨h1, h2, h3⟩ := then_end ka kr NE.out hw rfl rfl rfl (owns_one ho) rfl
    have s1 : Bf (fun z => z = A) w' (w'.setCell ⟨A, who, none⟩ y) := Bf.set (fun z => z = A) w' A who y rfl
    have s2 : Bf (fun z => z = R) (w'.setCell ⟨A, who, none⟩ y) ((w'.setCell ⟨A, who, none⟩ y).setCells R 0 (([.slice x0 n0 c0, .slice x1 n1 c1, .slice x2 n2 c2] : List Value).set who y)) := Bf.sets (fun z => z = R) R rfl _ 0 _
    have o2 : ((w'.setCell ⟨A, who, none⟩ y).setCells R 0 (([.slice x0 n0 c0, .slice x1 n1 c1, .slice x2 n2 c2] : List Value).set who y)).ownsRow (((W.alloc (.cells #[.slice x0 n0 c0, .slice x1 n1 c1, .slice x2 n2 c2] 54)).alloc (.cells #[.int .i64 i0, .int .i64 i1, .bool true, .string T] 56)).alloc (.cells #[.slice none 0 0, .slice none 0 0, .slice none 0 0] 54)).heap.size 58 2 y (thn true (xid m) T.data.toList l).length (scx (thn true (xid m) T.data.toList l)) := by
      refine owns_bfX (owns_bfX ho s1 (fun g hg e => ?_)) s2 (fun g hg e => ?_)
      · have := (ho.lt g hg).1
        omega
      · have := (ho.lt g hg).1
        omega
    refine ⟨_, rfl, h1, h2, ⟨h3, own_low o2 (by rw [KZ]; omega), ?_⟩, ka.c who _ hsel, ka.f who⟩
    have := BZ.out
    rw [hA] at this
    exact below_sets (by omega) _ 0 (((this.trans (hb.mono (by rw [← hA]; exact BZ.out.size)))).setCell (p := ⟨A, who, none⟩) (by show _ ≤ A; exact Nat.le_refl _) y)
  have CA : Hid (∀ V, Below (((W.alloc (.cells #[.slice x0 n0 c0, .slice x1 n1 c1, .slice x2 n2 c2] 54)).alloc (.cells #[.int .i64 i0, .int .i64 i1, .bool true, .string T] 56)).alloc (.cells #[.slice none 0 0, .slice none 0 0, .slice none 0 0] 54)).heap.size (((W.alloc (.cells #[.slice x0 n0 c0, .slice x1 n1 c1, .slice x2 n2 c2] 54)).alloc (.cells #[.int .i64 i0, .int .i64 i1, .bool true, .string T] 56)).alloc (.cells #[.slice none 0 0, .slice none 0 0, .slice none 0 0] 54)) V → V.cell? ⟨A, who, none⟩ = some (.slice a n c) ∧ V.cell? ⟨D, 0, none⟩ = some (.int .i64 i0) ∧ V.cell? ⟨D, 1, none⟩ = some (.int .i64 i1) ∧ V.cell? ⟨D, 2, none⟩ = some (.bool true) ∧ V.cell? ⟨D, 3, none⟩ = some (.string T)) := fun V h => by
    have ka := KA.later h
    have kd := KD.later h
    rw [hA] at ka
    rw [hA, hD] at kd
    exact ⟨ka.c who _ hsel, kd.c 0 _ rfl, kd.c 1 _ rfl, kd.c 2 _ rfl, kd.c 3 _ rfl⟩
  have SA : Hid (∀ V, Below (((W.alloc (.cells #[.slice x0 n0 c0, .slice x1 n1 c1, .slice x2 n2 c2] 54)).alloc (.cells #[.int .i64 i0, .int .i64 i1, .bool true, .string T] 56)).alloc (.cells #[.slice none 0 0, .slice none 0 0, .slice none 0 0] 54)).heap.size (((W.alloc (.cells #[.slice x0 n0 c0, .slice x1 n1 c1, .slice x2 n2 c2] 54)).alloc (.cells #[.int .i64 i0, .int .i64 i1, .bool true, .string T] 56)).alloc (.cells #[.slice none 0 0, .slice none 0 0, .slice none 0 0] 54)) V → SlAt V a l) := fun V h => SZ.later h
  have HN : Hid (l.length = n) := hn
  have EQ : Hid (W.heap.size = A) := hA
  clear KA KD KR SZ KZ hsel hn BZ hR
  go_enter Tryz.func18, Tryz.ntmps18
  go_upto_region 1 with fail
  obtain ⟨Z, hZ⟩ : ∃ Z, (((W.alloc (.cells #[.slice x0 n0 c0, .slice x1 n1 c1, .slice x2 n2 c2] 54)).alloc (.cells #[.int .i64 i0, .int .i64 i1, .bool true, .string T] 56)).alloc (.cells #[.slice none 0 0, .slice none 0 0, .slice none 0 0] 54)) = Z := ⟨_, rfl⟩
  rw [hZ] at CA SA FIN ⊢
  clear hZ hA hD hR0
  obtain ⟨k0, k1, k2, k3, k4⟩ := CA.out Z (Below.refl _ _)
  go_wp2_with fail
  refine Calls.mono (AM.out _) ?_
  rintro e w1 ⟨rfl, hw1⟩
  subst hw1
  clear AM
  have g0 : (0 : Int) ≤ (who : Int) := by omega
  have g3 : (who : Int) < 3 := by omega
  go_wp2_with fail
  clear k0 k1 k2 k3 k4
  go_loopw [6, 16] (fun y i wr => ∃ k : Nat, k ≤ n ∧ i = .int .i64 (k : Int) ∧ Hid (wr.ownsRow w1.heap.size 58 2 y ((l.take k).filter fun e => !decide (e.1 = xid m)).length (scx ((l.take k).filter fun e => !decide (e.1 = xid m))) ∧ Below w1.heap.size w1 wr)) (fun _ i _ => n - (intOf i).toNat)
  case atStart => exact ⟨0, Nat.zero_le _, rfl, (by rw [List.take_zero]; exact World.ownsRow_nil _ _ _ _), Below.refl _ _⟩
  case round =>
    obtain ⟨k, hk, rfl, J⟩ := hrel
    by_cases hlt : k < n
    · have hkl : k < l.length := by rw [HN.out]; exact hlt
      have g1 : (k : Int) < (n : Int) := by omega
      obtain ⟨b1, o1, rfl, d0, d1⟩ := SA.out _ J.out.2 k hkl
      have ET : Hid (l.take (k + 1) = l.take k ++ [l[k]]) := List.take_succ_eq_append_getElem hkl
      obtain ⟨el, hel⟩ : ∃ e, l[k] = e := ⟨_, rfl⟩
      rw [hel] at d0 d1 ET
      obtain ⟨ei, et⟩ := el
      clear hel
      have LC : Hid ((l.take k).length ≤ 1000) := by show _ ≤ _; rw [List.length_take]; omega
      obtain ⟨S0, hS0⟩ : ∃ S, wr.heap.size = S := ⟨_, rfl⟩
      obtain ⟨V, hV⟩ : ∃ V, wr.alloc (.cells #[.string (st ei), .string (st et)] 58) = V := ⟨_, rfl⟩
      have BV : Hid (Below w1.heap.size w1 V.drew) := by rw [← hV]; exact (J.out.2.alloc J.out.2.size _).drew
      have NV : Hid (Below wr.heap.size wr V.drew) := by rw [← hV]; exact (nb wr _).drew
      have s0 : V.drew.cell? ⟨S0, 0, none⟩ = some (.string (st ei)) := by rw [← hV, ← hS0]; show (wr.alloc _).cell? _ = _; rw [World.cell?_alloc_new]; rfl
      have s1 : V.drew.cell? ⟨S0, 1, none⟩ = some (.string (st et)) := by rw [← hV, ← hS0]; show (wr.alloc _).cell? _ = _; rw [World.cell?_alloc_new]; rfl
      obtain ⟨-, -, f1, f2, -⟩ := CA.out V.drew BV.out
      have OWN : Hid (∀ V2, Below wr.heap.size wr V2 → ∃ v' W2, (Builtin.append_ #[45, 45] 45 #[u6, .slice (some ⟨V2.heap.size, 0, none⟩) 1 1]).run Tryz.prog (V2.alloc (.cells #[.string (st ei), .string (st et)] 58)) = .ok v' W2 ∧ Hid (W2.ownsRow w1.heap.size 58 2 v' (((l.take k).filter fun e => !decide (e.1 = xid m)) ++ [(ei, et)]).length (scx (((l.take k).filter fun e => !decide (e.1 = xid m)) ++ [(ei, et)])) ∧ Below w1.heap.size w1 W2)) := fun V2 hb => by
        have ow := owns_laterX J.out.1 hb
        have z1 := J.out.2.size
        have z2 := hb.size
        obtain ⟨v', W2, r1, r2, r3, -⟩ := app_slot1 w1.heap.size V2 45 u6 _ ow (by omega) (by have := LC.out; have := List.length_filter_le (fun e : Sl => !decide (e.1 = xid m)) (l.take k); omega) (ei, et)
        exact ⟨v', W2, r1, r2, (J.out.2.trans (hb.mono z1)).trans r3⟩
      have STAY : Hid (∀ V2, Below wr.heap.size wr V2 → V2.ownsRow w1.heap.size 58 2 u6 ((l.take k).filter fun e => !decide (e.1 = xid m)).length (scx ((l.take k).filter fun e => !decide (e.1 = xid m))) ∧ Below w1.heap.size w1 V2) := fun V2 hb => ⟨owns_laterX J.out.1 hb, J.out.2.trans (hb.mono J.out.2.size)⟩
      clear J
      unfold sv at d0 d1
      by_cases he : ei = xid m
      · have YY : Hid ((((l.take (k + 1)).filter fun e => !decide (e.1 = xid m))) = ((l.take k).filter fun e => !decide (e.1 = xid m))) := by
          show _ = _
          rw [ET.out, List.filter_append, List.filter_cons, if_neg (by simp [he]), List.filter_nil, List.append_nil]
        subst he
        have QQ : ((st (xid m)).toList == (st (xid m)).toList) = true := by simp
        obtain ⟨I, hI⟩ : ∃ I, st (xid m) = I := ⟨_, rfl⟩
        rw [hI] at ID d0 s0 hV QQ
        go_upto_region 6 with fail
        skip
        clear hV hS0 hI OWN
        go_region_held3 (fun w' => w'.cell? ⟨S0, 0, none⟩ = some (.string I) ∧ w'.cell? ⟨D, 1, none⟩ = some (.int .i64 i1) ∧ w'.cell? ⟨D, 2, none⟩ = some (.bool true) ∧ Below wr.heap.size wr w') (first | exact ⟨s0, f1, f2, NV.out⟩ | assumption | exact ⟨cell_later (by assumption) s0, cell_later (by assumption) f1, cell_later (by assumption) f2, chain NV.out (by assumption)⟩) (first | (go_at_call 16; refine Calls.mono (ID.out _) ?_; rintro e w3 ⟨rfl, hb3⟩))
        have F2 : Hid _ := STAY.out _ (chain NV.out hb3)
        clear STAY BV NV f1 f2 s0 s1 hb3
        go_wp2
        go_roundw
        case rel => exact ⟨k + 1, by omega, by go_num, (by rw [YY.out]; exact F2.out.1), F2.out.2⟩
        case measure => simp [intOf]; omega
      · have YY : Hid ((((l.take (k + 1)).filter fun e => !decide (e.1 = xid m))) = ((l.take k).filter fun e => !decide (e.1 = xid m)) ++ [(ei, et)]) := by
          show _ = _
          rw [ET.out, List.filter_append, List.filter_cons, if_pos (by simp [he]), List.filter_nil]
        have QQ : ((st ei).toList == (st (xid m)).toList) = false := st_ne (a := st ei) (b := st (xid m)) he
        obtain ⟨I, hI⟩ : ∃ I, st (xid m) = I := ⟨_, rfl⟩
        obtain ⟨J0, hJ0⟩ : ∃ J, st ei = J := ⟨_, rfl⟩
        obtain ⟨J1, hJ1⟩ : ∃ J, st et = J := ⟨_, rfl⟩
        rw [hI] at ID QQ
        rw [hJ0] at QQ d0 s0 hV OWN
        rw [hJ1] at d1 s1 hV OWN
        go_upto_region 6 with fail
        skip
        clear hV hS0 hI hJ0 hJ1 STAY he
        go_region_held3 (fun w' => w'.cell? ⟨S0, 0, none⟩ = some (.string J0) ∧ w'.cell? ⟨D, 1, none⟩ = some (.int .i64 i1) ∧ w'.cell? ⟨D, 2, none⟩ = some (.bool true) ∧ Below wr.heap.size wr w') (first | exact ⟨s0, f1, f2, NV.out⟩ | assumption | exact ⟨cell_later (by assumption) s0, cell_later (by assumption) f1, cell_later (by assumption) f2, chain NV.out (by assumption)⟩) (first | (go_at_call 16; refine Calls.mono (ID.out _) ?_; rintro e w3 ⟨rfl, hb3⟩))
        have t0 := cell_later hb3 s0
        have t1 := cell_later hb3 s1
        obtain ⟨v', W2, r1, F2⟩ := OWN.out w3 (chain NV.out hb3)
        clear OWN BV NV f1 f2 s0 s1 hb3
        go_wp2_with (first | (at_builtin; refine Go.Lib.wpList_append_run _ rfl _ _ _ _ rfl _ _ rfl rfl _ _ r1 ?_))
        go_roundw
        case rel => exact ⟨k + 1, by omega, by go_num, (by rw [YY.out]; exact F2.out.1), F2.out.2⟩
        case measure => simp [intOf]; omega
    · obtain rfl : k = n := by omega
      have g1 : ¬ (k : Int) < (k : Int) := by omega
      have ET : Hid (l.take k = l) := List.take_of_length_le (by rw [HN.out]; exact Nat.le_refl _)
      rw [ET.out] at J
      obtain ⟨-, f0, f1, f2, f3⟩ := CA.out wr J.out.2
      obtain ⟨ya, yn, yc, rfl⟩ : ∃ a n c, u6 = .slice a n c := by
        obtain ⟨a, c, e, -, -⟩ := owns_sl rfl J.out.1
        exact ⟨a, _, c, e⟩
      obtain ⟨r, hr, L1, S1, F9, ca, fa⟩ := FIN.out wr _ _ J.out.2 J.out.1 rfl
      clear J FIN CA SA
      go_upto_region 12 with fail
      refine wp_region_lit ?_
      refine wpList_plain rfl (fun K2 hK2 => wp_load_run _ _ rfl _ rfl _ L1 (hK2 _ _ ?_))
      refine wpList_plain rfl (fun K2 hK2 => wp_store_run _ _ _ rfl _ rfl _ rfl _ S1 (hK2 _ _ ?_))
      refine wpList_nil ?_
      clear L1 S1 hr
      go_wp2
      refine bodyPost_ret (v := .agg (([.slice x0 n0 c0, .slice x1 n1 c1, .slice x2 n2 c2] : List Value).set who (.slice ya yn yc)).toArray) ?_ rfl ?_
      · exact res_c1 Tryz.results18 _ _ R _ (by kernel_rfl) F9.out.1
      · exact ⟨(.slice ya yn yc), rfl, by rw [EQ.out]; exact F9.out.2.1, by rw [EQ.out]; exact F9.out.2.2⟩
set_option maxHeartbeats 8000000 in
theorem xthen_put (who m : Nat) (i0 i1 : Int) (T : ByteArray) (x0 x1 x2 : Option Addr) (n0 n1 n2 c0 c1 c2 : Nat) (a : Option Addr) (n c : Nat) (l : List Sl) (hw : who < 3) (hn : l.length = n) (hn2 : n ≤ 1000) (hsel : ([.slice x0 n0 c0, .slice x1 n1 c1, .slice x2 n2 c2] : List Value)[who]? = some (.slice a n c)) (W : World) (hat : SlAt W a l)
    (AM : Hid (∀ w, Calls Tryz.prog 14 #[.int .i64 i0, .int .i64 3] w fun e w' => e = .returned (.int .i64 (who : Int)) ∧ w' = w))
    (ID : Hid (∀ w, Calls Tryz.prog 16 #[.int .i64 i1] w fun e w' => e = .returned (.string (st (xid m))) ∧ Below w.heap.size w w')) :
    Calls Tryz.prog 18 #[.agg #[.slice x0 n0 c0, .slice x1 n1 c1, .slice x2 n2 c2], .agg #[.int .i64 i0, .int .i64 i1, .bool false, .string T]] W fun e w' => ∃ y, e = .returned (.agg (([.slice x0 n0 c0, .slice x1 n1 c1, .slice x2 n2 c2] : List Value).set who y).toArray) ∧ w'.ownsRow W.heap.size 58 2 y (thn false (xid m) T.data.toList l).length (scx (thn false (xid m) T.data.toList l)) ∧ Below W.heap.size W w' := by
  have e1 : (W.alloc (.cells #[.slice x0 n0 c0, .slice x1 n1 c1, .slice x2 n2 c2] 54)).heap.size = W.heap.size + 1 := by simp
  have e2 : ((W.alloc (.cells #[.slice x0 n0 c0, .slice x1 n1 c1, .slice x2 n2 c2] 54)).alloc (.cells #[.int .i64 i0, .int .i64 i1, .bool false, .string T] 56)).heap.size = W.heap.size + 2 := by simp
  have b1 := nb W (.cells #[.slice x0 n0 c0, .slice x1 n1 c1, .slice x2 n2 c2] 54)
  have b2 := nb (W.alloc (.cells #[.slice x0 n0 c0, .slice x1 n1 c1, .slice x2 n2 c2] 54)) (.cells #[.int .i64 i0, .int .i64 i1, .bool false, .string T] 56)
  have b3 := nb ((W.alloc (.cells #[.slice x0 n0 c0, .slice x1 n1 c1, .slice x2 n2 c2] 54)).alloc (.cells #[.int .i64 i0, .int .i64 i1, .bool false, .string T] 56)) (.cells #[.slice none 0 0, .slice none 0 0, .slice none 0 0] 54)
  have BZ : Hid (Below W.heap.size W (((W.alloc (.cells #[.slice x0 n0 c0, .slice x1 n1 c1, .slice x2 n2 c2] 54)).alloc (.cells #[.int .i64 i0, .int .i64 i1, .bool false, .string T] 56)).alloc (.cells #[.slice none 0 0, .slice none 0 0, .slice none 0 0] 54))) := chain b1 (chain b2 b3)
  have KA : Blk (((W.alloc (.cells #[.slice x0 n0 c0, .slice x1 n1 c1, .slice x2 n2 c2] 54)).alloc (.cells #[.int .i64 i0, .int .i64 i1, .bool false, .string T] 56)).alloc (.cells #[.slice none 0 0, .slice none 0 0, .slice none 0 0] 54)) W.heap.size [.slice x0 n0 c0, .slice x1 n1 c1, .slice x2 n2 c2] := ((Blk.new W [.slice x0 n0 c0, .slice x1 n1 c1, .slice x2 n2 c2] 54 (by simp)).later b2).later b3
  have KD : Blk (((W.alloc (.cells #[.slice x0 n0 c0, .slice x1 n1 c1, .slice x2 n2 c2] 54)).alloc (.cells #[.int .i64 i0, .int .i64 i1, .bool false, .string T] 56)).alloc (.cells #[.slice none 0 0, .slice none 0 0, .slice none 0 0] 54)) (W.heap.size + 1) [.int .i64 i0, .int .i64 i1, .bool false, .string T] := by
    have := (Blk.new (W.alloc (.cells #[.slice x0 n0 c0, .slice x1 n1 c1, .slice x2 n2 c2] 54)) [.int .i64 i0, .int .i64 i1, .bool false, .string T] 56 (by simp)).later b3
    rw [e1] at this
    exact this
  have KR : Blk (((W.alloc (.cells #[.slice x0 n0 c0, .slice x1 n1 c1, .slice x2 n2 c2] 54)).alloc (.cells #[.int .i64 i0, .int .i64 i1, .bool false, .string T] 56)).alloc (.cells #[.slice none 0 0, .slice none 0 0, .slice none 0 0] 54)) (W.heap.size + 2) z3 := by
    have := Blk.new ((W.alloc (.cells #[.slice x0 n0 c0, .slice x1 n1 c1, .slice x2 n2 c2] 54)).alloc (.cells #[.int .i64 i0, .int .i64 i1, .bool false, .string T] 56)) z3 54 (by unfold z3; simp)
    rw [e2] at this
    exact this
  have SZ : SlAt (((W.alloc (.cells #[.slice x0 n0 c0, .slice x1 n1 c1, .slice x2 n2 c2] 54)).alloc (.cells #[.int .i64 i0, .int .i64 i1, .bool false, .string T] 56)).alloc (.cells #[.slice none 0 0, .slice none 0 0, .slice none 0 0] 54)) a l := hat.later BZ.out
  have KZ : (((W.alloc (.cells #[.slice x0 n0 c0, .slice x1 n1 c1, .slice x2 n2 c2] 54)).alloc (.cells #[.int .i64 i0, .int .i64 i1, .bool false, .string T] 56)).alloc (.cells #[.slice none 0 0, .slice none 0 0, .slice none 0 0] 54)).heap.size = W.heap.size + 3 := by simp
  clear b1 b2 b3 e1 e2 hat
  obtain ⟨A, hA⟩ : ∃ A, W.heap.size = A := ⟨_, rfl⟩
  obtain ⟨D, hD⟩ : ∃ D, A + 1 = D := ⟨_, rfl⟩
  obtain ⟨R, hR0⟩ : ∃ R, D + 1 = R := ⟨_, rfl⟩
  have hR : A + 2 = R := by omega
  have NE : Hid (A ≠ R) := (by omega : A ≠ R)
  have FIN : Hid (∀ w' y k, Below (((W.alloc (.cells #[.slice x0 n0 c0, .slice x1 n1 c1, .slice x2 n2 c2] 54)).alloc (.cells #[.int .i64 i0, .int .i64 i1, .bool false, .string T] 56)).alloc (.cells #[.slice none 0 0, .slice none 0 0, .slice none 0 0] 54)).heap.size (((W.alloc (.cells #[.slice x0 n0 c0, .slice x1 n1 c1, .slice x2 n2 c2] 54)).alloc (.cells #[.int .i64 i0, .int .i64 i1, .bool false, .string T] 56)).alloc (.cells #[.slice none 0 0, .slice none 0 0, .slice none 0 0] 54)) w' → w'.ownsRow (((W.alloc (.cells #[.slice x0 n0 c0, .slice x1 n1 c1, .slice x2 n2 c2] 54)).alloc (.cells #[.int .i64 i0, .int .i64 i1, .bool false, .string T] 56)).alloc (.cells #[.slice none 0 0, .slice none 0 0, .slice none 0 0] 54)).heap.size 58 2 y k.length (scx k) → k = (thn false (xid m) T.data.toList l) → ∃ r, w'.setCell ⟨A, who, none⟩ y = r ∧ (Instr.loadAt 54 (.pointer (some ⟨A, 0, none⟩))).run Tryz.prog r = .ok (.agg (([.slice x0 n0 c0, .slice x1 n1 c1, .slice x2 n2 c2] : List Value).set who y).toArray) r ∧ (Instr.storeAt 54 (.pointer (some ⟨R, 0, none⟩)) (.agg (([.slice x0 n0 c0, .slice x1 n1 c1, .slice x2 n2 c2] : List Value).set who y).toArray)).run Tryz.prog r = .ok () (r.setCells R 0 (([.slice x0 n0 c0, .slice x1 n1 c1, .slice x2 n2 c2] : List Value).set who y)) ∧ Hid ((loadVar 54 ⟨R, 0, none⟩).run Tryz.prog (r.setCells R 0 (([.slice x0 n0 c0, .slice x1 n1 c1, .slice x2 n2 c2] : List Value).set who y)) = .ok (.agg (([.slice x0 n0 c0, .slice x1 n1 c1, .slice x2 n2 c2] : List Value).set who y).toArray) (r.setCells R 0 (([.slice x0 n0 c0, .slice x1 n1 c1, .slice x2 n2 c2] : List Value).set who y)) ∧ (r.setCells R 0 (([.slice x0 n0 c0, .slice x1 n1 c1, .slice x2 n2 c2] : List Value).set who y)).ownsRow A 58 2 y (thn false (xid m) T.data.toList l).length (scx (thn false (xid m) T.data.toList l)) ∧ Below A W (r.setCells R 0 (([.slice x0 n0 c0, .slice x1 n1 c1, .slice x2 n2 c2] : List Value).set who y))) ∧ w'.cell? ⟨A, who, none⟩ = some (.slice a n c) ∧ w'.frozen? ⟨A, who, none⟩ = false) := fun w' y k hb ho hk => by
    subst hk
    have lA : W.heap.size < (((W.alloc (.cells #[.slice x0 n0 c0, .slice x1 n1 c1, .slice x2 n2 c2] 54)).alloc (.cells #[.int .i64 i0, .int .i64 i1, .bool false, .string T] 56)).alloc (.cells #[.slice none 0 0, .slice none 0 0, .slice none 0 0] 54)).heap.size := by rw [KZ]; omega
    have lR : W.heap.size + 2 < (((W.alloc (.cells #[.slice x0 n0 c0, .slice x1 n1 c1, .slice x2 n2 c2] 54)).alloc (.cells #[.int .i64 i0, .int .i64 i1, .bool false, .string T] 56)).alloc (.cells #[.slice none 0 0, .slice none 0 0, .slice none 0 0] 54)).heap.size := by rw [KZ]; omega
    have ka := KA.later hb
    have kr := KR.later hb
    rw [hA] at ka lA
    rw [hA, hR] at kr lR
    obtain ⟨h1, h2, h3⟩ := then_end ka kr NE.out hw rfl rfl rfl (owns_one ho) rfl
    have s1 : Bf (fun z => z = A) w' (w'.setCell ⟨A, who, none⟩ y) := Bf.set (fun z => z = A) w' A who y rfl
    have s2 : Bf (fun z => z = R) (w'.setCell ⟨A, who, none⟩ y) ((w'.setCell ⟨A, who, none⟩ y).setCells R 0 (([.slice x0 n0 c0, .slice x1 n1 c1, .slice x2 n2 c2] : List Value).set who y)) := Bf.sets (fun z => z = R) R rfl _ 0 _
    have o2 : ((w'.setCell ⟨A, who, none⟩ y).setCells R 0 (([.slice x0 n0 c0, .slice x1 n1 c1, .slice x2 n2 c2] : List Value).set who y)).ownsRow (((W.alloc (.cells #[.slice x0 n0 c0, .slice x1 n1 c1, .slice x2 n2 c2] 54)).alloc (.cells #[.int .i64 i0, .int .i64 i1, .bool false, .string T] 56)).alloc (.cells #[.slice none 0 0, .slice none 0 0, .slice none 0 0] 54)).heap.size 58 2 y (thn false (xid m) T.data.toList l).length (scx (thn false (xid m) T.data.toList l)) := by
      refine owns_bfX (owns_bfX ho s1 (fun g hg e => ?_)) s2 (fun g hg e => ?_)
      · have := (ho.lt g hg).1
        omega
      · have := (ho.lt g hg).1
        omega
    refine ⟨_, rfl, h1, h2, ⟨h3, own_low o2 (by rw [KZ]; omega), ?_⟩, ka.c who _ hsel, ka.f who⟩
    have := BZ.out
    rw [hA] at this
    exact below_sets (by omega) _ 0 (((this.trans (hb.mono (by rw [← hA]; exact BZ.out.size)))).setCell (p := ⟨A, who, none⟩) (by show _ ≤ A; exact Nat.le_refl _) y)
  have CA : Hid (∀ V, Below (((W.alloc (.cells #[.slice x0 n0 c0, .slice x1 n1 c1, .slice x2 n2 c2] 54)).alloc (.cells #[.int .i64 i0, .int .i64 i1, .bool false, .string T] 56)).alloc (.cells #[.slice none 0 0, .slice none 0 0, .slice none 0 0] 54)).heap.size (((W.alloc (.cells #[.slice x0 n0 c0, .slice x1 n1 c1, .slice x2 n2 c2] 54)).alloc (.cells #[.int .i64 i0, .int .i64 i1, .bool false, .string T] 56)).alloc (.cells #[.slice none 0 0, .slice none 0 0, .slice none 0 0] 54)) V → V.cell? ⟨A, who, none⟩ = some (.slice a n c) ∧ V.cell? ⟨D, 0, none⟩ = some (.int .i64 i0) ∧ V.cell? ⟨D, 1, none⟩ = some (.int .i64 i1) ∧ V.cell? ⟨D, 2, none⟩ = some (.bool false) ∧ V.cell? ⟨D, 3, none⟩ = some (.string T)) := fun V h => by
    have ka := KA.later h
    have kd := KD.later h
    rw [hA] at ka
    rw [hA, hD] at kd
    exact ⟨ka.c who _ hsel, kd.c 0 _ rfl, kd.c 1 _ rfl, kd.c 2 _ rfl, kd.c 3 _ rfl⟩
  have SA : Hid (∀ V, Below (((W.alloc (.cells #[.slice x0 n0 c0, .slice x1 n1 c1, .slice x2 n2 c2] 54)).alloc (.cells #[.int .i64 i0, .int .i64 i1, .bool false, .string T] 56)).alloc (.cells #[.slice none 0 0, .slice none 0 0, .slice none 0 0] 54)).heap.size (((W.alloc (.cells #[.slice x0 n0 c0, .slice x1 n1 c1, .slice x2 n2 c2] 54)).alloc (.cells #[.int .i64 i0, .int .i64 i1, .bool false, .string T] 56)).alloc (.cells #[.slice none 0 0, .slice none 0 0, .slice none 0 0] 54)) V → SlAt V a l) := fun V h => SZ.later h
  have HN : Hid (l.length = n) := hn
  have EQ : Hid (W.heap.size = A) := hA
  clear KA KD KR SZ KZ hsel hn BZ hR
  go_enter Tryz.func18, Tryz.ntmps18
  go_upto_region 1 with fail
  obtain ⟨Z, hZ⟩ : ∃ Z, (((W.alloc (.cells #[.slice x0 n0 c0, .slice x1 n1 c1, .slice x2 n2 c2] 54)).alloc (.cells #[.int .i64 i0, .int .i64 i1, .bool false, .string T] 56)).alloc (.cells #[.slice none 0 0, .slice none 0 0, .slice none 0 0] 54)) = Z := ⟨_, rfl⟩
  rw [hZ] at CA SA FIN ⊢
  clear hZ hA hD hR0
  obtain ⟨k0, k1, k2, k3, k4⟩ := CA.out Z (Below.refl _ _)
  go_wp2_with fail
  refine Calls.mono (AM.out _) ?_
  rintro e w1 ⟨rfl, hw1⟩
  subst hw1
  clear AM
  have g0 : (0 : Int) ≤ (who : Int) := by omega
  have g3 : (who : Int) < 3 := by omega
  go_wp2_with fail
  clear k0 k1 k2 k3 k4
  go_loopw [6, 16] (fun y i wr => ∃ k : Nat, k ≤ n ∧ i = .int .i64 (k : Int) ∧ Hid (wr.ownsRow w1.heap.size 58 2 y (l.take k).length (scx (l.take k)) ∧ Below w1.heap.size w1 wr)) (fun _ i _ => n - (intOf i).toNat)
  case atStart => exact ⟨0, Nat.zero_le _, rfl, (by rw [List.take_zero]; exact World.ownsRow_nil _ _ _ _), Below.refl _ _⟩
  case round =>
    obtain ⟨k, hk, rfl, J⟩ := hrel
    by_cases hlt : k < n
    · have hkl : k < l.length := by rw [HN.out]; exact hlt
      have g1 : (k : Int) < (n : Int) := by omega
      obtain ⟨b1, o1, rfl, d0, d1⟩ := SA.out _ J.out.2 k hkl
      have ET : Hid (l.take (k + 1) = l.take k ++ [l[k]]) := List.take_succ_eq_append_getElem hkl
      obtain ⟨el, hel⟩ : ∃ e, l[k] = e := ⟨_, rfl⟩
      rw [hel] at d0 d1 ET
      obtain ⟨ei, et⟩ := el
      clear hel
      have LC : Hid ((l.take k).length ≤ 1000) := by show _ ≤ _; rw [List.length_take]; omega
      obtain ⟨S0, hS0⟩ : ∃ S, wr.heap.size = S := ⟨_, rfl⟩
      obtain ⟨V, hV⟩ : ∃ V, wr.alloc (.cells #[.string (st ei), .string (st et)] 58) = V := ⟨_, rfl⟩
      have BV : Hid (Below w1.heap.size w1 V.drew) := by rw [← hV]; exact (J.out.2.alloc J.out.2.size _).drew
      have NV : Hid (Below wr.heap.size wr V.drew) := by rw [← hV]; exact (nb wr _).drew
      have s0 : V.drew.cell? ⟨S0, 0, none⟩ = some (.string (st ei)) := by rw [← hV, ← hS0]; show (wr.alloc _).cell? _ = _; rw [World.cell?_alloc_new]; rfl
      have s1 : V.drew.cell? ⟨S0, 1, none⟩ = some (.string (st et)) := by rw [← hV, ← hS0]; show (wr.alloc _).cell? _ = _; rw [World.cell?_alloc_new]; rfl
      obtain ⟨-, -, f1, f2, -⟩ := CA.out V.drew BV.out
      have OWN : Hid (∀ V2, Below wr.heap.size wr V2 → ∃ v' W2, (Builtin.append_ #[45, 45] 45 #[u6, .slice (some ⟨V2.heap.size, 0, none⟩) 1 1]).run Tryz.prog (V2.alloc (.cells #[.string (st ei), .string (st et)] 58)) = .ok v' W2 ∧ Hid (W2.ownsRow w1.heap.size 58 2 v' ((l.take k) ++ [(ei, et)]).length (scx ((l.take k) ++ [(ei, et)])) ∧ Below w1.heap.size w1 W2)) := fun V2 hb => by
        have ow := owns_laterX J.out.1 hb
        have z1 := J.out.2.size
        have z2 := hb.size
        obtain ⟨v', W2, r1, r2, r3, -⟩ := app_slot1 w1.heap.size V2 45 u6 _ ow (by omega) (by have := LC.out; omega) (ei, et)
        exact ⟨v', W2, r1, r2, (J.out.2.trans (hb.mono z1)).trans r3⟩
      have STAY : Hid (∀ V2, Below wr.heap.size wr V2 → V2.ownsRow w1.heap.size 58 2 u6 (l.take k).length (scx (l.take k)) ∧ Below w1.heap.size w1 V2) := fun V2 hb => ⟨owns_laterX J.out.1 hb, J.out.2.trans (hb.mono J.out.2.size)⟩
      clear J
      unfold sv at d0 d1
      go_upto_region 6 with fail
      skip
      clear hV hS0
      refine wp_region_noPanic ?_
      refine wp_region_held_drew (S := fun w' => w'.cell? ⟨D, 2, none⟩ = some (.bool false)) (by kernel_rfl) (f2) (fun hHeld => ?_)
      refine wpAnyH_take (i := 0) (oi := opth0) (v := ?_) rfl (by kernel_rfl) (by kernel_rfl) (by kernel_rfl) (fun _ _ _ h => h) (Or.inl ⟨by rfl, ?_⟩) (by assumption) ?_
      rotate_left
      · intro w' hSw
        clear hSw
        unfold opth0
        first
        | (go_simp; done)
        | (go_simp; with_reducible rfl)
      simp only [opth0, Act.put, List.setIfInBounds_toArray, List.set_cons_zero, List.set_cons_succ]
      refine wpAnyH_take (i := 1) (oi := opth1) (v := ?_) rfl (by kernel_rfl) (by kernel_rfl) (by kernel_rfl) (fun _ _ _ h => h) (Or.inl ⟨by rfl, ?_⟩) (by assumption) ?_
      rotate_left
      · intro w' hSw
        have f3 := hSw; clear hSw
        unfold opth1
        first
        | (go_simp; done)
        | (go_simp; with_reducible rfl)
      simp only [opth1, Act.put, List.setIfInBounds_toArray, List.set_cons_zero, List.set_cons_succ]
      refine wpAnyH_take (i := 2) (oi := opth2) (v := ?_) rfl (by kernel_rfl) (by kernel_rfl) (by kernel_rfl) (fun _ _ _ h => h) (Or.inl ⟨by rfl, ?_⟩) (by assumption) ?_
      rotate_left
      · intro w' hSw
        clear hSw
        unfold opth2
        first
        | (go_simp; done)
        | (go_simp; with_reducible rfl)
      simp only [opth2, Act.put, List.setIfInBounds_toArray, List.set_cons_zero, List.set_cons_succ]
      refine wpAnyH_take (i := 3) (oi := opth3) (v := ?_) rfl (by kernel_rfl) (by kernel_rfl) (by kernel_rfl) (fun _ _ _ h => h) (Or.inl ⟨by rfl, ?_⟩) (by assumption) ?_
      rotate_left
      · intro w' hSw
        clear hSw
        unfold opth3
        first
        | (go_simp; done)
        | (go_simp; with_reducible rfl)
      simp only [opth3, Act.put, List.setIfInBounds_toArray, List.set_cons_zero, List.set_cons_succ]
      refine wpAnyH_take (i := 4) (oi := opth4) (v := undef) rfl (by kernel_rfl) (by kernel_rfl) (by kernel_rfl) (fun _ _ _ h => h) (Or.inr ⟨by rfl, rfl⟩) (by assumption) ?_
      simp only [opth4, Act.put, List.setIfInBounds_toArray, List.set_cons_zero, List.set_cons_succ]
      refine wpAnyH_take (i := 5) (oi := opth5) (v := undef) rfl (by kernel_rfl) (by kernel_rfl) (by kernel_rfl) (fun _ _ _ h => h) (Or.inr ⟨by rfl, rfl⟩) (by assumption) ?_
      simp only [opth5, Act.put, List.setIfInBounds_toArray, List.set_cons_zero, List.set_cons_succ]
      refine wpAnyH_take (i := 6) (oi := opth6) (v := undef) rfl (by kernel_rfl) (by kernel_rfl) (by kernel_rfl) (fun _ _ _ h => h) (Or.inr ⟨by rfl, rfl⟩) (by assumption) ?_
      simp only [opth6, Act.put, List.setIfInBounds_toArray, List.set_cons_zero, List.set_cons_succ]
      refine wpAnyH_take (i := 7) (oi := opth7) (v := undef) rfl (by kernel_rfl) (by kernel_rfl) (by kernel_rfl) (fun _ _ _ h => h) (Or.inr ⟨by rfl, rfl⟩) (by assumption) ?_
      simp only [opth7, Act.put, List.setIfInBounds_toArray, List.set_cons_zero, List.set_cons_succ]
      refine wpAnyH_take (i := 8) (oi := opth8) (v := undef) rfl (by kernel_rfl) (by kernel_rfl) (by kernel_rfl) (fun _ _ _ h => h) (Or.inr ⟨by rfl, rfl⟩) (by assumption) ?_
      simp only [opth8, Act.put, List.setIfInBounds_toArray, List.set_cons_zero, List.set_cons_succ]
      refine wpAnyH_take (i := 9) (oi := opth9) (v := undef) rfl (by kernel_rfl) (by kernel_rfl) (by kernel_rfl) (fun _ _ _ h => h) (Or.inr ⟨by rfl, rfl⟩) (by assumption) ?_
      simp only [opth9, Act.put, List.setIfInBounds_toArray, List.set_cons_zero, List.set_cons_succ]
      refine wpAnyH_take (i := 10) (oi := opth10) (v := ?_) rfl (by kernel_rfl) (by kernel_rfl) (by kernel_rfl) (fun _ _ _ h => h) (Or.inl ⟨by rfl, ?_⟩) (by assumption) ?_
      rotate_left
      · intro w' hSw
        clear hSw
        unfold opth10
        first
        | (go_simp; done)
        | (go_simp; with_reducible rfl)
      simp only [opth10, Act.put, List.setIfInBounds_toArray, List.set_cons_zero, List.set_cons_succ]
      refine wpAnyH_done (by kernel_rfl) ?_ _
      refine NoPanic.normal ?_
      obtain ⟨v', W2, r1, F2⟩ := OWN.out V.drew NV.out
      clear OWN STAY BV NV f1 f2
      go_wp2_with (first | (at_builtin; refine Go.Lib.wpList_append_run _ rfl _ _ _ _ rfl _ _ rfl rfl _ _ r1 ?_))
      go_roundw
      case rel => exact ⟨k + 1, by omega, by go_num, (by rw [ET.out]; exact F2.out.1), F2.out.2⟩
      case measure => simp [intOf]; omega
    · obtain rfl : k = n := by omega
      have g1 : ¬ (k : Int) < (k : Int) := by omega
      have ET : Hid (l.take k = l) := List.take_of_length_le (by rw [HN.out]; exact Nat.le_refl _)
      rw [ET.out] at J
      obtain ⟨-, f0, f1, f2, f3⟩ := CA.out wr J.out.2
      have ID2 : Hid _ := ID.out wr.drew
      have AP : Hid (∀ V2, Below wr.heap.size wr V2 → ∃ v' W2, (Builtin.append_ #[45, 45] 45 #[u6, .slice (some ⟨V2.heap.size, 0, none⟩) 1 1]).run Tryz.prog (V2.alloc (.cells #[.string (st (xid m)), .string T] 58)) = .ok v' W2 ∧ W2.ownsRow w1.heap.size 58 2 v' (l ++ [(xid m, T.data.toList)]).length (scx (l ++ [(xid m, T.data.toList)])) ∧ Below w1.heap.size w1 W2) := fun V2 hb => by
        have ow := owns_laterX J.out.1 hb
        have z1 := J.out.2.size
        have z2 := hb.size
        obtain ⟨v', W2, r1, r2, r3, -⟩ := app_slot1 w1.heap.size V2 45 u6 l ow (by omega) (by rw [HN.out]; omega) (xid m, T.data.toList)
        exact ⟨v', W2, r1, r2, (J.out.2.trans (hb.mono z1)).trans r3⟩
      have DD : Hid (wr.drew.cell? ⟨D, 1, none⟩ = some (.int .i64 i1) ∧ wr.drew.cell? ⟨D, 3, none⟩ = some (.string T)) := ⟨f1, f3⟩
      have BW : Hid (Below wr.heap.size wr wr.drew) := (Below.refl _ _).drew
      obtain ⟨I, hI⟩ : ∃ I, st (xid m) = I := ⟨_, rfl⟩
      rw [hI] at ID2 AP
      clear J hI ID SA
      go_wp2_with fail
      go_upto_region 10 with fail
      refine wp_region_noPanic ?_
      refine wp_region_held_drew (S := fun w' => w'.cell? ⟨D, 1, none⟩ = some (.int .i64 i1) ∧ w'.cell? ⟨D, 3, none⟩ = some (.string T)) (by kernel_rfl) (DD.out) (fun hH0 => ?_)
      obtain ⟨U, hU⟩ : ∃ U, wr.drew = U := ⟨_, rfl⟩
      rw [hU] at hH0 BW ID2 ⊢
      clear hU DD f0 f1 f2 f3
      refine wpAnyH_take (i := 0) (oi := opti0) (v := ?_) rfl (by kernel_rfl) (by kernel_rfl) (by kernel_rfl) (fun _ _ _ h => h) (Or.inl ⟨by rfl, ?_⟩) (by assumption) ?_
      rotate_left
      · intro w' hSw
        clear hSw
        unfold opti0
        first
        | (go_simp; done)
        | (go_simp; with_reducible rfl)
      simp only [opti0, Act.put, List.setIfInBounds_toArray, List.set_cons_zero, List.set_cons_succ]
      refine wpAnyH_take (i := 1) (oi := opti1) (v := ?_) rfl (by kernel_rfl) (by kernel_rfl) (by kernel_rfl) (fun _ _ _ h => h) (Or.inl ⟨by rfl, ?_⟩) (by assumption) ?_
      rotate_left
      · intro w' hSw
        clear hSw
        unfold opti1
        first
        | (go_simp; done)
        | (go_simp; with_reducible rfl)
      simp only [opti1, Act.put, List.setIfInBounds_toArray, List.set_cons_zero, List.set_cons_succ]
      refine wpAnyH_take (i := 2) (oi := opti2) (v := ?_) rfl (by kernel_rfl) (by kernel_rfl) (by kernel_rfl) (fun _ _ _ h => h) (Or.inl ⟨by rfl, ?_⟩) (by assumption) ?_
      rotate_left
      · intro w' hSw
        have s1 := hSw.1
        unfold opti2
        first
        | (go_simp; done)
        | (go_simp; with_reducible rfl)
      simp only [opti2, Act.put, List.setIfInBounds_toArray, List.set_cons_zero, List.set_cons_succ]
      refine wpAnyH_take (i := 4) (oi := opti4) (v := ?_) rfl (by kernel_rfl) (by kernel_rfl) (by kernel_rfl) (fun _ _ _ h => h) (Or.inl ⟨by rfl, ?_⟩) (by assumption) ?_
      rotate_left
      · intro w' hSw
        clear hSw
        unfold opti4
        first
        | (go_simp; done)
        | (go_simp; with_reducible rfl)
      simp only [opti4, Act.put, List.setIfInBounds_toArray, List.set_cons_zero, List.set_cons_succ]
      refine wpAnyH_take (i := 5) (oi := opti5) (v := ?_) rfl (by kernel_rfl) (by kernel_rfl) (by kernel_rfl) (fun _ _ _ h => h) (Or.inl ⟨by rfl, ?_⟩) (by assumption) ?_
      rotate_left
      · intro w' hSw
        have s1 := hSw.2
        unfold opti5
        first
        | (go_simp; done)
        | (go_simp; with_reducible rfl)
      simp only [opti5, Act.put, List.setIfInBounds_toArray, List.set_cons_zero, List.set_cons_succ]
      refine wpAnyH_ready (rs := [3]) (by kernel_rfl) (by simp) ?_
      refine AllReadyH.cons (o := opti3) rfl (fun KK hKK => ?_) AllReadyH.nil
      unfold opti3
      go_simp
      refine Calls.mono ID2.out ?_
      rintro e w3 ⟨rfl, hb3⟩
      have B3 : Hid (Below wr.heap.size wr w3) := chain BW.out hb3
      refine hKK.out _ _ ⟨cell_later hb3 hH0.1, cell_later hb3 hH0.2⟩ (fun hH1 => ?_)
      clear hKK KK hH0 hb3 ID2 BW
      try simp only [opti3, Act.put, List.setIfInBounds_toArray, List.set_cons_zero, List.set_cons_succ]
      refine wpAnyH_take (i := 6) (oi := opti6) (v := ?_) rfl (by kernel_rfl) (by kernel_rfl) (by kernel_rfl) (fun _ _ _ h => h) (Or.inl ⟨by rfl, ?_⟩) (by assumption) ?_
      rotate_left
      · intro w' hSw
        clear hSw
        unfold opti6
        first
        | (go_simp; done)
        | (go_simp; with_reducible rfl)
      simp only [opti6, Act.put, List.setIfInBounds_toArray, List.set_cons_zero, List.set_cons_succ]
      refine wpAnyH_ready (rs := [7]) (by kernel_rfl) (by simp) ?_
      refine AllReadyH.cons (o := opti7) rfl (fun KK hKK => ?_) AllReadyH.nil
      unfold opti7
      go_simp
      refine hKK.out _ _ ⟨cell_alloc hH1.1, cell_alloc hH1.2⟩ (fun hH2 => ?_)
      clear hKK KK
      try simp only [opti7, Act.put, List.setIfInBounds_toArray, List.set_cons_zero, List.set_cons_succ]
      refine wpAnyH_ready (rs := [8]) (by kernel_rfl) (by simp) ?_
      refine AllReadyH.cons (o := opti8) rfl (fun KK hKK => ?_) AllReadyH.nil
      obtain ⟨y', W5, hr5, o5, b5⟩ := AP.out w3 B3.out
      obtain ⟨ya, yn, yc, rfl⟩ : ∃ a n c, y' = .slice a n c := by
        obtain ⟨a, c, e, -, -⟩ := owns_sl rfl o5
        exact ⟨a, _, c, e⟩
      obtain ⟨r, hr, L1, S1, F9, ca, fa⟩ := FIN.out W5 _ _ b5 o5 rfl
      obtain ⟨-, -, m1, -, m3⟩ := CA.out W5 b5
      rw [if_pos (by kernel_rfl)]
      refine Go.Lib.wp_append_run _ _ _ _ _ rfl _ _ rfl rfl _ _ hr5 ?_
      refine hKK.out _ _ ⟨m1, m3⟩ (fun hH3 => ?_)
      clear hKK KK hr5 hH1 hH2 AP FIN CA o5 b5 B3 m1 m3
      try simp only [opti8, Act.put, List.setIfInBounds_toArray, List.set_cons_zero, List.set_cons_succ]
      refine wpAnyH_take (i := 9) (oi := opti9) (v := ?_) rfl (by kernel_rfl) (by kernel_rfl) (by kernel_rfl) (fun _ _ _ h => h) (Or.inl ⟨by rfl, ?_⟩) (by assumption) ?_
      rotate_left
      · intro w' hSw
        clear hSw
        unfold opti9
        first
        | (go_simp; done)
        | (go_simp; with_reducible rfl)
      simp only [opti9, Act.put, List.setIfInBounds_toArray, List.set_cons_zero, List.set_cons_succ]
      refine wpAnyH_done (by kernel_rfl) ?_ _
      refine NoPanic.normal ?_
      go_upto_region 12 with fail
      refine wp_region_lit ?_
      refine wpList_plain rfl (fun K2 hK2 => wp_load_run _ _ rfl _ rfl _ L1 (hK2 _ _ ?_))
      refine wpList_plain rfl (fun K2 hK2 => wp_store_run _ _ _ rfl _ rfl _ rfl _ S1 (hK2 _ _ ?_))
      refine wpList_nil ?_
      clear L1 S1 hr
      go_wp2
      refine bodyPost_ret (v := .agg (([.slice x0 n0 c0, .slice x1 n1 c1, .slice x2 n2 c2] : List Value).set who (.slice ya yn yc)).toArray) ?_ rfl ?_
      · exact res_c1 Tryz.results18 _ _ R _ (by kernel_rfl) F9.out.1
      · exact ⟨(.slice ya yn yc), rfl, by rw [EQ.out]; exact F9.out.2.1, by rw [EQ.out]; exact F9.out.2.2⟩
end Go.Proofs.YtjpaodepnacimaaGreatDoor
