/- MailWrites. -/
import Derived.Test.YtbaajpefefedbaaMlV
namespace Go.Proofs.Ytbaajpefefedbaa
open Go.RowKit Go.Proofs.Fd Go.Proofs.Ml
set_option maxRecDepth 20000

/-- Two boxes: the message's, its copy's. -/
def Twin (w : World) (g h : Nat) (k u q : Int) (t x : ByteArray) (a : Option Addr) (n c : Nat) (a2 : Option Addr) (n2 c2 : Nat) (b : Option Addr) (d : Nat) (b2 : Option Addr) (d2 : Nat) : Prop :=
  MlAt w g k u q t x a n c a2 n2 c2 ∧ MlAt w h k u q t x b n d b2 n2 d2
def opw0 : Oper := { dst := some 21, op := Go.Op.move (Go.Operand.tmp 8), type := 4, pos := "law.go:17", after := #[], guard := none }
def opw1 : Oper := { dst := some 22, op := Go.Op.move (Go.Operand.tmp 21), type := 4, pos := "law.go:17", after := #[{ on := 0, ground := Go.Ground.data }], guard := none }
def opw2 : Oper := { dst := some 23, op := Go.Op.move (Go.Operand.tmp 4), type := 9, pos := "law.go:17", after := #[{ on := 1, ground := Go.Ground.guard }], guard := some (1, true) }
def opw3 : Oper := { dst := some 24, op := Go.Op.move (Go.Operand.tmp 6), type := 9, pos := "law.go:17", after := #[{ on := 1, ground := Go.Ground.guard }], guard := some (1, true) }
def opw4 : Oper := { dst := some 25, op := Go.Op.binOp Go.BinOp.eql 9 (Go.Operand.tmp 23) (Go.Operand.tmp 24) 9, type := 4, pos := "law.go:17", after := #[{ on := 2, ground := Go.Ground.data }, { on := 3, ground := Go.Ground.data }, { on := 1, ground := Go.Ground.guard }], guard := some (1, true) }
def opw5 : Oper := { dst := some 26, op := Go.Op.pick (Go.Operand.tmp 22) (Go.Operand.tmp 25) (Go.Operand.const (Go.Value.bool false)), type := 4, pos := "law.go:17", after := #[{ on := 1, ground := Go.Ground.data }, { on := 4, ground := Go.Ground.data }], guard := none }
def opw6 : Oper := { dst := some 27, op := Go.Op.move (Go.Operand.tmp 26), type := 4, pos := "law.go:17", after := #[{ on := 5, ground := Go.Ground.data }, { on := 1, ground := Go.Ground.chain }], guard := none }
def opw7 : Oper := { dst := some 28, op := Go.Op.move (Go.Operand.tmp 5), type := 27, pos := "law.go:17", after := #[{ on := 6, ground := Go.Ground.guard }], guard := some (6, true) }
def opw8 : Oper := { dst := some 29, op := Go.Op.move (Go.Operand.tmp 7), type := 27, pos := "law.go:17", after := #[{ on := 6, ground := Go.Ground.guard }], guard := some (6, true) }
def opw9 : Oper := { dst := some 30, op := Go.Op.binOp Go.BinOp.eql 27 (Go.Operand.tmp 28) (Go.Operand.tmp 29) 27, type := 4, pos := "law.go:17", after := #[{ on := 7, ground := Go.Ground.data }, { on := 8, ground := Go.Ground.data }, { on := 6, ground := Go.Ground.guard }], guard := some (6, true) }
def opw10 : Oper := { dst := some 31, op := Go.Op.pick (Go.Operand.tmp 27) (Go.Operand.tmp 30) (Go.Operand.const (Go.Value.bool false)), type := 4, pos := "law.go:17", after := #[{ on := 6, ground := Go.Ground.data }, { on := 9, ground := Go.Ground.data }], guard := none }
def opw11 : Oper := { dst := some 32, op := Go.Op.move (Go.Operand.tmp 31), type := 4, pos := "law.go:17", after := #[{ on := 10, ground := Go.Ground.data }, { on := 6, ground := Go.Ground.chain }], guard := none }
def opw12 : Oper := { dst := some 33, op := Go.Op.load 25 (Go.Operand.tmp 3), type := 25, pos := "law.go:17", after := #[{ on := 11, ground := Go.Ground.guard }], guard := some (11, true) }
def opw13 : Oper := { dst := some 34, op := Go.Op.call { callee := Go.Callee.value (Go.Operand.func 11), args := #[Go.Operand.tmp 33], argTypes := #[25] }, type := 27, pos := "law.go:17", after := #[{ on := 12, ground := Go.Ground.data }, { on := 11, ground := Go.Ground.chain }, { on := 11, ground := Go.Ground.guard }], guard := some (11, true) }
def opw14 : Oper := { dst := some 35, op := Go.Op.load 25 (Go.Operand.tmp 1), type := 25, pos := "law.go:17", after := #[{ on := 11, ground := Go.Ground.guard }], guard := some (11, true) }
def opw15 : Oper := { dst := some 36, op := Go.Op.call { callee := Go.Callee.value (Go.Operand.func 12), args := #[Go.Operand.tmp 35], argTypes := #[25] }, type := 27, pos := "law.go:17", after := #[{ on := 14, ground := Go.Ground.data }, { on := 13, ground := Go.Ground.chain }, { on := 11, ground := Go.Ground.guard }], guard := some (11, true) }
def opw16 : Oper := { dst := some 37, op := Go.Op.binOp Go.BinOp.eql 27 (Go.Operand.tmp 34) (Go.Operand.tmp 36) 27, type := 4, pos := "law.go:17", after := #[{ on := 13, ground := Go.Ground.data }, { on := 15, ground := Go.Ground.data }, { on := 11, ground := Go.Ground.guard }], guard := some (11, true) }
def opw17 : Oper := { dst := some 38, op := Go.Op.pick (Go.Operand.tmp 32) (Go.Operand.tmp 37) (Go.Operand.const (Go.Value.bool false)), type := 4, pos := "law.go:17", after := #[{ on := 11, ground := Go.Ground.data }, { on := 16, ground := Go.Ground.data }], guard := none }
def opw18 : Oper := { dst := some 39, op := Go.Op.move (Go.Operand.tmp 38), type := 4, pos := "law.go:17", after := #[{ on := 17, ground := Go.Ground.data }, { on := 15, ground := Go.Ground.chain }], guard := none }
def opw19 : Oper := { dst := some 40, op := Go.Op.fieldAddr 25 (Go.Operand.tmp 1) 0, type := 0, pos := "law.go:17", after := #[{ on := 18, ground := Go.Ground.guard }], guard := some (18, true) }
def opw20 : Oper := { dst := some 41, op := Go.Op.load 3 (Go.Operand.tmp 40), type := 3, pos := "law.go:17", after := #[{ on := 19, ground := Go.Ground.data }, { on := 18, ground := Go.Ground.guard }], guard := some (18, true) }
def opw21 : Oper := { dst := some 42, op := Go.Op.call { callee := Go.Callee.value (Go.Operand.func 13), args := #[Go.Operand.tmp 41], argTypes := #[3] }, type := 3, pos := "law.go:17", after := #[{ on := 20, ground := Go.Ground.data }, { on := 18, ground := Go.Ground.chain }, { on := 18, ground := Go.Ground.guard }], guard := some (18, true) }
def opw22 : Oper := { dst := some 43, op := Go.Op.fieldAddr 25 (Go.Operand.tmp 1) 0, type := 0, pos := "law.go:17", after := #[{ on := 18, ground := Go.Ground.guard }], guard := some (18, true) }
def opw23 : Oper := { dst := some 44, op := Go.Op.load 3 (Go.Operand.tmp 43), type := 3, pos := "law.go:17", after := #[{ on := 22, ground := Go.Ground.data }, { on := 18, ground := Go.Ground.guard }], guard := some (18, true) }
def opw24 : Oper := { dst := some 45, op := Go.Op.call { callee := Go.Callee.value (Go.Operand.func 14), args := #[Go.Operand.tmp 44], argTypes := #[3] }, type := 3, pos := "law.go:17", after := #[{ on := 23, ground := Go.Ground.data }, { on := 21, ground := Go.Ground.chain }, { on := 18, ground := Go.Ground.guard }], guard := some (18, true) }
def opw25 : Oper := { dst := some 46, op := Go.Op.binOp Go.BinOp.eql 3 (Go.Operand.tmp 42) (Go.Operand.tmp 45) 3, type := 4, pos := "law.go:17", after := #[{ on := 21, ground := Go.Ground.data }, { on := 24, ground := Go.Ground.data }, { on := 18, ground := Go.Ground.guard }], guard := some (18, true) }
def opw26 : Oper := { dst := some 47, op := Go.Op.pick (Go.Operand.tmp 39) (Go.Operand.tmp 46) (Go.Operand.const (Go.Value.bool false)), type := 4, pos := "law.go:17", after := #[{ on := 18, ground := Go.Ground.data }, { on := 25, ground := Go.Ground.data }], guard := none }
def opw27 : Oper := { dst := some 48, op := Go.Op.move (Go.Operand.tmp 47), type := 4, pos := "law.go:17", after := #[{ on := 26, ground := Go.Ground.data }, { on := 24, ground := Go.Ground.chain }], guard := none }
def opw28 : Oper := { dst := some 49, op := Go.Op.load 25 (Go.Operand.tmp 3), type := 25, pos := "law.go:17", after := #[{ on := 27, ground := Go.Ground.guard }], guard := some (27, true) }
def opw29 : Oper := { dst := some 50, op := Go.Op.load 25 (Go.Operand.tmp 1), type := 25, pos := "law.go:17", after := #[{ on := 27, ground := Go.Ground.guard }], guard := some (27, true) }
def opw30 : Oper := { dst := some 51, op := Go.Op.call { callee := Go.Callee.value (Go.Operand.func 15), args := #[Go.Operand.tmp 49, Go.Operand.tmp 50], argTypes := #[25, 25] }, type := 4, pos := "law.go:17", after := #[{ on := 28, ground := Go.Ground.data }, { on := 29, ground := Go.Ground.data }, { on := 27, ground := Go.Ground.chain }, { on := 27, ground := Go.Ground.guard }], guard := some (27, true) }
def opw31 : Oper := { dst := some 52, op := Go.Op.pick (Go.Operand.tmp 48) (Go.Operand.tmp 51) (Go.Operand.const (Go.Value.bool false)), type := 4, pos := "law.go:17", after := #[{ on := 27, ground := Go.Ground.data }, { on := 30, ground := Go.Ground.data }], guard := none }
def opw32 : Oper := { dst := some 53, op := Go.Op.move (Go.Operand.tmp 52), type := 4, pos := "law.go:17", after := #[{ on := 31, ground := Go.Ground.data }, { on := 30, ground := Go.Ground.chain }], guard := none }
def opw33 : Oper := { dst := some 54, op := Go.Op.call { callee := Go.Callee.value (Go.Operand.func 16), args := #[], argTypes := #[] }, type := 4, pos := "law.go:17", after := #[{ on := 32, ground := Go.Ground.chain }, { on := 32, ground := Go.Ground.guard }], guard := some (32, true) }
def opw34 : Oper := { dst := some 55, op := Go.Op.pick (Go.Operand.tmp 53) (Go.Operand.tmp 54) (Go.Operand.const (Go.Value.bool false)), type := 4, pos := "law.go:17", after := #[{ on := 32, ground := Go.Ground.data }, { on := 33, ground := Go.Ground.data }], guard := none }
def opw35 : Oper := { dst := some 2, op := Go.Op.assign (Go.Operand.tmp 55), type := 4, pos := "law.go:17", after := #[{ on := 34, ground := Go.Ground.data }, { on := 33, ground := Go.Ground.chain }, { on := 0, ground := Go.Ground.phase }, { on := 1, ground := Go.Ground.phase }, { on := 2, ground := Go.Ground.phase }, { on := 3, ground := Go.Ground.phase }, { on := 4, ground := Go.Ground.phase }, { on := 5, ground := Go.Ground.phase }, { on := 6, ground := Go.Ground.phase }, { on := 7, ground := Go.Ground.phase }, { on := 8, ground := Go.Ground.phase }, { on := 9, ground := Go.Ground.phase }, { on := 10, ground := Go.Ground.phase }, { on := 11, ground := Go.Ground.phase }, { on := 12, ground := Go.Ground.phase }, { on := 13, ground := Go.Ground.phase }, { on := 14, ground := Go.Ground.phase }, { on := 15, ground := Go.Ground.phase }, { on := 16, ground := Go.Ground.phase }, { on := 17, ground := Go.Ground.phase }, { on := 18, ground := Go.Ground.phase }, { on := 19, ground := Go.Ground.phase }, { on := 20, ground := Go.Ground.phase }, { on := 21, ground := Go.Ground.phase }, { on := 22, ground := Go.Ground.phase }, { on := 23, ground := Go.Ground.phase }, { on := 24, ground := Go.Ground.phase }, { on := 25, ground := Go.Ground.phase }, { on := 26, ground := Go.Ground.phase }, { on := 27, ground := Go.Ground.phase }, { on := 28, ground := Go.Ground.phase }, { on := 29, ground := Go.Ground.phase }, { on := 30, ground := Go.Ground.phase }, { on := 31, ground := Go.Ground.phase }, { on := 32, ground := Go.Ground.phase }, { on := 33, ground := Go.Ground.phase }, { on := 34, ground := Go.Ground.phase }], guard := none }
set_option maxHeartbeats 4000000 in
theorem MailWrites_walk (k u q : Int) (t g : ByteArray) (a : Option Addr) (n c : Nat) (a2 : Option Addr) (n2 c2 : Nat) (ss : List Sl) (is : List ByteArray) (zs : n * 32 ≤ 140737488351232) (zi : n2 * 16 ≤ 140737488351232) (w : World) (L : Hid (Lists w a n c a2 n2 c2 ss is)) :
    Calls Try.prog 3 #[mv k u q t g a n c a2 n2 c2] w fun e w' => e = .returned (.bool true) ∧ Below w.heap.size w w' := by
  obtain ⟨X, hX⟩ : ∃ X, w.alloc (.cells #[.int .i64 k, .int .i64 u, .int .i64 q, .string t, .string g, .slice a n c, .slice a2 n2 c2] 25) = X := ⟨_, rfl⟩
  have F0 : Hid (Below w.heap.size w X ∧ MlAt X w.heap.size k u q t g a n c a2 n2 c2) := by
    rw [← hX]
    exact ⟨(Below.refl _ _).alloc (Nat.le_refl _) _, MlAt.new _ _ _ _ _ _ _ _ _ _ _ _ _⟩
  obtain ⟨-, p0, p1, p2, p3, p4, p5, p6⟩ := F0.out.2
  go_enter Try.func3, Try.ntmps3
  go_wp2_with fail
  clear hX
  refine Calls.mono (copyMail_any k u q t g a n c a2 n2 c2 ss is zs zi X (L.out.later F0.out.1)) ?_
  rintro e w1 ⟨b, d, b2, d2, rfl, L1, hb1⟩
  clear p0 p1 p2 p3 p4 p5 p6
  obtain ⟨Y, hY⟩ : ∃ Y, w1.alloc (.cells #[.int .i64 k, .int .i64 u, .int .i64 q, .string t, .string g, .slice b n d, .slice b2 n2 d2] 25) = Y := ⟨_, rfl⟩
  obtain ⟨h, hh⟩ : ∃ h, w1.heap.size = h := ⟨_, rfl⟩
  have F1 : Hid (Below w.heap.size w Y ∧ Twin Y w.heap.size h k u q t g a n c a2 n2 c2 b d b2 d2 ∧ Lists Y b n d b2 n2 d2 ss is ∧ Lists Y a n c a2 n2 c2 ss is) := by
    rw [← hY, ← hh]
    have hb : ∀ o : Obj, Below w1.heap.size w1 (w1.alloc o) := fun o => (Below.refl _ _).alloc (Nat.le_refl _) _
    exact ⟨chain (chain F0.out.1 hb1) (hb _), ⟨(F0.out.2.later hb1).later (hb _), MlAt.new _ _ _ _ _ _ _ _ _ _ _ _ _⟩, L1.later (hb _), ((L.out.later F0.out.1).later hb1).later (hb _)⟩
  obtain ⟨-, p0, p1, p2, p3, p4, p5, p6⟩ := F1.out.2.1.1
  obtain ⟨-, q0, q1, q2, q3, q4, q5, q6⟩ := F1.out.2.1.2
  clear hb1 L1 F0
  go_wp2_with fail
  clear hY hh
  obtain ⟨S, hS⟩ : ∃ S, enS ⟨k, u, q, t, g, ss, is⟩ = S := ⟨_, rfl⟩
  obtain ⟨E, hE⟩ : ∃ E, chkE (okB ⟨k, u, q, t, g, ss, is⟩) = E := ⟨_, rfl⟩
  have EN : Hid (∀ w b d b2 d2, Lists w b n d b2 n2 d2 ss is → Calls Try.prog 9 #[mv k u q t g b n d b2 n2 d2] w fun e w' => e = .returned (.tuple #[.string S, .int .i64 E]) ∧ Below w.heap.size w w') := fun w b d b2 d2 hL => by
    rw [← hS, ← hE]; exact encode_any k u q t g b n d b2 n2 d2 ss is w hL
  have RE : Hid (∀ w b d b2 d2, Lists w b n d b2 n2 d2 ss is → Calls Try.prog 10 #[mv k u q t g b n d b2 n2 d2] w fun e w' => e = .returned (.tuple #[.string S, .int .i64 E]) ∧ Below w.heap.size w w') := fun w b d b2 d2 hL => by
    rw [← hS, ← hE]; exact rencode_any k u q t g b n d b2 n2 d2 ss is w hL
  have CK : Hid (∀ w b d b2 d2, Lists w b n d b2 n2 d2 ss is → Calls Try.prog 11 #[mv k u q t g b n d b2 n2 d2] w fun e w' => e = .returned (.int .i64 E) ∧ Below w.heap.size w w') := fun w b d b2 d2 hL => by
    rw [← hE]; exact check_any k u q t g b n d b2 n2 d2 ss is w hL
  have RC : Hid (∀ w b d b2 d2, Lists w b n d b2 n2 d2 ss is → Calls Try.prog 12 #[mv k u q t g b n d b2 n2 d2] w fun e w' => e = .returned (.int .i64 E) ∧ Below w.heap.size w w') := fun w b d b2 d2 hL => by
    rw [← hE]; exact rcheck_any k u q t g b n d b2 n2 d2 ss is w hL
  clear hS hE
  refine Calls.mono (EN.out Y b d b2 d2 F1.out.2.2.1) ?_
  rintro e w2 ⟨rfl, hb2⟩
  have F2 : Hid (Below w.heap.size w w2 ∧ Twin w2 w.heap.size h k u q t g a n c a2 n2 c2 b d b2 d2 ∧ Lists w2 b n d b2 n2 d2 ss is ∧ Lists w2 a n c a2 n2 c2 ss is) := ⟨chain F1.out.1 hb2, ⟨F1.out.2.1.1.later hb2, F1.out.2.1.2.later hb2⟩, F1.out.2.2.1.later hb2, F1.out.2.2.2.later hb2⟩
  clear hb2 F1 p0 p1 p2 p3 p4 p5 p6 q0 q1 q2 q3 q4 q5 q6 EN
  obtain ⟨-, p0, p1, p2, p3, p4, p5, p6⟩ := F2.out.2.1.1
  go_wp2_with fail
  refine Calls.mono (RE.out w2 a c a2 c2 F2.out.2.2.2) ?_
  rintro e w3 ⟨rfl, hb3⟩
  have F3 : Hid (Below w.heap.size w w3 ∧ Twin w3 w.heap.size h k u q t g a n c a2 n2 c2 b d b2 d2 ∧ Lists w3 b n d b2 n2 d2 ss is ∧ Lists w3 a n c a2 n2 c2 ss is) := ⟨chain F2.out.1 hb3, ⟨F2.out.2.1.1.later hb3, F2.out.2.1.2.later hb3⟩, F2.out.2.2.1.later hb3, F2.out.2.2.2.later hb3⟩
  clear hb3 F2 p0 p1 p2 p3 p4 p5 p6 RE
  have YY : (S.toList == S.toList) = true := by simp
  have ZZ : (E == E) = true := by simp
  have TW := F3.out.2.1
  have KP : Hid (∀ w', Below w3.heap.size w3 w' → Twin w' w.heap.size h k u q t g a n c a2 n2 c2 b d b2 d2) := fun w' hb => ⟨F3.out.2.1.1.later hb, F3.out.2.1.2.later hb⟩
  go_wp2_with fail
  refine wp_region_noPanic ?_
  refine wp_region_held_drew (S := fun w' => Twin w' w.heap.size h k u q t g a n c a2 n2 c2 b d b2 d2) (by kernel_rfl) (TW) (fun hHeld => ?_)
  have hb0 : Below w3.heap.size w3 w3.drew := (Below.refl _ _).drew
  refine wpAnyH_take (i := 0) (oi := opw0) (v := ?_) rfl (by kernel_rfl) (by kernel_rfl) (by kernel_rfl) (fun _ _ _ h => h) (Or.inl ⟨by rfl, ?_⟩) (by assumption) ?_
  rotate_left
  · intro w' hSw
    clear hSw
    unfold opw0
    first
    | (go_simp; done)
    | (go_simp; with_reducible rfl)
  simp only [opw0, Act.put, List.setIfInBounds_toArray, List.set_cons_zero, List.set_cons_succ]
  refine wpAnyH_take (i := 1) (oi := opw1) (v := ?_) rfl (by kernel_rfl) (by kernel_rfl) (by kernel_rfl) (fun _ _ _ h => h) (Or.inl ⟨by rfl, ?_⟩) (by assumption) ?_
  rotate_left
  · intro w' hSw
    clear hSw
    unfold opw1
    first
    | (go_simp; done)
    | (go_simp; with_reducible rfl)
  simp only [opw1, Act.put, List.setIfInBounds_toArray, List.set_cons_zero, List.set_cons_succ]
  refine wpAnyH_take (i := 2) (oi := opw2) (v := ?_) rfl (by kernel_rfl) (by kernel_rfl) (by kernel_rfl) (fun _ _ _ h => h) (Or.inl ⟨by rfl, ?_⟩) (by assumption) ?_
  rotate_left
  · intro w' hSw
    clear hSw
    unfold opw2
    first
    | (go_simp; done)
    | (go_simp; with_reducible rfl)
  simp only [opw2, Act.put, List.setIfInBounds_toArray, List.set_cons_zero, List.set_cons_succ]
  refine wpAnyH_take (i := 3) (oi := opw3) (v := ?_) rfl (by kernel_rfl) (by kernel_rfl) (by kernel_rfl) (fun _ _ _ h => h) (Or.inl ⟨by rfl, ?_⟩) (by assumption) ?_
  rotate_left
  · intro w' hSw
    clear hSw
    unfold opw3
    first
    | (go_simp; done)
    | (go_simp; with_reducible rfl)
  simp only [opw3, Act.put, List.setIfInBounds_toArray, List.set_cons_zero, List.set_cons_succ]
  refine wpAnyH_take (i := 4) (oi := opw4) (v := ?_) rfl (by kernel_rfl) (by kernel_rfl) (by kernel_rfl) (fun _ _ _ h => h) (Or.inl ⟨by rfl, ?_⟩) (by assumption) ?_
  rotate_left
  · intro w' hSw
    clear hSw
    unfold opw4
    first
    | (go_simp; done)
    | (go_simp; with_reducible rfl)
  simp only [opw4, Act.put, List.setIfInBounds_toArray, List.set_cons_zero, List.set_cons_succ]
  refine wpAnyH_take (i := 5) (oi := opw5) (v := ?_) rfl (by kernel_rfl) (by kernel_rfl) (by kernel_rfl) (fun _ _ _ h => h) (Or.inl ⟨by rfl, ?_⟩) (by assumption) ?_
  rotate_left
  · intro w' hSw
    clear hSw
    unfold opw5
    first
    | (go_simp; done)
    | (go_simp; with_reducible rfl)
  simp only [opw5, Act.put, List.setIfInBounds_toArray, List.set_cons_zero, List.set_cons_succ]
  refine wpAnyH_take (i := 6) (oi := opw6) (v := ?_) rfl (by kernel_rfl) (by kernel_rfl) (by kernel_rfl) (fun _ _ _ h => h) (Or.inl ⟨by rfl, ?_⟩) (by assumption) ?_
  rotate_left
  · intro w' hSw
    clear hSw
    unfold opw6
    first
    | (go_simp; done)
    | (go_simp; with_reducible rfl)
  simp only [opw6, Act.put, List.setIfInBounds_toArray, List.set_cons_zero, List.set_cons_succ]
  refine wpAnyH_take (i := 7) (oi := opw7) (v := ?_) rfl (by kernel_rfl) (by kernel_rfl) (by kernel_rfl) (fun _ _ _ h => h) (Or.inl ⟨by rfl, ?_⟩) (by assumption) ?_
  rotate_left
  · intro w' hSw
    clear hSw
    unfold opw7
    first
    | (go_simp; done)
    | (go_simp; with_reducible rfl)
  simp only [opw7, Act.put, List.setIfInBounds_toArray, List.set_cons_zero, List.set_cons_succ]
  refine wpAnyH_take (i := 8) (oi := opw8) (v := ?_) rfl (by kernel_rfl) (by kernel_rfl) (by kernel_rfl) (fun _ _ _ h => h) (Or.inl ⟨by rfl, ?_⟩) (by assumption) ?_
  rotate_left
  · intro w' hSw
    clear hSw
    unfold opw8
    first
    | (go_simp; done)
    | (go_simp; with_reducible rfl)
  simp only [opw8, Act.put, List.setIfInBounds_toArray, List.set_cons_zero, List.set_cons_succ]
  refine wpAnyH_take (i := 9) (oi := opw9) (v := ?_) rfl (by kernel_rfl) (by kernel_rfl) (by kernel_rfl) (fun _ _ _ h => h) (Or.inl ⟨by rfl, ?_⟩) (by assumption) ?_
  rotate_left
  · intro w' hSw
    clear hSw
    unfold opw9
    first
    | (go_simp; done)
    | (go_simp; with_reducible rfl)
  simp only [opw9, Act.put, List.setIfInBounds_toArray, List.set_cons_zero, List.set_cons_succ]
  refine wpAnyH_take (i := 10) (oi := opw10) (v := ?_) rfl (by kernel_rfl) (by kernel_rfl) (by kernel_rfl) (fun _ _ _ h => h) (Or.inl ⟨by rfl, ?_⟩) (by assumption) ?_
  rotate_left
  · intro w' hSw
    clear hSw
    unfold opw10
    first
    | (go_simp; done)
    | (go_simp; with_reducible rfl)
  simp only [opw10, Act.put, List.setIfInBounds_toArray, List.set_cons_zero, List.set_cons_succ]
  refine wpAnyH_take (i := 11) (oi := opw11) (v := ?_) rfl (by kernel_rfl) (by kernel_rfl) (by kernel_rfl) (fun _ _ _ h => h) (Or.inl ⟨by rfl, ?_⟩) (by assumption) ?_
  rotate_left
  · intro w' hSw
    clear hSw
    unfold opw11
    first
    | (go_simp; done)
    | (go_simp; with_reducible rfl)
  simp only [opw11, Act.put, List.setIfInBounds_toArray, List.set_cons_zero, List.set_cons_succ]
  refine wpAnyH_take (i := 12) (oi := opw12) (v := ?_) rfl (by kernel_rfl) (by kernel_rfl) (by kernel_rfl) (fun _ _ _ h => h) (Or.inl ⟨by rfl, ?_⟩) (by assumption) ?_
  rotate_left
  · intro w' hSw
    obtain ⟨⟨-, y0, y1, y2, y3, y4, y5, y6⟩, -, x0, x1, x2, x3, x4, x5, x6⟩ := hSw
    unfold opw12
    first
    | (go_simp; done)
    | (go_simp; with_reducible rfl)
  simp only [opw12, Act.put, List.setIfInBounds_toArray, List.set_cons_zero, List.set_cons_succ]
  refine wpAnyH_take (i := 14) (oi := opw14) (v := ?_) rfl (by kernel_rfl) (by kernel_rfl) (by kernel_rfl) (fun _ _ _ h => h) (Or.inl ⟨by rfl, ?_⟩) (by assumption) ?_
  rotate_left
  · intro w' hSw
    obtain ⟨⟨-, y0, y1, y2, y3, y4, y5, y6⟩, -, x0, x1, x2, x3, x4, x5, x6⟩ := hSw
    unfold opw14
    first
    | (go_simp; done)
    | (go_simp; with_reducible rfl)
  simp only [opw14, Act.put, List.setIfInBounds_toArray, List.set_cons_zero, List.set_cons_succ]
  refine wpAnyH_ready (rs := [13]) (by kernel_rfl) (by simp) ?_
  refine AllReadyH.cons (o := opw13) rfl (fun KK hKK => ?_) AllReadyH.nil
  unfold opw13
  go_simp
  refine Calls.mono (CK.out _ b d b2 d2 (F3.out.2.2.1.later hb0)) ?_
  rintro e v1 ⟨rfl, hc⟩
  have hb1 : Below w3.heap.size w3 v1 := chain hb0 hc
  clear hc
  refine hKK.out _ _ (KP.out _ hb1) (fun hHeld1 => ?_)
  clear hKK KK
  refine wpAnyH_ready (rs := [15]) (by kernel_rfl) (by simp) ?_
  refine AllReadyH.cons (o := opw15) rfl (fun KK hKK => ?_) AllReadyH.nil
  unfold opw15
  go_simp
  refine Calls.mono (RC.out _ a c a2 c2 (F3.out.2.2.2.later hb1)) ?_
  rintro e v2 ⟨rfl, hc⟩
  have hb2 : Below w3.heap.size w3 v2 := chain hb1 hc
  clear hc
  refine hKK.out _ _ (KP.out _ hb2) (fun hHeld2 => ?_)
  clear hKK KK
  refine wpAnyH_take (i := 16) (oi := opw16) (v := ?_) rfl (by kernel_rfl) (by kernel_rfl) (by kernel_rfl) (fun _ _ _ h => h) (Or.inl ⟨by rfl, ?_⟩) (by assumption) ?_
  rotate_left
  · intro w' hSw
    clear hSw
    unfold opw16
    first
    | (go_simp; done)
    | (go_simp; with_reducible rfl)
  simp only [opw16, Act.put, List.setIfInBounds_toArray, List.set_cons_zero, List.set_cons_succ]
  refine wpAnyH_take (i := 17) (oi := opw17) (v := ?_) rfl (by kernel_rfl) (by kernel_rfl) (by kernel_rfl) (fun _ _ _ h => h) (Or.inl ⟨by rfl, ?_⟩) (by assumption) ?_
  rotate_left
  · intro w' hSw
    clear hSw
    unfold opw17
    first
    | (go_simp; done)
    | (go_simp; with_reducible rfl)
  simp only [opw17, Act.put, List.setIfInBounds_toArray, List.set_cons_zero, List.set_cons_succ]
  refine wpAnyH_take (i := 18) (oi := opw18) (v := ?_) rfl (by kernel_rfl) (by kernel_rfl) (by kernel_rfl) (fun _ _ _ h => h) (Or.inl ⟨by rfl, ?_⟩) (by assumption) ?_
  rotate_left
  · intro w' hSw
    clear hSw
    unfold opw18
    first
    | (go_simp; done)
    | (go_simp; with_reducible rfl)
  simp only [opw18, Act.put, List.setIfInBounds_toArray, List.set_cons_zero, List.set_cons_succ]
  refine wpAnyH_take (i := 19) (oi := opw19) (v := ?_) rfl (by kernel_rfl) (by kernel_rfl) (by kernel_rfl) (fun _ _ _ h => h) (Or.inl ⟨by rfl, ?_⟩) (by assumption) ?_
  rotate_left
  · intro w' hSw
    clear hSw
    unfold opw19
    first
    | (go_simp; done)
    | (go_simp; with_reducible rfl)
  simp only [opw19, Act.put, List.setIfInBounds_toArray, List.set_cons_zero, List.set_cons_succ]
  refine wpAnyH_take (i := 20) (oi := opw20) (v := ?_) rfl (by kernel_rfl) (by kernel_rfl) (by kernel_rfl) (fun _ _ _ h => h) (Or.inl ⟨by rfl, ?_⟩) (by assumption) ?_
  rotate_left
  · intro w' hSw
    obtain ⟨⟨-, y0, y1, y2, y3, y4, y5, y6⟩, -, x0, x1, x2, x3, x4, x5, x6⟩ := hSw
    unfold opw20
    first
    | (go_simp; done)
    | (go_simp; with_reducible rfl)
  simp only [opw20, Act.put, List.setIfInBounds_toArray, List.set_cons_zero, List.set_cons_succ]
  refine wpAnyH_take (i := 22) (oi := opw22) (v := ?_) rfl (by kernel_rfl) (by kernel_rfl) (by kernel_rfl) (fun _ _ _ h => h) (Or.inl ⟨by rfl, ?_⟩) (by assumption) ?_
  rotate_left
  · intro w' hSw
    clear hSw
    unfold opw22
    first
    | (go_simp; done)
    | (go_simp; with_reducible rfl)
  simp only [opw22, Act.put, List.setIfInBounds_toArray, List.set_cons_zero, List.set_cons_succ]
  refine wpAnyH_take (i := 23) (oi := opw23) (v := ?_) rfl (by kernel_rfl) (by kernel_rfl) (by kernel_rfl) (fun _ _ _ h => h) (Or.inl ⟨by rfl, ?_⟩) (by assumption) ?_
  rotate_left
  · intro w' hSw
    obtain ⟨⟨-, y0, y1, y2, y3, y4, y5, y6⟩, -, x0, x1, x2, x3, x4, x5, x6⟩ := hSw
    unfold opw23
    first
    | (go_simp; done)
    | (go_simp; with_reducible rfl)
  simp only [opw23, Act.put, List.setIfInBounds_toArray, List.set_cons_zero, List.set_cons_succ]
  refine wpAnyH_ready (rs := [21]) (by kernel_rfl) (by simp) ?_
  refine AllReadyH.cons (o := opw21) rfl (fun KK hKK => ?_) AllReadyH.nil
  unfold opw21
  go_simp
  refine Calls.mono (mlong_any k _) ?_
  rintro e v3 ⟨rfl, hc⟩
  have hc' := hc.symm
  subst hc'
  clear hc
  refine hKK.out _ _ (KP.out _ hb2) (fun hHeld3 => ?_)
  clear hKK KK
  refine wpAnyH_ready (rs := [24]) (by kernel_rfl) (by simp) ?_
  refine AllReadyH.cons (o := opw24) rfl (fun KK hKK => ?_) AllReadyH.nil
  unfold opw24
  go_simp
  refine Calls.mono (rlong_any k _) ?_
  rintro e v4 ⟨rfl, hc⟩
  have hc' := hc.symm
  subst hc'
  clear hc
  refine hKK.out _ _ (KP.out _ hb2) (fun hHeld4 => ?_)
  clear hKK KK
  refine wpAnyH_take (i := 25) (oi := opw25) (v := ?_) rfl (by kernel_rfl) (by kernel_rfl) (by kernel_rfl) (fun _ _ _ h => h) (Or.inl ⟨by rfl, ?_⟩) (by assumption) ?_
  rotate_left
  · intro w' hSw
    clear hSw
    unfold opw25
    first
    | (go_simp; done)
    | (go_simp; with_reducible rfl)
  simp only [opw25, Act.put, List.setIfInBounds_toArray, List.set_cons_zero, List.set_cons_succ]
  refine wpAnyH_take (i := 26) (oi := opw26) (v := ?_) rfl (by kernel_rfl) (by kernel_rfl) (by kernel_rfl) (fun _ _ _ h => h) (Or.inl ⟨by rfl, ?_⟩) (by assumption) ?_
  rotate_left
  · intro w' hSw
    clear hSw
    unfold opw26
    first
    | (go_simp; done)
    | (go_simp; with_reducible rfl)
  simp only [opw26, Act.put, List.setIfInBounds_toArray, List.set_cons_zero, List.set_cons_succ]
  refine wpAnyH_take (i := 27) (oi := opw27) (v := ?_) rfl (by kernel_rfl) (by kernel_rfl) (by kernel_rfl) (fun _ _ _ h => h) (Or.inl ⟨by rfl, ?_⟩) (by assumption) ?_
  rotate_left
  · intro w' hSw
    clear hSw
    unfold opw27
    first
    | (go_simp; done)
    | (go_simp; with_reducible rfl)
  simp only [opw27, Act.put, List.setIfInBounds_toArray, List.set_cons_zero, List.set_cons_succ]
  refine wpAnyH_take (i := 28) (oi := opw28) (v := ?_) rfl (by kernel_rfl) (by kernel_rfl) (by kernel_rfl) (fun _ _ _ h => h) (Or.inl ⟨by rfl, ?_⟩) (by assumption) ?_
  rotate_left
  · intro w' hSw
    obtain ⟨⟨-, y0, y1, y2, y3, y4, y5, y6⟩, -, x0, x1, x2, x3, x4, x5, x6⟩ := hSw
    unfold opw28
    first
    | (go_simp; done)
    | (go_simp; with_reducible rfl)
  simp only [opw28, Act.put, List.setIfInBounds_toArray, List.set_cons_zero, List.set_cons_succ]
  refine wpAnyH_take (i := 29) (oi := opw29) (v := ?_) rfl (by kernel_rfl) (by kernel_rfl) (by kernel_rfl) (fun _ _ _ h => h) (Or.inl ⟨by rfl, ?_⟩) (by assumption) ?_
  rotate_left
  · intro w' hSw
    obtain ⟨⟨-, y0, y1, y2, y3, y4, y5, y6⟩, -, x0, x1, x2, x3, x4, x5, x6⟩ := hSw
    unfold opw29
    first
    | (go_simp; done)
    | (go_simp; with_reducible rfl)
  simp only [opw29, Act.put, List.setIfInBounds_toArray, List.set_cons_zero, List.set_cons_succ]
  refine wpAnyH_ready (rs := [30]) (by kernel_rfl) (by simp) ?_
  refine AllReadyH.cons (o := opw30) rfl (fun KK hKK => ?_) AllReadyH.nil
  unfold opw30
  go_simp
  refine Calls.mono (sameMail_yes _ _ ⟨k, u, q, t, g, ss, is⟩ _ ⟨b, n, d, b2, n2, d2, rfl, F3.out.2.2.1.later hb2⟩ ⟨a, n, c, a2, n2, c2, rfl, F3.out.2.2.2.later hb2⟩) ?_
  rintro e v5 ⟨rfl, hc⟩
  have hb5 : Below w3.heap.size w3 v5 := chain hb2 hc
  clear hc
  refine hKK.out _ _ (KP.out _ hb5) (fun hHeld5 => ?_)
  clear hKK KK
  refine wpAnyH_take (i := 31) (oi := opw31) (v := ?_) rfl (by kernel_rfl) (by kernel_rfl) (by kernel_rfl) (fun _ _ _ h => h) (Or.inl ⟨by rfl, ?_⟩) (by assumption) ?_
  rotate_left
  · intro w' hSw
    clear hSw
    unfold opw31
    first
    | (go_simp; done)
    | (go_simp; with_reducible rfl)
  simp only [opw31, Act.put, List.setIfInBounds_toArray, List.set_cons_zero, List.set_cons_succ]
  refine wpAnyH_take (i := 32) (oi := opw32) (v := ?_) rfl (by kernel_rfl) (by kernel_rfl) (by kernel_rfl) (fun _ _ _ h => h) (Or.inl ⟨by rfl, ?_⟩) (by assumption) ?_
  rotate_left
  · intro w' hSw
    clear hSw
    unfold opw32
    first
    | (go_simp; done)
    | (go_simp; with_reducible rfl)
  simp only [opw32, Act.put, List.setIfInBounds_toArray, List.set_cons_zero, List.set_cons_succ]
  refine wpAnyH_ready (rs := [33]) (by kernel_rfl) (by simp) ?_
  refine AllReadyH.cons (o := opw33) rfl (fun KK hKK => ?_) AllReadyH.nil
  unfold opw33
  go_simp
  refine Calls.mono (mworks_any _) ?_
  rintro e v6 ⟨rfl, hc⟩
  have hb6 : Below w3.heap.size w3 v6 := chain hb5 hc
  clear hc
  refine hKK.out _ _ (KP.out _ hb6) (fun hHeld6 => ?_)
  clear hKK KK
  refine wpAnyH_take (i := 34) (oi := opw34) (v := ?_) rfl (by kernel_rfl) (by kernel_rfl) (by kernel_rfl) (fun _ _ _ h => h) (Or.inl ⟨by rfl, ?_⟩) (by assumption) ?_
  rotate_left
  · intro w' hSw
    clear hSw
    unfold opw34
    first
    | (go_simp; done)
    | (go_simp; with_reducible rfl)
  simp only [opw34, Act.put, List.setIfInBounds_toArray, List.set_cons_zero, List.set_cons_succ]
  refine wpAnyH_take (i := 35) (oi := opw35) (v := ?_) rfl (by kernel_rfl) (by kernel_rfl) (by kernel_rfl) (fun _ _ _ h => h) (Or.inl ⟨by rfl, ?_⟩) (by assumption) ?_
  rotate_left
  · intro w' hSw
    clear hSw
    unfold opw35
    first
    | (go_simp; done)
    | (go_simp; with_reducible rfl)
  simp only [opw35, Act.put, List.setIfInBounds_toArray, List.set_cons_zero, List.set_cons_succ]
  refine wpAnyH_done (by kernel_rfl) ?_ _
  refine NoPanic.normal ?_
  have F4 : Hid (Below w.heap.size w v6) := chain F3.out.1 hb6
  go_wp2
  go_ret
  exact ⟨rfl, F4.out⟩
end Go.Proofs.Ytbaajpefefedbaa
