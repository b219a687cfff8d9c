/- The program's Encode. -/
import Derived.Test.YtbogoheigbiegaaDoorZgG18
import Derived.Test.YtbogoheigbiegaaDoorZgG19
namespace Go.Proofs.YtbogoheigbiegaaDoor.Mai
open Go.RowKit Go.Proofs.Fd Go.Proofs.Ml
set_option maxRecDepth 20000
theorem heap_made (w : World) (o : Obj) : (w.alloc o).heap[w.heap.size]? = some o := by
  show (w.heap.push o)[w.heap.size]? = some o
  simp
theorem app_three (V : World) (ty : Nat) (x y z : ByteArray) (a : Option Addr) (ks : List ByteArray) (n cap : Nat) (hn : ks.length = n) (ha : a = none → n = 0 ∧ cap = 0) (hc : StrAt V a ks) (hz : n ≤ 1000) :
    ∃ v' w', (Builtin.append_ #[36, 36] ty #[.slice (some ⟨V.heap.size, 0, none⟩) 3 3, .slice a n cap]).run Tryd.prog (V.alloc (.cells #[.string x, .string y, .string z] 9)) = .ok v' w' ∧ w'.ownsRow V.heap.size 9 1 v' (3 + n) (scells ([x, y, z] ++ ks)) ∧ Below V.heap.size V w' := by
  have hb : Below V.heap.size V (V.alloc (.cells #[.string x, .string y, .string z] 9)) := (Below.refl _ _).alloc (Nat.le_refl _) _
  have o0 : (V.alloc (.cells #[.string x, .string y, .string z] 9)).ownsRow V.heap.size 9 1 (.slice (some ⟨V.heap.size, 0, none⟩) 3 3) 3 (scells [x, y, z]) :=
    ⟨rfl, .inr ⟨V.heap.size, 3, #[.string x, .string y, .string z], rfl, Nat.le_refl _, heap_made V _, Nat.le_refl _, by unfold maxLen; decide, rfl, rfl⟩⟩
  obtain ⟨v', w', h1, h2, h3⟩ := app_strs _ ty V.heap.size _ 3 _ o0 a ks n cap hn ha (hc.later hb rfl) (by omega) (by simp)
  refine ⟨v', w', h1, ?_, hb.grown h3 (by simp) (fun k hk => (o0.lt k hk).1)⟩
  rw [scells_app]
  exact h2
theorem app_one (V : World) (ty base : Nat) (v : Value) (m : Nat) (ks : List ByteArray) (hown : V.ownsRow base 9 1 v m (scells ks)) (x : ByteArray) (hz : m ≤ 1000) (hb : base ≤ V.heap.size) :
    ∃ v' w', (Builtin.append_ #[36, 36] ty #[v, .slice (some ⟨V.heap.size, 0, none⟩) 1 1]).run Tryd.prog (V.alloc (.cells #[.string x] 9)) = .ok v' w' ∧ w'.ownsRow base 9 1 v' (m + 1) (scells (ks ++ [x])) ∧ Below base V w' ∧ ∀ b, b < V.heap.size → some b ≠ v.ownBlock → w'.heap[b]? = V.heap[b]? := by
  have hb2 : Below V.heap.size V (V.alloc (.cells #[.string x] 9)) := (Below.refl _ _).alloc (Nat.le_refl _) _
  have o0 : (V.alloc (.cells #[.string x] 9)).ownsRow base 9 1 v m (scells ks) := own_later hown hb2
  obtain ⟨v', w', h1, h2, h3⟩ := app_strs _ ty base v m _ o0 (some ⟨V.heap.size, 0, none⟩) [x] 1 1 rfl (fun h => by cases h) (strAt1 (by simp [go_sem])) (by omega) (by simp; omega)
  refine ⟨v', w', h1, ?_, (hb2.mono hb).grown h3 (by simp; omega) (fun k hk => (o0.lt k hk).1), fun b hl hne => ?_⟩
  · rw [scells_app]
    exact h2
  · rw [h3.block b (by simp; omega) hne, hb2.block b hl]
def slotS (l : List Sl) : List ByteArray := l.map fun s => mk (slot s)
theorem own_down {w : World} {b b' : Nat} {e : TypeId} {size : Nat} {v : Value} {n : Nat} {xs : List Value} (h : w.ownsRow b e size v n xs) (hb : b' ≤ b) : w.ownsRow b' e size v n xs := by
  refine ⟨h.1, ?_⟩
  rcases h.2 with hn | ⟨g, cap, cur, rfl, hbg, rest⟩
  · exact .inl hn
  · exact .inr ⟨g, cap, cur, rfl, Nat.le_trans hb hbg, rest⟩
theorem slots_ok {m : Ml} (h : okB m = true) : ∀ s ∈ m.sl, emB s = true ∨ okS s = true := by
  rcases ok_cases h with ⟨-, -, -, -, -, s, i⟩ | ⟨-, -, -, ⟨-, -, s, i⟩ | ⟨-, -, s, i, b⟩ | ⟨-, -, s, i, -⟩⟩
  · rw [s]; intro x hx; cases hx
  · rw [s]; intro x hx; cases hx
  · exact slB_each _ _ b
  · rw [s]; intro x hx; cases hx
theorem slot_flat {id tx : ByteArray} (h : emB ⟨id, tx⟩ = true ∨ okS ⟨id, tx⟩ = true) : flat [id, mk [b8 (tx.size : Int)], tx] = by' id ++ ([UInt8.ofNat tx.size] ++ by' tx) ∧ (by' id ++ ([UInt8.ofNat tx.size] ++ by' tx)).length ≤ 239 := by
  constructor
  · have e : b8 (tx.size : Int) = UInt8.ofNat tx.size := by
      apply UInt8.toNat.inj
      rw [b8_nat, UInt8.toNat_ofNat']
      omega
    show by' id ++ (by' (mk [b8 (tx.size : Int)]) ++ (by' tx ++ [])) = _
    rw [by_mk, e, List.append_nil]
  · have := slot_len h
    unfold slot pad at this
    rw [List.length_append] at this
    exact Nat.le_trans (Nat.le_add_right _ _) (Nat.le_of_eq this)
theorem strAt3 {w : World} {B : Nat} {x y z : ByteArray} (h0 : w.cell? ⟨B, 0, none⟩ = some (.string x)) (h1 : w.cell? ⟨B, 1, none⟩ = some (.string y)) (h2 : w.cell? ⟨B, 2, none⟩ = some (.string z)) : StrAt w (some ⟨B, 0, none⟩) [x, y, z] := fun i hi => by
  refine ⟨B, 0, rfl, ?_⟩
  rcases (by simp at hi; omega : i = 0 ∨ i = 1 ∨ i = 2) with rfl | rfl | rfl
  · exact h0
  · exact h1
  · exact h2
theorem MlAt.keep {w w' : World} {B b : Nat} {k u q : Int} {t g : ByteArray} {a : Option Addr} {n c : Nat} {a2 : Option Addr} {n2 c2 : Nat} (h : MlAt w b k u q t g a n c a2 n2 c2) (hb : Below B w w') (hB : b < B) : MlAt w' b k u q t g a n c a2 n2 c2 := by
  obtain ⟨f, h0, h1, h2, h3, h4, h5, h6⟩ := h
  have e : w'.heap[b]? = w.heap[b]? := hb.block b hB
  exact ⟨fun o => (World.frozen?_of_block (a := ⟨b, o, none⟩) e).trans (f o), (World.cell?_of_block (a := ⟨b, 0, none⟩) e).trans h0, (World.cell?_of_block (a := ⟨b, 1, none⟩) e).trans h1, (World.cell?_of_block (a := ⟨b, 2, none⟩) e).trans h2, (World.cell?_of_block (a := ⟨b, 3, none⟩) e).trans h3, (World.cell?_of_block (a := ⟨b, 4, none⟩) e).trans h4, (World.cell?_of_block (a := ⟨b, 5, none⟩) e).trans h5, (World.cell?_of_block (a := ⟨b, 6, none⟩) e).trans h6⟩
set_option maxHeartbeats 1000000 in
theorem encode_no (k u q : Int) (t g : ByteArray) (a : Option Addr) (n c : Nat) (a2 : Option Addr) (n2 c2 : Nat) (ss : List Sl) (is : List ByteArray) (h : okB ⟨k, u, q, t, g, ss, is⟩ = false) (w : World) (L : Hid (Lists w a n c a2 n2 c2 ss is)) :
    Calls Tryd.prog 23 #[mv k u q t g a n c a2 n2 c2] w fun e w' => e = .returned (.tuple #[.string e0, .int .i64 110]) ∧ Below w.heap.size w w' := by
  have CK := fun w h => check_any k u q t g a n c a2 n2 c2 ss is w h
  rw [h, show chkE false = 110 from rfl] at CK
  clear h
  go_enter Tryd.func23, Tryd.ntmps23
  go_wp2_with fail
  refine Calls.mono (CK _ (L.out.later ((Below.refl _ _).alloc (Nat.le_refl _) _))) ?_
  rintro e w1 ⟨rfl, hb1⟩
  have B1 : Hid (Below w.heap.size w w1) := chain ((Below.refl _ _).alloc (Nat.le_refl _) _) hb1
  clear hb1 CK
  go_wp2
  go_ret2
  exact ⟨rfl, B1.out⟩
theorem long_le (k : Int) : long k ≤ 1000000 := by
  unfold long
  split
  · decide
  split
  · decide
  split
  · decide
  split
  · decide
  · decide
theorem flat_app (a b : List ByteArray) : flat (a ++ b) = flat a ++ flat b := by unfold flat; rw [List.flatMap_append]
theorem flat_slotS (l : List Sl) : flat (slotS l) = slots l := by
  induction l with
  | nil => rfl
  | cons x r ih =>
    show flat (mk (slot x) :: slotS r) = _
    rw [flat_cons, by_mk, ih, slots_cons]
theorem flat_body {k u q : Int} {t g : ByteArray} {ss : List Sl} {is : List ByteArray} {ld : ByteArray} {n : Nat} (h : okB ⟨k, u, q, t, g, ss, is⟩ = true) (hl : mk (ldl k u q) = ld) (hn : ss.length ≤ n) :
    mk (pad (long k) (flat ([ld, t, g] ++ is ++ slotS (ss.take n)))) = mk (txt ⟨k, u, q, t, g, ss, is⟩) ∧ (flat ([ld, t, g] ++ is ++ slotS (ss.take n))).length ≤ long k := by
  have e : flat ([ld, t, g] ++ is ++ slotS (ss.take n)) = body ⟨k, u, q, t, g, ss, is⟩ := by
    rw [List.take_of_length_le hn, flat_app, flat_app, flat_slotS, ← hl]
    show (by' (mk (ldl k u q)) ++ (by' t ++ (by' g ++ []))) ++ flat is ++ slots ss = ldl k u q ++ (by' t ++ (by' g ++ (flat is ++ slots ss)))
    rw [by_mk]
    simp
  rw [e]
  exact ⟨rfl, body_len h⟩
def ope0 : Oper := { dst := some 30, op := Go.Op.move (Go.Operand.tmp 5), type := 36, pos := "mail.go:39", after := #[], guard := none }
def ope1 : Oper := { dst := some 31, op := Go.Op.fieldAddr 83 (Go.Operand.tmp 7) 0, type := 0, pos := "mail.go:39", after := #[], guard := none }
def ope2 : Oper := { dst := some 32, op := Go.Op.load 9 (Go.Operand.tmp 31), type := 9, pos := "mail.go:39", after := #[{ on := 1, ground := Go.Ground.data }], guard := none }
def ope3 : Oper := { dst := some 33, op := Go.Op.fieldAddr 83 (Go.Operand.tmp 7) 1, type := 0, pos := "mail.go:39", after := #[], guard := none }
def ope4 : Oper := { dst := some 34, op := Go.Op.load 9 (Go.Operand.tmp 33), type := 9, pos := "mail.go:39", after := #[{ on := 3, ground := Go.Ground.data }], guard := none }
def ope5 : Oper := { dst := some 35, op := Go.Op.call { callee := Go.Callee.builtin Go.Builtin.len, args := #[Go.Operand.tmp 34], argTypes := #[9] }, type := 3, pos := "mail.go:39", after := #[{ on := 4, ground := Go.Ground.data }], guard := none }
def ope6 : Oper := { dst := some 36, op := Go.Op.buildSlice 49 1 #[(0, Go.Operand.tmp 35)], type := 49, pos := "mail.go:39", after := #[{ on := 5, ground := Go.Ground.data }], guard := none }
def ope7 : Oper := { dst := some 37, op := Go.Op.call { callee := Go.Callee.value (Go.Operand.func 41), args := #[Go.Operand.tmp 36], argTypes := #[49] }, type := 9, pos := "mail.go:39", after := #[{ on := 6, ground := Go.Ground.data }], guard := none }
def ope8 : Oper := { dst := some 38, op := Go.Op.fieldAddr 83 (Go.Operand.tmp 7) 1, type := 0, pos := "mail.go:39", after := #[], guard := none }
def ope9 : Oper := { dst := some 39, op := Go.Op.load 9 (Go.Operand.tmp 38), type := 9, pos := "mail.go:39", after := #[{ on := 8, ground := Go.Ground.data }], guard := none }
def ope10 : Oper := { dst := some 40, op := Go.Op.buildSlice 36 3 #[(0, Go.Operand.tmp 32), (1, Go.Operand.tmp 37), (2, Go.Operand.tmp 39)], type := 36, pos := "mail.go:39", after := #[{ on := 2, ground := Go.Ground.data }, { on := 7, ground := Go.Ground.data }, { on := 9, ground := Go.Ground.data }], guard := none }
def ope11 : Oper := { dst := some 41, op := Go.Op.call { callee := Go.Callee.value (Go.Operand.func 40), args := #[Go.Operand.const (Go.Value.int Go.IntKind.i64 239), Go.Operand.tmp 40], argTypes := #[3, 36] }, type := 9, pos := "mail.go:39", after := #[{ on := 10, ground := Go.Ground.data }, { on := 7, ground := Go.Ground.chain }], guard := none }
def ope12 : Oper := { dst := some 42, op := Go.Op.buildSlice 36 1 #[(0, Go.Operand.tmp 41)], type := 36, pos := "mail.go:39", after := #[{ on := 11, ground := Go.Ground.data }], guard := none }
def ope13 : Oper := { dst := some 43, op := Go.Op.call { callee := Go.Callee.builtin Go.Builtin.append, args := #[Go.Operand.tmp 30, Go.Operand.tmp 42], argTypes := #[36, 36] }, type := 36, pos := "mail.go:39", after := #[{ on := 0, ground := Go.Ground.data }, { on := 12, ground := Go.Ground.data }, { on := 11, ground := Go.Ground.chain }], guard := none }
def ope14 : Oper := { dst := some 5, op := Go.Op.assign (Go.Operand.tmp 43), type := 36, pos := "mail.go:39", after := #[{ on := 13, ground := Go.Ground.data }, { on := 13, ground := Go.Ground.chain }, { on := 0, ground := Go.Ground.phase }, { on := 1, ground := Go.Ground.phase }, { on := 2, ground := Go.Ground.phase }, { on := 3, ground := Go.Ground.phase }, { on := 4, ground := Go.Ground.phase }, { on := 5, ground := Go.Ground.phase }, { on := 6, ground := Go.Ground.phase }, { on := 7, ground := Go.Ground.phase }, { on := 8, ground := Go.Ground.phase }, { on := 9, ground := Go.Ground.phase }, { on := 10, ground := Go.Ground.phase }, { on := 11, ground := Go.Ground.phase }, { on := 12, ground := Go.Ground.phase }, { on := 13, ground := Go.Ground.phase }], guard := none }
set_option maxHeartbeats 4000000 in
theorem encode_ok (k u q : Int) (t g : ByteArray) (a : Option Addr) (n c : Nat) (a2 : Option Addr) (n2 c2 : Nat) (ss : List Sl) (is : List ByteArray) (h : okB ⟨k, u, q, t, g, ss, is⟩ = true) (w : World) (L : Hid (Lists w a n c a2 n2 c2 ss is)) :
    Calls Tryd.prog 23 #[mv k u q t g a n c a2 n2 c2] w fun e w' => e = .returned (.tuple #[.string (mk (txt ⟨k, u, q, t, g, ss, is⟩)), .int .i64 0]) ∧ Below w.heap.size w w' := by
  have CK := fun w h => check_any k u q t g a n c a2 n2 c2 ss is w h
  rw [h, show chkE true = 0 from rfl] at CK
  obtain ⟨R, hR⟩ : ∃ R, mk (txt ⟨k, u, q, t, g, ss, is⟩) = R := ⟨_, rfl⟩
  have HR : Hid (mk (txt ⟨k, u, q, t, g, ss, is⟩) = R ∧ okB ⟨k, u, q, t, g, ss, is⟩ = true) := ⟨hR, h⟩
  rw [hR]
  clear hR h
  have n4 : n ≤ 4 ∧ n2 ≤ 4 := by
    rw [← L.out.ls, ← L.out.li]
    rcases ok_cases HR.out.2 with ⟨-, -, -, -, -, s, i⟩ | ⟨-, -, -, ⟨-, -, s, i⟩ | ⟨-, -, s, i, -⟩ | ⟨-, -, s, i, -⟩⟩
    · simp only at s i; rw [s, i]; decide
    · simp only at s i; rw [s, i]; decide
    · simp only at s i; rw [s, i]; decide
    · simp only at s i; rw [s]; exact ⟨by decide, i⟩
  obtain ⟨ld, hld⟩ : ∃ ld, mk (ldl k u q) = ld := ⟨_, rfl⟩
  have LD : Hid (∀ w, Calls Tryd.prog 39 #[mv k u q t g a n c a2 n2 c2] w fun e w' => e = .returned (.string ld) ∧ Below w.heap.size w w') := hld ▸ lead_any k u q t g a n c a2 n2 c2
  have HL : Hid (mk (ldl k u q) = ld) := hld
  clear hld
  go_enter Tryd.func23, Tryd.ntmps23
  go_wp2_with fail
  refine Calls.mono (CK _ (L.out.later ((Below.refl _ _).alloc (Nat.le_refl _) _))) ?_
  rintro e w1 ⟨rfl, hb1⟩
  have B1 : Hid (Below w.heap.size w w1 ∧ MlAt w1 w.heap.size k u q t g a n c a2 n2 c2 ∧ Lists w1 a n c a2 n2 c2 ss is) := by
    have hb : ∀ o, Below w.heap.size w (w.alloc o) := fun o => (Below.refl _ _).alloc (Nat.le_refl _) _
    exact ⟨chain (hb _) hb1, (MlAt.new w _ _ _ _ _ _ _ _ _ _ _ _).later hb1, (L.out.later (hb _)).later hb1⟩
  clear hb1 CK
  go_wp2_with fail
  obtain ⟨-, p0, p1, p2, p3, p4, p5, p6⟩ := B1.out.2.1
  have KP : Hid (∀ w', Below w1.heap.size w1 w' → Below w1.heap.size w1 w' ∧ w'.cell? ⟨w.heap.size, 0, none⟩ = some (.int .i64 k) ∧ w'.cell? ⟨w.heap.size, 1, none⟩ = some (.int .i64 u) ∧ w'.cell? ⟨w.heap.size, 2, none⟩ = some (.int .i64 q) ∧ w'.cell? ⟨w.heap.size, 3, none⟩ = some (.string t) ∧ w'.cell? ⟨w.heap.size, 4, none⟩ = some (.string g) ∧ w'.cell? ⟨w.heap.size, 5, none⟩ = some (.slice a n c) ∧ w'.cell? ⟨w.heap.size, 6, none⟩ = some (.slice a2 n2 c2)) := fun w' h => ⟨h, cell_later h p0, cell_later h p1, cell_later h p2, cell_later h p3, cell_later h p4, cell_later h p5, cell_later h p6⟩
  have APP : Hid (∀ V, Below w1.heap.size w1 V → ∃ v' w', (Builtin.append_ #[36, 36] 36 #[.slice (some ⟨V.heap.size, 0, none⟩) 3 3, .slice a2 n2 c2]).run Tryd.prog (V.alloc (.cells #[.string ld, .string t, .string g] 9)) = .ok v' w' ∧ w'.ownsRow V.heap.size 9 1 v' (3 + n2) (scells ([ld, t, g] ++ is)) ∧ Below V.heap.size V w') := fun V hV => app_three V _ ld t g a2 is n2 c2 B1.out.2.2.li B1.out.2.2.zi (B1.out.2.2.i.later hV rfl) (by omega)
  go_region_held3 (fun w' => Below w1.heap.size w1 w' ∧ w'.cell? ⟨w.heap.size, 0, none⟩ = some (.int .i64 k) ∧ w'.cell? ⟨w.heap.size, 1, none⟩ = some (.int .i64 u) ∧ w'.cell? ⟨w.heap.size, 2, none⟩ = some (.int .i64 q) ∧ w'.cell? ⟨w.heap.size, 3, none⟩ = some (.string t) ∧ w'.cell? ⟨w.heap.size, 4, none⟩ = some (.string g) ∧ w'.cell? ⟨w.heap.size, 5, none⟩ = some (.slice a n c) ∧ w'.cell? ⟨w.heap.size, 6, none⟩ = some (.slice a2 n2 c2)) (first | exact KP.out _ (Below.refl _ _).drew | exact KP.out _ hb5 | exact KP.out _ hb4 | exact KP.out _ (hb3.alloc hb3.size _) | exact KP.out _ hb3 | assumption) (first | (go_at_call 39; refine Calls.mono (LD.out _) ?_; rintro e w3 ⟨rfl, hb2⟩; have hb3 : Below w1.heap.size w1 w3 := chain (Below.refl _ _).drew hb2) | (obtain ⟨v5, w5, r5, o5, b5⟩ := APP.out w3 hb3; have hb5 : Below w1.heap.size w1 w5 := chain hb3 b5; rw [if_pos (by kernel_rfl)]; refine Go.Lib.wp_append_run _ (.tmp 19) (.tmp 21) 36 36 rfl _ _ rfl rfl _ _ r5 ?_))
  rename_i hHeld
  obtain ⟨m, hm⟩ : ∃ m, 3 + n2 = m := ⟨_, rfl⟩
  have P0 : Hid (w5.ownsRow (w.heap.size + 1) 9 1 v5 m (scells ([ld, t, g] ++ is ++ slotS (ss.take 0))) ∧ Below w.heap.size w w5 ∧ MlAt w5 w.heap.size k u q t g a n c a2 n2 c2) := by
    refine ⟨?_, chain B1.out.1 hb5, B1.out.2.1.later hb5⟩
    rw [show slotS (ss.take 0) = [] from rfl, List.append_nil, ← hm]
    exact own_down o5 (Nat.le_trans B1.out.2.1.lt hb3.size)
  clear hHeld hb2 hb3 r5 o5 b5 hb5 APP KP p0 p1 p2 p3 p4 p5 p6 B1 LD
  obtain ⟨-, p0, p1, p2, p3, p4, p5, p6⟩ := P0.out.2.2
  go_wp2
  clear p0 p1 p2 p3 p4 p5 p6
  go_loopw [5, 26] (fun pv i wr => ∃ k' : Nat, k' ≤ n ∧ i = .int .i64 (k' : Int) ∧ Hid (wr.ownsRow (w.heap.size + 1) 9 1 pv (m + k') (scells ([ld, t, g] ++ is ++ slotS (ss.take k'))) ∧ Below w.heap.size w wr ∧ MlAt wr w.heap.size k u q t g a n c a2 n2 c2)) (fun _ i _ => n - (intOf i).toNat)
  case atStart => exact ⟨0, Nat.zero_le _, rfl, P0.out⟩
  case round =>
    obtain ⟨k', hk', rfl, I⟩ := hrel
    clear P0
    by_cases hlt : k' < n
    · have g1 : (k' : Int) < (n : Int) := by omega
      have hk2 : k' < ss.length := by rw [L.out.ls]; exact hlt
      obtain ⟨b, o, rfl, c0, c1⟩ := (L.out.later I.out.2.1).s k' hk2
      have HS : Hid (emB ss[k'] = true ∨ okS ss[k'] = true) := slots_ok HR.out.2 _ (List.getElem_mem hk2)
      have TK : Hid (slotS (ss.take (k' + 1)) = slotS (ss.take k') ++ [mk (slot ss[k'])]) := by
        show _ = _
        unfold slotS
        rw [List.take_succ_eq_append_getElem hk2, List.map_append]; rfl
      generalize ss[k'] = s at c0 c1 HS TK
      obtain ⟨id, tx⟩ := s
      simp only at c0 c1
      obtain ⟨z, hz⟩ : ∃ z, mk (slot ⟨id, tx⟩) = z := ⟨_, rfl⟩
      obtain ⟨y, hy⟩ : ∃ y, mk [b8 (tx.size : Int)] = y := ⟨_, rfl⟩
      have IB : Hid (∀ (V : World) (B : Nat), V.cell? ⟨B, 0, none⟩ = some (.int .i64 (tx.size : Int)) → Calls Tryd.prog 41 #[.slice (some ⟨B, 0, none⟩) 1 1] V fun e w' => e = .returned (.string y) ∧ Below V.heap.size V w') := fun V B h => by
        rw [← hy]; exact inBytes_any _ [(tx.size : Int)] 1 1 rfl (by decide) V (numAt1 h)
      have WR : Hid (∀ (V : World) (B : Nat), V.cell? ⟨B, 0, none⟩ = some (.string id) → V.cell? ⟨B, 1, none⟩ = some (.string y) → V.cell? ⟨B, 2, none⟩ = some (.string tx) → Calls Tryd.prog 40 #[.int .i64 239, .slice (some ⟨B, 0, none⟩) 3 3] V fun e w' => e = .returned (.string z) ∧ Below V.heap.size V w') := fun V B h0 h1 h2 => by
        have e := slot_flat HS.out
        rw [hy] at e
        have := write_any 239 (some ⟨B, 0, none⟩) [id, y, tx] 3 3 rfl (by decide) (by show (flat _).length ≤ 239; rw [e.1]; exact e.2) (by decide) V (strAt3 h0 h1 h2)
        rw [e.1] at this
        rw [← hz]
        exact this
      rw [hz] at TK
      clear hz hy HS
      go_wp2_with fail
      obtain ⟨X, hX⟩ : ∃ X, wr.alloc (.cells #[.string id, .string tx] 83) = X := ⟨_, rfl⟩
      rw [hX]
      have H0 : Hid (X.cell? ⟨wr.heap.size, 0, none⟩ = some (.string id) ∧ X.cell? ⟨wr.heap.size, 1, none⟩ = some (.string tx) ∧ Below wr.heap.size wr X) := by
        rw [← hX]
        exact ⟨by simp [go_sem], by simp [go_sem], (Below.refl _ _).alloc (Nat.le_refl _) _⟩
      clear hX c0 c1
      obtain ⟨s0, s1, -⟩ := H0.out
      have KP : Hid (∀ w', Below X.heap.size X w' → w'.cell? ⟨wr.heap.size, 0, none⟩ = some (.string id) ∧ w'.cell? ⟨wr.heap.size, 1, none⟩ = some (.string tx)) := fun w' h => ⟨cell_later h s0, cell_later h s1⟩
      have APP : Hid (∀ V, Below X.heap.size X V → ∃ v' w', (Builtin.append_ #[36, 36] 36 #[u5, .slice (some ⟨V.heap.size, 0, none⟩) 1 1]).run Tryd.prog (V.alloc (.cells #[.string z] 9)) = .ok v' w' ∧ w'.ownsRow (w.heap.size + 1) 9 1 v' (m + (k' + 1)) (scells ([ld, t, g] ++ is ++ slotS (ss.take (k' + 1)))) ∧ Below (w.heap.size + 1) wr w' ∧ w'.cell? ⟨wr.heap.size, 0, none⟩ = some (.string id) ∧ w'.cell? ⟨wr.heap.size, 1, none⟩ = some (.string tx)) := fun V hV => by
        have o1 := own_later (own_later I.out.1 H0.out.2.2) hV
        obtain ⟨v', w', h1, h2, h3, h4⟩ := app_one V 36 (w.heap.size + 1) u5 (m + k') _ o1 z (by omega) (Nat.le_trans I.out.2.2.lt (chain H0.out.2.2 hV).size)
        have e : w'.heap[wr.heap.size]? = V.heap[wr.heap.size]? := h4 _ (Nat.lt_of_lt_of_le (World.block_lt_of_cell? _ _ s0) hV.size) (fun q => absurd (I.out.1.lt _ q.symm).2 (Nat.lt_irrefl _))
        refine ⟨v', w', h1, ?_, ((chain H0.out.2.2 hV).mono I.out.2.2.lt).trans h3, (World.cell?_of_block (a := ⟨wr.heap.size, 0, none⟩) e).trans (cell_later hV s0), (World.cell?_of_block (a := ⟨wr.heap.size, 1, none⟩) e).trans (cell_later hV s1)⟩
        rw [TK.out, ← List.append_assoc]
        exact h2
      clear H0
      refine wp_region_noPanic ?_
      refine wp_region_held_drew (S := fun w' => w'.cell? ⟨wr.heap.size, 0, none⟩ = some (.string id) ∧ w'.cell? ⟨wr.heap.size, 1, none⟩ = some (.string tx)) (by kernel_rfl) (⟨s0, s1⟩) (fun hHeld => ?_)
      refine wpAnyH_take (i := 0) (oi := ope0) (v := ?_) rfl (by kernel_rfl) (by kernel_rfl) (by kernel_rfl) (fun _ _ _ h => h) (Or.inl ⟨by rfl, ?_⟩) (by assumption) ?_
      rotate_left
      · intro w' hSw
        clear hSw
        unfold ope0
        first
        | (go_simp; done)
        | (go_simp; with_reducible rfl)
      simp only [ope0, Act.put, List.setIfInBounds_toArray, List.set_cons_zero, List.set_cons_succ]
      refine wpAnyH_take (i := 1) (oi := ope1) (v := ?_) rfl (by kernel_rfl) (by kernel_rfl) (by kernel_rfl) (fun _ _ _ h => h) (Or.inl ⟨by rfl, ?_⟩) (by assumption) ?_
      rotate_left
      · intro w' hSw
        clear hSw
        unfold ope1
        first
        | (go_simp; done)
        | (go_simp; with_reducible rfl)
      simp only [ope1, Act.put, List.setIfInBounds_toArray, List.set_cons_zero, List.set_cons_succ]
      refine wpAnyH_take (i := 2) (oi := ope2) (v := ?_) rfl (by kernel_rfl) (by kernel_rfl) (by kernel_rfl) (fun _ _ _ h => h) (Or.inl ⟨by rfl, ?_⟩) (by assumption) ?_
      rotate_left
      · intro w' hSw
        obtain ⟨y0, y1⟩ := hSw
        unfold ope2
        first
        | (go_simp; done)
        | (go_simp; with_reducible rfl)
      simp only [ope2, Act.put, List.setIfInBounds_toArray, List.set_cons_zero, List.set_cons_succ]
      refine wpAnyH_take (i := 3) (oi := ope3) (v := ?_) rfl (by kernel_rfl) (by kernel_rfl) (by kernel_rfl) (fun _ _ _ h => h) (Or.inl ⟨by rfl, ?_⟩) (by assumption) ?_
      rotate_left
      · intro w' hSw
        clear hSw
        unfold ope3
        first
        | (go_simp; done)
        | (go_simp; with_reducible rfl)
      simp only [ope3, Act.put, List.setIfInBounds_toArray, List.set_cons_zero, List.set_cons_succ]
      refine wpAnyH_take (i := 4) (oi := ope4) (v := ?_) rfl (by kernel_rfl) (by kernel_rfl) (by kernel_rfl) (fun _ _ _ h => h) (Or.inl ⟨by rfl, ?_⟩) (by assumption) ?_
      rotate_left
      · intro w' hSw
        obtain ⟨y0, y1⟩ := hSw
        unfold ope4
        first
        | (go_simp; done)
        | (go_simp; with_reducible rfl)
      simp only [ope4, Act.put, List.setIfInBounds_toArray, List.set_cons_zero, List.set_cons_succ]
      refine wpAnyH_take (i := 5) (oi := ope5) (v := ?_) rfl (by kernel_rfl) (by kernel_rfl) (by kernel_rfl) (fun _ _ _ h => h) (Or.inl ⟨by rfl, ?_⟩) (by assumption) ?_
      rotate_left
      · intro w' hSw
        clear hSw
        unfold ope5
        first
        | (go_simp; done)
        | (go_simp; with_reducible rfl)
      simp only [ope5, Act.put, List.setIfInBounds_toArray, List.set_cons_zero, List.set_cons_succ]
      refine wpAnyH_take (i := 8) (oi := ope8) (v := ?_) rfl (by kernel_rfl) (by kernel_rfl) (by kernel_rfl) (fun _ _ _ h => h) (Or.inl ⟨by rfl, ?_⟩) (by assumption) ?_
      rotate_left
      · intro w' hSw
        clear hSw
        unfold ope8
        first
        | (go_simp; done)
        | (go_simp; with_reducible rfl)
      simp only [ope8, Act.put, List.setIfInBounds_toArray, List.set_cons_zero, List.set_cons_succ]
      refine wpAnyH_take (i := 9) (oi := ope9) (v := ?_) rfl (by kernel_rfl) (by kernel_rfl) (by kernel_rfl) (fun _ _ _ h => h) (Or.inl ⟨by rfl, ?_⟩) (by assumption) ?_
      rotate_left
      · intro w' hSw
        obtain ⟨y0, y1⟩ := hSw
        unfold ope9
        first
        | (go_simp; done)
        | (go_simp; with_reducible rfl)
      simp only [ope9, Act.put, List.setIfInBounds_toArray, List.set_cons_zero, List.set_cons_succ]
      refine wpAnyH_ready (rs := [6]) (by kernel_rfl) (by simp) ?_
      refine AllReadyH.cons (o := ope6) rfl (fun KK hKK => ?_) AllReadyH.nil
      unfold ope6
      go_simp
      refine hKK.out _ _ (KP.out _ ((Below.refl _ _).drew.alloc (Nat.le_refl _) _)) (fun hHeldA => ?_)
      clear hKK KK hHeld
      refine wpAnyH_ready (rs := [7]) (by kernel_rfl) (by simp) ?_
      refine AllReadyH.cons (o := ope7) rfl (fun KK hKK => ?_) AllReadyH.nil
      unfold ope7
      go_simp
      refine Calls.mono (IB.out _ _ (by simp [go_sem])) ?_
      rintro e w6 ⟨rfl, hc6⟩
      have hb6 : Below X.heap.size X w6 := chain ((Below.refl _ _).drew.alloc (Nat.le_refl _) _) hc6
      refine hKK.out _ _ (KP.out _ hb6) (fun hHeldB => ?_)
      clear hKK KK hHeldA hc6
      refine wpAnyH_ready (rs := [10]) (by kernel_rfl) (by simp) ?_
      refine AllReadyH.cons (o := ope10) rfl (fun KK hKK => ?_) AllReadyH.nil
      unfold ope10
      go_simp
      refine hKK.out _ _ (KP.out _ (hb6.alloc hb6.size _)) (fun hHeldC => ?_)
      clear hKK KK hHeldB
      refine wpAnyH_ready (rs := [11]) (by kernel_rfl) (by simp) ?_
      refine AllReadyH.cons (o := ope11) rfl (fun KK hKK => ?_) AllReadyH.nil
      unfold ope11
      go_simp
      refine Calls.mono (WR.out _ _ (by simp [go_sem]) (by simp [go_sem]) (by simp [go_sem])) ?_
      rintro e w7 ⟨rfl, hc7⟩
      have hb7 : Below X.heap.size X w7 := chain (hb6.alloc hb6.size _) hc7
      refine hKK.out _ _ (KP.out _ hb7) (fun hHeldD => ?_)
      clear hKK KK hHeldC hc7 hb6
      refine wpAnyH_ready (rs := [12]) (by kernel_rfl) (by simp) ?_
      refine AllReadyH.cons (o := ope12) rfl (fun KK hKK => ?_) AllReadyH.nil
      unfold ope12
      go_simp
      refine hKK.out _ _ (KP.out _ (hb7.alloc hb7.size _)) (fun hHeldF => ?_)
      clear hKK KK hHeldD
      refine wpAnyH_ready (rs := [13]) (by kernel_rfl) (by simp) ?_
      refine AllReadyH.cons (o := ope13) rfl (fun KK hKK => ?_) AllReadyH.nil
      obtain ⟨v8, w8, hr, o8, b8', x0, x1⟩ := APP.out w7 hb7
      rw [if_pos (by kernel_rfl)]
      refine Go.Lib.wp_append_run _ _ _ _ _ rfl _ _ rfl rfl _ _ hr ?_
      refine hKK.out _ _ (⟨x0, x1⟩) (fun hHeldE => ?_)
      clear hKK KK hr x0 x1 hHeldF APP hb7 KP s0 s1
      simp only [ope13, Act.put, List.setIfInBounds_toArray, List.set_cons_zero, List.set_cons_succ]
      refine wpAnyH_take (i := 14) (oi := ope14) (v := ?_) rfl (by kernel_rfl) (by kernel_rfl) (by kernel_rfl) (fun _ _ _ h => h) (Or.inl ⟨by rfl, ?_⟩) (by assumption) ?_
      rotate_left
      · intro w' hSw
        clear hSw
        unfold ope14
        first
        | (go_simp; done)
        | (go_simp; with_reducible rfl)
      simp only [ope14, Act.put, List.setIfInBounds_toArray, List.set_cons_zero, List.set_cons_succ]
      refine wpAnyH_done (by kernel_rfl) ?_ _
      refine NoPanic.normal ?_
      have I2 : Hid (w8.ownsRow (w.heap.size + 1) 9 1 v8 (m + (k' + 1)) (scells ([ld, t, g] ++ is ++ slotS (ss.take (k' + 1)))) ∧ Below w.heap.size w w8 ∧ MlAt w8 w.heap.size k u q t g (some ⟨b, o, none⟩) n c a2 n2 c2) := ⟨o8, I.out.2.1.trans (b8'.mono (Nat.le_succ _)), I.out.2.2.keep b8' (Nat.lt_succ_self _)⟩
      clear o8 b8' I hHeldE
      go_wp2
      go_roundw
      case rel => exact ⟨k' + 1, by omega, by go_num, I2.out⟩
      case measure => simp [intOf]; omega
    · obtain rfl : k' = n := by omega
      obtain ⟨-, p0, p1, p2, p3, p4, p5, p6⟩ := I.out.2.2
      have g2 : ¬ (k' : Int) < (k' : Int) := by omega
      obtain ⟨lq, a3, c3, rfl, hs3, -⟩ := own_strAt I.out.1
      have FB := flat_body (n := k') HR.out.2 HL.out (Nat.le_of_eq L.out.ls)
      go_wp2_with fail
      refine Calls.mono (mlong_any k wr) ?_
      rintro e w2 ⟨rfl, rfl⟩
      go_wp2_with fail
      refine Calls.mono (write_any (long k) a3 ([ld, t, g] ++ is ++ slotS (ss.take k')) (m + k') c3 lq (by omega) FB.2 (long_le k) w2 hs3) ?_
      rintro e w3 ⟨rfl, hb3⟩
      have B3 : Hid (Below w.heap.size w w3) := chain I.out.2.1 hb3
      rw [FB.1, HR.out.1]
      clear hb3 I FB
      go_wp2
      go_ret2
      exact ⟨rfl, B3.out⟩
end Go.Proofs.YtbogoheigbiegaaDoor.Mai
