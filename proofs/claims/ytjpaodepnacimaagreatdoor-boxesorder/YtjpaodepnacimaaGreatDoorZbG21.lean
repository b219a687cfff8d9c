/- A log is compacted: the other half is begun. -/
import Derived.Test.YtjpaodepnacimaaGreatDoorZbG20
namespace Go.Proofs.YtjpaodepnacimaaGreatDoor
open Go.RowKit Go.Proofs.Fd Go.Proofs.Dk Go.Proofs.Lg
set_option maxRecDepth 20000
def Bn7 (w V : World) (p : Nat) (F : Nat → Prop) (s2 : St) (tl : List Bs) (xa : Option Addr) (xn xc : Nat) (w' : World) : Prop :=
  ∃ F2, Dl w w' p F2 s2 ∧ Nx V F F2 ∧ Bf F V w' ∧ OwnsS w' (.slice xa xn xc) tl ∧ ∀ x, (Value.slice xa xn xc).ownBlock = some x → V.heap.size ≤ x ∧ ¬ F2 x
def Ci7 (w va : World) (p : Nat) (F : Nat → Prop) (s2 : St) (tl : List Bs) (pp : Option Addr) (i1 i2 i3 : Int) (i5 : Int) (s6 : ByteArray) (H : Nat) (xa : Option Addr) (xn xc : Nat) (wx : World) : Prop :=
  Bn7 w va p F s2 tl xa xn xc wx ∧ Blk wx H (hq7 pp i1 i2 i3 xa xn xc i5 s6) ∧ va.heap.size ≤ H
theorem ci_new {w va V w2 : World} {p : Nat} {F : Nat → Prop} {s2 : St} {tl : List Bs} {pp : Option Addr} {i1 i2 i3 : Int} {i5 : Int} {s6 : ByteArray} {xa : Option Addr} {xn xc : Nat} (ty : TypeId) (bl : Below va.heap.size va V) (h : Bn7 w V p F s2 tl xa xn xc w2) :
    Ci7 w va p F s2 tl pp i1 i2 i3 i5 s6 w2.heap.size xa xn xc (w2.alloc (.cells #[.pointer pp, .int .i64 i1, .int .i64 i2, .int .i64 i3, .slice xa xn xc, .int .i64 i5, .string s6] ty)) := by
  obtain ⟨F2, h1, h2, h3, h4, h5⟩ := h
  exact ⟨⟨F2, h1.later (nb _ _), (Nx.refl va F).trans h2 bl.size, ((Bf.of bl).trans (Nx.refl _ _) h3).later (nb _ _), ownsRow_same h4 (fun x e => (nb w2 _).block x (h4.lt x e).2), fun x e => ⟨Nat.le_trans bl.size (h5 x e).1, (h5 x e).2⟩⟩, Blk.new w2 _ _ (by simp), Nat.le_trans bl.size h3.size⟩
theorem ci_old {w va V w2 : World} {p : Nat} {F : Nat → Prop} {s2 : St} {tl : List Bs} {pp : Option Addr} {i1 i2 i3 : Int} {i5 : Int} {s6 : ByteArray} {xa : Option Addr} {xn xc : Nat} {H : Nat} (hw : w.heap.size ≤ va.heap.size) (bl : Below va.heap.size va V) (h : Bn7 w V p F s2 tl xa xn xc w2) (bh : Blk V H hz0) (hF : ¬ F H) (nH : va.heap.size ≤ H) :
    Ci7 w va p F s2 tl pp i1 i2 i3 i5 s6 H xa xn xc (w2.setCells H 0 (hq7 pp i1 i2 i3 xa xn xc i5 s6)) := by
  obtain ⟨F2, h1, h2, h3, h4, h5⟩ := h
  have hb := bh.bf h3 hF
  have hF2 := h2.apart hF bh.lt
  have hv : (Value.slice xa xn xc).ownBlock ≠ some H := fun e => by have := (h5 _ e).1; have := bh.lt; omega
  exact ⟨⟨F2, h1.sets hF2 (Nat.le_trans hw nH) _, (Nx.refl va F).trans h2 bl.size, ((Bf.of bl).trans (Nx.refl _ _) h3).trans (fun x e => .inr (by rw [e]; exact nH)) (Bf.sets (fun x => x = H) H rfl _ 0 w2), ownsRow_same h4 (fun x e => setCells_other w2 H 0 _ x (fun d => hv (by rw [e, d]))), fun x e => ⟨Nat.le_trans bl.size (h5 x e).1, (h5 x e).2⟩⟩, hb.put _ rfl, nH⟩
def olc0 : Oper := { dst := some 43, op := Go.Op.move (Go.Operand.tmp 0), type := 84, pos := "log.go:88", after := #[], guard := none }
def olc1 : Oper := { dst := some 44, op := Go.Op.nilCheck (Go.Operand.tmp 43), type := 0, pos := "log.go:88", after := #[{ on := 0, ground := Go.Ground.data }], guard := none }
def olc2 : Oper := { dst := some 45, op := Go.Op.fieldAddr 136 (Go.Operand.tmp 44) 0, type := 0, pos := "log.go:88", after := #[{ on := 1, ground := Go.Ground.data }], guard := none }
def olc3 : Oper := { dst := some 46, op := Go.Op.fieldAddr 130 (Go.Operand.tmp 45) 0, type := 0, pos := "log.go:88", after := #[{ on := 2, ground := Go.Ground.data }], guard := none }
def olc4 : Oper := { dst := some 47, op := Go.Op.load 128 (Go.Operand.tmp 46), type := 128, pos := "log.go:88", after := #[{ on := 3, ground := Go.Ground.data }], guard := none }
def olc5 : Oper := { dst := some 48, op := Go.Op.call { callee := Go.Callee.value (Go.Operand.func 64), args := #[Go.Operand.tmp 47], argTypes := #[128] }, type := 128, pos := "log.go:88", after := #[{ on := 4, ground := Go.Ground.data }], guard := none }
def olc6 : Oper := { dst := some 49, op := Go.Op.move (Go.Operand.tmp 0), type := 84, pos := "log.go:88", after := #[], guard := none }
def olc7 : Oper := { dst := some 50, op := Go.Op.nilCheck (Go.Operand.tmp 49), type := 0, pos := "log.go:88", after := #[{ on := 6, ground := Go.Ground.data }], guard := none }
def olc8 : Oper := { dst := some 51, op := Go.Op.fieldAddr 136 (Go.Operand.tmp 50) 0, type := 0, pos := "log.go:88", after := #[{ on := 7, ground := Go.Ground.data }], guard := none }
def olc9 : Oper := { dst := some 52, op := Go.Op.fieldAddr 130 (Go.Operand.tmp 51) 1, type := 0, pos := "log.go:88", after := #[{ on := 8, ground := Go.Ground.data }], guard := none }
def olc10 : Oper := { dst := some 53, op := Go.Op.load 3 (Go.Operand.tmp 52), type := 3, pos := "log.go:88", after := #[{ on := 9, ground := Go.Ground.data }], guard := none }
def olc11 : Oper := { dst := some 54, op := Go.Op.binOp Go.BinOp.add 3 (Go.Operand.tmp 53) (Go.Operand.const (Go.Value.int Go.IntKind.i64 1)) 3, type := 3, pos := "log.go:88", after := #[{ on := 10, ground := Go.Ground.data }], guard := none }
def olc12 : Oper := { dst := some 55, op := Go.Op.move (Go.Operand.tmp 1), type := 37, pos := "log.go:88", after := #[], guard := none }
def olc13 : Oper := { dst := some 56, op := Go.Op.call { callee := Go.Callee.value (Go.Operand.func 65), args := #[Go.Operand.tmp 48, Go.Operand.tmp 54, Go.Operand.tmp 55], argTypes := #[128, 3, 37] }, type := 131, pos := "log.go:88", after := #[{ on := 5, ground := Go.Ground.data }, { on := 11, ground := Go.Ground.data }, { on := 12, ground := Go.Ground.data }, { on := 5, ground := Go.Ground.chain }], guard := none }
def olc14 : Oper := { dst := some 42, op := Go.Op.move (Go.Operand.tmp 56), type := 131, pos := "log.go:88", after := #[{ on := 13, ground := Go.Ground.data }], guard := none }
def olc15 : Oper := { dst := some 57, op := Go.Op.extract (Go.Operand.tmp 42) 0, type := 130, pos := "log.go:88", after := #[{ on := 14, ground := Go.Ground.data }], guard := none }
def olc16 : Oper := { dst := some 58, op := Go.Op.extract (Go.Operand.tmp 42) 1, type := 24, pos := "log.go:88", after := #[{ on := 14, ground := Go.Ground.data }, { on := 18, ground := Go.Ground.gcOnly Go.Departure.lateStores }], guard := none }
def olc17 : Oper := { dst := some 9, op := Go.Op.alloc 130, type := 0, pos := "log.go:88", after := #[], guard := none }
def olc18 : Oper := { dst := none, op := Go.Op.store 130 (Go.Operand.tmp 9) (Go.Operand.tmp 57), type := 0, pos := "log.go:88", after := #[{ on := 17, ground := Go.Ground.data }, { on := 15, ground := Go.Ground.data }, { on := 13, ground := Go.Ground.chain }, { on := 0, ground := Go.Ground.phase }, { on := 1, ground := Go.Ground.phase }, { on := 2, ground := Go.Ground.phase }, { on := 3, ground := Go.Ground.phase }, { on := 4, ground := Go.Ground.phase }, { on := 5, ground := Go.Ground.phase }, { on := 6, ground := Go.Ground.phase }, { on := 7, ground := Go.Ground.phase }, { on := 8, ground := Go.Ground.phase }, { on := 9, ground := Go.Ground.phase }, { on := 10, ground := Go.Ground.phase }, { on := 11, ground := Go.Ground.phase }, { on := 12, ground := Go.Ground.phase }, { on := 13, ground := Go.Ground.phase }, { on := 14, ground := Go.Ground.phase }, { on := 15, ground := Go.Ground.phase }, { on := 16, ground := Go.Ground.textOnly Go.Departure.lateStores }, { on := 17, ground := Go.Ground.phase }], guard := none }
def olc19 : Oper := { dst := some 10, op := Go.Op.assign (Go.Operand.tmp 58), type := 24, pos := "log.go:88", after := #[{ on := 16, ground := Go.Ground.data }, { on := 18, ground := Go.Ground.chain }, { on := 0, ground := Go.Ground.phase }, { on := 1, ground := Go.Ground.phase }, { on := 2, ground := Go.Ground.phase }, { on := 3, ground := Go.Ground.phase }, { on := 4, ground := Go.Ground.phase }, { on := 5, ground := Go.Ground.phase }, { on := 6, ground := Go.Ground.phase }, { on := 7, ground := Go.Ground.phase }, { on := 8, ground := Go.Ground.phase }, { on := 9, ground := Go.Ground.phase }, { on := 10, ground := Go.Ground.phase }, { on := 11, ground := Go.Ground.phase }, { on := 12, ground := Go.Ground.phase }, { on := 13, ground := Go.Ground.phase }, { on := 14, ground := Go.Ground.phase }, { on := 15, ground := Go.Ground.phase }, { on := 16, ground := Go.Ground.phase }, { on := 17, ground := Go.Ground.phase }, { on := 18, ground := Go.Ground.phase }], guard := none }
theorem cellbf {F : Nat → Prop} {w w' : World} (hb : Bf F w w') {q o : Nat} {v : Value} (hq : ¬ F q) (h : w.cell? ⟨q, o, none⟩ = some v) : w'.cell? ⟨q, o, none⟩ = some v := hb.cell h hq
theorem keep4s {w : World} {B H : Nat} {x0 x1 x2 x3 y0 y1 y2 y3 y4 y5 y6 : Value} (hne : B ≠ H) (h : w.cell? ⟨B, 0, none⟩ = some x0 ∧ w.cell? ⟨B, 1, none⟩ = some x1 ∧ w.cell? ⟨B, 2, none⟩ = some x2 ∧ w.cell? ⟨B, 3, none⟩ = some x3) :
    (w.setCells H 0 [y0, y1, y2, y3, y4, y5, y6]).cell? ⟨B, 0, none⟩ = some x0 ∧ (w.setCells H 0 [y0, y1, y2, y3, y4, y5, y6]).cell? ⟨B, 1, none⟩ = some x1 ∧ (w.setCells H 0 [y0, y1, y2, y3, y4, y5, y6]).cell? ⟨B, 2, none⟩ = some x2 ∧ (w.setCells H 0 [y0, y1, y2, y3, y4, y5, y6]).cell? ⟨B, 3, none⟩ = some x3 := by
  have hs := setCells_other w H 0 [y0, y1, y2, y3, y4, y5, y6] B hne
  exact ⟨(World.cell?_of_block (a := ⟨B, 0, none⟩) hs).trans h.1, (World.cell?_of_block (a := ⟨B, 1, none⟩) hs).trans h.2.1, (World.cell?_of_block (a := ⟨B, 2, none⟩) hs).trans h.2.2.1, (World.cell?_of_block (a := ⟨B, 3, none⟩) hs).trans h.2.2.2⟩
set_option maxHeartbeats 4000000 in
theorem compact_region (w : World) (p : Nat) (F : Nat → Prop) (s2 : St) (tl : List Bs) (q fr fr2 mn : Nat) (gi : Int) (x : Int) (va : World) (a : Option Addr) (n c : Nat) (E : Option Addr → Int → Int → Int → Int → ByteArray → Prop) (hw : Hid (w.heap.size ≤ va.heap.size)) (hF : Hid (∀ y, F y → y < va.heap.size)) (hq : Hid (¬ F q ∧ q < va.heap.size)) (y1 : IntKind.i64.wrap (gi + 1) = gi + 1)
    (b0 : va.cell? ⟨q, 0, none⟩ = some (.pointer (some ⟨p, 0, none⟩))) (b1 : va.cell? ⟨q, 1, none⟩ = some (.int .i64 (fr : Int))) (b2 : va.cell? ⟨q, 2, none⟩ = some (.int .i64 (mn : Int))) (b3 : va.cell? ⟨q, 3, none⟩ = some (.int .i64 gi))
    (OT : Hid (∀ w, Calls Tryz.prog 64 #[.agg #[.pointer (some ⟨p, 0, none⟩), .int .i64 (fr : Int), .int .i64 (mn : Int)]] w fun e w' => e = .returned (.agg #[.pointer (some ⟨p, 0, none⟩), .int .i64 (fr2 : Int), .int .i64 (mn : Int)]) ∧ Below w.heap.size w w'))
    (BG : Hid (∀ V, Below va.heap.size va V → Calls Tryz.prog 65 #[.agg #[.pointer (some ⟨p, 0, none⟩), .int .i64 (fr2 : Int), .int .i64 (mn : Int)], .int .i64 (gi + 1), .slice a n c] V fun e w' => ∃ pp i1 i2 i3 xa xn xc i5 s6, e = .returned (.tuple #[.agg #[.pointer pp, .int .i64 i1, .int .i64 i2, .int .i64 i3, .slice xa xn xc, .int .i64 i5, .string s6], .int .i64 x]) ∧ E pp i1 i2 i3 i5 s6 ∧ Bn7 w V p F s2 tl xa xn xc w'))
    (a2 a3 a4 a5 a6 a7 a8 a11 a12 a13 a14 a15 a16 a17 a18 a19 a20 a21 a22 a23 a24 a25 a26 a27 a28 a29 a30 a31 a32 a33 a34 a35 a36 a37 a38 a39 a40 a41 : Value) (Q : Exit → Act → World → Prop)
    (hQ : Hid (∀ (H : Nat) (pp : Option Addr) (i1 i2 i3 : Int) (xa : Option Addr) (xn xc : Nat) (i5 : Int) (s6 : ByteArray) (wx : World) (u42 u43 u44 u45 u46 u47 u48 u49 u50 u51 u52 u53 u54 u55 u56 u57 u58 : Value), E pp i1 i2 i3 i5 s6 → Ci7 w va p F s2 tl pp i1 i2 i3 i5 s6 H xa xn xc wx → Q .normal { tmps := #[.pointer (some ⟨q, 0, none⟩), .slice a n c, a2, a3, a4, a5, a6, a7, a8, .pointer (some ⟨H, 0, none⟩), .int .i64 x, a11, a12, a13, a14, a15, a16, a17, a18, a19, a20, a21, a22, a23, a24, a25, a26, a27, a28, a29, a30, a31, a32, a33, a34, a35, a36, a37, a38, a39, a40, a41, u42, u43, u44, u45, u46, u47, u48, u49, u50, u51, u52, u53, u54, u55, u56, u57, u58, undef, undef, undef, undef, undef, undef, undef], defers := [] } wx)) :
    (Code.region 14 #[olc0, olc1, olc2, olc3, olc4, olc5, olc6, olc7, olc8, olc9, olc10, olc11, olc12, olc13, olc14, olc15, olc16, olc17, olc18, olc19] true).wp Tryz.prog Q { tmps := #[.pointer (some ⟨q, 0, none⟩), .slice a n c, a2, a3, a4, a5, a6, a7, a8, undef, undef, a11, a12, a13, a14, a15, a16, a17, a18, a19, a20, a21, a22, a23, a24, a25, a26, a27, a28, a29, a30, a31, a32, a33, a34, a35, a36, a37, a38, a39, a40, a41, undef, undef, undef, undef, undef, undef, undef, undef, undef, undef, undef, undef, undef, undef, undef, undef, undef, undef, undef, undef, undef, undef, undef, undef], defers := [] } va := by
  refine wp_region_noPanic ?_
  refine wp_region_held_drew (S := fun w' => w'.cell? ⟨q, 0, none⟩ = some (.pointer (some ⟨p, 0, none⟩)) ∧ w'.cell? ⟨q, 1, none⟩ = some (.int .i64 (fr : Int)) ∧ w'.cell? ⟨q, 2, none⟩ = some (.int .i64 (mn : Int)) ∧ w'.cell? ⟨q, 3, none⟩ = some (.int .i64 gi)) (by kernel_rfl) (⟨b0, b1, b2, b3⟩) (fun hHeld => ?_)
  obtain ⟨Z, hZ⟩ : ∃ Z, va.drew = Z := ⟨_, rfl⟩
  have hz : Hid (Below va.heap.size va Z) := by
    rw [← hZ]
    exact (Below.refl _ _).drew
  rw [hZ] at hHeld ⊢
  clear hZ b0 b1 b2 b3
  refine wpAnyH_take (i := 0) (oi := olc0) (v := ?_) rfl (by kernel_rfl) (by kernel_rfl) (by kernel_rfl) (fun _ _ _ h => h) (Or.inl ⟨by rfl, ?_⟩) (by assumption) ?_
  rotate_left
  · intro w' hSw
    clear hSw
    unfold olc0
    first
    | (go_simp; done)
    | (go_simp; with_reducible rfl)
  simp only [olc0, Act.put, List.setIfInBounds_toArray, List.set_cons_zero, List.set_cons_succ]
  refine wpAnyH_take (i := 1) (oi := olc1) (v := ?_) rfl (by kernel_rfl) (by kernel_rfl) (by kernel_rfl) (fun _ _ _ h => h) (Or.inl ⟨by rfl, ?_⟩) (by assumption) ?_
  rotate_left
  · intro w' hSw
    clear hSw
    unfold olc1
    first
    | (go_simp; done)
    | (go_simp; with_reducible rfl)
  simp only [olc1, Act.put, List.setIfInBounds_toArray, List.set_cons_zero, List.set_cons_succ]
  refine wpAnyH_take (i := 2) (oi := olc2) (v := ?_) rfl (by kernel_rfl) (by kernel_rfl) (by kernel_rfl) (fun _ _ _ h => h) (Or.inl ⟨by rfl, ?_⟩) (by assumption) ?_
  rotate_left
  · intro w' hSw
    clear hSw
    unfold olc2
    first
    | (go_simp; done)
    | (go_simp; with_reducible rfl)
  simp only [olc2, Act.put, List.setIfInBounds_toArray, List.set_cons_zero, List.set_cons_succ]
  refine wpAnyH_take (i := 3) (oi := olc3) (v := ?_) rfl (by kernel_rfl) (by kernel_rfl) (by kernel_rfl) (fun _ _ _ h => h) (Or.inl ⟨by rfl, ?_⟩) (by assumption) ?_
  rotate_left
  · intro w' hSw
    clear hSw
    unfold olc3
    first
    | (go_simp; done)
    | (go_simp; with_reducible rfl)
  simp only [olc3, Act.put, List.setIfInBounds_toArray, List.set_cons_zero, List.set_cons_succ]
  refine wpAnyH_take (i := 4) (oi := olc4) (v := ?_) rfl (by kernel_rfl) (by kernel_rfl) (by kernel_rfl) (fun _ _ _ h => h) (Or.inl ⟨by rfl, ?_⟩) (by assumption) ?_
  rotate_left
  · intro w' hSw
    obtain ⟨s0, s1, s2, s3⟩ := hSw
    unfold olc4
    first
    | (go_simp; done)
    | (go_simp; with_reducible rfl)
  simp only [olc4, Act.put, List.setIfInBounds_toArray, List.set_cons_zero, List.set_cons_succ]
  refine wpAnyH_take (i := 6) (oi := olc6) (v := ?_) rfl (by kernel_rfl) (by kernel_rfl) (by kernel_rfl) (fun _ _ _ h => h) (Or.inl ⟨by rfl, ?_⟩) (by assumption) ?_
  rotate_left
  · intro w' hSw
    clear hSw
    unfold olc6
    first
    | (go_simp; done)
    | (go_simp; with_reducible rfl)
  simp only [olc6, Act.put, List.setIfInBounds_toArray, List.set_cons_zero, List.set_cons_succ]
  refine wpAnyH_take (i := 7) (oi := olc7) (v := ?_) rfl (by kernel_rfl) (by kernel_rfl) (by kernel_rfl) (fun _ _ _ h => h) (Or.inl ⟨by rfl, ?_⟩) (by assumption) ?_
  rotate_left
  · intro w' hSw
    clear hSw
    unfold olc7
    first
    | (go_simp; done)
    | (go_simp; with_reducible rfl)
  simp only [olc7, Act.put, List.setIfInBounds_toArray, List.set_cons_zero, List.set_cons_succ]
  refine wpAnyH_take (i := 8) (oi := olc8) (v := ?_) rfl (by kernel_rfl) (by kernel_rfl) (by kernel_rfl) (fun _ _ _ h => h) (Or.inl ⟨by rfl, ?_⟩) (by assumption) ?_
  rotate_left
  · intro w' hSw
    clear hSw
    unfold olc8
    first
    | (go_simp; done)
    | (go_simp; with_reducible rfl)
  simp only [olc8, Act.put, List.setIfInBounds_toArray, List.set_cons_zero, List.set_cons_succ]
  refine wpAnyH_take (i := 9) (oi := olc9) (v := ?_) rfl (by kernel_rfl) (by kernel_rfl) (by kernel_rfl) (fun _ _ _ h => h) (Or.inl ⟨by rfl, ?_⟩) (by assumption) ?_
  rotate_left
  · intro w' hSw
    clear hSw
    unfold olc9
    first
    | (go_simp; done)
    | (go_simp; with_reducible rfl)
  simp only [olc9, Act.put, List.setIfInBounds_toArray, List.set_cons_zero, List.set_cons_succ]
  refine wpAnyH_take (i := 10) (oi := olc10) (v := ?_) rfl (by kernel_rfl) (by kernel_rfl) (by kernel_rfl) (fun _ _ _ h => h) (Or.inl ⟨by rfl, ?_⟩) (by assumption) ?_
  rotate_left
  · intro w' hSw
    obtain ⟨s0, s1, s2, s3⟩ := hSw
    unfold olc10
    first
    | (go_simp; done)
    | (go_simp; with_reducible rfl)
  simp only [olc10, Act.put, List.setIfInBounds_toArray, List.set_cons_zero, List.set_cons_succ]
  refine wpAnyH_take (i := 11) (oi := olc11) (v := ?_) rfl (by kernel_rfl) (by kernel_rfl) (by kernel_rfl) (fun _ _ _ h => h) (Or.inl ⟨by rfl, ?_⟩) (by assumption) ?_
  rotate_left
  · intro w' hSw
    clear hSw
    unfold olc11
    first
    | (go_simp; done)
    | (go_simp; with_reducible rfl)
  simp only [olc11, Act.put, List.setIfInBounds_toArray, List.set_cons_zero, List.set_cons_succ]
  refine wpAnyH_take (i := 12) (oi := olc12) (v := ?_) rfl (by kernel_rfl) (by kernel_rfl) (by kernel_rfl) (fun _ _ _ h => h) (Or.inl ⟨by rfl, ?_⟩) (by assumption) ?_
  rotate_left
  · intro w' hSw
    clear hSw
    unfold olc12
    first
    | (go_simp; done)
    | (go_simp; with_reducible rfl)
  simp only [olc12, Act.put, List.setIfInBounds_toArray, List.set_cons_zero, List.set_cons_succ]
  refine wpAnyH_ready (rs := [5, 17]) (by kernel_rfl) (by simp) ?_
  refine AllReadyH.cons (o := olc5) rfl (fun KK hKK => ?_) (AllReadyH.cons (o := olc17) rfl (fun KK hKK => ?_) AllReadyH.nil)
  · unfold olc5
    go_simp
    refine Calls.mono (OT.out _) ?_
    rintro e w1 ⟨rfl, hb1⟩
    have sz1 := hb1.size
    have bl1 := chain hz.out hb1
    refine hKK.out _ _ ⟨cell_later hb1 hHeld.1, cell_later hb1 hHeld.2.1, cell_later hb1 hHeld.2.2.1, cell_later hb1 hHeld.2.2.2⟩ (fun hHeld1 => ?_)
    clear hKK KK
    refine wpAnyH_ready (rs := [13, 17]) (by kernel_rfl) (by simp) ?_
    refine AllReadyH.cons (o := olc13) rfl (fun KK hKK => ?_) (AllReadyH.cons (o := olc17) rfl (fun KK hKK => ?_) AllReadyH.nil)
    · unfold olc13
      go_simp
      refine Calls.mono (BG.out w1 bl1) ?_
      rintro e w2 ⟨pp, i1, i2, i3, xa, xn, xc, i5, s6, rfl, he7, hb7⟩
      obtain ⟨F7, -, -, bf7, -, -⟩ := id hb7
      refine hKK.out _ _ ⟨cellbf bf7 hq.out.1 hHeld1.1, cellbf bf7 hq.out.1 hHeld1.2.1, cellbf bf7 hq.out.1 hHeld1.2.2.1, cellbf bf7 hq.out.1 hHeld1.2.2.2⟩ (fun hHeld2 => ?_)
      clear hKK KK bf7 F7
      refine wpAnyH_take (i := 14) (oi := olc14) (v := ?_) rfl (by kernel_rfl) (by kernel_rfl) (by kernel_rfl) (fun _ _ _ h => h) (Or.inl ⟨by rfl, ?_⟩) (by assumption) ?_
      rotate_left
      · intro w' hSw
        clear hSw
        unfold olc14
        first
        | (go_simp; done)
        | (go_simp; with_reducible rfl)
      simp only [olc14, Act.put, List.setIfInBounds_toArray, List.set_cons_zero, List.set_cons_succ]
      refine wpAnyH_take (i := 15) (oi := olc15) (v := ?_) rfl (by kernel_rfl) (by kernel_rfl) (by kernel_rfl) (fun _ _ _ h => h) (Or.inl ⟨by rfl, ?_⟩) (by assumption) ?_
      rotate_left
      · intro w' hSw
        clear hSw
        unfold olc15
        first
        | (go_simp; done)
        | (go_simp; with_reducible rfl)
      simp only [olc15, Act.put, List.setIfInBounds_toArray, List.set_cons_zero, List.set_cons_succ]
      refine wpAnyH_take (i := 16) (oi := olc16) (v := ?_) rfl (by kernel_rfl) (by kernel_rfl) (by kernel_rfl) (fun _ _ _ h => h) (Or.inl ⟨by rfl, ?_⟩) (by assumption) ?_
      rotate_left
      · intro w' hSw
        clear hSw
        unfold olc16
        first
        | (go_simp; done)
        | (go_simp; with_reducible rfl)
      simp only [olc16, Act.put, List.setIfInBounds_toArray, List.set_cons_zero, List.set_cons_succ]
      refine wpAnyH_ready (rs := [17]) (by kernel_rfl) (by simp) ?_
      refine AllReadyH.cons (o := olc17) rfl (fun KK hKK => ?_) AllReadyH.nil
      unfold olc17
      go_simp
      have nw3 : Blk (w2.alloc (.cells #[.pointer none, .int .i64 0, .int .i64 0, .int .i64 0, .slice none 0 0, .int .i64 0, .string ⟨#[]⟩] 130)) (w2.heap.size) hz0 := blk_at w2 hz0 _ (by simp) _ (by simp)
      refine hKK.out _ _ ⟨cell_alloc hHeld2.1, cell_alloc hHeld2.2.1, cell_alloc hHeld2.2.2.1, cell_alloc hHeld2.2.2.2⟩ (fun hHeld3 => ?_)
      clear hKK KK
      refine wpAnyH_ready (rs := [18]) (by kernel_rfl) (by simp) ?_
      refine AllReadyH.cons (o := olc18) rfl (fun KK hKK => ?_) AllReadyH.nil
      have FI : Hid _ := ci_new (pp := pp) (i1 := i1) (i2 := i2) (i3 := i3) (i5 := i5) (s6 := s6) 130 bl1 hb7
      unfold olc18
      go_simp
      refine hKK.out _ _ ⟨cell_alloc hHeld2.1, cell_alloc hHeld2.2.1, cell_alloc hHeld2.2.2.1, cell_alloc hHeld2.2.2.2⟩ (fun hHeld4 => ?_)
      clear hKK KK
      refine wpAnyH_take (i := 19) (oi := olc19) (v := ?_) rfl (by kernel_rfl) (by kernel_rfl) (by kernel_rfl) (fun _ _ _ h => h) (Or.inl ⟨by rfl, ?_⟩) (by assumption) ?_
      rotate_left
      · intro w' hSw
        clear hSw
        unfold olc19
        first
        | (go_simp; done)
        | (go_simp; with_reducible rfl)
      simp only [olc19, Act.put, List.setIfInBounds_toArray, List.set_cons_zero, List.set_cons_succ]
      refine wpAnyH_done (by kernel_rfl) ?_ _
      refine NoPanic.normal ?_
      exact hQ.out _ _ _ _ _ _ _ _ _ _ _ _ _ _ _ _ _ _ _ _ _ _ _ _ _ _ _ _ he7 FI.out
    · unfold olc17
      go_simp
      have nw2 : Blk (w1.alloc (.cells #[.pointer none, .int .i64 0, .int .i64 0, .int .i64 0, .slice none 0 0, .int .i64 0, .string ⟨#[]⟩] 130)) (w1.heap.size) hz0 := blk_at w1 hz0 _ (by simp) _ (by simp)
      have bs2 := bl1.size
      have bl2 := chain bl1 (nb w1 (.cells #[.pointer none, .int .i64 0, .int .i64 0, .int .i64 0, .slice none 0 0, .int .i64 0, .string ⟨#[]⟩] 130))
      refine hKK.out _ _ ⟨cell_alloc hHeld1.1, cell_alloc hHeld1.2.1, cell_alloc hHeld1.2.2.1, cell_alloc hHeld1.2.2.2⟩ (fun hHeld2 => ?_)
      clear hKK KK
      refine wpAnyH_ready (rs := [13]) (by kernel_rfl) (by simp) ?_
      refine AllReadyH.cons (o := olc13) rfl (fun KK hKK => ?_) AllReadyH.nil
      unfold olc13
      go_simp
      refine Calls.mono (BG.out (w1.alloc (.cells #[.pointer none, .int .i64 0, .int .i64 0, .int .i64 0, .slice none 0 0, .int .i64 0, .string ⟨#[]⟩] 130)) bl2) ?_
      rintro e w3 ⟨pp, i1, i2, i3, xa, xn, xc, i5, s6, rfl, he7, hb7⟩
      obtain ⟨F7, -, -, bf7, -, -⟩ := id hb7
      refine hKK.out _ _ ⟨cellbf bf7 hq.out.1 hHeld2.1, cellbf bf7 hq.out.1 hHeld2.2.1, cellbf bf7 hq.out.1 hHeld2.2.2.1, cellbf bf7 hq.out.1 hHeld2.2.2.2⟩ (fun hHeld3 => ?_)
      clear hKK KK bf7 F7
      refine wpAnyH_take (i := 14) (oi := olc14) (v := ?_) rfl (by kernel_rfl) (by kernel_rfl) (by kernel_rfl) (fun _ _ _ h => h) (Or.inl ⟨by rfl, ?_⟩) (by assumption) ?_
      rotate_left
      · intro w' hSw
        clear hSw
        unfold olc14
        first
        | (go_simp; done)
        | (go_simp; with_reducible rfl)
      simp only [olc14, Act.put, List.setIfInBounds_toArray, List.set_cons_zero, List.set_cons_succ]
      refine wpAnyH_take (i := 15) (oi := olc15) (v := ?_) rfl (by kernel_rfl) (by kernel_rfl) (by kernel_rfl) (fun _ _ _ h => h) (Or.inl ⟨by rfl, ?_⟩) (by assumption) ?_
      rotate_left
      · intro w' hSw
        clear hSw
        unfold olc15
        first
        | (go_simp; done)
        | (go_simp; with_reducible rfl)
      simp only [olc15, Act.put, List.setIfInBounds_toArray, List.set_cons_zero, List.set_cons_succ]
      refine wpAnyH_take (i := 16) (oi := olc16) (v := ?_) rfl (by kernel_rfl) (by kernel_rfl) (by kernel_rfl) (fun _ _ _ h => h) (Or.inl ⟨by rfl, ?_⟩) (by assumption) ?_
      rotate_left
      · intro w' hSw
        clear hSw
        unfold olc16
        first
        | (go_simp; done)
        | (go_simp; with_reducible rfl)
      simp only [olc16, Act.put, List.setIfInBounds_toArray, List.set_cons_zero, List.set_cons_succ]
      refine wpAnyH_ready (rs := [18]) (by kernel_rfl) (by simp) ?_
      refine AllReadyH.cons (o := olc18) rfl (fun KK hKK => ?_) AllReadyH.nil
      have hHn : va.heap.size ≤ w1.heap.size := by have := hz.out.size; omega
      have hHF : ¬ F (w1.heap.size) := fun c => by have := hF.out _ c; omega
      have hne : q ≠ w1.heap.size := fun c => by have := hq.out.2; omega
      have FI : Hid _ := ci_old (pp := pp) (i1 := i1) (i2 := i2) (i3 := i3) (i5 := i5) (s6 := s6) hw.out bl2 hb7 nw2 hHF hHn
      obtain ⟨F7, -, -, bf7, -, -⟩ := id hb7
      have bk7 := nw2.bf bf7 hHF
      have z0 := bk7.c 0 _ rfl
      have z1 := bk7.c 1 _ rfl
      have z2 := bk7.c 2 _ rfl
      have z3 := bk7.c 3 _ rfl
      have z4 := bk7.c 4 _ rfl
      have z5 := bk7.c 5 _ rfl
      have z6 := bk7.c 6 _ rfl
      have zf := bk7.f
      unfold olc18
      go_simp
      refine hKK.out _ _ (keep4s hne hHeld3) (fun hHeld4 => ?_)
      clear hKK KK bk7 bf7 F7 z0 z1 z2 z3 z4 z5 z6 zf
      refine wpAnyH_take (i := 19) (oi := olc19) (v := ?_) rfl (by kernel_rfl) (by kernel_rfl) (by kernel_rfl) (fun _ _ _ h => h) (Or.inl ⟨by rfl, ?_⟩) (by assumption) ?_
      rotate_left
      · intro w' hSw
        clear hSw
        unfold olc19
        first
        | (go_simp; done)
        | (go_simp; with_reducible rfl)
      simp only [olc19, Act.put, List.setIfInBounds_toArray, List.set_cons_zero, List.set_cons_succ]
      refine wpAnyH_done (by kernel_rfl) ?_ _
      refine NoPanic.normal ?_
      exact hQ.out _ _ _ _ _ _ _ _ _ _ _ _ _ _ _ _ _ _ _ _ _ _ _ _ _ _ _ _ he7 FI.out
  · unfold olc17
    go_simp
    have nw1 : Blk (Z.alloc (.cells #[.pointer none, .int .i64 0, .int .i64 0, .int .i64 0, .slice none 0 0, .int .i64 0, .string ⟨#[]⟩] 130)) (Z.heap.size) hz0 := blk_at Z hz0 _ (by simp) _ (by simp)
    have bs1 := hz.out.size
    have bl1 := chain hz.out (nb Z (.cells #[.pointer none, .int .i64 0, .int .i64 0, .int .i64 0, .slice none 0 0, .int .i64 0, .string ⟨#[]⟩] 130))
    refine hKK.out _ _ ⟨cell_alloc hHeld.1, cell_alloc hHeld.2.1, cell_alloc hHeld.2.2.1, cell_alloc hHeld.2.2.2⟩ (fun hHeld1 => ?_)
    clear hKK KK
    refine wpAnyH_ready (rs := [5]) (by kernel_rfl) (by simp) ?_
    refine AllReadyH.cons (o := olc5) rfl (fun KK hKK => ?_) AllReadyH.nil
    unfold olc5
    go_simp
    refine Calls.mono (OT.out _) ?_
    rintro e w2 ⟨rfl, hb2⟩
    have sz2 := hb2.size
    have bl2 := chain bl1 hb2
    have bh2 := nw1.later hb2
    refine hKK.out _ _ ⟨cell_later hb2 hHeld1.1, cell_later hb2 hHeld1.2.1, cell_later hb2 hHeld1.2.2.1, cell_later hb2 hHeld1.2.2.2⟩ (fun hHeld2 => ?_)
    clear hKK KK
    refine wpAnyH_ready (rs := [13]) (by kernel_rfl) (by simp) ?_
    refine AllReadyH.cons (o := olc13) rfl (fun KK hKK => ?_) AllReadyH.nil
    unfold olc13
    go_simp
    refine Calls.mono (BG.out w2 bl2) ?_
    rintro e w3 ⟨pp, i1, i2, i3, xa, xn, xc, i5, s6, rfl, he7, hb7⟩
    obtain ⟨F7, -, -, bf7, -, -⟩ := id hb7
    refine hKK.out _ _ ⟨cellbf bf7 hq.out.1 hHeld2.1, cellbf bf7 hq.out.1 hHeld2.2.1, cellbf bf7 hq.out.1 hHeld2.2.2.1, cellbf bf7 hq.out.1 hHeld2.2.2.2⟩ (fun hHeld3 => ?_)
    clear hKK KK bf7 F7
    refine wpAnyH_take (i := 14) (oi := olc14) (v := ?_) rfl (by kernel_rfl) (by kernel_rfl) (by kernel_rfl) (fun _ _ _ h => h) (Or.inl ⟨by rfl, ?_⟩) (by assumption) ?_
    rotate_left
    · intro w' hSw
      clear hSw
      unfold olc14
      first
      | (go_simp; done)
      | (go_simp; with_reducible rfl)
    simp only [olc14, Act.put, List.setIfInBounds_toArray, List.set_cons_zero, List.set_cons_succ]
    refine wpAnyH_take (i := 15) (oi := olc15) (v := ?_) rfl (by kernel_rfl) (by kernel_rfl) (by kernel_rfl) (fun _ _ _ h => h) (Or.inl ⟨by rfl, ?_⟩) (by assumption) ?_
    rotate_left
    · intro w' hSw
      clear hSw
      unfold olc15
      first
      | (go_simp; done)
      | (go_simp; with_reducible rfl)
    simp only [olc15, Act.put, List.setIfInBounds_toArray, List.set_cons_zero, List.set_cons_succ]
    refine wpAnyH_take (i := 16) (oi := olc16) (v := ?_) rfl (by kernel_rfl) (by kernel_rfl) (by kernel_rfl) (fun _ _ _ h => h) (Or.inl ⟨by rfl, ?_⟩) (by assumption) ?_
    rotate_left
    · intro w' hSw
      clear hSw
      unfold olc16
      first
      | (go_simp; done)
      | (go_simp; with_reducible rfl)
    simp only [olc16, Act.put, List.setIfInBounds_toArray, List.set_cons_zero, List.set_cons_succ]
    refine wpAnyH_ready (rs := [18]) (by kernel_rfl) (by simp) ?_
    refine AllReadyH.cons (o := olc18) rfl (fun KK hKK => ?_) AllReadyH.nil
    have hHn : va.heap.size ≤ Z.heap.size := by have := hz.out.size; omega
    have hHF : ¬ F (Z.heap.size) := fun c => by have := hF.out _ c; omega
    have hne : q ≠ Z.heap.size := fun c => by have := hq.out.2; omega
    have FI : Hid _ := ci_old (pp := pp) (i1 := i1) (i2 := i2) (i3 := i3) (i5 := i5) (s6 := s6) hw.out bl2 hb7 bh2 hHF hHn
    obtain ⟨F7, -, -, bf7, -, -⟩ := id hb7
    have bk7 := bh2.bf bf7 hHF
    have z0 := bk7.c 0 _ rfl
    have z1 := bk7.c 1 _ rfl
    have z2 := bk7.c 2 _ rfl
    have z3 := bk7.c 3 _ rfl
    have z4 := bk7.c 4 _ rfl
    have z5 := bk7.c 5 _ rfl
    have z6 := bk7.c 6 _ rfl
    have zf := bk7.f
    unfold olc18
    go_simp
    refine hKK.out _ _ (keep4s hne hHeld3) (fun hHeld4 => ?_)
    clear hKK KK bk7 bf7 F7 z0 z1 z2 z3 z4 z5 z6 zf
    refine wpAnyH_take (i := 19) (oi := olc19) (v := ?_) rfl (by kernel_rfl) (by kernel_rfl) (by kernel_rfl) (fun _ _ _ h => h) (Or.inl ⟨by rfl, ?_⟩) (by assumption) ?_
    rotate_left
    · intro w' hSw
      clear hSw
      unfold olc19
      first
      | (go_simp; done)
      | (go_simp; with_reducible rfl)
    simp only [olc19, Act.put, List.setIfInBounds_toArray, List.set_cons_zero, List.set_cons_succ]
    refine wpAnyH_done (by kernel_rfl) ?_ _
    refine NoPanic.normal ?_
    exact hQ.out _ _ _ _ _ _ _ _ _ _ _ _ _ _ _ _ _ _ _ _ _ _ _ _ _ _ _ _ he7 FI.out
end Go.Proofs.YtjpaodepnacimaaGreatDoor
