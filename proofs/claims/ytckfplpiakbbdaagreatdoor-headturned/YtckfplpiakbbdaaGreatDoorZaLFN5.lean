/- HeadTurned answers true. -/
import Derived.Test.YtckfplpiakbbdaaGreatDoorZaG42
import Derived.Test.YtckfplpiakbbdaaGreatDoorZaG40
import Derived.Test.YtckfplpiakbbdaaGreatDoorZaG41
import Derived.Deep.RegionHeld3
import Derived.Laws.Bits64
namespace Go.Proofs.YtckfplpiakbbdaaGreatDoor
open Go.RowKit Go.Proofs.Fd Go.Proofs.Hs Go.Proofs.Cc Go.Proofs.Hd Go.Proofs.Rt
set_option maxRecDepth 20000
theorem bytes_mid {w : World} {b o k cap : Nat} {l : List UInt8} (h : BytesAt w b l) (hk : o + k ≤ l.length) :
    (convert 44 9 (.slice (some ⟨b, o, none⟩) k cap)).run Tryz.prog w = .ok (.string ⟨((l.drop o).take k).toArray⟩) w := by
  have hl : ((l.drop o).take k).length = k := by rw [List.length_take, List.length_drop]; omega
  have := run_convert_bytes_back (P := Tryz.prog) w 44 9 5 ⟨b, o, none⟩ cap ((l.drop o).take k) Tryz.underlying44 Tryz.underlying5 Tryz.underlying9 (fun j hj => by
    have q : Addr.add ⟨b, o, none⟩ j = ⟨b, o + j, none⟩ := by first | (simp [Addr.add]; done) | (simp [Addr.add]; intro h; simp [h])
    rw [q]
    have e : ((l.drop o).take k)[j] = l[o + j]'(by omega) := by rw [List.getElem_take, List.getElem_drop]
    rw [e]
    exact (h (o + j) (by omega)).1)
  rw [hl] at this
  exact this
def tway : List Hp := [⟨1, 1, 0, 0, ⟨#[]⟩⟩, ⟨4, 0, 0, 0, ⟨#[]⟩⟩]
theorem tway_ok : pth tway = 0 := by decide
def trn8 (HD : ByteArray) (p : Nat) (x : UInt8) : ByteArray := ⟨(HD.data.toList.set p x).toArray⟩
theorem trn8_size (HD : ByteArray) (p : Nat) (x : UInt8) : (trn8 HD p x).size = HD.size := by unfold trn8; rw [ba_sz, List.length_set, list_sz]
theorem trn8_point (HD : ByteArray) (p : Nat) (x : UInt8) (hp : 32 ≤ p) : (trn8 HD p x).extract 0 32 = HD.extract 0 32 := by
  apply ByteArray.ext
  apply Array.toList_inj.1
  unfold trn8
  rw [ba_cut, ByteArray.data_extract, Array.toList_extract, List.extract_eq_take_drop, List.drop_zero, List.drop_zero, List.take_set_of_le (by omega)]
theorem trn8_cut (HD : ByteArray) (p : Nat) (x : UInt8) (a k : Nat) : (⟨(((HD.data.toList.set p x).drop a).take k).toArray⟩ : ByteArray) = (trn8 HD p x).extract a (a + k) := by
  refine (ba_of ?_).symm
  unfold trn8
  rw [ba_cut, show a + k - a = k by omega]
def Stw (w W : World) (gb : Nat) (BL : List UInt8) (o12 o14 : Option Nat) : Prop := BytesAt W gb BL ∧ Below w.heap.size w W ∧ gb < W.heap.size
  ∧ (∀ g, o12 = some g → HopAt W g zh ∧ g ≠ gb ∧ w.heap.size ≤ g ∧ ∀ g', o14 = some g' → g ≠ g') ∧ (∀ g, o14 = some g → Five W g ⟨#[]⟩ ⟨#[]⟩ ⟨#[]⟩ ⟨#[]⟩ ⟨#[]⟩ ∧ g ≠ gb ∧ w.heap.size ≤ g)
theorem Stw.later {w W W' : World} {gb : Nat} {BL : List UInt8} {o12 o14 : Option Nat} (h : Stw w W gb BL o12 o14) (hb : Below W.heap.size W W') : Stw w W' gb BL o12 o14 := by
  obtain ⟨h1, h2, h3, h4, h5⟩ := h
  exact ⟨h1.later hb, chain h2 hb, Nat.lt_of_lt_of_le h3 hb.size, fun g hg => ⟨(h4 g hg).1.later hb, (h4 g hg).2⟩, fun g hg => ⟨(h5 g hg).1.later hb, (h5 g hg).2⟩⟩
theorem Stw.hop {w W : World} {gb : Nat} {BL : List UInt8} {o14 : Option Nat} (h : Stw w W gb BL none o14) : Stw w (W.alloc (.cells #[.int .i64 0, .int .i64 0, .int .i64 0, .int .i64 0, .string ⟨#[]⟩] 37)) gb BL (some W.heap.size) o14 := by
  have hb : Below W.heap.size W (W.alloc (.cells #[.int .i64 0, .int .i64 0, .int .i64 0, .int .i64 0, .string ⟨#[]⟩] 37)) := (Below.refl _ _).alloc (Nat.le_refl _) _
  obtain ⟨h1, h2, h3, -, h5⟩ := h
  refine ⟨h1.later hb, chain h2 hb, Nat.lt_of_lt_of_le h3 hb.size, fun g hg => ?_, fun g hg => ⟨(h5 g hg).1.later hb, (h5 g hg).2⟩⟩
  cases hg
  exact ⟨HopAt.fresh _ _ _ _ _ _ _, by omega, h2.size, fun g' hg' => by have := (h5 g' hg').1.lt; omega⟩
theorem Stw.keys {w W : World} {gb : Nat} {BL : List UInt8} {o12 : Option Nat} (h : Stw w W gb BL o12 none) : Stw w (W.alloc (.cells #[.string ⟨#[]⟩, .string ⟨#[]⟩, .string ⟨#[]⟩, .string ⟨#[]⟩, .string ⟨#[]⟩] 23)) gb BL o12 (some W.heap.size) := by
  have hb : Below W.heap.size W (W.alloc (.cells #[.string ⟨#[]⟩, .string ⟨#[]⟩, .string ⟨#[]⟩, .string ⟨#[]⟩, .string ⟨#[]⟩] 23)) := (Below.refl _ _).alloc (Nat.le_refl _) _
  obtain ⟨h1, h2, h3, h4, -⟩ := h
  refine ⟨h1.later hb, chain h2 hb, Nat.lt_of_lt_of_le h3 hb.size, fun g hg => ⟨(h4 g hg).1.later hb, (h4 g hg).2.1, (h4 g hg).2.2.1, fun g' hg' => ?_⟩, fun g hg => ?_⟩
  · cases hg'
    have := (h4 g hg).1.lt
    omega
  · cases hg
    exact ⟨Five.new _ _ _ _ _ _ _, by omega, h2.size⟩
theorem Stw.putH {w W : World} {gb g12 g14 : Nat} {BL : List UInt8} (h : Stw w W gb BL (some g12) (some g14)) (k n u d : Int) (id : ByteArray) :
    BytesAt (putH W g12 k n u d id) gb BL ∧ Five (putH W g12 k n u d id) g14 ⟨#[]⟩ ⟨#[]⟩ ⟨#[]⟩ ⟨#[]⟩ ⟨#[]⟩ ∧ Below w.heap.size w (putH W g12 k n u d id) ∧ g14 ≠ gb ∧ w.heap.size ≤ g14 := by
  obtain ⟨h1, h2, h3, h4, h5⟩ := h
  obtain ⟨q1, q2, q3, q4⟩ := h4 g12 rfl
  obtain ⟨r1, r2, r3⟩ := h5 g14 rfl
  have hne := q4 g14 rfl
  unfold YtckfplpiakbbdaaGreatDoor.putH
  exact ⟨((((h1.other (a := ⟨g12, 0, none⟩) q2 _).other (a := ⟨g12, 1, none⟩) q2 _).other (a := ⟨g12, 2, none⟩) q2 _).other (a := ⟨g12, 3, none⟩) q2 _).other (a := ⟨g12, 4, none⟩) q2 _, ((((r1.other hne).other hne).other hne).other hne).other hne,
    ((((h2.setCell (p := ⟨g12, 0, none⟩) q3 _).setCell (p := ⟨g12, 1, none⟩) q3 _).setCell (p := ⟨g12, 2, none⟩) q3 _).setCell (p := ⟨g12, 3, none⟩) q3 _).setCell (p := ⟨g12, 4, none⟩) q3 _, r2, r3⟩
theorem putK_fin {w W : World} {gb g14 : Nat} {BL : List UInt8} (h : BytesAt W gb BL ∧ Five W g14 ⟨#[]⟩ ⟨#[]⟩ ⟨#[]⟩ ⟨#[]⟩ ⟨#[]⟩ ∧ Below w.heap.size w W ∧ g14 ≠ gb ∧ w.heap.size ≤ g14) (k0 k1 k2 k3 k4 : ByteArray) :
    BytesAt (putK W g14 k0 k1 k2 k3 k4) gb BL ∧ Five (putK W g14 k0 k1 k2 k3 k4) g14 k0 k1 k2 k3 k4 ∧ Below w.heap.size w (putK W g14 k0 k1 k2 k3 k4) ∧ g14 ≠ gb ∧ w.heap.size ≤ g14 := by
  obtain ⟨h1, h2, h3, h4, h5⟩ := h
  unfold YtckfplpiakbbdaaGreatDoor.putK
  exact ⟨((((h1.other (a := ⟨g14, 0, none⟩) h4 _).other (a := ⟨g14, 1, none⟩) h4 _).other (a := ⟨g14, 2, none⟩) h4 _).other (a := ⟨g14, 3, none⟩) h4 _).other (a := ⟨g14, 4, none⟩) h4 _, h2.whole k0 k1 k2 k3 k4, below_five h3 h5 _ _ _ _ _, h4, h5⟩
theorem fin_later {w W W1 W2 : World} {gb g14 : Nat} {BL : List UInt8} {k0 k1 k2 k3 k4 : ByteArray} (h : BytesAt W gb BL ∧ Five W g14 k0 k1 k2 k3 k4 ∧ Below w.heap.size w W ∧ g14 ≠ gb ∧ w.heap.size ≤ g14) (hb : Below W.heap.size W W1) (hb2 : Below W1.heap.size W1 W2) :
    BytesAt W2 gb BL ∧ Five W2 g14 k0 k1 k2 k3 k4 ∧ Below w.heap.size w W2 ∧ g14 ≠ gb ∧ w.heap.size ≤ g14 := ⟨(h.1.later hb).later hb2, (h.2.1.later hb).later hb2, chain (chain h.2.2.1 hb) hb2, h.2.2.2⟩
theorem putK_any {w W : World} {gb g14 : Nat} {BL : List UInt8} {c0 c1 c2 c3 c4 : ByteArray} (h : BytesAt W gb BL ∧ Five W g14 c0 c1 c2 c3 c4 ∧ Below w.heap.size w W ∧ g14 ≠ gb ∧ w.heap.size ≤ g14) (k0 k1 k2 k3 k4 : ByteArray) :
    BytesAt (putK W g14 k0 k1 k2 k3 k4) gb BL ∧ Five (putK W g14 k0 k1 k2 k3 k4) g14 k0 k1 k2 k3 k4 ∧ Below w.heap.size w (putK W g14 k0 k1 k2 k3 k4) ∧ g14 ≠ gb ∧ w.heap.size ≤ g14 := by
  obtain ⟨h1, h2, h3, h4, h5⟩ := h
  unfold YtckfplpiakbbdaaGreatDoor.putK
  exact ⟨((((h1.other (a := ⟨g14, 0, none⟩) h4 _).other (a := ⟨g14, 1, none⟩) h4 _).other (a := ⟨g14, 2, none⟩) h4 _).other (a := ⟨g14, 3, none⟩) h4 _).other (a := ⟨g14, 4, none⟩) h4 _, h2.whole k0 k1 k2 k3 k4, below_five h3 h5 _ _ _ _ _, h4, h5⟩
def opa0 : Oper := { dst := some 54, op := Go.Op.move (Go.Operand.tmp 0), type := 9, pos := "theorems.go:71", after := #[], guard := none }
def opa1 : Oper := { dst := some 55, op := Go.Op.call { callee := Go.Callee.value (Go.Operand.func 16), args := #[Go.Operand.tmp 54, Go.Operand.const (Go.Value.int Go.IntKind.i64 0)], argTypes := #[9, 3] }, type := 9, pos := "theorems.go:71", after := #[{ on := 0, ground := Go.Ground.data }], guard := none }
def opa2 : Oper := { dst := some 56, op := Go.Op.move (Go.Operand.tmp 11), type := 44, pos := "theorems.go:71", after := #[], guard := none }
def opa3 : Oper := { dst := some 57, op := Go.Op.convert 44 9 (Go.Operand.tmp 56), type := 9, pos := "theorems.go:71", after := #[{ on := 2, ground := Go.Ground.data }], guard := none }
def opa4 : Oper := { dst := some 58, op := Go.Op.call { callee := Go.Callee.value (Go.Operand.func 14), args := #[Go.Operand.tmp 55, Go.Operand.tmp 57], argTypes := #[9, 9] }, type := 39, pos := "theorems.go:71", after := #[{ on := 1, ground := Go.Ground.data }, { on := 3, ground := Go.Ground.data }, { on := 1, ground := Go.Ground.chain }], guard := none }
def opa5 : Oper := { dst := some 53, op := Go.Op.move (Go.Operand.tmp 58), type := 39, pos := "theorems.go:71", after := #[{ on := 4, ground := Go.Ground.data }], guard := none }
def opa6 : Oper := { dst := some 59, op := Go.Op.extract (Go.Operand.tmp 53) 0, type := 37, pos := "theorems.go:71", after := #[{ on := 5, ground := Go.Ground.data }], guard := none }
def opa7 : Oper := { dst := some 60, op := Go.Op.extract (Go.Operand.tmp 53) 1, type := 9, pos := "theorems.go:71", after := #[{ on := 5, ground := Go.Ground.data }, { on := 12, ground := Go.Ground.gcOnly Go.Departure.lateStores }], guard := none }
def opa8 : Oper := { dst := some 61, op := Go.Op.extract (Go.Operand.tmp 53) 2, type := 23, pos := "theorems.go:71", after := #[{ on := 5, ground := Go.Ground.data }, { on := 13, ground := Go.Ground.gcOnly Go.Departure.lateStores }], guard := none }
def opa9 : Oper := { dst := some 62, op := Go.Op.extract (Go.Operand.tmp 53) 3, type := 24, pos := "theorems.go:71", after := #[{ on := 5, ground := Go.Ground.data }, { on := 14, ground := Go.Ground.gcOnly Go.Departure.lateStores }], guard := none }
def opa10 : Oper := { dst := some 12, op := Go.Op.alloc 37, type := 0, pos := "theorems.go:71", after := #[], guard := none }
def opa11 : Oper := { dst := some 14, op := Go.Op.alloc 23, type := 0, pos := "theorems.go:71", after := #[], guard := none }
def opa12 : Oper := { dst := none, op := Go.Op.store 37 (Go.Operand.tmp 12) (Go.Operand.tmp 59), type := 0, pos := "theorems.go:71", after := #[{ on := 10, ground := Go.Ground.data }, { on := 6, ground := Go.Ground.data }, { on := 4, ground := Go.Ground.chain }, { on := 0, ground := Go.Ground.phase }, { on := 1, ground := Go.Ground.phase }, { on := 2, ground := Go.Ground.phase }, { on := 3, ground := Go.Ground.phase }, { on := 4, ground := Go.Ground.phase }, { on := 5, ground := Go.Ground.phase }, { on := 6, ground := Go.Ground.phase }, { on := 7, ground := Go.Ground.textOnly Go.Departure.lateStores }, { on := 8, ground := Go.Ground.textOnly Go.Departure.lateStores }, { on := 9, ground := Go.Ground.textOnly Go.Departure.lateStores }, { on := 10, ground := Go.Ground.phase }, { on := 11, ground := Go.Ground.phase }], guard := none }
def opa13 : Oper := { dst := some 13, op := Go.Op.assign (Go.Operand.tmp 60), type := 9, pos := "theorems.go:71", after := #[{ on := 7, ground := Go.Ground.data }, { on := 12, ground := Go.Ground.chain }, { on := 0, ground := Go.Ground.phase }, { on := 1, ground := Go.Ground.phase }, { on := 2, ground := Go.Ground.phase }, { on := 3, ground := Go.Ground.phase }, { on := 4, ground := Go.Ground.phase }, { on := 5, ground := Go.Ground.phase }, { on := 6, ground := Go.Ground.phase }, { on := 7, ground := Go.Ground.phase }, { on := 8, ground := Go.Ground.textOnly Go.Departure.lateStores }, { on := 9, ground := Go.Ground.textOnly Go.Departure.lateStores }, { on := 10, ground := Go.Ground.phase }, { on := 11, ground := Go.Ground.phase }, { on := 12, ground := Go.Ground.phase }], guard := none }
def opa14 : Oper := { dst := none, op := Go.Op.store 23 (Go.Operand.tmp 14) (Go.Operand.tmp 61), type := 0, pos := "theorems.go:71", after := #[{ on := 11, ground := Go.Ground.data }, { on := 8, ground := Go.Ground.data }, { on := 13, ground := Go.Ground.chain }, { on := 0, ground := Go.Ground.phase }, { on := 1, ground := Go.Ground.phase }, { on := 2, ground := Go.Ground.phase }, { on := 3, ground := Go.Ground.phase }, { on := 4, ground := Go.Ground.phase }, { on := 5, ground := Go.Ground.phase }, { on := 6, ground := Go.Ground.phase }, { on := 7, ground := Go.Ground.phase }, { on := 8, ground := Go.Ground.phase }, { on := 9, ground := Go.Ground.textOnly Go.Departure.lateStores }, { on := 10, ground := Go.Ground.phase }, { on := 11, ground := Go.Ground.phase }, { on := 12, ground := Go.Ground.phase }, { on := 13, ground := Go.Ground.phase }], guard := none }
def opa15 : Oper := { dst := some 15, op := Go.Op.assign (Go.Operand.tmp 62), type := 24, pos := "theorems.go:71", after := #[{ on := 9, ground := Go.Ground.data }, { on := 14, ground := Go.Ground.chain }, { on := 0, ground := Go.Ground.phase }, { on := 1, ground := Go.Ground.phase }, { on := 2, ground := Go.Ground.phase }, { on := 3, ground := Go.Ground.phase }, { on := 4, ground := Go.Ground.phase }, { on := 5, ground := Go.Ground.phase }, { on := 6, ground := Go.Ground.phase }, { on := 7, ground := Go.Ground.phase }, { on := 8, ground := Go.Ground.phase }, { on := 9, ground := Go.Ground.phase }, { on := 10, ground := Go.Ground.phase }, { on := 11, ground := Go.Ground.phase }, { on := 12, ground := Go.Ground.phase }, { on := 13, ground := Go.Ground.phase }, { on := 14, ground := Go.Ground.phase }], guard := none }
def opb0 : Oper := { dst := some 82, op := Go.Op.fieldAddr 23 (Go.Operand.tmp 14) 1, type := 0, pos := "theorems.go:75", after := #[], guard := none }
def opb1 : Oper := { dst := some 83, op := Go.Op.load 9 (Go.Operand.tmp 82), type := 9, pos := "theorems.go:75", after := #[{ on := 0, ground := Go.Ground.data }], guard := none }
def opb2 : Oper := { dst := some 84, op := Go.Op.move (Go.Operand.tmp 11), type := 44, pos := "theorems.go:75", after := #[], guard := none }
def opb3 : Oper := { dst := some 85, op := Go.Op.slice 44 (Go.Operand.tmp 84) (some (Go.Operand.const (Go.Value.int Go.IntKind.i64 48))) none none, type := 44, pos := "theorems.go:75", after := #[{ on := 2, ground := Go.Ground.data }], guard := none }
def opb4 : Oper := { dst := some 86, op := Go.Op.convert 44 9 (Go.Operand.tmp 85), type := 9, pos := "theorems.go:75", after := #[{ on := 3, ground := Go.Ground.data }], guard := none }
def opb5 : Oper := { dst := some 87, op := Go.Op.buildSlice 30 1 #[(0, Go.Operand.tmp 86)], type := 30, pos := "theorems.go:75", after := #[{ on := 4, ground := Go.Ground.data }], guard := none }
def opb6 : Oper := { dst := some 88, op := Go.Op.call { callee := Go.Callee.value (Go.Operand.func 19), args := #[Go.Operand.tmp 83, Go.Operand.tmp 87], argTypes := #[9, 30] }, type := 9, pos := "theorems.go:75", after := #[{ on := 1, ground := Go.Ground.data }, { on := 5, ground := Go.Ground.data }], guard := none }
def opb7 : Oper := { dst := some 89, op := Go.Op.slice 9 (Go.Operand.tmp 88) none (some (Go.Operand.const (Go.Value.int Go.IntKind.i64 16))) none, type := 9, pos := "theorems.go:75", after := #[{ on := 6, ground := Go.Ground.data }], guard := none }
def opb8 : Oper := { dst := some 90, op := Go.Op.move (Go.Operand.tmp 11), type := 44, pos := "theorems.go:75", after := #[], guard := none }
def opb9 : Oper := { dst := some 91, op := Go.Op.slice 44 (Go.Operand.tmp 90) (some (Go.Operand.const (Go.Value.int Go.IntKind.i64 32))) (some (Go.Operand.const (Go.Value.int Go.IntKind.i64 48))) none, type := 44, pos := "theorems.go:75", after := #[{ on := 8, ground := Go.Ground.data }], guard := none }
def opb10 : Oper := { dst := some 92, op := Go.Op.convert 44 9 (Go.Operand.tmp 91), type := 9, pos := "theorems.go:75", after := #[{ on := 9, ground := Go.Ground.data }], guard := none }
def opb11 : Oper := { dst := some 93, op := Go.Op.binOp Go.BinOp.eql 9 (Go.Operand.tmp 89) (Go.Operand.tmp 92) 9, type := 4, pos := "theorems.go:75", after := #[{ on := 7, ground := Go.Ground.data }, { on := 10, ground := Go.Ground.data }], guard := none }
def opb12 : Oper := { dst := some 6, op := Go.Op.assign (Go.Operand.tmp 93), type := 4, pos := "theorems.go:75", after := #[{ on := 11, ground := Go.Ground.data }, { on := 6, ground := Go.Ground.chain }, { on := 0, ground := Go.Ground.phase }, { on := 1, ground := Go.Ground.phase }, { on := 2, ground := Go.Ground.phase }, { on := 3, ground := Go.Ground.phase }, { on := 4, ground := Go.Ground.phase }, { on := 5, ground := Go.Ground.phase }, { on := 6, ground := Go.Ground.phase }, { on := 7, ground := Go.Ground.phase }, { on := 8, ground := Go.Ground.phase }, { on := 9, ground := Go.Ground.phase }, { on := 10, ground := Go.Ground.phase }, { on := 11, ground := Go.Ground.phase }], guard := none }
set_option maxHeartbeats 2000000 in
theorem turned_walk_nz (CO : Hid OfC) (CM : Hid MakeC) (CL : Hid PeelC) (who : ByteArray) (zw : Hid (who.size + 64 ≤ 140737488355328)) (at_ : Int) (y : UInt8) (hy : y ≠ 0) (w : World) (hK : Hid (Kh w)) :
    Calls Tryz.prog 7 #[.string who, .int .i64 at_, .int .u8 (y.toNat : Int)] w fun e w' => e = .returned (.bool true) ∧ Below w.heap.size w w' := by
  have WK : Hid (∀ w, Kh w → Calls Tryz.prog 10 #[] w fun e w' => e = .returned (.bool true) ∧ Below w.heap.size w w') := fun w h => works8_any CM CL w h
  obtain ⟨SD, hSD⟩ : ∃ S : ByteArray, pv who 9 = S := ⟨_, rfl⟩
  have zS : SD.size = 32 := by rw [← hSD]; exact pv_size _ _
  have V9 : Hid (∀ w, Kh w → Calls Tryz.prog 16 #[.string who, .int .i64 9] w fun e w' => e = .returned (.string SD) ∧ Below w.heap.size w w') := fun w h => by
    rw [← hSD]; exact private_any _ 9 (by decide) zw w h
  have V0 : Hid (∀ w, Kh w → Calls Tryz.prog 16 #[.string who, .int .i64 0] w fun e w' => e = .returned (.string (pv who 0)) ∧ Below w.heap.size w w') := fun w h => private_any _ 0 (by decide) zw w h
  have P0 : Hid (∀ w, Kh w → Calls Tryz.prog 17 #[.string who, .int .i64 0] w fun e w' => e = .returned (.string (pp who 0)) ∧ Below w.heap.size w w') := fun w h => public_any _ 0 (by decide) zw w h
  have P1 : Hid (∀ w, Kh w → Calls Tryz.prog 17 #[.string who, .int .i64 1] w fun e w' => e = .returned (.string (pp who 1)) ∧ Below w.heap.size w w') := fun w h => public_any _ 1 (by decide) zw w h
  obtain ⟨ss, HD, f1, n1, f2, f3, f4, f5, f6, f7, f8⟩ := made_first SD who tway 2 zS rfl tway_ok
  have e2 : pps who 2 = [pp who 0, pp who 1] := rfl
  rw [e2] at f2 f3 f4
  have MK : Hid (∀ (A B : Nat) (w : World), Kh w → w.cell? ⟨A, 0, none⟩ = some (.string (pp who 0)) → w.cell? ⟨A, 1, none⟩ = some (.string (pp who 1)) → HopsAt w (some ⟨B, 0, none⟩) tway → Calls Tryz.prog 12 #[.string SD, .slice (some ⟨A, 0, none⟩) 2 2, .slice (some ⟨B, 0, none⟩) 2 2] w fun e w' => ∃ v, e = .returned (.tuple #[.string HD, v, .int .i64 0]) ∧ Below w.heap.size w w') := fun A B w h h0 h1 h2 => by
    have := CM.out SD (some ⟨A, 0, none⟩) [pp who 0, pp who 1] 2 2 (some ⟨B, 0, none⟩) tway 2 2 w ⟨rfl, rfl⟩ (by show (2 : Nat) * 16 ≤ _ ∧ (2 : Nat) * 48 ≤ _; decide) (by show SD.size + 64 ≤ _; omega) (fun p hp => by
      simp at hp
      rcases hp with rfl | rfl
      · rw [pp_size]; decide
      · rw [pp_size]; decide) (fun x hx => by
      simp [tway] at hx
      rcases hx with rfl | rfl
      · show (0 : Nat) ≤ _; decide
      · show (0 : Nat) ≤ _; decide) h (strAt2 h0 h1) h2
    rw [f2, f3, f4] at this
    exact this.mono fun e w' ⟨v, q1, _, q3⟩ => ⟨v, q1, q3⟩
  obtain ⟨PT, hPT⟩ : ∃ x, Crv.ek (Crv.pub SD) = x := ⟨_, rfl⟩
  rw [hPT] at f6 f7 f8
  have zPT : PT.size = 32 := by rw [← hPT]; exact Crv.ek_size _
  obtain ⟨S, hS⟩ : ∃ x, Crv.ek (Crv.tm (pv who 0) PT) = x := ⟨_, rfl⟩
  have zSS : S.size = 32 := by rw [← hS]; exact Crv.ek_size _
  have SH : Hid (∀ w, Calls Tryz.prog 18 #[.string (pv who 0), .string PT] w fun e w' => e = .returned (.tuple #[.string S, .int .i64 0]) ∧ Below w.heap.size w w') := fun w => by
    rw [← hS]; exact Crv.Shared_ok (pv who 0) PT (pv_size _ _) zPT f7 w
  have OF : Hid (∀ w, Kh w → Calls Tryz.prog 9 #[.string S] w fun e w' => e = .returned (.tuple #[kv S, .int .i64 0]) ∧ Below w.heap.size w w') := fun w h => by
    have := CO.out S w (by show _ ≤ _; omega) h
    unfold ofV at this
    rw [if_pos zSS] at this
    exact this
  have PE : Hid (∀ (p : Nat) (x : UInt8), 32 ≤ p → ∀ w, Kh w → Calls Tryz.prog 14 #[.string (pv who 0), .string (trn8 HD p x)] w fun e w' => e = .returned (.tuple (plV (pv who 0) (trn8 HD p x))) ∧ Below w.heap.size w w') := fun p x hp w h => CL.out (pv who 0) (trn8 HD p x) w (by show (pv who 0).size ≤ _; rw [pv_size]; decide) (by show (trn8 HD p x).size ≤ _; rw [trn8_size, f5]; decide) h
  have WAY : Hid (∀ (p : Nat) (x : UInt8), 32 ≤ p → ∃ (k n u d : Int) (id s k0 k1 k2 k3 k4 : ByteArray) (e : Int), plV (pv who 0) (trn8 HD p x) = #[.agg #[.int .i64 k, .int .i64 n, .int .i64 u, .int .i64 d, .string id], .string s, .agg #[.string k0, .string k1, .string k2, .string k3, .string k4], .int .i64 e] ∧ (e = 81 ∨ (e = 0 ∨ e = 70) ∧ (((hmb S ((trn8 HD p x).extract 48 248)).toList == ((trn8 HD p x).extract 32 48).toList) = true))) := fun p x hp => by
    have ways := plV_ways (pv who 0) (trn8 HD p x) S _ _ _ _ (pv_size _ _) (by rw [trn8_size]; exact f5) (by rw [trn8_point _ _ _ hp, f6]; exact f7) (by rw [trn8_point _ _ _ hp, f6]; exact hS) rfl rfl rfl rfl
    obtain ⟨sm, hsm⟩ : ∃ b : Bool, (((trn8 HD p x).extract 32 48).toList == (hmb S ((trn8 HD p x).extract 48 248)).toList) = b := ⟨_, rfl⟩
    have hms : ((hmb S ((trn8 HD p x).extract 48 248)).toList == ((trn8 HD p x).extract 32 48).toList) = sm := by rw [← hsm, Bool.eq_iff_iff, beq_iff_eq, beq_iff_eq]; exact eq_comm
    rw [hsm] at ways
    rw [hms]
    cases sm with
    | false => exact ⟨_, _, _, _, _, _, _, _, _, _, _, _, ways.1 rfl, .inl rfl⟩
    | true =>
      cases hdc : dcd ((htn S ((trn8 HD p x).extract 48 248 ++ zba 40)).extract 0 24).data.toList with
      | none => exact ⟨_, _, _, _, _, _, _, _, _, _, _, _, ways.2.1 rfl hdc, .inr ⟨.inr rfl, rfl⟩⟩
      | some z => exact ⟨_, _, _, _, _, _, _, _, _, _, _, _, ways.2.2 rfl z hdc, .inr ⟨.inl rfl, rfl⟩⟩
  unfold kv at OF
  have zHi : (HD.size : Int) = 248 := by omega
  have HP : Hid (HD.extract 0 32 = PT) := f6
  clear f1 n1 f2 f3 f4 f6 f7 f8 hS hPT hSD e2 zSS zPT CO CM CL zw
  have hyi : ((y.toNat : Int) == 0) = false := by rw [beq_eq_false_iff_ne]; intro h; exact hy (UInt8.toNat_inj.1 (by simpa using h))
  go_enter Tryz.func7, Tryz.ntmps7
  go_wp2_with fail
  refine Calls.mono (WK.out _ hK.out) ?_
  rintro e w1 ⟨rfl, hb⟩
  have B1 : Hid (Below w.heap.size w w1) := hb
  clear hb WK
  go_wp2_with fail
  refine Calls.mono (V9.out _ (hK.out.later B1.out)) ?_
  rintro e w2 ⟨rfl, hb⟩
  have B2 : Hid (Below w.heap.size w w2) := chain B1.out hb
  clear hb V9 B1
  go_wp2_with fail
  refine Calls.mono (P0.out _ (hK.out.later B2.out)) ?_
  rintro e w3 ⟨rfl, hb⟩
  have B3 : Hid (Below w.heap.size w w3) := chain B2.out hb
  clear hb P0 B2
  go_wp2_with fail
  refine Calls.mono (P1.out _ (hK.out.later B3.out)) ?_
  rintro e w4 ⟨rfl, hb⟩
  have B4 : Hid (Below w.heap.size w w4) := chain B3.out hb
  clear hb P1 B3
  go_wp2_with fail
  have HW : HopsAt ((w4.alloc (.cells #[.string (pp who 0), .string (pp who 1)] 9)).alloc (.cells #[.int .i64 1, .int .i64 1, .int .i64 0, .int .i64 0, .string ⟨#[]⟩, .int .i64 4, .int .i64 0, .int .i64 0, .int .i64 0, .string ⟨#[]⟩] 37)) (some ⟨w4.heap.size + 1, 0, none⟩) tway := by
    have := hops_two (w4.alloc (.cells #[.string (pp who 0), .string (pp who 1)] 9)) 37 ⟨1, 1, 0, 0, ⟨#[]⟩⟩ ⟨4, 0, 0, 0, ⟨#[]⟩⟩
    simpa [go_sem, tway] using this
  have BA : Hid (Below w.heap.size w ((w4.alloc (.cells #[.string (pp who 0), .string (pp who 1)] 9)).alloc (.cells #[.int .i64 1, .int .i64 1, .int .i64 0, .int .i64 0, .string ⟨#[]⟩, .int .i64 4, .int .i64 0, .int .i64 0, .int .i64 0, .string ⟨#[]⟩] 37))) := (B4.out.alloc B4.out.size _).alloc (by have := B4.out.size; simp; omega) _
  refine Calls.mono (MK.out _ _ _ (hK.out.later BA.out) (by simp [go_sem]) (by simp [go_sem]) HW) ?_
  rintro e w5 ⟨v, rfl, hb⟩
  have B5 : Hid (Below w.heap.size w w5) := chain BA.out hb
  clear hb MK BA HW B4
  obtain ⟨cap, W6, CV, BY, bW, hcap, hcapm, hlt6⟩ := bytes_of2 HD (by omega) w5
  have B6 : Hid (BytesAt W6 w5.heap.size HD.data.toList ∧ Below w.heap.size w W6) := ⟨BY, chain B5.out bW⟩
  clear bW BY hlt6
  have GB : Hid (w.heap.size ≤ w5.heap.size) := B5.out.size
  generalize w5.heap.size = gb at *
  obtain ⟨r, hr, hr2⟩ : ∃ r : Nat, (IntKind.u64.wrap at_).tmod 216 = (r : Int) ∧ r < 216 := by
    have h : IntKind.u64.wrap at_ = at_ % 18446744073709551616 := by rw [IntKind.wrap_u64]
    rw [h, Int.tmod_eq_emod_of_nonneg (Int.emod_nonneg _ (by decide))]
    refine ⟨(at_ % 18446744073709551616 % 216).toNat, ?_, ?_⟩
    · have := Int.emod_nonneg (at_ % 18446744073709551616) (b := 216) (by decide); omega
    · have := Int.emod_lt_of_pos (at_ % 18446744073709551616) (b := 216) (by decide); have := Int.emod_nonneg (at_ % 18446744073709551616) (b := 216) (by decide); omega
  obtain ⟨p, hp⟩ : ∃ p : Nat, 32 + r = p := ⟨_, rfl⟩
  have t2 : wrap64 (r : Int) = (r : Int) := by unfold wrap64; omega
  have t2' : IntKind.i64.wrap (r : Int) = (r : Int) := by rw [IntKind.wrap_i64]; omega
  have t3 : wrap64 (32 + (r : Int)) = (p : Int) := by unfold wrap64; omega
  have t3' : IntKind.i64.wrap (32 + (r : Int)) = (p : Int) := by rw [IntKind.wrap_i64]; omega
  have hp1 : (p : Int) < 248 := by omega
  have hp0 : (0 : Int) ≤ (p : Int) := by omega
  have hpl : p < HD.data.toList.length := by rw [list_sz]; omega
  obtain ⟨cx, fx⟩ := B6.out.1 p hpl
  have hp32 : Hid (32 ≤ p) := (show 32 ≤ p by omega)
  obtain ⟨x, hx⟩ : ∃ x, HD.data.toList[p] = x := ⟨_, rfl⟩
  rw [hx] at cx
  clear hx hp hr2
  have XY := sxor8 x y
  have B7 : Hid (BytesAt (W6.setCell ⟨gb, p, none⟩ (.int .u8 ((x ^^^ y).toNat : Int))) gb (HD.data.toList.set p (x ^^^ y)) ∧ Below w.heap.size w (W6.setCell ⟨gb, p, none⟩ (.int .u8 ((x ^^^ y).toNat : Int)))) := by
    have hg : w.heap.size ≤ gb := GB.out
    exact ⟨B6.out.1.set p (x ^^^ y) _ rfl, B6.out.2.setCell (p := ⟨gb, p, none⟩) hg _⟩
  generalize x ^^^ y = z at *
  obtain ⟨xk, xn, xu, xd, xid, xs, k0, k1, k2, k3, k4, ee, hV, hcase⟩ := WAY.out p z hp32.out
  have PE' : Hid (∀ w, Kh w → Calls Tryz.prog 14 #[.string (pv who 0), .string (trn8 HD p z)] w fun e w' => e = .returned (.tuple #[.agg #[.int .i64 xk, .int .i64 xn, .int .i64 xu, .int .i64 xd, .string xid], .string xs, .agg #[.string k0, .string k1, .string k2, .string k3, .string k4], .int .i64 ee]) ∧ Below w.heap.size w w') := fun w h => by
    have := PE.out p z hp32.out w h
    rw [hV] at this
    exact this
  have HC : Hid (_ ∨ _) := hcase
  have lBL : (HD.data.toList.set p z).length = 248 := by rw [List.length_set, list_sz]; exact f5
  have CVT : Hid (∀ w', BytesAt w' gb (HD.data.toList.set p z) → (convert 44 9 (.slice (some ⟨gb, 0, none⟩) 248 cap)).run Tryz.prog w' = .ok (.string (trn8 HD p z)) w') := fun w' h => h.string lBL
  have CVL : Hid (∀ w' c, BytesAt w' gb (HD.data.toList.set p z) → (convert 44 9 (.slice (some ⟨gb, 48, none⟩) 200 c)).run Tryz.prog w' = .ok (.string ((trn8 HD p z).extract 48 248)) w') := fun w' c h => by
    have := bytes_mid (o := 48) (k := 200) (cap := c) h (by rw [lBL]; decide)
    rw [trn8_cut] at this
    exact this
  have CVM : Hid (∀ w' c, BytesAt w' gb (HD.data.toList.set p z) → (convert 44 9 (.slice (some ⟨gb, 32, none⟩) 16 c)).run Tryz.prog w' = .ok (.string ((trn8 HD p z).extract 32 48)) w') := fun w' c h => by
    have := bytes_mid (o := 32) (k := 16) (cap := c) h (by rw [lBL]; decide)
    rw [trn8_cut] at this
    exact this
  have GL : Hid (gb < W6.heap.size) := World.block_lt_of_cell? _ _ cx
  clear hV hcase PE WAY lBL
  generalize HD.data.toList.set p z = BL at *
  obtain ⟨TB, hTB⟩ : ∃ x, trn8 HD p z = x := ⟨_, rfl⟩
  have zTB : TB.size = 248 := by rw [← hTB, trn8_size]; exact f5
  rw [hTB] at PE' HC CVT CVL CVM
  clear hTB
  generalize pv who 0 = PV at *
  go_wp2_with fail
  obtain ⟨X0, hX0⟩ : ∃ X, W6.setCell ⟨gb, p, none⟩ (.int .u8 (z.toNat : Int)) = X := ⟨_, rfl⟩
  have ST0 : Hid (Stw w X0.drew gb BL none none) := by
    rw [← hX0]
    exact ⟨B7.out.1, B7.out.2.drew, by have := GL.out; simpa [go_sem] using this, fun g hg => by (cases hg), fun g hg => by (cases hg)⟩
  have HS0 : BytesAt X0.drew gb BL := ST0.out.1
  rw [hX0]
  clear hX0 B7 B6 cx fx XY GL t2 t2' t3 t3' hpl B5
  refine (fun (KEY : ∀ (g12 g14 : Nat) (X : World), Hid (BytesAt X gb BL ∧ Five X g14 k0 k1 k2 k3 k4 ∧ Below w.heap.size w X ∧ g14 ≠ gb ∧ w.heap.size ≤ g14) → (?KK1 : Nat → Nat → World → Prop) g12 g14 X) => ?main1) ?key1
  case main1 =>
    refine wp_region_noPanic ?_
    refine wp_region_held_drew (S := fun w' => BytesAt w' gb BL) (by kernel_rfl) (HS0) (fun hHeld => ?_)
    refine wpAnyH_take (i := 0) (oi := opa0) (v := ?_) rfl (by kernel_rfl) (by kernel_rfl) (by kernel_rfl) (fun _ _ _ h => h) (Or.inl ⟨by rfl, ?_⟩) (by assumption) ?_
    rotate_left
    · intro w' hSw
      clear hSw
      unfold opa0
      first
      | (go_simp; done)
      | (go_simp; with_reducible rfl)
    simp only [opa0, Act.put, List.setIfInBounds_toArray, List.set_cons_zero, List.set_cons_succ]
    refine wpAnyH_take (i := 2) (oi := opa2) (v := ?_) rfl (by kernel_rfl) (by kernel_rfl) (by kernel_rfl) (fun _ _ _ h => h) (Or.inl ⟨by rfl, ?_⟩) (by assumption) ?_
    rotate_left
    · intro w' hSw
      clear hSw
      unfold opa2
      first
      | (go_simp; done)
      | (go_simp; with_reducible rfl)
    simp only [opa2, Act.put, List.setIfInBounds_toArray, List.set_cons_zero, List.set_cons_succ]
    refine wpAnyH_take (i := 3) (oi := opa3) (v := ?_) rfl (by kernel_rfl) (by kernel_rfl) (by kernel_rfl) (fun _ _ _ h => h) (Or.inl ⟨by rfl, ?_⟩) (by assumption) ?_
    rotate_left
    · intro w' hSw
      have cvt := CVT.out w' hSw; clear hSw
      unfold opa3
      first
      | (go_simp; done)
      | (go_simp; with_reducible rfl)
    simp only [opa3, Act.put, List.setIfInBounds_toArray, List.set_cons_zero, List.set_cons_succ]
    obtain ⟨D0, hD0⟩ : ∃ D, X0.drew = D := ⟨_, rfl⟩
    have STa : Hid (Stw w D0 gb BL none none) := by rw [← hD0]; exact ST0.out
    rw [hD0] at hHeld
    rw [hD0]
    clear hD0
    refine wpAnyH_ready (rs := [1, 10, 11]) (by kernel_rfl) (by simp) ?_
    refine AllReadyH.cons (o := opa1) rfl (fun KK hKK => ?_) (AllReadyH.cons (o := opa10) rfl (fun KK hKK => ?_) (AllReadyH.cons (o := opa11) rfl (fun KK hKK => ?_) AllReadyH.nil))
    ·
      unfold opa1
      go_simp
      refine Calls.mono (V0.out _ (hK.out.later STa.out.2.1)) ?_
      rintro e U1 ⟨rfl, hb⟩
      have ST1 : Hid (Stw w U1 gb BL none none) := STa.out.later hb
      refine hKK.out _ _ ST1.out.1 (fun hHeld1 => ?_)
      clear hKK KK hb hHeld STa
      refine wpAnyH_ready (rs := [4, 10, 11]) (by kernel_rfl) (by simp) ?_
      refine AllReadyH.cons (o := opa4) rfl (fun KK hKK => ?_) (AllReadyH.cons (o := opa10) rfl (fun KK hKK => ?_) (AllReadyH.cons (o := opa11) rfl (fun KK hKK => ?_) AllReadyH.nil))
      ·
        unfold opa4
        go_simp
        refine Calls.mono (PE'.out _ (hK.out.later ST1.out.2.1)) ?_
        rintro e U2 ⟨rfl, hb⟩
        have ST2 : Hid (Stw w U2 gb BL none none) := ST1.out.later hb
        refine hKK.out _ _ ST2.out.1 (fun hHeld2 => ?_)
        clear hKK KK hb hHeld1 ST1
        refine wpAnyH_take (i := 5) (oi := opa5) (v := ?_) rfl (by kernel_rfl) (by kernel_rfl) (by kernel_rfl) (fun _ _ _ h => h) (Or.inl ⟨by rfl, ?_⟩) (by assumption) ?_
        rotate_left
        · intro w' hSw
          clear hSw
          unfold opa5
          first
          | (go_simp; done)
          | (go_simp; with_reducible rfl)
        simp only [opa5, Act.put, List.setIfInBounds_toArray, List.set_cons_zero, List.set_cons_succ]
        refine wpAnyH_take (i := 6) (oi := opa6) (v := ?_) rfl (by kernel_rfl) (by kernel_rfl) (by kernel_rfl) (fun _ _ _ h => h) (Or.inl ⟨by rfl, ?_⟩) (by assumption) ?_
        rotate_left
        · intro w' hSw
          clear hSw
          unfold opa6
          first
          | (go_simp; done)
          | (go_simp; with_reducible rfl)
        simp only [opa6, Act.put, List.setIfInBounds_toArray, List.set_cons_zero, List.set_cons_succ]
        refine wpAnyH_take (i := 7) (oi := opa7) (v := ?_) rfl (by kernel_rfl) (by kernel_rfl) (by kernel_rfl) (fun _ _ _ h => h) (Or.inl ⟨by rfl, ?_⟩) (by assumption) ?_
        rotate_left
        · intro w' hSw
          clear hSw
          unfold opa7
          first
          | (go_simp; done)
          | (go_simp; with_reducible rfl)
        simp only [opa7, Act.put, List.setIfInBounds_toArray, List.set_cons_zero, List.set_cons_succ]
        refine wpAnyH_take (i := 8) (oi := opa8) (v := ?_) rfl (by kernel_rfl) (by kernel_rfl) (by kernel_rfl) (fun _ _ _ h => h) (Or.inl ⟨by rfl, ?_⟩) (by assumption) ?_
        rotate_left
        · intro w' hSw
          clear hSw
          unfold opa8
          first
          | (go_simp; done)
          | (go_simp; with_reducible rfl)
        simp only [opa8, Act.put, List.setIfInBounds_toArray, List.set_cons_zero, List.set_cons_succ]
        refine wpAnyH_take (i := 9) (oi := opa9) (v := ?_) rfl (by kernel_rfl) (by kernel_rfl) (by kernel_rfl) (fun _ _ _ h => h) (Or.inl ⟨by rfl, ?_⟩) (by assumption) ?_
        rotate_left
        · intro w' hSw
          clear hSw
          unfold opa9
          first
          | (go_simp; done)
          | (go_simp; with_reducible rfl)
        simp only [opa9, Act.put, List.setIfInBounds_toArray, List.set_cons_zero, List.set_cons_succ]
        refine wpAnyH_ready (rs := [10, 11]) (by kernel_rfl) (by simp) ?_
        refine AllReadyH.cons (o := opa10) rfl (fun KK hKK => ?_) (AllReadyH.cons (o := opa11) rfl (fun KK hKK => ?_) AllReadyH.nil)
        ·
          unfold opa10
          go_simp
          have ST3 : Hid (Stw w (U2.alloc (.cells #[.int .i64 0, .int .i64 0, .int .i64 0, .int .i64 0, .string ⟨#[]⟩] 37)) gb BL (some U2.heap.size) none) := ST2.out.hop
          refine hKK.out _ _ ST3.out.1 (fun hHeld3 => ?_)
          clear hKK KK hHeld2 ST2
          obtain ⟨U3, hU3⟩ : ∃ X, U2.alloc (.cells #[.int .i64 0, .int .i64 0, .int .i64 0, .int .i64 0, .string ⟨#[]⟩] 37) = X := ⟨_, rfl⟩
          obtain ⟨g3, hg3⟩ : ∃ t, U2.heap.size = t := ⟨_, rfl⟩
          rw [hU3, hg3] at ST3
          rw [hU3] at hHeld3
          rw [hU3, hg3]
          clear hU3 hg3
          refine wpAnyH_ready (rs := [11]) (by kernel_rfl) (by simp) ?_
          refine AllReadyH.cons (o := opa11) rfl (fun KK hKK => ?_) AllReadyH.nil
          ·
            unfold opa11
            go_simp
            have ST4 : Hid (Stw w (U3.alloc (.cells #[.string ⟨#[]⟩, .string ⟨#[]⟩, .string ⟨#[]⟩, .string ⟨#[]⟩, .string ⟨#[]⟩] 23)) gb BL (some g3) (some U3.heap.size)) := ST3.out.keys
            refine hKK.out _ _ ST4.out.1 (fun hHeld4 => ?_)
            clear hKK KK hHeld3 ST3
            obtain ⟨U4, hU4⟩ : ∃ X, U3.alloc (.cells #[.string ⟨#[]⟩, .string ⟨#[]⟩, .string ⟨#[]⟩, .string ⟨#[]⟩, .string ⟨#[]⟩] 23) = X := ⟨_, rfl⟩
            obtain ⟨g4, hg4⟩ : ∃ t, U3.heap.size = t := ⟨_, rfl⟩
            rw [hU4, hg4] at ST4
            rw [hU4] at hHeld4
            rw [hU4, hg4]
            clear hU4 hg4
            obtain ⟨fz12, -⟩ := (ST4.out.2.2.2.1 g3 rfl).1
            obtain ⟨h0, h1, h2, h3, h4⟩ := HopAt.cells (ST4.out.2.2.2.1 g3 rfl).1
            have z0 := fz12 0
            have z1 := fz12 1
            have z2 := fz12 2
            have z3 := fz12 3
            have z4 := fz12 4
            have P12 : Hid (_ ∧ _ ∧ _ ∧ _ ∧ _) := ST4.out.putH xk xn xu xd xid
            unfold YtckfplpiakbbdaaGreatDoor.putH at P12
            refine wpAnyH_ready (rs := [12]) (by kernel_rfl) (by simp) ?_
            refine AllReadyH.cons (o := opa12) rfl (fun KK hKK => ?_) AllReadyH.nil
            unfold opa12
            go_simp
            refine hKK.out _ _ P12.out.1 (fun hHeldA => ?_)
            clear hKK KK h0 h1 h2 h3 h4 z0 z1 z2 z3 z4 fz12 hHeld4 ST4
            obtain ⟨Y, hY⟩ : ∃ Y, ((((U4.setCell ⟨g3, 0, none⟩ (.int .i64 xk)).setCell ⟨g3, 1, none⟩ (.int .i64 xn)).setCell ⟨g3, 2, none⟩ (.int .i64 xu)).setCell ⟨g3, 3, none⟩ (.int .i64 xd)).setCell ⟨g3, 4, none⟩ (.string xid) = Y := ⟨_, rfl⟩
            rw [hY] at P12 hHeldA
            rw [hY]
            clear hY
            refine wpAnyH_take (i := 13) (oi := opa13) (v := ?_) rfl (by kernel_rfl) (by kernel_rfl) (by kernel_rfl) (fun _ _ _ h => h) (Or.inl ⟨by rfl, ?_⟩) (by assumption) ?_
            rotate_left
            · intro w' hSw
              clear hSw
              unfold opa13
              first
              | (go_simp; done)
              | (go_simp; with_reducible rfl)
            simp only [opa13, Act.put, List.setIfInBounds_toArray, List.set_cons_zero, List.set_cons_succ]
            obtain ⟨fz14, h0, h1, h2, h3, h4⟩ := P12.out.2.1
            have z0 := fz14 0
            have z1 := fz14 1
            have z2 := fz14 2
            have z3 := fz14 3
            have z4 := fz14 4
            have P14 : Hid (_ ∧ _ ∧ _ ∧ _ ∧ _) := putK_fin P12.out k0 k1 k2 k3 k4
            unfold YtckfplpiakbbdaaGreatDoor.putK at P14
            refine wpAnyH_ready (rs := [14]) (by kernel_rfl) (by simp) ?_
            refine AllReadyH.cons (o := opa14) rfl (fun KK hKK => ?_) AllReadyH.nil
            unfold opa14
            go_simp
            refine hKK.out _ _ P14.out.1 (fun hHeldB => ?_)
            clear hKK KK h0 h1 h2 h3 h4 z0 z1 z2 z3 z4 fz14 hHeldA P12
            obtain ⟨Y2, hY2⟩ : ∃ Y2, ((((Y.setCell ⟨g4, 0, none⟩ (.string k0)).setCell ⟨g4, 1, none⟩ (.string k1)).setCell ⟨g4, 2, none⟩ (.string k2)).setCell ⟨g4, 3, none⟩ (.string k3)).setCell ⟨g4, 4, none⟩ (.string k4) = Y2 := ⟨_, rfl⟩
            rw [hY2] at P14 hHeldB
            rw [hY2]
            clear hY2
            refine wpAnyH_take (i := 15) (oi := opa15) (v := ?_) rfl (by kernel_rfl) (by kernel_rfl) (by kernel_rfl) (fun _ _ _ h => h) (Or.inl ⟨by rfl, ?_⟩) (by assumption) ?_
            rotate_left
            · intro w' hSw
              clear hSw
              unfold opa15
              first
              | (go_simp; done)
              | (go_simp; with_reducible rfl)
            simp only [opa15, Act.put, List.setIfInBounds_toArray, List.set_cons_zero, List.set_cons_succ]
            refine wpAnyH_done (by kernel_rfl) ?_ _
            refine NoPanic.normal ?_
            exact KEY g3 g4 Y2 P14.out
        ·
          unfold opa11
          go_simp
          have ST5 : Hid (Stw w (U2.alloc (.cells #[.string ⟨#[]⟩, .string ⟨#[]⟩, .string ⟨#[]⟩, .string ⟨#[]⟩, .string ⟨#[]⟩] 23)) gb BL none (some U2.heap.size)) := ST2.out.keys
          refine hKK.out _ _ ST5.out.1 (fun hHeld5 => ?_)
          clear hKK KK hHeld2 ST2
          obtain ⟨U5, hU5⟩ : ∃ X, U2.alloc (.cells #[.string ⟨#[]⟩, .string ⟨#[]⟩, .string ⟨#[]⟩, .string ⟨#[]⟩, .string ⟨#[]⟩] 23) = X := ⟨_, rfl⟩
          obtain ⟨g5, hg5⟩ : ∃ t, U2.heap.size = t := ⟨_, rfl⟩
          rw [hU5, hg5] at ST5
          rw [hU5] at hHeld5
          rw [hU5, hg5]
          clear hU5 hg5
          refine wpAnyH_ready (rs := [10]) (by kernel_rfl) (by simp) ?_
          refine AllReadyH.cons (o := opa10) rfl (fun KK hKK => ?_) AllReadyH.nil
          ·
            unfold opa10
            go_simp
            have ST6 : Hid (Stw w (U5.alloc (.cells #[.int .i64 0, .int .i64 0, .int .i64 0, .int .i64 0, .string ⟨#[]⟩] 37)) gb BL (some U5.heap.size) (some g5)) := ST5.out.hop
            refine hKK.out _ _ ST6.out.1 (fun hHeld6 => ?_)
            clear hKK KK hHeld5 ST5
            obtain ⟨U6, hU6⟩ : ∃ X, U5.alloc (.cells #[.int .i64 0, .int .i64 0, .int .i64 0, .int .i64 0, .string ⟨#[]⟩] 37) = X := ⟨_, rfl⟩
            obtain ⟨g6, hg6⟩ : ∃ t, U5.heap.size = t := ⟨_, rfl⟩
            rw [hU6, hg6] at ST6
            rw [hU6] at hHeld6
            rw [hU6, hg6]
            clear hU6 hg6
            obtain ⟨fz12, -⟩ := (ST6.out.2.2.2.1 g6 rfl).1
            obtain ⟨h0, h1, h2, h3, h4⟩ := HopAt.cells (ST6.out.2.2.2.1 g6 rfl).1
            have z0 := fz12 0
            have z1 := fz12 1
            have z2 := fz12 2
            have z3 := fz12 3
            have z4 := fz12 4
            have P12 : Hid (_ ∧ _ ∧ _ ∧ _ ∧ _) := ST6.out.putH xk xn xu xd xid
            unfold YtckfplpiakbbdaaGreatDoor.putH at P12
            refine wpAnyH_ready (rs := [12]) (by kernel_rfl) (by simp) ?_
            refine AllReadyH.cons (o := opa12) rfl (fun KK hKK => ?_) AllReadyH.nil
            unfold opa12
            go_simp
            refine hKK.out _ _ P12.out.1 (fun hHeldA => ?_)
            clear hKK KK h0 h1 h2 h3 h4 z0 z1 z2 z3 z4 fz12 hHeld6 ST6
            obtain ⟨Y, hY⟩ : ∃ Y, ((((U6.setCell ⟨g6, 0, none⟩ (.int .i64 xk)).setCell ⟨g6, 1, none⟩ (.int .i64 xn)).setCell ⟨g6, 2, none⟩ (.int .i64 xu)).setCell ⟨g6, 3, none⟩ (.int .i64 xd)).setCell ⟨g6, 4, none⟩ (.string xid) = Y := ⟨_, rfl⟩
            rw [hY] at P12 hHeldA
            rw [hY]
            clear hY
            refine wpAnyH_take (i := 13) (oi := opa13) (v := ?_) rfl (by kernel_rfl) (by kernel_rfl) (by kernel_rfl) (fun _ _ _ h => h) (Or.inl ⟨by rfl, ?_⟩) (by assumption) ?_
            rotate_left
            · intro w' hSw
              clear hSw
              unfold opa13
              first
              | (go_simp; done)
              | (go_simp; with_reducible rfl)
            simp only [opa13, Act.put, List.setIfInBounds_toArray, List.set_cons_zero, List.set_cons_succ]
            obtain ⟨fz14, h0, h1, h2, h3, h4⟩ := P12.out.2.1
            have z0 := fz14 0
            have z1 := fz14 1
            have z2 := fz14 2
            have z3 := fz14 3
            have z4 := fz14 4
            have P14 : Hid (_ ∧ _ ∧ _ ∧ _ ∧ _) := putK_fin P12.out k0 k1 k2 k3 k4
            unfold YtckfplpiakbbdaaGreatDoor.putK at P14
            refine wpAnyH_ready (rs := [14]) (by kernel_rfl) (by simp) ?_
            refine AllReadyH.cons (o := opa14) rfl (fun KK hKK => ?_) AllReadyH.nil
            unfold opa14
            go_simp
            refine hKK.out _ _ P14.out.1 (fun hHeldB => ?_)
            clear hKK KK h0 h1 h2 h3 h4 z0 z1 z2 z3 z4 fz14 hHeldA P12
            obtain ⟨Y2, hY2⟩ : ∃ Y2, ((((Y.setCell ⟨g5, 0, none⟩ (.string k0)).setCell ⟨g5, 1, none⟩ (.string k1)).setCell ⟨g5, 2, none⟩ (.string k2)).setCell ⟨g5, 3, none⟩ (.string k3)).setCell ⟨g5, 4, none⟩ (.string k4) = Y2 := ⟨_, rfl⟩
            rw [hY2] at P14 hHeldB
            rw [hY2]
            clear hY2
            refine wpAnyH_take (i := 15) (oi := opa15) (v := ?_) rfl (by kernel_rfl) (by kernel_rfl) (by kernel_rfl) (fun _ _ _ h => h) (Or.inl ⟨by rfl, ?_⟩) (by assumption) ?_
            rotate_left
            · intro w' hSw
              clear hSw
              unfold opa15
              first
              | (go_simp; done)
              | (go_simp; with_reducible rfl)
            simp only [opa15, Act.put, List.setIfInBounds_toArray, List.set_cons_zero, List.set_cons_succ]
            refine wpAnyH_done (by kernel_rfl) ?_ _
            refine NoPanic.normal ?_
            exact KEY g6 g5 Y2 P14.out
      ·
        unfold opa10
        go_simp
        have ST7 : Hid (Stw w (U1.alloc (.cells #[.int .i64 0, .int .i64 0, .int .i64 0, .int .i64 0, .string ⟨#[]⟩] 37)) gb BL (some U1.heap.size) none) := ST1.out.hop
        refine hKK.out _ _ ST7.out.1 (fun hHeld7 => ?_)
        clear hKK KK hHeld1 ST1
        obtain ⟨U7, hU7⟩ : ∃ X, U1.alloc (.cells #[.int .i64 0, .int .i64 0, .int .i64 0, .int .i64 0, .string ⟨#[]⟩] 37) = X := ⟨_, rfl⟩
        obtain ⟨g7, hg7⟩ : ∃ t, U1.heap.size = t := ⟨_, rfl⟩
        rw [hU7, hg7] at ST7
        rw [hU7] at hHeld7
        rw [hU7, hg7]
        clear hU7 hg7
        refine wpAnyH_ready (rs := [4, 11]) (by kernel_rfl) (by simp) ?_
        refine AllReadyH.cons (o := opa4) rfl (fun KK hKK => ?_) (AllReadyH.cons (o := opa11) rfl (fun KK hKK => ?_) AllReadyH.nil)
        ·
          unfold opa4
          go_simp
          refine Calls.mono (PE'.out _ (hK.out.later ST7.out.2.1)) ?_
          rintro e U8 ⟨rfl, hb⟩
          have ST8 : Hid (Stw w U8 gb BL (some g7) none) := ST7.out.later hb
          refine hKK.out _ _ ST8.out.1 (fun hHeld8 => ?_)
          clear hKK KK hb hHeld7 ST7
          refine wpAnyH_take (i := 5) (oi := opa5) (v := ?_) rfl (by kernel_rfl) (by kernel_rfl) (by kernel_rfl) (fun _ _ _ h => h) (Or.inl ⟨by rfl, ?_⟩) (by assumption) ?_
          rotate_left
          · intro w' hSw
            clear hSw
            unfold opa5
            first
            | (go_simp; done)
            | (go_simp; with_reducible rfl)
          simp only [opa5, Act.put, List.setIfInBounds_toArray, List.set_cons_zero, List.set_cons_succ]
          refine wpAnyH_take (i := 6) (oi := opa6) (v := ?_) rfl (by kernel_rfl) (by kernel_rfl) (by kernel_rfl) (fun _ _ _ h => h) (Or.inl ⟨by rfl, ?_⟩) (by assumption) ?_
          rotate_left
          · intro w' hSw
            clear hSw
            unfold opa6
            first
            | (go_simp; done)
            | (go_simp; with_reducible rfl)
          simp only [opa6, Act.put, List.setIfInBounds_toArray, List.set_cons_zero, List.set_cons_succ]
          refine wpAnyH_take (i := 7) (oi := opa7) (v := ?_) rfl (by kernel_rfl) (by kernel_rfl) (by kernel_rfl) (fun _ _ _ h => h) (Or.inl ⟨by rfl, ?_⟩) (by assumption) ?_
          rotate_left
          · intro w' hSw
            clear hSw
            unfold opa7
            first
            | (go_simp; done)
            | (go_simp; with_reducible rfl)
          simp only [opa7, Act.put, List.setIfInBounds_toArray, List.set_cons_zero, List.set_cons_succ]
          refine wpAnyH_take (i := 8) (oi := opa8) (v := ?_) rfl (by kernel_rfl) (by kernel_rfl) (by kernel_rfl) (fun _ _ _ h => h) (Or.inl ⟨by rfl, ?_⟩) (by assumption) ?_
          rotate_left
          · intro w' hSw
            clear hSw
            unfold opa8
            first
            | (go_simp; done)
            | (go_simp; with_reducible rfl)
          simp only [opa8, Act.put, List.setIfInBounds_toArray, List.set_cons_zero, List.set_cons_succ]
          refine wpAnyH_take (i := 9) (oi := opa9) (v := ?_) rfl (by kernel_rfl) (by kernel_rfl) (by kernel_rfl) (fun _ _ _ h => h) (Or.inl ⟨by rfl, ?_⟩) (by assumption) ?_
          rotate_left
          · intro w' hSw
            clear hSw
            unfold opa9
            first
            | (go_simp; done)
            | (go_simp; with_reducible rfl)
          simp only [opa9, Act.put, List.setIfInBounds_toArray, List.set_cons_zero, List.set_cons_succ]
          refine wpAnyH_ready (rs := [11]) (by kernel_rfl) (by simp) ?_
          refine AllReadyH.cons (o := opa11) rfl (fun KK hKK => ?_) AllReadyH.nil
          ·
            unfold opa11
            go_simp
            have ST9 : Hid (Stw w (U8.alloc (.cells #[.string ⟨#[]⟩, .string ⟨#[]⟩, .string ⟨#[]⟩, .string ⟨#[]⟩, .string ⟨#[]⟩] 23)) gb BL (some g7) (some U8.heap.size)) := ST8.out.keys
            refine hKK.out _ _ ST9.out.1 (fun hHeld9 => ?_)
            clear hKK KK hHeld8 ST8
            obtain ⟨U9, hU9⟩ : ∃ X, U8.alloc (.cells #[.string ⟨#[]⟩, .string ⟨#[]⟩, .string ⟨#[]⟩, .string ⟨#[]⟩, .string ⟨#[]⟩] 23) = X := ⟨_, rfl⟩
            obtain ⟨g9, hg9⟩ : ∃ t, U8.heap.size = t := ⟨_, rfl⟩
            rw [hU9, hg9] at ST9
            rw [hU9] at hHeld9
            rw [hU9, hg9]
            clear hU9 hg9
            obtain ⟨fz12, -⟩ := (ST9.out.2.2.2.1 g7 rfl).1
            obtain ⟨h0, h1, h2, h3, h4⟩ := HopAt.cells (ST9.out.2.2.2.1 g7 rfl).1
            have z0 := fz12 0
            have z1 := fz12 1
            have z2 := fz12 2
            have z3 := fz12 3
            have z4 := fz12 4
            have P12 : Hid (_ ∧ _ ∧ _ ∧ _ ∧ _) := ST9.out.putH xk xn xu xd xid
            unfold YtckfplpiakbbdaaGreatDoor.putH at P12
            refine wpAnyH_ready (rs := [12]) (by kernel_rfl) (by simp) ?_
            refine AllReadyH.cons (o := opa12) rfl (fun KK hKK => ?_) AllReadyH.nil
            unfold opa12
            go_simp
            refine hKK.out _ _ P12.out.1 (fun hHeldA => ?_)
            clear hKK KK h0 h1 h2 h3 h4 z0 z1 z2 z3 z4 fz12 hHeld9 ST9
            obtain ⟨Y, hY⟩ : ∃ Y, ((((U9.setCell ⟨g7, 0, none⟩ (.int .i64 xk)).setCell ⟨g7, 1, none⟩ (.int .i64 xn)).setCell ⟨g7, 2, none⟩ (.int .i64 xu)).setCell ⟨g7, 3, none⟩ (.int .i64 xd)).setCell ⟨g7, 4, none⟩ (.string xid) = Y := ⟨_, rfl⟩
            rw [hY] at P12 hHeldA
            rw [hY]
            clear hY
            refine wpAnyH_take (i := 13) (oi := opa13) (v := ?_) rfl (by kernel_rfl) (by kernel_rfl) (by kernel_rfl) (fun _ _ _ h => h) (Or.inl ⟨by rfl, ?_⟩) (by assumption) ?_
            rotate_left
            · intro w' hSw
              clear hSw
              unfold opa13
              first
              | (go_simp; done)
              | (go_simp; with_reducible rfl)
            simp only [opa13, Act.put, List.setIfInBounds_toArray, List.set_cons_zero, List.set_cons_succ]
            obtain ⟨fz14, h0, h1, h2, h3, h4⟩ := P12.out.2.1
            have z0 := fz14 0
            have z1 := fz14 1
            have z2 := fz14 2
            have z3 := fz14 3
            have z4 := fz14 4
            have P14 : Hid (_ ∧ _ ∧ _ ∧ _ ∧ _) := putK_fin P12.out k0 k1 k2 k3 k4
            unfold YtckfplpiakbbdaaGreatDoor.putK at P14
            refine wpAnyH_ready (rs := [14]) (by kernel_rfl) (by simp) ?_
            refine AllReadyH.cons (o := opa14) rfl (fun KK hKK => ?_) AllReadyH.nil
            unfold opa14
            go_simp
            refine hKK.out _ _ P14.out.1 (fun hHeldB => ?_)
            clear hKK KK h0 h1 h2 h3 h4 z0 z1 z2 z3 z4 fz14 hHeldA P12
            obtain ⟨Y2, hY2⟩ : ∃ Y2, ((((Y.setCell ⟨g9, 0, none⟩ (.string k0)).setCell ⟨g9, 1, none⟩ (.string k1)).setCell ⟨g9, 2, none⟩ (.string k2)).setCell ⟨g9, 3, none⟩ (.string k3)).setCell ⟨g9, 4, none⟩ (.string k4) = Y2 := ⟨_, rfl⟩
            rw [hY2] at P14 hHeldB
            rw [hY2]
            clear hY2
            refine wpAnyH_take (i := 15) (oi := opa15) (v := ?_) rfl (by kernel_rfl) (by kernel_rfl) (by kernel_rfl) (fun _ _ _ h => h) (Or.inl ⟨by rfl, ?_⟩) (by assumption) ?_
            rotate_left
            · intro w' hSw
              clear hSw
              unfold opa15
              first
              | (go_simp; done)
              | (go_simp; with_reducible rfl)
            simp only [opa15, Act.put, List.setIfInBounds_toArray, List.set_cons_zero, List.set_cons_succ]
            refine wpAnyH_done (by kernel_rfl) ?_ _
            refine NoPanic.normal ?_
            exact KEY g7 g9 Y2 P14.out
        ·
          unfold opa11
          go_simp
          have ST10 : Hid (Stw w (U7.alloc (.cells #[.string ⟨#[]⟩, .string ⟨#[]⟩, .string ⟨#[]⟩, .string ⟨#[]⟩, .string ⟨#[]⟩] 23)) gb BL (some g7) (some U7.heap.size)) := ST7.out.keys
          refine hKK.out _ _ ST10.out.1 (fun hHeld10 => ?_)
          clear hKK KK hHeld7 ST7
          obtain ⟨U10, hU10⟩ : ∃ X, U7.alloc (.cells #[.string ⟨#[]⟩, .string ⟨#[]⟩, .string ⟨#[]⟩, .string ⟨#[]⟩, .string ⟨#[]⟩] 23) = X := ⟨_, rfl⟩
          obtain ⟨g10, hg10⟩ : ∃ t, U7.heap.size = t := ⟨_, rfl⟩
          rw [hU10, hg10] at ST10
          rw [hU10] at hHeld10
          rw [hU10, hg10]
          clear hU10 hg10
          refine wpAnyH_ready (rs := [4]) (by kernel_rfl) (by simp) ?_
          refine AllReadyH.cons (o := opa4) rfl (fun KK hKK => ?_) AllReadyH.nil
          ·
            unfold opa4
            go_simp
            refine Calls.mono (PE'.out _ (hK.out.later ST10.out.2.1)) ?_
            rintro e U11 ⟨rfl, hb⟩
            have ST11 : Hid (Stw w U11 gb BL (some g7) (some g10)) := ST10.out.later hb
            refine hKK.out _ _ ST11.out.1 (fun hHeld11 => ?_)
            clear hKK KK hb hHeld10 ST10
            refine wpAnyH_take (i := 5) (oi := opa5) (v := ?_) rfl (by kernel_rfl) (by kernel_rfl) (by kernel_rfl) (fun _ _ _ h => h) (Or.inl ⟨by rfl, ?_⟩) (by assumption) ?_
            rotate_left
            · intro w' hSw
              clear hSw
              unfold opa5
              first
              | (go_simp; done)
              | (go_simp; with_reducible rfl)
            simp only [opa5, Act.put, List.setIfInBounds_toArray, List.set_cons_zero, List.set_cons_succ]
            refine wpAnyH_take (i := 6) (oi := opa6) (v := ?_) rfl (by kernel_rfl) (by kernel_rfl) (by kernel_rfl) (fun _ _ _ h => h) (Or.inl ⟨by rfl, ?_⟩) (by assumption) ?_
            rotate_left
            · intro w' hSw
              clear hSw
              unfold opa6
              first
              | (go_simp; done)
              | (go_simp; with_reducible rfl)
            simp only [opa6, Act.put, List.setIfInBounds_toArray, List.set_cons_zero, List.set_cons_succ]
            refine wpAnyH_take (i := 7) (oi := opa7) (v := ?_) rfl (by kernel_rfl) (by kernel_rfl) (by kernel_rfl) (fun _ _ _ h => h) (Or.inl ⟨by rfl, ?_⟩) (by assumption) ?_
            rotate_left
            · intro w' hSw
              clear hSw
              unfold opa7
              first
              | (go_simp; done)
              | (go_simp; with_reducible rfl)
            simp only [opa7, Act.put, List.setIfInBounds_toArray, List.set_cons_zero, List.set_cons_succ]
            refine wpAnyH_take (i := 8) (oi := opa8) (v := ?_) rfl (by kernel_rfl) (by kernel_rfl) (by kernel_rfl) (fun _ _ _ h => h) (Or.inl ⟨by rfl, ?_⟩) (by assumption) ?_
            rotate_left
            · intro w' hSw
              clear hSw
              unfold opa8
              first
              | (go_simp; done)
              | (go_simp; with_reducible rfl)
            simp only [opa8, Act.put, List.setIfInBounds_toArray, List.set_cons_zero, List.set_cons_succ]
            refine wpAnyH_take (i := 9) (oi := opa9) (v := ?_) rfl (by kernel_rfl) (by kernel_rfl) (by kernel_rfl) (fun _ _ _ h => h) (Or.inl ⟨by rfl, ?_⟩) (by assumption) ?_
            rotate_left
            · intro w' hSw
              clear hSw
              unfold opa9
              first
              | (go_simp; done)
              | (go_simp; with_reducible rfl)
            simp only [opa9, Act.put, List.setIfInBounds_toArray, List.set_cons_zero, List.set_cons_succ]
            obtain ⟨fz12, -⟩ := (ST11.out.2.2.2.1 g7 rfl).1
            obtain ⟨h0, h1, h2, h3, h4⟩ := HopAt.cells (ST11.out.2.2.2.1 g7 rfl).1
            have z0 := fz12 0
            have z1 := fz12 1
            have z2 := fz12 2
            have z3 := fz12 3
            have z4 := fz12 4
            have P12 : Hid (_ ∧ _ ∧ _ ∧ _ ∧ _) := ST11.out.putH xk xn xu xd xid
            unfold YtckfplpiakbbdaaGreatDoor.putH at P12
            refine wpAnyH_ready (rs := [12]) (by kernel_rfl) (by simp) ?_
            refine AllReadyH.cons (o := opa12) rfl (fun KK hKK => ?_) AllReadyH.nil
            unfold opa12
            go_simp
            refine hKK.out _ _ P12.out.1 (fun hHeldA => ?_)
            clear hKK KK h0 h1 h2 h3 h4 z0 z1 z2 z3 z4 fz12 hHeld11 ST11
            obtain ⟨Y, hY⟩ : ∃ Y, ((((U11.setCell ⟨g7, 0, none⟩ (.int .i64 xk)).setCell ⟨g7, 1, none⟩ (.int .i64 xn)).setCell ⟨g7, 2, none⟩ (.int .i64 xu)).setCell ⟨g7, 3, none⟩ (.int .i64 xd)).setCell ⟨g7, 4, none⟩ (.string xid) = Y := ⟨_, rfl⟩
            rw [hY] at P12 hHeldA
            rw [hY]
            clear hY
            refine wpAnyH_take (i := 13) (oi := opa13) (v := ?_) rfl (by kernel_rfl) (by kernel_rfl) (by kernel_rfl) (fun _ _ _ h => h) (Or.inl ⟨by rfl, ?_⟩) (by assumption) ?_
            rotate_left
            · intro w' hSw
              clear hSw
              unfold opa13
              first
              | (go_simp; done)
              | (go_simp; with_reducible rfl)
            simp only [opa13, Act.put, List.setIfInBounds_toArray, List.set_cons_zero, List.set_cons_succ]
            obtain ⟨fz14, h0, h1, h2, h3, h4⟩ := P12.out.2.1
            have z0 := fz14 0
            have z1 := fz14 1
            have z2 := fz14 2
            have z3 := fz14 3
            have z4 := fz14 4
            have P14 : Hid (_ ∧ _ ∧ _ ∧ _ ∧ _) := putK_fin P12.out k0 k1 k2 k3 k4
            unfold YtckfplpiakbbdaaGreatDoor.putK at P14
            refine wpAnyH_ready (rs := [14]) (by kernel_rfl) (by simp) ?_
            refine AllReadyH.cons (o := opa14) rfl (fun KK hKK => ?_) AllReadyH.nil
            unfold opa14
            go_simp
            refine hKK.out _ _ P14.out.1 (fun hHeldB => ?_)
            clear hKK KK h0 h1 h2 h3 h4 z0 z1 z2 z3 z4 fz14 hHeldA P12
            obtain ⟨Y2, hY2⟩ : ∃ Y2, ((((Y.setCell ⟨g10, 0, none⟩ (.string k0)).setCell ⟨g10, 1, none⟩ (.string k1)).setCell ⟨g10, 2, none⟩ (.string k2)).setCell ⟨g10, 3, none⟩ (.string k3)).setCell ⟨g10, 4, none⟩ (.string k4) = Y2 := ⟨_, rfl⟩
            rw [hY2] at P14 hHeldB
            rw [hY2]
            clear hY2
            refine wpAnyH_take (i := 15) (oi := opa15) (v := ?_) rfl (by kernel_rfl) (by kernel_rfl) (by kernel_rfl) (fun _ _ _ h => h) (Or.inl ⟨by rfl, ?_⟩) (by assumption) ?_
            rotate_left
            · intro w' hSw
              clear hSw
              unfold opa15
              first
              | (go_simp; done)
              | (go_simp; with_reducible rfl)
            simp only [opa15, Act.put, List.setIfInBounds_toArray, List.set_cons_zero, List.set_cons_succ]
            refine wpAnyH_done (by kernel_rfl) ?_ _
            refine NoPanic.normal ?_
            exact KEY g7 g10 Y2 P14.out
      ·
        unfold opa11
        go_simp
        have ST12 : Hid (Stw w (U1.alloc (.cells #[.string ⟨#[]⟩, .string ⟨#[]⟩, .string ⟨#[]⟩, .string ⟨#[]⟩, .string ⟨#[]⟩] 23)) gb BL none (some U1.heap.size)) := ST1.out.keys
        refine hKK.out _ _ ST12.out.1 (fun hHeld12 => ?_)
        clear hKK KK hHeld1 ST1
        obtain ⟨U12, hU12⟩ : ∃ X, U1.alloc (.cells #[.string ⟨#[]⟩, .string ⟨#[]⟩, .string ⟨#[]⟩, .string ⟨#[]⟩, .string ⟨#[]⟩] 23) = X := ⟨_, rfl⟩
        obtain ⟨g12, hg12⟩ : ∃ t, U1.heap.size = t := ⟨_, rfl⟩
        rw [hU12, hg12] at ST12
        rw [hU12] at hHeld12
        rw [hU12, hg12]
        clear hU12 hg12
        refine wpAnyH_ready (rs := [4, 10]) (by kernel_rfl) (by simp) ?_
        refine AllReadyH.cons (o := opa4) rfl (fun KK hKK => ?_) (AllReadyH.cons (o := opa10) rfl (fun KK hKK => ?_) AllReadyH.nil)
        ·
          unfold opa4
          go_simp
          refine Calls.mono (PE'.out _ (hK.out.later ST12.out.2.1)) ?_
          rintro e U13 ⟨rfl, hb⟩
          have ST13 : Hid (Stw w U13 gb BL none (some g12)) := ST12.out.later hb
          refine hKK.out _ _ ST13.out.1 (fun hHeld13 => ?_)
          clear hKK KK hb hHeld12 ST12
          refine wpAnyH_take (i := 5) (oi := opa5) (v := ?_) rfl (by kernel_rfl) (by kernel_rfl) (by kernel_rfl) (fun _ _ _ h => h) (Or.inl ⟨by rfl, ?_⟩) (by assumption) ?_
          rotate_left
          · intro w' hSw
            clear hSw
            unfold opa5
            first
            | (go_simp; done)
            | (go_simp; with_reducible rfl)
          simp only [opa5, Act.put, List.setIfInBounds_toArray, List.set_cons_zero, List.set_cons_succ]
          refine wpAnyH_take (i := 6) (oi := opa6) (v := ?_) rfl (by kernel_rfl) (by kernel_rfl) (by kernel_rfl) (fun _ _ _ h => h) (Or.inl ⟨by rfl, ?_⟩) (by assumption) ?_
          rotate_left
          · intro w' hSw
            clear hSw
            unfold opa6
            first
            | (go_simp; done)
            | (go_simp; with_reducible rfl)
          simp only [opa6, Act.put, List.setIfInBounds_toArray, List.set_cons_zero, List.set_cons_succ]
          refine wpAnyH_take (i := 7) (oi := opa7) (v := ?_) rfl (by kernel_rfl) (by kernel_rfl) (by kernel_rfl) (fun _ _ _ h => h) (Or.inl ⟨by rfl, ?_⟩) (by assumption) ?_
          rotate_left
          · intro w' hSw
            clear hSw
            unfold opa7
            first
            | (go_simp; done)
            | (go_simp; with_reducible rfl)
          simp only [opa7, Act.put, List.setIfInBounds_toArray, List.set_cons_zero, List.set_cons_succ]
          refine wpAnyH_take (i := 8) (oi := opa8) (v := ?_) rfl (by kernel_rfl) (by kernel_rfl) (by kernel_rfl) (fun _ _ _ h => h) (Or.inl ⟨by rfl, ?_⟩) (by assumption) ?_
          rotate_left
          · intro w' hSw
            clear hSw
            unfold opa8
            first
            | (go_simp; done)
            | (go_simp; with_reducible rfl)
          simp only [opa8, Act.put, List.setIfInBounds_toArray, List.set_cons_zero, List.set_cons_succ]
          refine wpAnyH_take (i := 9) (oi := opa9) (v := ?_) rfl (by kernel_rfl) (by kernel_rfl) (by kernel_rfl) (fun _ _ _ h => h) (Or.inl ⟨by rfl, ?_⟩) (by assumption) ?_
          rotate_left
          · intro w' hSw
            clear hSw
            unfold opa9
            first
            | (go_simp; done)
            | (go_simp; with_reducible rfl)
          simp only [opa9, Act.put, List.setIfInBounds_toArray, List.set_cons_zero, List.set_cons_succ]
          refine wpAnyH_ready (rs := [10]) (by kernel_rfl) (by simp) ?_
          refine AllReadyH.cons (o := opa10) rfl (fun KK hKK => ?_) AllReadyH.nil
          ·
            unfold opa10
            go_simp
            have ST14 : Hid (Stw w (U13.alloc (.cells #[.int .i64 0, .int .i64 0, .int .i64 0, .int .i64 0, .string ⟨#[]⟩] 37)) gb BL (some U13.heap.size) (some g12)) := ST13.out.hop
            refine hKK.out _ _ ST14.out.1 (fun hHeld14 => ?_)
            clear hKK KK hHeld13 ST13
            obtain ⟨U14, hU14⟩ : ∃ X, U13.alloc (.cells #[.int .i64 0, .int .i64 0, .int .i64 0, .int .i64 0, .string ⟨#[]⟩] 37) = X := ⟨_, rfl⟩
            obtain ⟨g14, hg14⟩ : ∃ t, U13.heap.size = t := ⟨_, rfl⟩
            rw [hU14, hg14] at ST14
            rw [hU14] at hHeld14
            rw [hU14, hg14]
            clear hU14 hg14
            obtain ⟨fz12, -⟩ := (ST14.out.2.2.2.1 g14 rfl).1
            obtain ⟨h0, h1, h2, h3, h4⟩ := HopAt.cells (ST14.out.2.2.2.1 g14 rfl).1
            have z0 := fz12 0
            have z1 := fz12 1
            have z2 := fz12 2
            have z3 := fz12 3
            have z4 := fz12 4
            have P12 : Hid (_ ∧ _ ∧ _ ∧ _ ∧ _) := ST14.out.putH xk xn xu xd xid
            unfold YtckfplpiakbbdaaGreatDoor.putH at P12
            refine wpAnyH_ready (rs := [12]) (by kernel_rfl) (by simp) ?_
            refine AllReadyH.cons (o := opa12) rfl (fun KK hKK => ?_) AllReadyH.nil
            unfold opa12
            go_simp
            refine hKK.out _ _ P12.out.1 (fun hHeldA => ?_)
            clear hKK KK h0 h1 h2 h3 h4 z0 z1 z2 z3 z4 fz12 hHeld14 ST14
            obtain ⟨Y, hY⟩ : ∃ Y, ((((U14.setCell ⟨g14, 0, none⟩ (.int .i64 xk)).setCell ⟨g14, 1, none⟩ (.int .i64 xn)).setCell ⟨g14, 2, none⟩ (.int .i64 xu)).setCell ⟨g14, 3, none⟩ (.int .i64 xd)).setCell ⟨g14, 4, none⟩ (.string xid) = Y := ⟨_, rfl⟩
            rw [hY] at P12 hHeldA
            rw [hY]
            clear hY
            refine wpAnyH_take (i := 13) (oi := opa13) (v := ?_) rfl (by kernel_rfl) (by kernel_rfl) (by kernel_rfl) (fun _ _ _ h => h) (Or.inl ⟨by rfl, ?_⟩) (by assumption) ?_
            rotate_left
            · intro w' hSw
              clear hSw
              unfold opa13
              first
              | (go_simp; done)
              | (go_simp; with_reducible rfl)
            simp only [opa13, Act.put, List.setIfInBounds_toArray, List.set_cons_zero, List.set_cons_succ]
            obtain ⟨fz14, h0, h1, h2, h3, h4⟩ := P12.out.2.1
            have z0 := fz14 0
            have z1 := fz14 1
            have z2 := fz14 2
            have z3 := fz14 3
            have z4 := fz14 4
            have P14 : Hid (_ ∧ _ ∧ _ ∧ _ ∧ _) := putK_fin P12.out k0 k1 k2 k3 k4
            unfold YtckfplpiakbbdaaGreatDoor.putK at P14
            refine wpAnyH_ready (rs := [14]) (by kernel_rfl) (by simp) ?_
            refine AllReadyH.cons (o := opa14) rfl (fun KK hKK => ?_) AllReadyH.nil
            unfold opa14
            go_simp
            refine hKK.out _ _ P14.out.1 (fun hHeldB => ?_)
            clear hKK KK h0 h1 h2 h3 h4 z0 z1 z2 z3 z4 fz14 hHeldA P12
            obtain ⟨Y2, hY2⟩ : ∃ Y2, ((((Y.setCell ⟨g12, 0, none⟩ (.string k0)).setCell ⟨g12, 1, none⟩ (.string k1)).setCell ⟨g12, 2, none⟩ (.string k2)).setCell ⟨g12, 3, none⟩ (.string k3)).setCell ⟨g12, 4, none⟩ (.string k4) = Y2 := ⟨_, rfl⟩
            rw [hY2] at P14 hHeldB
            rw [hY2]
            clear hY2
            refine wpAnyH_take (i := 15) (oi := opa15) (v := ?_) rfl (by kernel_rfl) (by kernel_rfl) (by kernel_rfl) (fun _ _ _ h => h) (Or.inl ⟨by rfl, ?_⟩) (by assumption) ?_
            rotate_left
            · intro w' hSw
              clear hSw
              unfold opa15
              first
              | (go_simp; done)
              | (go_simp; with_reducible rfl)
            simp only [opa15, Act.put, List.setIfInBounds_toArray, List.set_cons_zero, List.set_cons_succ]
            refine wpAnyH_done (by kernel_rfl) ?_ _
            refine NoPanic.normal ?_
            exact KEY g14 g12 Y2 P14.out
        ·
          unfold opa10
          go_simp
          have ST15 : Hid (Stw w (U12.alloc (.cells #[.int .i64 0, .int .i64 0, .int .i64 0, .int .i64 0, .string ⟨#[]⟩] 37)) gb BL (some U12.heap.size) (some g12)) := ST12.out.hop
          refine hKK.out _ _ ST15.out.1 (fun hHeld15 => ?_)
          clear hKK KK hHeld12 ST12
          obtain ⟨U15, hU15⟩ : ∃ X, U12.alloc (.cells #[.int .i64 0, .int .i64 0, .int .i64 0, .int .i64 0, .string ⟨#[]⟩] 37) = X := ⟨_, rfl⟩
          obtain ⟨g15, hg15⟩ : ∃ t, U12.heap.size = t := ⟨_, rfl⟩
          rw [hU15, hg15] at ST15
          rw [hU15] at hHeld15
          rw [hU15, hg15]
          clear hU15 hg15
          refine wpAnyH_ready (rs := [4]) (by kernel_rfl) (by simp) ?_
          refine AllReadyH.cons (o := opa4) rfl (fun KK hKK => ?_) AllReadyH.nil
          ·
            unfold opa4
            go_simp
            refine Calls.mono (PE'.out _ (hK.out.later ST15.out.2.1)) ?_
            rintro e U16 ⟨rfl, hb⟩
            have ST16 : Hid (Stw w U16 gb BL (some g15) (some g12)) := ST15.out.later hb
            refine hKK.out _ _ ST16.out.1 (fun hHeld16 => ?_)
            clear hKK KK hb hHeld15 ST15
            refine wpAnyH_take (i := 5) (oi := opa5) (v := ?_) rfl (by kernel_rfl) (by kernel_rfl) (by kernel_rfl) (fun _ _ _ h => h) (Or.inl ⟨by rfl, ?_⟩) (by assumption) ?_
            rotate_left
            · intro w' hSw
              clear hSw
              unfold opa5
              first
              | (go_simp; done)
              | (go_simp; with_reducible rfl)
            simp only [opa5, Act.put, List.setIfInBounds_toArray, List.set_cons_zero, List.set_cons_succ]
            refine wpAnyH_take (i := 6) (oi := opa6) (v := ?_) rfl (by kernel_rfl) (by kernel_rfl) (by kernel_rfl) (fun _ _ _ h => h) (Or.inl ⟨by rfl, ?_⟩) (by assumption) ?_
            rotate_left
            · intro w' hSw
              clear hSw
              unfold opa6
              first
              | (go_simp; done)
              | (go_simp; with_reducible rfl)
            simp only [opa6, Act.put, List.setIfInBounds_toArray, List.set_cons_zero, List.set_cons_succ]
            refine wpAnyH_take (i := 7) (oi := opa7) (v := ?_) rfl (by kernel_rfl) (by kernel_rfl) (by kernel_rfl) (fun _ _ _ h => h) (Or.inl ⟨by rfl, ?_⟩) (by assumption) ?_
            rotate_left
            · intro w' hSw
              clear hSw
              unfold opa7
              first
              | (go_simp; done)
              | (go_simp; with_reducible rfl)
            simp only [opa7, Act.put, List.setIfInBounds_toArray, List.set_cons_zero, List.set_cons_succ]
            refine wpAnyH_take (i := 8) (oi := opa8) (v := ?_) rfl (by kernel_rfl) (by kernel_rfl) (by kernel_rfl) (fun _ _ _ h => h) (Or.inl ⟨by rfl, ?_⟩) (by assumption) ?_
            rotate_left
            · intro w' hSw
              clear hSw
              unfold opa8
              first
              | (go_simp; done)
              | (go_simp; with_reducible rfl)
            simp only [opa8, Act.put, List.setIfInBounds_toArray, List.set_cons_zero, List.set_cons_succ]
            refine wpAnyH_take (i := 9) (oi := opa9) (v := ?_) rfl (by kernel_rfl) (by kernel_rfl) (by kernel_rfl) (fun _ _ _ h => h) (Or.inl ⟨by rfl, ?_⟩) (by assumption) ?_
            rotate_left
            · intro w' hSw
              clear hSw
              unfold opa9
              first
              | (go_simp; done)
              | (go_simp; with_reducible rfl)
            simp only [opa9, Act.put, List.setIfInBounds_toArray, List.set_cons_zero, List.set_cons_succ]
            obtain ⟨fz12, -⟩ := (ST16.out.2.2.2.1 g15 rfl).1
            obtain ⟨h0, h1, h2, h3, h4⟩ := HopAt.cells (ST16.out.2.2.2.1 g15 rfl).1
            have z0 := fz12 0
            have z1 := fz12 1
            have z2 := fz12 2
            have z3 := fz12 3
            have z4 := fz12 4
            have P12 : Hid (_ ∧ _ ∧ _ ∧ _ ∧ _) := ST16.out.putH xk xn xu xd xid
            unfold YtckfplpiakbbdaaGreatDoor.putH at P12
            refine wpAnyH_ready (rs := [12]) (by kernel_rfl) (by simp) ?_
            refine AllReadyH.cons (o := opa12) rfl (fun KK hKK => ?_) AllReadyH.nil
            unfold opa12
            go_simp
            refine hKK.out _ _ P12.out.1 (fun hHeldA => ?_)
            clear hKK KK h0 h1 h2 h3 h4 z0 z1 z2 z3 z4 fz12 hHeld16 ST16
            obtain ⟨Y, hY⟩ : ∃ Y, ((((U16.setCell ⟨g15, 0, none⟩ (.int .i64 xk)).setCell ⟨g15, 1, none⟩ (.int .i64 xn)).setCell ⟨g15, 2, none⟩ (.int .i64 xu)).setCell ⟨g15, 3, none⟩ (.int .i64 xd)).setCell ⟨g15, 4, none⟩ (.string xid) = Y := ⟨_, rfl⟩
            rw [hY] at P12 hHeldA
            rw [hY]
            clear hY
            refine wpAnyH_take (i := 13) (oi := opa13) (v := ?_) rfl (by kernel_rfl) (by kernel_rfl) (by kernel_rfl) (fun _ _ _ h => h) (Or.inl ⟨by rfl, ?_⟩) (by assumption) ?_
            rotate_left
            · intro w' hSw
              clear hSw
              unfold opa13
              first
              | (go_simp; done)
              | (go_simp; with_reducible rfl)
            simp only [opa13, Act.put, List.setIfInBounds_toArray, List.set_cons_zero, List.set_cons_succ]
            obtain ⟨fz14, h0, h1, h2, h3, h4⟩ := P12.out.2.1
            have z0 := fz14 0
            have z1 := fz14 1
            have z2 := fz14 2
            have z3 := fz14 3
            have z4 := fz14 4
            have P14 : Hid (_ ∧ _ ∧ _ ∧ _ ∧ _) := putK_fin P12.out k0 k1 k2 k3 k4
            unfold YtckfplpiakbbdaaGreatDoor.putK at P14
            refine wpAnyH_ready (rs := [14]) (by kernel_rfl) (by simp) ?_
            refine AllReadyH.cons (o := opa14) rfl (fun KK hKK => ?_) AllReadyH.nil
            unfold opa14
            go_simp
            refine hKK.out _ _ P14.out.1 (fun hHeldB => ?_)
            clear hKK KK h0 h1 h2 h3 h4 z0 z1 z2 z3 z4 fz14 hHeldA P12
            obtain ⟨Y2, hY2⟩ : ∃ Y2, ((((Y.setCell ⟨g12, 0, none⟩ (.string k0)).setCell ⟨g12, 1, none⟩ (.string k1)).setCell ⟨g12, 2, none⟩ (.string k2)).setCell ⟨g12, 3, none⟩ (.string k3)).setCell ⟨g12, 4, none⟩ (.string k4) = Y2 := ⟨_, rfl⟩
            rw [hY2] at P14 hHeldB
            rw [hY2]
            clear hY2
            refine wpAnyH_take (i := 15) (oi := opa15) (v := ?_) rfl (by kernel_rfl) (by kernel_rfl) (by kernel_rfl) (fun _ _ _ h => h) (Or.inl ⟨by rfl, ?_⟩) (by assumption) ?_
            rotate_left
            · intro w' hSw
              clear hSw
              unfold opa15
              first
              | (go_simp; done)
              | (go_simp; with_reducible rfl)
            simp only [opa15, Act.put, List.setIfInBounds_toArray, List.set_cons_zero, List.set_cons_succ]
            refine wpAnyH_done (by kernel_rfl) ?_ _
            refine NoPanic.normal ?_
            exact KEY g15 g12 Y2 P14.out
    ·
      unfold opa10
      go_simp
      have ST17 : Hid (Stw w (D0.alloc (.cells #[.int .i64 0, .int .i64 0, .int .i64 0, .int .i64 0, .string ⟨#[]⟩] 37)) gb BL (some D0.heap.size) none) := STa.out.hop
      refine hKK.out _ _ ST17.out.1 (fun hHeld17 => ?_)
      clear hKK KK hHeld STa
      obtain ⟨U17, hU17⟩ : ∃ X, D0.alloc (.cells #[.int .i64 0, .int .i64 0, .int .i64 0, .int .i64 0, .string ⟨#[]⟩] 37) = X := ⟨_, rfl⟩
      obtain ⟨g17, hg17⟩ : ∃ t, D0.heap.size = t := ⟨_, rfl⟩
      rw [hU17, hg17] at ST17
      rw [hU17] at hHeld17
      rw [hU17, hg17]
      clear hU17 hg17
      refine wpAnyH_ready (rs := [1, 11]) (by kernel_rfl) (by simp) ?_
      refine AllReadyH.cons (o := opa1) rfl (fun KK hKK => ?_) (AllReadyH.cons (o := opa11) rfl (fun KK hKK => ?_) AllReadyH.nil)
      ·
        unfold opa1
        go_simp
        refine Calls.mono (V0.out _ (hK.out.later ST17.out.2.1)) ?_
        rintro e U18 ⟨rfl, hb⟩
        have ST18 : Hid (Stw w U18 gb BL (some g17) none) := ST17.out.later hb
        refine hKK.out _ _ ST18.out.1 (fun hHeld18 => ?_)
        clear hKK KK hb hHeld17 ST17
        refine wpAnyH_ready (rs := [4, 11]) (by kernel_rfl) (by simp) ?_
        refine AllReadyH.cons (o := opa4) rfl (fun KK hKK => ?_) (AllReadyH.cons (o := opa11) rfl (fun KK hKK => ?_) AllReadyH.nil)
        ·
          unfold opa4
          go_simp
          refine Calls.mono (PE'.out _ (hK.out.later ST18.out.2.1)) ?_
          rintro e U19 ⟨rfl, hb⟩
          have ST19 : Hid (Stw w U19 gb BL (some g17) none) := ST18.out.later hb
          refine hKK.out _ _ ST19.out.1 (fun hHeld19 => ?_)
          clear hKK KK hb hHeld18 ST18
          refine wpAnyH_take (i := 5) (oi := opa5) (v := ?_) rfl (by kernel_rfl) (by kernel_rfl) (by kernel_rfl) (fun _ _ _ h => h) (Or.inl ⟨by rfl, ?_⟩) (by assumption) ?_
          rotate_left
          · intro w' hSw
            clear hSw
            unfold opa5
            first
            | (go_simp; done)
            | (go_simp; with_reducible rfl)
          simp only [opa5, Act.put, List.setIfInBounds_toArray, List.set_cons_zero, List.set_cons_succ]
          refine wpAnyH_take (i := 6) (oi := opa6) (v := ?_) rfl (by kernel_rfl) (by kernel_rfl) (by kernel_rfl) (fun _ _ _ h => h) (Or.inl ⟨by rfl, ?_⟩) (by assumption) ?_
          rotate_left
          · intro w' hSw
            clear hSw
            unfold opa6
            first
            | (go_simp; done)
            | (go_simp; with_reducible rfl)
          simp only [opa6, Act.put, List.setIfInBounds_toArray, List.set_cons_zero, List.set_cons_succ]
          refine wpAnyH_take (i := 7) (oi := opa7) (v := ?_) rfl (by kernel_rfl) (by kernel_rfl) (by kernel_rfl) (fun _ _ _ h => h) (Or.inl ⟨by rfl, ?_⟩) (by assumption) ?_
          rotate_left
          · intro w' hSw
            clear hSw
            unfold opa7
            first
            | (go_simp; done)
            | (go_simp; with_reducible rfl)
          simp only [opa7, Act.put, List.setIfInBounds_toArray, List.set_cons_zero, List.set_cons_succ]
          refine wpAnyH_take (i := 8) (oi := opa8) (v := ?_) rfl (by kernel_rfl) (by kernel_rfl) (by kernel_rfl) (fun _ _ _ h => h) (Or.inl ⟨by rfl, ?_⟩) (by assumption) ?_
          rotate_left
          · intro w' hSw
            clear hSw
            unfold opa8
            first
            | (go_simp; done)
            | (go_simp; with_reducible rfl)
          simp only [opa8, Act.put, List.setIfInBounds_toArray, List.set_cons_zero, List.set_cons_succ]
          refine wpAnyH_take (i := 9) (oi := opa9) (v := ?_) rfl (by kernel_rfl) (by kernel_rfl) (by kernel_rfl) (fun _ _ _ h => h) (Or.inl ⟨by rfl, ?_⟩) (by assumption) ?_
          rotate_left
          · intro w' hSw
            clear hSw
            unfold opa9
            first
            | (go_simp; done)
            | (go_simp; with_reducible rfl)
          simp only [opa9, Act.put, List.setIfInBounds_toArray, List.set_cons_zero, List.set_cons_succ]
          refine wpAnyH_ready (rs := [11]) (by kernel_rfl) (by simp) ?_
          refine AllReadyH.cons (o := opa11) rfl (fun KK hKK => ?_) AllReadyH.nil
          ·
            unfold opa11
            go_simp
            have ST20 : Hid (Stw w (U19.alloc (.cells #[.string ⟨#[]⟩, .string ⟨#[]⟩, .string ⟨#[]⟩, .string ⟨#[]⟩, .string ⟨#[]⟩] 23)) gb BL (some g17) (some U19.heap.size)) := ST19.out.keys
            refine hKK.out _ _ ST20.out.1 (fun hHeld20 => ?_)
            clear hKK KK hHeld19 ST19
            obtain ⟨U20, hU20⟩ : ∃ X, U19.alloc (.cells #[.string ⟨#[]⟩, .string ⟨#[]⟩, .string ⟨#[]⟩, .string ⟨#[]⟩, .string ⟨#[]⟩] 23) = X := ⟨_, rfl⟩
            obtain ⟨g20, hg20⟩ : ∃ t, U19.heap.size = t := ⟨_, rfl⟩
            rw [hU20, hg20] at ST20
            rw [hU20] at hHeld20
            rw [hU20, hg20]
            clear hU20 hg20
            obtain ⟨fz12, -⟩ := (ST20.out.2.2.2.1 g17 rfl).1
            obtain ⟨h0, h1, h2, h3, h4⟩ := HopAt.cells (ST20.out.2.2.2.1 g17 rfl).1
            have z0 := fz12 0
            have z1 := fz12 1
            have z2 := fz12 2
            have z3 := fz12 3
            have z4 := fz12 4
            have P12 : Hid (_ ∧ _ ∧ _ ∧ _ ∧ _) := ST20.out.putH xk xn xu xd xid
            unfold YtckfplpiakbbdaaGreatDoor.putH at P12
            refine wpAnyH_ready (rs := [12]) (by kernel_rfl) (by simp) ?_
            refine AllReadyH.cons (o := opa12) rfl (fun KK hKK => ?_) AllReadyH.nil
            unfold opa12
            go_simp
            refine hKK.out _ _ P12.out.1 (fun hHeldA => ?_)
            clear hKK KK h0 h1 h2 h3 h4 z0 z1 z2 z3 z4 fz12 hHeld20 ST20
            obtain ⟨Y, hY⟩ : ∃ Y, ((((U20.setCell ⟨g17, 0, none⟩ (.int .i64 xk)).setCell ⟨g17, 1, none⟩ (.int .i64 xn)).setCell ⟨g17, 2, none⟩ (.int .i64 xu)).setCell ⟨g17, 3, none⟩ (.int .i64 xd)).setCell ⟨g17, 4, none⟩ (.string xid) = Y := ⟨_, rfl⟩
            rw [hY] at P12 hHeldA
            rw [hY]
            clear hY
            refine wpAnyH_take (i := 13) (oi := opa13) (v := ?_) rfl (by kernel_rfl) (by kernel_rfl) (by kernel_rfl) (fun _ _ _ h => h) (Or.inl ⟨by rfl, ?_⟩) (by assumption) ?_
            rotate_left
            · intro w' hSw
              clear hSw
              unfold opa13
              first
              | (go_simp; done)
              | (go_simp; with_reducible rfl)
            simp only [opa13, Act.put, List.setIfInBounds_toArray, List.set_cons_zero, List.set_cons_succ]
            obtain ⟨fz14, h0, h1, h2, h3, h4⟩ := P12.out.2.1
            have z0 := fz14 0
            have z1 := fz14 1
            have z2 := fz14 2
            have z3 := fz14 3
            have z4 := fz14 4
            have P14 : Hid (_ ∧ _ ∧ _ ∧ _ ∧ _) := putK_fin P12.out k0 k1 k2 k3 k4
            unfold YtckfplpiakbbdaaGreatDoor.putK at P14
            refine wpAnyH_ready (rs := [14]) (by kernel_rfl) (by simp) ?_
            refine AllReadyH.cons (o := opa14) rfl (fun KK hKK => ?_) AllReadyH.nil
            unfold opa14
            go_simp
            refine hKK.out _ _ P14.out.1 (fun hHeldB => ?_)
            clear hKK KK h0 h1 h2 h3 h4 z0 z1 z2 z3 z4 fz14 hHeldA P12
            obtain ⟨Y2, hY2⟩ : ∃ Y2, ((((Y.setCell ⟨g20, 0, none⟩ (.string k0)).setCell ⟨g20, 1, none⟩ (.string k1)).setCell ⟨g20, 2, none⟩ (.string k2)).setCell ⟨g20, 3, none⟩ (.string k3)).setCell ⟨g20, 4, none⟩ (.string k4) = Y2 := ⟨_, rfl⟩
            rw [hY2] at P14 hHeldB
            rw [hY2]
            clear hY2
            refine wpAnyH_take (i := 15) (oi := opa15) (v := ?_) rfl (by kernel_rfl) (by kernel_rfl) (by kernel_rfl) (fun _ _ _ h => h) (Or.inl ⟨by rfl, ?_⟩) (by assumption) ?_
            rotate_left
            · intro w' hSw
              clear hSw
              unfold opa15
              first
              | (go_simp; done)
              | (go_simp; with_reducible rfl)
            simp only [opa15, Act.put, List.setIfInBounds_toArray, List.set_cons_zero, List.set_cons_succ]
            refine wpAnyH_done (by kernel_rfl) ?_ _
            refine NoPanic.normal ?_
            exact KEY g17 g20 Y2 P14.out
        ·
          unfold opa11
          go_simp
          have ST21 : Hid (Stw w (U18.alloc (.cells #[.string ⟨#[]⟩, .string ⟨#[]⟩, .string ⟨#[]⟩, .string ⟨#[]⟩, .string ⟨#[]⟩] 23)) gb BL (some g17) (some U18.heap.size)) := ST18.out.keys
          refine hKK.out _ _ ST21.out.1 (fun hHeld21 => ?_)
          clear hKK KK hHeld18 ST18
          obtain ⟨U21, hU21⟩ : ∃ X, U18.alloc (.cells #[.string ⟨#[]⟩, .string ⟨#[]⟩, .string ⟨#[]⟩, .string ⟨#[]⟩, .string ⟨#[]⟩] 23) = X := ⟨_, rfl⟩
          obtain ⟨g21, hg21⟩ : ∃ t, U18.heap.size = t := ⟨_, rfl⟩
          rw [hU21, hg21] at ST21
          rw [hU21] at hHeld21
          rw [hU21, hg21]
          clear hU21 hg21
          refine wpAnyH_ready (rs := [4]) (by kernel_rfl) (by simp) ?_
          refine AllReadyH.cons (o := opa4) rfl (fun KK hKK => ?_) AllReadyH.nil
          ·
            unfold opa4
            go_simp
            refine Calls.mono (PE'.out _ (hK.out.later ST21.out.2.1)) ?_
            rintro e U22 ⟨rfl, hb⟩
            have ST22 : Hid (Stw w U22 gb BL (some g17) (some g21)) := ST21.out.later hb
            refine hKK.out _ _ ST22.out.1 (fun hHeld22 => ?_)
            clear hKK KK hb hHeld21 ST21
            refine wpAnyH_take (i := 5) (oi := opa5) (v := ?_) rfl (by kernel_rfl) (by kernel_rfl) (by kernel_rfl) (fun _ _ _ h => h) (Or.inl ⟨by rfl, ?_⟩) (by assumption) ?_
            rotate_left
            · intro w' hSw
              clear hSw
              unfold opa5
              first
              | (go_simp; done)
              | (go_simp; with_reducible rfl)
            simp only [opa5, Act.put, List.setIfInBounds_toArray, List.set_cons_zero, List.set_cons_succ]
            refine wpAnyH_take (i := 6) (oi := opa6) (v := ?_) rfl (by kernel_rfl) (by kernel_rfl) (by kernel_rfl) (fun _ _ _ h => h) (Or.inl ⟨by rfl, ?_⟩) (by assumption) ?_
            rotate_left
            · intro w' hSw
              clear hSw
              unfold opa6
              first
              | (go_simp; done)
              | (go_simp; with_reducible rfl)
            simp only [opa6, Act.put, List.setIfInBounds_toArray, List.set_cons_zero, List.set_cons_succ]
            refine wpAnyH_take (i := 7) (oi := opa7) (v := ?_) rfl (by kernel_rfl) (by kernel_rfl) (by kernel_rfl) (fun _ _ _ h => h) (Or.inl ⟨by rfl, ?_⟩) (by assumption) ?_
            rotate_left
            · intro w' hSw
              clear hSw
              unfold opa7
              first
              | (go_simp; done)
              | (go_simp; with_reducible rfl)
            simp only [opa7, Act.put, List.setIfInBounds_toArray, List.set_cons_zero, List.set_cons_succ]
            refine wpAnyH_take (i := 8) (oi := opa8) (v := ?_) rfl (by kernel_rfl) (by kernel_rfl) (by kernel_rfl) (fun _ _ _ h => h) (Or.inl ⟨by rfl, ?_⟩) (by assumption) ?_
            rotate_left
            · intro w' hSw
              clear hSw
              unfold opa8
              first
              | (go_simp; done)
              | (go_simp; with_reducible rfl)
            simp only [opa8, Act.put, List.setIfInBounds_toArray, List.set_cons_zero, List.set_cons_succ]
            refine wpAnyH_take (i := 9) (oi := opa9) (v := ?_) rfl (by kernel_rfl) (by kernel_rfl) (by kernel_rfl) (fun _ _ _ h => h) (Or.inl ⟨by rfl, ?_⟩) (by assumption) ?_
            rotate_left
            · intro w' hSw
              clear hSw
              unfold opa9
              first
              | (go_simp; done)
              | (go_simp; with_reducible rfl)
            simp only [opa9, Act.put, List.setIfInBounds_toArray, List.set_cons_zero, List.set_cons_succ]
            obtain ⟨fz12, -⟩ := (ST22.out.2.2.2.1 g17 rfl).1
            obtain ⟨h0, h1, h2, h3, h4⟩ := HopAt.cells (ST22.out.2.2.2.1 g17 rfl).1
            have z0 := fz12 0
            have z1 := fz12 1
            have z2 := fz12 2
            have z3 := fz12 3
            have z4 := fz12 4
            have P12 : Hid (_ ∧ _ ∧ _ ∧ _ ∧ _) := ST22.out.putH xk xn xu xd xid
            unfold YtckfplpiakbbdaaGreatDoor.putH at P12
            refine wpAnyH_ready (rs := [12]) (by kernel_rfl) (by simp) ?_
            refine AllReadyH.cons (o := opa12) rfl (fun KK hKK => ?_) AllReadyH.nil
            unfold opa12
            go_simp
            refine hKK.out _ _ P12.out.1 (fun hHeldA => ?_)
            clear hKK KK h0 h1 h2 h3 h4 z0 z1 z2 z3 z4 fz12 hHeld22 ST22
            obtain ⟨Y, hY⟩ : ∃ Y, ((((U22.setCell ⟨g17, 0, none⟩ (.int .i64 xk)).setCell ⟨g17, 1, none⟩ (.int .i64 xn)).setCell ⟨g17, 2, none⟩ (.int .i64 xu)).setCell ⟨g17, 3, none⟩ (.int .i64 xd)).setCell ⟨g17, 4, none⟩ (.string xid) = Y := ⟨_, rfl⟩
            rw [hY] at P12 hHeldA
            rw [hY]
            clear hY
            refine wpAnyH_take (i := 13) (oi := opa13) (v := ?_) rfl (by kernel_rfl) (by kernel_rfl) (by kernel_rfl) (fun _ _ _ h => h) (Or.inl ⟨by rfl, ?_⟩) (by assumption) ?_
            rotate_left
            · intro w' hSw
              clear hSw
              unfold opa13
              first
              | (go_simp; done)
              | (go_simp; with_reducible rfl)
            simp only [opa13, Act.put, List.setIfInBounds_toArray, List.set_cons_zero, List.set_cons_succ]
            obtain ⟨fz14, h0, h1, h2, h3, h4⟩ := P12.out.2.1
            have z0 := fz14 0
            have z1 := fz14 1
            have z2 := fz14 2
            have z3 := fz14 3
            have z4 := fz14 4
            have P14 : Hid (_ ∧ _ ∧ _ ∧ _ ∧ _) := putK_fin P12.out k0 k1 k2 k3 k4
            unfold YtckfplpiakbbdaaGreatDoor.putK at P14
            refine wpAnyH_ready (rs := [14]) (by kernel_rfl) (by simp) ?_
            refine AllReadyH.cons (o := opa14) rfl (fun KK hKK => ?_) AllReadyH.nil
            unfold opa14
            go_simp
            refine hKK.out _ _ P14.out.1 (fun hHeldB => ?_)
            clear hKK KK h0 h1 h2 h3 h4 z0 z1 z2 z3 z4 fz14 hHeldA P12
            obtain ⟨Y2, hY2⟩ : ∃ Y2, ((((Y.setCell ⟨g21, 0, none⟩ (.string k0)).setCell ⟨g21, 1, none⟩ (.string k1)).setCell ⟨g21, 2, none⟩ (.string k2)).setCell ⟨g21, 3, none⟩ (.string k3)).setCell ⟨g21, 4, none⟩ (.string k4) = Y2 := ⟨_, rfl⟩
            rw [hY2] at P14 hHeldB
            rw [hY2]
            clear hY2
            refine wpAnyH_take (i := 15) (oi := opa15) (v := ?_) rfl (by kernel_rfl) (by kernel_rfl) (by kernel_rfl) (fun _ _ _ h => h) (Or.inl ⟨by rfl, ?_⟩) (by assumption) ?_
            rotate_left
            · intro w' hSw
              clear hSw
              unfold opa15
              first
              | (go_simp; done)
              | (go_simp; with_reducible rfl)
            simp only [opa15, Act.put, List.setIfInBounds_toArray, List.set_cons_zero, List.set_cons_succ]
            refine wpAnyH_done (by kernel_rfl) ?_ _
            refine NoPanic.normal ?_
            exact KEY g17 g21 Y2 P14.out
      ·
        unfold opa11
        go_simp
        have ST23 : Hid (Stw w (U17.alloc (.cells #[.string ⟨#[]⟩, .string ⟨#[]⟩, .string ⟨#[]⟩, .string ⟨#[]⟩, .string ⟨#[]⟩] 23)) gb BL (some g17) (some U17.heap.size)) := ST17.out.keys
        refine hKK.out _ _ ST23.out.1 (fun hHeld23 => ?_)
        clear hKK KK hHeld17 ST17
        obtain ⟨U23, hU23⟩ : ∃ X, U17.alloc (.cells #[.string ⟨#[]⟩, .string ⟨#[]⟩, .string ⟨#[]⟩, .string ⟨#[]⟩, .string ⟨#[]⟩] 23) = X := ⟨_, rfl⟩
        obtain ⟨g23, hg23⟩ : ∃ t, U17.heap.size = t := ⟨_, rfl⟩
        rw [hU23, hg23] at ST23
        rw [hU23] at hHeld23
        rw [hU23, hg23]
        clear hU23 hg23
        refine wpAnyH_ready (rs := [1]) (by kernel_rfl) (by simp) ?_
        refine AllReadyH.cons (o := opa1) rfl (fun KK hKK => ?_) AllReadyH.nil
        ·
          unfold opa1
          go_simp
          refine Calls.mono (V0.out _ (hK.out.later ST23.out.2.1)) ?_
          rintro e U24 ⟨rfl, hb⟩
          have ST24 : Hid (Stw w U24 gb BL (some g17) (some g23)) := ST23.out.later hb
          refine hKK.out _ _ ST24.out.1 (fun hHeld24 => ?_)
          clear hKK KK hb hHeld23 ST23
          refine wpAnyH_ready (rs := [4]) (by kernel_rfl) (by simp) ?_
          refine AllReadyH.cons (o := opa4) rfl (fun KK hKK => ?_) AllReadyH.nil
          ·
            unfold opa4
            go_simp
            refine Calls.mono (PE'.out _ (hK.out.later ST24.out.2.1)) ?_
            rintro e U25 ⟨rfl, hb⟩
            have ST25 : Hid (Stw w U25 gb BL (some g17) (some g23)) := ST24.out.later hb
            refine hKK.out _ _ ST25.out.1 (fun hHeld25 => ?_)
            clear hKK KK hb hHeld24 ST24
            refine wpAnyH_take (i := 5) (oi := opa5) (v := ?_) rfl (by kernel_rfl) (by kernel_rfl) (by kernel_rfl) (fun _ _ _ h => h) (Or.inl ⟨by rfl, ?_⟩) (by assumption) ?_
            rotate_left
            · intro w' hSw
              clear hSw
              unfold opa5
              first
              | (go_simp; done)
              | (go_simp; with_reducible rfl)
            simp only [opa5, Act.put, List.setIfInBounds_toArray, List.set_cons_zero, List.set_cons_succ]
            refine wpAnyH_take (i := 6) (oi := opa6) (v := ?_) rfl (by kernel_rfl) (by kernel_rfl) (by kernel_rfl) (fun _ _ _ h => h) (Or.inl ⟨by rfl, ?_⟩) (by assumption) ?_
            rotate_left
            · intro w' hSw
              clear hSw
              unfold opa6
              first
              | (go_simp; done)
              | (go_simp; with_reducible rfl)
            simp only [opa6, Act.put, List.setIfInBounds_toArray, List.set_cons_zero, List.set_cons_succ]
            refine wpAnyH_take (i := 7) (oi := opa7) (v := ?_) rfl (by kernel_rfl) (by kernel_rfl) (by kernel_rfl) (fun _ _ _ h => h) (Or.inl ⟨by rfl, ?_⟩) (by assumption) ?_
            rotate_left
            · intro w' hSw
              clear hSw
              unfold opa7
              first
              | (go_simp; done)
              | (go_simp; with_reducible rfl)
            simp only [opa7, Act.put, List.setIfInBounds_toArray, List.set_cons_zero, List.set_cons_succ]
            refine wpAnyH_take (i := 8) (oi := opa8) (v := ?_) rfl (by kernel_rfl) (by kernel_rfl) (by kernel_rfl) (fun _ _ _ h => h) (Or.inl ⟨by rfl, ?_⟩) (by assumption) ?_
            rotate_left
            · intro w' hSw
              clear hSw
              unfold opa8
              first
              | (go_simp; done)
              | (go_simp; with_reducible rfl)
            simp only [opa8, Act.put, List.setIfInBounds_toArray, List.set_cons_zero, List.set_cons_succ]
            refine wpAnyH_take (i := 9) (oi := opa9) (v := ?_) rfl (by kernel_rfl) (by kernel_rfl) (by kernel_rfl) (fun _ _ _ h => h) (Or.inl ⟨by rfl, ?_⟩) (by assumption) ?_
            rotate_left
            · intro w' hSw
              clear hSw
              unfold opa9
              first
              | (go_simp; done)
              | (go_simp; with_reducible rfl)
            simp only [opa9, Act.put, List.setIfInBounds_toArray, List.set_cons_zero, List.set_cons_succ]
            obtain ⟨fz12, -⟩ := (ST25.out.2.2.2.1 g17 rfl).1
            obtain ⟨h0, h1, h2, h3, h4⟩ := HopAt.cells (ST25.out.2.2.2.1 g17 rfl).1
            have z0 := fz12 0
            have z1 := fz12 1
            have z2 := fz12 2
            have z3 := fz12 3
            have z4 := fz12 4
            have P12 : Hid (_ ∧ _ ∧ _ ∧ _ ∧ _) := ST25.out.putH xk xn xu xd xid
            unfold YtckfplpiakbbdaaGreatDoor.putH at P12
            refine wpAnyH_ready (rs := [12]) (by kernel_rfl) (by simp) ?_
            refine AllReadyH.cons (o := opa12) rfl (fun KK hKK => ?_) AllReadyH.nil
            unfold opa12
            go_simp
            refine hKK.out _ _ P12.out.1 (fun hHeldA => ?_)
            clear hKK KK h0 h1 h2 h3 h4 z0 z1 z2 z3 z4 fz12 hHeld25 ST25
            obtain ⟨Y, hY⟩ : ∃ Y, ((((U25.setCell ⟨g17, 0, none⟩ (.int .i64 xk)).setCell ⟨g17, 1, none⟩ (.int .i64 xn)).setCell ⟨g17, 2, none⟩ (.int .i64 xu)).setCell ⟨g17, 3, none⟩ (.int .i64 xd)).setCell ⟨g17, 4, none⟩ (.string xid) = Y := ⟨_, rfl⟩
            rw [hY] at P12 hHeldA
            rw [hY]
            clear hY
            refine wpAnyH_take (i := 13) (oi := opa13) (v := ?_) rfl (by kernel_rfl) (by kernel_rfl) (by kernel_rfl) (fun _ _ _ h => h) (Or.inl ⟨by rfl, ?_⟩) (by assumption) ?_
            rotate_left
            · intro w' hSw
              clear hSw
              unfold opa13
              first
              | (go_simp; done)
              | (go_simp; with_reducible rfl)
            simp only [opa13, Act.put, List.setIfInBounds_toArray, List.set_cons_zero, List.set_cons_succ]
            obtain ⟨fz14, h0, h1, h2, h3, h4⟩ := P12.out.2.1
            have z0 := fz14 0
            have z1 := fz14 1
            have z2 := fz14 2
            have z3 := fz14 3
            have z4 := fz14 4
            have P14 : Hid (_ ∧ _ ∧ _ ∧ _ ∧ _) := putK_fin P12.out k0 k1 k2 k3 k4
            unfold YtckfplpiakbbdaaGreatDoor.putK at P14
            refine wpAnyH_ready (rs := [14]) (by kernel_rfl) (by simp) ?_
            refine AllReadyH.cons (o := opa14) rfl (fun KK hKK => ?_) AllReadyH.nil
            unfold opa14
            go_simp
            refine hKK.out _ _ P14.out.1 (fun hHeldB => ?_)
            clear hKK KK h0 h1 h2 h3 h4 z0 z1 z2 z3 z4 fz14 hHeldA P12
            obtain ⟨Y2, hY2⟩ : ∃ Y2, ((((Y.setCell ⟨g23, 0, none⟩ (.string k0)).setCell ⟨g23, 1, none⟩ (.string k1)).setCell ⟨g23, 2, none⟩ (.string k2)).setCell ⟨g23, 3, none⟩ (.string k3)).setCell ⟨g23, 4, none⟩ (.string k4) = Y2 := ⟨_, rfl⟩
            rw [hY2] at P14 hHeldB
            rw [hY2]
            clear hY2
            refine wpAnyH_take (i := 15) (oi := opa15) (v := ?_) rfl (by kernel_rfl) (by kernel_rfl) (by kernel_rfl) (fun _ _ _ h => h) (Or.inl ⟨by rfl, ?_⟩) (by assumption) ?_
            rotate_left
            · intro w' hSw
              clear hSw
              unfold opa15
              first
              | (go_simp; done)
              | (go_simp; with_reducible rfl)
            simp only [opa15, Act.put, List.setIfInBounds_toArray, List.set_cons_zero, List.set_cons_succ]
            refine wpAnyH_done (by kernel_rfl) ?_ _
            refine NoPanic.normal ?_
            exact KEY g17 g23 Y2 P14.out
    ·
      unfold opa11
      go_simp
      have ST26 : Hid (Stw w (D0.alloc (.cells #[.string ⟨#[]⟩, .string ⟨#[]⟩, .string ⟨#[]⟩, .string ⟨#[]⟩, .string ⟨#[]⟩] 23)) gb BL none (some D0.heap.size)) := STa.out.keys
      refine hKK.out _ _ ST26.out.1 (fun hHeld26 => ?_)
      clear hKK KK hHeld STa
      obtain ⟨U26, hU26⟩ : ∃ X, D0.alloc (.cells #[.string ⟨#[]⟩, .string ⟨#[]⟩, .string ⟨#[]⟩, .string ⟨#[]⟩, .string ⟨#[]⟩] 23) = X := ⟨_, rfl⟩
      obtain ⟨g26, hg26⟩ : ∃ t, D0.heap.size = t := ⟨_, rfl⟩
      rw [hU26, hg26] at ST26
      rw [hU26] at hHeld26
      rw [hU26, hg26]
      clear hU26 hg26
      refine wpAnyH_ready (rs := [1, 10]) (by kernel_rfl) (by simp) ?_
      refine AllReadyH.cons (o := opa1) rfl (fun KK hKK => ?_) (AllReadyH.cons (o := opa10) rfl (fun KK hKK => ?_) AllReadyH.nil)
      ·
        unfold opa1
        go_simp
        refine Calls.mono (V0.out _ (hK.out.later ST26.out.2.1)) ?_
        rintro e U27 ⟨rfl, hb⟩
        have ST27 : Hid (Stw w U27 gb BL none (some g26)) := ST26.out.later hb
        refine hKK.out _ _ ST27.out.1 (fun hHeld27 => ?_)
        clear hKK KK hb hHeld26 ST26
        refine wpAnyH_ready (rs := [4, 10]) (by kernel_rfl) (by simp) ?_
        refine AllReadyH.cons (o := opa4) rfl (fun KK hKK => ?_) (AllReadyH.cons (o := opa10) rfl (fun KK hKK => ?_) AllReadyH.nil)
        ·
          unfold opa4
          go_simp
          refine Calls.mono (PE'.out _ (hK.out.later ST27.out.2.1)) ?_
          rintro e U28 ⟨rfl, hb⟩
          have ST28 : Hid (Stw w U28 gb BL none (some g26)) := ST27.out.later hb
          refine hKK.out _ _ ST28.out.1 (fun hHeld28 => ?_)
          clear hKK KK hb hHeld27 ST27
          refine wpAnyH_take (i := 5) (oi := opa5) (v := ?_) rfl (by kernel_rfl) (by kernel_rfl) (by kernel_rfl) (fun _ _ _ h => h) (Or.inl ⟨by rfl, ?_⟩) (by assumption) ?_
          rotate_left
          · intro w' hSw
            clear hSw
            unfold opa5
            first
            | (go_simp; done)
            | (go_simp; with_reducible rfl)
          simp only [opa5, Act.put, List.setIfInBounds_toArray, List.set_cons_zero, List.set_cons_succ]
          refine wpAnyH_take (i := 6) (oi := opa6) (v := ?_) rfl (by kernel_rfl) (by kernel_rfl) (by kernel_rfl) (fun _ _ _ h => h) (Or.inl ⟨by rfl, ?_⟩) (by assumption) ?_
          rotate_left
          · intro w' hSw
            clear hSw
            unfold opa6
            first
            | (go_simp; done)
            | (go_simp; with_reducible rfl)
          simp only [opa6, Act.put, List.setIfInBounds_toArray, List.set_cons_zero, List.set_cons_succ]
          refine wpAnyH_take (i := 7) (oi := opa7) (v := ?_) rfl (by kernel_rfl) (by kernel_rfl) (by kernel_rfl) (fun _ _ _ h => h) (Or.inl ⟨by rfl, ?_⟩) (by assumption) ?_
          rotate_left
          · intro w' hSw
            clear hSw
            unfold opa7
            first
            | (go_simp; done)
            | (go_simp; with_reducible rfl)
          simp only [opa7, Act.put, List.setIfInBounds_toArray, List.set_cons_zero, List.set_cons_succ]
          refine wpAnyH_take (i := 8) (oi := opa8) (v := ?_) rfl (by kernel_rfl) (by kernel_rfl) (by kernel_rfl) (fun _ _ _ h => h) (Or.inl ⟨by rfl, ?_⟩) (by assumption) ?_
          rotate_left
          · intro w' hSw
            clear hSw
            unfold opa8
            first
            | (go_simp; done)
            | (go_simp; with_reducible rfl)
          simp only [opa8, Act.put, List.setIfInBounds_toArray, List.set_cons_zero, List.set_cons_succ]
          refine wpAnyH_take (i := 9) (oi := opa9) (v := ?_) rfl (by kernel_rfl) (by kernel_rfl) (by kernel_rfl) (fun _ _ _ h => h) (Or.inl ⟨by rfl, ?_⟩) (by assumption) ?_
          rotate_left
          · intro w' hSw
            clear hSw
            unfold opa9
            first
            | (go_simp; done)
            | (go_simp; with_reducible rfl)
          simp only [opa9, Act.put, List.setIfInBounds_toArray, List.set_cons_zero, List.set_cons_succ]
          refine wpAnyH_ready (rs := [10]) (by kernel_rfl) (by simp) ?_
          refine AllReadyH.cons (o := opa10) rfl (fun KK hKK => ?_) AllReadyH.nil
          ·
            unfold opa10
            go_simp
            have ST29 : Hid (Stw w (U28.alloc (.cells #[.int .i64 0, .int .i64 0, .int .i64 0, .int .i64 0, .string ⟨#[]⟩] 37)) gb BL (some U28.heap.size) (some g26)) := ST28.out.hop
            refine hKK.out _ _ ST29.out.1 (fun hHeld29 => ?_)
            clear hKK KK hHeld28 ST28
            obtain ⟨U29, hU29⟩ : ∃ X, U28.alloc (.cells #[.int .i64 0, .int .i64 0, .int .i64 0, .int .i64 0, .string ⟨#[]⟩] 37) = X := ⟨_, rfl⟩
            obtain ⟨g29, hg29⟩ : ∃ t, U28.heap.size = t := ⟨_, rfl⟩
            rw [hU29, hg29] at ST29
            rw [hU29] at hHeld29
            rw [hU29, hg29]
            clear hU29 hg29
            obtain ⟨fz12, -⟩ := (ST29.out.2.2.2.1 g29 rfl).1
            obtain ⟨h0, h1, h2, h3, h4⟩ := HopAt.cells (ST29.out.2.2.2.1 g29 rfl).1
            have z0 := fz12 0
            have z1 := fz12 1
            have z2 := fz12 2
            have z3 := fz12 3
            have z4 := fz12 4
            have P12 : Hid (_ ∧ _ ∧ _ ∧ _ ∧ _) := ST29.out.putH xk xn xu xd xid
            unfold YtckfplpiakbbdaaGreatDoor.putH at P12
            refine wpAnyH_ready (rs := [12]) (by kernel_rfl) (by simp) ?_
            refine AllReadyH.cons (o := opa12) rfl (fun KK hKK => ?_) AllReadyH.nil
            unfold opa12
            go_simp
            refine hKK.out _ _ P12.out.1 (fun hHeldA => ?_)
            clear hKK KK h0 h1 h2 h3 h4 z0 z1 z2 z3 z4 fz12 hHeld29 ST29
            obtain ⟨Y, hY⟩ : ∃ Y, ((((U29.setCell ⟨g29, 0, none⟩ (.int .i64 xk)).setCell ⟨g29, 1, none⟩ (.int .i64 xn)).setCell ⟨g29, 2, none⟩ (.int .i64 xu)).setCell ⟨g29, 3, none⟩ (.int .i64 xd)).setCell ⟨g29, 4, none⟩ (.string xid) = Y := ⟨_, rfl⟩
            rw [hY] at P12 hHeldA
            rw [hY]
            clear hY
            refine wpAnyH_take (i := 13) (oi := opa13) (v := ?_) rfl (by kernel_rfl) (by kernel_rfl) (by kernel_rfl) (fun _ _ _ h => h) (Or.inl ⟨by rfl, ?_⟩) (by assumption) ?_
            rotate_left
            · intro w' hSw
              clear hSw
              unfold opa13
              first
              | (go_simp; done)
              | (go_simp; with_reducible rfl)
            simp only [opa13, Act.put, List.setIfInBounds_toArray, List.set_cons_zero, List.set_cons_succ]
            obtain ⟨fz14, h0, h1, h2, h3, h4⟩ := P12.out.2.1
            have z0 := fz14 0
            have z1 := fz14 1
            have z2 := fz14 2
            have z3 := fz14 3
            have z4 := fz14 4
            have P14 : Hid (_ ∧ _ ∧ _ ∧ _ ∧ _) := putK_fin P12.out k0 k1 k2 k3 k4
            unfold YtckfplpiakbbdaaGreatDoor.putK at P14
            refine wpAnyH_ready (rs := [14]) (by kernel_rfl) (by simp) ?_
            refine AllReadyH.cons (o := opa14) rfl (fun KK hKK => ?_) AllReadyH.nil
            unfold opa14
            go_simp
            refine hKK.out _ _ P14.out.1 (fun hHeldB => ?_)
            clear hKK KK h0 h1 h2 h3 h4 z0 z1 z2 z3 z4 fz14 hHeldA P12
            obtain ⟨Y2, hY2⟩ : ∃ Y2, ((((Y.setCell ⟨g26, 0, none⟩ (.string k0)).setCell ⟨g26, 1, none⟩ (.string k1)).setCell ⟨g26, 2, none⟩ (.string k2)).setCell ⟨g26, 3, none⟩ (.string k3)).setCell ⟨g26, 4, none⟩ (.string k4) = Y2 := ⟨_, rfl⟩
            rw [hY2] at P14 hHeldB
            rw [hY2]
            clear hY2
            refine wpAnyH_take (i := 15) (oi := opa15) (v := ?_) rfl (by kernel_rfl) (by kernel_rfl) (by kernel_rfl) (fun _ _ _ h => h) (Or.inl ⟨by rfl, ?_⟩) (by assumption) ?_
            rotate_left
            · intro w' hSw
              clear hSw
              unfold opa15
              first
              | (go_simp; done)
              | (go_simp; with_reducible rfl)
            simp only [opa15, Act.put, List.setIfInBounds_toArray, List.set_cons_zero, List.set_cons_succ]
            refine wpAnyH_done (by kernel_rfl) ?_ _
            refine NoPanic.normal ?_
            exact KEY g29 g26 Y2 P14.out
        ·
          unfold opa10
          go_simp
          have ST30 : Hid (Stw w (U27.alloc (.cells #[.int .i64 0, .int .i64 0, .int .i64 0, .int .i64 0, .string ⟨#[]⟩] 37)) gb BL (some U27.heap.size) (some g26)) := ST27.out.hop
          refine hKK.out _ _ ST30.out.1 (fun hHeld30 => ?_)
          clear hKK KK hHeld27 ST27
          obtain ⟨U30, hU30⟩ : ∃ X, U27.alloc (.cells #[.int .i64 0, .int .i64 0, .int .i64 0, .int .i64 0, .string ⟨#[]⟩] 37) = X := ⟨_, rfl⟩
          obtain ⟨g30, hg30⟩ : ∃ t, U27.heap.size = t := ⟨_, rfl⟩
          rw [hU30, hg30] at ST30
          rw [hU30] at hHeld30
          rw [hU30, hg30]
          clear hU30 hg30
          refine wpAnyH_ready (rs := [4]) (by kernel_rfl) (by simp) ?_
          refine AllReadyH.cons (o := opa4) rfl (fun KK hKK => ?_) AllReadyH.nil
          ·
            unfold opa4
            go_simp
            refine Calls.mono (PE'.out _ (hK.out.later ST30.out.2.1)) ?_
            rintro e U31 ⟨rfl, hb⟩
            have ST31 : Hid (Stw w U31 gb BL (some g30) (some g26)) := ST30.out.later hb
            refine hKK.out _ _ ST31.out.1 (fun hHeld31 => ?_)
            clear hKK KK hb hHeld30 ST30
            refine wpAnyH_take (i := 5) (oi := opa5) (v := ?_) rfl (by kernel_rfl) (by kernel_rfl) (by kernel_rfl) (fun _ _ _ h => h) (Or.inl ⟨by rfl, ?_⟩) (by assumption) ?_
            rotate_left
            · intro w' hSw
              clear hSw
              unfold opa5
              first
              | (go_simp; done)
              | (go_simp; with_reducible rfl)
            simp only [opa5, Act.put, List.setIfInBounds_toArray, List.set_cons_zero, List.set_cons_succ]
            refine wpAnyH_take (i := 6) (oi := opa6) (v := ?_) rfl (by kernel_rfl) (by kernel_rfl) (by kernel_rfl) (fun _ _ _ h => h) (Or.inl ⟨by rfl, ?_⟩) (by assumption) ?_
            rotate_left
            · intro w' hSw
              clear hSw
              unfold opa6
              first
              | (go_simp; done)
              | (go_simp; with_reducible rfl)
            simp only [opa6, Act.put, List.setIfInBounds_toArray, List.set_cons_zero, List.set_cons_succ]
            refine wpAnyH_take (i := 7) (oi := opa7) (v := ?_) rfl (by kernel_rfl) (by kernel_rfl) (by kernel_rfl) (fun _ _ _ h => h) (Or.inl ⟨by rfl, ?_⟩) (by assumption) ?_
            rotate_left
            · intro w' hSw
              clear hSw
              unfold opa7
              first
              | (go_simp; done)
              | (go_simp; with_reducible rfl)
            simp only [opa7, Act.put, List.setIfInBounds_toArray, List.set_cons_zero, List.set_cons_succ]
            refine wpAnyH_take (i := 8) (oi := opa8) (v := ?_) rfl (by kernel_rfl) (by kernel_rfl) (by kernel_rfl) (fun _ _ _ h => h) (Or.inl ⟨by rfl, ?_⟩) (by assumption) ?_
            rotate_left
            · intro w' hSw
              clear hSw
              unfold opa8
              first
              | (go_simp; done)
              | (go_simp; with_reducible rfl)
            simp only [opa8, Act.put, List.setIfInBounds_toArray, List.set_cons_zero, List.set_cons_succ]
            refine wpAnyH_take (i := 9) (oi := opa9) (v := ?_) rfl (by kernel_rfl) (by kernel_rfl) (by kernel_rfl) (fun _ _ _ h => h) (Or.inl ⟨by rfl, ?_⟩) (by assumption) ?_
            rotate_left
            · intro w' hSw
              clear hSw
              unfold opa9
              first
              | (go_simp; done)
              | (go_simp; with_reducible rfl)
            simp only [opa9, Act.put, List.setIfInBounds_toArray, List.set_cons_zero, List.set_cons_succ]
            obtain ⟨fz12, -⟩ := (ST31.out.2.2.2.1 g30 rfl).1
            obtain ⟨h0, h1, h2, h3, h4⟩ := HopAt.cells (ST31.out.2.2.2.1 g30 rfl).1
            have z0 := fz12 0
            have z1 := fz12 1
            have z2 := fz12 2
            have z3 := fz12 3
            have z4 := fz12 4
            have P12 : Hid (_ ∧ _ ∧ _ ∧ _ ∧ _) := ST31.out.putH xk xn xu xd xid
            unfold YtckfplpiakbbdaaGreatDoor.putH at P12
            refine wpAnyH_ready (rs := [12]) (by kernel_rfl) (by simp) ?_
            refine AllReadyH.cons (o := opa12) rfl (fun KK hKK => ?_) AllReadyH.nil
            unfold opa12
            go_simp
            refine hKK.out _ _ P12.out.1 (fun hHeldA => ?_)
            clear hKK KK h0 h1 h2 h3 h4 z0 z1 z2 z3 z4 fz12 hHeld31 ST31
            obtain ⟨Y, hY⟩ : ∃ Y, ((((U31.setCell ⟨g30, 0, none⟩ (.int .i64 xk)).setCell ⟨g30, 1, none⟩ (.int .i64 xn)).setCell ⟨g30, 2, none⟩ (.int .i64 xu)).setCell ⟨g30, 3, none⟩ (.int .i64 xd)).setCell ⟨g30, 4, none⟩ (.string xid) = Y := ⟨_, rfl⟩
            rw [hY] at P12 hHeldA
            rw [hY]
            clear hY
            refine wpAnyH_take (i := 13) (oi := opa13) (v := ?_) rfl (by kernel_rfl) (by kernel_rfl) (by kernel_rfl) (fun _ _ _ h => h) (Or.inl ⟨by rfl, ?_⟩) (by assumption) ?_
            rotate_left
            · intro w' hSw
              clear hSw
              unfold opa13
              first
              | (go_simp; done)
              | (go_simp; with_reducible rfl)
            simp only [opa13, Act.put, List.setIfInBounds_toArray, List.set_cons_zero, List.set_cons_succ]
            obtain ⟨fz14, h0, h1, h2, h3, h4⟩ := P12.out.2.1
            have z0 := fz14 0
            have z1 := fz14 1
            have z2 := fz14 2
            have z3 := fz14 3
            have z4 := fz14 4
            have P14 : Hid (_ ∧ _ ∧ _ ∧ _ ∧ _) := putK_fin P12.out k0 k1 k2 k3 k4
            unfold YtckfplpiakbbdaaGreatDoor.putK at P14
            refine wpAnyH_ready (rs := [14]) (by kernel_rfl) (by simp) ?_
            refine AllReadyH.cons (o := opa14) rfl (fun KK hKK => ?_) AllReadyH.nil
            unfold opa14
            go_simp
            refine hKK.out _ _ P14.out.1 (fun hHeldB => ?_)
            clear hKK KK h0 h1 h2 h3 h4 z0 z1 z2 z3 z4 fz14 hHeldA P12
            obtain ⟨Y2, hY2⟩ : ∃ Y2, ((((Y.setCell ⟨g26, 0, none⟩ (.string k0)).setCell ⟨g26, 1, none⟩ (.string k1)).setCell ⟨g26, 2, none⟩ (.string k2)).setCell ⟨g26, 3, none⟩ (.string k3)).setCell ⟨g26, 4, none⟩ (.string k4) = Y2 := ⟨_, rfl⟩
            rw [hY2] at P14 hHeldB
            rw [hY2]
            clear hY2
            refine wpAnyH_take (i := 15) (oi := opa15) (v := ?_) rfl (by kernel_rfl) (by kernel_rfl) (by kernel_rfl) (fun _ _ _ h => h) (Or.inl ⟨by rfl, ?_⟩) (by assumption) ?_
            rotate_left
            · intro w' hSw
              clear hSw
              unfold opa15
              first
              | (go_simp; done)
              | (go_simp; with_reducible rfl)
            simp only [opa15, Act.put, List.setIfInBounds_toArray, List.set_cons_zero, List.set_cons_succ]
            refine wpAnyH_done (by kernel_rfl) ?_ _
            refine NoPanic.normal ?_
            exact KEY g30 g26 Y2 P14.out
      ·
        unfold opa10
        go_simp
        have ST32 : Hid (Stw w (U26.alloc (.cells #[.int .i64 0, .int .i64 0, .int .i64 0, .int .i64 0, .string ⟨#[]⟩] 37)) gb BL (some U26.heap.size) (some g26)) := ST26.out.hop
        refine hKK.out _ _ ST32.out.1 (fun hHeld32 => ?_)
        clear hKK KK hHeld26 ST26
        obtain ⟨U32, hU32⟩ : ∃ X, U26.alloc (.cells #[.int .i64 0, .int .i64 0, .int .i64 0, .int .i64 0, .string ⟨#[]⟩] 37) = X := ⟨_, rfl⟩
        obtain ⟨g32, hg32⟩ : ∃ t, U26.heap.size = t := ⟨_, rfl⟩
        rw [hU32, hg32] at ST32
        rw [hU32] at hHeld32
        rw [hU32, hg32]
        clear hU32 hg32
        refine wpAnyH_ready (rs := [1]) (by kernel_rfl) (by simp) ?_
        refine AllReadyH.cons (o := opa1) rfl (fun KK hKK => ?_) AllReadyH.nil
        ·
          unfold opa1
          go_simp
          refine Calls.mono (V0.out _ (hK.out.later ST32.out.2.1)) ?_
          rintro e U33 ⟨rfl, hb⟩
          have ST33 : Hid (Stw w U33 gb BL (some g32) (some g26)) := ST32.out.later hb
          refine hKK.out _ _ ST33.out.1 (fun hHeld33 => ?_)
          clear hKK KK hb hHeld32 ST32
          refine wpAnyH_ready (rs := [4]) (by kernel_rfl) (by simp) ?_
          refine AllReadyH.cons (o := opa4) rfl (fun KK hKK => ?_) AllReadyH.nil
          ·
            unfold opa4
            go_simp
            refine Calls.mono (PE'.out _ (hK.out.later ST33.out.2.1)) ?_
            rintro e U34 ⟨rfl, hb⟩
            have ST34 : Hid (Stw w U34 gb BL (some g32) (some g26)) := ST33.out.later hb
            refine hKK.out _ _ ST34.out.1 (fun hHeld34 => ?_)
            clear hKK KK hb hHeld33 ST33
            refine wpAnyH_take (i := 5) (oi := opa5) (v := ?_) rfl (by kernel_rfl) (by kernel_rfl) (by kernel_rfl) (fun _ _ _ h => h) (Or.inl ⟨by rfl, ?_⟩) (by assumption) ?_
            rotate_left
            · intro w' hSw
              clear hSw
              unfold opa5
              first
              | (go_simp; done)
              | (go_simp; with_reducible rfl)
            simp only [opa5, Act.put, List.setIfInBounds_toArray, List.set_cons_zero, List.set_cons_succ]
            refine wpAnyH_take (i := 6) (oi := opa6) (v := ?_) rfl (by kernel_rfl) (by kernel_rfl) (by kernel_rfl) (fun _ _ _ h => h) (Or.inl ⟨by rfl, ?_⟩) (by assumption) ?_
            rotate_left
            · intro w' hSw
              clear hSw
              unfold opa6
              first
              | (go_simp; done)
              | (go_simp; with_reducible rfl)
            simp only [opa6, Act.put, List.setIfInBounds_toArray, List.set_cons_zero, List.set_cons_succ]
            refine wpAnyH_take (i := 7) (oi := opa7) (v := ?_) rfl (by kernel_rfl) (by kernel_rfl) (by kernel_rfl) (fun _ _ _ h => h) (Or.inl ⟨by rfl, ?_⟩) (by assumption) ?_
            rotate_left
            · intro w' hSw
              clear hSw
              unfold opa7
              first
              | (go_simp; done)
              | (go_simp; with_reducible rfl)
            simp only [opa7, Act.put, List.setIfInBounds_toArray, List.set_cons_zero, List.set_cons_succ]
            refine wpAnyH_take (i := 8) (oi := opa8) (v := ?_) rfl (by kernel_rfl) (by kernel_rfl) (by kernel_rfl) (fun _ _ _ h => h) (Or.inl ⟨by rfl, ?_⟩) (by assumption) ?_
            rotate_left
            · intro w' hSw
              clear hSw
              unfold opa8
              first
              | (go_simp; done)
              | (go_simp; with_reducible rfl)
            simp only [opa8, Act.put, List.setIfInBounds_toArray, List.set_cons_zero, List.set_cons_succ]
            refine wpAnyH_take (i := 9) (oi := opa9) (v := ?_) rfl (by kernel_rfl) (by kernel_rfl) (by kernel_rfl) (fun _ _ _ h => h) (Or.inl ⟨by rfl, ?_⟩) (by assumption) ?_
            rotate_left
            · intro w' hSw
              clear hSw
              unfold opa9
              first
              | (go_simp; done)
              | (go_simp; with_reducible rfl)
            simp only [opa9, Act.put, List.setIfInBounds_toArray, List.set_cons_zero, List.set_cons_succ]
            obtain ⟨fz12, -⟩ := (ST34.out.2.2.2.1 g32 rfl).1
            obtain ⟨h0, h1, h2, h3, h4⟩ := HopAt.cells (ST34.out.2.2.2.1 g32 rfl).1
            have z0 := fz12 0
            have z1 := fz12 1
            have z2 := fz12 2
            have z3 := fz12 3
            have z4 := fz12 4
            have P12 : Hid (_ ∧ _ ∧ _ ∧ _ ∧ _) := ST34.out.putH xk xn xu xd xid
            unfold YtckfplpiakbbdaaGreatDoor.putH at P12
            refine wpAnyH_ready (rs := [12]) (by kernel_rfl) (by simp) ?_
            refine AllReadyH.cons (o := opa12) rfl (fun KK hKK => ?_) AllReadyH.nil
            unfold opa12
            go_simp
            refine hKK.out _ _ P12.out.1 (fun hHeldA => ?_)
            clear hKK KK h0 h1 h2 h3 h4 z0 z1 z2 z3 z4 fz12 hHeld34 ST34
            obtain ⟨Y, hY⟩ : ∃ Y, ((((U34.setCell ⟨g32, 0, none⟩ (.int .i64 xk)).setCell ⟨g32, 1, none⟩ (.int .i64 xn)).setCell ⟨g32, 2, none⟩ (.int .i64 xu)).setCell ⟨g32, 3, none⟩ (.int .i64 xd)).setCell ⟨g32, 4, none⟩ (.string xid) = Y := ⟨_, rfl⟩
            rw [hY] at P12 hHeldA
            rw [hY]
            clear hY
            refine wpAnyH_take (i := 13) (oi := opa13) (v := ?_) rfl (by kernel_rfl) (by kernel_rfl) (by kernel_rfl) (fun _ _ _ h => h) (Or.inl ⟨by rfl, ?_⟩) (by assumption) ?_
            rotate_left
            · intro w' hSw
              clear hSw
              unfold opa13
              first
              | (go_simp; done)
              | (go_simp; with_reducible rfl)
            simp only [opa13, Act.put, List.setIfInBounds_toArray, List.set_cons_zero, List.set_cons_succ]
            obtain ⟨fz14, h0, h1, h2, h3, h4⟩ := P12.out.2.1
            have z0 := fz14 0
            have z1 := fz14 1
            have z2 := fz14 2
            have z3 := fz14 3
            have z4 := fz14 4
            have P14 : Hid (_ ∧ _ ∧ _ ∧ _ ∧ _) := putK_fin P12.out k0 k1 k2 k3 k4
            unfold YtckfplpiakbbdaaGreatDoor.putK at P14
            refine wpAnyH_ready (rs := [14]) (by kernel_rfl) (by simp) ?_
            refine AllReadyH.cons (o := opa14) rfl (fun KK hKK => ?_) AllReadyH.nil
            unfold opa14
            go_simp
            refine hKK.out _ _ P14.out.1 (fun hHeldB => ?_)
            clear hKK KK h0 h1 h2 h3 h4 z0 z1 z2 z3 z4 fz14 hHeldA P12
            obtain ⟨Y2, hY2⟩ : ∃ Y2, ((((Y.setCell ⟨g26, 0, none⟩ (.string k0)).setCell ⟨g26, 1, none⟩ (.string k1)).setCell ⟨g26, 2, none⟩ (.string k2)).setCell ⟨g26, 3, none⟩ (.string k3)).setCell ⟨g26, 4, none⟩ (.string k4) = Y2 := ⟨_, rfl⟩
            rw [hY2] at P14 hHeldB
            rw [hY2]
            clear hY2
            refine wpAnyH_take (i := 15) (oi := opa15) (v := ?_) rfl (by kernel_rfl) (by kernel_rfl) (by kernel_rfl) (fun _ _ _ h => h) (Or.inl ⟨by rfl, ?_⟩) (by assumption) ?_
            rotate_left
            · intro w' hSw
              clear hSw
              unfold opa15
              first
              | (go_simp; done)
              | (go_simp; with_reducible rfl)
            simp only [opa15, Act.put, List.setIfInBounds_toArray, List.set_cons_zero, List.set_cons_succ]
            refine wpAnyH_done (by kernel_rfl) ?_ _
            refine NoPanic.normal ?_
            exact KEY g32 g26 Y2 P14.out
  case key1 =>
    intro g12 g14 X F
    obtain ⟨L, hL⟩ : ∃ x, TB.extract 48 248 = x := ⟨_, rfl⟩
    obtain ⟨M, hM⟩ : ∃ x, TB.extract 32 48 = x := ⟨_, rfl⟩
    obtain ⟨HM, hHM⟩ : ∃ x, hmb S L = x := ⟨_, rfl⟩
    have zL : L.size ≤ 140737488355328 := by rw [← hL, ByteArray.size_extract]; omega
    obtain ⟨T32, hT⟩ : ∃ T : ByteArray, ⟨(hmac (hdk S lMac 32).data.toList L.data.toList).toArray⟩ = T := ⟨_, rfl⟩
    have zT : T32.size = 32 := by rw [← hT, ba_sz, hmac_len]
    have eT : T32.extract 0 16 = HM := by
      have hd : (hdk S lMac 32).data.toList = drv S.data.toList lMac 32 := by unfold hdk; simp
      have : (T32.extract 0 16).data.toList = hmacf S L.data.toList := by
        rw [← hT, ba_cut, List.drop_zero, hd]
        unfold hmacf
        with_reducible rfl
      rw [← hHM]
      unfold hmb
      exact ba_of this
    have TG : Hid (∀ (B : Nat) (w : World), Kh w → w.cell? ⟨B, 0, none⟩ = some (.string L) → Calls Tryz.prog 19 #[.string (hdk S lMac 32), .slice (some ⟨B, 0, none⟩) 1 1] w fun e w' => e = .returned (.string T32) ∧ Below w.heap.size w w') := fun B w h h0 => by
      have := tag_c (hdk S lMac 32) (some ⟨B, 0, none⟩) [L] 1 1 w rfl (by show (1 : Nat) * 16 + 1024 ≤ _; decide) (by show (hdk S lMac 32).size ≤ _; rw [hdk_size]; decide) (fun x hx => by simp at hx; subst hx; exact zL) h (strAt1 h0)
      rw [jnd_one, hT] at this
      exact this
    rw [hL, hM, hHM] at HC
    rw [hL] at CVL
    rw [hM] at CVM
    clear hL hM hHM hT zL
    generalize hdk S lFlow 32 = q0 at *
    generalize hdk S lMac 32 = q1 at *
    generalize hdk S lBody 32 = q2 at *
    generalize bld S = q3 at *
    generalize hdk S lTag 16 = q4 at *
    have hP0 : HD.extract 0 32 = PT := HP.out
    rcases HC.out with rfl | ⟨he, hq⟩
    · have BX : Hid (Below w.heap.size w X) := F.out.2.2.1
      clear F
      go_wp2
      go_ret
      exact ⟨rfl, BX.out⟩
    · have zTi : (T32.size : Int) = 32 := by omega
      have c248 : (248 : Int) ≤ (cap : Int) := by omega
      have c48 : (48 : Int) ≤ (cap : Int) := by omega
      have cne : ¬ cap = 48 := by omega
      have cne2 : ¬ cap = 32 := by omega
      have lc : 248 ≤ cap := by omega
      rcases he with rfl | rfl
      all_goals
        clear HC
        go_wp2_with fail
        go_region_with (first | (go_at_call 16; refine Calls.mono (V0.out _ (hK.out.later F.out.2.2.1.drew)) ?_; rintro e X1 ⟨rfl, hb1⟩; have F1 : Hid (BytesAt X1 gb BL ∧ Five X1 g14 k0 k1 k2 k3 k4 ∧ Below w.heap.size w X1 ∧ g14 ≠ gb ∧ w.heap.size ≤ g14) := fin_later F.out ((Below.refl _ _).drew) hb1) | (go_at_call 18; refine Calls.mono (SH.out _) ?_; rintro e X2 ⟨rfl, hb2⟩; have F2 : Hid (BytesAt X2 gb BL ∧ Five X2 g14 k0 k1 k2 k3 k4 ∧ Below w.heap.size w X2 ∧ g14 ≠ gb ∧ w.heap.size ≤ g14) := fin_later F1.out (Below.refl _ _) hb2))
        clear hb1 hb2 F F1 SH V0
        go_wp2_with fail
        refine Calls.mono (OF.out _ (hK.out.later F2.out.2.2.1)) ?_
        rintro e X3 ⟨rfl, hb3⟩
        have F3 : Hid (BytesAt X3 gb BL ∧ Five X3 g14 k0 k1 k2 k3 k4 ∧ Below w.heap.size w X3 ∧ g14 ≠ gb ∧ w.heap.size ≤ g14) := fin_later F2.out (Below.refl _ _) hb3
        have F4 : Hid (_ ∧ _ ∧ _ ∧ _ ∧ _) := putK_any F3.out q0 q1 q2 q3 q4
        unfold YtckfplpiakbbdaaGreatDoor.putK at F4
        obtain ⟨fz, h0, h1, h2, h3, h4⟩ := F3.out.2.1
        have z0 := fz 0
        have z1 := fz 1
        have z2 := fz 2
        have z3 := fz 3
        have z4 := fz 4
        clear hb3 F2 F3 OF fz
        go_wp2_with fail
        obtain ⟨Y, hY⟩ : ∃ Y, ((((X3.setCell ⟨g14, 0, none⟩ (.string q0)).setCell ⟨g14, 1, none⟩ (.string q1)).setCell ⟨g14, 2, none⟩ (.string q2)).setCell ⟨g14, 3, none⟩ (.string q3)).setCell ⟨g14, 4, none⟩ (.string q4) = Y := ⟨_, rfl⟩
        rw [hY] at F4
        rw [hY]
        clear hY h0 h1 h2 h3 h4 z0 z1 z2 z3 z4
        refine wp_region_noPanic ?_
        refine wp_region_held_drew (S := fun w' => BytesAt w' gb BL ∧ w'.cell? ⟨g14, 1, none⟩ = some (.string q1)) (by kernel_rfl) (⟨F4.out.1, F4.out.2.1.2.2.1⟩) (fun hHeld => ?_)
        refine wpAnyH_take (i := 0) (oi := opb0) (v := ?_) rfl (by kernel_rfl) (by kernel_rfl) (by kernel_rfl) (fun _ _ _ h => h) (Or.inl ⟨by rfl, ?_⟩) (by assumption) ?_
        rotate_left
        · intro w' hSw
          clear hSw
          unfold opb0
          first
          | (go_simp; done)
          | (go_simp; with_reducible rfl)
        simp only [opb0, Act.put, List.setIfInBounds_toArray, List.set_cons_zero, List.set_cons_succ]
        refine wpAnyH_take (i := 1) (oi := opb1) (v := ?_) rfl (by kernel_rfl) (by kernel_rfl) (by kernel_rfl) (fun _ _ _ h => h) (Or.inl ⟨by rfl, ?_⟩) (by assumption) ?_
        rotate_left
        · intro w' hSw
          have p1 := hSw.2; clear hSw
          unfold opb1
          first
          | (go_simp; done)
          | (go_simp; with_reducible rfl)
        simp only [opb1, Act.put, List.setIfInBounds_toArray, List.set_cons_zero, List.set_cons_succ]
        refine wpAnyH_take (i := 2) (oi := opb2) (v := ?_) rfl (by kernel_rfl) (by kernel_rfl) (by kernel_rfl) (fun _ _ _ h => h) (Or.inl ⟨by rfl, ?_⟩) (by assumption) ?_
        rotate_left
        · intro w' hSw
          clear hSw
          unfold opb2
          first
          | (go_simp; done)
          | (go_simp; with_reducible rfl)
        simp only [opb2, Act.put, List.setIfInBounds_toArray, List.set_cons_zero, List.set_cons_succ]
        refine wpAnyH_take (i := 3) (oi := opb3) (v := ?_) rfl (by kernel_rfl) (by kernel_rfl) (by kernel_rfl) (fun _ _ _ h => h) (Or.inl ⟨by rfl, ?_⟩) (by assumption) ?_
        rotate_left
        · intro w' hSw
          clear hSw
          unfold opb3
          first
          | (go_simp; done)
          | (go_simp; with_reducible rfl)
        simp only [opb3, Act.put, List.setIfInBounds_toArray, List.set_cons_zero, List.set_cons_succ]
        refine wpAnyH_take (i := 4) (oi := opb4) (v := ?_) rfl (by kernel_rfl) (by kernel_rfl) (by kernel_rfl) (fun _ _ _ h => h) (Or.inl ⟨by rfl, ?_⟩) (by assumption) ?_
        rotate_left
        · intro w' hSw
          have cvl := CVL.out w' (cap - 48) hSw.1; clear hSw
          unfold opb4
          first
          | (go_simp; done)
          | (go_simp; with_reducible rfl)
        simp only [opb4, Act.put, List.setIfInBounds_toArray, List.set_cons_zero, List.set_cons_succ]
        refine wpAnyH_take (i := 8) (oi := opb8) (v := ?_) rfl (by kernel_rfl) (by kernel_rfl) (by kernel_rfl) (fun _ _ _ h => h) (Or.inl ⟨by rfl, ?_⟩) (by assumption) ?_
        rotate_left
        · intro w' hSw
          clear hSw
          unfold opb8
          first
          | (go_simp; done)
          | (go_simp; with_reducible rfl)
        simp only [opb8, Act.put, List.setIfInBounds_toArray, List.set_cons_zero, List.set_cons_succ]
        refine wpAnyH_take (i := 9) (oi := opb9) (v := ?_) rfl (by kernel_rfl) (by kernel_rfl) (by kernel_rfl) (fun _ _ _ h => h) (Or.inl ⟨by rfl, ?_⟩) (by assumption) ?_
        rotate_left
        · intro w' hSw
          clear hSw
          unfold opb9
          first
          | (go_simp; done)
          | (go_simp; with_reducible rfl)
        simp only [opb9, Act.put, List.setIfInBounds_toArray, List.set_cons_zero, List.set_cons_succ]
        refine wpAnyH_take (i := 10) (oi := opb10) (v := ?_) rfl (by kernel_rfl) (by kernel_rfl) (by kernel_rfl) (fun _ _ _ h => h) (Or.inl ⟨by rfl, ?_⟩) (by assumption) ?_
        rotate_left
        · intro w' hSw
          have cvm := CVM.out w' (cap - 32) hSw.1; clear hSw
          unfold opb10
          first
          | (go_simp; done)
          | (go_simp; with_reducible rfl)
        simp only [opb10, Act.put, List.setIfInBounds_toArray, List.set_cons_zero, List.set_cons_succ]
        obtain ⟨D5, hD5⟩ : ∃ D, Y.drew = D := ⟨_, rfl⟩
        have F5 : Hid (BytesAt D5 gb BL ∧ D5.cell? ⟨g14, 1, none⟩ = some (.string q1) ∧ Below w.heap.size w D5) := by rw [← hD5]; exact ⟨F4.out.1, F4.out.2.1.2.2.1, F4.out.2.2.1.drew⟩
        rw [hD5] at hHeld
        rw [hD5]
        clear hD5 F4
        refine wpAnyH_ready (rs := [5]) (by kernel_rfl) (by simp) ?_
        refine AllReadyH.cons (o := opb5) rfl (fun KK hKK => ?_) AllReadyH.nil
        unfold opb5
        go_simp
        have BA : Below D5.heap.size D5 (D5.alloc (.cells #[.string L] 9)) := (Below.refl _ _).alloc (Nat.le_refl _) _
        have F6 : Hid (BytesAt (D5.alloc (.cells #[.string L] 9)) gb BL ∧ (D5.alloc (.cells #[.string L] 9)).cell? ⟨g14, 1, none⟩ = some (.string q1) ∧ Below w.heap.size w (D5.alloc (.cells #[.string L] 9)) ∧ (D5.alloc (.cells #[.string L] 9)).cell? ⟨D5.heap.size, 0, none⟩ = some (.string L)) := ⟨F5.out.1.later BA, cell_later BA F5.out.2.1, chain F5.out.2.2 BA, by simp [go_sem]⟩
        refine hKK.out _ _ ⟨F6.out.1, F6.out.2.1⟩ (fun hHeld2 => ?_)
        clear hKK KK hHeld F5 BA
        obtain ⟨D6, hD6⟩ : ∃ D, D5.alloc (.cells #[.string L] 9) = D := ⟨_, rfl⟩
        rw [hD6] at F6 hHeld2
        rw [hD6]
        clear hD6
        refine wpAnyH_ready (rs := [6]) (by kernel_rfl) (by simp) ?_
        refine AllReadyH.cons (o := opb6) rfl (fun KK hKK => ?_) AllReadyH.nil
        unfold opb6
        go_simp
        refine Calls.mono (TG.out _ _ (hK.out.later F6.out.2.2.1) F6.out.2.2.2) ?_
        rintro e D7 ⟨rfl, hb7⟩
        have F7 : Hid (BytesAt D7 gb BL ∧ D7.cell? ⟨g14, 1, none⟩ = some (.string q1) ∧ Below w.heap.size w D7) := ⟨F6.out.1.later hb7, cell_later hb7 F6.out.2.1, chain F6.out.2.2.1 hb7⟩
        refine hKK.out _ _ (⟨F7.out.1, F7.out.2.1⟩) (fun hHeld3 => ?_)
        clear hKK KK hb7 hHeld2 F6
        refine wpAnyH_take (i := 7) (oi := opb7) (v := ?_) rfl (by kernel_rfl) (by kernel_rfl) (by kernel_rfl) (fun _ _ _ h => h) (Or.inl ⟨by rfl, ?_⟩) (by assumption) ?_
        rotate_left
        · intro w' hSw
          clear hSw
          unfold opb7
          first
          | (go_simp; done)
          | (go_simp; with_reducible rfl)
        simp only [opb7, Act.put, List.setIfInBounds_toArray, List.set_cons_zero, List.set_cons_succ]
        refine wpAnyH_take (i := 11) (oi := opb11) (v := ?_) rfl (by kernel_rfl) (by kernel_rfl) (by kernel_rfl) (fun _ _ _ h => h) (Or.inl ⟨by rfl, ?_⟩) (by assumption) ?_
        rotate_left
        · intro w' hSw
          clear hSw
          unfold opb11
          first
          | (go_simp; done)
          | (go_simp; with_reducible rfl)
        simp only [opb11, Act.put, List.setIfInBounds_toArray, List.set_cons_zero, List.set_cons_succ]
        refine wpAnyH_take (i := 12) (oi := opb12) (v := ?_) rfl (by kernel_rfl) (by kernel_rfl) (by kernel_rfl) (fun _ _ _ h => h) (Or.inl ⟨by rfl, ?_⟩) (by assumption) ?_
        rotate_left
        · intro w' hSw
          clear hSw
          unfold opb12
          first
          | (go_simp; done)
          | (go_simp; with_reducible rfl)
        simp only [opb12, Act.put, List.setIfInBounds_toArray, List.set_cons_zero, List.set_cons_succ]
        refine wpAnyH_done (by kernel_rfl) ?_ _
        refine NoPanic.normal ?_
        clear hHeld3
        go_wp2
        go_ret
        exact ⟨rfl, F7.out.2.2⟩
set_option maxHeartbeats 2000000 in
theorem turned_walk_z (CO : Hid OfC) (CM : Hid MakeC) (CL : Hid PeelC) (who : ByteArray) (zw : Hid (who.size + 64 ≤ 140737488355328)) (at_ : Int) (y : UInt8) (hy : y = 1) (w : World) (hK : Hid (Kh w)) :
    Calls Tryz.prog 7 #[.string who, .int .i64 at_, .int .u8 0] w fun e w' => e = .returned (.bool true) ∧ Below w.heap.size w w' := by
  have WK : Hid (∀ w, Kh w → Calls Tryz.prog 10 #[] w fun e w' => e = .returned (.bool true) ∧ Below w.heap.size w w') := fun w h => works8_any CM CL w h
  obtain ⟨SD, hSD⟩ : ∃ S : ByteArray, pv who 9 = S := ⟨_, rfl⟩
  have zS : SD.size = 32 := by rw [← hSD]; exact pv_size _ _
  have V9 : Hid (∀ w, Kh w → Calls Tryz.prog 16 #[.string who, .int .i64 9] w fun e w' => e = .returned (.string SD) ∧ Below w.heap.size w w') := fun w h => by
    rw [← hSD]; exact private_any _ 9 (by decide) zw w h
  have V0 : Hid (∀ w, Kh w → Calls Tryz.prog 16 #[.string who, .int .i64 0] w fun e w' => e = .returned (.string (pv who 0)) ∧ Below w.heap.size w w') := fun w h => private_any _ 0 (by decide) zw w h
  have P0 : Hid (∀ w, Kh w → Calls Tryz.prog 17 #[.string who, .int .i64 0] w fun e w' => e = .returned (.string (pp who 0)) ∧ Below w.heap.size w w') := fun w h => public_any _ 0 (by decide) zw w h
  have P1 : Hid (∀ w, Kh w → Calls Tryz.prog 17 #[.string who, .int .i64 1] w fun e w' => e = .returned (.string (pp who 1)) ∧ Below w.heap.size w w') := fun w h => public_any _ 1 (by decide) zw w h
  obtain ⟨ss, HD, f1, n1, f2, f3, f4, f5, f6, f7, f8⟩ := made_first SD who tway 2 zS rfl tway_ok
  have e2 : pps who 2 = [pp who 0, pp who 1] := rfl
  rw [e2] at f2 f3 f4
  have MK : Hid (∀ (A B : Nat) (w : World), Kh w → w.cell? ⟨A, 0, none⟩ = some (.string (pp who 0)) → w.cell? ⟨A, 1, none⟩ = some (.string (pp who 1)) → HopsAt w (some ⟨B, 0, none⟩) tway → Calls Tryz.prog 12 #[.string SD, .slice (some ⟨A, 0, none⟩) 2 2, .slice (some ⟨B, 0, none⟩) 2 2] w fun e w' => ∃ v, e = .returned (.tuple #[.string HD, v, .int .i64 0]) ∧ Below w.heap.size w w') := fun A B w h h0 h1 h2 => by
    have := CM.out SD (some ⟨A, 0, none⟩) [pp who 0, pp who 1] 2 2 (some ⟨B, 0, none⟩) tway 2 2 w ⟨rfl, rfl⟩ (by show (2 : Nat) * 16 ≤ _ ∧ (2 : Nat) * 48 ≤ _; decide) (by show SD.size + 64 ≤ _; omega) (fun p hp => by
      simp at hp
      rcases hp with rfl | rfl
      · rw [pp_size]; decide
      · rw [pp_size]; decide) (fun x hx => by
      simp [tway] at hx
      rcases hx with rfl | rfl
      · show (0 : Nat) ≤ _; decide
      · show (0 : Nat) ≤ _; decide) h (strAt2 h0 h1) h2
    rw [f2, f3, f4] at this
    exact this.mono fun e w' ⟨v, q1, _, q3⟩ => ⟨v, q1, q3⟩
  obtain ⟨PT, hPT⟩ : ∃ x, Crv.ek (Crv.pub SD) = x := ⟨_, rfl⟩
  rw [hPT] at f6 f7 f8
  have zPT : PT.size = 32 := by rw [← hPT]; exact Crv.ek_size _
  obtain ⟨S, hS⟩ : ∃ x, Crv.ek (Crv.tm (pv who 0) PT) = x := ⟨_, rfl⟩
  have zSS : S.size = 32 := by rw [← hS]; exact Crv.ek_size _
  have SH : Hid (∀ w, Calls Tryz.prog 18 #[.string (pv who 0), .string PT] w fun e w' => e = .returned (.tuple #[.string S, .int .i64 0]) ∧ Below w.heap.size w w') := fun w => by
    rw [← hS]; exact Crv.Shared_ok (pv who 0) PT (pv_size _ _) zPT f7 w
  have OF : Hid (∀ w, Kh w → Calls Tryz.prog 9 #[.string S] w fun e w' => e = .returned (.tuple #[kv S, .int .i64 0]) ∧ Below w.heap.size w w') := fun w h => by
    have := CO.out S w (by show _ ≤ _; omega) h
    unfold ofV at this
    rw [if_pos zSS] at this
    exact this
  have PE : Hid (∀ (p : Nat) (x : UInt8), 32 ≤ p → ∀ w, Kh w → Calls Tryz.prog 14 #[.string (pv who 0), .string (trn8 HD p x)] w fun e w' => e = .returned (.tuple (plV (pv who 0) (trn8 HD p x))) ∧ Below w.heap.size w w') := fun p x hp w h => CL.out (pv who 0) (trn8 HD p x) w (by show (pv who 0).size ≤ _; rw [pv_size]; decide) (by show (trn8 HD p x).size ≤ _; rw [trn8_size, f5]; decide) h
  have WAY : Hid (∀ (p : Nat) (x : UInt8), 32 ≤ p → ∃ (k n u d : Int) (id s k0 k1 k2 k3 k4 : ByteArray) (e : Int), plV (pv who 0) (trn8 HD p x) = #[.agg #[.int .i64 k, .int .i64 n, .int .i64 u, .int .i64 d, .string id], .string s, .agg #[.string k0, .string k1, .string k2, .string k3, .string k4], .int .i64 e] ∧ (e = 81 ∨ (e = 0 ∨ e = 70) ∧ (((hmb S ((trn8 HD p x).extract 48 248)).toList == ((trn8 HD p x).extract 32 48).toList) = true))) := fun p x hp => by
    have ways := plV_ways (pv who 0) (trn8 HD p x) S _ _ _ _ (pv_size _ _) (by rw [trn8_size]; exact f5) (by rw [trn8_point _ _ _ hp, f6]; exact f7) (by rw [trn8_point _ _ _ hp, f6]; exact hS) rfl rfl rfl rfl
    obtain ⟨sm, hsm⟩ : ∃ b : Bool, (((trn8 HD p x).extract 32 48).toList == (hmb S ((trn8 HD p x).extract 48 248)).toList) = b := ⟨_, rfl⟩
    have hms : ((hmb S ((trn8 HD p x).extract 48 248)).toList == ((trn8 HD p x).extract 32 48).toList) = sm := by rw [← hsm, Bool.eq_iff_iff, beq_iff_eq, beq_iff_eq]; exact eq_comm
    rw [hsm] at ways
    rw [hms]
    cases sm with
    | false => exact ⟨_, _, _, _, _, _, _, _, _, _, _, _, ways.1 rfl, .inl rfl⟩
    | true =>
      cases hdc : dcd ((htn S ((trn8 HD p x).extract 48 248 ++ zba 40)).extract 0 24).data.toList with
      | none => exact ⟨_, _, _, _, _, _, _, _, _, _, _, _, ways.2.1 rfl hdc, .inr ⟨.inr rfl, rfl⟩⟩
      | some z => exact ⟨_, _, _, _, _, _, _, _, _, _, _, _, ways.2.2 rfl z hdc, .inr ⟨.inl rfl, rfl⟩⟩
  unfold kv at OF
  have zHi : (HD.size : Int) = 248 := by omega
  have HP : Hid (HD.extract 0 32 = PT) := f6
  clear f1 n1 f2 f3 f4 f6 f7 f8 hS hPT hSD e2 zSS zPT CO CM CL zw
  have hyn : Hid ((1 : Int) = (y.toNat : Int)) := (show (1 : Int) = (y.toNat : Int) by rw [hy]; rfl)
  go_enter Tryz.func7, Tryz.ntmps7
  go_wp2_with fail
  refine Calls.mono (WK.out _ hK.out) ?_
  rintro e w1 ⟨rfl, hb⟩
  have B1 : Hid (Below w.heap.size w w1) := hb
  clear hb WK
  go_wp2_with fail
  refine Calls.mono (V9.out _ (hK.out.later B1.out)) ?_
  rintro e w2 ⟨rfl, hb⟩
  have B2 : Hid (Below w.heap.size w w2) := chain B1.out hb
  clear hb V9 B1
  go_wp2_with fail
  refine Calls.mono (P0.out _ (hK.out.later B2.out)) ?_
  rintro e w3 ⟨rfl, hb⟩
  have B3 : Hid (Below w.heap.size w w3) := chain B2.out hb
  clear hb P0 B2
  go_wp2_with fail
  refine Calls.mono (P1.out _ (hK.out.later B3.out)) ?_
  rintro e w4 ⟨rfl, hb⟩
  have B4 : Hid (Below w.heap.size w w4) := chain B3.out hb
  clear hb P1 B3
  go_wp2_with fail
  have HW : HopsAt ((w4.alloc (.cells #[.string (pp who 0), .string (pp who 1)] 9)).alloc (.cells #[.int .i64 1, .int .i64 1, .int .i64 0, .int .i64 0, .string ⟨#[]⟩, .int .i64 4, .int .i64 0, .int .i64 0, .int .i64 0, .string ⟨#[]⟩] 37)) (some ⟨w4.heap.size + 1, 0, none⟩) tway := by
    have := hops_two (w4.alloc (.cells #[.string (pp who 0), .string (pp who 1)] 9)) 37 ⟨1, 1, 0, 0, ⟨#[]⟩⟩ ⟨4, 0, 0, 0, ⟨#[]⟩⟩
    simpa [go_sem, tway] using this
  have BA : Hid (Below w.heap.size w ((w4.alloc (.cells #[.string (pp who 0), .string (pp who 1)] 9)).alloc (.cells #[.int .i64 1, .int .i64 1, .int .i64 0, .int .i64 0, .string ⟨#[]⟩, .int .i64 4, .int .i64 0, .int .i64 0, .int .i64 0, .string ⟨#[]⟩] 37))) := (B4.out.alloc B4.out.size _).alloc (by have := B4.out.size; simp; omega) _
  refine Calls.mono (MK.out _ _ _ (hK.out.later BA.out) (by simp [go_sem]) (by simp [go_sem]) HW) ?_
  rintro e w5 ⟨v, rfl, hb⟩
  have B5 : Hid (Below w.heap.size w w5) := chain BA.out hb
  clear hb MK BA HW B4
  obtain ⟨cap, W6, CV, BY, bW, hcap, hcapm, hlt6⟩ := bytes_of2 HD (by omega) w5
  have B6 : Hid (BytesAt W6 w5.heap.size HD.data.toList ∧ Below w.heap.size w W6) := ⟨BY, chain B5.out bW⟩
  clear bW BY hlt6
  have GB : Hid (w.heap.size ≤ w5.heap.size) := B5.out.size
  generalize w5.heap.size = gb at *
  obtain ⟨r, hr, hr2⟩ : ∃ r : Nat, (IntKind.u64.wrap at_).tmod 216 = (r : Int) ∧ r < 216 := by
    have h : IntKind.u64.wrap at_ = at_ % 18446744073709551616 := by rw [IntKind.wrap_u64]
    rw [h, Int.tmod_eq_emod_of_nonneg (Int.emod_nonneg _ (by decide))]
    refine ⟨(at_ % 18446744073709551616 % 216).toNat, ?_, ?_⟩
    · have := Int.emod_nonneg (at_ % 18446744073709551616) (b := 216) (by decide); omega
    · have := Int.emod_lt_of_pos (at_ % 18446744073709551616) (b := 216) (by decide); have := Int.emod_nonneg (at_ % 18446744073709551616) (b := 216) (by decide); omega
  obtain ⟨p, hp⟩ : ∃ p : Nat, 32 + r = p := ⟨_, rfl⟩
  have t2 : wrap64 (r : Int) = (r : Int) := by unfold wrap64; omega
  have t2' : IntKind.i64.wrap (r : Int) = (r : Int) := by rw [IntKind.wrap_i64]; omega
  have t3 : wrap64 (32 + (r : Int)) = (p : Int) := by unfold wrap64; omega
  have t3' : IntKind.i64.wrap (32 + (r : Int)) = (p : Int) := by rw [IntKind.wrap_i64]; omega
  have hp1 : (p : Int) < 248 := by omega
  have hp0 : (0 : Int) ≤ (p : Int) := by omega
  have hpl : p < HD.data.toList.length := by rw [list_sz]; omega
  obtain ⟨cx, fx⟩ := B6.out.1 p hpl
  have hp32 : Hid (32 ≤ p) := (show 32 ≤ p by omega)
  obtain ⟨x, hx⟩ : ∃ x, HD.data.toList[p] = x := ⟨_, rfl⟩
  rw [hx] at cx
  clear hx hp hr2
  have XY := sxor8 x y
  rw [← hyn.out] at XY
  have B7 : Hid (BytesAt (W6.setCell ⟨gb, p, none⟩ (.int .u8 ((x ^^^ y).toNat : Int))) gb (HD.data.toList.set p (x ^^^ y)) ∧ Below w.heap.size w (W6.setCell ⟨gb, p, none⟩ (.int .u8 ((x ^^^ y).toNat : Int)))) := by
    have hg : w.heap.size ≤ gb := GB.out
    exact ⟨B6.out.1.set p (x ^^^ y) _ rfl, B6.out.2.setCell (p := ⟨gb, p, none⟩) hg _⟩
  generalize x ^^^ y = z at *
  obtain ⟨xk, xn, xu, xd, xid, xs, k0, k1, k2, k3, k4, ee, hV, hcase⟩ := WAY.out p z hp32.out
  have PE' : Hid (∀ w, Kh w → Calls Tryz.prog 14 #[.string (pv who 0), .string (trn8 HD p z)] w fun e w' => e = .returned (.tuple #[.agg #[.int .i64 xk, .int .i64 xn, .int .i64 xu, .int .i64 xd, .string xid], .string xs, .agg #[.string k0, .string k1, .string k2, .string k3, .string k4], .int .i64 ee]) ∧ Below w.heap.size w w') := fun w h => by
    have := PE.out p z hp32.out w h
    rw [hV] at this
    exact this
  have HC : Hid (_ ∨ _) := hcase
  have lBL : (HD.data.toList.set p z).length = 248 := by rw [List.length_set, list_sz]; exact f5
  have CVT : Hid (∀ w', BytesAt w' gb (HD.data.toList.set p z) → (convert 44 9 (.slice (some ⟨gb, 0, none⟩) 248 cap)).run Tryz.prog w' = .ok (.string (trn8 HD p z)) w') := fun w' h => h.string lBL
  have CVL : Hid (∀ w' c, BytesAt w' gb (HD.data.toList.set p z) → (convert 44 9 (.slice (some ⟨gb, 48, none⟩) 200 c)).run Tryz.prog w' = .ok (.string ((trn8 HD p z).extract 48 248)) w') := fun w' c h => by
    have := bytes_mid (o := 48) (k := 200) (cap := c) h (by rw [lBL]; decide)
    rw [trn8_cut] at this
    exact this
  have CVM : Hid (∀ w' c, BytesAt w' gb (HD.data.toList.set p z) → (convert 44 9 (.slice (some ⟨gb, 32, none⟩) 16 c)).run Tryz.prog w' = .ok (.string ((trn8 HD p z).extract 32 48)) w') := fun w' c h => by
    have := bytes_mid (o := 32) (k := 16) (cap := c) h (by rw [lBL]; decide)
    rw [trn8_cut] at this
    exact this
  have GL : Hid (gb < W6.heap.size) := World.block_lt_of_cell? _ _ cx
  clear hV hcase PE WAY lBL
  generalize HD.data.toList.set p z = BL at *
  obtain ⟨TB, hTB⟩ : ∃ x, trn8 HD p z = x := ⟨_, rfl⟩
  have zTB : TB.size = 248 := by rw [← hTB, trn8_size]; exact f5
  rw [hTB] at PE' HC CVT CVL CVM
  clear hTB
  generalize pv who 0 = PV at *
  go_wp2_with fail
  obtain ⟨X0, hX0⟩ : ∃ X, W6.setCell ⟨gb, p, none⟩ (.int .u8 (z.toNat : Int)) = X := ⟨_, rfl⟩
  have ST0 : Hid (Stw w X0.drew gb BL none none) := by
    rw [← hX0]
    exact ⟨B7.out.1, B7.out.2.drew, by have := GL.out; simpa [go_sem] using this, fun g hg => by (cases hg), fun g hg => by (cases hg)⟩
  have HS0 : BytesAt X0.drew gb BL := ST0.out.1
  rw [hX0]
  clear hX0 B7 B6 cx fx XY GL t2 t2' t3 t3' hpl B5
  refine (fun (KEY : ∀ (g12 g14 : Nat) (X : World), Hid (BytesAt X gb BL ∧ Five X g14 k0 k1 k2 k3 k4 ∧ Below w.heap.size w X ∧ g14 ≠ gb ∧ w.heap.size ≤ g14) → (?KK1 : Nat → Nat → World → Prop) g12 g14 X) => ?main1) ?key1
  case main1 =>
    refine wp_region_noPanic ?_
    refine wp_region_held_drew (S := fun w' => BytesAt w' gb BL) (by kernel_rfl) (HS0) (fun hHeld => ?_)
    refine wpAnyH_take (i := 0) (oi := opa0) (v := ?_) rfl (by kernel_rfl) (by kernel_rfl) (by kernel_rfl) (fun _ _ _ h => h) (Or.inl ⟨by rfl, ?_⟩) (by assumption) ?_
    rotate_left
    · intro w' hSw
      clear hSw
      unfold opa0
      first
      | (go_simp; done)
      | (go_simp; with_reducible rfl)
    simp only [opa0, Act.put, List.setIfInBounds_toArray, List.set_cons_zero, List.set_cons_succ]
    refine wpAnyH_take (i := 2) (oi := opa2) (v := ?_) rfl (by kernel_rfl) (by kernel_rfl) (by kernel_rfl) (fun _ _ _ h => h) (Or.inl ⟨by rfl, ?_⟩) (by assumption) ?_
    rotate_left
    · intro w' hSw
      clear hSw
      unfold opa2
      first
      | (go_simp; done)
      | (go_simp; with_reducible rfl)
    simp only [opa2, Act.put, List.setIfInBounds_toArray, List.set_cons_zero, List.set_cons_succ]
    refine wpAnyH_take (i := 3) (oi := opa3) (v := ?_) rfl (by kernel_rfl) (by kernel_rfl) (by kernel_rfl) (fun _ _ _ h => h) (Or.inl ⟨by rfl, ?_⟩) (by assumption) ?_
    rotate_left
    · intro w' hSw
      have cvt := CVT.out w' hSw; clear hSw
      unfold opa3
      first
      | (go_simp; done)
      | (go_simp; with_reducible rfl)
    simp only [opa3, Act.put, List.setIfInBounds_toArray, List.set_cons_zero, List.set_cons_succ]
    obtain ⟨D0, hD0⟩ : ∃ D, X0.drew = D := ⟨_, rfl⟩
    have STa : Hid (Stw w D0 gb BL none none) := by rw [← hD0]; exact ST0.out
    rw [hD0] at hHeld
    rw [hD0]
    clear hD0
    refine wpAnyH_ready (rs := [1, 10, 11]) (by kernel_rfl) (by simp) ?_
    refine AllReadyH.cons (o := opa1) rfl (fun KK hKK => ?_) (AllReadyH.cons (o := opa10) rfl (fun KK hKK => ?_) (AllReadyH.cons (o := opa11) rfl (fun KK hKK => ?_) AllReadyH.nil))
    ·
      unfold opa1
      go_simp
      refine Calls.mono (V0.out _ (hK.out.later STa.out.2.1)) ?_
      rintro e U1 ⟨rfl, hb⟩
      have ST1 : Hid (Stw w U1 gb BL none none) := STa.out.later hb
      refine hKK.out _ _ ST1.out.1 (fun hHeld1 => ?_)
      clear hKK KK hb hHeld STa
      refine wpAnyH_ready (rs := [4, 10, 11]) (by kernel_rfl) (by simp) ?_
      refine AllReadyH.cons (o := opa4) rfl (fun KK hKK => ?_) (AllReadyH.cons (o := opa10) rfl (fun KK hKK => ?_) (AllReadyH.cons (o := opa11) rfl (fun KK hKK => ?_) AllReadyH.nil))
      ·
        unfold opa4
        go_simp
        refine Calls.mono (PE'.out _ (hK.out.later ST1.out.2.1)) ?_
        rintro e U2 ⟨rfl, hb⟩
        have ST2 : Hid (Stw w U2 gb BL none none) := ST1.out.later hb
        refine hKK.out _ _ ST2.out.1 (fun hHeld2 => ?_)
        clear hKK KK hb hHeld1 ST1
        refine wpAnyH_take (i := 5) (oi := opa5) (v := ?_) rfl (by kernel_rfl) (by kernel_rfl) (by kernel_rfl) (fun _ _ _ h => h) (Or.inl ⟨by rfl, ?_⟩) (by assumption) ?_
        rotate_left
        · intro w' hSw
          clear hSw
          unfold opa5
          first
          | (go_simp; done)
          | (go_simp; with_reducible rfl)
        simp only [opa5, Act.put, List.setIfInBounds_toArray, List.set_cons_zero, List.set_cons_succ]
        refine wpAnyH_take (i := 6) (oi := opa6) (v := ?_) rfl (by kernel_rfl) (by kernel_rfl) (by kernel_rfl) (fun _ _ _ h => h) (Or.inl ⟨by rfl, ?_⟩) (by assumption) ?_
        rotate_left
        · intro w' hSw
          clear hSw
          unfold opa6
          first
          | (go_simp; done)
          | (go_simp; with_reducible rfl)
        simp only [opa6, Act.put, List.setIfInBounds_toArray, List.set_cons_zero, List.set_cons_succ]
        refine wpAnyH_take (i := 7) (oi := opa7) (v := ?_) rfl (by kernel_rfl) (by kernel_rfl) (by kernel_rfl) (fun _ _ _ h => h) (Or.inl ⟨by rfl, ?_⟩) (by assumption) ?_
        rotate_left
        · intro w' hSw
          clear hSw
          unfold opa7
          first
          | (go_simp; done)
          | (go_simp; with_reducible rfl)
        simp only [opa7, Act.put, List.setIfInBounds_toArray, List.set_cons_zero, List.set_cons_succ]
        refine wpAnyH_take (i := 8) (oi := opa8) (v := ?_) rfl (by kernel_rfl) (by kernel_rfl) (by kernel_rfl) (fun _ _ _ h => h) (Or.inl ⟨by rfl, ?_⟩) (by assumption) ?_
        rotate_left
        · intro w' hSw
          clear hSw
          unfold opa8
          first
          | (go_simp; done)
          | (go_simp; with_reducible rfl)
        simp only [opa8, Act.put, List.setIfInBounds_toArray, List.set_cons_zero, List.set_cons_succ]
        refine wpAnyH_take (i := 9) (oi := opa9) (v := ?_) rfl (by kernel_rfl) (by kernel_rfl) (by kernel_rfl) (fun _ _ _ h => h) (Or.inl ⟨by rfl, ?_⟩) (by assumption) ?_
        rotate_left
        · intro w' hSw
          clear hSw
          unfold opa9
          first
          | (go_simp; done)
          | (go_simp; with_reducible rfl)
        simp only [opa9, Act.put, List.setIfInBounds_toArray, List.set_cons_zero, List.set_cons_succ]
        refine wpAnyH_ready (rs := [10, 11]) (by kernel_rfl) (by simp) ?_
        refine AllReadyH.cons (o := opa10) rfl (fun KK hKK => ?_) (AllReadyH.cons (o := opa11) rfl (fun KK hKK => ?_) AllReadyH.nil)
        ·
          unfold opa10
          go_simp
          have ST3 : Hid (Stw w (U2.alloc (.cells #[.int .i64 0, .int .i64 0, .int .i64 0, .int .i64 0, .string ⟨#[]⟩] 37)) gb BL (some U2.heap.size) none) := ST2.out.hop
          refine hKK.out _ _ ST3.out.1 (fun hHeld3 => ?_)
          clear hKK KK hHeld2 ST2
          obtain ⟨U3, hU3⟩ : ∃ X, U2.alloc (.cells #[.int .i64 0, .int .i64 0, .int .i64 0, .int .i64 0, .string ⟨#[]⟩] 37) = X := ⟨_, rfl⟩
          obtain ⟨g3, hg3⟩ : ∃ t, U2.heap.size = t := ⟨_, rfl⟩
          rw [hU3, hg3] at ST3
          rw [hU3] at hHeld3
          rw [hU3, hg3]
          clear hU3 hg3
          refine wpAnyH_ready (rs := [11]) (by kernel_rfl) (by simp) ?_
          refine AllReadyH.cons (o := opa11) rfl (fun KK hKK => ?_) AllReadyH.nil
          ·
            unfold opa11
            go_simp
            have ST4 : Hid (Stw w (U3.alloc (.cells #[.string ⟨#[]⟩, .string ⟨#[]⟩, .string ⟨#[]⟩, .string ⟨#[]⟩, .string ⟨#[]⟩] 23)) gb BL (some g3) (some U3.heap.size)) := ST3.out.keys
            refine hKK.out _ _ ST4.out.1 (fun hHeld4 => ?_)
            clear hKK KK hHeld3 ST3
            obtain ⟨U4, hU4⟩ : ∃ X, U3.alloc (.cells #[.string ⟨#[]⟩, .string ⟨#[]⟩, .string ⟨#[]⟩, .string ⟨#[]⟩, .string ⟨#[]⟩] 23) = X := ⟨_, rfl⟩
            obtain ⟨g4, hg4⟩ : ∃ t, U3.heap.size = t := ⟨_, rfl⟩
            rw [hU4, hg4] at ST4
            rw [hU4] at hHeld4
            rw [hU4, hg4]
            clear hU4 hg4
            obtain ⟨fz12, -⟩ := (ST4.out.2.2.2.1 g3 rfl).1
            obtain ⟨h0, h1, h2, h3, h4⟩ := HopAt.cells (ST4.out.2.2.2.1 g3 rfl).1
            have z0 := fz12 0
            have z1 := fz12 1
            have z2 := fz12 2
            have z3 := fz12 3
            have z4 := fz12 4
            have P12 : Hid (_ ∧ _ ∧ _ ∧ _ ∧ _) := ST4.out.putH xk xn xu xd xid
            unfold YtckfplpiakbbdaaGreatDoor.putH at P12
            refine wpAnyH_ready (rs := [12]) (by kernel_rfl) (by simp) ?_
            refine AllReadyH.cons (o := opa12) rfl (fun KK hKK => ?_) AllReadyH.nil
            unfold opa12
            go_simp
            refine hKK.out _ _ P12.out.1 (fun hHeldA => ?_)
            clear hKK KK h0 h1 h2 h3 h4 z0 z1 z2 z3 z4 fz12 hHeld4 ST4
            obtain ⟨Y, hY⟩ : ∃ Y, ((((U4.setCell ⟨g3, 0, none⟩ (.int .i64 xk)).setCell ⟨g3, 1, none⟩ (.int .i64 xn)).setCell ⟨g3, 2, none⟩ (.int .i64 xu)).setCell ⟨g3, 3, none⟩ (.int .i64 xd)).setCell ⟨g3, 4, none⟩ (.string xid) = Y := ⟨_, rfl⟩
            rw [hY] at P12 hHeldA
            rw [hY]
            clear hY
            refine wpAnyH_take (i := 13) (oi := opa13) (v := ?_) rfl (by kernel_rfl) (by kernel_rfl) (by kernel_rfl) (fun _ _ _ h => h) (Or.inl ⟨by rfl, ?_⟩) (by assumption) ?_
            rotate_left
            · intro w' hSw
              clear hSw
              unfold opa13
              first
              | (go_simp; done)
              | (go_simp; with_reducible rfl)
            simp only [opa13, Act.put, List.setIfInBounds_toArray, List.set_cons_zero, List.set_cons_succ]
            obtain ⟨fz14, h0, h1, h2, h3, h4⟩ := P12.out.2.1
            have z0 := fz14 0
            have z1 := fz14 1
            have z2 := fz14 2
            have z3 := fz14 3
            have z4 := fz14 4
            have P14 : Hid (_ ∧ _ ∧ _ ∧ _ ∧ _) := putK_fin P12.out k0 k1 k2 k3 k4
            unfold YtckfplpiakbbdaaGreatDoor.putK at P14
            refine wpAnyH_ready (rs := [14]) (by kernel_rfl) (by simp) ?_
            refine AllReadyH.cons (o := opa14) rfl (fun KK hKK => ?_) AllReadyH.nil
            unfold opa14
            go_simp
            refine hKK.out _ _ P14.out.1 (fun hHeldB => ?_)
            clear hKK KK h0 h1 h2 h3 h4 z0 z1 z2 z3 z4 fz14 hHeldA P12
            obtain ⟨Y2, hY2⟩ : ∃ Y2, ((((Y.setCell ⟨g4, 0, none⟩ (.string k0)).setCell ⟨g4, 1, none⟩ (.string k1)).setCell ⟨g4, 2, none⟩ (.string k2)).setCell ⟨g4, 3, none⟩ (.string k3)).setCell ⟨g4, 4, none⟩ (.string k4) = Y2 := ⟨_, rfl⟩
            rw [hY2] at P14 hHeldB
            rw [hY2]
            clear hY2
            refine wpAnyH_take (i := 15) (oi := opa15) (v := ?_) rfl (by kernel_rfl) (by kernel_rfl) (by kernel_rfl) (fun _ _ _ h => h) (Or.inl ⟨by rfl, ?_⟩) (by assumption) ?_
            rotate_left
            · intro w' hSw
              clear hSw
              unfold opa15
              first
              | (go_simp; done)
              | (go_simp; with_reducible rfl)
            simp only [opa15, Act.put, List.setIfInBounds_toArray, List.set_cons_zero, List.set_cons_succ]
            refine wpAnyH_done (by kernel_rfl) ?_ _
            refine NoPanic.normal ?_
            exact KEY g3 g4 Y2 P14.out
        ·
          unfold opa11
          go_simp
          have ST5 : Hid (Stw w (U2.alloc (.cells #[.string ⟨#[]⟩, .string ⟨#[]⟩, .string ⟨#[]⟩, .string ⟨#[]⟩, .string ⟨#[]⟩] 23)) gb BL none (some U2.heap.size)) := ST2.out.keys
          refine hKK.out _ _ ST5.out.1 (fun hHeld5 => ?_)
          clear hKK KK hHeld2 ST2
          obtain ⟨U5, hU5⟩ : ∃ X, U2.alloc (.cells #[.string ⟨#[]⟩, .string ⟨#[]⟩, .string ⟨#[]⟩, .string ⟨#[]⟩, .string ⟨#[]⟩] 23) = X := ⟨_, rfl⟩
          obtain ⟨g5, hg5⟩ : ∃ t, U2.heap.size = t := ⟨_, rfl⟩
          rw [hU5, hg5] at ST5
          rw [hU5] at hHeld5
          rw [hU5, hg5]
          clear hU5 hg5
          refine wpAnyH_ready (rs := [10]) (by kernel_rfl) (by simp) ?_
          refine AllReadyH.cons (o := opa10) rfl (fun KK hKK => ?_) AllReadyH.nil
          ·
            unfold opa10
            go_simp
            have ST6 : Hid (Stw w (U5.alloc (.cells #[.int .i64 0, .int .i64 0, .int .i64 0, .int .i64 0, .string ⟨#[]⟩] 37)) gb BL (some U5.heap.size) (some g5)) := ST5.out.hop
            refine hKK.out _ _ ST6.out.1 (fun hHeld6 => ?_)
            clear hKK KK hHeld5 ST5
            obtain ⟨U6, hU6⟩ : ∃ X, U5.alloc (.cells #[.int .i64 0, .int .i64 0, .int .i64 0, .int .i64 0, .string ⟨#[]⟩] 37) = X := ⟨_, rfl⟩
            obtain ⟨g6, hg6⟩ : ∃ t, U5.heap.size = t := ⟨_, rfl⟩
            rw [hU6, hg6] at ST6
            rw [hU6] at hHeld6
            rw [hU6, hg6]
            clear hU6 hg6
            obtain ⟨fz12, -⟩ := (ST6.out.2.2.2.1 g6 rfl).1
            obtain ⟨h0, h1, h2, h3, h4⟩ := HopAt.cells (ST6.out.2.2.2.1 g6 rfl).1
            have z0 := fz12 0
            have z1 := fz12 1
            have z2 := fz12 2
            have z3 := fz12 3
            have z4 := fz12 4
            have P12 : Hid (_ ∧ _ ∧ _ ∧ _ ∧ _) := ST6.out.putH xk xn xu xd xid
            unfold YtckfplpiakbbdaaGreatDoor.putH at P12
            refine wpAnyH_ready (rs := [12]) (by kernel_rfl) (by simp) ?_
            refine AllReadyH.cons (o := opa12) rfl (fun KK hKK => ?_) AllReadyH.nil
            unfold opa12
            go_simp
            refine hKK.out _ _ P12.out.1 (fun hHeldA => ?_)
            clear hKK KK h0 h1 h2 h3 h4 z0 z1 z2 z3 z4 fz12 hHeld6 ST6
            obtain ⟨Y, hY⟩ : ∃ Y, ((((U6.setCell ⟨g6, 0, none⟩ (.int .i64 xk)).setCell ⟨g6, 1, none⟩ (.int .i64 xn)).setCell ⟨g6, 2, none⟩ (.int .i64 xu)).setCell ⟨g6, 3, none⟩ (.int .i64 xd)).setCell ⟨g6, 4, none⟩ (.string xid) = Y := ⟨_, rfl⟩
            rw [hY] at P12 hHeldA
            rw [hY]
            clear hY
            refine wpAnyH_take (i := 13) (oi := opa13) (v := ?_) rfl (by kernel_rfl) (by kernel_rfl) (by kernel_rfl) (fun _ _ _ h => h) (Or.inl ⟨by rfl, ?_⟩) (by assumption) ?_
            rotate_left
            · intro w' hSw
              clear hSw
              unfold opa13
              first
              | (go_simp; done)
              | (go_simp; with_reducible rfl)
            simp only [opa13, Act.put, List.setIfInBounds_toArray, List.set_cons_zero, List.set_cons_succ]
            obtain ⟨fz14, h0, h1, h2, h3, h4⟩ := P12.out.2.1
            have z0 := fz14 0
            have z1 := fz14 1
            have z2 := fz14 2
            have z3 := fz14 3
            have z4 := fz14 4
            have P14 : Hid (_ ∧ _ ∧ _ ∧ _ ∧ _) := putK_fin P12.out k0 k1 k2 k3 k4
            unfold YtckfplpiakbbdaaGreatDoor.putK at P14
            refine wpAnyH_ready (rs := [14]) (by kernel_rfl) (by simp) ?_
            refine AllReadyH.cons (o := opa14) rfl (fun KK hKK => ?_) AllReadyH.nil
            unfold opa14
            go_simp
            refine hKK.out _ _ P14.out.1 (fun hHeldB => ?_)
            clear hKK KK h0 h1 h2 h3 h4 z0 z1 z2 z3 z4 fz14 hHeldA P12
            obtain ⟨Y2, hY2⟩ : ∃ Y2, ((((Y.setCell ⟨g5, 0, none⟩ (.string k0)).setCell ⟨g5, 1, none⟩ (.string k1)).setCell ⟨g5, 2, none⟩ (.string k2)).setCell ⟨g5, 3, none⟩ (.string k3)).setCell ⟨g5, 4, none⟩ (.string k4) = Y2 := ⟨_, rfl⟩
            rw [hY2] at P14 hHeldB
            rw [hY2]
            clear hY2
            refine wpAnyH_take (i := 15) (oi := opa15) (v := ?_) rfl (by kernel_rfl) (by kernel_rfl) (by kernel_rfl) (fun _ _ _ h => h) (Or.inl ⟨by rfl, ?_⟩) (by assumption) ?_
            rotate_left
            · intro w' hSw
              clear hSw
              unfold opa15
              first
              | (go_simp; done)
              | (go_simp; with_reducible rfl)
            simp only [opa15, Act.put, List.setIfInBounds_toArray, List.set_cons_zero, List.set_cons_succ]
            refine wpAnyH_done (by kernel_rfl) ?_ _
            refine NoPanic.normal ?_
            exact KEY g6 g5 Y2 P14.out
      ·
        unfold opa10
        go_simp
        have ST7 : Hid (Stw w (U1.alloc (.cells #[.int .i64 0, .int .i64 0, .int .i64 0, .int .i64 0, .string ⟨#[]⟩] 37)) gb BL (some U1.heap.size) none) := ST1.out.hop
        refine hKK.out _ _ ST7.out.1 (fun hHeld7 => ?_)
        clear hKK KK hHeld1 ST1
        obtain ⟨U7, hU7⟩ : ∃ X, U1.alloc (.cells #[.int .i64 0, .int .i64 0, .int .i64 0, .int .i64 0, .string ⟨#[]⟩] 37) = X := ⟨_, rfl⟩
        obtain ⟨g7, hg7⟩ : ∃ t, U1.heap.size = t := ⟨_, rfl⟩
        rw [hU7, hg7] at ST7
        rw [hU7] at hHeld7
        rw [hU7, hg7]
        clear hU7 hg7
        refine wpAnyH_ready (rs := [4, 11]) (by kernel_rfl) (by simp) ?_
        refine AllReadyH.cons (o := opa4) rfl (fun KK hKK => ?_) (AllReadyH.cons (o := opa11) rfl (fun KK hKK => ?_) AllReadyH.nil)
        ·
          unfold opa4
          go_simp
          refine Calls.mono (PE'.out _ (hK.out.later ST7.out.2.1)) ?_
          rintro e U8 ⟨rfl, hb⟩
          have ST8 : Hid (Stw w U8 gb BL (some g7) none) := ST7.out.later hb
          refine hKK.out _ _ ST8.out.1 (fun hHeld8 => ?_)
          clear hKK KK hb hHeld7 ST7
          refine wpAnyH_take (i := 5) (oi := opa5) (v := ?_) rfl (by kernel_rfl) (by kernel_rfl) (by kernel_rfl) (fun _ _ _ h => h) (Or.inl ⟨by rfl, ?_⟩) (by assumption) ?_
          rotate_left
          · intro w' hSw
            clear hSw
            unfold opa5
            first
            | (go_simp; done)
            | (go_simp; with_reducible rfl)
          simp only [opa5, Act.put, List.setIfInBounds_toArray, List.set_cons_zero, List.set_cons_succ]
          refine wpAnyH_take (i := 6) (oi := opa6) (v := ?_) rfl (by kernel_rfl) (by kernel_rfl) (by kernel_rfl) (fun _ _ _ h => h) (Or.inl ⟨by rfl, ?_⟩) (by assumption) ?_
          rotate_left
          · intro w' hSw
            clear hSw
            unfold opa6
            first
            | (go_simp; done)
            | (go_simp; with_reducible rfl)
          simp only [opa6, Act.put, List.setIfInBounds_toArray, List.set_cons_zero, List.set_cons_succ]
          refine wpAnyH_take (i := 7) (oi := opa7) (v := ?_) rfl (by kernel_rfl) (by kernel_rfl) (by kernel_rfl) (fun _ _ _ h => h) (Or.inl ⟨by rfl, ?_⟩) (by assumption) ?_
          rotate_left
          · intro w' hSw
            clear hSw
            unfold opa7
            first
            | (go_simp; done)
            | (go_simp; with_reducible rfl)
          simp only [opa7, Act.put, List.setIfInBounds_toArray, List.set_cons_zero, List.set_cons_succ]
          refine wpAnyH_take (i := 8) (oi := opa8) (v := ?_) rfl (by kernel_rfl) (by kernel_rfl) (by kernel_rfl) (fun _ _ _ h => h) (Or.inl ⟨by rfl, ?_⟩) (by assumption) ?_
          rotate_left
          · intro w' hSw
            clear hSw
            unfold opa8
            first
            | (go_simp; done)
            | (go_simp; with_reducible rfl)
          simp only [opa8, Act.put, List.setIfInBounds_toArray, List.set_cons_zero, List.set_cons_succ]
          refine wpAnyH_take (i := 9) (oi := opa9) (v := ?_) rfl (by kernel_rfl) (by kernel_rfl) (by kernel_rfl) (fun _ _ _ h => h) (Or.inl ⟨by rfl, ?_⟩) (by assumption) ?_
          rotate_left
          · intro w' hSw
            clear hSw
            unfold opa9
            first
            | (go_simp; done)
            | (go_simp; with_reducible rfl)
          simp only [opa9, Act.put, List.setIfInBounds_toArray, List.set_cons_zero, List.set_cons_succ]
          refine wpAnyH_ready (rs := [11]) (by kernel_rfl) (by simp) ?_
          refine AllReadyH.cons (o := opa11) rfl (fun KK hKK => ?_) AllReadyH.nil
          ·
            unfold opa11
            go_simp
            have ST9 : Hid (Stw w (U8.alloc (.cells #[.string ⟨#[]⟩, .string ⟨#[]⟩, .string ⟨#[]⟩, .string ⟨#[]⟩, .string ⟨#[]⟩] 23)) gb BL (some g7) (some U8.heap.size)) := ST8.out.keys
            refine hKK.out _ _ ST9.out.1 (fun hHeld9 => ?_)
            clear hKK KK hHeld8 ST8
            obtain ⟨U9, hU9⟩ : ∃ X, U8.alloc (.cells #[.string ⟨#[]⟩, .string ⟨#[]⟩, .string ⟨#[]⟩, .string ⟨#[]⟩, .string ⟨#[]⟩] 23) = X := ⟨_, rfl⟩
            obtain ⟨g9, hg9⟩ : ∃ t, U8.heap.size = t := ⟨_, rfl⟩
            rw [hU9, hg9] at ST9
            rw [hU9] at hHeld9
            rw [hU9, hg9]
            clear hU9 hg9
            obtain ⟨fz12, -⟩ := (ST9.out.2.2.2.1 g7 rfl).1
            obtain ⟨h0, h1, h2, h3, h4⟩ := HopAt.cells (ST9.out.2.2.2.1 g7 rfl).1
            have z0 := fz12 0
            have z1 := fz12 1
            have z2 := fz12 2
            have z3 := fz12 3
            have z4 := fz12 4
            have P12 : Hid (_ ∧ _ ∧ _ ∧ _ ∧ _) := ST9.out.putH xk xn xu xd xid
            unfold YtckfplpiakbbdaaGreatDoor.putH at P12
            refine wpAnyH_ready (rs := [12]) (by kernel_rfl) (by simp) ?_
            refine AllReadyH.cons (o := opa12) rfl (fun KK hKK => ?_) AllReadyH.nil
            unfold opa12
            go_simp
            refine hKK.out _ _ P12.out.1 (fun hHeldA => ?_)
            clear hKK KK h0 h1 h2 h3 h4 z0 z1 z2 z3 z4 fz12 hHeld9 ST9
            obtain ⟨Y, hY⟩ : ∃ Y, ((((U9.setCell ⟨g7, 0, none⟩ (.int .i64 xk)).setCell ⟨g7, 1, none⟩ (.int .i64 xn)).setCell ⟨g7, 2, none⟩ (.int .i64 xu)).setCell ⟨g7, 3, none⟩ (.int .i64 xd)).setCell ⟨g7, 4, none⟩ (.string xid) = Y := ⟨_, rfl⟩
            rw [hY] at P12 hHeldA
            rw [hY]
            clear hY
            refine wpAnyH_take (i := 13) (oi := opa13) (v := ?_) rfl (by kernel_rfl) (by kernel_rfl) (by kernel_rfl) (fun _ _ _ h => h) (Or.inl ⟨by rfl, ?_⟩) (by assumption) ?_
            rotate_left
            · intro w' hSw
              clear hSw
              unfold opa13
              first
              | (go_simp; done)
              | (go_simp; with_reducible rfl)
            simp only [opa13, Act.put, List.setIfInBounds_toArray, List.set_cons_zero, List.set_cons_succ]
            obtain ⟨fz14, h0, h1, h2, h3, h4⟩ := P12.out.2.1
            have z0 := fz14 0
            have z1 := fz14 1
            have z2 := fz14 2
            have z3 := fz14 3
            have z4 := fz14 4
            have P14 : Hid (_ ∧ _ ∧ _ ∧ _ ∧ _) := putK_fin P12.out k0 k1 k2 k3 k4
            unfold YtckfplpiakbbdaaGreatDoor.putK at P14
            refine wpAnyH_ready (rs := [14]) (by kernel_rfl) (by simp) ?_
            refine AllReadyH.cons (o := opa14) rfl (fun KK hKK => ?_) AllReadyH.nil
            unfold opa14
            go_simp
            refine hKK.out _ _ P14.out.1 (fun hHeldB => ?_)
            clear hKK KK h0 h1 h2 h3 h4 z0 z1 z2 z3 z4 fz14 hHeldA P12
            obtain ⟨Y2, hY2⟩ : ∃ Y2, ((((Y.setCell ⟨g9, 0, none⟩ (.string k0)).setCell ⟨g9, 1, none⟩ (.string k1)).setCell ⟨g9, 2, none⟩ (.string k2)).setCell ⟨g9, 3, none⟩ (.string k3)).setCell ⟨g9, 4, none⟩ (.string k4) = Y2 := ⟨_, rfl⟩
            rw [hY2] at P14 hHeldB
            rw [hY2]
            clear hY2
            refine wpAnyH_take (i := 15) (oi := opa15) (v := ?_) rfl (by kernel_rfl) (by kernel_rfl) (by kernel_rfl) (fun _ _ _ h => h) (Or.inl ⟨by rfl, ?_⟩) (by assumption) ?_
            rotate_left
            · intro w' hSw
              clear hSw
              unfold opa15
              first
              | (go_simp; done)
              | (go_simp; with_reducible rfl)
            simp only [opa15, Act.put, List.setIfInBounds_toArray, List.set_cons_zero, List.set_cons_succ]
            refine wpAnyH_done (by kernel_rfl) ?_ _
            refine NoPanic.normal ?_
            exact KEY g7 g9 Y2 P14.out
        ·
          unfold opa11
          go_simp
          have ST10 : Hid (Stw w (U7.alloc (.cells #[.string ⟨#[]⟩, .string ⟨#[]⟩, .string ⟨#[]⟩, .string ⟨#[]⟩, .string ⟨#[]⟩] 23)) gb BL (some g7) (some U7.heap.size)) := ST7.out.keys
          refine hKK.out _ _ ST10.out.1 (fun hHeld10 => ?_)
          clear hKK KK hHeld7 ST7
          obtain ⟨U10, hU10⟩ : ∃ X, U7.alloc (.cells #[.string ⟨#[]⟩, .string ⟨#[]⟩, .string ⟨#[]⟩, .string ⟨#[]⟩, .string ⟨#[]⟩] 23) = X := ⟨_, rfl⟩
          obtain ⟨g10, hg10⟩ : ∃ t, U7.heap.size = t := ⟨_, rfl⟩
          rw [hU10, hg10] at ST10
          rw [hU10] at hHeld10
          rw [hU10, hg10]
          clear hU10 hg10
          refine wpAnyH_ready (rs := [4]) (by kernel_rfl) (by simp) ?_
          refine AllReadyH.cons (o := opa4) rfl (fun KK hKK => ?_) AllReadyH.nil
          ·
            unfold opa4
            go_simp
            refine Calls.mono (PE'.out _ (hK.out.later ST10.out.2.1)) ?_
            rintro e U11 ⟨rfl, hb⟩
            have ST11 : Hid (Stw w U11 gb BL (some g7) (some g10)) := ST10.out.later hb
            refine hKK.out _ _ ST11.out.1 (fun hHeld11 => ?_)
            clear hKK KK hb hHeld10 ST10
            refine wpAnyH_take (i := 5) (oi := opa5) (v := ?_) rfl (by kernel_rfl) (by kernel_rfl) (by kernel_rfl) (fun _ _ _ h => h) (Or.inl ⟨by rfl, ?_⟩) (by assumption) ?_
            rotate_left
            · intro w' hSw
              clear hSw
              unfold opa5
              first
              | (go_simp; done)
              | (go_simp; with_reducible rfl)
            simp only [opa5, Act.put, List.setIfInBounds_toArray, List.set_cons_zero, List.set_cons_succ]
            refine wpAnyH_take (i := 6) (oi := opa6) (v := ?_) rfl (by kernel_rfl) (by kernel_rfl) (by kernel_rfl) (fun _ _ _ h => h) (Or.inl ⟨by rfl, ?_⟩) (by assumption) ?_
            rotate_left
            · intro w' hSw
              clear hSw
              unfold opa6
              first
              | (go_simp; done)
              | (go_simp; with_reducible rfl)
            simp only [opa6, Act.put, List.setIfInBounds_toArray, List.set_cons_zero, List.set_cons_succ]
            refine wpAnyH_take (i := 7) (oi := opa7) (v := ?_) rfl (by kernel_rfl) (by kernel_rfl) (by kernel_rfl) (fun _ _ _ h => h) (Or.inl ⟨by rfl, ?_⟩) (by assumption) ?_
            rotate_left
            · intro w' hSw
              clear hSw
              unfold opa7
              first
              | (go_simp; done)
              | (go_simp; with_reducible rfl)
            simp only [opa7, Act.put, List.setIfInBounds_toArray, List.set_cons_zero, List.set_cons_succ]
            refine wpAnyH_take (i := 8) (oi := opa8) (v := ?_) rfl (by kernel_rfl) (by kernel_rfl) (by kernel_rfl) (fun _ _ _ h => h) (Or.inl ⟨by rfl, ?_⟩) (by assumption) ?_
            rotate_left
            · intro w' hSw
              clear hSw
              unfold opa8
              first
              | (go_simp; done)
              | (go_simp; with_reducible rfl)
            simp only [opa8, Act.put, List.setIfInBounds_toArray, List.set_cons_zero, List.set_cons_succ]
            refine wpAnyH_take (i := 9) (oi := opa9) (v := ?_) rfl (by kernel_rfl) (by kernel_rfl) (by kernel_rfl) (fun _ _ _ h => h) (Or.inl ⟨by rfl, ?_⟩) (by assumption) ?_
            rotate_left
            · intro w' hSw
              clear hSw
              unfold opa9
              first
              | (go_simp; done)
              | (go_simp; with_reducible rfl)
            simp only [opa9, Act.put, List.setIfInBounds_toArray, List.set_cons_zero, List.set_cons_succ]
            obtain ⟨fz12, -⟩ := (ST11.out.2.2.2.1 g7 rfl).1
            obtain ⟨h0, h1, h2, h3, h4⟩ := HopAt.cells (ST11.out.2.2.2.1 g7 rfl).1
            have z0 := fz12 0
            have z1 := fz12 1
            have z2 := fz12 2
            have z3 := fz12 3
            have z4 := fz12 4
            have P12 : Hid (_ ∧ _ ∧ _ ∧ _ ∧ _) := ST11.out.putH xk xn xu xd xid
            unfold YtckfplpiakbbdaaGreatDoor.putH at P12
            refine wpAnyH_ready (rs := [12]) (by kernel_rfl) (by simp) ?_
            refine AllReadyH.cons (o := opa12) rfl (fun KK hKK => ?_) AllReadyH.nil
            unfold opa12
            go_simp
            refine hKK.out _ _ P12.out.1 (fun hHeldA => ?_)
            clear hKK KK h0 h1 h2 h3 h4 z0 z1 z2 z3 z4 fz12 hHeld11 ST11
            obtain ⟨Y, hY⟩ : ∃ Y, ((((U11.setCell ⟨g7, 0, none⟩ (.int .i64 xk)).setCell ⟨g7, 1, none⟩ (.int .i64 xn)).setCell ⟨g7, 2, none⟩ (.int .i64 xu)).setCell ⟨g7, 3, none⟩ (.int .i64 xd)).setCell ⟨g7, 4, none⟩ (.string xid) = Y := ⟨_, rfl⟩
            rw [hY] at P12 hHeldA
            rw [hY]
            clear hY
            refine wpAnyH_take (i := 13) (oi := opa13) (v := ?_) rfl (by kernel_rfl) (by kernel_rfl) (by kernel_rfl) (fun _ _ _ h => h) (Or.inl ⟨by rfl, ?_⟩) (by assumption) ?_
            rotate_left
            · intro w' hSw
              clear hSw
              unfold opa13
              first
              | (go_simp; done)
              | (go_simp; with_reducible rfl)
            simp only [opa13, Act.put, List.setIfInBounds_toArray, List.set_cons_zero, List.set_cons_succ]
            obtain ⟨fz14, h0, h1, h2, h3, h4⟩ := P12.out.2.1
            have z0 := fz14 0
            have z1 := fz14 1
            have z2 := fz14 2
            have z3 := fz14 3
            have z4 := fz14 4
            have P14 : Hid (_ ∧ _ ∧ _ ∧ _ ∧ _) := putK_fin P12.out k0 k1 k2 k3 k4
            unfold YtckfplpiakbbdaaGreatDoor.putK at P14
            refine wpAnyH_ready (rs := [14]) (by kernel_rfl) (by simp) ?_
            refine AllReadyH.cons (o := opa14) rfl (fun KK hKK => ?_) AllReadyH.nil
            unfold opa14
            go_simp
            refine hKK.out _ _ P14.out.1 (fun hHeldB => ?_)
            clear hKK KK h0 h1 h2 h3 h4 z0 z1 z2 z3 z4 fz14 hHeldA P12
            obtain ⟨Y2, hY2⟩ : ∃ Y2, ((((Y.setCell ⟨g10, 0, none⟩ (.string k0)).setCell ⟨g10, 1, none⟩ (.string k1)).setCell ⟨g10, 2, none⟩ (.string k2)).setCell ⟨g10, 3, none⟩ (.string k3)).setCell ⟨g10, 4, none⟩ (.string k4) = Y2 := ⟨_, rfl⟩
            rw [hY2] at P14 hHeldB
            rw [hY2]
            clear hY2
            refine wpAnyH_take (i := 15) (oi := opa15) (v := ?_) rfl (by kernel_rfl) (by kernel_rfl) (by kernel_rfl) (fun _ _ _ h => h) (Or.inl ⟨by rfl, ?_⟩) (by assumption) ?_
            rotate_left
            · intro w' hSw
              clear hSw
              unfold opa15
              first
              | (go_simp; done)
              | (go_simp; with_reducible rfl)
            simp only [opa15, Act.put, List.setIfInBounds_toArray, List.set_cons_zero, List.set_cons_succ]
            refine wpAnyH_done (by kernel_rfl) ?_ _
            refine NoPanic.normal ?_
            exact KEY g7 g10 Y2 P14.out
      ·
        unfold opa11
        go_simp
        have ST12 : Hid (Stw w (U1.alloc (.cells #[.string ⟨#[]⟩, .string ⟨#[]⟩, .string ⟨#[]⟩, .string ⟨#[]⟩, .string ⟨#[]⟩] 23)) gb BL none (some U1.heap.size)) := ST1.out.keys
        refine hKK.out _ _ ST12.out.1 (fun hHeld12 => ?_)
        clear hKK KK hHeld1 ST1
        obtain ⟨U12, hU12⟩ : ∃ X, U1.alloc (.cells #[.string ⟨#[]⟩, .string ⟨#[]⟩, .string ⟨#[]⟩, .string ⟨#[]⟩, .string ⟨#[]⟩] 23) = X := ⟨_, rfl⟩
        obtain ⟨g12, hg12⟩ : ∃ t, U1.heap.size = t := ⟨_, rfl⟩
        rw [hU12, hg12] at ST12
        rw [hU12] at hHeld12
        rw [hU12, hg12]
        clear hU12 hg12
        refine wpAnyH_ready (rs := [4, 10]) (by kernel_rfl) (by simp) ?_
        refine AllReadyH.cons (o := opa4) rfl (fun KK hKK => ?_) (AllReadyH.cons (o := opa10) rfl (fun KK hKK => ?_) AllReadyH.nil)
        ·
          unfold opa4
          go_simp
          refine Calls.mono (PE'.out _ (hK.out.later ST12.out.2.1)) ?_
          rintro e U13 ⟨rfl, hb⟩
          have ST13 : Hid (Stw w U13 gb BL none (some g12)) := ST12.out.later hb
          refine hKK.out _ _ ST13.out.1 (fun hHeld13 => ?_)
          clear hKK KK hb hHeld12 ST12
          refine wpAnyH_take (i := 5) (oi := opa5) (v := ?_) rfl (by kernel_rfl) (by kernel_rfl) (by kernel_rfl) (fun _ _ _ h => h) (Or.inl ⟨by rfl, ?_⟩) (by assumption) ?_
          rotate_left
          · intro w' hSw
            clear hSw
            unfold opa5
            first
            | (go_simp; done)
            | (go_simp; with_reducible rfl)
          simp only [opa5, Act.put, List.setIfInBounds_toArray, List.set_cons_zero, List.set_cons_succ]
          refine wpAnyH_take (i := 6) (oi := opa6) (v := ?_) rfl (by kernel_rfl) (by kernel_rfl) (by kernel_rfl) (fun _ _ _ h => h) (Or.inl ⟨by rfl, ?_⟩) (by assumption) ?_
          rotate_left
          · intro w' hSw
            clear hSw
            unfold opa6
            first
            | (go_simp; done)
            | (go_simp; with_reducible rfl)
          simp only [opa6, Act.put, List.setIfInBounds_toArray, List.set_cons_zero, List.set_cons_succ]
          refine wpAnyH_take (i := 7) (oi := opa7) (v := ?_) rfl (by kernel_rfl) (by kernel_rfl) (by kernel_rfl) (fun _ _ _ h => h) (Or.inl ⟨by rfl, ?_⟩) (by assumption) ?_
          rotate_left
          · intro w' hSw
            clear hSw
            unfold opa7
            first
            | (go_simp; done)
            | (go_simp; with_reducible rfl)
          simp only [opa7, Act.put, List.setIfInBounds_toArray, List.set_cons_zero, List.set_cons_succ]
          refine wpAnyH_take (i := 8) (oi := opa8) (v := ?_) rfl (by kernel_rfl) (by kernel_rfl) (by kernel_rfl) (fun _ _ _ h => h) (Or.inl ⟨by rfl, ?_⟩) (by assumption) ?_
          rotate_left
          · intro w' hSw
            clear hSw
            unfold opa8
            first
            | (go_simp; done)
            | (go_simp; with_reducible rfl)
          simp only [opa8, Act.put, List.setIfInBounds_toArray, List.set_cons_zero, List.set_cons_succ]
          refine wpAnyH_take (i := 9) (oi := opa9) (v := ?_) rfl (by kernel_rfl) (by kernel_rfl) (by kernel_rfl) (fun _ _ _ h => h) (Or.inl ⟨by rfl, ?_⟩) (by assumption) ?_
          rotate_left
          · intro w' hSw
            clear hSw
            unfold opa9
            first
            | (go_simp; done)
            | (go_simp; with_reducible rfl)
          simp only [opa9, Act.put, List.setIfInBounds_toArray, List.set_cons_zero, List.set_cons_succ]
          refine wpAnyH_ready (rs := [10]) (by kernel_rfl) (by simp) ?_
          refine AllReadyH.cons (o := opa10) rfl (fun KK hKK => ?_) AllReadyH.nil
          ·
            unfold opa10
            go_simp
            have ST14 : Hid (Stw w (U13.alloc (.cells #[.int .i64 0, .int .i64 0, .int .i64 0, .int .i64 0, .string ⟨#[]⟩] 37)) gb BL (some U13.heap.size) (some g12)) := ST13.out.hop
            refine hKK.out _ _ ST14.out.1 (fun hHeld14 => ?_)
            clear hKK KK hHeld13 ST13
            obtain ⟨U14, hU14⟩ : ∃ X, U13.alloc (.cells #[.int .i64 0, .int .i64 0, .int .i64 0, .int .i64 0, .string ⟨#[]⟩] 37) = X := ⟨_, rfl⟩
            obtain ⟨g14, hg14⟩ : ∃ t, U13.heap.size = t := ⟨_, rfl⟩
            rw [hU14, hg14] at ST14
            rw [hU14] at hHeld14
            rw [hU14, hg14]
            clear hU14 hg14
            obtain ⟨fz12, -⟩ := (ST14.out.2.2.2.1 g14 rfl).1
            obtain ⟨h0, h1, h2, h3, h4⟩ := HopAt.cells (ST14.out.2.2.2.1 g14 rfl).1
            have z0 := fz12 0
            have z1 := fz12 1
            have z2 := fz12 2
            have z3 := fz12 3
            have z4 := fz12 4
            have P12 : Hid (_ ∧ _ ∧ _ ∧ _ ∧ _) := ST14.out.putH xk xn xu xd xid
            unfold YtckfplpiakbbdaaGreatDoor.putH at P12
            refine wpAnyH_ready (rs := [12]) (by kernel_rfl) (by simp) ?_
            refine AllReadyH.cons (o := opa12) rfl (fun KK hKK => ?_) AllReadyH.nil
            unfold opa12
            go_simp
            refine hKK.out _ _ P12.out.1 (fun hHeldA => ?_)
            clear hKK KK h0 h1 h2 h3 h4 z0 z1 z2 z3 z4 fz12 hHeld14 ST14
            obtain ⟨Y, hY⟩ : ∃ Y, ((((U14.setCell ⟨g14, 0, none⟩ (.int .i64 xk)).setCell ⟨g14, 1, none⟩ (.int .i64 xn)).setCell ⟨g14, 2, none⟩ (.int .i64 xu)).setCell ⟨g14, 3, none⟩ (.int .i64 xd)).setCell ⟨g14, 4, none⟩ (.string xid) = Y := ⟨_, rfl⟩
            rw [hY] at P12 hHeldA
            rw [hY]
            clear hY
            refine wpAnyH_take (i := 13) (oi := opa13) (v := ?_) rfl (by kernel_rfl) (by kernel_rfl) (by kernel_rfl) (fun _ _ _ h => h) (Or.inl ⟨by rfl, ?_⟩) (by assumption) ?_
            rotate_left
            · intro w' hSw
              clear hSw
              unfold opa13
              first
              | (go_simp; done)
              | (go_simp; with_reducible rfl)
            simp only [opa13, Act.put, List.setIfInBounds_toArray, List.set_cons_zero, List.set_cons_succ]
            obtain ⟨fz14, h0, h1, h2, h3, h4⟩ := P12.out.2.1
            have z0 := fz14 0
            have z1 := fz14 1
            have z2 := fz14 2
            have z3 := fz14 3
            have z4 := fz14 4
            have P14 : Hid (_ ∧ _ ∧ _ ∧ _ ∧ _) := putK_fin P12.out k0 k1 k2 k3 k4
            unfold YtckfplpiakbbdaaGreatDoor.putK at P14
            refine wpAnyH_ready (rs := [14]) (by kernel_rfl) (by simp) ?_
            refine AllReadyH.cons (o := opa14) rfl (fun KK hKK => ?_) AllReadyH.nil
            unfold opa14
            go_simp
            refine hKK.out _ _ P14.out.1 (fun hHeldB => ?_)
            clear hKK KK h0 h1 h2 h3 h4 z0 z1 z2 z3 z4 fz14 hHeldA P12
            obtain ⟨Y2, hY2⟩ : ∃ Y2, ((((Y.setCell ⟨g12, 0, none⟩ (.string k0)).setCell ⟨g12, 1, none⟩ (.string k1)).setCell ⟨g12, 2, none⟩ (.string k2)).setCell ⟨g12, 3, none⟩ (.string k3)).setCell ⟨g12, 4, none⟩ (.string k4) = Y2 := ⟨_, rfl⟩
            rw [hY2] at P14 hHeldB
            rw [hY2]
            clear hY2
            refine wpAnyH_take (i := 15) (oi := opa15) (v := ?_) rfl (by kernel_rfl) (by kernel_rfl) (by kernel_rfl) (fun _ _ _ h => h) (Or.inl ⟨by rfl, ?_⟩) (by assumption) ?_
            rotate_left
            · intro w' hSw
              clear hSw
              unfold opa15
              first
              | (go_simp; done)
              | (go_simp; with_reducible rfl)
            simp only [opa15, Act.put, List.setIfInBounds_toArray, List.set_cons_zero, List.set_cons_succ]
            refine wpAnyH_done (by kernel_rfl) ?_ _
            refine NoPanic.normal ?_
            exact KEY g14 g12 Y2 P14.out
        ·
          unfold opa10
          go_simp
          have ST15 : Hid (Stw w (U12.alloc (.cells #[.int .i64 0, .int .i64 0, .int .i64 0, .int .i64 0, .string ⟨#[]⟩] 37)) gb BL (some U12.heap.size) (some g12)) := ST12.out.hop
          refine hKK.out _ _ ST15.out.1 (fun hHeld15 => ?_)
          clear hKK KK hHeld12 ST12
          obtain ⟨U15, hU15⟩ : ∃ X, U12.alloc (.cells #[.int .i64 0, .int .i64 0, .int .i64 0, .int .i64 0, .string ⟨#[]⟩] 37) = X := ⟨_, rfl⟩
          obtain ⟨g15, hg15⟩ : ∃ t, U12.heap.size = t := ⟨_, rfl⟩
          rw [hU15, hg15] at ST15
          rw [hU15] at hHeld15
          rw [hU15, hg15]
          clear hU15 hg15
          refine wpAnyH_ready (rs := [4]) (by kernel_rfl) (by simp) ?_
          refine AllReadyH.cons (o := opa4) rfl (fun KK hKK => ?_) AllReadyH.nil
          ·
            unfold opa4
            go_simp
            refine Calls.mono (PE'.out _ (hK.out.later ST15.out.2.1)) ?_
            rintro e U16 ⟨rfl, hb⟩
            have ST16 : Hid (Stw w U16 gb BL (some g15) (some g12)) := ST15.out.later hb
            refine hKK.out _ _ ST16.out.1 (fun hHeld16 => ?_)
            clear hKK KK hb hHeld15 ST15
            refine wpAnyH_take (i := 5) (oi := opa5) (v := ?_) rfl (by kernel_rfl) (by kernel_rfl) (by kernel_rfl) (fun _ _ _ h => h) (Or.inl ⟨by rfl, ?_⟩) (by assumption) ?_
            rotate_left
            · intro w' hSw
              clear hSw
              unfold opa5
              first
              | (go_simp; done)
              | (go_simp; with_reducible rfl)
            simp only [opa5, Act.put, List.setIfInBounds_toArray, List.set_cons_zero, List.set_cons_succ]
            refine wpAnyH_take (i := 6) (oi := opa6) (v := ?_) rfl (by kernel_rfl) (by kernel_rfl) (by kernel_rfl) (fun _ _ _ h => h) (Or.inl ⟨by rfl, ?_⟩) (by assumption) ?_
            rotate_left
            · intro w' hSw
              clear hSw
              unfold opa6
              first
              | (go_simp; done)
              | (go_simp; with_reducible rfl)
            simp only [opa6, Act.put, List.setIfInBounds_toArray, List.set_cons_zero, List.set_cons_succ]
            refine wpAnyH_take (i := 7) (oi := opa7) (v := ?_) rfl (by kernel_rfl) (by kernel_rfl) (by kernel_rfl) (fun _ _ _ h => h) (Or.inl ⟨by rfl, ?_⟩) (by assumption) ?_
            rotate_left
            · intro w' hSw
              clear hSw
              unfold opa7
              first
              | (go_simp; done)
              | (go_simp; with_reducible rfl)
            simp only [opa7, Act.put, List.setIfInBounds_toArray, List.set_cons_zero, List.set_cons_succ]
            refine wpAnyH_take (i := 8) (oi := opa8) (v := ?_) rfl (by kernel_rfl) (by kernel_rfl) (by kernel_rfl) (fun _ _ _ h => h) (Or.inl ⟨by rfl, ?_⟩) (by assumption) ?_
            rotate_left
            · intro w' hSw
              clear hSw
              unfold opa8
              first
              | (go_simp; done)
              | (go_simp; with_reducible rfl)
            simp only [opa8, Act.put, List.setIfInBounds_toArray, List.set_cons_zero, List.set_cons_succ]
            refine wpAnyH_take (i := 9) (oi := opa9) (v := ?_) rfl (by kernel_rfl) (by kernel_rfl) (by kernel_rfl) (fun _ _ _ h => h) (Or.inl ⟨by rfl, ?_⟩) (by assumption) ?_
            rotate_left
            · intro w' hSw
              clear hSw
              unfold opa9
              first
              | (go_simp; done)
              | (go_simp; with_reducible rfl)
            simp only [opa9, Act.put, List.setIfInBounds_toArray, List.set_cons_zero, List.set_cons_succ]
            obtain ⟨fz12, -⟩ := (ST16.out.2.2.2.1 g15 rfl).1
            obtain ⟨h0, h1, h2, h3, h4⟩ := HopAt.cells (ST16.out.2.2.2.1 g15 rfl).1
            have z0 := fz12 0
            have z1 := fz12 1
            have z2 := fz12 2
            have z3 := fz12 3
            have z4 := fz12 4
            have P12 : Hid (_ ∧ _ ∧ _ ∧ _ ∧ _) := ST16.out.putH xk xn xu xd xid
            unfold YtckfplpiakbbdaaGreatDoor.putH at P12
            refine wpAnyH_ready (rs := [12]) (by kernel_rfl) (by simp) ?_
            refine AllReadyH.cons (o := opa12) rfl (fun KK hKK => ?_) AllReadyH.nil
            unfold opa12
            go_simp
            refine hKK.out _ _ P12.out.1 (fun hHeldA => ?_)
            clear hKK KK h0 h1 h2 h3 h4 z0 z1 z2 z3 z4 fz12 hHeld16 ST16
            obtain ⟨Y, hY⟩ : ∃ Y, ((((U16.setCell ⟨g15, 0, none⟩ (.int .i64 xk)).setCell ⟨g15, 1, none⟩ (.int .i64 xn)).setCell ⟨g15, 2, none⟩ (.int .i64 xu)).setCell ⟨g15, 3, none⟩ (.int .i64 xd)).setCell ⟨g15, 4, none⟩ (.string xid) = Y := ⟨_, rfl⟩
            rw [hY] at P12 hHeldA
            rw [hY]
            clear hY
            refine wpAnyH_take (i := 13) (oi := opa13) (v := ?_) rfl (by kernel_rfl) (by kernel_rfl) (by kernel_rfl) (fun _ _ _ h => h) (Or.inl ⟨by rfl, ?_⟩) (by assumption) ?_
            rotate_left
            · intro w' hSw
              clear hSw
              unfold opa13
              first
              | (go_simp; done)
              | (go_simp; with_reducible rfl)
            simp only [opa13, Act.put, List.setIfInBounds_toArray, List.set_cons_zero, List.set_cons_succ]
            obtain ⟨fz14, h0, h1, h2, h3, h4⟩ := P12.out.2.1
            have z0 := fz14 0
            have z1 := fz14 1
            have z2 := fz14 2
            have z3 := fz14 3
            have z4 := fz14 4
            have P14 : Hid (_ ∧ _ ∧ _ ∧ _ ∧ _) := putK_fin P12.out k0 k1 k2 k3 k4
            unfold YtckfplpiakbbdaaGreatDoor.putK at P14
            refine wpAnyH_ready (rs := [14]) (by kernel_rfl) (by simp) ?_
            refine AllReadyH.cons (o := opa14) rfl (fun KK hKK => ?_) AllReadyH.nil
            unfold opa14
            go_simp
            refine hKK.out _ _ P14.out.1 (fun hHeldB => ?_)
            clear hKK KK h0 h1 h2 h3 h4 z0 z1 z2 z3 z4 fz14 hHeldA P12
            obtain ⟨Y2, hY2⟩ : ∃ Y2, ((((Y.setCell ⟨g12, 0, none⟩ (.string k0)).setCell ⟨g12, 1, none⟩ (.string k1)).setCell ⟨g12, 2, none⟩ (.string k2)).setCell ⟨g12, 3, none⟩ (.string k3)).setCell ⟨g12, 4, none⟩ (.string k4) = Y2 := ⟨_, rfl⟩
            rw [hY2] at P14 hHeldB
            rw [hY2]
            clear hY2
            refine wpAnyH_take (i := 15) (oi := opa15) (v := ?_) rfl (by kernel_rfl) (by kernel_rfl) (by kernel_rfl) (fun _ _ _ h => h) (Or.inl ⟨by rfl, ?_⟩) (by assumption) ?_
            rotate_left
            · intro w' hSw
              clear hSw
              unfold opa15
              first
              | (go_simp; done)
              | (go_simp; with_reducible rfl)
            simp only [opa15, Act.put, List.setIfInBounds_toArray, List.set_cons_zero, List.set_cons_succ]
            refine wpAnyH_done (by kernel_rfl) ?_ _
            refine NoPanic.normal ?_
            exact KEY g15 g12 Y2 P14.out
    ·
      unfold opa10
      go_simp
      have ST17 : Hid (Stw w (D0.alloc (.cells #[.int .i64 0, .int .i64 0, .int .i64 0, .int .i64 0, .string ⟨#[]⟩] 37)) gb BL (some D0.heap.size) none) := STa.out.hop
      refine hKK.out _ _ ST17.out.1 (fun hHeld17 => ?_)
      clear hKK KK hHeld STa
      obtain ⟨U17, hU17⟩ : ∃ X, D0.alloc (.cells #[.int .i64 0, .int .i64 0, .int .i64 0, .int .i64 0, .string ⟨#[]⟩] 37) = X := ⟨_, rfl⟩
      obtain ⟨g17, hg17⟩ : ∃ t, D0.heap.size = t := ⟨_, rfl⟩
      rw [hU17, hg17] at ST17
      rw [hU17] at hHeld17
      rw [hU17, hg17]
      clear hU17 hg17
      refine wpAnyH_ready (rs := [1, 11]) (by kernel_rfl) (by simp) ?_
      refine AllReadyH.cons (o := opa1) rfl (fun KK hKK => ?_) (AllReadyH.cons (o := opa11) rfl (fun KK hKK => ?_) AllReadyH.nil)
      ·
        unfold opa1
        go_simp
        refine Calls.mono (V0.out _ (hK.out.later ST17.out.2.1)) ?_
        rintro e U18 ⟨rfl, hb⟩
        have ST18 : Hid (Stw w U18 gb BL (some g17) none) := ST17.out.later hb
        refine hKK.out _ _ ST18.out.1 (fun hHeld18 => ?_)
        clear hKK KK hb hHeld17 ST17
        refine wpAnyH_ready (rs := [4, 11]) (by kernel_rfl) (by simp) ?_
        refine AllReadyH.cons (o := opa4) rfl (fun KK hKK => ?_) (AllReadyH.cons (o := opa11) rfl (fun KK hKK => ?_) AllReadyH.nil)
        ·
          unfold opa4
          go_simp
          refine Calls.mono (PE'.out _ (hK.out.later ST18.out.2.1)) ?_
          rintro e U19 ⟨rfl, hb⟩
          have ST19 : Hid (Stw w U19 gb BL (some g17) none) := ST18.out.later hb
          refine hKK.out _ _ ST19.out.1 (fun hHeld19 => ?_)
          clear hKK KK hb hHeld18 ST18
          refine wpAnyH_take (i := 5) (oi := opa5) (v := ?_) rfl (by kernel_rfl) (by kernel_rfl) (by kernel_rfl) (fun _ _ _ h => h) (Or.inl ⟨by rfl, ?_⟩) (by assumption) ?_
          rotate_left
          · intro w' hSw
            clear hSw
            unfold opa5
            first
            | (go_simp; done)
            | (go_simp; with_reducible rfl)
          simp only [opa5, Act.put, List.setIfInBounds_toArray, List.set_cons_zero, List.set_cons_succ]
          refine wpAnyH_take (i := 6) (oi := opa6) (v := ?_) rfl (by kernel_rfl) (by kernel_rfl) (by kernel_rfl) (fun _ _ _ h => h) (Or.inl ⟨by rfl, ?_⟩) (by assumption) ?_
          rotate_left
          · intro w' hSw
            clear hSw
            unfold opa6
            first
            | (go_simp; done)
            | (go_simp; with_reducible rfl)
          simp only [opa6, Act.put, List.setIfInBounds_toArray, List.set_cons_zero, List.set_cons_succ]
          refine wpAnyH_take (i := 7) (oi := opa7) (v := ?_) rfl (by kernel_rfl) (by kernel_rfl) (by kernel_rfl) (fun _ _ _ h => h) (Or.inl ⟨by rfl, ?_⟩) (by assumption) ?_
          rotate_left
          · intro w' hSw
            clear hSw
            unfold opa7
            first
            | (go_simp; done)
            | (go_simp; with_reducible rfl)
          simp only [opa7, Act.put, List.setIfInBounds_toArray, List.set_cons_zero, List.set_cons_succ]
          refine wpAnyH_take (i := 8) (oi := opa8) (v := ?_) rfl (by kernel_rfl) (by kernel_rfl) (by kernel_rfl) (fun _ _ _ h => h) (Or.inl ⟨by rfl, ?_⟩) (by assumption) ?_
          rotate_left
          · intro w' hSw
            clear hSw
            unfold opa8
            first
            | (go_simp; done)
            | (go_simp; with_reducible rfl)
          simp only [opa8, Act.put, List.setIfInBounds_toArray, List.set_cons_zero, List.set_cons_succ]
          refine wpAnyH_take (i := 9) (oi := opa9) (v := ?_) rfl (by kernel_rfl) (by kernel_rfl) (by kernel_rfl) (fun _ _ _ h => h) (Or.inl ⟨by rfl, ?_⟩) (by assumption) ?_
          rotate_left
          · intro w' hSw
            clear hSw
            unfold opa9
            first
            | (go_simp; done)
            | (go_simp; with_reducible rfl)
          simp only [opa9, Act.put, List.setIfInBounds_toArray, List.set_cons_zero, List.set_cons_succ]
          refine wpAnyH_ready (rs := [11]) (by kernel_rfl) (by simp) ?_
          refine AllReadyH.cons (o := opa11) rfl (fun KK hKK => ?_) AllReadyH.nil
          ·
            unfold opa11
            go_simp
            have ST20 : Hid (Stw w (U19.alloc (.cells #[.string ⟨#[]⟩, .string ⟨#[]⟩, .string ⟨#[]⟩, .string ⟨#[]⟩, .string ⟨#[]⟩] 23)) gb BL (some g17) (some U19.heap.size)) := ST19.out.keys
            refine hKK.out _ _ ST20.out.1 (fun hHeld20 => ?_)
            clear hKK KK hHeld19 ST19
            obtain ⟨U20, hU20⟩ : ∃ X, U19.alloc (.cells #[.string ⟨#[]⟩, .string ⟨#[]⟩, .string ⟨#[]⟩, .string ⟨#[]⟩, .string ⟨#[]⟩] 23) = X := ⟨_, rfl⟩
            obtain ⟨g20, hg20⟩ : ∃ t, U19.heap.size = t := ⟨_, rfl⟩
            rw [hU20, hg20] at ST20
            rw [hU20] at hHeld20
            rw [hU20, hg20]
            clear hU20 hg20
            obtain ⟨fz12, -⟩ := (ST20.out.2.2.2.1 g17 rfl).1
            obtain ⟨h0, h1, h2, h3, h4⟩ := HopAt.cells (ST20.out.2.2.2.1 g17 rfl).1
            have z0 := fz12 0
            have z1 := fz12 1
            have z2 := fz12 2
            have z3 := fz12 3
            have z4 := fz12 4
            have P12 : Hid (_ ∧ _ ∧ _ ∧ _ ∧ _) := ST20.out.putH xk xn xu xd xid
            unfold YtckfplpiakbbdaaGreatDoor.putH at P12
            refine wpAnyH_ready (rs := [12]) (by kernel_rfl) (by simp) ?_
            refine AllReadyH.cons (o := opa12) rfl (fun KK hKK => ?_) AllReadyH.nil
            unfold opa12
            go_simp
            refine hKK.out _ _ P12.out.1 (fun hHeldA => ?_)
            clear hKK KK h0 h1 h2 h3 h4 z0 z1 z2 z3 z4 fz12 hHeld20 ST20
            obtain ⟨Y, hY⟩ : ∃ Y, ((((U20.setCell ⟨g17, 0, none⟩ (.int .i64 xk)).setCell ⟨g17, 1, none⟩ (.int .i64 xn)).setCell ⟨g17, 2, none⟩ (.int .i64 xu)).setCell ⟨g17, 3, none⟩ (.int .i64 xd)).setCell ⟨g17, 4, none⟩ (.string xid) = Y := ⟨_, rfl⟩
            rw [hY] at P12 hHeldA
            rw [hY]
            clear hY
            refine wpAnyH_take (i := 13) (oi := opa13) (v := ?_) rfl (by kernel_rfl) (by kernel_rfl) (by kernel_rfl) (fun _ _ _ h => h) (Or.inl ⟨by rfl, ?_⟩) (by assumption) ?_
            rotate_left
            · intro w' hSw
              clear hSw
              unfold opa13
              first
              | (go_simp; done)
              | (go_simp; with_reducible rfl)
            simp only [opa13, Act.put, List.setIfInBounds_toArray, List.set_cons_zero, List.set_cons_succ]
            obtain ⟨fz14, h0, h1, h2, h3, h4⟩ := P12.out.2.1
            have z0 := fz14 0
            have z1 := fz14 1
            have z2 := fz14 2
            have z3 := fz14 3
            have z4 := fz14 4
            have P14 : Hid (_ ∧ _ ∧ _ ∧ _ ∧ _) := putK_fin P12.out k0 k1 k2 k3 k4
            unfold YtckfplpiakbbdaaGreatDoor.putK at P14
            refine wpAnyH_ready (rs := [14]) (by kernel_rfl) (by simp) ?_
            refine AllReadyH.cons (o := opa14) rfl (fun KK hKK => ?_) AllReadyH.nil
            unfold opa14
            go_simp
            refine hKK.out _ _ P14.out.1 (fun hHeldB => ?_)
            clear hKK KK h0 h1 h2 h3 h4 z0 z1 z2 z3 z4 fz14 hHeldA P12
            obtain ⟨Y2, hY2⟩ : ∃ Y2, ((((Y.setCell ⟨g20, 0, none⟩ (.string k0)).setCell ⟨g20, 1, none⟩ (.string k1)).setCell ⟨g20, 2, none⟩ (.string k2)).setCell ⟨g20, 3, none⟩ (.string k3)).setCell ⟨g20, 4, none⟩ (.string k4) = Y2 := ⟨_, rfl⟩
            rw [hY2] at P14 hHeldB
            rw [hY2]
            clear hY2
            refine wpAnyH_take (i := 15) (oi := opa15) (v := ?_) rfl (by kernel_rfl) (by kernel_rfl) (by kernel_rfl) (fun _ _ _ h => h) (Or.inl ⟨by rfl, ?_⟩) (by assumption) ?_
            rotate_left
            · intro w' hSw
              clear hSw
              unfold opa15
              first
              | (go_simp; done)
              | (go_simp; with_reducible rfl)
            simp only [opa15, Act.put, List.setIfInBounds_toArray, List.set_cons_zero, List.set_cons_succ]
            refine wpAnyH_done (by kernel_rfl) ?_ _
            refine NoPanic.normal ?_
            exact KEY g17 g20 Y2 P14.out
        ·
          unfold opa11
          go_simp
          have ST21 : Hid (Stw w (U18.alloc (.cells #[.string ⟨#[]⟩, .string ⟨#[]⟩, .string ⟨#[]⟩, .string ⟨#[]⟩, .string ⟨#[]⟩] 23)) gb BL (some g17) (some U18.heap.size)) := ST18.out.keys
          refine hKK.out _ _ ST21.out.1 (fun hHeld21 => ?_)
          clear hKK KK hHeld18 ST18
          obtain ⟨U21, hU21⟩ : ∃ X, U18.alloc (.cells #[.string ⟨#[]⟩, .string ⟨#[]⟩, .string ⟨#[]⟩, .string ⟨#[]⟩, .string ⟨#[]⟩] 23) = X := ⟨_, rfl⟩
          obtain ⟨g21, hg21⟩ : ∃ t, U18.heap.size = t := ⟨_, rfl⟩
          rw [hU21, hg21] at ST21
          rw [hU21] at hHeld21
          rw [hU21, hg21]
          clear hU21 hg21
          refine wpAnyH_ready (rs := [4]) (by kernel_rfl) (by simp) ?_
          refine AllReadyH.cons (o := opa4) rfl (fun KK hKK => ?_) AllReadyH.nil
          ·
            unfold opa4
            go_simp
            refine Calls.mono (PE'.out _ (hK.out.later ST21.out.2.1)) ?_
            rintro e U22 ⟨rfl, hb⟩
            have ST22 : Hid (Stw w U22 gb BL (some g17) (some g21)) := ST21.out.later hb
            refine hKK.out _ _ ST22.out.1 (fun hHeld22 => ?_)
            clear hKK KK hb hHeld21 ST21
            refine wpAnyH_take (i := 5) (oi := opa5) (v := ?_) rfl (by kernel_rfl) (by kernel_rfl) (by kernel_rfl) (fun _ _ _ h => h) (Or.inl ⟨by rfl, ?_⟩) (by assumption) ?_
            rotate_left
            · intro w' hSw
              clear hSw
              unfold opa5
              first
              | (go_simp; done)
              | (go_simp; with_reducible rfl)
            simp only [opa5, Act.put, List.setIfInBounds_toArray, List.set_cons_zero, List.set_cons_succ]
            refine wpAnyH_take (i := 6) (oi := opa6) (v := ?_) rfl (by kernel_rfl) (by kernel_rfl) (by kernel_rfl) (fun _ _ _ h => h) (Or.inl ⟨by rfl, ?_⟩) (by assumption) ?_
            rotate_left
            · intro w' hSw
              clear hSw
              unfold opa6
              first
              | (go_simp; done)
              | (go_simp; with_reducible rfl)
            simp only [opa6, Act.put, List.setIfInBounds_toArray, List.set_cons_zero, List.set_cons_succ]
            refine wpAnyH_take (i := 7) (oi := opa7) (v := ?_) rfl (by kernel_rfl) (by kernel_rfl) (by kernel_rfl) (fun _ _ _ h => h) (Or.inl ⟨by rfl, ?_⟩) (by assumption) ?_
            rotate_left
            · intro w' hSw
              clear hSw
              unfold opa7
              first
              | (go_simp; done)
              | (go_simp; with_reducible rfl)
            simp only [opa7, Act.put, List.setIfInBounds_toArray, List.set_cons_zero, List.set_cons_succ]
            refine wpAnyH_take (i := 8) (oi := opa8) (v := ?_) rfl (by kernel_rfl) (by kernel_rfl) (by kernel_rfl) (fun _ _ _ h => h) (Or.inl ⟨by rfl, ?_⟩) (by assumption) ?_
            rotate_left
            · intro w' hSw
              clear hSw
              unfold opa8
              first
              | (go_simp; done)
              | (go_simp; with_reducible rfl)
            simp only [opa8, Act.put, List.setIfInBounds_toArray, List.set_cons_zero, List.set_cons_succ]
            refine wpAnyH_take (i := 9) (oi := opa9) (v := ?_) rfl (by kernel_rfl) (by kernel_rfl) (by kernel_rfl) (fun _ _ _ h => h) (Or.inl ⟨by rfl, ?_⟩) (by assumption) ?_
            rotate_left
            · intro w' hSw
              clear hSw
              unfold opa9
              first
              | (go_simp; done)
              | (go_simp; with_reducible rfl)
            simp only [opa9, Act.put, List.setIfInBounds_toArray, List.set_cons_zero, List.set_cons_succ]
            obtain ⟨fz12, -⟩ := (ST22.out.2.2.2.1 g17 rfl).1
            obtain ⟨h0, h1, h2, h3, h4⟩ := HopAt.cells (ST22.out.2.2.2.1 g17 rfl).1
            have z0 := fz12 0
            have z1 := fz12 1
            have z2 := fz12 2
            have z3 := fz12 3
            have z4 := fz12 4
            have P12 : Hid (_ ∧ _ ∧ _ ∧ _ ∧ _) := ST22.out.putH xk xn xu xd xid
            unfold YtckfplpiakbbdaaGreatDoor.putH at P12
            refine wpAnyH_ready (rs := [12]) (by kernel_rfl) (by simp) ?_
            refine AllReadyH.cons (o := opa12) rfl (fun KK hKK => ?_) AllReadyH.nil
            unfold opa12
            go_simp
            refine hKK.out _ _ P12.out.1 (fun hHeldA => ?_)
            clear hKK KK h0 h1 h2 h3 h4 z0 z1 z2 z3 z4 fz12 hHeld22 ST22
            obtain ⟨Y, hY⟩ : ∃ Y, ((((U22.setCell ⟨g17, 0, none⟩ (.int .i64 xk)).setCell ⟨g17, 1, none⟩ (.int .i64 xn)).setCell ⟨g17, 2, none⟩ (.int .i64 xu)).setCell ⟨g17, 3, none⟩ (.int .i64 xd)).setCell ⟨g17, 4, none⟩ (.string xid) = Y := ⟨_, rfl⟩
            rw [hY] at P12 hHeldA
            rw [hY]
            clear hY
            refine wpAnyH_take (i := 13) (oi := opa13) (v := ?_) rfl (by kernel_rfl) (by kernel_rfl) (by kernel_rfl) (fun _ _ _ h => h) (Or.inl ⟨by rfl, ?_⟩) (by assumption) ?_
            rotate_left
            · intro w' hSw
              clear hSw
              unfold opa13
              first
              | (go_simp; done)
              | (go_simp; with_reducible rfl)
            simp only [opa13, Act.put, List.setIfInBounds_toArray, List.set_cons_zero, List.set_cons_succ]
            obtain ⟨fz14, h0, h1, h2, h3, h4⟩ := P12.out.2.1
            have z0 := fz14 0
            have z1 := fz14 1
            have z2 := fz14 2
            have z3 := fz14 3
            have z4 := fz14 4
            have P14 : Hid (_ ∧ _ ∧ _ ∧ _ ∧ _) := putK_fin P12.out k0 k1 k2 k3 k4
            unfold YtckfplpiakbbdaaGreatDoor.putK at P14
            refine wpAnyH_ready (rs := [14]) (by kernel_rfl) (by simp) ?_
            refine AllReadyH.cons (o := opa14) rfl (fun KK hKK => ?_) AllReadyH.nil
            unfold opa14
            go_simp
            refine hKK.out _ _ P14.out.1 (fun hHeldB => ?_)
            clear hKK KK h0 h1 h2 h3 h4 z0 z1 z2 z3 z4 fz14 hHeldA P12
            obtain ⟨Y2, hY2⟩ : ∃ Y2, ((((Y.setCell ⟨g21, 0, none⟩ (.string k0)).setCell ⟨g21, 1, none⟩ (.string k1)).setCell ⟨g21, 2, none⟩ (.string k2)).setCell ⟨g21, 3, none⟩ (.string k3)).setCell ⟨g21, 4, none⟩ (.string k4) = Y2 := ⟨_, rfl⟩
            rw [hY2] at P14 hHeldB
            rw [hY2]
            clear hY2
            refine wpAnyH_take (i := 15) (oi := opa15) (v := ?_) rfl (by kernel_rfl) (by kernel_rfl) (by kernel_rfl) (fun _ _ _ h => h) (Or.inl ⟨by rfl, ?_⟩) (by assumption) ?_
            rotate_left
            · intro w' hSw
              clear hSw
              unfold opa15
              first
              | (go_simp; done)
              | (go_simp; with_reducible rfl)
            simp only [opa15, Act.put, List.setIfInBounds_toArray, List.set_cons_zero, List.set_cons_succ]
            refine wpAnyH_done (by kernel_rfl) ?_ _
            refine NoPanic.normal ?_
            exact KEY g17 g21 Y2 P14.out
      ·
        unfold opa11
        go_simp
        have ST23 : Hid (Stw w (U17.alloc (.cells #[.string ⟨#[]⟩, .string ⟨#[]⟩, .string ⟨#[]⟩, .string ⟨#[]⟩, .string ⟨#[]⟩] 23)) gb BL (some g17) (some U17.heap.size)) := ST17.out.keys
        refine hKK.out _ _ ST23.out.1 (fun hHeld23 => ?_)
        clear hKK KK hHeld17 ST17
        obtain ⟨U23, hU23⟩ : ∃ X, U17.alloc (.cells #[.string ⟨#[]⟩, .string ⟨#[]⟩, .string ⟨#[]⟩, .string ⟨#[]⟩, .string ⟨#[]⟩] 23) = X := ⟨_, rfl⟩
        obtain ⟨g23, hg23⟩ : ∃ t, U17.heap.size = t := ⟨_, rfl⟩
        rw [hU23, hg23] at ST23
        rw [hU23] at hHeld23
        rw [hU23, hg23]
        clear hU23 hg23
        refine wpAnyH_ready (rs := [1]) (by kernel_rfl) (by simp) ?_
        refine AllReadyH.cons (o := opa1) rfl (fun KK hKK => ?_) AllReadyH.nil
        ·
          unfold opa1
          go_simp
          refine Calls.mono (V0.out _ (hK.out.later ST23.out.2.1)) ?_
          rintro e U24 ⟨rfl, hb⟩
          have ST24 : Hid (Stw w U24 gb BL (some g17) (some g23)) := ST23.out.later hb
          refine hKK.out _ _ ST24.out.1 (fun hHeld24 => ?_)
          clear hKK KK hb hHeld23 ST23
          refine wpAnyH_ready (rs := [4]) (by kernel_rfl) (by simp) ?_
          refine AllReadyH.cons (o := opa4) rfl (fun KK hKK => ?_) AllReadyH.nil
          ·
            unfold opa4
            go_simp
            refine Calls.mono (PE'.out _ (hK.out.later ST24.out.2.1)) ?_
            rintro e U25 ⟨rfl, hb⟩
            have ST25 : Hid (Stw w U25 gb BL (some g17) (some g23)) := ST24.out.later hb
            refine hKK.out _ _ ST25.out.1 (fun hHeld25 => ?_)
            clear hKK KK hb hHeld24 ST24
            refine wpAnyH_take (i := 5) (oi := opa5) (v := ?_) rfl (by kernel_rfl) (by kernel_rfl) (by kernel_rfl) (fun _ _ _ h => h) (Or.inl ⟨by rfl, ?_⟩) (by assumption) ?_
            rotate_left
            · intro w' hSw
              clear hSw
              unfold opa5
              first
              | (go_simp; done)
              | (go_simp; with_reducible rfl)
            simp only [opa5, Act.put, List.setIfInBounds_toArray, List.set_cons_zero, List.set_cons_succ]
            refine wpAnyH_take (i := 6) (oi := opa6) (v := ?_) rfl (by kernel_rfl) (by kernel_rfl) (by kernel_rfl) (fun _ _ _ h => h) (Or.inl ⟨by rfl, ?_⟩) (by assumption) ?_
            rotate_left
            · intro w' hSw
              clear hSw
              unfold opa6
              first
              | (go_simp; done)
              | (go_simp; with_reducible rfl)
            simp only [opa6, Act.put, List.setIfInBounds_toArray, List.set_cons_zero, List.set_cons_succ]
            refine wpAnyH_take (i := 7) (oi := opa7) (v := ?_) rfl (by kernel_rfl) (by kernel_rfl) (by kernel_rfl) (fun _ _ _ h => h) (Or.inl ⟨by rfl, ?_⟩) (by assumption) ?_
            rotate_left
            · intro w' hSw
              clear hSw
              unfold opa7
              first
              | (go_simp; done)
              | (go_simp; with_reducible rfl)
            simp only [opa7, Act.put, List.setIfInBounds_toArray, List.set_cons_zero, List.set_cons_succ]
            refine wpAnyH_take (i := 8) (oi := opa8) (v := ?_) rfl (by kernel_rfl) (by kernel_rfl) (by kernel_rfl) (fun _ _ _ h => h) (Or.inl ⟨by rfl, ?_⟩) (by assumption) ?_
            rotate_left
            · intro w' hSw
              clear hSw
              unfold opa8
              first
              | (go_simp; done)
              | (go_simp; with_reducible rfl)
            simp only [opa8, Act.put, List.setIfInBounds_toArray, List.set_cons_zero, List.set_cons_succ]
            refine wpAnyH_take (i := 9) (oi := opa9) (v := ?_) rfl (by kernel_rfl) (by kernel_rfl) (by kernel_rfl) (fun _ _ _ h => h) (Or.inl ⟨by rfl, ?_⟩) (by assumption) ?_
            rotate_left
            · intro w' hSw
              clear hSw
              unfold opa9
              first
              | (go_simp; done)
              | (go_simp; with_reducible rfl)
            simp only [opa9, Act.put, List.setIfInBounds_toArray, List.set_cons_zero, List.set_cons_succ]
            obtain ⟨fz12, -⟩ := (ST25.out.2.2.2.1 g17 rfl).1
            obtain ⟨h0, h1, h2, h3, h4⟩ := HopAt.cells (ST25.out.2.2.2.1 g17 rfl).1
            have z0 := fz12 0
            have z1 := fz12 1
            have z2 := fz12 2
            have z3 := fz12 3
            have z4 := fz12 4
            have P12 : Hid (_ ∧ _ ∧ _ ∧ _ ∧ _) := ST25.out.putH xk xn xu xd xid
            unfold YtckfplpiakbbdaaGreatDoor.putH at P12
            refine wpAnyH_ready (rs := [12]) (by kernel_rfl) (by simp) ?_
            refine AllReadyH.cons (o := opa12) rfl (fun KK hKK => ?_) AllReadyH.nil
            unfold opa12
            go_simp
            refine hKK.out _ _ P12.out.1 (fun hHeldA => ?_)
            clear hKK KK h0 h1 h2 h3 h4 z0 z1 z2 z3 z4 fz12 hHeld25 ST25
            obtain ⟨Y, hY⟩ : ∃ Y, ((((U25.setCell ⟨g17, 0, none⟩ (.int .i64 xk)).setCell ⟨g17, 1, none⟩ (.int .i64 xn)).setCell ⟨g17, 2, none⟩ (.int .i64 xu)).setCell ⟨g17, 3, none⟩ (.int .i64 xd)).setCell ⟨g17, 4, none⟩ (.string xid) = Y := ⟨_, rfl⟩
            rw [hY] at P12 hHeldA
            rw [hY]
            clear hY
            refine wpAnyH_take (i := 13) (oi := opa13) (v := ?_) rfl (by kernel_rfl) (by kernel_rfl) (by kernel_rfl) (fun _ _ _ h => h) (Or.inl ⟨by rfl, ?_⟩) (by assumption) ?_
            rotate_left
            · intro w' hSw
              clear hSw
              unfold opa13
              first
              | (go_simp; done)
              | (go_simp; with_reducible rfl)
            simp only [opa13, Act.put, List.setIfInBounds_toArray, List.set_cons_zero, List.set_cons_succ]
            obtain ⟨fz14, h0, h1, h2, h3, h4⟩ := P12.out.2.1
            have z0 := fz14 0
            have z1 := fz14 1
            have z2 := fz14 2
            have z3 := fz14 3
            have z4 := fz14 4
            have P14 : Hid (_ ∧ _ ∧ _ ∧ _ ∧ _) := putK_fin P12.out k0 k1 k2 k3 k4
            unfold YtckfplpiakbbdaaGreatDoor.putK at P14
            refine wpAnyH_ready (rs := [14]) (by kernel_rfl) (by simp) ?_
            refine AllReadyH.cons (o := opa14) rfl (fun KK hKK => ?_) AllReadyH.nil
            unfold opa14
            go_simp
            refine hKK.out _ _ P14.out.1 (fun hHeldB => ?_)
            clear hKK KK h0 h1 h2 h3 h4 z0 z1 z2 z3 z4 fz14 hHeldA P12
            obtain ⟨Y2, hY2⟩ : ∃ Y2, ((((Y.setCell ⟨g23, 0, none⟩ (.string k0)).setCell ⟨g23, 1, none⟩ (.string k1)).setCell ⟨g23, 2, none⟩ (.string k2)).setCell ⟨g23, 3, none⟩ (.string k3)).setCell ⟨g23, 4, none⟩ (.string k4) = Y2 := ⟨_, rfl⟩
            rw [hY2] at P14 hHeldB
            rw [hY2]
            clear hY2
            refine wpAnyH_take (i := 15) (oi := opa15) (v := ?_) rfl (by kernel_rfl) (by kernel_rfl) (by kernel_rfl) (fun _ _ _ h => h) (Or.inl ⟨by rfl, ?_⟩) (by assumption) ?_
            rotate_left
            · intro w' hSw
              clear hSw
              unfold opa15
              first
              | (go_simp; done)
              | (go_simp; with_reducible rfl)
            simp only [opa15, Act.put, List.setIfInBounds_toArray, List.set_cons_zero, List.set_cons_succ]
            refine wpAnyH_done (by kernel_rfl) ?_ _
            refine NoPanic.normal ?_
            exact KEY g17 g23 Y2 P14.out
    ·
      unfold opa11
      go_simp
      have ST26 : Hid (Stw w (D0.alloc (.cells #[.string ⟨#[]⟩, .string ⟨#[]⟩, .string ⟨#[]⟩, .string ⟨#[]⟩, .string ⟨#[]⟩] 23)) gb BL none (some D0.heap.size)) := STa.out.keys
      refine hKK.out _ _ ST26.out.1 (fun hHeld26 => ?_)
      clear hKK KK hHeld STa
      obtain ⟨U26, hU26⟩ : ∃ X, D0.alloc (.cells #[.string ⟨#[]⟩, .string ⟨#[]⟩, .string ⟨#[]⟩, .string ⟨#[]⟩, .string ⟨#[]⟩] 23) = X := ⟨_, rfl⟩
      obtain ⟨g26, hg26⟩ : ∃ t, D0.heap.size = t := ⟨_, rfl⟩
      rw [hU26, hg26] at ST26
      rw [hU26] at hHeld26
      rw [hU26, hg26]
      clear hU26 hg26
      refine wpAnyH_ready (rs := [1, 10]) (by kernel_rfl) (by simp) ?_
      refine AllReadyH.cons (o := opa1) rfl (fun KK hKK => ?_) (AllReadyH.cons (o := opa10) rfl (fun KK hKK => ?_) AllReadyH.nil)
      ·
        unfold opa1
        go_simp
        refine Calls.mono (V0.out _ (hK.out.later ST26.out.2.1)) ?_
        rintro e U27 ⟨rfl, hb⟩
        have ST27 : Hid (Stw w U27 gb BL none (some g26)) := ST26.out.later hb
        refine hKK.out _ _ ST27.out.1 (fun hHeld27 => ?_)
        clear hKK KK hb hHeld26 ST26
        refine wpAnyH_ready (rs := [4, 10]) (by kernel_rfl) (by simp) ?_
        refine AllReadyH.cons (o := opa4) rfl (fun KK hKK => ?_) (AllReadyH.cons (o := opa10) rfl (fun KK hKK => ?_) AllReadyH.nil)
        ·
          unfold opa4
          go_simp
          refine Calls.mono (PE'.out _ (hK.out.later ST27.out.2.1)) ?_
          rintro e U28 ⟨rfl, hb⟩
          have ST28 : Hid (Stw w U28 gb BL none (some g26)) := ST27.out.later hb
          refine hKK.out _ _ ST28.out.1 (fun hHeld28 => ?_)
          clear hKK KK hb hHeld27 ST27
          refine wpAnyH_take (i := 5) (oi := opa5) (v := ?_) rfl (by kernel_rfl) (by kernel_rfl) (by kernel_rfl) (fun _ _ _ h => h) (Or.inl ⟨by rfl, ?_⟩) (by assumption) ?_
          rotate_left
          · intro w' hSw
            clear hSw
            unfold opa5
            first
            | (go_simp; done)
            | (go_simp; with_reducible rfl)
          simp only [opa5, Act.put, List.setIfInBounds_toArray, List.set_cons_zero, List.set_cons_succ]
          refine wpAnyH_take (i := 6) (oi := opa6) (v := ?_) rfl (by kernel_rfl) (by kernel_rfl) (by kernel_rfl) (fun _ _ _ h => h) (Or.inl ⟨by rfl, ?_⟩) (by assumption) ?_
          rotate_left
          · intro w' hSw
            clear hSw
            unfold opa6
            first
            | (go_simp; done)
            | (go_simp; with_reducible rfl)
          simp only [opa6, Act.put, List.setIfInBounds_toArray, List.set_cons_zero, List.set_cons_succ]
          refine wpAnyH_take (i := 7) (oi := opa7) (v := ?_) rfl (by kernel_rfl) (by kernel_rfl) (by kernel_rfl) (fun _ _ _ h => h) (Or.inl ⟨by rfl, ?_⟩) (by assumption) ?_
          rotate_left
          · intro w' hSw
            clear hSw
            unfold opa7
            first
            | (go_simp; done)
            | (go_simp; with_reducible rfl)
          simp only [opa7, Act.put, List.setIfInBounds_toArray, List.set_cons_zero, List.set_cons_succ]
          refine wpAnyH_take (i := 8) (oi := opa8) (v := ?_) rfl (by kernel_rfl) (by kernel_rfl) (by kernel_rfl) (fun _ _ _ h => h) (Or.inl ⟨by rfl, ?_⟩) (by assumption) ?_
          rotate_left
          · intro w' hSw
            clear hSw
            unfold opa8
            first
            | (go_simp; done)
            | (go_simp; with_reducible rfl)
          simp only [opa8, Act.put, List.setIfInBounds_toArray, List.set_cons_zero, List.set_cons_succ]
          refine wpAnyH_take (i := 9) (oi := opa9) (v := ?_) rfl (by kernel_rfl) (by kernel_rfl) (by kernel_rfl) (fun _ _ _ h => h) (Or.inl ⟨by rfl, ?_⟩) (by assumption) ?_
          rotate_left
          · intro w' hSw
            clear hSw
            unfold opa9
            first
            | (go_simp; done)
            | (go_simp; with_reducible rfl)
          simp only [opa9, Act.put, List.setIfInBounds_toArray, List.set_cons_zero, List.set_cons_succ]
          refine wpAnyH_ready (rs := [10]) (by kernel_rfl) (by simp) ?_
          refine AllReadyH.cons (o := opa10) rfl (fun KK hKK => ?_) AllReadyH.nil
          ·
            unfold opa10
            go_simp
            have ST29 : Hid (Stw w (U28.alloc (.cells #[.int .i64 0, .int .i64 0, .int .i64 0, .int .i64 0, .string ⟨#[]⟩] 37)) gb BL (some U28.heap.size) (some g26)) := ST28.out.hop
            refine hKK.out _ _ ST29.out.1 (fun hHeld29 => ?_)
            clear hKK KK hHeld28 ST28
            obtain ⟨U29, hU29⟩ : ∃ X, U28.alloc (.cells #[.int .i64 0, .int .i64 0, .int .i64 0, .int .i64 0, .string ⟨#[]⟩] 37) = X := ⟨_, rfl⟩
            obtain ⟨g29, hg29⟩ : ∃ t, U28.heap.size = t := ⟨_, rfl⟩
            rw [hU29, hg29] at ST29
            rw [hU29] at hHeld29
            rw [hU29, hg29]
            clear hU29 hg29
            obtain ⟨fz12, -⟩ := (ST29.out.2.2.2.1 g29 rfl).1
            obtain ⟨h0, h1, h2, h3, h4⟩ := HopAt.cells (ST29.out.2.2.2.1 g29 rfl).1
            have z0 := fz12 0
            have z1 := fz12 1
            have z2 := fz12 2
            have z3 := fz12 3
            have z4 := fz12 4
            have P12 : Hid (_ ∧ _ ∧ _ ∧ _ ∧ _) := ST29.out.putH xk xn xu xd xid
            unfold YtckfplpiakbbdaaGreatDoor.putH at P12
            refine wpAnyH_ready (rs := [12]) (by kernel_rfl) (by simp) ?_
            refine AllReadyH.cons (o := opa12) rfl (fun KK hKK => ?_) AllReadyH.nil
            unfold opa12
            go_simp
            refine hKK.out _ _ P12.out.1 (fun hHeldA => ?_)
            clear hKK KK h0 h1 h2 h3 h4 z0 z1 z2 z3 z4 fz12 hHeld29 ST29
            obtain ⟨Y, hY⟩ : ∃ Y, ((((U29.setCell ⟨g29, 0, none⟩ (.int .i64 xk)).setCell ⟨g29, 1, none⟩ (.int .i64 xn)).setCell ⟨g29, 2, none⟩ (.int .i64 xu)).setCell ⟨g29, 3, none⟩ (.int .i64 xd)).setCell ⟨g29, 4, none⟩ (.string xid) = Y := ⟨_, rfl⟩
            rw [hY] at P12 hHeldA
            rw [hY]
            clear hY
            refine wpAnyH_take (i := 13) (oi := opa13) (v := ?_) rfl (by kernel_rfl) (by kernel_rfl) (by kernel_rfl) (fun _ _ _ h => h) (Or.inl ⟨by rfl, ?_⟩) (by assumption) ?_
            rotate_left
            · intro w' hSw
              clear hSw
              unfold opa13
              first
              | (go_simp; done)
              | (go_simp; with_reducible rfl)
            simp only [opa13, Act.put, List.setIfInBounds_toArray, List.set_cons_zero, List.set_cons_succ]
            obtain ⟨fz14, h0, h1, h2, h3, h4⟩ := P12.out.2.1
            have z0 := fz14 0
            have z1 := fz14 1
            have z2 := fz14 2
            have z3 := fz14 3
            have z4 := fz14 4
            have P14 : Hid (_ ∧ _ ∧ _ ∧ _ ∧ _) := putK_fin P12.out k0 k1 k2 k3 k4
            unfold YtckfplpiakbbdaaGreatDoor.putK at P14
            refine wpAnyH_ready (rs := [14]) (by kernel_rfl) (by simp) ?_
            refine AllReadyH.cons (o := opa14) rfl (fun KK hKK => ?_) AllReadyH.nil
            unfold opa14
            go_simp
            refine hKK.out _ _ P14.out.1 (fun hHeldB => ?_)
            clear hKK KK h0 h1 h2 h3 h4 z0 z1 z2 z3 z4 fz14 hHeldA P12
            obtain ⟨Y2, hY2⟩ : ∃ Y2, ((((Y.setCell ⟨g26, 0, none⟩ (.string k0)).setCell ⟨g26, 1, none⟩ (.string k1)).setCell ⟨g26, 2, none⟩ (.string k2)).setCell ⟨g26, 3, none⟩ (.string k3)).setCell ⟨g26, 4, none⟩ (.string k4) = Y2 := ⟨_, rfl⟩
            rw [hY2] at P14 hHeldB
            rw [hY2]
            clear hY2
            refine wpAnyH_take (i := 15) (oi := opa15) (v := ?_) rfl (by kernel_rfl) (by kernel_rfl) (by kernel_rfl) (fun _ _ _ h => h) (Or.inl ⟨by rfl, ?_⟩) (by assumption) ?_
            rotate_left
            · intro w' hSw
              clear hSw
              unfold opa15
              first
              | (go_simp; done)
              | (go_simp; with_reducible rfl)
            simp only [opa15, Act.put, List.setIfInBounds_toArray, List.set_cons_zero, List.set_cons_succ]
            refine wpAnyH_done (by kernel_rfl) ?_ _
            refine NoPanic.normal ?_
            exact KEY g29 g26 Y2 P14.out
        ·
          unfold opa10
          go_simp
          have ST30 : Hid (Stw w (U27.alloc (.cells #[.int .i64 0, .int .i64 0, .int .i64 0, .int .i64 0, .string ⟨#[]⟩] 37)) gb BL (some U27.heap.size) (some g26)) := ST27.out.hop
          refine hKK.out _ _ ST30.out.1 (fun hHeld30 => ?_)
          clear hKK KK hHeld27 ST27
          obtain ⟨U30, hU30⟩ : ∃ X, U27.alloc (.cells #[.int .i64 0, .int .i64 0, .int .i64 0, .int .i64 0, .string ⟨#[]⟩] 37) = X := ⟨_, rfl⟩
          obtain ⟨g30, hg30⟩ : ∃ t, U27.heap.size = t := ⟨_, rfl⟩
          rw [hU30, hg30] at ST30
          rw [hU30] at hHeld30
          rw [hU30, hg30]
          clear hU30 hg30
          refine wpAnyH_ready (rs := [4]) (by kernel_rfl) (by simp) ?_
          refine AllReadyH.cons (o := opa4) rfl (fun KK hKK => ?_) AllReadyH.nil
          ·
            unfold opa4
            go_simp
            refine Calls.mono (PE'.out _ (hK.out.later ST30.out.2.1)) ?_
            rintro e U31 ⟨rfl, hb⟩
            have ST31 : Hid (Stw w U31 gb BL (some g30) (some g26)) := ST30.out.later hb
            refine hKK.out _ _ ST31.out.1 (fun hHeld31 => ?_)
            clear hKK KK hb hHeld30 ST30
            refine wpAnyH_take (i := 5) (oi := opa5) (v := ?_) rfl (by kernel_rfl) (by kernel_rfl) (by kernel_rfl) (fun _ _ _ h => h) (Or.inl ⟨by rfl, ?_⟩) (by assumption) ?_
            rotate_left
            · intro w' hSw
              clear hSw
              unfold opa5
              first
              | (go_simp; done)
              | (go_simp; with_reducible rfl)
            simp only [opa5, Act.put, List.setIfInBounds_toArray, List.set_cons_zero, List.set_cons_succ]
            refine wpAnyH_take (i := 6) (oi := opa6) (v := ?_) rfl (by kernel_rfl) (by kernel_rfl) (by kernel_rfl) (fun _ _ _ h => h) (Or.inl ⟨by rfl, ?_⟩) (by assumption) ?_
            rotate_left
            · intro w' hSw
              clear hSw
              unfold opa6
              first
              | (go_simp; done)
              | (go_simp; with_reducible rfl)
            simp only [opa6, Act.put, List.setIfInBounds_toArray, List.set_cons_zero, List.set_cons_succ]
            refine wpAnyH_take (i := 7) (oi := opa7) (v := ?_) rfl (by kernel_rfl) (by kernel_rfl) (by kernel_rfl) (fun _ _ _ h => h) (Or.inl ⟨by rfl, ?_⟩) (by assumption) ?_
            rotate_left
            · intro w' hSw
              clear hSw
              unfold opa7
              first
              | (go_simp; done)
              | (go_simp; with_reducible rfl)
            simp only [opa7, Act.put, List.setIfInBounds_toArray, List.set_cons_zero, List.set_cons_succ]
            refine wpAnyH_take (i := 8) (oi := opa8) (v := ?_) rfl (by kernel_rfl) (by kernel_rfl) (by kernel_rfl) (fun _ _ _ h => h) (Or.inl ⟨by rfl, ?_⟩) (by assumption) ?_
            rotate_left
            · intro w' hSw
              clear hSw
              unfold opa8
              first
              | (go_simp; done)
              | (go_simp; with_reducible rfl)
            simp only [opa8, Act.put, List.setIfInBounds_toArray, List.set_cons_zero, List.set_cons_succ]
            refine wpAnyH_take (i := 9) (oi := opa9) (v := ?_) rfl (by kernel_rfl) (by kernel_rfl) (by kernel_rfl) (fun _ _ _ h => h) (Or.inl ⟨by rfl, ?_⟩) (by assumption) ?_
            rotate_left
            · intro w' hSw
              clear hSw
              unfold opa9
              first
              | (go_simp; done)
              | (go_simp; with_reducible rfl)
            simp only [opa9, Act.put, List.setIfInBounds_toArray, List.set_cons_zero, List.set_cons_succ]
            obtain ⟨fz12, -⟩ := (ST31.out.2.2.2.1 g30 rfl).1
            obtain ⟨h0, h1, h2, h3, h4⟩ := HopAt.cells (ST31.out.2.2.2.1 g30 rfl).1
            have z0 := fz12 0
            have z1 := fz12 1
            have z2 := fz12 2
            have z3 := fz12 3
            have z4 := fz12 4
            have P12 : Hid (_ ∧ _ ∧ _ ∧ _ ∧ _) := ST31.out.putH xk xn xu xd xid
            unfold YtckfplpiakbbdaaGreatDoor.putH at P12
            refine wpAnyH_ready (rs := [12]) (by kernel_rfl) (by simp) ?_
            refine AllReadyH.cons (o := opa12) rfl (fun KK hKK => ?_) AllReadyH.nil
            unfold opa12
            go_simp
            refine hKK.out _ _ P12.out.1 (fun hHeldA => ?_)
            clear hKK KK h0 h1 h2 h3 h4 z0 z1 z2 z3 z4 fz12 hHeld31 ST31
            obtain ⟨Y, hY⟩ : ∃ Y, ((((U31.setCell ⟨g30, 0, none⟩ (.int .i64 xk)).setCell ⟨g30, 1, none⟩ (.int .i64 xn)).setCell ⟨g30, 2, none⟩ (.int .i64 xu)).setCell ⟨g30, 3, none⟩ (.int .i64 xd)).setCell ⟨g30, 4, none⟩ (.string xid) = Y := ⟨_, rfl⟩
            rw [hY] at P12 hHeldA
            rw [hY]
            clear hY
            refine wpAnyH_take (i := 13) (oi := opa13) (v := ?_) rfl (by kernel_rfl) (by kernel_rfl) (by kernel_rfl) (fun _ _ _ h => h) (Or.inl ⟨by rfl, ?_⟩) (by assumption) ?_
            rotate_left
            · intro w' hSw
              clear hSw
              unfold opa13
              first
              | (go_simp; done)
              | (go_simp; with_reducible rfl)
            simp only [opa13, Act.put, List.setIfInBounds_toArray, List.set_cons_zero, List.set_cons_succ]
            obtain ⟨fz14, h0, h1, h2, h3, h4⟩ := P12.out.2.1
            have z0 := fz14 0
            have z1 := fz14 1
            have z2 := fz14 2
            have z3 := fz14 3
            have z4 := fz14 4
            have P14 : Hid (_ ∧ _ ∧ _ ∧ _ ∧ _) := putK_fin P12.out k0 k1 k2 k3 k4
            unfold YtckfplpiakbbdaaGreatDoor.putK at P14
            refine wpAnyH_ready (rs := [14]) (by kernel_rfl) (by simp) ?_
            refine AllReadyH.cons (o := opa14) rfl (fun KK hKK => ?_) AllReadyH.nil
            unfold opa14
            go_simp
            refine hKK.out _ _ P14.out.1 (fun hHeldB => ?_)
            clear hKK KK h0 h1 h2 h3 h4 z0 z1 z2 z3 z4 fz14 hHeldA P12
            obtain ⟨Y2, hY2⟩ : ∃ Y2, ((((Y.setCell ⟨g26, 0, none⟩ (.string k0)).setCell ⟨g26, 1, none⟩ (.string k1)).setCell ⟨g26, 2, none⟩ (.string k2)).setCell ⟨g26, 3, none⟩ (.string k3)).setCell ⟨g26, 4, none⟩ (.string k4) = Y2 := ⟨_, rfl⟩
            rw [hY2] at P14 hHeldB
            rw [hY2]
            clear hY2
            refine wpAnyH_take (i := 15) (oi := opa15) (v := ?_) rfl (by kernel_rfl) (by kernel_rfl) (by kernel_rfl) (fun _ _ _ h => h) (Or.inl ⟨by rfl, ?_⟩) (by assumption) ?_
            rotate_left
            · intro w' hSw
              clear hSw
              unfold opa15
              first
              | (go_simp; done)
              | (go_simp; with_reducible rfl)
            simp only [opa15, Act.put, List.setIfInBounds_toArray, List.set_cons_zero, List.set_cons_succ]
            refine wpAnyH_done (by kernel_rfl) ?_ _
            refine NoPanic.normal ?_
            exact KEY g30 g26 Y2 P14.out
      ·
        unfold opa10
        go_simp
        have ST32 : Hid (Stw w (U26.alloc (.cells #[.int .i64 0, .int .i64 0, .int .i64 0, .int .i64 0, .string ⟨#[]⟩] 37)) gb BL (some U26.heap.size) (some g26)) := ST26.out.hop
        refine hKK.out _ _ ST32.out.1 (fun hHeld32 => ?_)
        clear hKK KK hHeld26 ST26
        obtain ⟨U32, hU32⟩ : ∃ X, U26.alloc (.cells #[.int .i64 0, .int .i64 0, .int .i64 0, .int .i64 0, .string ⟨#[]⟩] 37) = X := ⟨_, rfl⟩
        obtain ⟨g32, hg32⟩ : ∃ t, U26.heap.size = t := ⟨_, rfl⟩
        rw [hU32, hg32] at ST32
        rw [hU32] at hHeld32
        rw [hU32, hg32]
        clear hU32 hg32
        refine wpAnyH_ready (rs := [1]) (by kernel_rfl) (by simp) ?_
        refine AllReadyH.cons (o := opa1) rfl (fun KK hKK => ?_) AllReadyH.nil
        ·
          unfold opa1
          go_simp
          refine Calls.mono (V0.out _ (hK.out.later ST32.out.2.1)) ?_
          rintro e U33 ⟨rfl, hb⟩
          have ST33 : Hid (Stw w U33 gb BL (some g32) (some g26)) := ST32.out.later hb
          refine hKK.out _ _ ST33.out.1 (fun hHeld33 => ?_)
          clear hKK KK hb hHeld32 ST32
          refine wpAnyH_ready (rs := [4]) (by kernel_rfl) (by simp) ?_
          refine AllReadyH.cons (o := opa4) rfl (fun KK hKK => ?_) AllReadyH.nil
          ·
            unfold opa4
            go_simp
            refine Calls.mono (PE'.out _ (hK.out.later ST33.out.2.1)) ?_
            rintro e U34 ⟨rfl, hb⟩
            have ST34 : Hid (Stw w U34 gb BL (some g32) (some g26)) := ST33.out.later hb
            refine hKK.out _ _ ST34.out.1 (fun hHeld34 => ?_)
            clear hKK KK hb hHeld33 ST33
            refine wpAnyH_take (i := 5) (oi := opa5) (v := ?_) rfl (by kernel_rfl) (by kernel_rfl) (by kernel_rfl) (fun _ _ _ h => h) (Or.inl ⟨by rfl, ?_⟩) (by assumption) ?_
            rotate_left
            · intro w' hSw
              clear hSw
              unfold opa5
              first
              | (go_simp; done)
              | (go_simp; with_reducible rfl)
            simp only [opa5, Act.put, List.setIfInBounds_toArray, List.set_cons_zero, List.set_cons_succ]
            refine wpAnyH_take (i := 6) (oi := opa6) (v := ?_) rfl (by kernel_rfl) (by kernel_rfl) (by kernel_rfl) (fun _ _ _ h => h) (Or.inl ⟨by rfl, ?_⟩) (by assumption) ?_
            rotate_left
            · intro w' hSw
              clear hSw
              unfold opa6
              first
              | (go_simp; done)
              | (go_simp; with_reducible rfl)
            simp only [opa6, Act.put, List.setIfInBounds_toArray, List.set_cons_zero, List.set_cons_succ]
            refine wpAnyH_take (i := 7) (oi := opa7) (v := ?_) rfl (by kernel_rfl) (by kernel_rfl) (by kernel_rfl) (fun _ _ _ h => h) (Or.inl ⟨by rfl, ?_⟩) (by assumption) ?_
            rotate_left
            · intro w' hSw
              clear hSw
              unfold opa7
              first
              | (go_simp; done)
              | (go_simp; with_reducible rfl)
            simp only [opa7, Act.put, List.setIfInBounds_toArray, List.set_cons_zero, List.set_cons_succ]
            refine wpAnyH_take (i := 8) (oi := opa8) (v := ?_) rfl (by kernel_rfl) (by kernel_rfl) (by kernel_rfl) (fun _ _ _ h => h) (Or.inl ⟨by rfl, ?_⟩) (by assumption) ?_
            rotate_left
            · intro w' hSw
              clear hSw
              unfold opa8
              first
              | (go_simp; done)
              | (go_simp; with_reducible rfl)
            simp only [opa8, Act.put, List.setIfInBounds_toArray, List.set_cons_zero, List.set_cons_succ]
            refine wpAnyH_take (i := 9) (oi := opa9) (v := ?_) rfl (by kernel_rfl) (by kernel_rfl) (by kernel_rfl) (fun _ _ _ h => h) (Or.inl ⟨by rfl, ?_⟩) (by assumption) ?_
            rotate_left
            · intro w' hSw
              clear hSw
              unfold opa9
              first
              | (go_simp; done)
              | (go_simp; with_reducible rfl)
            simp only [opa9, Act.put, List.setIfInBounds_toArray, List.set_cons_zero, List.set_cons_succ]
            obtain ⟨fz12, -⟩ := (ST34.out.2.2.2.1 g32 rfl).1
            obtain ⟨h0, h1, h2, h3, h4⟩ := HopAt.cells (ST34.out.2.2.2.1 g32 rfl).1
            have z0 := fz12 0
            have z1 := fz12 1
            have z2 := fz12 2
            have z3 := fz12 3
            have z4 := fz12 4
            have P12 : Hid (_ ∧ _ ∧ _ ∧ _ ∧ _) := ST34.out.putH xk xn xu xd xid
            unfold YtckfplpiakbbdaaGreatDoor.putH at P12
            refine wpAnyH_ready (rs := [12]) (by kernel_rfl) (by simp) ?_
            refine AllReadyH.cons (o := opa12) rfl (fun KK hKK => ?_) AllReadyH.nil
            unfold opa12
            go_simp
            refine hKK.out _ _ P12.out.1 (fun hHeldA => ?_)
            clear hKK KK h0 h1 h2 h3 h4 z0 z1 z2 z3 z4 fz12 hHeld34 ST34
            obtain ⟨Y, hY⟩ : ∃ Y, ((((U34.setCell ⟨g32, 0, none⟩ (.int .i64 xk)).setCell ⟨g32, 1, none⟩ (.int .i64 xn)).setCell ⟨g32, 2, none⟩ (.int .i64 xu)).setCell ⟨g32, 3, none⟩ (.int .i64 xd)).setCell ⟨g32, 4, none⟩ (.string xid) = Y := ⟨_, rfl⟩
            rw [hY] at P12 hHeldA
            rw [hY]
            clear hY
            refine wpAnyH_take (i := 13) (oi := opa13) (v := ?_) rfl (by kernel_rfl) (by kernel_rfl) (by kernel_rfl) (fun _ _ _ h => h) (Or.inl ⟨by rfl, ?_⟩) (by assumption) ?_
            rotate_left
            · intro w' hSw
              clear hSw
              unfold opa13
              first
              | (go_simp; done)
              | (go_simp; with_reducible rfl)
            simp only [opa13, Act.put, List.setIfInBounds_toArray, List.set_cons_zero, List.set_cons_succ]
            obtain ⟨fz14, h0, h1, h2, h3, h4⟩ := P12.out.2.1
            have z0 := fz14 0
            have z1 := fz14 1
            have z2 := fz14 2
            have z3 := fz14 3
            have z4 := fz14 4
            have P14 : Hid (_ ∧ _ ∧ _ ∧ _ ∧ _) := putK_fin P12.out k0 k1 k2 k3 k4
            unfold YtckfplpiakbbdaaGreatDoor.putK at P14
            refine wpAnyH_ready (rs := [14]) (by kernel_rfl) (by simp) ?_
            refine AllReadyH.cons (o := opa14) rfl (fun KK hKK => ?_) AllReadyH.nil
            unfold opa14
            go_simp
            refine hKK.out _ _ P14.out.1 (fun hHeldB => ?_)
            clear hKK KK h0 h1 h2 h3 h4 z0 z1 z2 z3 z4 fz14 hHeldA P12
            obtain ⟨Y2, hY2⟩ : ∃ Y2, ((((Y.setCell ⟨g26, 0, none⟩ (.string k0)).setCell ⟨g26, 1, none⟩ (.string k1)).setCell ⟨g26, 2, none⟩ (.string k2)).setCell ⟨g26, 3, none⟩ (.string k3)).setCell ⟨g26, 4, none⟩ (.string k4) = Y2 := ⟨_, rfl⟩
            rw [hY2] at P14 hHeldB
            rw [hY2]
            clear hY2
            refine wpAnyH_take (i := 15) (oi := opa15) (v := ?_) rfl (by kernel_rfl) (by kernel_rfl) (by kernel_rfl) (fun _ _ _ h => h) (Or.inl ⟨by rfl, ?_⟩) (by assumption) ?_
            rotate_left
            · intro w' hSw
              clear hSw
              unfold opa15
              first
              | (go_simp; done)
              | (go_simp; with_reducible rfl)
            simp only [opa15, Act.put, List.setIfInBounds_toArray, List.set_cons_zero, List.set_cons_succ]
            refine wpAnyH_done (by kernel_rfl) ?_ _
            refine NoPanic.normal ?_
            exact KEY g32 g26 Y2 P14.out
  case key1 =>
    intro g12 g14 X F
    obtain ⟨L, hL⟩ : ∃ x, TB.extract 48 248 = x := ⟨_, rfl⟩
    obtain ⟨M, hM⟩ : ∃ x, TB.extract 32 48 = x := ⟨_, rfl⟩
    obtain ⟨HM, hHM⟩ : ∃ x, hmb S L = x := ⟨_, rfl⟩
    have zL : L.size ≤ 140737488355328 := by rw [← hL, ByteArray.size_extract]; omega
    obtain ⟨T32, hT⟩ : ∃ T : ByteArray, ⟨(hmac (hdk S lMac 32).data.toList L.data.toList).toArray⟩ = T := ⟨_, rfl⟩
    have zT : T32.size = 32 := by rw [← hT, ba_sz, hmac_len]
    have eT : T32.extract 0 16 = HM := by
      have hd : (hdk S lMac 32).data.toList = drv S.data.toList lMac 32 := by unfold hdk; simp
      have : (T32.extract 0 16).data.toList = hmacf S L.data.toList := by
        rw [← hT, ba_cut, List.drop_zero, hd]
        unfold hmacf
        with_reducible rfl
      rw [← hHM]
      unfold hmb
      exact ba_of this
    have TG : Hid (∀ (B : Nat) (w : World), Kh w → w.cell? ⟨B, 0, none⟩ = some (.string L) → Calls Tryz.prog 19 #[.string (hdk S lMac 32), .slice (some ⟨B, 0, none⟩) 1 1] w fun e w' => e = .returned (.string T32) ∧ Below w.heap.size w w') := fun B w h h0 => by
      have := tag_c (hdk S lMac 32) (some ⟨B, 0, none⟩) [L] 1 1 w rfl (by show (1 : Nat) * 16 + 1024 ≤ _; decide) (by show (hdk S lMac 32).size ≤ _; rw [hdk_size]; decide) (fun x hx => by simp at hx; subst hx; exact zL) h (strAt1 h0)
      rw [jnd_one, hT] at this
      exact this
    rw [hL, hM, hHM] at HC
    rw [hL] at CVL
    rw [hM] at CVM
    clear hL hM hHM hT zL
    generalize hdk S lFlow 32 = q0 at *
    generalize hdk S lMac 32 = q1 at *
    generalize hdk S lBody 32 = q2 at *
    generalize bld S = q3 at *
    generalize hdk S lTag 16 = q4 at *
    have hP0 : HD.extract 0 32 = PT := HP.out
    rcases HC.out with rfl | ⟨he, hq⟩
    · have BX : Hid (Below w.heap.size w X) := F.out.2.2.1
      clear F
      go_wp2
      go_ret
      exact ⟨rfl, BX.out⟩
    · have zTi : (T32.size : Int) = 32 := by omega
      have c248 : (248 : Int) ≤ (cap : Int) := by omega
      have c48 : (48 : Int) ≤ (cap : Int) := by omega
      have cne : ¬ cap = 48 := by omega
      have cne2 : ¬ cap = 32 := by omega
      have lc : 248 ≤ cap := by omega
      rcases he with rfl | rfl
      all_goals
        clear HC
        go_wp2_with fail
        go_region_with (first | (go_at_call 16; refine Calls.mono (V0.out _ (hK.out.later F.out.2.2.1.drew)) ?_; rintro e X1 ⟨rfl, hb1⟩; have F1 : Hid (BytesAt X1 gb BL ∧ Five X1 g14 k0 k1 k2 k3 k4 ∧ Below w.heap.size w X1 ∧ g14 ≠ gb ∧ w.heap.size ≤ g14) := fin_later F.out ((Below.refl _ _).drew) hb1) | (go_at_call 18; refine Calls.mono (SH.out _) ?_; rintro e X2 ⟨rfl, hb2⟩; have F2 : Hid (BytesAt X2 gb BL ∧ Five X2 g14 k0 k1 k2 k3 k4 ∧ Below w.heap.size w X2 ∧ g14 ≠ gb ∧ w.heap.size ≤ g14) := fin_later F1.out (Below.refl _ _) hb2))
        clear hb1 hb2 F F1 SH V0
        go_wp2_with fail
        refine Calls.mono (OF.out _ (hK.out.later F2.out.2.2.1)) ?_
        rintro e X3 ⟨rfl, hb3⟩
        have F3 : Hid (BytesAt X3 gb BL ∧ Five X3 g14 k0 k1 k2 k3 k4 ∧ Below w.heap.size w X3 ∧ g14 ≠ gb ∧ w.heap.size ≤ g14) := fin_later F2.out (Below.refl _ _) hb3
        have F4 : Hid (_ ∧ _ ∧ _ ∧ _ ∧ _) := putK_any F3.out q0 q1 q2 q3 q4
        unfold YtckfplpiakbbdaaGreatDoor.putK at F4
        obtain ⟨fz, h0, h1, h2, h3, h4⟩ := F3.out.2.1
        have z0 := fz 0
        have z1 := fz 1
        have z2 := fz 2
        have z3 := fz 3
        have z4 := fz 4
        clear hb3 F2 F3 OF fz
        go_wp2_with fail
        obtain ⟨Y, hY⟩ : ∃ Y, ((((X3.setCell ⟨g14, 0, none⟩ (.string q0)).setCell ⟨g14, 1, none⟩ (.string q1)).setCell ⟨g14, 2, none⟩ (.string q2)).setCell ⟨g14, 3, none⟩ (.string q3)).setCell ⟨g14, 4, none⟩ (.string q4) = Y := ⟨_, rfl⟩
        rw [hY] at F4
        rw [hY]
        clear hY h0 h1 h2 h3 h4 z0 z1 z2 z3 z4
        refine wp_region_noPanic ?_
        refine wp_region_held_drew (S := fun w' => BytesAt w' gb BL ∧ w'.cell? ⟨g14, 1, none⟩ = some (.string q1)) (by kernel_rfl) (⟨F4.out.1, F4.out.2.1.2.2.1⟩) (fun hHeld => ?_)
        refine wpAnyH_take (i := 0) (oi := opb0) (v := ?_) rfl (by kernel_rfl) (by kernel_rfl) (by kernel_rfl) (fun _ _ _ h => h) (Or.inl ⟨by rfl, ?_⟩) (by assumption) ?_
        rotate_left
        · intro w' hSw
          clear hSw
          unfold opb0
          first
          | (go_simp; done)
          | (go_simp; with_reducible rfl)
        simp only [opb0, Act.put, List.setIfInBounds_toArray, List.set_cons_zero, List.set_cons_succ]
        refine wpAnyH_take (i := 1) (oi := opb1) (v := ?_) rfl (by kernel_rfl) (by kernel_rfl) (by kernel_rfl) (fun _ _ _ h => h) (Or.inl ⟨by rfl, ?_⟩) (by assumption) ?_
        rotate_left
        · intro w' hSw
          have p1 := hSw.2; clear hSw
          unfold opb1
          first
          | (go_simp; done)
          | (go_simp; with_reducible rfl)
        simp only [opb1, Act.put, List.setIfInBounds_toArray, List.set_cons_zero, List.set_cons_succ]
        refine wpAnyH_take (i := 2) (oi := opb2) (v := ?_) rfl (by kernel_rfl) (by kernel_rfl) (by kernel_rfl) (fun _ _ _ h => h) (Or.inl ⟨by rfl, ?_⟩) (by assumption) ?_
        rotate_left
        · intro w' hSw
          clear hSw
          unfold opb2
          first
          | (go_simp; done)
          | (go_simp; with_reducible rfl)
        simp only [opb2, Act.put, List.setIfInBounds_toArray, List.set_cons_zero, List.set_cons_succ]
        refine wpAnyH_take (i := 3) (oi := opb3) (v := ?_) rfl (by kernel_rfl) (by kernel_rfl) (by kernel_rfl) (fun _ _ _ h => h) (Or.inl ⟨by rfl, ?_⟩) (by assumption) ?_
        rotate_left
        · intro w' hSw
          clear hSw
          unfold opb3
          first
          | (go_simp; done)
          | (go_simp; with_reducible rfl)
        simp only [opb3, Act.put, List.setIfInBounds_toArray, List.set_cons_zero, List.set_cons_succ]
        refine wpAnyH_take (i := 4) (oi := opb4) (v := ?_) rfl (by kernel_rfl) (by kernel_rfl) (by kernel_rfl) (fun _ _ _ h => h) (Or.inl ⟨by rfl, ?_⟩) (by assumption) ?_
        rotate_left
        · intro w' hSw
          have cvl := CVL.out w' (cap - 48) hSw.1; clear hSw
          unfold opb4
          first
          | (go_simp; done)
          | (go_simp; with_reducible rfl)
        simp only [opb4, Act.put, List.setIfInBounds_toArray, List.set_cons_zero, List.set_cons_succ]
        refine wpAnyH_take (i := 8) (oi := opb8) (v := ?_) rfl (by kernel_rfl) (by kernel_rfl) (by kernel_rfl) (fun _ _ _ h => h) (Or.inl ⟨by rfl, ?_⟩) (by assumption) ?_
        rotate_left
        · intro w' hSw
          clear hSw
          unfold opb8
          first
          | (go_simp; done)
          | (go_simp; with_reducible rfl)
        simp only [opb8, Act.put, List.setIfInBounds_toArray, List.set_cons_zero, List.set_cons_succ]
        refine wpAnyH_take (i := 9) (oi := opb9) (v := ?_) rfl (by kernel_rfl) (by kernel_rfl) (by kernel_rfl) (fun _ _ _ h => h) (Or.inl ⟨by rfl, ?_⟩) (by assumption) ?_
        rotate_left
        · intro w' hSw
          clear hSw
          unfold opb9
          first
          | (go_simp; done)
          | (go_simp; with_reducible rfl)
        simp only [opb9, Act.put, List.setIfInBounds_toArray, List.set_cons_zero, List.set_cons_succ]
        refine wpAnyH_take (i := 10) (oi := opb10) (v := ?_) rfl (by kernel_rfl) (by kernel_rfl) (by kernel_rfl) (fun _ _ _ h => h) (Or.inl ⟨by rfl, ?_⟩) (by assumption) ?_
        rotate_left
        · intro w' hSw
          have cvm := CVM.out w' (cap - 32) hSw.1; clear hSw
          unfold opb10
          first
          | (go_simp; done)
          | (go_simp; with_reducible rfl)
        simp only [opb10, Act.put, List.setIfInBounds_toArray, List.set_cons_zero, List.set_cons_succ]
        obtain ⟨D5, hD5⟩ : ∃ D, Y.drew = D := ⟨_, rfl⟩
        have F5 : Hid (BytesAt D5 gb BL ∧ D5.cell? ⟨g14, 1, none⟩ = some (.string q1) ∧ Below w.heap.size w D5) := by rw [← hD5]; exact ⟨F4.out.1, F4.out.2.1.2.2.1, F4.out.2.2.1.drew⟩
        rw [hD5] at hHeld
        rw [hD5]
        clear hD5 F4
        refine wpAnyH_ready (rs := [5]) (by kernel_rfl) (by simp) ?_
        refine AllReadyH.cons (o := opb5) rfl (fun KK hKK => ?_) AllReadyH.nil
        unfold opb5
        go_simp
        have BA : Below D5.heap.size D5 (D5.alloc (.cells #[.string L] 9)) := (Below.refl _ _).alloc (Nat.le_refl _) _
        have F6 : Hid (BytesAt (D5.alloc (.cells #[.string L] 9)) gb BL ∧ (D5.alloc (.cells #[.string L] 9)).cell? ⟨g14, 1, none⟩ = some (.string q1) ∧ Below w.heap.size w (D5.alloc (.cells #[.string L] 9)) ∧ (D5.alloc (.cells #[.string L] 9)).cell? ⟨D5.heap.size, 0, none⟩ = some (.string L)) := ⟨F5.out.1.later BA, cell_later BA F5.out.2.1, chain F5.out.2.2 BA, by simp [go_sem]⟩
        refine hKK.out _ _ ⟨F6.out.1, F6.out.2.1⟩ (fun hHeld2 => ?_)
        clear hKK KK hHeld F5 BA
        obtain ⟨D6, hD6⟩ : ∃ D, D5.alloc (.cells #[.string L] 9) = D := ⟨_, rfl⟩
        rw [hD6] at F6 hHeld2
        rw [hD6]
        clear hD6
        refine wpAnyH_ready (rs := [6]) (by kernel_rfl) (by simp) ?_
        refine AllReadyH.cons (o := opb6) rfl (fun KK hKK => ?_) AllReadyH.nil
        unfold opb6
        go_simp
        refine Calls.mono (TG.out _ _ (hK.out.later F6.out.2.2.1) F6.out.2.2.2) ?_
        rintro e D7 ⟨rfl, hb7⟩
        have F7 : Hid (BytesAt D7 gb BL ∧ D7.cell? ⟨g14, 1, none⟩ = some (.string q1) ∧ Below w.heap.size w D7) := ⟨F6.out.1.later hb7, cell_later hb7 F6.out.2.1, chain F6.out.2.2.1 hb7⟩
        refine hKK.out _ _ (⟨F7.out.1, F7.out.2.1⟩) (fun hHeld3 => ?_)
        clear hKK KK hb7 hHeld2 F6
        refine wpAnyH_take (i := 7) (oi := opb7) (v := ?_) rfl (by kernel_rfl) (by kernel_rfl) (by kernel_rfl) (fun _ _ _ h => h) (Or.inl ⟨by rfl, ?_⟩) (by assumption) ?_
        rotate_left
        · intro w' hSw
          clear hSw
          unfold opb7
          first
          | (go_simp; done)
          | (go_simp; with_reducible rfl)
        simp only [opb7, Act.put, List.setIfInBounds_toArray, List.set_cons_zero, List.set_cons_succ]
        refine wpAnyH_take (i := 11) (oi := opb11) (v := ?_) rfl (by kernel_rfl) (by kernel_rfl) (by kernel_rfl) (fun _ _ _ h => h) (Or.inl ⟨by rfl, ?_⟩) (by assumption) ?_
        rotate_left
        · intro w' hSw
          clear hSw
          unfold opb11
          first
          | (go_simp; done)
          | (go_simp; with_reducible rfl)
        simp only [opb11, Act.put, List.setIfInBounds_toArray, List.set_cons_zero, List.set_cons_succ]
        refine wpAnyH_take (i := 12) (oi := opb12) (v := ?_) rfl (by kernel_rfl) (by kernel_rfl) (by kernel_rfl) (fun _ _ _ h => h) (Or.inl ⟨by rfl, ?_⟩) (by assumption) ?_
        rotate_left
        · intro w' hSw
          clear hSw
          unfold opb12
          first
          | (go_simp; done)
          | (go_simp; with_reducible rfl)
        simp only [opb12, Act.put, List.setIfInBounds_toArray, List.set_cons_zero, List.set_cons_succ]
        refine wpAnyH_done (by kernel_rfl) ?_ _
        refine NoPanic.normal ?_
        clear hHeld3
        go_wp2
        go_ret
        exact ⟨rfl, F7.out.2.2⟩
theorem HeadTurned_walk (CO : Hid OfC) (CM : Hid MakeC) (CL : Hid PeelC) (who : ByteArray) (zw : Hid (who.size + 64 ≤ 140737488355328)) (at_ : Int) (y : Int) (hy : 0 ≤ y ∧ y < 256) (w : World) (hK : Hid (Kh w)) :
    Calls Tryz.prog 7 #[.string who, .int .i64 at_, .int .u8 y] w fun e w' => e = .returned (.bool true) ∧ Below w.heap.size w w' := by
  by_cases h : y = 0
  · subst h
    exact turned_walk_z CO CM CL who zw at_ 1 rfl w hK
  · obtain ⟨b, hb⟩ : ∃ b : UInt8, y = (b.toNat : Int) := ⟨UInt8.ofNat y.toNat, by rw [UInt8.toNat_ofNat']; omega⟩
    subst hb
    exact turned_walk_nz CO CM CL who zw at_ b (fun q => h (by rw [q]; rfl)) w hK
end Go.Proofs.YtckfplpiakbbdaaGreatDoor
