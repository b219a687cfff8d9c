/- The program's read. -/
import Derived.Test.YtbogoheigbiegaaDoorZgG22
namespace Go.Proofs.YtbogoheigbiegaaDoor.Mai
open Go.RowKit Go.Proofs.Fd Go.Proofs.Ml
set_option maxRecDepth 20000
theorem or_seq (a b c d : Nat) (ha : a < 256) (hb : b < 256) (hc : c < 256) (hd : d < 256) :
    bits .or .i64 (bits .or .i64 (bits .or .i64 ((a : Int) * 16777216) ((b : Int) * 65536)) ((c : Int) * 256)) (d : Int) = ((a * 16777216 + b * 65536 + c * 256 + d : Nat) : Int) := by
  have W : ∀ n : Int, 0 ≤ n → n < 2 ^ 32 → IntKind.i64.wrap n = n := fun n _ _ => by rw [IntKind.wrap_i64]; omega
  have e1 := (bits_nat .i64 32 (by decide) W (a * 16777216) (b * 65536) (by omega) (by omega)).2
  have l1 : a * 16777216 ||| b * 65536 < 2 ^ 32 := Nat.or_lt_two_pow (by omega) (by omega)
  have e2 := (bits_nat .i64 32 (by decide) W (a * 16777216 ||| b * 65536) (c * 256) l1 (by omega)).2
  have l2 : a * 16777216 ||| b * 65536 ||| c * 256 < 2 ^ 32 := Nat.or_lt_two_pow l1 (by omega)
  have e3 := (bits_nat .i64 32 (by decide) W (a * 16777216 ||| b * 65536 ||| c * 256) d l2 (by omega)).2
  rw [show (a : Int) * 16777216 = ((a * 16777216 : Nat) : Int) by omega, show (b : Int) * 65536 = ((b * 65536 : Nat) : Int) by omega, show (c : Int) * 256 = ((c * 256 : Nat) : Int) by omega, e1, e2, e3, or_high _ _ _ _ hb hc hd]
theorem MlAt.whole {w : World} {b : Nat} {k u q : Int} {t g : ByteArray} {a : Option Addr} {n c : Nat} {a2 : Option Addr} {n2 c2 : Nat} (h : MlAt w b k u q t g a n c a2 n2 c2) (k' u' q' : Int) (t' g' : ByteArray) (a' : Option Addr) (n' c' : Nat) (a2' : Option Addr) (n2' c2' : Nat) :
    MlAt (((((((w.setCell ⟨b, 0, none⟩ (.int .i64 k')).setCell ⟨b, 1, none⟩ (.int .i64 u')).setCell ⟨b, 2, none⟩ (.int .i64 q')).setCell ⟨b, 3, none⟩ (.string t')).setCell ⟨b, 4, none⟩ (.string g')).setCell ⟨b, 5, none⟩ (.slice a' n' c')).setCell ⟨b, 6, none⟩ (.slice a2' n2' c2')) b k' u' q' t' g' a' n' c' a2' n2' c2' := by
  obtain ⟨f, h0, h1, h2, h3, h4, h5, h6⟩ := h
  exact ⟨fun o => by simp [go_sem, f], by simp [go_sem, h0], by simp [go_sem, h1], by simp [go_sem, h2], by simp [go_sem, h3], by simp [go_sem, h4], by simp [go_sem, h5], by simp [go_sem, h6]⟩
theorem MlAt.other {w : World} {b : Nat} {k u q : Int} {t g : ByteArray} {a : Option Addr} {n c : Nat} {a2 : Option Addr} {n2 c2 : Nat} (h : MlAt w b k u q t g a n c a2 n2 c2) {p : Addr} (hne : p.block ≠ b) (v : Value) : MlAt (w.setCell p v) b k u q t g a n c a2 n2 c2 := by
  obtain ⟨f, h0, h1, h2, h3, h4, h5, h6⟩ := h
  exact ⟨fun o => (frozen_setCell hne).trans (f o), cell_setCell h0 hne, cell_setCell h1 hne, cell_setCell h2 hne, cell_setCell h3 hne, cell_setCell h4 hne, cell_setCell h5 hne, cell_setCell h6 hne⟩
theorem res_read (tmps : Array Value) (w : World) (b : Nat) (k u q : Int) (t g : ByteArray) (a : Option Addr) (n c : Nat) (a2 : Option Addr) (n2 c2 : Nat) (h2 : tmps.getD 2 undef = .pointer (some ⟨b, 0, none⟩)) (l : MlAt w b k u q t g a n c a2 n2 c2) :
    (results Tryd.f43 tmps).run Tryd.prog w = .ok (mv k u q t g a n c a2 n2 c2) w := by
  have l1 := run_loadVar_mid (P := Tryd.prog) w b 0 38 _ _ l.range Tryd.underlying38 rfl (by kernel_rfl)
  unfold results
  rw [Tryd.results43]
  have h2' : tmps[2]?.getD undef = .pointer (some ⟨b, 0, none⟩) := by simpa using h2
  simp [h2', l1, asAddr]
theorem below_whole {B : Nat} {a w : World} (h : Below B a w) {c : Nat} (hc : B ≤ c) (y0 y1 y2 y3 y4 y5 y6 : Value) :
    Below B a (((((((w.setCell ⟨c, 0, none⟩ y0).setCell ⟨c, 1, none⟩ y1).setCell ⟨c, 2, none⟩ y2).setCell ⟨c, 3, none⟩ y3).setCell ⟨c, 4, none⟩ y4).setCell ⟨c, 5, none⟩ y5).setCell ⟨c, 6, none⟩ y6) :=
  ((((((h.setCell (p := ⟨c, 0, none⟩) hc _).setCell (p := ⟨c, 1, none⟩) hc _).setCell (p := ⟨c, 2, none⟩) hc _).setCell (p := ⟨c, 3, none⟩) hc _).setCell (p := ⟨c, 4, none⟩) hc _).setCell (p := ⟨c, 5, none⟩) hc _).setCell (p := ⟨c, 6, none⟩) hc _
theorem MlAt.put2 {w : World} {b : Nat} {k u q : Int} {t g : ByteArray} {a : Option Addr} {n c : Nat} {a2 : Option Addr} {n2 c2 : Nat} (h : MlAt w b k u q t g a n c a2 n2 c2) (q' : Int) : MlAt (w.setCell ⟨b, 2, none⟩ (.int .i64 q')) b k u q' t g a n c a2 n2 c2 := by
  obtain ⟨f, h0, h1, h2, h3, h4, h5, h6⟩ := h
  exact ⟨fun o => by simp [go_sem, f], by simp [go_sem, h0], by simp [go_sem, h1], by simp [go_sem, h2], by simp [go_sem, h3], by simp [go_sem, h4], by simp [go_sem, h5], by simp [go_sem, h6]⟩
def Box2 (w : World) (g : Nat) (k u q : Int) (t h : ByteArray) (a : Option Addr) (n c : Nat) (a2 : Option Addr) (n2 c2 : Nat) : Prop :=
  MlAt w g 0 0 0 ⟨#[]⟩ ⟨#[]⟩ none 0 0 none 0 0 ∧ MlAt w (g + 1) k u q t h a n c a2 n2 c2
theorem Box2.later {w w' : World} {b : Nat} {k u q : Int} {t g : ByteArray} {a : Option Addr} {n c : Nat} {a2 : Option Addr} {n2 c2 : Nat} (h : Box2 w b k u q t g a n c a2 n2 c2) (hb : Below w.heap.size w w') : Box2 w' b k u q t g a n c a2 n2 c2 := ⟨h.1.later hb, h.2.later hb⟩
theorem box2_new (w : World) (ty : TypeId) (k u : Int) : Box2 ((w.alloc (.cells #[.int .i64 0, .int .i64 0, .int .i64 0, .string ⟨#[]⟩, .string ⟨#[]⟩, .slice none 0 0, .slice none 0 0] ty)).alloc (.cells #[.int .i64 k, .int .i64 u, .int .i64 0, .string ⟨#[]⟩, .string ⟨#[]⟩, .slice none 0 0, .slice none 0 0] ty)) w.heap.size k u 0 ⟨#[]⟩ ⟨#[]⟩ none 0 0 none 0 0 := by
  refine ⟨(MlAt.new w _ _ _ _ _ _ _ _ _ _ _ _).later ((Below.refl _ _).alloc (Nat.le_refl _) _), ?_⟩
  have := MlAt.new (w.alloc (.cells #[.int .i64 0, .int .i64 0, .int .i64 0, .string ⟨#[]⟩, .string ⟨#[]⟩, .slice none 0 0, .slice none 0 0] ty)) ty k u 0 ⟨#[]⟩ ⟨#[]⟩ none 0 0 none 0 0
  rw [show (w.alloc (.cells #[.int .i64 0, .int .i64 0, .int .i64 0, .string ⟨#[]⟩, .string ⟨#[]⟩, .slice none 0 0, .slice none 0 0] ty)).heap.size = w.heap.size + 1 by simp] at this
  exact this
theorem SlR.other {w : World} {b : Nat} {l : List Sl} (h : SlR w b l) {p : Addr} (hne : p.block ≠ b) (v : Value) : SlR (w.setCell p v) b l := by
  refine ⟨fun o => (frozen_setCell hne).trans (h.1 o), fun i hi => ?_⟩
  obtain ⟨b', o, e, c0, c1⟩ := h.2 i hi
  cases e
  exact ⟨b, 0, rfl, cell_setCell c0 hne, cell_setCell c1 hne⟩
theorem slr_whole {w : World} {b c : Nat} {l : List Sl} (h : SlR w b l) (hne : c ≠ b) (y0 y1 y2 y3 y4 y5 y6 : Value) :
    SlR (((((((w.setCell ⟨c, 0, none⟩ y0).setCell ⟨c, 1, none⟩ y1).setCell ⟨c, 2, none⟩ y2).setCell ⟨c, 3, none⟩ y3).setCell ⟨c, 4, none⟩ y4).setCell ⟨c, 5, none⟩ y5).setCell ⟨c, 6, none⟩ y6) b l :=
  ((((((h.other (p := ⟨c, 0, none⟩) hne _).other (p := ⟨c, 1, none⟩) hne _).other (p := ⟨c, 2, none⟩) hne _).other (p := ⟨c, 3, none⟩) hne _).other (p := ⟨c, 4, none⟩) hne _).other (p := ⟨c, 5, none⟩) hne _).other (p := ⟨c, 6, none⟩) hne _
theorem own_strAt2 {w : World} {base n : Nat} {v : Value} {l : List ByteArray} (h : w.ownsRow base 9 1 v n (scells l)) : l.length = n ∧ ∃ a cap, v = .slice a n cap ∧ StrAt w a l ∧ (a = none → n = 0 ∧ cap = 0) ∧ ∀ x, a = some x → base ≤ x.block := by
  obtain ⟨h1, a, cap, h2, h3, h4⟩ := own_strAt h
  refine ⟨h1, a, cap, h2, h3, h4, fun x hx => ?_⟩
  rcases h.2 with ⟨q, -⟩ | ⟨g, cap2, cur, q, hb, -⟩
  · rw [h2] at q; injection q with q; rw [q] at hx; cases hx
  · rw [h2] at q; injection q with q; rw [q] at hx; cases hx; exact hb
theorem StrAt.other {w : World} {a : Option Addr} {l : List ByteArray} (h : StrAt w a l) {p : Addr} (hne : ∀ x, a = some x → p.block ≠ x.block) (v : Value) : StrAt (w.setCell p v) a l := fun i hi => by
  obtain ⟨b, o, e, c⟩ := h i hi
  exact ⟨b, o, e, cell_setCell c (hne ⟨b, o, none⟩ e)⟩
theorem str_whole {w : World} {a : Option Addr} {c : Nat} {l : List ByteArray} (h : StrAt w a l) (hne : ∀ x, a = some x → c ≠ x.block) (y0 y1 y2 y3 y4 y5 y6 : Value) :
    StrAt (((((((w.setCell ⟨c, 0, none⟩ y0).setCell ⟨c, 1, none⟩ y1).setCell ⟨c, 2, none⟩ y2).setCell ⟨c, 3, none⟩ y3).setCell ⟨c, 4, none⟩ y4).setCell ⟨c, 5, none⟩ y5).setCell ⟨c, 6, none⟩ y6) a l :=
  ((((((h.other (p := ⟨c, 0, none⟩) hne _).other (p := ⟨c, 1, none⟩) hne _).other (p := ⟨c, 2, none⟩) hne _).other (p := ⟨c, 3, none⟩) hne _).other (p := ⟨c, 4, none⟩) hne _).other (p := ⟨c, 5, none⟩) hne _).other (p := ⟨c, 6, none⟩) hne _
theorem rIds_le (n : Nat) (l : List UInt8) : (rIds n l).length ≤ n := by
  induction n generalizing l with
  | zero => exact Nat.le_refl _
  | succ n ih =>
    unfold rIds
    split
    · rw [List.length_cons]; exact Nat.succ_le_succ (ih _)
    · exact Nat.zero_le _
def opl0 : Oper := { dst := some 20, op := Go.Op.move (Go.Operand.tmp 0), type := 9, pos := "mail.go:158", after := #[], guard := none }
def opl1 : Oper := { dst := some 21, op := Go.Op.index 9 (Go.Operand.tmp 20) (Go.Operand.const (Go.Value.int Go.IntKind.i64 2)), type := 5, pos := "mail.go:158", after := #[{ on := 0, ground := Go.Ground.data }], guard := none }
def opl2 : Oper := { dst := some 22, op := Go.Op.convert 5 3 (Go.Operand.tmp 21), type := 3, pos := "mail.go:158", after := #[{ on := 1, ground := Go.Ground.data }], guard := none }
def opl3 : Oper := { dst := some 23, op := Go.Op.binOp Go.BinOp.shl 3 (Go.Operand.tmp 22) (Go.Operand.const (Go.Value.int Go.IntKind.u64 24)) 92, type := 3, pos := "mail.go:158", after := #[{ on := 2, ground := Go.Ground.data }], guard := none }
def opl4 : Oper := { dst := some 24, op := Go.Op.move (Go.Operand.tmp 0), type := 9, pos := "mail.go:158", after := #[], guard := none }
def opl5 : Oper := { dst := some 25, op := Go.Op.index 9 (Go.Operand.tmp 24) (Go.Operand.const (Go.Value.int Go.IntKind.i64 3)), type := 5, pos := "mail.go:158", after := #[{ on := 4, ground := Go.Ground.data }], guard := none }
def opl6 : Oper := { dst := some 26, op := Go.Op.convert 5 3 (Go.Operand.tmp 25), type := 3, pos := "mail.go:158", after := #[{ on := 5, ground := Go.Ground.data }], guard := none }
def opl7 : Oper := { dst := some 27, op := Go.Op.binOp Go.BinOp.shl 3 (Go.Operand.tmp 26) (Go.Operand.const (Go.Value.int Go.IntKind.u64 16)) 92, type := 3, pos := "mail.go:158", after := #[{ on := 6, ground := Go.Ground.data }], guard := none }
def opl8 : Oper := { dst := some 28, op := Go.Op.binOp Go.BinOp.or 3 (Go.Operand.tmp 23) (Go.Operand.tmp 27) 3, type := 3, pos := "mail.go:158", after := #[{ on := 3, ground := Go.Ground.data }, { on := 7, ground := Go.Ground.data }], guard := none }
def opl9 : Oper := { dst := some 29, op := Go.Op.move (Go.Operand.tmp 0), type := 9, pos := "mail.go:158", after := #[], guard := none }
def opl10 : Oper := { dst := some 30, op := Go.Op.index 9 (Go.Operand.tmp 29) (Go.Operand.const (Go.Value.int Go.IntKind.i64 4)), type := 5, pos := "mail.go:158", after := #[{ on := 9, ground := Go.Ground.data }], guard := none }
def opl11 : Oper := { dst := some 31, op := Go.Op.convert 5 3 (Go.Operand.tmp 30), type := 3, pos := "mail.go:158", after := #[{ on := 10, ground := Go.Ground.data }], guard := none }
def opl12 : Oper := { dst := some 32, op := Go.Op.binOp Go.BinOp.shl 3 (Go.Operand.tmp 31) (Go.Operand.const (Go.Value.int Go.IntKind.u64 8)) 92, type := 3, pos := "mail.go:158", after := #[{ on := 11, ground := Go.Ground.data }], guard := none }
def opl13 : Oper := { dst := some 33, op := Go.Op.binOp Go.BinOp.or 3 (Go.Operand.tmp 28) (Go.Operand.tmp 32) 3, type := 3, pos := "mail.go:158", after := #[{ on := 8, ground := Go.Ground.data }, { on := 12, ground := Go.Ground.data }], guard := none }
def opl14 : Oper := { dst := some 34, op := Go.Op.move (Go.Operand.tmp 0), type := 9, pos := "mail.go:158", after := #[], guard := none }
def opl15 : Oper := { dst := some 35, op := Go.Op.index 9 (Go.Operand.tmp 34) (Go.Operand.const (Go.Value.int Go.IntKind.i64 5)), type := 5, pos := "mail.go:158", after := #[{ on := 14, ground := Go.Ground.data }], guard := none }
def opl16 : Oper := { dst := some 36, op := Go.Op.convert 5 3 (Go.Operand.tmp 35), type := 3, pos := "mail.go:158", after := #[{ on := 15, ground := Go.Ground.data }], guard := none }
def opl17 : Oper := { dst := some 37, op := Go.Op.binOp Go.BinOp.or 3 (Go.Operand.tmp 33) (Go.Operand.tmp 36) 3, type := 3, pos := "mail.go:158", after := #[{ on := 13, ground := Go.Ground.data }, { on := 16, ground := Go.Ground.data }], guard := none }
def opl18 : Oper := { dst := some 38, op := Go.Op.fieldAddr 38 (Go.Operand.tmp 3) 2, type := 0, pos := "mail.go:158", after := #[{ on := 0, ground := Go.Ground.phase }, { on := 1, ground := Go.Ground.phase }, { on := 2, ground := Go.Ground.phase }, { on := 3, ground := Go.Ground.phase }, { on := 4, ground := Go.Ground.phase }, { on := 5, ground := Go.Ground.phase }, { on := 6, ground := Go.Ground.phase }, { on := 7, ground := Go.Ground.phase }, { on := 8, ground := Go.Ground.phase }, { on := 9, ground := Go.Ground.phase }, { on := 10, ground := Go.Ground.phase }, { on := 11, ground := Go.Ground.phase }, { on := 12, ground := Go.Ground.phase }, { on := 13, ground := Go.Ground.phase }, { on := 14, ground := Go.Ground.phase }, { on := 15, ground := Go.Ground.phase }, { on := 16, ground := Go.Ground.phase }, { on := 17, ground := Go.Ground.phase }], guard := none }
def opl19 : Oper := { dst := none, op := Go.Op.store 3 (Go.Operand.tmp 38) (Go.Operand.tmp 37), type := 0, pos := "mail.go:158", after := #[{ on := 18, ground := Go.Ground.data }, { on := 17, ground := Go.Ground.data }, { on := 0, ground := Go.Ground.phase }, { on := 1, ground := Go.Ground.phase }, { on := 2, ground := Go.Ground.phase }, { on := 3, ground := Go.Ground.phase }, { on := 4, ground := Go.Ground.phase }, { on := 5, ground := Go.Ground.phase }, { on := 6, ground := Go.Ground.phase }, { on := 7, ground := Go.Ground.phase }, { on := 8, ground := Go.Ground.phase }, { on := 9, ground := Go.Ground.phase }, { on := 10, ground := Go.Ground.phase }, { on := 11, ground := Go.Ground.phase }, { on := 12, ground := Go.Ground.phase }, { on := 13, ground := Go.Ground.phase }, { on := 14, ground := Go.Ground.phase }, { on := 15, ground := Go.Ground.phase }, { on := 16, ground := Go.Ground.phase }, { on := 17, ground := Go.Ground.phase }], guard := none }
def opk0 : Oper := { dst := some 55, op := Go.Op.move (Go.Operand.tmp 0), type := 9, pos := "mail.go:166", after := #[], guard := none }
def opk1 : Oper := { dst := some 56, op := Go.Op.slice 9 (Go.Operand.tmp 55) none (some (Go.Operand.const (Go.Value.int Go.IntKind.i64 32))) none, type := 9, pos := "mail.go:166", after := #[{ on := 0, ground := Go.Ground.data }], guard := none }
def opk2 : Oper := { dst := some 57, op := Go.Op.call { callee := Go.Callee.value (Go.Operand.func 46), args := #[Go.Operand.tmp 56], argTypes := #[9] }, type := 9, pos := "mail.go:166", after := #[{ on := 1, ground := Go.Ground.data }], guard := none }
def opk3 : Oper := { dst := some 58, op := Go.Op.move (Go.Operand.tmp 0), type := 9, pos := "mail.go:166", after := #[], guard := none }
def opk4 : Oper := { dst := some 59, op := Go.Op.slice 9 (Go.Operand.tmp 58) (some (Go.Operand.const (Go.Value.int Go.IntKind.i64 32))) none none, type := 9, pos := "mail.go:166", after := #[{ on := 3, ground := Go.Ground.data }], guard := none }
def opk5 : Oper := { dst := some 60, op := Go.Op.call { callee := Go.Callee.value (Go.Operand.func 54), args := #[Go.Operand.tmp 59], argTypes := #[9] }, type := 36, pos := "mail.go:166", after := #[{ on := 4, ground := Go.Ground.data }, { on := 2, ground := Go.Ground.chain }], guard := none }
def opk6 : Oper := { dst := some 61, op := Go.Op.fieldAddr 38 (Go.Operand.tmp 3) 4, type := 0, pos := "mail.go:166", after := #[{ on := 0, ground := Go.Ground.phase }, { on := 1, ground := Go.Ground.phase }, { on := 2, ground := Go.Ground.phase }, { on := 3, ground := Go.Ground.textOnly Go.Departure.lateStores }, { on := 4, ground := Go.Ground.textOnly Go.Departure.lateStoresUnsure }, { on := 5, ground := Go.Ground.textOnly Go.Departure.lateStoresUnsure }], guard := none }
def opk7 : Oper := { dst := none, op := Go.Op.store 9 (Go.Operand.tmp 61) (Go.Operand.tmp 57), type := 0, pos := "mail.go:166", after := #[{ on := 6, ground := Go.Ground.data }, { on := 2, ground := Go.Ground.data }, { on := 5, ground := Go.Ground.chain }, { on := 0, ground := Go.Ground.phase }, { on := 1, ground := Go.Ground.phase }, { on := 2, ground := Go.Ground.phase }, { on := 3, ground := Go.Ground.textOnly Go.Departure.lateStores }, { on := 4, ground := Go.Ground.textOnly Go.Departure.lateStoresUnsure }, { on := 5, ground := Go.Ground.textOnly Go.Departure.lateStoresUnsure }], guard := none }
def opk8 : Oper := { dst := some 62, op := Go.Op.fieldAddr 38 (Go.Operand.tmp 3) 6, type := 0, pos := "mail.go:166", after := #[{ on := 0, ground := Go.Ground.phase }, { on := 1, ground := Go.Ground.phase }, { on := 2, ground := Go.Ground.phase }, { on := 3, ground := Go.Ground.phase }, { on := 4, ground := Go.Ground.phase }, { on := 5, ground := Go.Ground.phase }, { on := 6, ground := Go.Ground.phase }, { on := 7, ground := Go.Ground.phase }], guard := none }
def opk9 : Oper := { dst := none, op := Go.Op.store 36 (Go.Operand.tmp 62) (Go.Operand.tmp 60), type := 0, pos := "mail.go:166", after := #[{ on := 8, ground := Go.Ground.data }, { on := 5, ground := Go.Ground.data }, { on := 7, ground := Go.Ground.chain }, { on := 0, ground := Go.Ground.phase }, { on := 1, ground := Go.Ground.phase }, { on := 2, ground := Go.Ground.phase }, { on := 3, ground := Go.Ground.phase }, { on := 4, ground := Go.Ground.phase }, { on := 5, ground := Go.Ground.phase }, { on := 6, ground := Go.Ground.phase }, { on := 7, ground := Go.Ground.phase }], guard := none }
set_option maxHeartbeats 2000000 in
theorem read_packet (s : ByteArray) (hs : s.size = 505) (h1 : bn (by' s) 0 = 1) (w : World) :
    Calls Tryd.prog 43 #[.string s] w fun e w' => e = .returned (mv 1 0 0 (mk ((by' s).drop 1)) e0 none 0 0 none 0 0) ∧ Below w.heap.size w w' := by
  have g0 : 0 < s.size := by omega
  have b0 : (s[0].toNat : Int) = 1 := by rw [get_bn s 0 g0, h1]; rfl
  obtain ⟨y, hy⟩ : ∃ y, mk ((by' s).drop 1) = y := ⟨_, rfl⟩
  have ey : s.extract 1 505 = y := by rw [ext_tail _ _ _ (by omega), hy]
  have CL : Hid (∀ w, Calls Tryd.prog 46 #[.string y] w fun e w' => e = .returned (.string y) ∧ Below w.heap.size w w') := fun w => sclone_any y (by rw [← hy, mk_size, List.length_drop, by_len]; omega) w
  rw [hy]
  clear hy h1
  go_enter Tryd.func43, Tryd.ntmps43
  go_wp2_with fail
  refine Calls.mono (CL.out _) ?_
  rintro e w1 ⟨rfl, hb1⟩
  have B1 : Hid (Below w.heap.size w w1 ∧ Box2 w1 w.heap.size 1 0 0 ⟨#[]⟩ ⟨#[]⟩ none 0 0 none 0 0) := by
    refine ⟨chain (((Below.refl _ w).alloc (Nat.le_refl _) _).alloc (by simp) _) hb1, Box2.later ⟨?_, ?_⟩ hb1⟩
    · exact (MlAt.new w _ _ _ _ _ _ _ _ _ _ _ _).later ((Below.refl _ _).alloc (Nat.le_refl _) _)
    · have := MlAt.new (w.alloc (.cells #[.int .i64 0, .int .i64 0, .int .i64 0, .string ⟨#[]⟩, .string ⟨#[]⟩, .slice none 0 0, .slice none 0 0] 38)) 38 1 0 0 ⟨#[]⟩ ⟨#[]⟩ none 0 0 none 0 0
      rw [show (w.alloc (.cells #[.int .i64 0, .int .i64 0, .int .i64 0, .string ⟨#[]⟩, .string ⟨#[]⟩, .slice none 0 0, .slice none 0 0] 38)).heap.size = w.heap.size + 1 by simp] at this
      exact this
  clear hb1 CL
  obtain ⟨⟨f, p0, p1, p2, p3, p4, p5, p6⟩, f', q0, q1, q2, q3, q4, q5, q6⟩ := B1.out.2
  have n1 : ¬ w.heap.size + 1 = w.heap.size := by omega
  have n2 : ¬ w.heap.size = w.heap.size + 1 := by omega
  go_wp2
  refine bodyPost_ret ?_ rfl ⟨rfl, below_whole (B1.out.1.setCell (p := ⟨w.heap.size + 1, 3, none⟩) (Nat.le_succ _) _) (Nat.le_refl _) _ _ _ _ _ _ _⟩
  exact res_read _ _ w.heap.size _ _ _ _ _ _ _ _ _ _ _ (by kernel_rfl) ((B1.out.2.1.other (p := ⟨w.heap.size + 1, 3, none⟩) n1 _).whole _ _ _ _ _ _ _ _ _ _ _)
set_option maxHeartbeats 4000000 in
theorem read_2 (s : ByteArray) (hs : s.size = 38) (h1 : bn (by' s) 0 = 2) (w : World) :
    Calls Tryd.prog 43 #[.string s] w fun e w' => e = .returned (mv 2 (bn (by' s) 1) (rSeq (by' s)) e0 (mk ((by' s).drop 6)) none 0 0 none 0 0) ∧ Below w.heap.size w w' := by
  have g0 : 0 < s.size := by omega
  have g1 : 1 < s.size := by omega
  have g2 : 2 < s.size := by omega
  have g3 : 3 < s.size := by omega
  have g4 : 4 < s.size := by omega
  have g5 : 5 < s.size := by omega
  have b0 : (s[0].toNat : Int) = 2 := by rw [get_bn s 0 g0, h1]; rfl
  have b1 := get_bn s 1 g1
  have t1 : bn (by' s) 1 < 256 := ((by' s).getD 1 0).toNat_lt
  have b2 := get_bn s 2 g2
  have t2 : bn (by' s) 2 < 256 := ((by' s).getD 2 0).toNat_lt
  have b3 := get_bn s 3 g3
  have t3 : bn (by' s) 3 < 256 := ((by' s).getD 3 0).toNat_lt
  have b4 := get_bn s 4 g4
  have t4 : bn (by' s) 4 < 256 := ((by' s).getD 4 0).toNat_lt
  have b5 := get_bn s 5 g5
  have t5 : bn (by' s) 5 < 256 := ((by' s).getD 5 0).toNat_lt
  obtain ⟨Q, hQ⟩ : ∃ Q : Int, (rSeq (by' s) : Int) = Q := ⟨_, rfl⟩
  obtain ⟨u, hu⟩ : ∃ u : Int, (bn (by' s) 1 : Int) = u := ⟨_, rfl⟩
  have OR := or_seq (bn (by' s) 2) (bn (by' s) 3) (bn (by' s) 4) (bn (by' s) 5) t2 t3 t4 t5
  rw [show ((bn (by' s) 2 * 16777216 + bn (by' s) 3 * 65536 + bn (by' s) 4 * 256 + bn (by' s) 5 : Nat) : Int) = Q from hQ, ← b2, ← b3, ← b4, ← b5] at OR
  obtain ⟨x2, hx2⟩ : ∃ x : Int, (s[2].toNat : Int) = x := ⟨_, rfl⟩
  obtain ⟨x3, hx3⟩ : ∃ x : Int, (s[3].toNat : Int) = x := ⟨_, rfl⟩
  obtain ⟨x4, hx4⟩ : ∃ x : Int, (s[4].toNat : Int) = x := ⟨_, rfl⟩
  obtain ⟨x5, hx5⟩ : ∃ x : Int, (s[5].toNat : Int) = x := ⟨_, rfl⟩
  rw [hx2, hx3, hx4, hx5] at OR
  rw [hu] at b1
  have r2 : 0 ≤ x2 ∧ x2 < 256 := by rw [← hx2, b2]; omega
  have r3 : 0 ≤ x3 ∧ x3 < 256 := by rw [← hx3, b3]; omega
  have r4 : 0 ≤ x4 ∧ x4 < 256 := by rw [← hx4, b4]; omega
  have r5 : 0 ≤ x5 ∧ x5 < 256 := by rw [← hx5, b5]; omega
  have r1 : 0 ≤ u ∧ u < 256 := by rw [← hu]; omega
  have m2 : IntKind.i64.wrap (x2 * 16777216) = x2 * 16777216 := by rw [IntKind.wrap_i64]; omega
  have m3 : IntKind.i64.wrap (x3 * 65536) = x3 * 65536 := by rw [IntKind.wrap_i64]; omega
  have m4 : IntKind.i64.wrap (x4 * 256) = x4 * 256 := by rw [IntKind.wrap_i64]; omega
  have v2 : IntKind.i64.wrap x2 = x2 := by rw [IntKind.wrap_i64]; omega
  have v3 : IntKind.i64.wrap x3 = x3 := by rw [IntKind.wrap_i64]; omega
  have v4 : IntKind.i64.wrap x4 = x4 := by rw [IntKind.wrap_i64]; omega
  have v5 : IntKind.i64.wrap x5 = x5 := by rw [IntKind.wrap_i64]; omega
  have v1 : wrap64 u = u := by unfold wrap64; omega
  obtain ⟨S, hS⟩ : ∃ S, s.extract 6 38 = S := ⟨_, rfl⟩
  have SS : S.size = 32 := by rw [← hS, ext_size _ _ _ (by omega) (by omega)]
  have SB : by' S = (by' s).drop 6 := by rw [← hS, ext_tail _ _ _ (by omega), by_mk]
  rw [hQ, hu, show mk ((by' s).drop 6) = S by rw [← SB]; rfl]
  have CL : Hid (∀ w, Calls Tryd.prog 46 #[.string S] w fun e w' => e = .returned (.string S) ∧ Below w.heap.size w w') := fun w => sclone_any S (by omega) w
  clear SB SS hQ hu h1 b2 b3 b4 b5 t1 t2 t3 t4 t5 r2 r3 r4 r5 r1
  go_enter Tryd.func43, Tryd.ntmps43
  go_wp2_with fail
  obtain ⟨X, hX⟩ : ∃ X, (w.alloc (.cells #[.int .i64 0, .int .i64 0, .int .i64 0, .string ⟨#[]⟩, .string ⟨#[]⟩, .slice none 0 0, .slice none 0 0] 38)).alloc (.cells #[.int .i64 2, .int .i64 u, .int .i64 0, .string ⟨#[]⟩, .string ⟨#[]⟩, .slice none 0 0, .slice none 0 0] 38) = X := ⟨_, rfl⟩
  rw [hX]
  have F0 : Hid (Below w.heap.size w X ∧ Box2 X w.heap.size 2 u 0 ⟨#[]⟩ ⟨#[]⟩ none 0 0 none 0 0) := by
    rw [← hX]
    exact ⟨((Below.refl _ w).alloc (Nat.le_refl _) _).alloc (by simp) _, box2_new _ _ _ _⟩
  clear hX
  obtain ⟨⟨f, p0, p1, p2, p3, p4, p5, p6⟩, f', q0, q1, q2, q3, q4, q5, q6⟩ := F0.out.2
  have n1 : ¬ w.heap.size + 1 = w.heap.size := by omega
  have n2 : ¬ w.heap.size = w.heap.size + 1 := by omega
  refine wp_region_noPanic ?_
  refine wp_region_held_drew (S := fun _ => True) (by kernel_rfl) (trivial) (fun hHeld => ?_)
  refine wpAnyH_take (i := 0) (oi := opl0) (v := ?_) rfl (by kernel_rfl) (by kernel_rfl) (by kernel_rfl) (fun _ _ _ h => h) (Or.inl ⟨by rfl, ?_⟩) (by assumption) ?_
  rotate_left
  · intro w' hSw
    clear hSw
    unfold opl0
    first
    | (go_simp; done)
    | (go_simp; with_reducible rfl)
  simp only [opl0, Act.put, List.setIfInBounds_toArray, List.set_cons_zero, List.set_cons_succ]
  refine wpAnyH_take (i := 1) (oi := opl1) (v := ?_) rfl (by kernel_rfl) (by kernel_rfl) (by kernel_rfl) (fun _ _ _ h => h) (Or.inl ⟨by rfl, ?_⟩) (by assumption) ?_
  rotate_left
  · intro w' hSw
    clear hSw
    unfold opl1
    first
    | (go_simp; done)
    | (go_simp; with_reducible rfl)
  simp only [opl1, Act.put, List.setIfInBounds_toArray, List.set_cons_zero, List.set_cons_succ]
  refine wpAnyH_take (i := 2) (oi := opl2) (v := ?_) rfl (by kernel_rfl) (by kernel_rfl) (by kernel_rfl) (fun _ _ _ h => h) (Or.inl ⟨by rfl, ?_⟩) (by assumption) ?_
  rotate_left
  · intro w' hSw
    clear hSw
    unfold opl2
    first
    | (go_simp; done)
    | (go_simp; with_reducible rfl)
  simp only [opl2, Act.put, List.setIfInBounds_toArray, List.set_cons_zero, List.set_cons_succ]
  refine wpAnyH_take (i := 3) (oi := opl3) (v := ?_) rfl (by kernel_rfl) (by kernel_rfl) (by kernel_rfl) (fun _ _ _ h => h) (Or.inl ⟨by rfl, ?_⟩) (by assumption) ?_
  rotate_left
  · intro w' hSw
    clear hSw
    unfold opl3
    first
    | (go_simp; done)
    | (go_simp; with_reducible rfl)
  simp only [opl3, Act.put, List.setIfInBounds_toArray, List.set_cons_zero, List.set_cons_succ]
  refine wpAnyH_take (i := 4) (oi := opl4) (v := ?_) rfl (by kernel_rfl) (by kernel_rfl) (by kernel_rfl) (fun _ _ _ h => h) (Or.inl ⟨by rfl, ?_⟩) (by assumption) ?_
  rotate_left
  · intro w' hSw
    clear hSw
    unfold opl4
    first
    | (go_simp; done)
    | (go_simp; with_reducible rfl)
  simp only [opl4, Act.put, List.setIfInBounds_toArray, List.set_cons_zero, List.set_cons_succ]
  refine wpAnyH_take (i := 5) (oi := opl5) (v := ?_) rfl (by kernel_rfl) (by kernel_rfl) (by kernel_rfl) (fun _ _ _ h => h) (Or.inl ⟨by rfl, ?_⟩) (by assumption) ?_
  rotate_left
  · intro w' hSw
    clear hSw
    unfold opl5
    first
    | (go_simp; done)
    | (go_simp; with_reducible rfl)
  simp only [opl5, Act.put, List.setIfInBounds_toArray, List.set_cons_zero, List.set_cons_succ]
  refine wpAnyH_take (i := 6) (oi := opl6) (v := ?_) rfl (by kernel_rfl) (by kernel_rfl) (by kernel_rfl) (fun _ _ _ h => h) (Or.inl ⟨by rfl, ?_⟩) (by assumption) ?_
  rotate_left
  · intro w' hSw
    clear hSw
    unfold opl6
    first
    | (go_simp; done)
    | (go_simp; with_reducible rfl)
  simp only [opl6, Act.put, List.setIfInBounds_toArray, List.set_cons_zero, List.set_cons_succ]
  refine wpAnyH_take (i := 7) (oi := opl7) (v := ?_) rfl (by kernel_rfl) (by kernel_rfl) (by kernel_rfl) (fun _ _ _ h => h) (Or.inl ⟨by rfl, ?_⟩) (by assumption) ?_
  rotate_left
  · intro w' hSw
    clear hSw
    unfold opl7
    first
    | (go_simp; done)
    | (go_simp; with_reducible rfl)
  simp only [opl7, Act.put, List.setIfInBounds_toArray, List.set_cons_zero, List.set_cons_succ]
  refine wpAnyH_take (i := 8) (oi := opl8) (v := ?_) rfl (by kernel_rfl) (by kernel_rfl) (by kernel_rfl) (fun _ _ _ h => h) (Or.inl ⟨by rfl, ?_⟩) (by assumption) ?_
  rotate_left
  · intro w' hSw
    clear hSw
    unfold opl8
    first
    | (go_simp; done)
    | (go_simp; with_reducible rfl)
  simp only [opl8, Act.put, List.setIfInBounds_toArray, List.set_cons_zero, List.set_cons_succ]
  refine wpAnyH_take (i := 9) (oi := opl9) (v := ?_) rfl (by kernel_rfl) (by kernel_rfl) (by kernel_rfl) (fun _ _ _ h => h) (Or.inl ⟨by rfl, ?_⟩) (by assumption) ?_
  rotate_left
  · intro w' hSw
    clear hSw
    unfold opl9
    first
    | (go_simp; done)
    | (go_simp; with_reducible rfl)
  simp only [opl9, Act.put, List.setIfInBounds_toArray, List.set_cons_zero, List.set_cons_succ]
  refine wpAnyH_take (i := 10) (oi := opl10) (v := ?_) rfl (by kernel_rfl) (by kernel_rfl) (by kernel_rfl) (fun _ _ _ h => h) (Or.inl ⟨by rfl, ?_⟩) (by assumption) ?_
  rotate_left
  · intro w' hSw
    clear hSw
    unfold opl10
    first
    | (go_simp; done)
    | (go_simp; with_reducible rfl)
  simp only [opl10, Act.put, List.setIfInBounds_toArray, List.set_cons_zero, List.set_cons_succ]
  refine wpAnyH_take (i := 11) (oi := opl11) (v := ?_) rfl (by kernel_rfl) (by kernel_rfl) (by kernel_rfl) (fun _ _ _ h => h) (Or.inl ⟨by rfl, ?_⟩) (by assumption) ?_
  rotate_left
  · intro w' hSw
    clear hSw
    unfold opl11
    first
    | (go_simp; done)
    | (go_simp; with_reducible rfl)
  simp only [opl11, Act.put, List.setIfInBounds_toArray, List.set_cons_zero, List.set_cons_succ]
  refine wpAnyH_take (i := 12) (oi := opl12) (v := ?_) rfl (by kernel_rfl) (by kernel_rfl) (by kernel_rfl) (fun _ _ _ h => h) (Or.inl ⟨by rfl, ?_⟩) (by assumption) ?_
  rotate_left
  · intro w' hSw
    clear hSw
    unfold opl12
    first
    | (go_simp; done)
    | (go_simp; with_reducible rfl)
  simp only [opl12, Act.put, List.setIfInBounds_toArray, List.set_cons_zero, List.set_cons_succ]
  refine wpAnyH_take (i := 13) (oi := opl13) (v := ?_) rfl (by kernel_rfl) (by kernel_rfl) (by kernel_rfl) (fun _ _ _ h => h) (Or.inl ⟨by rfl, ?_⟩) (by assumption) ?_
  rotate_left
  · intro w' hSw
    clear hSw
    unfold opl13
    first
    | (go_simp; done)
    | (go_simp; with_reducible rfl)
  simp only [opl13, Act.put, List.setIfInBounds_toArray, List.set_cons_zero, List.set_cons_succ]
  refine wpAnyH_take (i := 14) (oi := opl14) (v := ?_) rfl (by kernel_rfl) (by kernel_rfl) (by kernel_rfl) (fun _ _ _ h => h) (Or.inl ⟨by rfl, ?_⟩) (by assumption) ?_
  rotate_left
  · intro w' hSw
    clear hSw
    unfold opl14
    first
    | (go_simp; done)
    | (go_simp; with_reducible rfl)
  simp only [opl14, Act.put, List.setIfInBounds_toArray, List.set_cons_zero, List.set_cons_succ]
  refine wpAnyH_take (i := 15) (oi := opl15) (v := ?_) rfl (by kernel_rfl) (by kernel_rfl) (by kernel_rfl) (fun _ _ _ h => h) (Or.inl ⟨by rfl, ?_⟩) (by assumption) ?_
  rotate_left
  · intro w' hSw
    clear hSw
    unfold opl15
    first
    | (go_simp; done)
    | (go_simp; with_reducible rfl)
  simp only [opl15, Act.put, List.setIfInBounds_toArray, List.set_cons_zero, List.set_cons_succ]
  refine wpAnyH_take (i := 16) (oi := opl16) (v := ?_) rfl (by kernel_rfl) (by kernel_rfl) (by kernel_rfl) (fun _ _ _ h => h) (Or.inl ⟨by rfl, ?_⟩) (by assumption) ?_
  rotate_left
  · intro w' hSw
    clear hSw
    unfold opl16
    first
    | (go_simp; done)
    | (go_simp; with_reducible rfl)
  simp only [opl16, Act.put, List.setIfInBounds_toArray, List.set_cons_zero, List.set_cons_succ]
  refine wpAnyH_take (i := 17) (oi := opl17) (v := ?_) rfl (by kernel_rfl) (by kernel_rfl) (by kernel_rfl) (fun _ _ _ h => h) (Or.inl ⟨by rfl, ?_⟩) (by assumption) ?_
  rotate_left
  · intro w' hSw
    clear hSw
    unfold opl17
    first
    | (go_simp; done)
    | (go_simp; with_reducible rfl)
  simp only [opl17, Act.put, List.setIfInBounds_toArray, List.set_cons_zero, List.set_cons_succ]
  refine wpAnyH_take (i := 18) (oi := opl18) (v := ?_) rfl (by kernel_rfl) (by kernel_rfl) (by kernel_rfl) (fun _ _ _ h => h) (Or.inl ⟨by rfl, ?_⟩) (by assumption) ?_
  rotate_left
  · intro w' hSw
    clear hSw
    unfold opl18
    first
    | (go_simp; done)
    | (go_simp; with_reducible rfl)
  simp only [opl18, Act.put, List.setIfInBounds_toArray, List.set_cons_zero, List.set_cons_succ]
  refine wpAnyH_ready (rs := [19]) (by kernel_rfl) (by simp) ?_
  refine AllReadyH.cons (o := opl19) rfl (fun KK hKK => ?_) AllReadyH.nil
  unfold opl19
  go_simp
  refine hKK.out _ _ trivial (fun hHeldZ => ?_)
  clear hKK KK
  refine wpAnyH_done (by kernel_rfl) ?_ _
  refine NoPanic.normal ?_
  obtain ⟨Y, hY⟩ : ∃ Y, (X.setCell ⟨w.heap.size + 1, 2, none⟩ (.int .i64 Q)).drew = Y := ⟨_, rfl⟩
  have F1 : Hid (Below w.heap.size w Y ∧ Box2 Y w.heap.size 2 u Q ⟨#[]⟩ ⟨#[]⟩ none 0 0 none 0 0) := by
    rw [← hY]
    exact ⟨(F0.out.1.setCell (p := ⟨w.heap.size + 1, 2, none⟩) (Nat.le_succ _) _).drew, Box2.later (w := X.setCell ⟨w.heap.size + 1, 2, none⟩ (.int .i64 Q)) ⟨F0.out.2.1.other (p := ⟨w.heap.size + 1, 2, none⟩) n1 _, F0.out.2.2.put2 Q⟩ (Below.refl _ _).drew⟩
  clear f p0 p1 p2 p3 p4 p5 p6 f' q0 q1 q2 q3 q4 q5 q6 F0 hHeldZ hHeld
  rw [hY]
  clear hY
  obtain ⟨⟨f, p0, p1, p2, p3, p4, p5, p6⟩, f', q0, q1, q2, q3, q4, q5, q6⟩ := F1.out.2
  go_wp2_with fail
  refine Calls.mono (CL.out _) ?_
  rintro e w1 ⟨rfl, hb1⟩
  have F2 : Hid (Below w.heap.size w w1 ∧ Box2 w1 w.heap.size 2 u Q ⟨#[]⟩ ⟨#[]⟩ none 0 0 none 0 0) := ⟨chain F1.out.1 hb1, F1.out.2.later hb1⟩
  clear f p0 p1 p2 p3 p4 p5 p6 f' q0 q1 q2 q3 q4 q5 q6 F1 hb1 CL
  obtain ⟨⟨f, p0, p1, p2, p3, p4, p5, p6⟩, f', q0, q1, q2, q3, q4, q5, q6⟩ := F2.out.2
  go_wp2
  refine bodyPost_ret ?_ rfl ⟨rfl, below_whole (F2.out.1.setCell (p := ⟨w.heap.size + 1, 4, none⟩) (Nat.le_succ _) _) (Nat.le_refl _) _ _ _ _ _ _ _⟩
  exact res_read _ _ w.heap.size _ _ _ _ _ _ _ _ _ _ _ (by kernel_rfl) ((F2.out.2.1.other (p := ⟨w.heap.size + 1, 4, none⟩) n1 _).whole _ _ _ _ _ _ _ _ _ _ _)
set_option maxHeartbeats 4000000 in
theorem read_3 (s : ByteArray) (hs : s.size = 962) (h1 : bn (by' s) 0 = 3) (w : World) :
    Calls Tryd.prog 43 #[.string s] w fun e w' => ∃ b, e = .returned (mv 3 (bn (by' s) 1) (rSeq (by' s)) e0 e0 (some ⟨b, 0, none⟩) 4 4 none 0 0) ∧ SlR w' b (rSlots 4 ((by' s).drop 6)) ∧ w.heap.size ≤ b ∧ Below w.heap.size w w' := by
  have g0 : 0 < s.size := by omega
  have g1 : 1 < s.size := by omega
  have g2 : 2 < s.size := by omega
  have g3 : 3 < s.size := by omega
  have g4 : 4 < s.size := by omega
  have g5 : 5 < s.size := by omega
  have b0 : (s[0].toNat : Int) = 3 := by rw [get_bn s 0 g0, h1]; rfl
  have b1 := get_bn s 1 g1
  have t1 : bn (by' s) 1 < 256 := ((by' s).getD 1 0).toNat_lt
  have b2 := get_bn s 2 g2
  have t2 : bn (by' s) 2 < 256 := ((by' s).getD 2 0).toNat_lt
  have b3 := get_bn s 3 g3
  have t3 : bn (by' s) 3 < 256 := ((by' s).getD 3 0).toNat_lt
  have b4 := get_bn s 4 g4
  have t4 : bn (by' s) 4 < 256 := ((by' s).getD 4 0).toNat_lt
  have b5 := get_bn s 5 g5
  have t5 : bn (by' s) 5 < 256 := ((by' s).getD 5 0).toNat_lt
  obtain ⟨Q, hQ⟩ : ∃ Q : Int, (rSeq (by' s) : Int) = Q := ⟨_, rfl⟩
  obtain ⟨u, hu⟩ : ∃ u : Int, (bn (by' s) 1 : Int) = u := ⟨_, rfl⟩
  have OR := or_seq (bn (by' s) 2) (bn (by' s) 3) (bn (by' s) 4) (bn (by' s) 5) t2 t3 t4 t5
  rw [show ((bn (by' s) 2 * 16777216 + bn (by' s) 3 * 65536 + bn (by' s) 4 * 256 + bn (by' s) 5 : Nat) : Int) = Q from hQ, ← b2, ← b3, ← b4, ← b5] at OR
  obtain ⟨x2, hx2⟩ : ∃ x : Int, (s[2].toNat : Int) = x := ⟨_, rfl⟩
  obtain ⟨x3, hx3⟩ : ∃ x : Int, (s[3].toNat : Int) = x := ⟨_, rfl⟩
  obtain ⟨x4, hx4⟩ : ∃ x : Int, (s[4].toNat : Int) = x := ⟨_, rfl⟩
  obtain ⟨x5, hx5⟩ : ∃ x : Int, (s[5].toNat : Int) = x := ⟨_, rfl⟩
  rw [hx2, hx3, hx4, hx5] at OR
  rw [hu] at b1
  have r2 : 0 ≤ x2 ∧ x2 < 256 := by rw [← hx2, b2]; omega
  have r3 : 0 ≤ x3 ∧ x3 < 256 := by rw [← hx3, b3]; omega
  have r4 : 0 ≤ x4 ∧ x4 < 256 := by rw [← hx4, b4]; omega
  have r5 : 0 ≤ x5 ∧ x5 < 256 := by rw [← hx5, b5]; omega
  have r1 : 0 ≤ u ∧ u < 256 := by rw [← hu]; omega
  have m2 : IntKind.i64.wrap (x2 * 16777216) = x2 * 16777216 := by rw [IntKind.wrap_i64]; omega
  have m3 : IntKind.i64.wrap (x3 * 65536) = x3 * 65536 := by rw [IntKind.wrap_i64]; omega
  have m4 : IntKind.i64.wrap (x4 * 256) = x4 * 256 := by rw [IntKind.wrap_i64]; omega
  have v2 : IntKind.i64.wrap x2 = x2 := by rw [IntKind.wrap_i64]; omega
  have v3 : IntKind.i64.wrap x3 = x3 := by rw [IntKind.wrap_i64]; omega
  have v4 : IntKind.i64.wrap x4 = x4 := by rw [IntKind.wrap_i64]; omega
  have v5 : IntKind.i64.wrap x5 = x5 := by rw [IntKind.wrap_i64]; omega
  have v1 : wrap64 u = u := by unfold wrap64; omega
  obtain ⟨S, hS⟩ : ∃ S, s.extract 6 962 = S := ⟨_, rfl⟩
  have SS : S.size = 956 := by rw [← hS, ext_size _ _ _ (by omega) (by omega)]
  have SB : by' S = (by' s).drop 6 := by rw [← hS, ext_tail _ _ _ (by omega), by_mk]
  rw [hQ, hu, ← SB]
  have RD : Hid (∀ w, Calls Tryd.prog 53 #[.string S] w fun e w' => e = .returned (.slice (some ⟨w.heap.size, 0, none⟩) 4 4) ∧ SlR w' w.heap.size (rSlots 4 (by' S)) ∧ Below w.heap.size w w') := fun w => readSlots_any S SS w
  obtain ⟨SL, hSL⟩ : ∃ l, rSlots 4 (by' S) = l := ⟨_, rfl⟩
  have HL : Hid (SL.length = 4) := by show _ = _; rw [← hSL]; exact rSlots_len _ _
  rw [hSL] at RD ⊢
  clear hSL
  clear SB SS hQ hu h1 b2 b3 b4 b5 t1 t2 t3 t4 t5 r2 r3 r4 r5 r1
  go_enter Tryd.func43, Tryd.ntmps43
  go_wp2_with fail
  obtain ⟨X, hX⟩ : ∃ X, (w.alloc (.cells #[.int .i64 0, .int .i64 0, .int .i64 0, .string ⟨#[]⟩, .string ⟨#[]⟩, .slice none 0 0, .slice none 0 0] 38)).alloc (.cells #[.int .i64 3, .int .i64 u, .int .i64 0, .string ⟨#[]⟩, .string ⟨#[]⟩, .slice none 0 0, .slice none 0 0] 38) = X := ⟨_, rfl⟩
  rw [hX]
  have F0 : Hid (Below w.heap.size w X ∧ Box2 X w.heap.size 3 u 0 ⟨#[]⟩ ⟨#[]⟩ none 0 0 none 0 0) := by
    rw [← hX]
    exact ⟨((Below.refl _ w).alloc (Nat.le_refl _) _).alloc (by simp) _, box2_new _ _ _ _⟩
  clear hX
  obtain ⟨⟨f, p0, p1, p2, p3, p4, p5, p6⟩, f', q0, q1, q2, q3, q4, q5, q6⟩ := F0.out.2
  have n1 : ¬ w.heap.size + 1 = w.heap.size := by omega
  have n2 : ¬ w.heap.size = w.heap.size + 1 := by omega
  refine wp_region_noPanic ?_
  refine wp_region_held_drew (S := fun _ => True) (by kernel_rfl) (trivial) (fun hHeld => ?_)
  refine wpAnyH_take (i := 0) (oi := opl0) (v := ?_) rfl (by kernel_rfl) (by kernel_rfl) (by kernel_rfl) (fun _ _ _ h => h) (Or.inl ⟨by rfl, ?_⟩) (by assumption) ?_
  rotate_left
  · intro w' hSw
    clear hSw
    unfold opl0
    first
    | (go_simp; done)
    | (go_simp; with_reducible rfl)
  simp only [opl0, Act.put, List.setIfInBounds_toArray, List.set_cons_zero, List.set_cons_succ]
  refine wpAnyH_take (i := 1) (oi := opl1) (v := ?_) rfl (by kernel_rfl) (by kernel_rfl) (by kernel_rfl) (fun _ _ _ h => h) (Or.inl ⟨by rfl, ?_⟩) (by assumption) ?_
  rotate_left
  · intro w' hSw
    clear hSw
    unfold opl1
    first
    | (go_simp; done)
    | (go_simp; with_reducible rfl)
  simp only [opl1, Act.put, List.setIfInBounds_toArray, List.set_cons_zero, List.set_cons_succ]
  refine wpAnyH_take (i := 2) (oi := opl2) (v := ?_) rfl (by kernel_rfl) (by kernel_rfl) (by kernel_rfl) (fun _ _ _ h => h) (Or.inl ⟨by rfl, ?_⟩) (by assumption) ?_
  rotate_left
  · intro w' hSw
    clear hSw
    unfold opl2
    first
    | (go_simp; done)
    | (go_simp; with_reducible rfl)
  simp only [opl2, Act.put, List.setIfInBounds_toArray, List.set_cons_zero, List.set_cons_succ]
  refine wpAnyH_take (i := 3) (oi := opl3) (v := ?_) rfl (by kernel_rfl) (by kernel_rfl) (by kernel_rfl) (fun _ _ _ h => h) (Or.inl ⟨by rfl, ?_⟩) (by assumption) ?_
  rotate_left
  · intro w' hSw
    clear hSw
    unfold opl3
    first
    | (go_simp; done)
    | (go_simp; with_reducible rfl)
  simp only [opl3, Act.put, List.setIfInBounds_toArray, List.set_cons_zero, List.set_cons_succ]
  refine wpAnyH_take (i := 4) (oi := opl4) (v := ?_) rfl (by kernel_rfl) (by kernel_rfl) (by kernel_rfl) (fun _ _ _ h => h) (Or.inl ⟨by rfl, ?_⟩) (by assumption) ?_
  rotate_left
  · intro w' hSw
    clear hSw
    unfold opl4
    first
    | (go_simp; done)
    | (go_simp; with_reducible rfl)
  simp only [opl4, Act.put, List.setIfInBounds_toArray, List.set_cons_zero, List.set_cons_succ]
  refine wpAnyH_take (i := 5) (oi := opl5) (v := ?_) rfl (by kernel_rfl) (by kernel_rfl) (by kernel_rfl) (fun _ _ _ h => h) (Or.inl ⟨by rfl, ?_⟩) (by assumption) ?_
  rotate_left
  · intro w' hSw
    clear hSw
    unfold opl5
    first
    | (go_simp; done)
    | (go_simp; with_reducible rfl)
  simp only [opl5, Act.put, List.setIfInBounds_toArray, List.set_cons_zero, List.set_cons_succ]
  refine wpAnyH_take (i := 6) (oi := opl6) (v := ?_) rfl (by kernel_rfl) (by kernel_rfl) (by kernel_rfl) (fun _ _ _ h => h) (Or.inl ⟨by rfl, ?_⟩) (by assumption) ?_
  rotate_left
  · intro w' hSw
    clear hSw
    unfold opl6
    first
    | (go_simp; done)
    | (go_simp; with_reducible rfl)
  simp only [opl6, Act.put, List.setIfInBounds_toArray, List.set_cons_zero, List.set_cons_succ]
  refine wpAnyH_take (i := 7) (oi := opl7) (v := ?_) rfl (by kernel_rfl) (by kernel_rfl) (by kernel_rfl) (fun _ _ _ h => h) (Or.inl ⟨by rfl, ?_⟩) (by assumption) ?_
  rotate_left
  · intro w' hSw
    clear hSw
    unfold opl7
    first
    | (go_simp; done)
    | (go_simp; with_reducible rfl)
  simp only [opl7, Act.put, List.setIfInBounds_toArray, List.set_cons_zero, List.set_cons_succ]
  refine wpAnyH_take (i := 8) (oi := opl8) (v := ?_) rfl (by kernel_rfl) (by kernel_rfl) (by kernel_rfl) (fun _ _ _ h => h) (Or.inl ⟨by rfl, ?_⟩) (by assumption) ?_
  rotate_left
  · intro w' hSw
    clear hSw
    unfold opl8
    first
    | (go_simp; done)
    | (go_simp; with_reducible rfl)
  simp only [opl8, Act.put, List.setIfInBounds_toArray, List.set_cons_zero, List.set_cons_succ]
  refine wpAnyH_take (i := 9) (oi := opl9) (v := ?_) rfl (by kernel_rfl) (by kernel_rfl) (by kernel_rfl) (fun _ _ _ h => h) (Or.inl ⟨by rfl, ?_⟩) (by assumption) ?_
  rotate_left
  · intro w' hSw
    clear hSw
    unfold opl9
    first
    | (go_simp; done)
    | (go_simp; with_reducible rfl)
  simp only [opl9, Act.put, List.setIfInBounds_toArray, List.set_cons_zero, List.set_cons_succ]
  refine wpAnyH_take (i := 10) (oi := opl10) (v := ?_) rfl (by kernel_rfl) (by kernel_rfl) (by kernel_rfl) (fun _ _ _ h => h) (Or.inl ⟨by rfl, ?_⟩) (by assumption) ?_
  rotate_left
  · intro w' hSw
    clear hSw
    unfold opl10
    first
    | (go_simp; done)
    | (go_simp; with_reducible rfl)
  simp only [opl10, Act.put, List.setIfInBounds_toArray, List.set_cons_zero, List.set_cons_succ]
  refine wpAnyH_take (i := 11) (oi := opl11) (v := ?_) rfl (by kernel_rfl) (by kernel_rfl) (by kernel_rfl) (fun _ _ _ h => h) (Or.inl ⟨by rfl, ?_⟩) (by assumption) ?_
  rotate_left
  · intro w' hSw
    clear hSw
    unfold opl11
    first
    | (go_simp; done)
    | (go_simp; with_reducible rfl)
  simp only [opl11, Act.put, List.setIfInBounds_toArray, List.set_cons_zero, List.set_cons_succ]
  refine wpAnyH_take (i := 12) (oi := opl12) (v := ?_) rfl (by kernel_rfl) (by kernel_rfl) (by kernel_rfl) (fun _ _ _ h => h) (Or.inl ⟨by rfl, ?_⟩) (by assumption) ?_
  rotate_left
  · intro w' hSw
    clear hSw
    unfold opl12
    first
    | (go_simp; done)
    | (go_simp; with_reducible rfl)
  simp only [opl12, Act.put, List.setIfInBounds_toArray, List.set_cons_zero, List.set_cons_succ]
  refine wpAnyH_take (i := 13) (oi := opl13) (v := ?_) rfl (by kernel_rfl) (by kernel_rfl) (by kernel_rfl) (fun _ _ _ h => h) (Or.inl ⟨by rfl, ?_⟩) (by assumption) ?_
  rotate_left
  · intro w' hSw
    clear hSw
    unfold opl13
    first
    | (go_simp; done)
    | (go_simp; with_reducible rfl)
  simp only [opl13, Act.put, List.setIfInBounds_toArray, List.set_cons_zero, List.set_cons_succ]
  refine wpAnyH_take (i := 14) (oi := opl14) (v := ?_) rfl (by kernel_rfl) (by kernel_rfl) (by kernel_rfl) (fun _ _ _ h => h) (Or.inl ⟨by rfl, ?_⟩) (by assumption) ?_
  rotate_left
  · intro w' hSw
    clear hSw
    unfold opl14
    first
    | (go_simp; done)
    | (go_simp; with_reducible rfl)
  simp only [opl14, Act.put, List.setIfInBounds_toArray, List.set_cons_zero, List.set_cons_succ]
  refine wpAnyH_take (i := 15) (oi := opl15) (v := ?_) rfl (by kernel_rfl) (by kernel_rfl) (by kernel_rfl) (fun _ _ _ h => h) (Or.inl ⟨by rfl, ?_⟩) (by assumption) ?_
  rotate_left
  · intro w' hSw
    clear hSw
    unfold opl15
    first
    | (go_simp; done)
    | (go_simp; with_reducible rfl)
  simp only [opl15, Act.put, List.setIfInBounds_toArray, List.set_cons_zero, List.set_cons_succ]
  refine wpAnyH_take (i := 16) (oi := opl16) (v := ?_) rfl (by kernel_rfl) (by kernel_rfl) (by kernel_rfl) (fun _ _ _ h => h) (Or.inl ⟨by rfl, ?_⟩) (by assumption) ?_
  rotate_left
  · intro w' hSw
    clear hSw
    unfold opl16
    first
    | (go_simp; done)
    | (go_simp; with_reducible rfl)
  simp only [opl16, Act.put, List.setIfInBounds_toArray, List.set_cons_zero, List.set_cons_succ]
  refine wpAnyH_take (i := 17) (oi := opl17) (v := ?_) rfl (by kernel_rfl) (by kernel_rfl) (by kernel_rfl) (fun _ _ _ h => h) (Or.inl ⟨by rfl, ?_⟩) (by assumption) ?_
  rotate_left
  · intro w' hSw
    clear hSw
    unfold opl17
    first
    | (go_simp; done)
    | (go_simp; with_reducible rfl)
  simp only [opl17, Act.put, List.setIfInBounds_toArray, List.set_cons_zero, List.set_cons_succ]
  refine wpAnyH_take (i := 18) (oi := opl18) (v := ?_) rfl (by kernel_rfl) (by kernel_rfl) (by kernel_rfl) (fun _ _ _ h => h) (Or.inl ⟨by rfl, ?_⟩) (by assumption) ?_
  rotate_left
  · intro w' hSw
    clear hSw
    unfold opl18
    first
    | (go_simp; done)
    | (go_simp; with_reducible rfl)
  simp only [opl18, Act.put, List.setIfInBounds_toArray, List.set_cons_zero, List.set_cons_succ]
  refine wpAnyH_ready (rs := [19]) (by kernel_rfl) (by simp) ?_
  refine AllReadyH.cons (o := opl19) rfl (fun KK hKK => ?_) AllReadyH.nil
  unfold opl19
  go_simp
  refine hKK.out _ _ trivial (fun hHeldZ => ?_)
  clear hKK KK
  refine wpAnyH_done (by kernel_rfl) ?_ _
  refine NoPanic.normal ?_
  obtain ⟨Y, hY⟩ : ∃ Y, (X.setCell ⟨w.heap.size + 1, 2, none⟩ (.int .i64 Q)).drew = Y := ⟨_, rfl⟩
  have F1 : Hid (Below w.heap.size w Y ∧ Box2 Y w.heap.size 3 u Q ⟨#[]⟩ ⟨#[]⟩ none 0 0 none 0 0) := by
    rw [← hY]
    exact ⟨(F0.out.1.setCell (p := ⟨w.heap.size + 1, 2, none⟩) (Nat.le_succ _) _).drew, Box2.later (w := X.setCell ⟨w.heap.size + 1, 2, none⟩ (.int .i64 Q)) ⟨F0.out.2.1.other (p := ⟨w.heap.size + 1, 2, none⟩) n1 _, F0.out.2.2.put2 Q⟩ (Below.refl _ _).drew⟩
  clear f p0 p1 p2 p3 p4 p5 p6 f' q0 q1 q2 q3 q4 q5 q6 F0 hHeldZ hHeld
  rw [hY]
  clear hY
  obtain ⟨⟨f, p0, p1, p2, p3, p4, p5, p6⟩, f', q0, q1, q2, q3, q4, q5, q6⟩ := F1.out.2
  go_wp2_with fail
  refine Calls.mono (RD.out _) ?_
  rintro e w1 ⟨rfl, hr1, hb1⟩
  obtain ⟨B, hB⟩ : ∃ B, Y.heap.size = B := ⟨_, rfl⟩
  have F2 : Hid (Below w.heap.size w w1 ∧ Box2 w1 w.heap.size 3 u Q ⟨#[]⟩ ⟨#[]⟩ none 0 0 none 0 0 ∧ SlR w1 B SL ∧ w.heap.size + 1 < B) := ⟨chain F1.out.1 hb1, F1.out.2.later hb1, hB ▸ hr1, hB ▸ F1.out.2.2.lt⟩
  rw [hB]
  clear f p0 p1 p2 p3 p4 p5 p6 f' q0 q1 q2 q3 q4 q5 q6 F1 hb1 hr1 RD hB
  obtain ⟨⟨f, p0, p1, p2, p3, p4, p5, p6⟩, f', q0, q1, q2, q3, q4, q5, q6⟩ := F2.out.2.1
  go_wp2
  refine bodyPost_ret ?_ rfl ⟨B, rfl, ?_, by have := F2.out.2.2.2; omega, below_whole (F2.out.1.setCell (p := ⟨w.heap.size + 1, 5, none⟩) (Nat.le_succ _) _) (Nat.le_refl _) _ _ _ _ _ _ _⟩
  · exact res_read _ _ w.heap.size _ _ _ _ _ _ _ _ _ _ _ (by kernel_rfl) ((F2.out.2.1.1.other (p := ⟨w.heap.size + 1, 5, none⟩) n1 _).whole _ _ _ _ _ _ _ _ _ _ _)
  · have l := F2.out.2.2.2
    have e1 : w.heap.size + 1 ≠ B := by omega
    have e2 : w.heap.size ≠ B := by omega
    exact slr_whole (F2.out.2.2.1.other (p := ⟨w.heap.size + 1, 5, none⟩) e1 _) e2 _ _ _ _ _ _ _
set_option maxHeartbeats 4000000 in
theorem read_4 (s : ByteArray) (hs : s.size = 102) (h1 : bn (by' s) 0 = 4) (w : World) :
    Calls Tryd.prog 43 #[.string s] w fun e w' => ∃ a2 c2, e = .returned (mv 4 (bn (by' s) 1) (rSeq (by' s)) e0 (mk (((by' s).drop 6).take 32)) none 0 0 a2 (rIds 4 ((by' s).drop 38)).length c2) ∧ Lists w' none 0 0 a2 (rIds 4 ((by' s).drop 38)).length c2 [] (rIds 4 ((by' s).drop 38)) ∧ (∀ x, a2 = some x → w.heap.size ≤ x.block) ∧ Below w.heap.size w w' := by
  have g0 : 0 < s.size := by omega
  have g1 : 1 < s.size := by omega
  have g2 : 2 < s.size := by omega
  have g3 : 3 < s.size := by omega
  have g4 : 4 < s.size := by omega
  have g5 : 5 < s.size := by omega
  have b0 : (s[0].toNat : Int) = 4 := by rw [get_bn s 0 g0, h1]; rfl
  have b1 := get_bn s 1 g1
  have t1 : bn (by' s) 1 < 256 := ((by' s).getD 1 0).toNat_lt
  have b2 := get_bn s 2 g2
  have t2 : bn (by' s) 2 < 256 := ((by' s).getD 2 0).toNat_lt
  have b3 := get_bn s 3 g3
  have t3 : bn (by' s) 3 < 256 := ((by' s).getD 3 0).toNat_lt
  have b4 := get_bn s 4 g4
  have t4 : bn (by' s) 4 < 256 := ((by' s).getD 4 0).toNat_lt
  have b5 := get_bn s 5 g5
  have t5 : bn (by' s) 5 < 256 := ((by' s).getD 5 0).toNat_lt
  obtain ⟨Q, hQ⟩ : ∃ Q : Int, (rSeq (by' s) : Int) = Q := ⟨_, rfl⟩
  obtain ⟨u, hu⟩ : ∃ u : Int, (bn (by' s) 1 : Int) = u := ⟨_, rfl⟩
  have OR := or_seq (bn (by' s) 2) (bn (by' s) 3) (bn (by' s) 4) (bn (by' s) 5) t2 t3 t4 t5
  rw [show ((bn (by' s) 2 * 16777216 + bn (by' s) 3 * 65536 + bn (by' s) 4 * 256 + bn (by' s) 5 : Nat) : Int) = Q from hQ, ← b2, ← b3, ← b4, ← b5] at OR
  obtain ⟨x2, hx2⟩ : ∃ x : Int, (s[2].toNat : Int) = x := ⟨_, rfl⟩
  obtain ⟨x3, hx3⟩ : ∃ x : Int, (s[3].toNat : Int) = x := ⟨_, rfl⟩
  obtain ⟨x4, hx4⟩ : ∃ x : Int, (s[4].toNat : Int) = x := ⟨_, rfl⟩
  obtain ⟨x5, hx5⟩ : ∃ x : Int, (s[5].toNat : Int) = x := ⟨_, rfl⟩
  rw [hx2, hx3, hx4, hx5] at OR
  rw [hu] at b1
  have r2 : 0 ≤ x2 ∧ x2 < 256 := by rw [← hx2, b2]; omega
  have r3 : 0 ≤ x3 ∧ x3 < 256 := by rw [← hx3, b3]; omega
  have r4 : 0 ≤ x4 ∧ x4 < 256 := by rw [← hx4, b4]; omega
  have r5 : 0 ≤ x5 ∧ x5 < 256 := by rw [← hx5, b5]; omega
  have r1 : 0 ≤ u ∧ u < 256 := by rw [← hu]; omega
  have m2 : IntKind.i64.wrap (x2 * 16777216) = x2 * 16777216 := by rw [IntKind.wrap_i64]; omega
  have m3 : IntKind.i64.wrap (x3 * 65536) = x3 * 65536 := by rw [IntKind.wrap_i64]; omega
  have m4 : IntKind.i64.wrap (x4 * 256) = x4 * 256 := by rw [IntKind.wrap_i64]; omega
  have v2 : IntKind.i64.wrap x2 = x2 := by rw [IntKind.wrap_i64]; omega
  have v3 : IntKind.i64.wrap x3 = x3 := by rw [IntKind.wrap_i64]; omega
  have v4 : IntKind.i64.wrap x4 = x4 := by rw [IntKind.wrap_i64]; omega
  have v5 : IntKind.i64.wrap x5 = x5 := by rw [IntKind.wrap_i64]; omega
  have v1 : wrap64 u = u := by unfold wrap64; omega
  obtain ⟨S, hS⟩ : ∃ S, s.extract 6 102 = S := ⟨_, rfl⟩
  have SS : S.size = 96 := by rw [← hS, ext_size _ _ _ (by omega) (by omega)]
  have SB : by' S = (by' s).drop 6 := by rw [← hS, ext_tail _ _ _ (by omega), by_mk]
  obtain ⟨y, hy⟩ : ∃ y, S.extract 0 32 = y := ⟨_, rfl⟩
  obtain ⟨z, hz⟩ : ∃ z, S.extract 32 96 = z := ⟨_, rfl⟩
  have ez : by' z = (by' s).drop 38 := by rw [← hz, ext_tail _ _ _ (by omega), by_mk, SB, List.drop_drop]
  have zs : z.size = 64 := by rw [← hz, ext_size _ _ _ (by omega) (by omega)]
  rw [hQ, hu, ← SB, show mk ((by' S).take 32) = y by rw [← ext_head]; exact hy, ← ez]
  have CL : Hid (∀ w, Calls Tryd.prog 46 #[.string y] w fun e w' => e = .returned (.string y) ∧ Below w.heap.size w w') := fun w => sclone_any y (by rw [← hy, ext_size _ _ _ (by omega) (by omega)]; decide) w
  have RI : Hid (∀ w, Calls Tryd.prog 54 #[.string z] w fun e w' => ∃ v, e = .returned v ∧ w'.ownsRow w.heap.size 9 1 v (rIds 4 (by' z)).length (scells (rIds 4 (by' z))) ∧ Below w.heap.size w w') := fun w => readIds_any z zs w
  obtain ⟨IL, hIL⟩ : ∃ l, rIds 4 (by' z) = l := ⟨_, rfl⟩
  have IH : Hid (IL.length ≤ 4) := by show _ ≤ _; rw [← hIL]; exact rIds_le 4 _
  rw [hIL] at RI ⊢
  clear hIL
  clear SB ez zs hQ hu h1 b2 b3 b4 b5 t1 t2 t3 t4 t5 r2 r3 r4 r5 r1
  go_enter Tryd.func43, Tryd.ntmps43
  go_wp2_with fail
  obtain ⟨X, hX⟩ : ∃ X, (w.alloc (.cells #[.int .i64 0, .int .i64 0, .int .i64 0, .string ⟨#[]⟩, .string ⟨#[]⟩, .slice none 0 0, .slice none 0 0] 38)).alloc (.cells #[.int .i64 4, .int .i64 u, .int .i64 0, .string ⟨#[]⟩, .string ⟨#[]⟩, .slice none 0 0, .slice none 0 0] 38) = X := ⟨_, rfl⟩
  rw [hX]
  have F0 : Hid (Below w.heap.size w X ∧ Box2 X w.heap.size 4 u 0 ⟨#[]⟩ ⟨#[]⟩ none 0 0 none 0 0) := by
    rw [← hX]
    exact ⟨((Below.refl _ w).alloc (Nat.le_refl _) _).alloc (by simp) _, box2_new _ _ _ _⟩
  clear hX
  obtain ⟨⟨f, p0, p1, p2, p3, p4, p5, p6⟩, f', q0, q1, q2, q3, q4, q5, q6⟩ := F0.out.2
  have n1 : ¬ w.heap.size + 1 = w.heap.size := by omega
  have n2 : ¬ w.heap.size = w.heap.size + 1 := by omega
  refine wp_region_noPanic ?_
  refine wp_region_held_drew (S := fun _ => True) (by kernel_rfl) (trivial) (fun hHeld => ?_)
  refine wpAnyH_take (i := 0) (oi := opl0) (v := ?_) rfl (by kernel_rfl) (by kernel_rfl) (by kernel_rfl) (fun _ _ _ h => h) (Or.inl ⟨by rfl, ?_⟩) (by assumption) ?_
  rotate_left
  · intro w' hSw
    clear hSw
    unfold opl0
    first
    | (go_simp; done)
    | (go_simp; with_reducible rfl)
  simp only [opl0, Act.put, List.setIfInBounds_toArray, List.set_cons_zero, List.set_cons_succ]
  refine wpAnyH_take (i := 1) (oi := opl1) (v := ?_) rfl (by kernel_rfl) (by kernel_rfl) (by kernel_rfl) (fun _ _ _ h => h) (Or.inl ⟨by rfl, ?_⟩) (by assumption) ?_
  rotate_left
  · intro w' hSw
    clear hSw
    unfold opl1
    first
    | (go_simp; done)
    | (go_simp; with_reducible rfl)
  simp only [opl1, Act.put, List.setIfInBounds_toArray, List.set_cons_zero, List.set_cons_succ]
  refine wpAnyH_take (i := 2) (oi := opl2) (v := ?_) rfl (by kernel_rfl) (by kernel_rfl) (by kernel_rfl) (fun _ _ _ h => h) (Or.inl ⟨by rfl, ?_⟩) (by assumption) ?_
  rotate_left
  · intro w' hSw
    clear hSw
    unfold opl2
    first
    | (go_simp; done)
    | (go_simp; with_reducible rfl)
  simp only [opl2, Act.put, List.setIfInBounds_toArray, List.set_cons_zero, List.set_cons_succ]
  refine wpAnyH_take (i := 3) (oi := opl3) (v := ?_) rfl (by kernel_rfl) (by kernel_rfl) (by kernel_rfl) (fun _ _ _ h => h) (Or.inl ⟨by rfl, ?_⟩) (by assumption) ?_
  rotate_left
  · intro w' hSw
    clear hSw
    unfold opl3
    first
    | (go_simp; done)
    | (go_simp; with_reducible rfl)
  simp only [opl3, Act.put, List.setIfInBounds_toArray, List.set_cons_zero, List.set_cons_succ]
  refine wpAnyH_take (i := 4) (oi := opl4) (v := ?_) rfl (by kernel_rfl) (by kernel_rfl) (by kernel_rfl) (fun _ _ _ h => h) (Or.inl ⟨by rfl, ?_⟩) (by assumption) ?_
  rotate_left
  · intro w' hSw
    clear hSw
    unfold opl4
    first
    | (go_simp; done)
    | (go_simp; with_reducible rfl)
  simp only [opl4, Act.put, List.setIfInBounds_toArray, List.set_cons_zero, List.set_cons_succ]
  refine wpAnyH_take (i := 5) (oi := opl5) (v := ?_) rfl (by kernel_rfl) (by kernel_rfl) (by kernel_rfl) (fun _ _ _ h => h) (Or.inl ⟨by rfl, ?_⟩) (by assumption) ?_
  rotate_left
  · intro w' hSw
    clear hSw
    unfold opl5
    first
    | (go_simp; done)
    | (go_simp; with_reducible rfl)
  simp only [opl5, Act.put, List.setIfInBounds_toArray, List.set_cons_zero, List.set_cons_succ]
  refine wpAnyH_take (i := 6) (oi := opl6) (v := ?_) rfl (by kernel_rfl) (by kernel_rfl) (by kernel_rfl) (fun _ _ _ h => h) (Or.inl ⟨by rfl, ?_⟩) (by assumption) ?_
  rotate_left
  · intro w' hSw
    clear hSw
    unfold opl6
    first
    | (go_simp; done)
    | (go_simp; with_reducible rfl)
  simp only [opl6, Act.put, List.setIfInBounds_toArray, List.set_cons_zero, List.set_cons_succ]
  refine wpAnyH_take (i := 7) (oi := opl7) (v := ?_) rfl (by kernel_rfl) (by kernel_rfl) (by kernel_rfl) (fun _ _ _ h => h) (Or.inl ⟨by rfl, ?_⟩) (by assumption) ?_
  rotate_left
  · intro w' hSw
    clear hSw
    unfold opl7
    first
    | (go_simp; done)
    | (go_simp; with_reducible rfl)
  simp only [opl7, Act.put, List.setIfInBounds_toArray, List.set_cons_zero, List.set_cons_succ]
  refine wpAnyH_take (i := 8) (oi := opl8) (v := ?_) rfl (by kernel_rfl) (by kernel_rfl) (by kernel_rfl) (fun _ _ _ h => h) (Or.inl ⟨by rfl, ?_⟩) (by assumption) ?_
  rotate_left
  · intro w' hSw
    clear hSw
    unfold opl8
    first
    | (go_simp; done)
    | (go_simp; with_reducible rfl)
  simp only [opl8, Act.put, List.setIfInBounds_toArray, List.set_cons_zero, List.set_cons_succ]
  refine wpAnyH_take (i := 9) (oi := opl9) (v := ?_) rfl (by kernel_rfl) (by kernel_rfl) (by kernel_rfl) (fun _ _ _ h => h) (Or.inl ⟨by rfl, ?_⟩) (by assumption) ?_
  rotate_left
  · intro w' hSw
    clear hSw
    unfold opl9
    first
    | (go_simp; done)
    | (go_simp; with_reducible rfl)
  simp only [opl9, Act.put, List.setIfInBounds_toArray, List.set_cons_zero, List.set_cons_succ]
  refine wpAnyH_take (i := 10) (oi := opl10) (v := ?_) rfl (by kernel_rfl) (by kernel_rfl) (by kernel_rfl) (fun _ _ _ h => h) (Or.inl ⟨by rfl, ?_⟩) (by assumption) ?_
  rotate_left
  · intro w' hSw
    clear hSw
    unfold opl10
    first
    | (go_simp; done)
    | (go_simp; with_reducible rfl)
  simp only [opl10, Act.put, List.setIfInBounds_toArray, List.set_cons_zero, List.set_cons_succ]
  refine wpAnyH_take (i := 11) (oi := opl11) (v := ?_) rfl (by kernel_rfl) (by kernel_rfl) (by kernel_rfl) (fun _ _ _ h => h) (Or.inl ⟨by rfl, ?_⟩) (by assumption) ?_
  rotate_left
  · intro w' hSw
    clear hSw
    unfold opl11
    first
    | (go_simp; done)
    | (go_simp; with_reducible rfl)
  simp only [opl11, Act.put, List.setIfInBounds_toArray, List.set_cons_zero, List.set_cons_succ]
  refine wpAnyH_take (i := 12) (oi := opl12) (v := ?_) rfl (by kernel_rfl) (by kernel_rfl) (by kernel_rfl) (fun _ _ _ h => h) (Or.inl ⟨by rfl, ?_⟩) (by assumption) ?_
  rotate_left
  · intro w' hSw
    clear hSw
    unfold opl12
    first
    | (go_simp; done)
    | (go_simp; with_reducible rfl)
  simp only [opl12, Act.put, List.setIfInBounds_toArray, List.set_cons_zero, List.set_cons_succ]
  refine wpAnyH_take (i := 13) (oi := opl13) (v := ?_) rfl (by kernel_rfl) (by kernel_rfl) (by kernel_rfl) (fun _ _ _ h => h) (Or.inl ⟨by rfl, ?_⟩) (by assumption) ?_
  rotate_left
  · intro w' hSw
    clear hSw
    unfold opl13
    first
    | (go_simp; done)
    | (go_simp; with_reducible rfl)
  simp only [opl13, Act.put, List.setIfInBounds_toArray, List.set_cons_zero, List.set_cons_succ]
  refine wpAnyH_take (i := 14) (oi := opl14) (v := ?_) rfl (by kernel_rfl) (by kernel_rfl) (by kernel_rfl) (fun _ _ _ h => h) (Or.inl ⟨by rfl, ?_⟩) (by assumption) ?_
  rotate_left
  · intro w' hSw
    clear hSw
    unfold opl14
    first
    | (go_simp; done)
    | (go_simp; with_reducible rfl)
  simp only [opl14, Act.put, List.setIfInBounds_toArray, List.set_cons_zero, List.set_cons_succ]
  refine wpAnyH_take (i := 15) (oi := opl15) (v := ?_) rfl (by kernel_rfl) (by kernel_rfl) (by kernel_rfl) (fun _ _ _ h => h) (Or.inl ⟨by rfl, ?_⟩) (by assumption) ?_
  rotate_left
  · intro w' hSw
    clear hSw
    unfold opl15
    first
    | (go_simp; done)
    | (go_simp; with_reducible rfl)
  simp only [opl15, Act.put, List.setIfInBounds_toArray, List.set_cons_zero, List.set_cons_succ]
  refine wpAnyH_take (i := 16) (oi := opl16) (v := ?_) rfl (by kernel_rfl) (by kernel_rfl) (by kernel_rfl) (fun _ _ _ h => h) (Or.inl ⟨by rfl, ?_⟩) (by assumption) ?_
  rotate_left
  · intro w' hSw
    clear hSw
    unfold opl16
    first
    | (go_simp; done)
    | (go_simp; with_reducible rfl)
  simp only [opl16, Act.put, List.setIfInBounds_toArray, List.set_cons_zero, List.set_cons_succ]
  refine wpAnyH_take (i := 17) (oi := opl17) (v := ?_) rfl (by kernel_rfl) (by kernel_rfl) (by kernel_rfl) (fun _ _ _ h => h) (Or.inl ⟨by rfl, ?_⟩) (by assumption) ?_
  rotate_left
  · intro w' hSw
    clear hSw
    unfold opl17
    first
    | (go_simp; done)
    | (go_simp; with_reducible rfl)
  simp only [opl17, Act.put, List.setIfInBounds_toArray, List.set_cons_zero, List.set_cons_succ]
  refine wpAnyH_take (i := 18) (oi := opl18) (v := ?_) rfl (by kernel_rfl) (by kernel_rfl) (by kernel_rfl) (fun _ _ _ h => h) (Or.inl ⟨by rfl, ?_⟩) (by assumption) ?_
  rotate_left
  · intro w' hSw
    clear hSw
    unfold opl18
    first
    | (go_simp; done)
    | (go_simp; with_reducible rfl)
  simp only [opl18, Act.put, List.setIfInBounds_toArray, List.set_cons_zero, List.set_cons_succ]
  refine wpAnyH_ready (rs := [19]) (by kernel_rfl) (by simp) ?_
  refine AllReadyH.cons (o := opl19) rfl (fun KK hKK => ?_) AllReadyH.nil
  unfold opl19
  go_simp
  refine hKK.out _ _ trivial (fun hHeldZ => ?_)
  clear hKK KK
  refine wpAnyH_done (by kernel_rfl) ?_ _
  refine NoPanic.normal ?_
  obtain ⟨Y, hY⟩ : ∃ Y, (X.setCell ⟨w.heap.size + 1, 2, none⟩ (.int .i64 Q)).drew = Y := ⟨_, rfl⟩
  have F1 : Hid (Below w.heap.size w Y ∧ Box2 Y w.heap.size 4 u Q ⟨#[]⟩ ⟨#[]⟩ none 0 0 none 0 0) := by
    rw [← hY]
    exact ⟨(F0.out.1.setCell (p := ⟨w.heap.size + 1, 2, none⟩) (Nat.le_succ _) _).drew, Box2.later (w := X.setCell ⟨w.heap.size + 1, 2, none⟩ (.int .i64 Q)) ⟨F0.out.2.1.other (p := ⟨w.heap.size + 1, 2, none⟩) n1 _, F0.out.2.2.put2 Q⟩ (Below.refl _ _).drew⟩
  clear f p0 p1 p2 p3 p4 p5 p6 f' q0 q1 q2 q3 q4 q5 q6 F0 hHeldZ hHeld
  rw [hY]
  clear hY
  obtain ⟨⟨f, p0, p1, p2, p3, p4, p5, p6⟩, f', q0, q1, q2, q3, q4, q5, q6⟩ := F1.out.2
  go_wp2_with fail
  refine wp_region_noPanic ?_
  refine wp_region_held_drew (S := fun _ => True) (by kernel_rfl) (trivial) (fun hHeld => ?_)
  refine wpAnyH_take (i := 0) (oi := opk0) (v := ?_) rfl (by kernel_rfl) (by kernel_rfl) (by kernel_rfl) (fun _ _ _ h => h) (Or.inl ⟨by rfl, ?_⟩) (by assumption) ?_
  rotate_left
  · intro w' hSw
    clear hSw
    unfold opk0
    first
    | (go_simp; done)
    | (go_simp; with_reducible rfl)
  simp only [opk0, Act.put, List.setIfInBounds_toArray, List.set_cons_zero, List.set_cons_succ]
  refine wpAnyH_take (i := 1) (oi := opk1) (v := ?_) rfl (by kernel_rfl) (by kernel_rfl) (by kernel_rfl) (fun _ _ _ h => h) (Or.inl ⟨by rfl, ?_⟩) (by assumption) ?_
  rotate_left
  · intro w' hSw
    clear hSw
    unfold opk1
    first
    | (go_simp; done)
    | (go_simp; with_reducible rfl)
  simp only [opk1, Act.put, List.setIfInBounds_toArray, List.set_cons_zero, List.set_cons_succ]
  refine wpAnyH_take (i := 3) (oi := opk3) (v := ?_) rfl (by kernel_rfl) (by kernel_rfl) (by kernel_rfl) (fun _ _ _ h => h) (Or.inl ⟨by rfl, ?_⟩) (by assumption) ?_
  rotate_left
  · intro w' hSw
    clear hSw
    unfold opk3
    first
    | (go_simp; done)
    | (go_simp; with_reducible rfl)
  simp only [opk3, Act.put, List.setIfInBounds_toArray, List.set_cons_zero, List.set_cons_succ]
  refine wpAnyH_take (i := 4) (oi := opk4) (v := ?_) rfl (by kernel_rfl) (by kernel_rfl) (by kernel_rfl) (fun _ _ _ h => h) (Or.inl ⟨by rfl, ?_⟩) (by assumption) ?_
  rotate_left
  · intro w' hSw
    clear hSw
    unfold opk4
    first
    | (go_simp; done)
    | (go_simp; with_reducible rfl)
  simp only [opk4, Act.put, List.setIfInBounds_toArray, List.set_cons_zero, List.set_cons_succ]
  refine wpAnyH_ready (rs := [2]) (by kernel_rfl) (by simp) ?_
  refine AllReadyH.cons (o := opk2) rfl (fun KK hKK => ?_) AllReadyH.nil
  unfold opk2
  go_simp
  refine Calls.mono (CL.out _) ?_
  rintro e v1 ⟨rfl, hv1⟩
  refine hKK.out _ _ (trivial) (fun hHeldA => ?_)
  clear hKK KK
  refine wpAnyH_take (i := 6) (oi := opk6) (v := ?_) rfl (by kernel_rfl) (by kernel_rfl) (by kernel_rfl) (fun _ _ _ h => h) (Or.inl ⟨by rfl, ?_⟩) (by assumption) ?_
  rotate_left
  · intro w' hSw
    clear hSw
    unfold opk6
    first
    | (go_simp; done)
    | (go_simp; with_reducible rfl)
  simp only [opk6, Act.put, List.setIfInBounds_toArray, List.set_cons_zero, List.set_cons_succ]
  refine wpAnyH_ready (rs := [5]) (by kernel_rfl) (by simp) ?_
  refine AllReadyH.cons (o := opk5) rfl (fun KK hKK => ?_) AllReadyH.nil
  unfold opk5
  go_simp
  refine Calls.mono (RI.out _) ?_
  rintro e v2 ⟨x2, rfl, ov, hv2⟩
  have hb : Below Y.heap.size Y v2 := chain (chain (Below.refl _ _).drew hv1) hv2
  obtain ⟨lv, a2, c2, rfl, hst, hnn, hab⟩ := own_strAt2 ov
  have F : Hid (Below w.heap.size w v2 ∧ Box2 v2 w.heap.size 4 u Q ⟨#[]⟩ ⟨#[]⟩ none 0 0 none 0 0 ∧ Lists v2 none 0 0 a2 IL.length c2 [] IL ∧ ∀ x, a2 = some x → w.heap.size + 1 < x.block) := ⟨chain F1.out.1 hb, F1.out.2.later hb, ⟨SlAt.nil _ _, hst, rfl, rfl, fun _ => ⟨rfl, rfl⟩, hnn, by decide, by have := IH.out; omega⟩, fun x hx => Nat.lt_of_lt_of_le F1.out.2.2.lt (Nat.le_trans (chain (Below.refl _ _).drew hv1).size (hab x hx))⟩
  clear hv1 hv2 hb ov F1 hst hnn lv hab
  refine hKK.out _ _ (trivial) (fun hHeldB => ?_)
  clear hKK KK
  obtain ⟨⟨f, p0, p1, p2, p3, p4, p5, p6⟩, f', q0, q1, q2, q3, q4, q5, q6⟩ := F.out.2.1
  refine wpAnyH_ready (rs := [7]) (by kernel_rfl) (by simp) ?_
  refine AllReadyH.cons (o := opk7) rfl (fun KK hKK => ?_) AllReadyH.nil
  unfold opk7
  go_simp
  refine hKK.out _ _ (trivial) (fun hHeldC => ?_)
  clear hKK KK
  refine wpAnyH_take (i := 8) (oi := opk8) (v := ?_) rfl (by kernel_rfl) (by kernel_rfl) (by kernel_rfl) (fun _ _ _ h => h) (Or.inl ⟨by rfl, ?_⟩) (by assumption) ?_
  rotate_left
  · intro w' hSw
    clear hSw
    unfold opk8
    first
    | (go_simp; done)
    | (go_simp; with_reducible rfl)
  simp only [opk8, Act.put, List.setIfInBounds_toArray, List.set_cons_zero, List.set_cons_succ]
  refine wpAnyH_ready (rs := [9]) (by kernel_rfl) (by simp) ?_
  refine AllReadyH.cons (o := opk9) rfl (fun KK hKK => ?_) AllReadyH.nil
  unfold opk9
  go_simp
  refine hKK.out _ _ (trivial) (fun hHeldD => ?_)
  clear hKK KK
  refine wpAnyH_done (by kernel_rfl) ?_ _
  refine NoPanic.normal ?_
  go_wp2
  refine bodyPost_ret ?_ rfl ⟨a2, c2, rfl, ?_, fun x hx => by have := F.out.2.2.2 x hx; omega, below_whole ((F.out.1.setCell (p := ⟨w.heap.size + 1, 4, none⟩) (Nat.le_succ _) _).setCell (p := ⟨w.heap.size + 1, 6, none⟩) (Nat.le_succ _) _) (Nat.le_refl _) _ _ _ _ _ _ _⟩
  · exact res_read _ _ w.heap.size _ _ _ _ _ _ _ _ _ _ _ (by kernel_rfl) (((F.out.2.1.1.other (p := ⟨w.heap.size + 1, 4, none⟩) n1 _).other (p := ⟨w.heap.size + 1, 6, none⟩) n1 _).whole _ _ _ _ _ _ _ _ _ _ _)
  · have e1 : ∀ x, a2 = some x → w.heap.size + 1 ≠ x.block := fun x hx => by have := F.out.2.2.2 x hx; omega
    have e2 : ∀ x, a2 = some x → w.heap.size ≠ x.block := fun x hx => by have := F.out.2.2.2 x hx; omega
    have l := F.out.2.2.1
    exact ⟨SlAt.nil _ _, str_whole ((l.i.other (p := ⟨w.heap.size + 1, 4, none⟩) e1 _).other (p := ⟨w.heap.size + 1, 6, none⟩) e1 _) e2 _ _ _ _ _ _ _, l.ls, l.li, l.zs, l.zi, l.ms, l.mi⟩
end Go.Proofs.YtbogoheigbiegaaDoor.Mai
