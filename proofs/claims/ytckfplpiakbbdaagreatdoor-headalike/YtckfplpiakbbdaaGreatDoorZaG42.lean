/- HeadAlike answers true. -/
import Derived.Test.YtckfplpiakbbdaaGreatDoorZaG33
import Derived.Test.YtckfplpiakbbdaaGreatDoorZaG34
import Derived.Test.YtckfplpiakbbdaaGreatDoorZaG32
import Derived.Deep.RegionHeld3
namespace Go.Proofs.YtckfplpiakbbdaaGreatDoor
open Go.RowKit Go.Proofs.Fd Go.Proofs.Hs Go.Proofs.Cc Go.Proofs.Hd Go.Proofs.Rt
set_option maxRecDepth 20000
def opc0 : Oper := { dst := some 67, op := Go.Op.move (Go.Operand.tmp 13), type := 24, pos := "more.go:28", after := #[], guard := none }
def opc1 : Oper := { dst := some 68, op := Go.Op.binOp Go.BinOp.eql 24 (Go.Operand.tmp 67) (Go.Operand.const (Go.Value.int Go.IntKind.i64 0)) 24, type := 4, pos := "more.go:28", after := #[{ on := 0, ground := Go.Ground.data }], guard := none }
def opc2 : Oper := { dst := some 69, op := Go.Op.move (Go.Operand.tmp 68), type := 4, pos := "more.go:28", after := #[{ on := 1, ground := Go.Ground.data }], guard := none }
def opc3 : Oper := { dst := some 70, op := Go.Op.move (Go.Operand.tmp 15), type := 24, pos := "more.go:28", after := #[{ on := 2, ground := Go.Ground.guard }], guard := some (2, true) }
def opc4 : Oper := { dst := some 71, op := Go.Op.binOp Go.BinOp.eql 24 (Go.Operand.tmp 70) (Go.Operand.const (Go.Value.int Go.IntKind.i64 0)) 24, type := 4, pos := "more.go:28", after := #[{ on := 3, ground := Go.Ground.data }, { on := 2, ground := Go.Ground.guard }], guard := some (2, true) }
def opc5 : Oper := { dst := some 72, op := Go.Op.pick (Go.Operand.tmp 69) (Go.Operand.tmp 71) (Go.Operand.const (Go.Value.bool false)), type := 4, pos := "more.go:28", after := #[{ on := 2, ground := Go.Ground.data }, { on := 4, ground := Go.Ground.data }], guard := none }
def opc6 : Oper := { dst := some 73, op := Go.Op.move (Go.Operand.tmp 72), type := 4, pos := "more.go:28", after := #[{ on := 5, ground := Go.Ground.data }, { on := 2, ground := Go.Ground.chain }], guard := none }
def opc7 : Oper := { dst := some 74, op := Go.Op.move (Go.Operand.tmp 17), type := 24, pos := "more.go:28", after := #[{ on := 6, ground := Go.Ground.guard }], guard := some (6, true) }
def opc8 : Oper := { dst := some 75, op := Go.Op.binOp Go.BinOp.eql 24 (Go.Operand.tmp 74) (Go.Operand.const (Go.Value.int Go.IntKind.i64 0)) 24, type := 4, pos := "more.go:28", after := #[{ on := 7, ground := Go.Ground.data }, { on := 6, ground := Go.Ground.guard }], guard := some (6, true) }
def opc9 : Oper := { dst := some 76, op := Go.Op.pick (Go.Operand.tmp 73) (Go.Operand.tmp 75) (Go.Operand.const (Go.Value.bool false)), type := 4, pos := "more.go:28", after := #[{ on := 6, ground := Go.Ground.data }, { on := 8, ground := Go.Ground.data }], guard := none }
def opc10 : Oper := { dst := some 77, op := Go.Op.move (Go.Operand.tmp 76), type := 4, pos := "more.go:28", after := #[{ on := 9, ground := Go.Ground.data }, { on := 6, ground := Go.Ground.chain }], guard := none }
def opc11 : Oper := { dst := some 78, op := Go.Op.move (Go.Operand.tmp 9), type := 9, pos := "more.go:28", after := #[{ on := 10, ground := Go.Ground.guard }], guard := some (10, true) }
def opc12 : Oper := { dst := some 79, op := Go.Op.call { callee := Go.Callee.builtin Go.Builtin.len, args := #[Go.Operand.tmp 78], argTypes := #[9] }, type := 3, pos := "more.go:28", after := #[{ on := 11, ground := Go.Ground.data }, { on := 10, ground := Go.Ground.guard }], guard := some (10, true) }
def opc13 : Oper := { dst := some 80, op := Go.Op.binOp Go.BinOp.eql 3 (Go.Operand.tmp 79) (Go.Operand.const (Go.Value.int Go.IntKind.i64 248)) 3, type := 4, pos := "more.go:28", after := #[{ on := 12, ground := Go.Ground.data }, { on := 10, ground := Go.Ground.guard }], guard := some (10, true) }
def opc14 : Oper := { dst := some 81, op := Go.Op.pick (Go.Operand.tmp 77) (Go.Operand.tmp 80) (Go.Operand.const (Go.Value.bool false)), type := 4, pos := "more.go:28", after := #[{ on := 10, ground := Go.Ground.data }, { on := 13, ground := Go.Ground.data }], guard := none }
def opc15 : Oper := { dst := some 82, op := Go.Op.move (Go.Operand.tmp 81), type := 4, pos := "more.go:28", after := #[{ on := 14, ground := Go.Ground.data }, { on := 10, ground := Go.Ground.chain }], guard := none }
def opc16 : Oper := { dst := some 83, op := Go.Op.move (Go.Operand.tmp 9), type := 9, pos := "more.go:28", after := #[{ on := 15, ground := Go.Ground.guard }], guard := some (15, true) }
def opc17 : Oper := { dst := some 84, op := Go.Op.slice 9 (Go.Operand.tmp 83) none (some (Go.Operand.const (Go.Value.int Go.IntKind.i64 32))) none, type := 9, pos := "more.go:28", after := #[{ on := 16, ground := Go.Ground.data }, { on := 15, ground := Go.Ground.guard }], guard := some (15, true) }
def opc18 : Oper := { dst := some 85, op := Go.Op.move (Go.Operand.tmp 12), type := 9, pos := "more.go:28", after := #[{ on := 15, ground := Go.Ground.guard }], guard := some (15, true) }
def opc19 : Oper := { dst := some 86, op := Go.Op.binOp Go.BinOp.eql 9 (Go.Operand.tmp 84) (Go.Operand.tmp 85) 9, type := 4, pos := "more.go:28", after := #[{ on := 17, ground := Go.Ground.data }, { on := 18, ground := Go.Ground.data }, { on := 15, ground := Go.Ground.guard }], guard := some (15, true) }
def opc20 : Oper := { dst := some 87, op := Go.Op.pick (Go.Operand.tmp 82) (Go.Operand.tmp 86) (Go.Operand.const (Go.Value.bool false)), type := 4, pos := "more.go:28", after := #[{ on := 15, ground := Go.Ground.data }, { on := 19, ground := Go.Ground.data }], guard := none }
def opc21 : Oper := { dst := some 88, op := Go.Op.move (Go.Operand.tmp 87), type := 4, pos := "more.go:28", after := #[{ on := 20, ground := Go.Ground.data }, { on := 15, ground := Go.Ground.chain }], guard := none }
def opc22 : Oper := { dst := some 89, op := Go.Op.load 23 (Go.Operand.tmp 16), type := 23, pos := "more.go:28", after := #[{ on := 21, ground := Go.Ground.guard }], guard := some (21, true) }
def opc23 : Oper := { dst := some 90, op := Go.Op.move (Go.Operand.tmp 10), type := 32, pos := "more.go:28", after := #[{ on := 21, ground := Go.Ground.guard }], guard := some (21, true) }
def opc24 : Oper := { dst := some 91, op := Go.Op.indexAddr 32 (Go.Operand.tmp 90) (Go.Operand.const (Go.Value.int Go.IntKind.i64 0)), type := 0, pos := "more.go:28", after := #[{ on := 23, ground := Go.Ground.data }, { on := 21, ground := Go.Ground.guard }], guard := some (21, true) }
def opc25 : Oper := { dst := some 92, op := Go.Op.load 23 (Go.Operand.tmp 91), type := 23, pos := "more.go:28", after := #[{ on := 24, ground := Go.Ground.data }, { on := 21, ground := Go.Ground.guard }], guard := some (21, true) }
def opc26 : Oper := { dst := some 93, op := Go.Op.binOp Go.BinOp.eql 23 (Go.Operand.tmp 89) (Go.Operand.tmp 92) 23, type := 4, pos := "more.go:28", after := #[{ on := 22, ground := Go.Ground.data }, { on := 25, ground := Go.Ground.data }, { on := 21, ground := Go.Ground.guard }], guard := some (21, true) }
def opc27 : Oper := { dst := some 94, op := Go.Op.pick (Go.Operand.tmp 88) (Go.Operand.tmp 93) (Go.Operand.const (Go.Value.bool false)), type := 4, pos := "more.go:28", after := #[{ on := 21, ground := Go.Ground.data }, { on := 26, ground := Go.Ground.data }], guard := none }
def opc28 : Oper := { dst := some 95, op := Go.Op.move (Go.Operand.tmp 94), type := 4, pos := "more.go:28", after := #[{ on := 27, ground := Go.Ground.data }, { on := 21, ground := Go.Ground.chain }], guard := none }
def opc29 : Oper := { dst := some 96, op := Go.Op.fieldAddr 23 (Go.Operand.tmp 16) 0, type := 0, pos := "more.go:28", after := #[{ on := 28, ground := Go.Ground.guard }], guard := some (28, true) }
def opc30 : Oper := { dst := some 97, op := Go.Op.load 9 (Go.Operand.tmp 96), type := 9, pos := "more.go:28", after := #[{ on := 29, ground := Go.Ground.data }, { on := 28, ground := Go.Ground.guard }], guard := some (28, true) }
def opc31 : Oper := { dst := some 98, op := Go.Op.call { callee := Go.Callee.builtin Go.Builtin.len, args := #[Go.Operand.tmp 97], argTypes := #[9] }, type := 3, pos := "more.go:28", after := #[{ on := 30, ground := Go.Ground.data }, { on := 28, ground := Go.Ground.guard }], guard := some (28, true) }
def opc32 : Oper := { dst := some 99, op := Go.Op.binOp Go.BinOp.eql 3 (Go.Operand.tmp 98) (Go.Operand.const (Go.Value.int Go.IntKind.i64 32)) 3, type := 4, pos := "more.go:28", after := #[{ on := 31, ground := Go.Ground.data }, { on := 28, ground := Go.Ground.guard }], guard := some (28, true) }
def opc33 : Oper := { dst := some 100, op := Go.Op.pick (Go.Operand.tmp 95) (Go.Operand.tmp 99) (Go.Operand.const (Go.Value.bool false)), type := 4, pos := "more.go:28", after := #[{ on := 28, ground := Go.Ground.data }, { on := 32, ground := Go.Ground.data }], guard := none }
def opc34 : Oper := { dst := some 101, op := Go.Op.move (Go.Operand.tmp 100), type := 4, pos := "more.go:28", after := #[{ on := 33, ground := Go.Ground.data }, { on := 28, ground := Go.Ground.chain }], guard := none }
def opc35 : Oper := { dst := some 102, op := Go.Op.fieldAddr 23 (Go.Operand.tmp 16) 1, type := 0, pos := "more.go:28", after := #[{ on := 34, ground := Go.Ground.guard }], guard := some (34, true) }
def opc36 : Oper := { dst := some 103, op := Go.Op.load 9 (Go.Operand.tmp 102), type := 9, pos := "more.go:28", after := #[{ on := 35, ground := Go.Ground.data }, { on := 34, ground := Go.Ground.guard }], guard := some (34, true) }
def opc37 : Oper := { dst := some 104, op := Go.Op.call { callee := Go.Callee.builtin Go.Builtin.len, args := #[Go.Operand.tmp 103], argTypes := #[9] }, type := 3, pos := "more.go:28", after := #[{ on := 36, ground := Go.Ground.data }, { on := 34, ground := Go.Ground.guard }], guard := some (34, true) }
def opc38 : Oper := { dst := some 105, op := Go.Op.binOp Go.BinOp.eql 3 (Go.Operand.tmp 104) (Go.Operand.const (Go.Value.int Go.IntKind.i64 32)) 3, type := 4, pos := "more.go:28", after := #[{ on := 37, ground := Go.Ground.data }, { on := 34, ground := Go.Ground.guard }], guard := some (34, true) }
def opc39 : Oper := { dst := some 106, op := Go.Op.pick (Go.Operand.tmp 101) (Go.Operand.tmp 105) (Go.Operand.const (Go.Value.bool false)), type := 4, pos := "more.go:28", after := #[{ on := 34, ground := Go.Ground.data }, { on := 38, ground := Go.Ground.data }], guard := none }
def opc40 : Oper := { dst := some 107, op := Go.Op.move (Go.Operand.tmp 106), type := 4, pos := "more.go:28", after := #[{ on := 39, ground := Go.Ground.data }, { on := 34, ground := Go.Ground.chain }], guard := none }
def opc41 : Oper := { dst := some 108, op := Go.Op.fieldAddr 23 (Go.Operand.tmp 16) 2, type := 0, pos := "more.go:28", after := #[{ on := 40, ground := Go.Ground.guard }], guard := some (40, true) }
def opc42 : Oper := { dst := some 109, op := Go.Op.load 9 (Go.Operand.tmp 108), type := 9, pos := "more.go:28", after := #[{ on := 41, ground := Go.Ground.data }, { on := 40, ground := Go.Ground.guard }], guard := some (40, true) }
def opc43 : Oper := { dst := some 110, op := Go.Op.call { callee := Go.Callee.builtin Go.Builtin.len, args := #[Go.Operand.tmp 109], argTypes := #[9] }, type := 3, pos := "more.go:28", after := #[{ on := 42, ground := Go.Ground.data }, { on := 40, ground := Go.Ground.guard }], guard := some (40, true) }
def opc44 : Oper := { dst := some 111, op := Go.Op.binOp Go.BinOp.eql 3 (Go.Operand.tmp 110) (Go.Operand.const (Go.Value.int Go.IntKind.i64 32)) 3, type := 4, pos := "more.go:28", after := #[{ on := 43, ground := Go.Ground.data }, { on := 40, ground := Go.Ground.guard }], guard := some (40, true) }
def opc45 : Oper := { dst := some 112, op := Go.Op.pick (Go.Operand.tmp 107) (Go.Operand.tmp 111) (Go.Operand.const (Go.Value.bool false)), type := 4, pos := "more.go:28", after := #[{ on := 40, ground := Go.Ground.data }, { on := 44, ground := Go.Ground.data }], guard := none }
def opc46 : Oper := { dst := some 113, op := Go.Op.move (Go.Operand.tmp 112), type := 4, pos := "more.go:28", after := #[{ on := 45, ground := Go.Ground.data }, { on := 40, ground := Go.Ground.chain }], guard := none }
def opc47 : Oper := { dst := some 114, op := Go.Op.fieldAddr 23 (Go.Operand.tmp 16) 3, type := 0, pos := "more.go:28", after := #[{ on := 46, ground := Go.Ground.guard }], guard := some (46, true) }
def opc48 : Oper := { dst := some 115, op := Go.Op.load 9 (Go.Operand.tmp 114), type := 9, pos := "more.go:28", after := #[{ on := 47, ground := Go.Ground.data }, { on := 46, ground := Go.Ground.guard }], guard := some (46, true) }
def opc49 : Oper := { dst := some 116, op := Go.Op.call { callee := Go.Callee.builtin Go.Builtin.len, args := #[Go.Operand.tmp 115], argTypes := #[9] }, type := 3, pos := "more.go:28", after := #[{ on := 48, ground := Go.Ground.data }, { on := 46, ground := Go.Ground.guard }], guard := some (46, true) }
def opc50 : Oper := { dst := some 117, op := Go.Op.binOp Go.BinOp.eql 3 (Go.Operand.tmp 116) (Go.Operand.const (Go.Value.int Go.IntKind.i64 32)) 3, type := 4, pos := "more.go:28", after := #[{ on := 49, ground := Go.Ground.data }, { on := 46, ground := Go.Ground.guard }], guard := some (46, true) }
def opc51 : Oper := { dst := some 118, op := Go.Op.pick (Go.Operand.tmp 113) (Go.Operand.tmp 117) (Go.Operand.const (Go.Value.bool false)), type := 4, pos := "more.go:28", after := #[{ on := 46, ground := Go.Ground.data }, { on := 50, ground := Go.Ground.data }], guard := none }
def opc52 : Oper := { dst := some 119, op := Go.Op.move (Go.Operand.tmp 118), type := 4, pos := "more.go:28", after := #[{ on := 51, ground := Go.Ground.data }, { on := 46, ground := Go.Ground.chain }], guard := none }
def opc53 : Oper := { dst := some 120, op := Go.Op.fieldAddr 23 (Go.Operand.tmp 16) 4, type := 0, pos := "more.go:28", after := #[{ on := 52, ground := Go.Ground.guard }], guard := some (52, true) }
def opc54 : Oper := { dst := some 121, op := Go.Op.load 9 (Go.Operand.tmp 120), type := 9, pos := "more.go:28", after := #[{ on := 53, ground := Go.Ground.data }, { on := 52, ground := Go.Ground.guard }], guard := some (52, true) }
def opc55 : Oper := { dst := some 122, op := Go.Op.call { callee := Go.Callee.builtin Go.Builtin.len, args := #[Go.Operand.tmp 121], argTypes := #[9] }, type := 3, pos := "more.go:28", after := #[{ on := 54, ground := Go.Ground.data }, { on := 52, ground := Go.Ground.guard }], guard := some (52, true) }
def opc56 : Oper := { dst := some 123, op := Go.Op.binOp Go.BinOp.eql 3 (Go.Operand.tmp 122) (Go.Operand.const (Go.Value.int Go.IntKind.i64 16)) 3, type := 4, pos := "more.go:28", after := #[{ on := 55, ground := Go.Ground.data }, { on := 52, ground := Go.Ground.guard }], guard := some (52, true) }
def opc57 : Oper := { dst := some 124, op := Go.Op.pick (Go.Operand.tmp 119) (Go.Operand.tmp 123) (Go.Operand.const (Go.Value.bool false)), type := 4, pos := "more.go:28", after := #[{ on := 52, ground := Go.Ground.data }, { on := 56, ground := Go.Ground.data }], guard := none }
def opc58 : Oper := { dst := some 6, op := Go.Op.assign (Go.Operand.tmp 124), type := 4, pos := "more.go:28", after := #[{ on := 57, ground := Go.Ground.data }, { on := 52, ground := Go.Ground.chain }, { on := 0, ground := Go.Ground.phase }, { on := 1, ground := Go.Ground.phase }, { on := 2, ground := Go.Ground.phase }, { on := 3, ground := Go.Ground.phase }, { on := 4, ground := Go.Ground.phase }, { on := 5, ground := Go.Ground.phase }, { on := 6, ground := Go.Ground.phase }, { on := 7, ground := Go.Ground.phase }, { on := 8, ground := Go.Ground.phase }, { on := 9, ground := Go.Ground.phase }, { on := 10, ground := Go.Ground.phase }, { on := 11, ground := Go.Ground.phase }, { on := 12, ground := Go.Ground.phase }, { on := 13, ground := Go.Ground.phase }, { on := 14, ground := Go.Ground.phase }, { on := 15, ground := Go.Ground.phase }, { on := 16, ground := Go.Ground.phase }, { on := 17, ground := Go.Ground.phase }, { on := 18, ground := Go.Ground.phase }, { on := 19, ground := Go.Ground.phase }, { on := 20, ground := Go.Ground.phase }, { on := 21, ground := Go.Ground.phase }, { on := 22, ground := Go.Ground.phase }, { on := 23, ground := Go.Ground.phase }, { on := 24, ground := Go.Ground.phase }, { on := 25, ground := Go.Ground.phase }, { on := 26, ground := Go.Ground.phase }, { on := 27, ground := Go.Ground.phase }, { on := 28, ground := Go.Ground.phase }, { on := 29, ground := Go.Ground.phase }, { on := 30, ground := Go.Ground.phase }, { on := 31, ground := Go.Ground.phase }, { on := 32, ground := Go.Ground.phase }, { on := 33, ground := Go.Ground.phase }, { on := 34, ground := Go.Ground.phase }, { on := 35, ground := Go.Ground.phase }, { on := 36, ground := Go.Ground.phase }, { on := 37, ground := Go.Ground.phase }, { on := 38, ground := Go.Ground.phase }, { on := 39, ground := Go.Ground.phase }, { on := 40, ground := Go.Ground.phase }, { on := 41, ground := Go.Ground.phase }, { on := 42, ground := Go.Ground.phase }, { on := 43, ground := Go.Ground.phase }, { on := 44, ground := Go.Ground.phase }, { on := 45, ground := Go.Ground.phase }, { on := 46, ground := Go.Ground.phase }, { on := 47, ground := Go.Ground.phase }, { on := 48, ground := Go.Ground.phase }, { on := 49, ground := Go.Ground.phase }, { on := 50, ground := Go.Ground.phase }, { on := 51, ground := Go.Ground.phase }, { on := 52, ground := Go.Ground.phase }, { on := 53, ground := Go.Ground.phase }, { on := 54, ground := Go.Ground.phase }, { on := 55, ground := Go.Ground.phase }, { on := 56, ground := Go.Ground.phase }, { on := 57, ground := Go.Ground.phase }], guard := none }
theorem made_first (SD who : ByteArray) (hs : List Hp) (n : Nat) (zS : SD.size = 32) (hn : hs.length = n) (hp : pth hs = 0) :
    ∃ (ss : List ByteArray) (HD : ByteArray), ss.length = n ∧ 0 < n ∧ mkE SD (pps who n) hs = 0 ∧ mkS SD (pps who n) hs = ss ∧ mkH SD (pps who n) hs = HD ∧ HD.size = 248 ∧ HD.extract 0 32 = Crv.ek (Crv.pub SD)
      ∧ Crv.tm (pv who 0) (Crv.ek (Crv.pub SD)) ≠ 0 ∧ nth ss 0 = Crv.ek (Crv.tm (pv who 0) (Crv.ek (Crv.pub SD))) := by
  obtain ⟨ss, N, f1, f2, f3, f4, f5, f6⟩ := made_steps SD who hs n zS hn hp
  have n1 : 0 < n := by have := pth_zero hs hp; omega
  obtain ⟨t, t1, t2, t3⟩ := secs_pub SD (pvs who n) []
  have ets : t = ss := by
    have e1 : mkS SD (pps who n) hs = t := by unfold mkS; rw [if_pos f2, pps_pvs, t1]; rfl
    rw [← e1, f3]
  subst ets
  have e4 : N 0 = ⟨(hhead SD t hs 0).toArray⟩ := by rw [← f4]; unfold mkH; rw [if_pos f2, f3]
  have t0 := t3 0 (by rw [pvs_len]; exact n1)
  rw [List.nil_append, List.take_zero, List.map_nil, ptB_nil, pvs_at] at t0
  have bo := (both SD (pv who 0) []).1
  rw [ptB_nil] at bo
  refine ⟨t, N 0, f1, n1, f2, f3, f4, (f6 0 n1).2, ?_, bo, t0⟩
  rw [e4, ← ptB_nil]
  apply ByteArray.ext
  apply Array.toList_inj.1
  rw [ByteArray.data_extract, Array.toList_extract, List.extract_eq_take_drop, List.drop_zero]
  unfold hhead
  rw [List.take_zero, List.map_nil, List.append_assoc, List.take_append_of_le_length (by rw [list_sz, ptB_size]; decide), List.take_of_length_le (by rw [list_sz, ptB_size]; decide)]
set_option maxHeartbeats 2000000 in
theorem HeadAlike_walk (CO : Hid OfC) (CM : Hid MakeC) (CL : Hid PeelC) (seed who : ByteArray) (a : Option Addr) (hs : List Hp) (n cap : Nat) (hn : Hid (hs.length = n)) (hb : n * 48 ≤ 140737488351232) (hncap : n ≤ cap) (zs : Hid (seed.size + 64 ≤ 140737488355328)) (zw : Hid (who.size + 64 ≤ 140737488355328))
    (hi : Hid (∀ h ∈ hs, h.id.size ≤ 140737488355328)) (w : World) (hK : Hid (Kh w)) (hc : Hid (HopsAt w a hs)) :
    Calls Tryz.prog 8 #[.string seed, .string who, .slice a n cap] w fun e w' => e = .returned (.bool true) ∧ Below w.heap.size w w' := by
  obtain ⟨i0, hii, hz0, hz1, hz2⟩ := info_parts infoStr
  have WK : Hid (∀ w, Kh w → Calls Tryz.prog 10 #[] w fun e w' => e = .returned (.bool true) ∧ Below w.heap.size w w') := fun w h => works8_any CM CL w h
  obtain ⟨SD, hSD⟩ : ∃ S : ByteArray, pv seed 0 = S := ⟨_, rfl⟩
  have zS : SD.size = 32 := by rw [← hSD]; exact pv_size _ _
  have V1 : Hid (∀ w, Kh w → Calls Tryz.prog 16 #[.string seed, .int .i64 0] w fun e w' => e = .returned (.string SD) ∧ Below w.heap.size w w') := fun w h => by
    rw [← hSD]; exact private_any _ 0 (by decide) zs w h
  have V2 : Hid (∀ (k : Nat) w, k < 6 → Kh w → Calls Tryz.prog 16 #[.string who, .int .i64 (k : Int)] w fun e w' => e = .returned (.string (pv who k)) ∧ Below w.heap.size w w') := fun k w hk h => private_any _ k (by omega) zw w h
  have V3 : Hid (∀ (k : Nat) w, k < 6 → Kh w → Calls Tryz.prog 17 #[.string who, .int .i64 (k : Int)] w fun e w' => e = .returned (.string (pp who k)) ∧ Below w.heap.size w w') := fun k w hk h => public_any _ k (by omega) zw w h
  have zpp : ∀ k, ∀ p ∈ pps who k, p.size ≤ 140737488355328 := fun k p hp => by
    rw [pps_pvs] at hp
    obtain ⟨x, -, rfl⟩ := List.mem_map.1 hp
    rw [Crv.ek_size]; decide
  have MA : Hid (∀ (k : Nat) (pa : Option Addr) (pc : Nat) (w' : World), k ≤ 6 → Kh w' → StrAt w' pa (pps who k) → HopsAt w' a hs → Calls Tryz.prog 12 #[.string SD, .slice pa k pc, .slice a n cap] w' fun e w'' => ∃ v, e = .returned (.tuple #[.string (mkH SD (pps who k) hs), v, .int .i64 (mkE SD (pps who k) hs)]) ∧ KeysAt w'' v (mkS SD (pps who k) hs) ∧ Below w'.heap.size w' w'') := fun k pa pc w' hk h h0 h1 =>
    CM.out SD pa (pps who k) k pc a hs n cap w' ⟨pps_len _ _, hn.out⟩ ⟨by omega, hb⟩ (by show SD.size + 64 ≤ _; omega) (zpp k) hi h h0 h1
  have MN : Hid (∀ (k : Nat) (pa : Option Addr) (pc : Nat) (w' : World), pth hs ≠ 0 → k ≤ 6 → Kh w' → StrAt w' pa (pps who k) → HopsAt w' a hs → Calls Tryz.prog 12 #[.string SD, .slice pa k pc, .slice a n cap] w' fun e w'' => ∃ v c, e = .returned (.tuple #[.string ⟨#[]⟩, .slice v 0 c, .int .i64 (pth hs)]) ∧ Below w'.heap.size w' w'') := fun k pa pc w' hp hk h h0 h1 => by
    have e1 : mkE SD (pps who k) hs = pth hs := by unfold mkE; rw [if_neg hp]
    have e2 : mkS SD (pps who k) hs = [] := by unfold mkS; rw [e1, if_neg hp]
    have e3 : mkH SD (pps who k) hs = ⟨#[]⟩ := by unfold mkH; rw [e1, if_neg hp]
    refine Calls.mono (MA.out k pa pc w' hk h h0 h1) ?_
    rintro e w'' ⟨v, rfl, ⟨b, c, rfl, -, -, -⟩, hb⟩
    exact ⟨b, c, by rw [e1, e2, e3]; rfl, hb⟩
  clear hSD zpp
  go_enter Tryz.func8, Tryz.ntmps8
  go_wp2_with fail
  refine Calls.mono (WK.out _ hK.out) ?_
  rintro e w1 ⟨rfl, hb1⟩
  have B1 : Hid (Below w.heap.size w w1) := hb1
  have K1 : Hid (Kh w1) := hK.out.later hb1
  clear hb1 WK
  go_wp2_with fail
  refine Calls.mono (V1.out _ K1.out) ?_
  rintro e w2 ⟨rfl, hb2⟩
  have B2 : Hid (Below w.heap.size w w2) := chain B1.out hb2
  clear hb2 V1 K1 B1
  go_wp2_with fail
  go_loopw [7, 8] (fun sl iv wr => ∃ k : Nat, k ≤ n ∧ k ≤ 6 ∧ iv = .int .i64 (k : Int) ∧ Hid (wr.ownsRow w.heap.size 9 1 sl k (scells (pps who k)) ∧ Below w.heap.size w wr)) (fun _ iv _ => n - (intOf iv).toNat)
  case atStart => exact ⟨0, Nat.zero_le _, Nat.zero_le _, rfl, ⟨rfl, .inl ⟨rfl, rfl⟩⟩, B2.out⟩
  case round =>
    obtain ⟨k, hk1, hk6, rfl, I⟩ := hrel
    clear B2
    by_cases hlt : k < n ∧ k < 6
    · obtain ⟨hlt, hlt6⟩ := hlt
      have g1 : (k : Int) < (n : Int) := by omega
      have g2 : (k : Int) < 6 := by omega
      go_wp2_with fail
      have KW : Hid (Kh wr) := hK.out.later I.out.2
      refine Calls.mono (V3.out k _ hlt6 KW.out) ?_
      rintro e w3 ⟨rfl, hb3⟩
      have I3 : Hid (w3.ownsRow w.heap.size 9 1 _ k (scells (pps who k)) ∧ Below w.heap.size w w3) := ⟨own8 I.out.1 hb3, chain I.out.2 hb3⟩
      have PC : Hid (scells (pps who (k + 1)) = scells (pps who k) ++ [.string (pp who k)]) := pps_cells who k
      clear hb3 I KW
      generalize pp who k = X at *
      go_wp2_with (first
        | (at_builtin; refine wpList_append_own _ rfl _ _ 30 rfl w.heap.size 9 i0 (.string ⟨#[]⟩) 1 16 Tryz.underlying30 hii hz0 hz1 hz2 rfl (by decide) _ _ _ rfl (I3.out.1.alloc _) ⟨w3.heap.size, 0, none⟩ 1 1 [.string X] rfl rfl (cells_new _ _ _) (by intro u hu; simp at hu; subst hu; rfl) (by unfold maxLen; omega) (by omega) (by have := I3.out.2.size; simp; omega) ?_; intro v1 w4 hown1 hgrow1 hnil1))
      have O4 : Hid (w4.ownsRow w.heap.size 9 1 v1 (k + 1) (scells (pps who (k + 1))) ∧ Below w.heap.size w w4) := by
        refine ⟨?_, (I3.out.2.alloc I3.out.2.size _).grown hgrow1 (by have := I3.out.2.size; simp; omega) (fun k hk => (I3.out.1.lt k hk).1)⟩
        rw [PC.out]; exact hown1
      clear hown1 hgrow1 hnil1 I3 PC
      go_wp2
      exact ⟨⟨k + 1, by omega, by omega, by go_num, O4.out⟩, by simp [intOf]; omega⟩
    · obtain ⟨-, hor⟩ := owns_strs I.out.1
      obtain ⟨pa, pc, hsl, hst⟩ : ∃ pa pc, _ = Value.slice pa k pc ∧ StrAt wr pa (pps who k) := by
        rcases hor with ⟨e1, e2⟩ | ⟨g, c, e1, e2⟩
        · subst e2; exact ⟨none, 0, e1, fun i hi => by simp [pps] at hi⟩
        · exact ⟨_, c, e1, e2⟩
      subst hsl
      have HW : Hid (Below w.heap.size w wr ∧ StrAt wr pa (pps who k)) := ⟨I.out.2, hst⟩
      clear I hor hst
      by_cases g1 : k < n
      · have hp0 : pth hs ≠ 0 := fun h => by have := pth_zero hs h; have := hn.out; omega
        have g3 : (k : Int) < (n : Int) := by omega
        have g4 : ¬ (k : Int) < 6 := by omega
        have gP : ¬ pth hs = 0 := hp0
        go_wp2_with fail
        refine Calls.mono (MN.out k pa pc _ hp0 (by omega) (hK.out.later HW.out.1) HW.out.2 (hc.out.later HW.out.1 rfl)) ?_
        rintro e w3 ⟨v, c, rfl, hb3⟩
        have B3 : Hid (Below w.heap.size w w3) := chain HW.out.1 hb3
        clear hb3
        go_wp2
        go_ret
        exact ⟨rfl, B3.out⟩
      · obtain rfl : k = n := by omega
        have g4 : ¬ (k : Int) < (k : Int) := by omega
        by_cases hp0 : pth hs ≠ 0
        · have gP : ¬ pth hs = 0 := hp0
          go_wp2_with fail
          refine Calls.mono (MN.out k pa pc _ hp0 (by omega) (hK.out.later HW.out.1) HW.out.2 (hc.out.later HW.out.1 rfl)) ?_
          rintro e w3 ⟨v, c, rfl, hb3⟩
          have B3 : Hid (Below w.heap.size w w3) := chain HW.out.1 hb3
          clear hb3
          go_wp2
          go_ret
          exact ⟨rfl, B3.out⟩
        · have hp : pth hs = 0 := Classical.not_not.1 hp0
          obtain ⟨ss, HD, f1, n1, f2, f3, f4, f5, f6, f7, f8⟩ := made_first SD who hs k zS hn.out hp
          have M1 := MA.out k pa pc _ hk6 (hK.out.later HW.out.1) HW.out.2 (hc.out.later HW.out.1 rfl)
          rw [f2, f3, f4] at M1
          obtain ⟨PT, hPT⟩ : ∃ x, Crv.ek (Crv.pub SD) = x := ⟨_, rfl⟩
          obtain ⟨S, hS⟩ : ∃ x, Crv.ek (Crv.tm (pv who 0) (Crv.ek (Crv.pub SD))) = x := ⟨_, rfl⟩
          have zPT : PT.size = 32 := by rw [← hPT]; exact Crv.ek_size _
          have zSS : S.size = 32 := by rw [← hS]; exact Crv.ek_size _
          have PU : Hid (∀ w, Calls Tryz.prog 20 #[.string SD] w fun e w' => e = .returned (.tuple #[.string PT, .int .i64 0]) ∧ Below w.heap.size w w') := fun w => by
            rw [← hPT]; exact Crv.Public_ok SD zS w
          have SH : Hid (∀ w, Calls Tryz.prog 18 #[.string (pv who 0), .string PT] w fun e w' => e = .returned (.tuple #[.string S, .int .i64 0]) ∧ Below w.heap.size w w') := fun w => by
            rw [← hS, ← hPT]; exact Crv.Shared_ok (pv who 0) (Crv.ek (Crv.pub SD)) (pv_size _ _) (Crv.ek_size _) f7 w
          have OF : Hid (∀ w, Kh w → Calls Tryz.prog 9 #[.string S] w fun e w' => e = .returned (.tuple #[kv S, .int .i64 0]) ∧ Below w.heap.size w w') := fun w h => by
            have := CO.out S w (by show _ ≤ _; omega) h
            unfold ofV at this
            rw [if_pos zSS] at this
            exact this
          have V0 : Hid (∀ w, Kh w → Calls Tryz.prog 16 #[.string who, .int .i64 0] w fun e w' => e = .returned (.string (pv who 0)) ∧ Below w.heap.size w w') := fun w h => V2.out 0 w (by decide) h
          rw [hS] at f8
          rw [hPT] at f6
          have z0 := hdk_size S lFlow 32
          have z1 := hdk_size S lMac 32
          have z2 := hdk_size S lBody 32
          have z3 : (bld S).size = 32 := hdk_size S lBlind 32
          have z4 := hdk_size S lTag 16
          unfold kv at OF
          have FF : Hid (ss.length = k ∧ nth ss 0 = S ∧ 0 < k) := ⟨f1, f8, n1⟩
          clear f1 f2 f3 f4 f7 f8 MN MA hp0 V3 V2 hPT hS zSS CO CM CL
          generalize pv who 0 = PV at *
          go_wp2_with fail
          refine Calls.mono M1 ?_
          rintro e w3 ⟨v, rfl, ky, hb3⟩
          obtain ⟨ka, kc, rfl, kl, kx, kcells⟩ := ky
          obtain ⟨b3, o3, rfl, c0, c1, c2, c3, c4⟩ := kcells 0 (by rw [FF.out.1]; exact n1)
          rw [FF.out.2.1] at c0 c1 c2 c3 c4
          simp only [Nat.zero_mul, Nat.add_zero] at c0 c1 c2 c3 c4
          rw [FF.out.1] at kl
          rw [FF.out.1]
          generalize hdk S lFlow 32 = k0 at *
          generalize hdk S lMac 32 = k1 at *
          generalize hdk S lBody 32 = k2 at *
          generalize bld S = k3 at *
          generalize hdk S lTag 16 = k4 at *
          have B3 : Hid (Below w.heap.size w w3) := chain HW.out.1 hb3
          clear hb3 kcells M1 HW FF
          go_wp2_with fail
          refine Calls.mono (PU.out _) ?_
          rintro e w4 ⟨rfl, hb4⟩
          have B4 : Hid (Below w.heap.size w w4) := chain B3.out hb4
          replace c0 := cell_later hb4 c0
          replace c1 := cell_later hb4 c1
          replace c2 := cell_later hb4 c2
          replace c3 := cell_later hb4 c3
          replace c4 := cell_later hb4 c4
          clear hb4 PU B3
          go_wp2_with fail
          refine Calls.mono (V0.out _ (hK.out.later B4.out)) ?_
          rintro e w5 ⟨rfl, hb5⟩
          have B5 : Hid (Below w.heap.size w w5) := chain B4.out hb5
          replace c0 := cell_later hb5 c0
          replace c1 := cell_later hb5 c1
          replace c2 := cell_later hb5 c2
          replace c3 := cell_later hb5 c3
          replace c4 := cell_later hb5 c4
          clear hb5 V0 B4
          go_wp2_with fail
          refine Calls.mono (SH.out _) ?_
          rintro e w6 ⟨rfl, hb6⟩
          have B6 : Hid (Below w.heap.size w w6) := chain B5.out hb6
          replace c0 := cell_later hb6 c0
          replace c1 := cell_later hb6 c1
          replace c2 := cell_later hb6 c2
          replace c3 := cell_later hb6 c3
          replace c4 := cell_later hb6 c4
          clear hb6 SH B5
          go_wp2_with fail
          refine Calls.mono (OF.out _ (hK.out.later B6.out)) ?_
          rintro e w7 ⟨rfl, hb7⟩
          have B7 : Hid (Below w.heap.size w w7) := chain B6.out hb7
          replace c0 := cell_later hb7 c0
          replace c1 := cell_later hb7 c1
          replace c2 := cell_later hb7 c2
          replace c3 := cell_later hb7 c3
          replace c4 := cell_later hb7 c4
          clear hb7 OF B6
          go_wp2_with fail
          obtain ⟨W, hW⟩ : ∃ W, w7.alloc (.cells #[.string k0, .string k1, .string k2, .string k3, .string k4] 23) = W := ⟨_, rfl⟩
          have HB : Below w7.heap.size w7 W := by rw [← hW]; exact (Below.refl _ _).alloc (Nat.le_refl _) _
          have J8 : Hid (Five W w7.heap.size k0 k1 k2 k3 k4 ∧ Below w.heap.size w W) := ⟨by rw [← hW]; exact Five.new _ _ _ _ _ _ _, chain B7.out HB⟩
          replace c0 := cell_later HB c0
          replace c1 := cell_later HB c1
          replace c2 := cell_later HB c2
          replace c3 := cell_later HB c3
          replace c4 := cell_later HB c4
          rw [hW]
          clear hW HB B7
          generalize w7.heap.size = G at *
          obtain ⟨-, f0, f1, f2, f3, f4⟩ := J8.out.1
          have BW : Hid (Below w.heap.size w W) := J8.out.2
          have IPT : (PT.toList == PT.toList) = true := by simp
          have zHi : (HD.size : Int) = 248 := by omega
          have z0i : (k0.size : Int) = 32 := by omega
          have z1i : (k1.size : Int) = 32 := by omega
          have z2i : (k2.size : Int) = 32 := by omega
          have z3i : (k3.size : Int) = 32 := by omega
          have z4i : (k4.size : Int) = 16 := by omega
          have n1i : (0 : Int) < (k : Int) := by omega
          clear J8
          refine wp_region_noPanic ?_
          refine wp_region_held_drew (S := fun w' => w'.cell? ⟨G, 0, none⟩ = some (.string k0) ∧ w'.cell? ⟨G, 1, none⟩ = some (.string k1) ∧ w'.cell? ⟨G, 2, none⟩ = some (.string k2) ∧ w'.cell? ⟨G, 3, none⟩ = some (.string k3) ∧ w'.cell? ⟨G, 4, none⟩ = some (.string k4) ∧ w'.cell? ⟨b3, o3, none⟩ = some (.string k0) ∧ w'.cell? ⟨b3, o3 + 1, none⟩ = some (.string k1) ∧ w'.cell? ⟨b3, o3 + 2, none⟩ = some (.string k2) ∧ w'.cell? ⟨b3, o3 + 3, none⟩ = some (.string k3) ∧ w'.cell? ⟨b3, o3 + 4, none⟩ = some (.string k4)) (by kernel_rfl) (⟨f0, f1, f2, f3, f4, c0, c1, c2, c3, c4⟩) (fun hHeld => ?_)
          refine wpAnyH_take (i := 0) (oi := opc0) (v := ?_) rfl (by kernel_rfl) (by kernel_rfl) (by kernel_rfl) (fun _ _ _ h => h) (Or.inl ⟨by rfl, ?_⟩) (by assumption) ?_
          rotate_left
          · intro w' hSw
            clear hSw
            unfold opc0
            first
            | (go_simp; done)
            | (go_simp; with_reducible rfl)
          simp only [opc0, Act.put, List.setIfInBounds_toArray, List.set_cons_zero, List.set_cons_succ]
          refine wpAnyH_take (i := 1) (oi := opc1) (v := ?_) rfl (by kernel_rfl) (by kernel_rfl) (by kernel_rfl) (fun _ _ _ h => h) (Or.inl ⟨by rfl, ?_⟩) (by assumption) ?_
          rotate_left
          · intro w' hSw
            clear hSw
            unfold opc1
            first
            | (go_simp; done)
            | (go_simp; with_reducible rfl)
          simp only [opc1, Act.put, List.setIfInBounds_toArray, List.set_cons_zero, List.set_cons_succ]
          refine wpAnyH_take (i := 2) (oi := opc2) (v := ?_) rfl (by kernel_rfl) (by kernel_rfl) (by kernel_rfl) (fun _ _ _ h => h) (Or.inl ⟨by rfl, ?_⟩) (by assumption) ?_
          rotate_left
          · intro w' hSw
            clear hSw
            unfold opc2
            first
            | (go_simp; done)
            | (go_simp; with_reducible rfl)
          simp only [opc2, Act.put, List.setIfInBounds_toArray, List.set_cons_zero, List.set_cons_succ]
          refine wpAnyH_take (i := 3) (oi := opc3) (v := ?_) rfl (by kernel_rfl) (by kernel_rfl) (by kernel_rfl) (fun _ _ _ h => h) (Or.inl ⟨by rfl, ?_⟩) (by assumption) ?_
          rotate_left
          · intro w' hSw
            clear hSw
            unfold opc3
            first
            | (go_simp; done)
            | (go_simp; with_reducible rfl)
          simp only [opc3, Act.put, List.setIfInBounds_toArray, List.set_cons_zero, List.set_cons_succ]
          refine wpAnyH_take (i := 4) (oi := opc4) (v := ?_) rfl (by kernel_rfl) (by kernel_rfl) (by kernel_rfl) (fun _ _ _ h => h) (Or.inl ⟨by rfl, ?_⟩) (by assumption) ?_
          rotate_left
          · intro w' hSw
            clear hSw
            unfold opc4
            first
            | (go_simp; done)
            | (go_simp; with_reducible rfl)
          simp only [opc4, Act.put, List.setIfInBounds_toArray, List.set_cons_zero, List.set_cons_succ]
          refine wpAnyH_take (i := 5) (oi := opc5) (v := ?_) rfl (by kernel_rfl) (by kernel_rfl) (by kernel_rfl) (fun _ _ _ h => h) (Or.inl ⟨by rfl, ?_⟩) (by assumption) ?_
          rotate_left
          · intro w' hSw
            clear hSw
            unfold opc5
            first
            | (go_simp; done)
            | (go_simp; with_reducible rfl)
          simp only [opc5, Act.put, List.setIfInBounds_toArray, List.set_cons_zero, List.set_cons_succ]
          refine wpAnyH_take (i := 6) (oi := opc6) (v := ?_) rfl (by kernel_rfl) (by kernel_rfl) (by kernel_rfl) (fun _ _ _ h => h) (Or.inl ⟨by rfl, ?_⟩) (by assumption) ?_
          rotate_left
          · intro w' hSw
            clear hSw
            unfold opc6
            first
            | (go_simp; done)
            | (go_simp; with_reducible rfl)
          simp only [opc6, Act.put, List.setIfInBounds_toArray, List.set_cons_zero, List.set_cons_succ]
          refine wpAnyH_take (i := 7) (oi := opc7) (v := ?_) rfl (by kernel_rfl) (by kernel_rfl) (by kernel_rfl) (fun _ _ _ h => h) (Or.inl ⟨by rfl, ?_⟩) (by assumption) ?_
          rotate_left
          · intro w' hSw
            clear hSw
            unfold opc7
            first
            | (go_simp; done)
            | (go_simp; with_reducible rfl)
          simp only [opc7, Act.put, List.setIfInBounds_toArray, List.set_cons_zero, List.set_cons_succ]
          refine wpAnyH_take (i := 8) (oi := opc8) (v := ?_) rfl (by kernel_rfl) (by kernel_rfl) (by kernel_rfl) (fun _ _ _ h => h) (Or.inl ⟨by rfl, ?_⟩) (by assumption) ?_
          rotate_left
          · intro w' hSw
            clear hSw
            unfold opc8
            first
            | (go_simp; done)
            | (go_simp; with_reducible rfl)
          simp only [opc8, Act.put, List.setIfInBounds_toArray, List.set_cons_zero, List.set_cons_succ]
          refine wpAnyH_take (i := 9) (oi := opc9) (v := ?_) rfl (by kernel_rfl) (by kernel_rfl) (by kernel_rfl) (fun _ _ _ h => h) (Or.inl ⟨by rfl, ?_⟩) (by assumption) ?_
          rotate_left
          · intro w' hSw
            clear hSw
            unfold opc9
            first
            | (go_simp; done)
            | (go_simp; with_reducible rfl)
          simp only [opc9, Act.put, List.setIfInBounds_toArray, List.set_cons_zero, List.set_cons_succ]
          refine wpAnyH_take (i := 10) (oi := opc10) (v := ?_) rfl (by kernel_rfl) (by kernel_rfl) (by kernel_rfl) (fun _ _ _ h => h) (Or.inl ⟨by rfl, ?_⟩) (by assumption) ?_
          rotate_left
          · intro w' hSw
            clear hSw
            unfold opc10
            first
            | (go_simp; done)
            | (go_simp; with_reducible rfl)
          simp only [opc10, Act.put, List.setIfInBounds_toArray, List.set_cons_zero, List.set_cons_succ]
          refine wpAnyH_take (i := 11) (oi := opc11) (v := ?_) rfl (by kernel_rfl) (by kernel_rfl) (by kernel_rfl) (fun _ _ _ h => h) (Or.inl ⟨by rfl, ?_⟩) (by assumption) ?_
          rotate_left
          · intro w' hSw
            clear hSw
            unfold opc11
            first
            | (go_simp; done)
            | (go_simp; with_reducible rfl)
          simp only [opc11, Act.put, List.setIfInBounds_toArray, List.set_cons_zero, List.set_cons_succ]
          refine wpAnyH_take (i := 12) (oi := opc12) (v := ?_) rfl (by kernel_rfl) (by kernel_rfl) (by kernel_rfl) (fun _ _ _ h => h) (Or.inl ⟨by rfl, ?_⟩) (by assumption) ?_
          rotate_left
          · intro w' hSw
            clear hSw
            unfold opc12
            first
            | (go_simp; done)
            | (go_simp; with_reducible rfl)
          simp only [opc12, Act.put, List.setIfInBounds_toArray, List.set_cons_zero, List.set_cons_succ]
          refine wpAnyH_take (i := 13) (oi := opc13) (v := ?_) rfl (by kernel_rfl) (by kernel_rfl) (by kernel_rfl) (fun _ _ _ h => h) (Or.inl ⟨by rfl, ?_⟩) (by assumption) ?_
          rotate_left
          · intro w' hSw
            clear hSw
            unfold opc13
            first
            | (go_simp; done)
            | (go_simp; with_reducible rfl)
          simp only [opc13, Act.put, List.setIfInBounds_toArray, List.set_cons_zero, List.set_cons_succ]
          refine wpAnyH_take (i := 14) (oi := opc14) (v := ?_) rfl (by kernel_rfl) (by kernel_rfl) (by kernel_rfl) (fun _ _ _ h => h) (Or.inl ⟨by rfl, ?_⟩) (by assumption) ?_
          rotate_left
          · intro w' hSw
            clear hSw
            unfold opc14
            first
            | (go_simp; done)
            | (go_simp; with_reducible rfl)
          simp only [opc14, Act.put, List.setIfInBounds_toArray, List.set_cons_zero, List.set_cons_succ]
          refine wpAnyH_take (i := 15) (oi := opc15) (v := ?_) rfl (by kernel_rfl) (by kernel_rfl) (by kernel_rfl) (fun _ _ _ h => h) (Or.inl ⟨by rfl, ?_⟩) (by assumption) ?_
          rotate_left
          · intro w' hSw
            clear hSw
            unfold opc15
            first
            | (go_simp; done)
            | (go_simp; with_reducible rfl)
          simp only [opc15, Act.put, List.setIfInBounds_toArray, List.set_cons_zero, List.set_cons_succ]
          refine wpAnyH_take (i := 16) (oi := opc16) (v := ?_) rfl (by kernel_rfl) (by kernel_rfl) (by kernel_rfl) (fun _ _ _ h => h) (Or.inl ⟨by rfl, ?_⟩) (by assumption) ?_
          rotate_left
          · intro w' hSw
            clear hSw
            unfold opc16
            first
            | (go_simp; done)
            | (go_simp; with_reducible rfl)
          simp only [opc16, Act.put, List.setIfInBounds_toArray, List.set_cons_zero, List.set_cons_succ]
          refine wpAnyH_take (i := 17) (oi := opc17) (v := ?_) rfl (by kernel_rfl) (by kernel_rfl) (by kernel_rfl) (fun _ _ _ h => h) (Or.inl ⟨by rfl, ?_⟩) (by assumption) ?_
          rotate_left
          · intro w' hSw
            clear hSw
            unfold opc17
            first
            | (go_simp; done)
            | (go_simp; with_reducible rfl)
          simp only [opc17, Act.put, List.setIfInBounds_toArray, List.set_cons_zero, List.set_cons_succ]
          refine wpAnyH_take (i := 18) (oi := opc18) (v := ?_) rfl (by kernel_rfl) (by kernel_rfl) (by kernel_rfl) (fun _ _ _ h => h) (Or.inl ⟨by rfl, ?_⟩) (by assumption) ?_
          rotate_left
          · intro w' hSw
            clear hSw
            unfold opc18
            first
            | (go_simp; done)
            | (go_simp; with_reducible rfl)
          simp only [opc18, Act.put, List.setIfInBounds_toArray, List.set_cons_zero, List.set_cons_succ]
          refine wpAnyH_take (i := 19) (oi := opc19) (v := ?_) rfl (by kernel_rfl) (by kernel_rfl) (by kernel_rfl) (fun _ _ _ h => h) (Or.inl ⟨by rfl, ?_⟩) (by assumption) ?_
          rotate_left
          · intro w' hSw
            clear hSw
            unfold opc19
            first
            | (go_simp; done)
            | (go_simp; with_reducible rfl)
          simp only [opc19, Act.put, List.setIfInBounds_toArray, List.set_cons_zero, List.set_cons_succ]
          refine wpAnyH_take (i := 20) (oi := opc20) (v := ?_) rfl (by kernel_rfl) (by kernel_rfl) (by kernel_rfl) (fun _ _ _ h => h) (Or.inl ⟨by rfl, ?_⟩) (by assumption) ?_
          rotate_left
          · intro w' hSw
            clear hSw
            unfold opc20
            first
            | (go_simp; done)
            | (go_simp; with_reducible rfl)
          simp only [opc20, Act.put, List.setIfInBounds_toArray, List.set_cons_zero, List.set_cons_succ]
          refine wpAnyH_take (i := 21) (oi := opc21) (v := ?_) rfl (by kernel_rfl) (by kernel_rfl) (by kernel_rfl) (fun _ _ _ h => h) (Or.inl ⟨by rfl, ?_⟩) (by assumption) ?_
          rotate_left
          · intro w' hSw
            clear hSw
            unfold opc21
            first
            | (go_simp; done)
            | (go_simp; with_reducible rfl)
          simp only [opc21, Act.put, List.setIfInBounds_toArray, List.set_cons_zero, List.set_cons_succ]
          refine wpAnyH_take (i := 22) (oi := opc22) (v := ?_) rfl (by kernel_rfl) (by kernel_rfl) (by kernel_rfl) (fun _ _ _ h => h) (Or.inl ⟨by rfl, ?_⟩) (by assumption) ?_
          rotate_left
          · intro w' hSw
            obtain ⟨p0, p1, p2, p3, p4, p5, p6, p7, p8, p9⟩ := hSw
            unfold opc22
            first
            | (go_simp; done)
            | (go_simp; with_reducible rfl)
          simp only [opc22, Act.put, List.setIfInBounds_toArray, List.set_cons_zero, List.set_cons_succ]
          refine wpAnyH_take (i := 23) (oi := opc23) (v := ?_) rfl (by kernel_rfl) (by kernel_rfl) (by kernel_rfl) (fun _ _ _ h => h) (Or.inl ⟨by rfl, ?_⟩) (by assumption) ?_
          rotate_left
          · intro w' hSw
            clear hSw
            unfold opc23
            first
            | (go_simp; done)
            | (go_simp; with_reducible rfl)
          simp only [opc23, Act.put, List.setIfInBounds_toArray, List.set_cons_zero, List.set_cons_succ]
          refine wpAnyH_take (i := 24) (oi := opc24) (v := ?_) rfl (by kernel_rfl) (by kernel_rfl) (by kernel_rfl) (fun _ _ _ h => h) (Or.inl ⟨by rfl, ?_⟩) (by assumption) ?_
          rotate_left
          · intro w' hSw
            clear hSw
            unfold opc24
            first
            | (go_simp; done)
            | (go_simp; with_reducible rfl)
          simp only [opc24, Act.put, List.setIfInBounds_toArray, List.set_cons_zero, List.set_cons_succ]
          refine wpAnyH_take (i := 25) (oi := opc25) (v := ?_) rfl (by kernel_rfl) (by kernel_rfl) (by kernel_rfl) (fun _ _ _ h => h) (Or.inl ⟨by rfl, ?_⟩) (by assumption) ?_
          rotate_left
          · intro w' hSw
            obtain ⟨p0, p1, p2, p3, p4, p5, p6, p7, p8, p9⟩ := hSw
            unfold opc25
            first
            | (go_simp; done)
            | (go_simp; with_reducible rfl)
          simp only [opc25, Act.put, List.setIfInBounds_toArray, List.set_cons_zero, List.set_cons_succ]
          refine wpAnyH_take (i := 26) (oi := opc26) (v := (.bool true)) rfl (by kernel_rfl) (by kernel_rfl) (by kernel_rfl) (fun _ _ _ h => h) (Or.inl ⟨by rfl, ?_⟩) (by assumption) ?_
          · intro w' hSw
            exact exec_eq_keys _ _ (.tmp 89) (.tmp 92) k0 k1 k2 k3 k4 rfl rfl rfl w'
          simp only [opc26, Act.put, List.setIfInBounds_toArray, List.set_cons_zero, List.set_cons_succ]
          refine wpAnyH_take (i := 27) (oi := opc27) (v := ?_) rfl (by kernel_rfl) (by kernel_rfl) (by kernel_rfl) (fun _ _ _ h => h) (Or.inl ⟨by rfl, ?_⟩) (by assumption) ?_
          rotate_left
          · intro w' hSw
            clear hSw
            unfold opc27
            first
            | (go_simp; done)
            | (go_simp; with_reducible rfl)
          simp only [opc27, Act.put, List.setIfInBounds_toArray, List.set_cons_zero, List.set_cons_succ]
          refine wpAnyH_take (i := 28) (oi := opc28) (v := ?_) rfl (by kernel_rfl) (by kernel_rfl) (by kernel_rfl) (fun _ _ _ h => h) (Or.inl ⟨by rfl, ?_⟩) (by assumption) ?_
          rotate_left
          · intro w' hSw
            clear hSw
            unfold opc28
            first
            | (go_simp; done)
            | (go_simp; with_reducible rfl)
          simp only [opc28, Act.put, List.setIfInBounds_toArray, List.set_cons_zero, List.set_cons_succ]
          refine wpAnyH_take (i := 29) (oi := opc29) (v := ?_) rfl (by kernel_rfl) (by kernel_rfl) (by kernel_rfl) (fun _ _ _ h => h) (Or.inl ⟨by rfl, ?_⟩) (by assumption) ?_
          rotate_left
          · intro w' hSw
            clear hSw
            unfold opc29
            first
            | (go_simp; done)
            | (go_simp; with_reducible rfl)
          simp only [opc29, Act.put, List.setIfInBounds_toArray, List.set_cons_zero, List.set_cons_succ]
          refine wpAnyH_take (i := 30) (oi := opc30) (v := ?_) rfl (by kernel_rfl) (by kernel_rfl) (by kernel_rfl) (fun _ _ _ h => h) (Or.inl ⟨by rfl, ?_⟩) (by assumption) ?_
          rotate_left
          · intro w' hSw
            obtain ⟨p0, p1, p2, p3, p4, p5, p6, p7, p8, p9⟩ := hSw
            unfold opc30
            first
            | (go_simp; done)
            | (go_simp; with_reducible rfl)
          simp only [opc30, Act.put, List.setIfInBounds_toArray, List.set_cons_zero, List.set_cons_succ]
          refine wpAnyH_take (i := 31) (oi := opc31) (v := ?_) rfl (by kernel_rfl) (by kernel_rfl) (by kernel_rfl) (fun _ _ _ h => h) (Or.inl ⟨by rfl, ?_⟩) (by assumption) ?_
          rotate_left
          · intro w' hSw
            clear hSw
            unfold opc31
            first
            | (go_simp; done)
            | (go_simp; with_reducible rfl)
          simp only [opc31, Act.put, List.setIfInBounds_toArray, List.set_cons_zero, List.set_cons_succ]
          refine wpAnyH_take (i := 32) (oi := opc32) (v := ?_) rfl (by kernel_rfl) (by kernel_rfl) (by kernel_rfl) (fun _ _ _ h => h) (Or.inl ⟨by rfl, ?_⟩) (by assumption) ?_
          rotate_left
          · intro w' hSw
            clear hSw
            unfold opc32
            first
            | (go_simp; done)
            | (go_simp; with_reducible rfl)
          simp only [opc32, Act.put, List.setIfInBounds_toArray, List.set_cons_zero, List.set_cons_succ]
          refine wpAnyH_take (i := 33) (oi := opc33) (v := ?_) rfl (by kernel_rfl) (by kernel_rfl) (by kernel_rfl) (fun _ _ _ h => h) (Or.inl ⟨by rfl, ?_⟩) (by assumption) ?_
          rotate_left
          · intro w' hSw
            clear hSw
            unfold opc33
            first
            | (go_simp; done)
            | (go_simp; with_reducible rfl)
          simp only [opc33, Act.put, List.setIfInBounds_toArray, List.set_cons_zero, List.set_cons_succ]
          refine wpAnyH_take (i := 34) (oi := opc34) (v := ?_) rfl (by kernel_rfl) (by kernel_rfl) (by kernel_rfl) (fun _ _ _ h => h) (Or.inl ⟨by rfl, ?_⟩) (by assumption) ?_
          rotate_left
          · intro w' hSw
            clear hSw
            unfold opc34
            first
            | (go_simp; done)
            | (go_simp; with_reducible rfl)
          simp only [opc34, Act.put, List.setIfInBounds_toArray, List.set_cons_zero, List.set_cons_succ]
          refine wpAnyH_take (i := 35) (oi := opc35) (v := ?_) rfl (by kernel_rfl) (by kernel_rfl) (by kernel_rfl) (fun _ _ _ h => h) (Or.inl ⟨by rfl, ?_⟩) (by assumption) ?_
          rotate_left
          · intro w' hSw
            clear hSw
            unfold opc35
            first
            | (go_simp; done)
            | (go_simp; with_reducible rfl)
          simp only [opc35, Act.put, List.setIfInBounds_toArray, List.set_cons_zero, List.set_cons_succ]
          refine wpAnyH_take (i := 36) (oi := opc36) (v := ?_) rfl (by kernel_rfl) (by kernel_rfl) (by kernel_rfl) (fun _ _ _ h => h) (Or.inl ⟨by rfl, ?_⟩) (by assumption) ?_
          rotate_left
          · intro w' hSw
            obtain ⟨p0, p1, p2, p3, p4, p5, p6, p7, p8, p9⟩ := hSw
            unfold opc36
            first
            | (go_simp; done)
            | (go_simp; with_reducible rfl)
          simp only [opc36, Act.put, List.setIfInBounds_toArray, List.set_cons_zero, List.set_cons_succ]
          refine wpAnyH_take (i := 37) (oi := opc37) (v := ?_) rfl (by kernel_rfl) (by kernel_rfl) (by kernel_rfl) (fun _ _ _ h => h) (Or.inl ⟨by rfl, ?_⟩) (by assumption) ?_
          rotate_left
          · intro w' hSw
            clear hSw
            unfold opc37
            first
            | (go_simp; done)
            | (go_simp; with_reducible rfl)
          simp only [opc37, Act.put, List.setIfInBounds_toArray, List.set_cons_zero, List.set_cons_succ]
          refine wpAnyH_take (i := 38) (oi := opc38) (v := ?_) rfl (by kernel_rfl) (by kernel_rfl) (by kernel_rfl) (fun _ _ _ h => h) (Or.inl ⟨by rfl, ?_⟩) (by assumption) ?_
          rotate_left
          · intro w' hSw
            clear hSw
            unfold opc38
            first
            | (go_simp; done)
            | (go_simp; with_reducible rfl)
          simp only [opc38, Act.put, List.setIfInBounds_toArray, List.set_cons_zero, List.set_cons_succ]
          refine wpAnyH_take (i := 39) (oi := opc39) (v := ?_) rfl (by kernel_rfl) (by kernel_rfl) (by kernel_rfl) (fun _ _ _ h => h) (Or.inl ⟨by rfl, ?_⟩) (by assumption) ?_
          rotate_left
          · intro w' hSw
            clear hSw
            unfold opc39
            first
            | (go_simp; done)
            | (go_simp; with_reducible rfl)
          simp only [opc39, Act.put, List.setIfInBounds_toArray, List.set_cons_zero, List.set_cons_succ]
          refine wpAnyH_take (i := 40) (oi := opc40) (v := ?_) rfl (by kernel_rfl) (by kernel_rfl) (by kernel_rfl) (fun _ _ _ h => h) (Or.inl ⟨by rfl, ?_⟩) (by assumption) ?_
          rotate_left
          · intro w' hSw
            clear hSw
            unfold opc40
            first
            | (go_simp; done)
            | (go_simp; with_reducible rfl)
          simp only [opc40, Act.put, List.setIfInBounds_toArray, List.set_cons_zero, List.set_cons_succ]
          refine wpAnyH_take (i := 41) (oi := opc41) (v := ?_) rfl (by kernel_rfl) (by kernel_rfl) (by kernel_rfl) (fun _ _ _ h => h) (Or.inl ⟨by rfl, ?_⟩) (by assumption) ?_
          rotate_left
          · intro w' hSw
            clear hSw
            unfold opc41
            first
            | (go_simp; done)
            | (go_simp; with_reducible rfl)
          simp only [opc41, Act.put, List.setIfInBounds_toArray, List.set_cons_zero, List.set_cons_succ]
          refine wpAnyH_take (i := 42) (oi := opc42) (v := ?_) rfl (by kernel_rfl) (by kernel_rfl) (by kernel_rfl) (fun _ _ _ h => h) (Or.inl ⟨by rfl, ?_⟩) (by assumption) ?_
          rotate_left
          · intro w' hSw
            obtain ⟨p0, p1, p2, p3, p4, p5, p6, p7, p8, p9⟩ := hSw
            unfold opc42
            first
            | (go_simp; done)
            | (go_simp; with_reducible rfl)
          simp only [opc42, Act.put, List.setIfInBounds_toArray, List.set_cons_zero, List.set_cons_succ]
          refine wpAnyH_take (i := 43) (oi := opc43) (v := ?_) rfl (by kernel_rfl) (by kernel_rfl) (by kernel_rfl) (fun _ _ _ h => h) (Or.inl ⟨by rfl, ?_⟩) (by assumption) ?_
          rotate_left
          · intro w' hSw
            clear hSw
            unfold opc43
            first
            | (go_simp; done)
            | (go_simp; with_reducible rfl)
          simp only [opc43, Act.put, List.setIfInBounds_toArray, List.set_cons_zero, List.set_cons_succ]
          refine wpAnyH_take (i := 44) (oi := opc44) (v := ?_) rfl (by kernel_rfl) (by kernel_rfl) (by kernel_rfl) (fun _ _ _ h => h) (Or.inl ⟨by rfl, ?_⟩) (by assumption) ?_
          rotate_left
          · intro w' hSw
            clear hSw
            unfold opc44
            first
            | (go_simp; done)
            | (go_simp; with_reducible rfl)
          simp only [opc44, Act.put, List.setIfInBounds_toArray, List.set_cons_zero, List.set_cons_succ]
          refine wpAnyH_take (i := 45) (oi := opc45) (v := ?_) rfl (by kernel_rfl) (by kernel_rfl) (by kernel_rfl) (fun _ _ _ h => h) (Or.inl ⟨by rfl, ?_⟩) (by assumption) ?_
          rotate_left
          · intro w' hSw
            clear hSw
            unfold opc45
            first
            | (go_simp; done)
            | (go_simp; with_reducible rfl)
          simp only [opc45, Act.put, List.setIfInBounds_toArray, List.set_cons_zero, List.set_cons_succ]
          refine wpAnyH_take (i := 46) (oi := opc46) (v := ?_) rfl (by kernel_rfl) (by kernel_rfl) (by kernel_rfl) (fun _ _ _ h => h) (Or.inl ⟨by rfl, ?_⟩) (by assumption) ?_
          rotate_left
          · intro w' hSw
            clear hSw
            unfold opc46
            first
            | (go_simp; done)
            | (go_simp; with_reducible rfl)
          simp only [opc46, Act.put, List.setIfInBounds_toArray, List.set_cons_zero, List.set_cons_succ]
          refine wpAnyH_take (i := 47) (oi := opc47) (v := ?_) rfl (by kernel_rfl) (by kernel_rfl) (by kernel_rfl) (fun _ _ _ h => h) (Or.inl ⟨by rfl, ?_⟩) (by assumption) ?_
          rotate_left
          · intro w' hSw
            clear hSw
            unfold opc47
            first
            | (go_simp; done)
            | (go_simp; with_reducible rfl)
          simp only [opc47, Act.put, List.setIfInBounds_toArray, List.set_cons_zero, List.set_cons_succ]
          refine wpAnyH_take (i := 48) (oi := opc48) (v := ?_) rfl (by kernel_rfl) (by kernel_rfl) (by kernel_rfl) (fun _ _ _ h => h) (Or.inl ⟨by rfl, ?_⟩) (by assumption) ?_
          rotate_left
          · intro w' hSw
            obtain ⟨p0, p1, p2, p3, p4, p5, p6, p7, p8, p9⟩ := hSw
            unfold opc48
            first
            | (go_simp; done)
            | (go_simp; with_reducible rfl)
          simp only [opc48, Act.put, List.setIfInBounds_toArray, List.set_cons_zero, List.set_cons_succ]
          refine wpAnyH_take (i := 49) (oi := opc49) (v := ?_) rfl (by kernel_rfl) (by kernel_rfl) (by kernel_rfl) (fun _ _ _ h => h) (Or.inl ⟨by rfl, ?_⟩) (by assumption) ?_
          rotate_left
          · intro w' hSw
            clear hSw
            unfold opc49
            first
            | (go_simp; done)
            | (go_simp; with_reducible rfl)
          simp only [opc49, Act.put, List.setIfInBounds_toArray, List.set_cons_zero, List.set_cons_succ]
          refine wpAnyH_take (i := 50) (oi := opc50) (v := ?_) rfl (by kernel_rfl) (by kernel_rfl) (by kernel_rfl) (fun _ _ _ h => h) (Or.inl ⟨by rfl, ?_⟩) (by assumption) ?_
          rotate_left
          · intro w' hSw
            clear hSw
            unfold opc50
            first
            | (go_simp; done)
            | (go_simp; with_reducible rfl)
          simp only [opc50, Act.put, List.setIfInBounds_toArray, List.set_cons_zero, List.set_cons_succ]
          refine wpAnyH_take (i := 51) (oi := opc51) (v := ?_) rfl (by kernel_rfl) (by kernel_rfl) (by kernel_rfl) (fun _ _ _ h => h) (Or.inl ⟨by rfl, ?_⟩) (by assumption) ?_
          rotate_left
          · intro w' hSw
            clear hSw
            unfold opc51
            first
            | (go_simp; done)
            | (go_simp; with_reducible rfl)
          simp only [opc51, Act.put, List.setIfInBounds_toArray, List.set_cons_zero, List.set_cons_succ]
          refine wpAnyH_take (i := 52) (oi := opc52) (v := ?_) rfl (by kernel_rfl) (by kernel_rfl) (by kernel_rfl) (fun _ _ _ h => h) (Or.inl ⟨by rfl, ?_⟩) (by assumption) ?_
          rotate_left
          · intro w' hSw
            clear hSw
            unfold opc52
            first
            | (go_simp; done)
            | (go_simp; with_reducible rfl)
          simp only [opc52, Act.put, List.setIfInBounds_toArray, List.set_cons_zero, List.set_cons_succ]
          refine wpAnyH_take (i := 53) (oi := opc53) (v := ?_) rfl (by kernel_rfl) (by kernel_rfl) (by kernel_rfl) (fun _ _ _ h => h) (Or.inl ⟨by rfl, ?_⟩) (by assumption) ?_
          rotate_left
          · intro w' hSw
            clear hSw
            unfold opc53
            first
            | (go_simp; done)
            | (go_simp; with_reducible rfl)
          simp only [opc53, Act.put, List.setIfInBounds_toArray, List.set_cons_zero, List.set_cons_succ]
          refine wpAnyH_take (i := 54) (oi := opc54) (v := ?_) rfl (by kernel_rfl) (by kernel_rfl) (by kernel_rfl) (fun _ _ _ h => h) (Or.inl ⟨by rfl, ?_⟩) (by assumption) ?_
          rotate_left
          · intro w' hSw
            obtain ⟨p0, p1, p2, p3, p4, p5, p6, p7, p8, p9⟩ := hSw
            unfold opc54
            first
            | (go_simp; done)
            | (go_simp; with_reducible rfl)
          simp only [opc54, Act.put, List.setIfInBounds_toArray, List.set_cons_zero, List.set_cons_succ]
          refine wpAnyH_take (i := 55) (oi := opc55) (v := ?_) rfl (by kernel_rfl) (by kernel_rfl) (by kernel_rfl) (fun _ _ _ h => h) (Or.inl ⟨by rfl, ?_⟩) (by assumption) ?_
          rotate_left
          · intro w' hSw
            clear hSw
            unfold opc55
            first
            | (go_simp; done)
            | (go_simp; with_reducible rfl)
          simp only [opc55, Act.put, List.setIfInBounds_toArray, List.set_cons_zero, List.set_cons_succ]
          refine wpAnyH_take (i := 56) (oi := opc56) (v := ?_) rfl (by kernel_rfl) (by kernel_rfl) (by kernel_rfl) (fun _ _ _ h => h) (Or.inl ⟨by rfl, ?_⟩) (by assumption) ?_
          rotate_left
          · intro w' hSw
            clear hSw
            unfold opc56
            first
            | (go_simp; done)
            | (go_simp; with_reducible rfl)
          simp only [opc56, Act.put, List.setIfInBounds_toArray, List.set_cons_zero, List.set_cons_succ]
          refine wpAnyH_take (i := 57) (oi := opc57) (v := ?_) rfl (by kernel_rfl) (by kernel_rfl) (by kernel_rfl) (fun _ _ _ h => h) (Or.inl ⟨by rfl, ?_⟩) (by assumption) ?_
          rotate_left
          · intro w' hSw
            clear hSw
            unfold opc57
            first
            | (go_simp; done)
            | (go_simp; with_reducible rfl)
          simp only [opc57, Act.put, List.setIfInBounds_toArray, List.set_cons_zero, List.set_cons_succ]
          refine wpAnyH_take (i := 58) (oi := opc58) (v := ?_) rfl (by kernel_rfl) (by kernel_rfl) (by kernel_rfl) (fun _ _ _ h => h) (Or.inl ⟨by rfl, ?_⟩) (by assumption) ?_
          rotate_left
          · intro w' hSw
            clear hSw
            unfold opc58
            first
            | (go_simp; done)
            | (go_simp; with_reducible rfl)
          simp only [opc58, Act.put, List.setIfInBounds_toArray, List.set_cons_zero, List.set_cons_succ]
          refine wpAnyH_done (by kernel_rfl) ?_ _
          refine NoPanic.normal ?_
          clear hHeld
          go_wp2
          go_ret
          exact ⟨rfl, BW.out.drew⟩
end Go.Proofs.YtckfplpiakbbdaaGreatDoor
