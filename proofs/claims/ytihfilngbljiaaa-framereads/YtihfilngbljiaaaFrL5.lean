/- FrameReads: a reader that takes any chunks, and is asked in between, tells what the document says. -/
import Derived.Test.YtihfilngbljiaaaFrD
import Derived.Test.YtihfilngbljiaaaFrL3
import Derived.Deep.RegionHeld3
namespace Go.Proofs.Ytihfilngbljiaaa
open Go.RowKit Go.Proofs.Fd Go.Proofs.Fr
set_option maxRecDepth 20000

/-- Both readers, as the one pure one. -/
def Two (w0 w : World) (p g d : Nat) (r : Rd) : Prop := RdAt w p g r ∧ DAt w d r ∧ Fr.Good r ∧ w0.heap.size ≤ p ∧ w0.heap.size ≤ g ∧ w0.heap.size ≤ d ∧ d ≠ p ∧ d ≠ g ∧ Below w0.heap.size w0 w
theorem Two.later {w0 w w' : World} {p g d : Nat} {r : Rd} (h : Two w0 w p g d r) (hb : Below w.heap.size w w') : Two w0 w' p g d r := by
  obtain ⟨h1, h2, h3, h4, h5, h6, h7, h8, h9⟩ := h
  exact ⟨h1.later hb, h2.later hb, h3, h4, h5, h6, h7, h8, chain h9 hb⟩
def tellV (r : Rd) : Value := if 4 ≤ r.h.length ∧ num4 r.h ≤ r.h.length - 4 then .tuple #[.string ⟨(nextS r).toArray⟩, .bool true] else noV
def tellS (r : Rd) : ByteArray := if 4 ≤ r.h.length ∧ num4 r.h ≤ r.h.length - 4 then ⟨(nextS r).toArray⟩ else ⟨#[]⟩
def tellB (r : Rd) : Bool := decide (4 ≤ r.h.length ∧ num4 r.h ≤ r.h.length - 4)
def tellR (r : Rd) : Rd := if 4 ≤ r.h.length ∧ num4 r.h ≤ r.h.length - 4 then nextR r else r
theorem tell_good {r : Rd} (h : Fr.Good r) : Fr.Good (tellR r) := by
  unfold tellR
  split
  · exact next_good r h
  · exact h
/-- r.Take and d.Take, one behind the other. -/
theorem two_take (w0 : World) (p g d : Nat) (r : Rd) (c : ByteArray) (w : World) (T : Two w0 w p g d r) :
    Calls Try.prog 13 #[.pointer (some ⟨p, 0, none⟩), .string c] w fun e w' => e = .returned (.int .i64 (takeE r c.data.toList)) ∧ Below w0.heap.size w0 w' ∧
      Calls Try.prog 15 #[.pointer (some ⟨d, 0, none⟩), .string c] w' fun e w'' => e = .returned (.int .i64 (takeE r c.data.toList)) ∧ ∃ g', Two w0 w'' p g' d (takeR r c.data.toList) := by
  obtain ⟨h1, h2, h3, h4, h5, h6, h7, h8, h9⟩ := T
  refine Calls.mono (take_any p g r c w h1 h3.2.2) ?_
  rintro e w1 ⟨rfl, ⟨g1, q1, q2⟩, q3⟩
  have b1 : Below w0.heap.size w0 w1 := h9.trans (q3.below h4 h5 h9.size)
  have d1 : DAt w1 d r := h2.apart q3 h7 h8
  have hd := h2.lt
  have g1d : d ≠ g1 := by rcases q2 with rfl | rfl | z; (· exact h8); (· exact h7); omega
  refine ⟨rfl, b1, ?_⟩
  refine Calls.mono (dtake_any d r c w1 d1 h3.2.2) ?_
  rintro e w2 ⟨rfl, q4, q5⟩
  refine ⟨rfl, g1, q1.apart q5 (Ne.symm h7) (Ne.symm h7) (Ne.symm g1d) (Ne.symm g1d), q4, take_good r _ h3, h4, ?_, h6, h7, g1d, b1.trans (q5.below h6 h6 b1.size)⟩
  rcases q2 with rfl | rfl | z
  · exact h5
  · exact h4
  · exact Nat.le_trans h9.size z
/-- r.Next and d.Next, one behind the other. -/
theorem two_next (w0 : World) (p g d : Nat) (r : Rd) (w : World) (T : Two w0 w p g d r) :
    Calls Try.prog 17 #[.pointer (some ⟨p, 0, none⟩)] w fun e w' => e = .returned (.tuple #[.string (tellS r), .bool (tellB r)]) ∧ Below w0.heap.size w0 w' ∧
      Calls Try.prog 18 #[.pointer (some ⟨d, 0, none⟩)] w' fun e w'' => e = .returned (.tuple #[.string (tellS r), .bool (tellB r)]) ∧ ∃ g', Two w0 w'' p g' d (tellR r) := by
  have T' := T
  obtain ⟨h1, h2, h3, h4, h5, h6, h7, h8, h9⟩ := T
  have hd := h2.lt
  by_cases hh : has r.h
  · have e1 : tellS r = ⟨(nextS r).toArray⟩ := if_pos hh
    have e2 : tellB r = true := decide_eq_true hh
    have e3 : tellR r = nextR r := if_pos hh
    rw [e1, e2, e3]
    refine Calls.mono (next_yes p g r w h1 h3.2.2 hh) ?_
    rintro e w1 ⟨rfl, ⟨g1, q1, q2⟩, q3⟩
    have b1 : Below w0.heap.size w0 w1 := h9.trans (q3.below h4 h5 h9.size)
    have d1 : DAt w1 d r := h2.apart q3 h7 h8
    have g1d : d ≠ g1 := by rcases q2 with rfl | rfl | z; (· exact h8); (· exact h7); omega
    refine ⟨rfl, b1, ?_⟩
    refine Calls.mono (dnext_yes d r w1 d1 h3.2.2 hh) ?_
    rintro e w2 ⟨rfl, q4, q5⟩
    refine ⟨rfl, g1, q1.apart q5 (Ne.symm h7) (Ne.symm h7) (Ne.symm g1d) (Ne.symm g1d), q4, next_good r h3, h4, ?_, h6, h7, g1d, b1.trans (q5.below h6 h6 b1.size)⟩
    rcases q2 with rfl | rfl | z
    · exact h5
    · exact h4
    · exact Nat.le_trans h9.size z
  · have e1 : tellS r = ⟨#[]⟩ := if_neg hh
    have e2 : tellB r = false := decide_eq_false hh
    have e3 : tellR r = r := if_neg hh
    rw [e1, e2, e3]
    refine Calls.mono (next_no p g r w h1 h3.2.2 hh) ?_
    rintro e w1 ⟨rfl, q3⟩
    have T1 := T'.later q3
    refine ⟨rfl, T1.2.2.2.2.2.2.2.2, ?_⟩
    refine Calls.mono (dnext_no d r w1 T1.2.1 h3.2.2 hh) ?_
    rintro e w2 ⟨rfl, q4⟩
    exact ⟨rfl, g, T1.later q4⟩
/-- A fork of each takes a chunk of its own. -/
theorem two_fork (w0 : World) (p g d : Nat) (r : Rd) (c : ByteArray) (w : World) (T : Two w0 w p g d r) :
    Calls Try.prog 12 #[.pointer (some ⟨p, 0, none⟩)] w fun e w' => ∃ p', e = .returned (.pointer (some ⟨p', 0, none⟩)) ∧
      Calls Try.prog 13 #[.pointer (some ⟨p', 0, none⟩), .string c] w' fun e w'' => e = .returned (.int .i64 (takeE r c.data.toList)) ∧ 
        Calls Try.prog 14 #[.pointer (some ⟨d, 0, none⟩)] w'' fun e w3 => ∃ d', e = .returned (.pointer (some ⟨d', 0, none⟩)) ∧
          Calls Try.prog 15 #[.pointer (some ⟨d', 0, none⟩), .string c] w3 fun e w4 => e = .returned (.int .i64 (takeE r c.data.toList)) ∧ Two w0 w4 p g d r := by
  have T' := T
  obtain ⟨h1, h2, h3, h4, h5, h6, h7, h8, h9⟩ := T
  refine Calls.mono (fork_any p g r w h1 h3.2.2) ?_
  rintro e w1 ⟨p', g', rfl, q1, q2, q3, q4⟩
  refine ⟨p', rfl, ?_⟩
  refine Calls.mono (take_any p' g' r c w1 q1 h3.2.2) ?_
  rintro e w2 ⟨rfl, -, q5⟩
  have b2 : Below w.heap.size w w2 := q4.trans (q5.below q2 q3 q4.size)
  refine ⟨rfl, ?_⟩
  refine Calls.mono (dfork_any d r w2 (h2.later b2)) ?_
  rintro e w3 ⟨d', rfl, q6, q7, q8⟩
  refine ⟨d', rfl, ?_⟩
  refine Calls.mono (dtake_any d' r c w3 q6 h3.2.2) ?_
  rintro e w4 ⟨rfl, -, q9⟩
  have b3 : Below w.heap.size w w3 := chain b2 q8
  exact ⟨rfl, T'.later (b3.trans (q9.below (Nat.le_trans b2.size q7) (Nat.le_trans b2.size q7) b3.size))⟩
def ffS : ByteArray := ⟨#[255, 255, 255, 255, 255]⟩
def opr0 : Oper := { dst := some 45, op := Go.Op.move (Go.Operand.tmp 5), type := 30, pos := "law.go:28", after := #[], guard := none }
def opr1 : Oper := { dst := some 46, op := Go.Op.move (Go.Operand.tmp 0), type := 22, pos := "law.go:28", after := #[], guard := none }
def opr2 : Oper := { dst := some 47, op := Go.Op.move (Go.Operand.tmp 7), type := 3, pos := "law.go:28", after := #[], guard := none }
def opr3 : Oper := { dst := some 48, op := Go.Op.indexAddr 22 (Go.Operand.tmp 46) (Go.Operand.tmp 47), type := 0, pos := "law.go:28", after := #[{ on := 1, ground := Go.Ground.data }, { on := 2, ground := Go.Ground.data }], guard := none }
def opr4 : Oper := { dst := some 49, op := Go.Op.load 9 (Go.Operand.tmp 48), type := 9, pos := "law.go:28", after := #[{ on := 3, ground := Go.Ground.data }], guard := none }
def opr5 : Oper := { dst := some 50, op := Go.Op.call { callee := Go.Callee.value (Go.Operand.func 13), args := #[Go.Operand.tmp 45, Go.Operand.tmp 49], argTypes := #[30, 9] }, type := 23, pos := "law.go:28", after := #[{ on := 0, ground := Go.Ground.data }, { on := 4, ground := Go.Ground.data }], guard := none }
def opr6 : Oper := { dst := some 51, op := Go.Op.move (Go.Operand.tmp 6), type := 32, pos := "law.go:28", after := #[], guard := none }
def opr7 : Oper := { dst := some 52, op := Go.Op.move (Go.Operand.tmp 0), type := 22, pos := "law.go:28", after := #[], guard := none }
def opr8 : Oper := { dst := some 53, op := Go.Op.move (Go.Operand.tmp 7), type := 3, pos := "law.go:28", after := #[], guard := none }
def opr9 : Oper := { dst := some 54, op := Go.Op.indexAddr 22 (Go.Operand.tmp 52) (Go.Operand.tmp 53), type := 0, pos := "law.go:28", after := #[{ on := 7, ground := Go.Ground.data }, { on := 8, ground := Go.Ground.data }], guard := none }
def opr10 : Oper := { dst := some 55, op := Go.Op.load 9 (Go.Operand.tmp 54), type := 9, pos := "law.go:28", after := #[{ on := 9, ground := Go.Ground.data }], guard := none }
def opr11 : Oper := { dst := some 56, op := Go.Op.call { callee := Go.Callee.value (Go.Operand.func 15), args := #[Go.Operand.tmp 51, Go.Operand.tmp 55], argTypes := #[32, 9] }, type := 23, pos := "law.go:28", after := #[{ on := 6, ground := Go.Ground.data }, { on := 10, ground := Go.Ground.data }, { on := 5, ground := Go.Ground.chain }], guard := none }
def opr12 : Oper := { dst := some 57, op := Go.Op.binOp Go.BinOp.neq 23 (Go.Operand.tmp 50) (Go.Operand.tmp 56) 23, type := 4, pos := "law.go:28", after := #[{ on := 5, ground := Go.Ground.data }, { on := 11, ground := Go.Ground.data }], guard := none }
def opr13 : Oper := { dst := some 58, op := Go.Op.move (Go.Operand.tmp 57), type := 4, pos := "law.go:28", after := #[{ on := 12, ground := Go.Ground.data }, { on := 11, ground := Go.Ground.chain }], guard := none }
def opr14 : Oper := { dst := some 59, op := Go.Op.move (Go.Operand.tmp 5), type := 30, pos := "law.go:28", after := #[{ on := 13, ground := Go.Ground.guard }], guard := some (13, false) }
def opr15 : Oper := { dst := some 60, op := Go.Op.call { callee := Go.Callee.value (Go.Operand.func 16), args := #[Go.Operand.tmp 59], argTypes := #[30] }, type := 3, pos := "law.go:28", after := #[{ on := 14, ground := Go.Ground.data }, { on := 13, ground := Go.Ground.chain }, { on := 13, ground := Go.Ground.guard }], guard := some (13, false) }
def opr16 : Oper := { dst := some 61, op := Go.Op.move (Go.Operand.tmp 6), type := 32, pos := "law.go:28", after := #[{ on := 13, ground := Go.Ground.guard }], guard := some (13, false) }
def opr17 : Oper := { dst := some 62, op := Go.Op.nilCheck (Go.Operand.tmp 61), type := 0, pos := "law.go:28", after := #[{ on := 16, ground := Go.Ground.data }, { on := 13, ground := Go.Ground.guard }], guard := some (13, false) }
def opr18 : Oper := { dst := some 63, op := Go.Op.fieldAddr 34 (Go.Operand.tmp 62) 0, type := 0, pos := "law.go:28", after := #[{ on := 17, ground := Go.Ground.data }, { on := 13, ground := Go.Ground.guard }], guard := some (13, false) }
def opr19 : Oper := { dst := some 64, op := Go.Op.load 9 (Go.Operand.tmp 63), type := 9, pos := "law.go:28", after := #[{ on := 18, ground := Go.Ground.data }, { on := 13, ground := Go.Ground.guard }], guard := some (13, false) }
def opr20 : Oper := { dst := some 65, op := Go.Op.call { callee := Go.Callee.builtin Go.Builtin.len, args := #[Go.Operand.tmp 64], argTypes := #[9] }, type := 3, pos := "law.go:28", after := #[{ on := 19, ground := Go.Ground.data }, { on := 13, ground := Go.Ground.guard }], guard := some (13, false) }
def opr21 : Oper := { dst := some 66, op := Go.Op.binOp Go.BinOp.neq 3 (Go.Operand.tmp 60) (Go.Operand.tmp 65) 3, type := 4, pos := "law.go:28", after := #[{ on := 15, ground := Go.Ground.data }, { on := 20, ground := Go.Ground.data }, { on := 13, ground := Go.Ground.guard }], guard := some (13, false) }
def opr22 : Oper := { dst := some 67, op := Go.Op.pick (Go.Operand.tmp 58) (Go.Operand.const (Go.Value.bool true)) (Go.Operand.tmp 66), type := 4, pos := "law.go:28", after := #[{ on := 13, ground := Go.Ground.data }, { on := 21, ground := Go.Ground.data }], guard := none }
def ops0 : Oper := { dst := some 96, op := Go.Op.move (Go.Operand.tmp 10), type := 9, pos := "law.go:34", after := #[], guard := none }
def ops1 : Oper := { dst := some 97, op := Go.Op.move (Go.Operand.tmp 12), type := 9, pos := "law.go:34", after := #[], guard := none }
def ops2 : Oper := { dst := some 98, op := Go.Op.binOp Go.BinOp.neq 9 (Go.Operand.tmp 96) (Go.Operand.tmp 97) 9, type := 4, pos := "law.go:34", after := #[{ on := 0, ground := Go.Ground.data }, { on := 1, ground := Go.Ground.data }], guard := none }
def ops3 : Oper := { dst := some 99, op := Go.Op.move (Go.Operand.tmp 98), type := 4, pos := "law.go:34", after := #[{ on := 2, ground := Go.Ground.data }], guard := none }
def ops4 : Oper := { dst := some 100, op := Go.Op.move (Go.Operand.tmp 11), type := 4, pos := "law.go:34", after := #[{ on := 3, ground := Go.Ground.guard }], guard := some (3, false) }
def ops5 : Oper := { dst := some 101, op := Go.Op.move (Go.Operand.tmp 13), type := 4, pos := "law.go:34", after := #[{ on := 3, ground := Go.Ground.guard }], guard := some (3, false) }
def ops6 : Oper := { dst := some 102, op := Go.Op.binOp Go.BinOp.neq 4 (Go.Operand.tmp 100) (Go.Operand.tmp 101) 4, type := 4, pos := "law.go:34", after := #[{ on := 4, ground := Go.Ground.data }, { on := 5, ground := Go.Ground.data }, { on := 3, ground := Go.Ground.guard }], guard := some (3, false) }
def ops7 : Oper := { dst := some 103, op := Go.Op.pick (Go.Operand.tmp 99) (Go.Operand.const (Go.Value.bool true)) (Go.Operand.tmp 102), type := 4, pos := "law.go:34", after := #[{ on := 3, ground := Go.Ground.data }, { on := 6, ground := Go.Ground.data }], guard := none }
def ops8 : Oper := { dst := some 104, op := Go.Op.move (Go.Operand.tmp 103), type := 4, pos := "law.go:34", after := #[{ on := 7, ground := Go.Ground.data }, { on := 3, ground := Go.Ground.chain }], guard := none }
def ops9 : Oper := { dst := some 105, op := Go.Op.move (Go.Operand.tmp 5), type := 30, pos := "law.go:34", after := #[{ on := 8, ground := Go.Ground.guard }], guard := some (8, false) }
def ops10 : Oper := { dst := some 106, op := Go.Op.call { callee := Go.Callee.value (Go.Operand.func 16), args := #[Go.Operand.tmp 105], argTypes := #[30] }, type := 3, pos := "law.go:34", after := #[{ on := 9, ground := Go.Ground.data }, { on := 8, ground := Go.Ground.chain }, { on := 8, ground := Go.Ground.guard }], guard := some (8, false) }
def ops11 : Oper := { dst := some 107, op := Go.Op.move (Go.Operand.tmp 6), type := 32, pos := "law.go:34", after := #[{ on := 8, ground := Go.Ground.guard }], guard := some (8, false) }
def ops12 : Oper := { dst := some 108, op := Go.Op.nilCheck (Go.Operand.tmp 107), type := 0, pos := "law.go:34", after := #[{ on := 11, ground := Go.Ground.data }, { on := 8, ground := Go.Ground.guard }], guard := some (8, false) }
def ops13 : Oper := { dst := some 109, op := Go.Op.fieldAddr 34 (Go.Operand.tmp 108) 0, type := 0, pos := "law.go:34", after := #[{ on := 12, ground := Go.Ground.data }, { on := 8, ground := Go.Ground.guard }], guard := some (8, false) }
def ops14 : Oper := { dst := some 110, op := Go.Op.load 9 (Go.Operand.tmp 109), type := 9, pos := "law.go:34", after := #[{ on := 13, ground := Go.Ground.data }, { on := 8, ground := Go.Ground.guard }], guard := some (8, false) }
def ops15 : Oper := { dst := some 111, op := Go.Op.call { callee := Go.Callee.builtin Go.Builtin.len, args := #[Go.Operand.tmp 110], argTypes := #[9] }, type := 3, pos := "law.go:34", after := #[{ on := 14, ground := Go.Ground.data }, { on := 8, ground := Go.Ground.guard }], guard := some (8, false) }
def ops16 : Oper := { dst := some 112, op := Go.Op.binOp Go.BinOp.neq 3 (Go.Operand.tmp 106) (Go.Operand.tmp 111) 3, type := 4, pos := "law.go:34", after := #[{ on := 10, ground := Go.Ground.data }, { on := 15, ground := Go.Ground.data }, { on := 8, ground := Go.Ground.guard }], guard := some (8, false) }
def ops17 : Oper := { dst := some 113, op := Go.Op.pick (Go.Operand.tmp 104) (Go.Operand.const (Go.Value.bool true)) (Go.Operand.tmp 112), type := 4, pos := "law.go:34", after := #[{ on := 8, ground := Go.Ground.data }, { on := 16, ground := Go.Ground.data }], guard := none }
set_option maxHeartbeats 4000000 in
theorem FrameReads_walk (a : Option Addr) (ks : List ByteArray) (n cap : Nat) (a2 : Option Addr) (cs : List Int) (n2 cap2 : Nat) (hn : Hid (ks.length = n)) (hn63 : n < 9223372036854775807) (hn2 : Hid (cs.length = n2)) (w : World) (hc : Hid (StrAt w a ks)) (hc2 : Hid (IntAt w a2 cs)) :
    Calls Try.prog 4 #[.slice a n cap, .slice a2 n2 cap2] w fun e w' => e = .returned (.bool true) ∧ Below w.heap.size w w' := by
  go_enter Try.func4, Try.ntmps4
  go_wp2_with fail
  refine Calls.mono (new_any w) ?_
  rintro e w1 ⟨rfl, hr1, hb1, hsz1⟩
  obtain ⟨p, hp⟩ : ∃ p, w.heap.size = p := ⟨_, rfl⟩
  have HP : Hid (w.heap.size = p) := hp
  obtain ⟨d, hd⟩ : ∃ d, w1.heap.size = d := ⟨_, rfl⟩
  have I1 : Hid (Two w (w1.alloc (.cells #[.string ⟨#[]⟩, .bool false] 34)) p p d ⟨[], false⟩) := by
    rw [hp] at hr1
    have b := (Below.refl w1.heap.size w1).alloc (Nat.le_refl _) (.cells #[.string ⟨#[]⟩, .bool false] 34)
    refine ⟨hr1.later b, by rw [← hd]; exact DAt.new w1 ⟨[], false⟩ _, good_new, by omega, by omega, by omega, by omega, by omega, chain hb1 b⟩
  rw [hp]
  clear hr1 hb1 hsz1
  go_wp2_with fail
  refine Calls.mono (works_any _) ?_
  rintro e w2 ⟨rfl, hb2⟩
  have I2 : Hid (Two w w2 p p d ⟨[], false⟩) := I1.out.later hb2
  clear I1 hb2 hd hp
  go_wp2_with fail
  go_loopw [7] (fun i wr => ∃ k : Nat, k ≤ 100 ∧ k ≤ n ∧ i = .int .i64 (k : Int) ∧ ∃ (g : Nat) (rk : Rd), Hid (Two w wr p g d rk)) (fun i _ => 100 - (intOf i).toNat)
  case atStart => exact ⟨0, by omega, by omega, rfl, _, _, I2.out⟩
  case round =>
    obtain ⟨k, hk, hkn, rfl, g, rk, I⟩ := hrel
    clear I2
    by_cases hlt : k < n
    · by_cases h100 : k < 100
      · have g1 : (k : Int) < (n : Int) := by omega
        have g2 : (k : Int) < 100 := by omega
        have hk' : k < ks.length := by have := hn.out; omega
        obtain ⟨c, hcc⟩ : ∃ c, ks[k] = c := ⟨_, rfl⟩
        have HC : Hid (∀ w', Below w.heap.size w w' → ∃ b o, a = some ⟨b, o, none⟩ ∧ w'.cell? ⟨b, o + k, none⟩ = some (.string c)) := fun w' hb => by
          obtain ⟨b, o, e, h⟩ := StrAt.later hc.out hb rfl k hk'
          exact ⟨b, o, e, by rw [h, hcc]⟩
        have FK := two_fork w p g d rk ⟨#[255, 255, 255, 255, 255]⟩ wr I.out
        obtain ⟨E, hE⟩ : ∃ E, takeE rk (⟨#[255, 255, 255, 255, 255]⟩ : ByteArray).data.toList = E := ⟨_, rfl⟩
        rw [hE] at FK
        have HFK : Hid _ := FK
        clear FK hE hcc
        go_wp2_with fail
        refine Calls.mono HFK.out ?_
        rintro e w3 ⟨p', rfl, q3⟩
        clear HFK
        go_wp2_with fail
        refine Calls.mono q3 ?_
        rintro e w4 ⟨rfl, q4⟩
        clear q3
        go_wp2_with fail
        refine Calls.mono q4 ?_
        rintro e w5 ⟨d', rfl, q5⟩
        clear q4
        go_wp2_with fail
        refine Calls.mono q5 ?_
        rintro e w6 ⟨rfl, q6⟩
        clear q5
        have I6 : Hid (Two w w6 p g d rk) := q6
        clear q6 I
        obtain ⟨b, o, rfl, hcell⟩ := HC.out w6 I6.out.2.2.2.2.2.2.2.2
        have TK := two_take w p g d rk c w6.drew (I6.out.later (Below.refl _ _).drew)
        obtain ⟨E2, hE2⟩ : ∃ E, takeE rk c.data.toList = E := ⟨_, rfl⟩
        obtain ⟨rt, hrt⟩ : ∃ E, takeR rk c.data.toList = E := ⟨_, rfl⟩
        rw [hE2, hrt] at TK
        have HTK : Hid (Calls Try.prog 13 #[.pointer (some ⟨p, 0, none⟩), .string c] w6.drew fun e w' => e = .returned (.int .i64 E2) ∧ Below w.heap.size w w' ∧
          Calls Try.prog 15 #[.pointer (some ⟨d, 0, none⟩), .string c] w' fun e w'' => e = .returned (.int .i64 E2) ∧ ∃ g', Two w w'' p g' d rt) := TK
        have HC2 : Hid (∀ w', Below w.heap.size w w' → w'.cell? ⟨b, o + k, none⟩ = some (.string c)) := fun w' hb => by
          obtain ⟨b', o', e', h'⟩ := HC.out w' hb
          cases e'
          exact h'
        obtain ⟨Z, hZ⟩ : ∃ Z : ByteArray, Z = ⟨rt.h.toArray⟩ := ⟨_, rfl⟩
        have hZl : rt.h.length = Z.size := by rw [hZ]; simp [ByteArray.size]
        have HZ : Hid (Z = ⟨rt.h.toArray⟩) := hZ
        have WT : Hid (∀ (w' : World) (gg : Nat), RdAt w' p gg rt → Calls Try.prog 16 #[.pointer (some ⟨p, 0, none⟩)] w' fun e w'' => e = .returned (.int .i64 (Z.size : Int)) ∧ w'' = w') := fun w' gg h => by rw [← hZl]; exact waits_any p gg rt w' h
        clear TK hE2 hrt HC hZ I6 hZl
        go_wp2_with fail
        refine (fun (KEY : ∀ (X : World) (gx : Nat), Two w X p gx d rt → (?KA : World → Nat → Prop) X gx) => ?mainA) ?keyA
        case mainA =>
          refine wp_region_noPanic ?_
          refine wp_region_held_drew (S := fun w' => w'.cell? ⟨b, o + k, none⟩ = some (.string c)) (by kernel_rfl) (hcell) (fun hHeld => ?_)
          refine wpAnyH_take (i := 0) (oi := opr0) (v := ?_) rfl (by kernel_rfl) (by kernel_rfl) (by kernel_rfl) (fun _ _ _ h => h) (Or.inl ⟨by rfl, ?_⟩) (by assumption) ?_
          rotate_left
          · intro w' hSw
            clear hSw
            unfold opr0
            first
            | (go_simp; done)
            | (go_simp; with_reducible rfl)
          simp only [opr0, Act.put, List.setIfInBounds_toArray, List.set_cons_zero, List.set_cons_succ]
          refine wpAnyH_take (i := 1) (oi := opr1) (v := ?_) rfl (by kernel_rfl) (by kernel_rfl) (by kernel_rfl) (fun _ _ _ h => h) (Or.inl ⟨by rfl, ?_⟩) (by assumption) ?_
          rotate_left
          · intro w' hSw
            clear hSw
            unfold opr1
            first
            | (go_simp; done)
            | (go_simp; with_reducible rfl)
          simp only [opr1, Act.put, List.setIfInBounds_toArray, List.set_cons_zero, List.set_cons_succ]
          refine wpAnyH_take (i := 2) (oi := opr2) (v := ?_) rfl (by kernel_rfl) (by kernel_rfl) (by kernel_rfl) (fun _ _ _ h => h) (Or.inl ⟨by rfl, ?_⟩) (by assumption) ?_
          rotate_left
          · intro w' hSw
            clear hSw
            unfold opr2
            first
            | (go_simp; done)
            | (go_simp; with_reducible rfl)
          simp only [opr2, Act.put, List.setIfInBounds_toArray, List.set_cons_zero, List.set_cons_succ]
          refine wpAnyH_take (i := 3) (oi := opr3) (v := ?_) rfl (by kernel_rfl) (by kernel_rfl) (by kernel_rfl) (fun _ _ _ h => h) (Or.inl ⟨by rfl, ?_⟩) (by assumption) ?_
          rotate_left
          · intro w' hSw
            clear hSw
            unfold opr3
            first
            | (go_simp; done)
            | (go_simp; with_reducible rfl)
          simp only [opr3, Act.put, List.setIfInBounds_toArray, List.set_cons_zero, List.set_cons_succ]
          refine wpAnyH_take (i := 4) (oi := opr4) (v := ?_) rfl (by kernel_rfl) (by kernel_rfl) (by kernel_rfl) (fun _ _ _ h => h) (Or.inl ⟨by rfl, ?_⟩) (by assumption) ?_
          rotate_left
          · intro w' hSw
            skip
            unfold opr4
            first
            | (go_simp; done)
            | (go_simp; with_reducible rfl)
          simp only [opr4, Act.put, List.setIfInBounds_toArray, List.set_cons_zero, List.set_cons_succ]
          refine wpAnyH_take (i := 6) (oi := opr6) (v := ?_) rfl (by kernel_rfl) (by kernel_rfl) (by kernel_rfl) (fun _ _ _ h => h) (Or.inl ⟨by rfl, ?_⟩) (by assumption) ?_
          rotate_left
          · intro w' hSw
            clear hSw
            unfold opr6
            first
            | (go_simp; done)
            | (go_simp; with_reducible rfl)
          simp only [opr6, Act.put, List.setIfInBounds_toArray, List.set_cons_zero, List.set_cons_succ]
          refine wpAnyH_take (i := 7) (oi := opr7) (v := ?_) rfl (by kernel_rfl) (by kernel_rfl) (by kernel_rfl) (fun _ _ _ h => h) (Or.inl ⟨by rfl, ?_⟩) (by assumption) ?_
          rotate_left
          · intro w' hSw
            clear hSw
            unfold opr7
            first
            | (go_simp; done)
            | (go_simp; with_reducible rfl)
          simp only [opr7, Act.put, List.setIfInBounds_toArray, List.set_cons_zero, List.set_cons_succ]
          refine wpAnyH_take (i := 8) (oi := opr8) (v := ?_) rfl (by kernel_rfl) (by kernel_rfl) (by kernel_rfl) (fun _ _ _ h => h) (Or.inl ⟨by rfl, ?_⟩) (by assumption) ?_
          rotate_left
          · intro w' hSw
            clear hSw
            unfold opr8
            first
            | (go_simp; done)
            | (go_simp; with_reducible rfl)
          simp only [opr8, Act.put, List.setIfInBounds_toArray, List.set_cons_zero, List.set_cons_succ]
          refine wpAnyH_take (i := 9) (oi := opr9) (v := ?_) rfl (by kernel_rfl) (by kernel_rfl) (by kernel_rfl) (fun _ _ _ h => h) (Or.inl ⟨by rfl, ?_⟩) (by assumption) ?_
          rotate_left
          · intro w' hSw
            clear hSw
            unfold opr9
            first
            | (go_simp; done)
            | (go_simp; with_reducible rfl)
          simp only [opr9, Act.put, List.setIfInBounds_toArray, List.set_cons_zero, List.set_cons_succ]
          refine wpAnyH_take (i := 10) (oi := opr10) (v := ?_) rfl (by kernel_rfl) (by kernel_rfl) (by kernel_rfl) (fun _ _ _ h => h) (Or.inl ⟨by rfl, ?_⟩) (by assumption) ?_
          rotate_left
          · intro w' hSw
            skip
            unfold opr10
            first
            | (go_simp; done)
            | (go_simp; with_reducible rfl)
          simp only [opr10, Act.put, List.setIfInBounds_toArray, List.set_cons_zero, List.set_cons_succ]
          refine wpAnyH_ready (rs := [5]) (by kernel_rfl) (by simp) ?_
          refine AllReadyH.cons (o := opr5) rfl (fun KK hKK => ?_) AllReadyH.nil
          unfold opr5
          go_simp
          refine Calls.mono (HTK.out) ?_
          rintro e w7 ⟨rfl, hb7, q7⟩
          have hcell7 := HC2.out w7 hb7
          have H7 : Hid (Calls Try.prog 15 #[.pointer (some ⟨d, 0, none⟩), .string c] w7 fun e w'' => e = .returned (.int .i64 E2) ∧ ∃ g', Two w w'' p g' d rt) := q7
          refine hKK.out _ _ (hcell7) (fun hHeld7 => ?_)
          clear hKK KK q7 hb7 hcell7 hHeld
          refine wpAnyH_ready (rs := [11]) (by kernel_rfl) (by simp) ?_
          refine AllReadyH.cons (o := opr11) rfl (fun KK hKK => ?_) AllReadyH.nil
          unfold opr11
          go_simp
          refine Calls.mono (H7.out) ?_
          rintro e w8 ⟨rfl, g8, q8⟩
          have I8 : Hid (Two w w8 p g8 d rt) := q8
          have hcell8 := HC2.out w8 q8.2.2.2.2.2.2.2.2
          have c8 := q8.2.1.1
          rw [← HZ.out] at c8
          refine hKK.out _ _ (hcell8) (fun hHeld8 => ?_)
          clear hKK KK q8 H7 hHeld7
          refine wpAnyH_take (i := 12) (oi := opr12) (v := ?_) rfl (by kernel_rfl) (by kernel_rfl) (by kernel_rfl) (fun _ _ _ h => h) (Or.inl ⟨by rfl, ?_⟩) (by assumption) ?_
          rotate_left
          · intro w' hSw
            clear hSw
            unfold opr12
            first
            | (go_simp; done)
            | (go_simp; with_reducible rfl)
          simp only [opr12, Act.put, List.setIfInBounds_toArray, List.set_cons_zero, List.set_cons_succ]
          refine wpAnyH_take (i := 13) (oi := opr13) (v := ?_) rfl (by kernel_rfl) (by kernel_rfl) (by kernel_rfl) (fun _ _ _ h => h) (Or.inl ⟨by rfl, ?_⟩) (by assumption) ?_
          rotate_left
          · intro w' hSw
            clear hSw
            unfold opr13
            first
            | (go_simp; done)
            | (go_simp; with_reducible rfl)
          simp only [opr13, Act.put, List.setIfInBounds_toArray, List.set_cons_zero, List.set_cons_succ]
          refine wpAnyH_take (i := 14) (oi := opr14) (v := ?_) rfl (by kernel_rfl) (by kernel_rfl) (by kernel_rfl) (fun _ _ _ h => h) (Or.inl ⟨by rfl, ?_⟩) (by assumption) ?_
          rotate_left
          · intro w' hSw
            clear hSw
            unfold opr14
            first
            | (go_simp; done)
            | (go_simp; with_reducible rfl)
          simp only [opr14, Act.put, List.setIfInBounds_toArray, List.set_cons_zero, List.set_cons_succ]
          refine wpAnyH_take (i := 16) (oi := opr16) (v := ?_) rfl (by kernel_rfl) (by kernel_rfl) (by kernel_rfl) (fun _ _ _ h => h) (Or.inl ⟨by rfl, ?_⟩) (by assumption) ?_
          rotate_left
          · intro w' hSw
            clear hSw
            unfold opr16
            first
            | (go_simp; done)
            | (go_simp; with_reducible rfl)
          simp only [opr16, Act.put, List.setIfInBounds_toArray, List.set_cons_zero, List.set_cons_succ]
          refine wpAnyH_take (i := 17) (oi := opr17) (v := ?_) rfl (by kernel_rfl) (by kernel_rfl) (by kernel_rfl) (fun _ _ _ h => h) (Or.inl ⟨by rfl, ?_⟩) (by assumption) ?_
          rotate_left
          · intro w' hSw
            clear hSw
            unfold opr17
            first
            | (go_simp; done)
            | (go_simp; with_reducible rfl)
          simp only [opr17, Act.put, List.setIfInBounds_toArray, List.set_cons_zero, List.set_cons_succ]
          refine wpAnyH_take (i := 18) (oi := opr18) (v := ?_) rfl (by kernel_rfl) (by kernel_rfl) (by kernel_rfl) (fun _ _ _ h => h) (Or.inl ⟨by rfl, ?_⟩) (by assumption) ?_
          rotate_left
          · intro w' hSw
            clear hSw
            unfold opr18
            first
            | (go_simp; done)
            | (go_simp; with_reducible rfl)
          simp only [opr18, Act.put, List.setIfInBounds_toArray, List.set_cons_zero, List.set_cons_succ]
          refine wpAnyH_ready (rs := [15, 19]) (by kernel_rfl) (by simp) ?_
          refine AllReadyH.cons (o := opr15) rfl (fun KK hKK => ?_) (AllReadyH.cons (o := opr19) rfl (fun KK hKK => ?_) AllReadyH.nil)
          · unfold opr15
            go_simp
            refine Calls.mono (WT.out w8 g8 I8.out.1) ?_
            rintro e w9 ⟨rfl, hw9⟩
            have hw9' := hw9.symm
            subst hw9'
            clear hw9
            refine hKK.out _ _ hcell8 (fun hHeldA => ?_)
            clear hKK KK
            refine wpAnyH_ready (rs := [19]) (by kernel_rfl) (by simp) ?_
            refine AllReadyH.cons (o := opr19) rfl (fun KK hKK => ?_) AllReadyH.nil
            unfold opr19
            go_simp
            refine hKK.out _ _ hcell8 (fun hHeldB => ?_)
            clear hKK KK
            refine wpAnyH_take (i := 20) (oi := opr20) (v := ?_) rfl (by kernel_rfl) (by kernel_rfl) (by kernel_rfl) (fun _ _ _ h => h) (Or.inl ⟨by rfl, ?_⟩) (by assumption) ?_
            rotate_left
            · intro w' hSw
              clear hSw
              unfold opr20
              first
              | (go_simp; done)
              | (go_simp; with_reducible rfl)
            simp only [opr20, Act.put, List.setIfInBounds_toArray, List.set_cons_zero, List.set_cons_succ]
            refine wpAnyH_take (i := 21) (oi := opr21) (v := ?_) rfl (by kernel_rfl) (by kernel_rfl) (by kernel_rfl) (fun _ _ _ h => h) (Or.inl ⟨by rfl, ?_⟩) (by assumption) ?_
            rotate_left
            · intro w' hSw
              clear hSw
              unfold opr21
              first
              | (go_simp; done)
              | (go_simp; with_reducible rfl)
            simp only [opr21, Act.put, List.setIfInBounds_toArray, List.set_cons_zero, List.set_cons_succ]
            refine wpAnyH_take (i := 22) (oi := opr22) (v := ?_) rfl (by kernel_rfl) (by kernel_rfl) (by kernel_rfl) (fun _ _ _ h => h) (Or.inl ⟨by rfl, ?_⟩) (by assumption) ?_
            rotate_left
            · intro w' hSw
              clear hSw
              unfold opr22
              first
              | (go_simp; done)
              | (go_simp; with_reducible rfl)
            simp only [opr22, Act.put, List.setIfInBounds_toArray, List.set_cons_zero, List.set_cons_succ]
            refine wpAnyH_done (by kernel_rfl) ?_ _
            refine NoPanic.normal ?_
            exact KEY w8 g8 I8.out
          · unfold opr19
            go_simp
            refine hKK.out _ _ hcell8 (fun hHeldA => ?_)
            clear hKK KK
            refine wpAnyH_take (i := 20) (oi := opr20) (v := ?_) rfl (by kernel_rfl) (by kernel_rfl) (by kernel_rfl) (fun _ _ _ h => h) (Or.inl ⟨by rfl, ?_⟩) (by assumption) ?_
            rotate_left
            · intro w' hSw
              clear hSw
              unfold opr20
              first
              | (go_simp; done)
              | (go_simp; with_reducible rfl)
            simp only [opr20, Act.put, List.setIfInBounds_toArray, List.set_cons_zero, List.set_cons_succ]
            refine wpAnyH_ready (rs := [15]) (by kernel_rfl) (by simp) ?_
            refine AllReadyH.cons (o := opr15) rfl (fun KK hKK => ?_) AllReadyH.nil
            unfold opr15
            go_simp
            refine Calls.mono (WT.out w8 g8 I8.out.1) ?_
            rintro e w9 ⟨rfl, hw9⟩
            have hw9' := hw9.symm
            subst hw9'
            clear hw9
            refine hKK.out _ _ hcell8 (fun hHeldB => ?_)
            clear hKK KK
            refine wpAnyH_take (i := 21) (oi := opr21) (v := ?_) rfl (by kernel_rfl) (by kernel_rfl) (by kernel_rfl) (fun _ _ _ h => h) (Or.inl ⟨by rfl, ?_⟩) (by assumption) ?_
            rotate_left
            · intro w' hSw
              clear hSw
              unfold opr21
              first
              | (go_simp; done)
              | (go_simp; with_reducible rfl)
            simp only [opr21, Act.put, List.setIfInBounds_toArray, List.set_cons_zero, List.set_cons_succ]
            refine wpAnyH_take (i := 22) (oi := opr22) (v := ?_) rfl (by kernel_rfl) (by kernel_rfl) (by kernel_rfl) (fun _ _ _ h => h) (Or.inl ⟨by rfl, ?_⟩) (by assumption) ?_
            rotate_left
            · intro w' hSw
              clear hSw
              unfold opr22
              first
              | (go_simp; done)
              | (go_simp; with_reducible rfl)
            simp only [opr22, Act.put, List.setIfInBounds_toArray, List.set_cons_zero, List.set_cons_succ]
            refine wpAnyH_done (by kernel_rfl) ?_ _
            refine NoPanic.normal ?_
            exact KEY w8 g8 I8.out
        case keyA =>
          intro w8 g8 I8t
          have I8 : Hid (Two w w8 p g8 d rt) := I8t
          clear I8t HTK HC2 hcell
          go_wp2_with fail
          go_loopw [9] (fun i wx => ∃ k2 : Nat, k2 ≤ 20 ∧ i = .int .i64 (k2 : Int) ∧ ∃ (gy : Nat) (ry : Rd), Hid (Two w wx p gy d ry)) (fun i _ => 20 - (intOf i).toNat)
          case atStart => exact ⟨0, by omega, rfl, _, _, I8.out⟩
          case round =>
            obtain ⟨k2, hk2, rfl, gy, ry, J⟩ := hrel
            clear I8
            by_cases q1 : k < n2
            · have g3 : (k : Int) < (n2 : Int) := by omega
              have hk3 : k < cs.length := by have := hn2.out; omega
              obtain ⟨b2, o2, rfl, hcell2⟩ := IntAt.later hc2.out J.out.2.2.2.2.2.2.2.2 k hk3
              obtain ⟨ask, hask⟩ : ∃ c, cs[k] = c := ⟨_, rfl⟩
              rw [hask] at hcell2
              clear hask
              by_cases q2 : (k2 : Int) < ask
              · by_cases q3 : k2 < 20
                · have g4 : (k2 : Int) < 20 := by omega
                  have NX := two_next w p gy d ry wr J.out
                  obtain ⟨S, hS⟩ : ∃ E, tellS ry = E := ⟨_, rfl⟩
                  obtain ⟨B, hB⟩ : ∃ E, tellB ry = E := ⟨_, rfl⟩
                  obtain ⟨rn, hrn⟩ : ∃ E, tellR ry = E := ⟨_, rfl⟩
                  rw [hS, hB, hrn] at NX
                  have HNX : Hid (Calls Try.prog 17 #[.pointer (some ⟨p, 0, none⟩)] wr fun e w' => e = .returned (.tuple #[.string S, .bool B]) ∧ Below w.heap.size w w' ∧
                    Calls Try.prog 18 #[.pointer (some ⟨d, 0, none⟩)] w' fun e w'' => e = .returned (.tuple #[.string S, .bool B]) ∧ ∃ g', Two w w'' p g' d rn) := NX
                  clear NX hS hB hrn J
                  go_wp2_with fail
                  refine Calls.mono HNX.out ?_
                  rintro e wa ⟨rfl, -, qa⟩
                  clear HNX
                  go_wp2_with fail
                  refine Calls.mono qa ?_
                  rintro e wb ⟨rfl, gb, qb⟩
                  have IB : Hid (Two w wb p gb d rn) := qb
                  clear qa qb
                  obtain ⟨Y, hY⟩ : ∃ Y : ByteArray, Y = ⟨rn.h.toArray⟩ := ⟨_, rfl⟩
                  have hYl : rn.h.length = Y.size := by rw [hY]; simp [ByteArray.size]
                  have cb := IB.out.2.1.1
                  rw [← hY] at cb
                  have IC : Hid (Two w wb.drew p gb d rn) := IB.out.later (Below.refl _ _).drew
                  have cc : wb.drew.cell? ⟨d, 0, none⟩ = some (.string Y) := cb
                  clear hY IB cb
                  go_wp2_with fail
                  refine wp_region_noPanic ?_
                  refine wp_region_held_drew (S := fun w' => w'.cell? ⟨d, 0, none⟩ = some (.string Y)) (by kernel_rfl) (cc) (fun hHeld => ?_)
                  refine wpAnyH_take (i := 0) (oi := ops0) (v := ?_) rfl (by kernel_rfl) (by kernel_rfl) (by kernel_rfl) (fun _ _ _ h => h) (Or.inl ⟨by rfl, ?_⟩) (by assumption) ?_
                  rotate_left
                  · intro w' hSw
                    clear hSw
                    unfold ops0
                    first
                    | (go_simp; done)
                    | (go_simp; with_reducible rfl)
                  simp only [ops0, Act.put, List.setIfInBounds_toArray, List.set_cons_zero, List.set_cons_succ]
                  refine wpAnyH_take (i := 1) (oi := ops1) (v := ?_) rfl (by kernel_rfl) (by kernel_rfl) (by kernel_rfl) (fun _ _ _ h => h) (Or.inl ⟨by rfl, ?_⟩) (by assumption) ?_
                  rotate_left
                  · intro w' hSw
                    clear hSw
                    unfold ops1
                    first
                    | (go_simp; done)
                    | (go_simp; with_reducible rfl)
                  simp only [ops1, Act.put, List.setIfInBounds_toArray, List.set_cons_zero, List.set_cons_succ]
                  refine wpAnyH_take (i := 2) (oi := ops2) (v := ?_) rfl (by kernel_rfl) (by kernel_rfl) (by kernel_rfl) (fun _ _ _ h => h) (Or.inl ⟨by rfl, ?_⟩) (by assumption) ?_
                  rotate_left
                  · intro w' hSw
                    clear hSw
                    unfold ops2
                    first
                    | (go_simp; done)
                    | (go_simp; with_reducible rfl)
                  simp only [ops2, Act.put, List.setIfInBounds_toArray, List.set_cons_zero, List.set_cons_succ]
                  refine wpAnyH_take (i := 3) (oi := ops3) (v := ?_) rfl (by kernel_rfl) (by kernel_rfl) (by kernel_rfl) (fun _ _ _ h => h) (Or.inl ⟨by rfl, ?_⟩) (by assumption) ?_
                  rotate_left
                  · intro w' hSw
                    clear hSw
                    unfold ops3
                    first
                    | (go_simp; done)
                    | (go_simp; with_reducible rfl)
                  simp only [ops3, Act.put, List.setIfInBounds_toArray, List.set_cons_zero, List.set_cons_succ]
                  refine wpAnyH_take (i := 4) (oi := ops4) (v := ?_) rfl (by kernel_rfl) (by kernel_rfl) (by kernel_rfl) (fun _ _ _ h => h) (Or.inl ⟨by rfl, ?_⟩) (by assumption) ?_
                  rotate_left
                  · intro w' hSw
                    clear hSw
                    unfold ops4
                    first
                    | (go_simp; done)
                    | (go_simp; with_reducible rfl)
                  simp only [ops4, Act.put, List.setIfInBounds_toArray, List.set_cons_zero, List.set_cons_succ]
                  refine wpAnyH_take (i := 5) (oi := ops5) (v := ?_) rfl (by kernel_rfl) (by kernel_rfl) (by kernel_rfl) (fun _ _ _ h => h) (Or.inl ⟨by rfl, ?_⟩) (by assumption) ?_
                  rotate_left
                  · intro w' hSw
                    clear hSw
                    unfold ops5
                    first
                    | (go_simp; done)
                    | (go_simp; with_reducible rfl)
                  simp only [ops5, Act.put, List.setIfInBounds_toArray, List.set_cons_zero, List.set_cons_succ]
                  refine wpAnyH_take (i := 6) (oi := ops6) (v := ?_) rfl (by kernel_rfl) (by kernel_rfl) (by kernel_rfl) (fun _ _ _ h => h) (Or.inl ⟨by rfl, ?_⟩) (by assumption) ?_
                  rotate_left
                  · intro w' hSw
                    clear hSw
                    unfold ops6
                    first
                    | (go_simp; done)
                    | (go_simp; with_reducible rfl)
                  simp only [ops6, Act.put, List.setIfInBounds_toArray, List.set_cons_zero, List.set_cons_succ]
                  refine wpAnyH_take (i := 7) (oi := ops7) (v := ?_) rfl (by kernel_rfl) (by kernel_rfl) (by kernel_rfl) (fun _ _ _ h => h) (Or.inl ⟨by rfl, ?_⟩) (by assumption) ?_
                  rotate_left
                  · intro w' hSw
                    clear hSw
                    unfold ops7
                    first
                    | (go_simp; done)
                    | (go_simp; with_reducible rfl)
                  simp only [ops7, Act.put, List.setIfInBounds_toArray, List.set_cons_zero, List.set_cons_succ]
                  refine wpAnyH_take (i := 8) (oi := ops8) (v := ?_) rfl (by kernel_rfl) (by kernel_rfl) (by kernel_rfl) (fun _ _ _ h => h) (Or.inl ⟨by rfl, ?_⟩) (by assumption) ?_
                  rotate_left
                  · intro w' hSw
                    clear hSw
                    unfold ops8
                    first
                    | (go_simp; done)
                    | (go_simp; with_reducible rfl)
                  simp only [ops8, Act.put, List.setIfInBounds_toArray, List.set_cons_zero, List.set_cons_succ]
                  refine wpAnyH_take (i := 9) (oi := ops9) (v := ?_) rfl (by kernel_rfl) (by kernel_rfl) (by kernel_rfl) (fun _ _ _ h => h) (Or.inl ⟨by rfl, ?_⟩) (by assumption) ?_
                  rotate_left
                  · intro w' hSw
                    clear hSw
                    unfold ops9
                    first
                    | (go_simp; done)
                    | (go_simp; with_reducible rfl)
                  simp only [ops9, Act.put, List.setIfInBounds_toArray, List.set_cons_zero, List.set_cons_succ]
                  refine wpAnyH_take (i := 11) (oi := ops11) (v := ?_) rfl (by kernel_rfl) (by kernel_rfl) (by kernel_rfl) (fun _ _ _ h => h) (Or.inl ⟨by rfl, ?_⟩) (by assumption) ?_
                  rotate_left
                  · intro w' hSw
                    clear hSw
                    unfold ops11
                    first
                    | (go_simp; done)
                    | (go_simp; with_reducible rfl)
                  simp only [ops11, Act.put, List.setIfInBounds_toArray, List.set_cons_zero, List.set_cons_succ]
                  refine wpAnyH_take (i := 12) (oi := ops12) (v := ?_) rfl (by kernel_rfl) (by kernel_rfl) (by kernel_rfl) (fun _ _ _ h => h) (Or.inl ⟨by rfl, ?_⟩) (by assumption) ?_
                  rotate_left
                  · intro w' hSw
                    clear hSw
                    unfold ops12
                    first
                    | (go_simp; done)
                    | (go_simp; with_reducible rfl)
                  simp only [ops12, Act.put, List.setIfInBounds_toArray, List.set_cons_zero, List.set_cons_succ]
                  refine wpAnyH_take (i := 13) (oi := ops13) (v := ?_) rfl (by kernel_rfl) (by kernel_rfl) (by kernel_rfl) (fun _ _ _ h => h) (Or.inl ⟨by rfl, ?_⟩) (by assumption) ?_
                  rotate_left
                  · intro w' hSw
                    clear hSw
                    unfold ops13
                    first
                    | (go_simp; done)
                    | (go_simp; with_reducible rfl)
                  simp only [ops13, Act.put, List.setIfInBounds_toArray, List.set_cons_zero, List.set_cons_succ]
                  refine wpAnyH_take (i := 14) (oi := ops14) (v := ?_) rfl (by kernel_rfl) (by kernel_rfl) (by kernel_rfl) (fun _ _ _ h => h) (Or.inl ⟨by rfl, ?_⟩) (by assumption) ?_
                  rotate_left
                  · intro w' hSw
                    skip
                    unfold ops14
                    first
                    | (go_simp; done)
                    | (go_simp; with_reducible rfl)
                  simp only [ops14, Act.put, List.setIfInBounds_toArray, List.set_cons_zero, List.set_cons_succ]
                  refine wpAnyH_take (i := 15) (oi := ops15) (v := ?_) rfl (by kernel_rfl) (by kernel_rfl) (by kernel_rfl) (fun _ _ _ h => h) (Or.inl ⟨by rfl, ?_⟩) (by assumption) ?_
                  rotate_left
                  · intro w' hSw
                    clear hSw
                    unfold ops15
                    first
                    | (go_simp; done)
                    | (go_simp; with_reducible rfl)
                  simp only [ops15, Act.put, List.setIfInBounds_toArray, List.set_cons_zero, List.set_cons_succ]
                  refine wpAnyH_ready (rs := [10]) (by kernel_rfl) (by simp) ?_
                  refine AllReadyH.cons (o := ops10) rfl (fun KK hKK => ?_) AllReadyH.nil
                  unfold ops10
                  go_simp
                  refine Calls.mono (waits_any p gb rn wb.drew IC.out.1) ?_
                  rintro e w9 ⟨rfl, hw9⟩
                  have hw9' := hw9.symm
                  subst hw9'
                  refine hKK.out _ _ (cc) (fun hHeld9 => ?_)
                  clear hKK KK hw9 hHeld
                  refine wpAnyH_take (i := 16) (oi := ops16) (v := ?_) rfl (by kernel_rfl) (by kernel_rfl) (by kernel_rfl) (fun _ _ _ h => h) (Or.inl ⟨by rfl, ?_⟩) (by assumption) ?_
                  rotate_left
                  · intro w' hSw
                    clear hSw
                    unfold ops16
                    first
                    | (go_simp; done)
                    | (go_simp; with_reducible rfl)
                  simp only [ops16, Act.put, List.setIfInBounds_toArray, List.set_cons_zero, List.set_cons_succ]
                  refine wpAnyH_take (i := 17) (oi := ops17) (v := ?_) rfl (by kernel_rfl) (by kernel_rfl) (by kernel_rfl) (fun _ _ _ h => h) (Or.inl ⟨by rfl, ?_⟩) (by assumption) ?_
                  rotate_left
                  · intro w' hSw
                    clear hSw
                    unfold ops17
                    first
                    | (go_simp; done)
                    | (go_simp; with_reducible rfl)
                  simp only [ops17, Act.put, List.setIfInBounds_toArray, List.set_cons_zero, List.set_cons_succ]
                  refine wpAnyH_done (by kernel_rfl) ?_ _
                  refine NoPanic.normal ?_
                  clear hHeld9
                  go_wp2_with fail
                  go_roundw
                  case rel => exact ⟨k2 + 1, by omega, by go_num, _, _, IC.out⟩
                  case measure => simp [intOf]; omega
                · have g4 : ¬ (k2 : Int) < 20 := by omega
                  go_wp2_with fail
                  go_roundw
                  case rel => exact ⟨k + 1, by omega, by omega, by go_num, _, _, J.out⟩
                  case measure => simp [intOf]; omega
              · go_wp2_with fail
                go_roundw
                case rel => exact ⟨k + 1, by omega, by omega, by go_num, _, _, J.out⟩
                case measure => simp [intOf]; omega
            · have g3 : ¬ (k : Int) < (n2 : Int) := by omega
              go_wp2_with fail
              go_roundw
              case rel => exact ⟨k + 1, by omega, by omega, by go_num, _, _, J.out⟩
              case measure => simp [intOf]; omega
      · have g1 : (k : Int) < (n : Int) := by omega
        have g2 : ¬ (k : Int) < 100 := by omega
        go_wp2_with fail
        go_ret
        exact ⟨rfl, I.out.2.2.2.2.2.2.2.2⟩
    · have g1 : ¬ (k : Int) < (n : Int) := by omega
      go_wp2_with fail
      go_ret
      exact ⟨rfl, I.out.2.2.2.2.2.2.2.2⟩
end Go.Proofs.Ytihfilngbljiaaa
