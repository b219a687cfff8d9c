/- Crash. -/
import Derived.Test.YtageoeogofeckaaDoorDkS
namespace Go.Proofs.YtageoeogofeckaaDoor
open Go.RowKit Go.Proofs.Fd Go.Proofs.Dk
set_option maxRecDepth 20000

/-- Numbers that lie in a row. -/
def IntAt (w : World) (a : Option Addr) (cs : List Int) : Prop := ∀ i (hi : i < cs.length), ∃ b o, a = some ⟨b, o, none⟩ ∧ w.cell? ⟨b, o + i, none⟩ = some (.int .i64 cs[i])
theorem IntAt.later {W w1 : World} {a : Option Addr} {cs : List Int} (h : IntAt W a cs) (hb : Below W.heap.size W w1) : IntAt w1 a cs := fun i hi => by
  obtain ⟨b, o, e, hc⟩ := h i hi
  exact ⟨b, o, e, cell_later hb hc⟩
/-- copy(b[o:], c[1:1+m]). -/
theorem copy_cells (w : World) (b o B m : Nat) (l : Bs) (hm : m ≤ 64) (hl : l.length = 64) (hth : w.there b o 64) (hr : w.rangeAt B 1 (bc l)) :
    (Builtin.copy_ #[52, 52] 3 #[.slice (some ⟨b, o, none⟩) 64 64, .slice (some ⟨B, 1, none⟩) m 64]).run Tryd.prog w = .ok (.int .i64 (m : Int)) (w.setCells b o (bc (l.take m))) := by
  have hlen : (bc (l.take m)).length = m := by rw [bc_len, List.length_take]; omega
  have hst := run_storeCells_cells (P := Tryd.prog) b o (bc (l.take m)) 0 w
    (by rw [hlen]; intro j hj; simpa using (hth j (by omega)).1) (by rw [hlen]; intro j hj; simpa using (hth j (by omega)).2) (bc_one _)
  have hld := run_loadCells_list (P := Tryd.prog) w ⟨B, 1, none⟩ (bc (l.take m)) (fun j v hv => by
    rw [Addr.add_mid]
    refine hr j v ?_
    have hj := (List.getElem?_eq_some_iff.1 hv).1
    rw [hlen] at hj
    unfold bc at hv ⊢
    rw [List.getElem?_map] at hv ⊢
    rw [List.getElem?_take_of_lt hj] at hv
    exact hv)
  rw [hlen] at hld
  have hmn : Nat.min m 64 = m := Nat.min_eq_left hm
  simp [Builtin.copy_, run_underlying Tryd.underlying52, Builtin.lenOf, Builtin.firstCells, hmn]
  rw [hld, Result.andThen_ok]
  simp only []
  rw [hst]
  rfl
theorem wp_copy_run {P : Program} (w : World) {o : Oper} {a : Act} {K : Act → World → Prop} {Q : Exit → Act → World → Prop} (s x : Operand) (t tn : TypeId)
    (ho : o.op = .call { callee := .builtin .copy, args := #[s, x], argTypes := #[t, tn] }) (vs vx : Value) (hs : a.eval s = vs) (hx : a.eval x = vx)
    (v' : Value) (w' : World) (hr : (Builtin.copy_ #[t, tn] o.type #[vs, vx]).run P w = .ok v' w') (h : K (a.put o.dst v') w') : o.wp P a w K Q := by
  unfold Oper.wp execOp
  simp only [ho, resolve, invoke, builtin, Sem.run_bind, Sem.run_pure, Result.andThen_ok, List.map_toArray, List.map_cons, List.map_nil, hs, hx, hr]
  exact h
theorem IntAt.kept {w w' : World} {F : Nat → Prop} {a : Option Addr} {cs : List Int} (h : IntAt w a cs) (hb : Bf F w w') (hF : ∀ x, a = some x → 0 < cs.length → ¬ F x.block) : IntAt w' a cs := fun i hi => by
  obtain ⟨b, o, e, hc⟩ := h i hi
  exact ⟨b, o, e, hb.cell hc (hF ⟨b, o, none⟩ e (by omega))⟩
def opc0 : Oper := { dst := some 23, op := Go.Op.move (Go.Operand.tmp 0), type := 22, pos := "disk.go:100", after := #[], guard := none }
def opc1 : Oper := { dst := some 24, op := Go.Op.nilCheck (Go.Operand.tmp 23), type := 0, pos := "disk.go:100", after := #[{ on := 0, ground := Go.Ground.data }], guard := none }
def opc2 : Oper := { dst := some 25, op := Go.Op.fieldAddr 44 (Go.Operand.tmp 24) 2, type := 0, pos := "disk.go:100", after := #[{ on := 1, ground := Go.Ground.data }], guard := none }
def opc3 : Oper := { dst := some 26, op := Go.Op.load 41 (Go.Operand.tmp 25), type := 41, pos := "disk.go:100", after := #[{ on := 2, ground := Go.Ground.data }], guard := none }
def opc4 : Oper := { dst := some 27, op := Go.Op.fieldAddr 109 (Go.Operand.tmp 6) 0, type := 0, pos := "disk.go:100", after := #[], guard := none }
def opc5 : Oper := { dst := some 28, op := Go.Op.load 3 (Go.Operand.tmp 27), type := 3, pos := "disk.go:100", after := #[{ on := 4, ground := Go.Ground.data }], guard := none }
def opc6 : Oper := { dst := some 29, op := Go.Op.indexAddr 41 (Go.Operand.tmp 26) (Go.Operand.tmp 28), type := 0, pos := "disk.go:100", after := #[{ on := 3, ground := Go.Ground.data }, { on := 5, ground := Go.Ground.data }], guard := none }
def opc7 : Oper := { dst := some 30, op := Go.Op.slice 107 (Go.Operand.tmp 29) none none none, type := 52, pos := "disk.go:100", after := #[{ on := 6, ground := Go.Ground.data }], guard := none }
def opc8 : Oper := { dst := some 31, op := Go.Op.fieldAddr 109 (Go.Operand.tmp 6) 1, type := 0, pos := "disk.go:100", after := #[], guard := none }
def opc10 : Oper := { dst := some 33, op := Go.Op.move (Go.Operand.tmp 5), type := 3, pos := "disk.go:100", after := #[], guard := none }
def opc12 : Oper := { dst := some 35, op := Go.Op.load 3 (Go.Operand.tmp 34), type := 3, pos := "disk.go:100", after := #[{ on := 11, ground := Go.Ground.data }], guard := none }
def opc14 : Oper := { dst := some 37, op := Go.Op.slice 107 (Go.Operand.tmp 31) none (some (Go.Operand.tmp 36)) none, type := 52, pos := "disk.go:100", after := #[{ on := 8, ground := Go.Ground.data }, { on := 13, ground := Go.Ground.data }], guard := none }
def opc15 : Oper := { dst := some 38, op := Go.Op.call { callee := Go.Callee.builtin Go.Builtin.copy, args := #[Go.Operand.tmp 30, Go.Operand.tmp 37], argTypes := #[52, 52] }, type := 3, pos := "disk.go:100", after := #[{ on := 7, ground := Go.Ground.data }, { on := 14, ground := Go.Ground.data }, { on := 13, ground := Go.Ground.chain }], guard := none }
def opd0 : Oper := { dst := some 49, op := Go.Op.move (Go.Operand.tmp 0), type := 22, pos := "disk.go:104", after := #[], guard := none }
def opd1 : Oper := { dst := some 50, op := Go.Op.nilCheck (Go.Operand.tmp 49), type := 0, pos := "disk.go:104", after := #[{ on := 0, ground := Go.Ground.data }], guard := none }
def opd2 : Oper := { dst := some 51, op := Go.Op.fieldAddr 44 (Go.Operand.tmp 50) 3, type := 0, pos := "disk.go:104", after := #[{ on := 1, ground := Go.Ground.data }], guard := none }
def opd3 : Oper := { dst := some 52, op := Go.Op.load 41 (Go.Operand.tmp 51), type := 41, pos := "disk.go:104", after := #[{ on := 2, ground := Go.Ground.data }], guard := none }
def opd4 : Oper := { dst := some 53, op := Go.Op.fieldAddr 109 (Go.Operand.tmp 8) 0, type := 0, pos := "disk.go:104", after := #[], guard := none }
def opd5 : Oper := { dst := some 54, op := Go.Op.load 3 (Go.Operand.tmp 53), type := 3, pos := "disk.go:104", after := #[{ on := 4, ground := Go.Ground.data }], guard := none }
def opd6 : Oper := { dst := some 55, op := Go.Op.move (Go.Operand.tmp 0), type := 22, pos := "disk.go:104", after := #[], guard := none }
def opd7 : Oper := { dst := some 56, op := Go.Op.nilCheck (Go.Operand.tmp 55), type := 0, pos := "disk.go:104", after := #[{ on := 6, ground := Go.Ground.data }], guard := none }
def opd8 : Oper := { dst := some 57, op := Go.Op.fieldAddr 44 (Go.Operand.tmp 56) 2, type := 0, pos := "disk.go:104", after := #[{ on := 7, ground := Go.Ground.data }], guard := none }
def opd9 : Oper := { dst := some 58, op := Go.Op.load 41 (Go.Operand.tmp 57), type := 41, pos := "disk.go:104", after := #[{ on := 8, ground := Go.Ground.data }], guard := none }
def opd10 : Oper := { dst := some 59, op := Go.Op.fieldAddr 109 (Go.Operand.tmp 8) 0, type := 0, pos := "disk.go:104", after := #[], guard := none }
def opd11 : Oper := { dst := some 60, op := Go.Op.load 3 (Go.Operand.tmp 59), type := 3, pos := "disk.go:104", after := #[{ on := 10, ground := Go.Ground.data }], guard := none }
def opd12 : Oper := { dst := some 61, op := Go.Op.indexAddr 41 (Go.Operand.tmp 58) (Go.Operand.tmp 60), type := 0, pos := "disk.go:104", after := #[{ on := 9, ground := Go.Ground.data }, { on := 11, ground := Go.Ground.data }], guard := none }
def opd13 : Oper := { dst := some 62, op := Go.Op.load 107 (Go.Operand.tmp 61), type := 107, pos := "disk.go:104", after := #[{ on := 12, ground := Go.Ground.data }], guard := none }
def opd14 : Oper := { dst := some 63, op := Go.Op.indexAddr 41 (Go.Operand.tmp 52) (Go.Operand.tmp 54), type := 0, pos := "disk.go:104", after := #[{ on := 3, ground := Go.Ground.data }, { on := 5, ground := Go.Ground.data }, { on := 0, ground := Go.Ground.phase }, { on := 1, ground := Go.Ground.phase }, { on := 2, ground := Go.Ground.phase }, { on := 3, ground := Go.Ground.phase }, { on := 4, ground := Go.Ground.phase }, { on := 5, ground := Go.Ground.phase }, { on := 6, ground := Go.Ground.phase }, { on := 7, ground := Go.Ground.phase }, { on := 8, ground := Go.Ground.phase }, { on := 9, ground := Go.Ground.phase }, { on := 10, ground := Go.Ground.phase }, { on := 11, ground := Go.Ground.phase }, { on := 12, ground := Go.Ground.phase }, { on := 13, ground := Go.Ground.phase }], guard := none }
def opd15 : Oper := { dst := none, op := Go.Op.store 107 (Go.Operand.tmp 63) (Go.Operand.tmp 62), type := 0, pos := "disk.go:104", after := #[{ on := 14, ground := Go.Ground.data }, { on := 13, ground := Go.Ground.data }, { on := 0, ground := Go.Ground.phase }, { on := 1, ground := Go.Ground.phase }, { on := 2, ground := Go.Ground.phase }, { on := 3, ground := Go.Ground.phase }, { on := 4, ground := Go.Ground.phase }, { on := 5, ground := Go.Ground.phase }, { on := 6, ground := Go.Ground.phase }, { on := 7, ground := Go.Ground.phase }, { on := 8, ground := Go.Ground.phase }, { on := 9, ground := Go.Ground.phase }, { on := 10, ground := Go.Ground.phase }, { on := 11, ground := Go.Ground.phase }, { on := 12, ground := Go.Ground.phase }, { on := 13, ground := Go.Ground.phase }], guard := none }
end Go.Proofs.YtageoeogofeckaaDoor
