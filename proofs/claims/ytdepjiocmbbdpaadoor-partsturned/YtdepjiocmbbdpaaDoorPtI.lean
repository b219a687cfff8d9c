/- Ids and marks, compared. -/
import Derived.Test.YtdepjiocmbbdpaaDoorPtH
import Derived.Laws.StructEq
namespace Go.Proofs.YtdepjiocmbbdpaaDoor
open Go.RowKit Go.Proofs.Fd Go.Proofs.Pt
set_option maxRecDepth 20000

theorem eq8 (d : Nat) (a0 a1 a2 a3 a4 a5 a6 a7 b0 b1 b2 b3 b4 b5 b6 b7 : Int) (w : World) :
    (Op.equalIn (d + 2) 57 (.agg #[.int .u8 a0, .int .u8 a1, .int .u8 a2, .int .u8 a3, .int .u8 a4, .int .u8 a5, .int .u8 a6, .int .u8 a7]) (.agg #[.int .u8 b0, .int .u8 b1, .int .u8 b2, .int .u8 b3, .int .u8 b4, .int .u8 b5, .int .u8 b6, .int .u8 b7])).run Tryd.prog w = .ok (decide (a0 = b0 ∧ a1 = b1 ∧ a2 = b2 ∧ a3 = b3 ∧ a4 = b4 ∧ a5 = b5 ∧ a6 = b6 ∧ a7 = b7)) w := by
  rw [Op.equalIn]
  go_simp
  simp only [List.range', List.forIn_cons, List.forIn_nil]
  go_simp
  repeat' split
  all_goals simp_all
theorem eq6 (d : Nat) (a0 a1 a2 a3 a4 a5 b0 b1 b2 b3 b4 b5 : Int) (w : World) :
    (Op.equalIn (d + 2) 58 (.agg #[.int .u8 a0, .int .u8 a1, .int .u8 a2, .int .u8 a3, .int .u8 a4, .int .u8 a5]) (.agg #[.int .u8 b0, .int .u8 b1, .int .u8 b2, .int .u8 b3, .int .u8 b4, .int .u8 b5])).run Tryd.prog w = .ok (decide (a0 = b0 ∧ a1 = b1 ∧ a2 = b2 ∧ a3 = b3 ∧ a4 = b4 ∧ a5 = b5)) w := by
  rw [Op.equalIn]
  go_simp
  simp only [List.range', List.forIn_cons, List.forIn_nil]
  go_simp
  repeat' split
  all_goals simp_all
theorem byte_int (a b : UInt8) : ((a.toNat : Int) = (b.toNat : Int)) ↔ a = b := by rw [Int.ofNat_inj, UInt8.toNat_inj]
theorem eq_bc8 (d : Nat) (a b : Bs) (ha : a.length = 8) (hb : b.length = 8) (w : World) : (Op.equalIn (d + 2) 57 (.agg (bc a).toArray) (.agg (bc b).toArray)).run Tryd.prog w = .ok (decide (a = b)) w := by
  obtain ⟨a0, a1, a2, a3, a4, a5, a6, a7, rfl⟩ := eight ha
  obtain ⟨b0, b1, b2, b3, b4, b5, b6, b7, rfl⟩ := eight hb
  have := eq8 d a0.toNat a1.toNat a2.toNat a3.toNat a4.toNat a5.toNat a6.toNat a7.toNat b0.toNat b1.toNat b2.toNat b3.toNat b4.toNat b5.toNat b6.toNat b7.toNat w
  simp only [byte_int] at this
  refine this.trans ?_
  congr 1
  simp
theorem eq_bc6 (d : Nat) (a b : Bs) (ha : a.length = 6) (hb : b.length = 6) (w : World) : (Op.equalIn (d + 2) 58 (.agg (bc a).toArray) (.agg (bc b).toArray)).run Tryd.prog w = .ok (decide (a = b)) w := by
  obtain ⟨a0, a1, a2, a3, a4, a5, rfl⟩ := six ha
  obtain ⟨b0, b1, b2, b3, b4, b5, rfl⟩ := six hb
  have := eq6 d a0.toNat a1.toNat a2.toNat a3.toNat a4.toNat a5.toNat b0.toNat b1.toNat b2.toNat b3.toNat b4.toNat b5.toNat w
  simp only [byte_int] at this
  refine this.trans ?_
  congr 1
  simp
theorem exec_eq_name {a b : Bs} (ha : a.length = 8) (hb : b.length = 8) {ρ : Operand → Value} (oi : Oper) (x y : Operand) (hop : oi.op = .binOp .eql 57 x y 57)
    (hx : ρ x = .agg (bc a).toArray) (hy : ρ y = .agg (bc b).toArray) (w : World) : (execOp ρ oi).run Tryd.prog w = .ok (.value (.bool (decide (a = b)))) w := by
  have E := eq_bc8 9998 a b ha hb w
  unfold execOp
  rw [hop]
  simp only [hx, hy]
  generalize bc a = A at *
  generalize bc b = B at *
  go_simp
theorem exec_ne_mark {m k : Mk} (hm : Mk8 m) (hk : Mk8 k) {ρ : Operand → Value} (oi : Oper) (x y : Operand) (hop : oi.op = .binOp .neq 60 x y 60)
    (hx : ρ x = .agg (mkc m).toArray) (hy : ρ y = .agg (mkc k).toArray) (w : World) : (execOp ρ oi).run Tryd.prog w = .ok (.value (.bool (decide (m ≠ k)))) w := by
  obtain ⟨i, n, d⟩ := m
  obtain ⟨i', n', d'⟩ := k
  have E8 : ∀ q, _ := fun q => eq_bc8 q i i' hm.a hk.a w
  have E6 : ∀ q, _ := fun q => eq_bc6 q d d' hm.b hk.b w
  obtain ⟨R, hR⟩ : ∃ R, decide (((i, n, d) : Mk) ≠ (i', n', d')) = R := ⟨_, rfl⟩
  obtain ⟨R8, hR8⟩ : ∃ R, decide (i = i') = R := ⟨_, rfl⟩
  obtain ⟨R6, hR6⟩ : ∃ R, decide (d = d') = R := ⟨_, rfl⟩
  have HR : (R8 && decide (n = n') && R6) = !R := by
    rw [← hR8, ← hR6, ← hR]
    by_cases h1 : i = i' <;> by_cases h2 : n = n' <;> by_cases h3 : d = d' <;> simp [h1, h2, h3]
  rw [hR]
  simp only [hR8] at E8
  simp only [hR6] at E6
  clear hR hR8 hR6
  obtain ⟨a0, a1, a2, a3, a4, a5, a6, a7, rfl⟩ := eight (i := i) hm.a
  obtain ⟨b0, b1, b2, b3, b4, b5, b6, b7, rfl⟩ := eight (i := i') hk.a
  obtain ⟨c0, c1, c2, c3, c4, c5, rfl⟩ := six (i := d) hm.b
  obtain ⟨d0, d1, d2, d3, d4, d5, rfl⟩ := six (i := d') hk.b
  simp only [bc, List.map_cons, List.map_nil, mkc, List.cons_append, List.nil_append] at hx hy E8 E6
  have hn : ((n : Int) = (n' : Int)) ↔ n = n' := Int.ofNat_inj
  unfold execOp
  rw [hop]
  simp only [hx, hy]
  clear hm hk
  go_simp
  by_cases h2 : n = n'
  · cases R8 <;> cases R6 <;> simp [h2] at HR ⊢ <;> exact HR
  · cases R8 <;> cases R6 <;> simp [h2] at HR ⊢ <;> exact HR
end Go.Proofs.YtdepjiocmbbdpaaDoor
