/- A struct of two integers, read and shut. -/
import Derived.WalkKit
import Derived.ProofKit
import Derived.OpenShut
import Derived.ShutString
import Derived.ChangeOld
import Derived.ChangeArms
import Derived.Deep.Fields
namespace Go.Proofs.Duo
open Go.ChangeShapes Go.WideShapes Go.Deep

section
variable {H : Type} {enc : TypeId × Value → H} {P : Program} {w : World} {base : Nat} {sp : Nat → Bool} {held : Bool}

theorem open_duo {r : Reach} {b0 : Nat} {t : TypeId} {f0 f1 : Field} {v : Value} {d : DataW H} {ps : List MemPlace} (ht : P.underlying t = some (.struct #[f0, f1])) (o0 : f0.offset = 0) (o1 : f1.offset = 1)
    (h0 : P.underlying f0.type = some (.int .i64)) (h1 : P.underlying f1.type = some (.int .i64)) (c0 : P.cellsOf f0.type = 1) (c1 : P.cellsOf f1.type = 1) (hc : P.cellsOf t = 2)
    (hval : Value.okWide P w r b0 t v) (hd : DataW.Trod enc P w base sp held t v d ps) :
    ∃ a b : Int, v = .agg #[.int .i64 a, .int .i64 b] ∧ d = .agg [.lit (.int .i64 a), .lit (.int .i64 b)] ∧ ps = [] ∧ (Lit.int .i64 a).wf = true ∧ (Lit.int .i64 b).wf = true := by
  obtain ⟨cs, rfl, hsz⟩ := okWide_struct ht hval
  obtain ⟨fuel, hf⟩ := hd
  obtain ⟨xs, n, rfl, hx, hl, hxl, hff⟩ := DataW.trod_struct ht hf
  have g0 := hff 0 f0 rfl
  have g1 := hff 1 f1 rfl
  rw [o0, c0] at g0
  rw [o1, c1] at g1
  obtain ⟨x, y, rfl⟩ : ∃ x y, cs = #[x, y] := by
    rw [hc] at hsz
    obtain ⟨l⟩ := cs
    match l, hsz with
    | [x, y], _ => exact ⟨x, y, rfl⟩
  obtain ⟨p, q, rfl⟩ : ∃ p q, xs = [p, q] := by
    match xs, hxl with
    | [p, q], _ => exact ⟨p, q, rfl⟩
  have e0 : ((Value.agg #[x, y]).cells.toList.drop 0).take 1 = [x] := rfl
  have e1 : ((Value.agg #[x, y]).cells.toList.drop 1).take 1 = [y] := rfl
  rw [e0] at g0
  rw [e1] at g1
  obtain ⟨a, ha, hp, ia⟩ := DataW.trod_int h0 g0
  obtain ⟨b, hb, hq, ib⟩ := DataW.trod_int h1 g1
  simp only [List.cons.injEq, and_true] at ha hb
  subst ha hb hp hq
  simp only [Prod.mk.injEq] at hx
  exact ⟨a, b, rfl, hx.1, hx.2, ia, ib⟩

theorem shut_duo {t : TypeId} {f0 f1 : Field} {a b : Int} (ht : P.underlying t = some (.struct #[f0, f1])) (o0 : f0.offset = 0) (o1 : f1.offset = 1)
    (h0 : P.underlying f0.type = some (.int .i64)) (h1 : P.underlying f1.type = some (.int .i64)) (c0 : P.cellsOf f0.type = 1) (c1 : P.cellsOf f1.type = 1) (hc : P.cellsOf t = 2) (ia : (Lit.int .i64 a).wf = true) (ib : (Lit.int .i64 b).wf = true) :
    DataW.Trod enc P w base sp held t (.agg #[.int .i64 a, .int .i64 b]) (.agg [.lit (.int .i64 a), .lit (.int .i64 b)]) [] := by
  have s0 : DataW.trod enc P w base sp held 1 f0.type [.int .i64 a] = some (.lit (.int .i64 a), []) := by simp [DataW.trod, h0, ia]
  have s1 : DataW.trod enc P w base sp held 1 f1.type [.int .i64 b] = some (.lit (.int .i64 b), []) := by simp [DataW.trod, h1, ib]
  refine ⟨2, ?_⟩
  have := trod_struct_mk (enc := enc) (w := w) (base := base) (spare := sp) (held := held) (n := 1) (cs := [.int .i64 a, .int .i64 b]) (xs := [(.lit (.int .i64 a), []), (.lit (.int .i64 b), [])]) ht (by rw [hc]; rfl) (by
    simp only [List.mapM_cons, List.mapM_nil, o0, o1, c0, c1]
    show (do let x ← DataW.trod enc P w base sp held 1 f0.type [.int .i64 a]; let y ← (do let x ← DataW.trod enc P w base sp held 1 f1.type [.int .i64 b]; pure [x]); pure (x :: y)) = _
    rw [s0, s1]
    rfl)
  exact this
end
end Go.Proofs.Duo
