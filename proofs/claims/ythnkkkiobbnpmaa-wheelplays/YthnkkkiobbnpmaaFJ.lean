/- A list of acts as an argument: its parts, read. -/
import Derived.Test.YthnkkkiobbnpmaaWhPb
import Derived.WalkKit
import Derived.ProofKit
import Derived.OpenShut
import Derived.ShutString
import Derived.ChangeOld
import Derived.ChangeArms
import Derived.SizedLaws
import Derived.Deep.Slices
import Derived.Deep.Fields
namespace Go.Proofs.Ythnkkkiobbnpmaa
open Go.ChangeShapes Go.WideShapes Go.Deep Go.RowKit Go.Proofs.Fd Go.Proofs.Wh
set_option maxRecDepth 20000

section
variable {H : Type} {enc : TypeId × Value → H} {w : World} {base : Nat} {sp : Nat → Bool} {held : Bool}
theorem act_of {fuel : Nat} {cs : List Value} {x : DataW H × List MemPlace} (hf : DataW.trod enc Try.prog w base sp held fuel 31 cs = some x) : ∃ s : Ac, cs = [.int .i64 s.k, .int .i64 s.a, .int .i64 s.i, .bool s.f] ∧ -9223372036854775808 ≤ s.i ∧ s.i < 9223372036854775808 := by
  obtain ⟨xs, n, rfl, rfl, hl, hxl, hff⟩ := DataW.trod_struct Try.underlying31 hf
  rw [show Try.prog.cellsOf 31 = 4 by kernel_rfl] at hl
  obtain ⟨y0, y1, y2, y3, rfl⟩ : ∃ y0 y1 y2 y3, cs = [y0, y1, y2, y3] := by
    match cs, hl with
    | [y0, y1, y2, y3], _ => exact ⟨y0, y1, y2, y3, rfl⟩
  obtain ⟨x0, x1, x2, x3, rfl⟩ : ∃ x0 x1 x2 x3, xs = [x0, x1, x2, x3] := by
    match xs, hxl with
    | [x0, x1, x2, x3], _ => exact ⟨x0, x1, x2, x3, rfl⟩
  have cc : Try.prog.cellsOf 3 = 1 := by kernel_rfl
  have cb : Try.prog.cellsOf 4 = 1 := by kernel_rfl
  have g0 : DataW.trod enc Try.prog w base sp held n 3 (List.take (Try.prog.cellsOf 3) (List.drop 0 [y0, y1, y2, y3])) = some x0 := hff 0 _ rfl
  have g1 : DataW.trod enc Try.prog w base sp held n 3 (List.take (Try.prog.cellsOf 3) (List.drop 1 [y0, y1, y2, y3])) = some x1 := hff 1 _ rfl
  have g2 : DataW.trod enc Try.prog w base sp held n 3 (List.take (Try.prog.cellsOf 3) (List.drop 2 [y0, y1, y2, y3])) = some x2 := hff 2 _ rfl
  have g3 : DataW.trod enc Try.prog w base sp held n 4 (List.take (Try.prog.cellsOf 4) (List.drop 3 [y0, y1, y2, y3])) = some x3 := hff 3 _ rfl
  rw [cc] at g0 g1 g2
  rw [cb] at g3
  obtain ⟨a, ha, -⟩ := DataW.trod_int Try.underlying3 g0
  obtain ⟨b, hb, -⟩ := DataW.trod_int Try.underlying3 g1
  obtain ⟨c, hc, -, wc⟩ := DataW.trod_int Try.underlying3 g2
  obtain ⟨f, hf', -⟩ := DataW.trod_bool Try.underlying4 g3
  have ha' : [y0] = [.int .i64 a] := ha
  have hb' : [y1] = [.int .i64 b] := hb
  have hc' : [y2] = [.int .i64 c] := hc
  have hf2 : [y3] = [.bool f] := hf'
  cases ha'
  cases hb'
  cases hc'
  cases hf2
  have wd : -9223372036854775808 ≤ c ∧ c ≤ 9223372036854775807 := by simpa [Lit.wf, IntKind.min, IntKind.max, IntKind.signed, IntKind.bits] using wc
  have we : c < 9223372036854775808 := by omega
  exact ⟨⟨a, b, c, f⟩, rfl, wd.1, we⟩
theorem add_up (b o k : Nat) : Addr.add ⟨b, o, none⟩ k = ⟨b, o + k, none⟩ := by first | (simp [Addr.add]; done) | (simp [Addr.add]; intro h; simp [h])
theorem acts_of {fuel : Nat} {cs : List Value} {x : DataW H × List MemPlace} (hf : DataW.trod enc Try.prog w base sp held fuel 22 cs = some x) :
    ∃ a n c ss, cs = [.slice a n c] ∧ ActAt w a ss ∧ ss.length = n ∧ ∀ x ∈ ss, -9223372036854775808 ≤ x.i ∧ x.i < 9223372036854775808 := by
  rcases open_slice Try.underlying22 hf with ⟨h0, rfl⟩ | ⟨a, len, cap, m, n, D, Pl, rfl, hb, hl, hm, hmm, rfl, hx⟩
  · exact ⟨none, 0, 0, [], h0, fun i hi => absurd hi (Nat.not_lt_zero _), rfl, fun x hx => by cases hx⟩
  have hlm : len ≤ m := by rw [hmm]; split <;> omega
  obtain ⟨f, hfn⟩ := @choose_lt Ac ⟨⟨0, 0, 0, false⟩⟩ len ( fun i (h : Ac) => (w.cell? (a.add (i * 4)) = some (.int .i64 h.k) ∧ w.cell? (a.add (i * 4 + 1)) = some (.int .i64 h.a) ∧ w.cell? (a.add (i * 4 + 2)) = some (.int .i64 h.i) ∧ w.cell? (a.add (i * 4 + 3)) = some (.bool h.f)) ∧ -9223372036854775808 ≤ h.i ∧ h.i < 9223372036854775808) (fun i hi => by
    obtain ⟨cs', h1, h2⟩ := hx i (by omega)
    obtain ⟨h, rfl, hr⟩ := act_of h2
    rw [show Try.prog.cellsOf 31 = 4 by kernel_rfl] at h1
    obtain ⟨-, -, hc⟩ := World.cells?_some h1
    have e0 := hc 0 (by omega)
    have e1 := hc 1 (by omega)
    have e2 := hc 2 (by omega)
    have e3 := hc 3 (by omega)
    rw [add_add] at e0 e1 e2 e3
    exact ⟨h, ⟨e0, e1, e2, e3⟩, hr⟩)
  refine ⟨some a, len, cap, (List.range len).map f, rfl, fun i hi => ?_, by simp, fun x hx => ?_⟩
  · have hi' : i < len := by simpa using hi
    have hsp : a.spot = none := by
      have := World.cell?_spot (hfn 0 (by omega)).1.1
      simpa [Addr.add] using this
    obtain ⟨b, o, spot⟩ := a
    simp only at hsp
    subst hsp
    obtain ⟨⟨e0, e1, e2, e3⟩, -⟩ := hfn i hi'
    rw [add_up] at e0 e1 e2 e3
    refine ⟨b, o, rfl, ?_⟩
    rw [List.getElem_map, List.getElem_range]
    exact ⟨e0, by rw [Nat.add_assoc]; exact e1, by rw [Nat.add_assoc]; exact e2, by rw [Nat.add_assoc]; exact e3⟩
  · rw [List.mem_map] at hx
    obtain ⟨i, hi, rfl⟩ := hx
    exact (hfn i (List.mem_range.1 hi)).2
end
end Go.Proofs.Ythnkkkiobbnpmaa
