/- A list of calls as an argument: its parts, read. -/
import Derived.Test.YtfieabdjfhkpjaaTaA
import Derived.WalkKit
import Derived.ProofKit
import Derived.OpenShut
import Derived.ShutString
import Derived.ChangeOld
import Derived.ChangeArms
import Derived.SizedLaws
import Derived.Deep.Slices
import Derived.Deep.Fields
namespace Go.Proofs.Ytfieabdjfhkpjaa
open Go.ChangeShapes Go.WideShapes Go.Deep Go.RowKit Go.Proofs.Fd Go.Proofs.Ta
set_option maxRecDepth 20000

section
variable {H : Type} {enc : TypeId × Value → H} {w : World} {base : Nat} {sp : Nat → Bool} {held : Bool}
theorem act_of {fuel : Nat} {cs : List Value} {x : DataW H × List MemPlace} (hf : DataW.trod enc Try.prog w base sp held fuel 32 cs = some x) : ∃ s : Int × Int, cs = [.int .i64 s.1, .int .i64 s.2] := by
  obtain ⟨xs, n, rfl, rfl, hl, hxl, hff⟩ := DataW.trod_struct Try.underlying32 hf
  rw [show Try.prog.cellsOf 32 = 2 by kernel_rfl] at hl
  obtain ⟨y0, y1, rfl⟩ : ∃ y0 y1, cs = [y0, y1] := by
    match cs, hl with
    | [y0, y1], _ => exact ⟨y0, y1, rfl⟩
  obtain ⟨x0, x1, rfl⟩ : ∃ x0 x1, xs = [x0, x1] := by
    match xs, hxl with
    | [x0, x1], _ => exact ⟨x0, x1, rfl⟩
  have cc : Try.prog.cellsOf 3 = 1 := by kernel_rfl
  have g0 : DataW.trod enc Try.prog w base sp held n 3 (List.take (Try.prog.cellsOf 3) (List.drop 0 [y0, y1])) = some x0 := hff 0 _ rfl
  have g1 : DataW.trod enc Try.prog w base sp held n 3 (List.take (Try.prog.cellsOf 3) (List.drop 1 [y0, y1])) = some x1 := hff 1 _ rfl
  rw [cc] at g0 g1
  obtain ⟨a, ha, -⟩ := DataW.trod_int Try.underlying3 g0
  obtain ⟨b, hb, -⟩ := DataW.trod_int Try.underlying3 g1
  have ha' : [y0] = [.int .i64 a] := ha
  have hb' : [y1] = [.int .i64 b] := hb
  cases ha'
  cases hb'
  exact ⟨⟨a, b⟩, rfl⟩
theorem add_up (b o k : Nat) : Addr.add ⟨b, o, none⟩ k = ⟨b, o + k, none⟩ := by first | (simp [Addr.add]; done) | (simp [Addr.add]; intro h; simp [h])
theorem acts_of {fuel : Nat} {cs : List Value} {x : DataW H × List MemPlace} (hf : DataW.trod enc Try.prog w base sp held fuel 22 cs = some x) :
    ∃ a n c ss, cs = [.slice a n c] ∧ ActAt w a ss ∧ ss.length = n := by
  rcases open_slice Try.underlying22 hf with ⟨h0, rfl⟩ | ⟨a, len, cap, m, n, D, Pl, rfl, hb, hl, hm, hmm, rfl, hx⟩
  · exact ⟨none, 0, 0, [], h0, fun i hi => absurd hi (Nat.not_lt_zero _), rfl⟩
  have hlm : len ≤ m := by rw [hmm]; split <;> omega
  obtain ⟨f, hfn⟩ := choose_lt (n := len) (p := fun i (h : Int × Int) => w.cell? (a.add (i * 2)) = some (.int .i64 h.1) ∧ w.cell? (a.add (i * 2 + 1)) = some (.int .i64 h.2)) (fun i hi => by
    obtain ⟨cs', h1, h2⟩ := hx i (by omega)
    obtain ⟨h, rfl⟩ := act_of h2
    rw [show Try.prog.cellsOf 32 = 2 by kernel_rfl] at h1
    obtain ⟨-, -, hc⟩ := World.cells?_some h1
    have e0 := hc 0 (by omega)
    have e1 := hc 1 (by omega)
    rw [add_add] at e0 e1
    exact ⟨h, e0, e1⟩)
  refine ⟨some a, len, cap, (List.range len).map f, rfl, fun i hi => ?_, by simp⟩
  have hi' : i < len := by simpa using hi
  have hsp : a.spot = none := by
    have := World.cell?_spot (hfn 0 (by omega)).1
    simpa [Addr.add] using this
  obtain ⟨b, o, spot⟩ := a
  simp only at hsp
  subst hsp
  obtain ⟨e0, e1⟩ := hfn i hi'
  rw [add_up] at e0 e1
  refine ⟨b, o, rfl, ?_⟩
  rw [List.getElem_map, List.getElem_range]
  exact ⟨e0, by rw [Nat.add_assoc]; exact e1⟩
theorem nums_of {fuel : Nat} {cs : List Value} {x : DataW H × List MemPlace} (hf : DataW.trod enc Try.prog w base sp held fuel 36 cs = some x) :
    ∃ a n c is, cs = [.slice a n c] ∧ IntAt w a is ∧ is.length = n := by
  rcases open_slice1 Try.underlying36 (by kernel_rfl) hf with ⟨h0, rfl⟩ | ⟨a, len, cap, m, n, V, D, Pl, rfl, hb, hl, hm, hmm, rfl, hx⟩
  · exact ⟨none, 0, 0, [], h0, fun i hi => absurd hi (Nat.not_lt_zero _), rfl⟩
  have hlm : len ≤ m := by rw [hmm]; split <;> omega
  obtain ⟨f, hfn⟩ := choose_lt (n := len) (p := fun i (z : Int) => w.cell? (a.add i) = some (.int .i64 z)) (fun i hi => by
    obtain ⟨h1, h2⟩ := hx i (by omega)
    obtain ⟨z, hz, -⟩ := DataW.trod_int Try.underlying3 h2
    have e : V i = .int .i64 z := by injection hz
    exact ⟨z, by rw [h1, e]⟩)
  refine ⟨some a, len, cap, (List.range len).map f, rfl, fun i hi => ?_, by simp⟩
  have hi' : i < len := by simpa using hi
  have hsp : a.spot = none := by
    have := World.cell?_spot (hfn 0 (by omega))
    simpa [Addr.add] using this
  obtain ⟨b, o, spot⟩ := a
  simp only at hsp
  subst hsp
  have e0 := hfn i hi'
  rw [add_up] at e0
  refine ⟨b, o, rfl, ?_⟩
  rw [List.getElem_map, List.getElem_range]
  exact e0
end
end Go.Proofs.Ytfieabdjfhkpjaa
