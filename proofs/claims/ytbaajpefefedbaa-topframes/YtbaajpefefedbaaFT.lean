/- A list of messages as an argument: its parts, read. -/
import Derived.Test.YtbaajpefefedbaaFM
import Derived.Test.YtbaajpefefedbaaTpA
namespace Go.Proofs.Ytbaajpefefedbaa
open Go.ChangeShapes Go.WideShapes Go.Deep Go.RowKit Go.Proofs.Fd Go.Proofs.Ml
set_option maxRecDepth 20000

section
variable {H : Type} {enc : TypeId × Value → H} {w : World} {base : Nat} {sp : Nat → Bool} {held : Bool}
theorem mails_of {fuel : Nat} {cs : List Value} {x : DataW H × List MemPlace} (hf : DataW.trod enc Try.prog w base sp held fuel 39 cs = some x) :
    ∃ a n c ms, cs = [.slice a n c] ∧ MsAt w a ms ∧ ms.length = n ∧ ∀ y ∈ ms, y.L w := by
  rcases open_slice Try.underlying39 hf with ⟨h0, rfl⟩ | ⟨a, len, cap, m, n, D, Pl, rfl, hb, hl, hm, hmm, rfl, hx⟩
  · exact ⟨none, 0, 0, [], h0, fun i hi => absurd hi (Nat.not_lt_zero _), rfl, fun y hy => (by cases hy)⟩
  have hlm : len ≤ m := by rw [hmm]; split <;> omega
  haveI : Inhabited Mc := ⟨⟨zm, none, 0, 0, none, 0, 0⟩⟩
  obtain ⟨f, hfn⟩ := choose_lt (n := len) (p := fun i (y : Mc) => (w.cell? (a.add (i * 7)) = some (.int .i64 y.m.k) ∧ w.cell? (a.add (i * 7 + 1)) = some (.int .i64 y.m.u) ∧ w.cell? (a.add (i * 7 + 2)) = some (.int .i64 y.m.q) ∧ w.cell? (a.add (i * 7 + 3)) = some (.string y.m.t) ∧ w.cell? (a.add (i * 7 + 4)) = some (.string y.m.g) ∧ w.cell? (a.add (i * 7 + 5)) = some (.slice y.a y.n y.c) ∧ w.cell? (a.add (i * 7 + 6)) = some (.slice y.a2 y.n2 y.c2)) ∧ y.L w) (fun i hi => by
    obtain ⟨cs', h1, h2⟩ := hx i (by omega)
    obtain ⟨k, u, q, t, g, xa, xn, xc, xa2, xn2, xc2, ss, is, d0, d1, d2, d3, d4, d5, d6, rfl, L, -⟩ := mail_of h2
    rw [show Try.prog.cellsOf 25 = 7 by kernel_rfl] at h1
    obtain ⟨-, -, hc⟩ := World.cells?_some h1
    have e0 := hc 0 (by omega)
    have e1 := hc 1 (by omega)
    have e2 := hc 2 (by omega)
    have e3 := hc 3 (by omega)
    have e4 := hc 4 (by omega)
    have e5 := hc 5 (by omega)
    have e6 := hc 6 (by omega)
    rw [add_add] at e0 e1 e2 e3 e4 e5 e6
    exact ⟨⟨⟨k, u, q, t, g, ss, is⟩, xa, xn, xc, xa2, xn2, xc2⟩, ⟨e0, e1, e2, e3, e4, e5, e6⟩, L⟩)
  refine ⟨some a, len, cap, (List.range len).map f, rfl, fun i hi => ?_, by simp, fun y hy => ?_⟩
  · have hi' : i < len := by simpa using hi
    have hsp : a.spot = none := by
      have := World.cell?_spot (hfn 0 (by omega)).1.1
      simpa [Addr.add] using this
    obtain ⟨b, o, spot⟩ := a
    simp only at hsp
    subst hsp
    obtain ⟨⟨e0, e1, e2, e3, e4, e5, e6⟩, -⟩ := hfn i hi'
    rw [add_up] at e0 e1 e2 e3 e4 e5 e6
    refine ⟨b, o, rfl, ?_⟩
    rw [List.getElem_map, List.getElem_range]
    exact ⟨e0, by rw [Nat.add_assoc]; exact e1, by rw [Nat.add_assoc]; exact e2, by rw [Nat.add_assoc]; exact e3, by rw [Nat.add_assoc]; exact e4, by rw [Nat.add_assoc]; exact e5, by rw [Nat.add_assoc]; exact e6⟩
  · obtain ⟨i, hi, rfl⟩ := List.mem_map.1 hy
    exact (hfn i (List.mem_range.1 hi)).2
theorem nums_of {fuel : Nat} {cs : List Value} {x : DataW H × List MemPlace} (hf : DataW.trod enc Try.prog w base sp held fuel 40 cs = some x) :
    ∃ a n c is, cs = [.slice a n c] ∧ IntAt w a is ∧ is.length = n := by
  rcases open_slice1 Try.underlying40 (by kernel_rfl) hf with ⟨h0, rfl⟩ | ⟨a, len, cap, m, n, V, D, Pl, rfl, hb, hl, hm, hmm, rfl, hx⟩
  · exact ⟨none, 0, 0, [], h0, fun i hi => absurd hi (Nat.not_lt_zero _), rfl⟩
  have hlm : len ≤ m := by rw [hmm]; split <;> omega
  obtain ⟨f, hfn⟩ := choose_lt (n := len) (p := fun i (z : Int) => w.cell? (a.add i) = some (.int .i64 z)) (fun i hi => by
    obtain ⟨h1, h2⟩ := hx i (by omega)
    obtain ⟨z, hz, -⟩ := DataW.trod_int Try.underlying3 h2
    have e : V i = .int .i64 z := by injection hz
    exact ⟨z, by rw [h1, e]⟩)
  refine ⟨some a, len, cap, (List.range len).map f, rfl, fun i hi => ?_, by simp⟩
  have hi' : i < len := by simpa using hi
  have hsp : a.spot = none := by
    have := World.cell?_spot (hfn 0 (by omega))
    simpa [Addr.add] using this
  obtain ⟨b, o, spot⟩ := a
  simp only at hsp
  subst hsp
  have e0 := hfn i hi'
  rw [add_up] at e0
  refine ⟨b, o, rfl, ?_⟩
  rw [List.getElem_map, List.getElem_range]
  exact e0
end
end Go.Proofs.Ytbaajpefefedbaa
