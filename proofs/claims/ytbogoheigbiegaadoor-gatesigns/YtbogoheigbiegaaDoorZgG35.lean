/- A message as an argument: its parts, read. -/
import Derived.Test.YtbogoheigbiegaaDoorZgG24
import Derived.WalkKit
import Derived.ProofKit
import Derived.OpenShut
import Derived.ShutString
import Derived.ChangeOld
import Derived.ChangeArms
import Derived.SizedLaws
import Derived.Deep.Slices
import Derived.Deep.Fields
namespace Go.Proofs.YtbogoheigbiegaaDoor.Mai
open Go.ChangeShapes Go.WideShapes Go.Deep Go.RowKit Go.Proofs.Fd Go.Proofs.Ml
set_option maxRecDepth 20000
section
variable {H : Type} {enc : TypeId × Value → H} {w : World} {base : Nat} {sp : Nat → Bool} {held : Bool}
theorem slot_of {fuel : Nat} {cs : List Value} {x : DataW H × List MemPlace} (hf : DataW.trod enc Tryd.prog w base sp held fuel 83 cs = some x) : ∃ s : Sl, cs = [.string s.id, .string s.tx] := by
  obtain ⟨xs, n, rfl, rfl, hl, hxl, hff⟩ := DataW.trod_struct Tryd.underlying83 hf
  rw [show Tryd.prog.cellsOf 83 = 2 by kernel_rfl] at hl
  obtain ⟨y0, y1, rfl⟩ : ∃ y0 y1, cs = [y0, y1] := by
    match cs, hl with
    | [y0, y1], _ => exact ⟨y0, y1, rfl⟩
  obtain ⟨x0, x1, rfl⟩ : ∃ x0 x1, xs = [x0, x1] := by
    match xs, hxl with
    | [x0, x1], _ => exact ⟨x0, x1, rfl⟩
  have cc : Tryd.prog.cellsOf 9 = 1 := by kernel_rfl
  have g0 : DataW.trod enc Tryd.prog w base sp held n 9 (List.take (Tryd.prog.cellsOf 9) (List.drop 0 [y0, y1])) = some x0 := hff 0 _ rfl
  have g1 : DataW.trod enc Tryd.prog w base sp held n 9 (List.take (Tryd.prog.cellsOf 9) (List.drop 1 [y0, y1])) = some x1 := hff 1 _ rfl
  rw [cc] at g0 g1
  obtain ⟨a, ha, -⟩ := DataW.trod_string Tryd.underlying9 g0
  obtain ⟨b, hb, -⟩ := DataW.trod_string Tryd.underlying9 g1
  have ha' : [y0] = [.string a] := ha
  have hb' : [y1] = [.string b] := hb
  cases ha'
  cases hb'
  exact ⟨⟨a, b⟩, rfl⟩
theorem add_up (b o k : Nat) : Addr.add ⟨b, o, none⟩ k = ⟨b, o + k, none⟩ := by first | (simp [Addr.add]; done) | (simp [Addr.add]; intro h; simp [h])
theorem slots_of {fuel : Nat} {cs : List Value} {x : DataW H × List MemPlace} (hf : DataW.trod enc Tryd.prog w base sp held fuel 35 cs = some x) :
    ∃ a n c ss, cs = [.slice a n c] ∧ SlAt w a ss ∧ ss.length = n ∧ (a = none → n = 0 ∧ c = 0) ∧ n ≤ maxLen ∧ (n = 0 ∨ ∃ elems spare, x.1 = .slice elems spare ∧ elems.length = n) := by
  rcases open_slice Tryd.underlying35 hf with ⟨h0, rfl⟩ | ⟨a, len, cap, m, n, D, Pl, rfl, hb, hl, hm, hmm, rfl, hx⟩
  · exact ⟨none, 0, 0, [], h0, SlAt.nil _ _, rfl, fun _ => ⟨rfl, rfl⟩, Nat.zero_le _, .inl rfl⟩
  have hlm : len ≤ m := by rw [hmm]; split <;> omega
  haveI : Inhabited Sl := ⟨zsl⟩
  obtain ⟨f, hfn⟩ := choose_lt (n := len) (p := fun i (h : Sl) => w.cell? (a.add (i * 2)) = some (.string h.id) ∧ w.cell? (a.add (i * 2 + 1)) = some (.string h.tx)) (fun i hi => by
    obtain ⟨cs', h1, h2⟩ := hx i (by omega)
    obtain ⟨h, rfl⟩ := slot_of h2
    rw [show Tryd.prog.cellsOf 83 = 2 by kernel_rfl] at h1
    obtain ⟨-, -, hc⟩ := World.cells?_some h1
    have e0 := hc 0 (by omega)
    have e1 := hc 1 (by omega)
    rw [add_add] at e0 e1
    exact ⟨h, e0, e1⟩)
  refine ⟨some a, len, cap, (List.range len).map f, rfl, fun i hi => ?_, by simp, fun h => (by cases h), by omega, .inr ⟨_, _, rfl, by simp⟩⟩
  have hi' : i < len := by simpa using hi
  have hsp : a.spot = none := by
    have := World.cell?_spot (hfn 0 (by omega)).1
    simpa [Addr.add] using this
  obtain ⟨b, o, spot⟩ := a
  simp only at hsp
  subst hsp
  obtain ⟨e0, e1⟩ := hfn i hi'
  rw [add_up] at e0 e1
  refine ⟨b, o, rfl, ?_⟩
  rw [List.getElem_map, List.getElem_range]
  exact ⟨e0, by rw [Nat.add_assoc]; exact e1⟩
theorem strs_of {fuel : Nat} {cs : List Value} {x : DataW H × List MemPlace} (hf : DataW.trod enc Tryd.prog w base sp held fuel 36 cs = some x) :
    ∃ a n c is, cs = [.slice a n c] ∧ StrAt w a is ∧ is.length = n ∧ (a = none → n = 0 ∧ c = 0) ∧ n ≤ maxLen ∧ (n = 0 ∨ ∃ elems spare, x.1 = .slice elems spare ∧ elems.length = n) := by
  rcases open_slice1 Tryd.underlying36 (by kernel_rfl) hf with ⟨h0, rfl⟩ | ⟨a, len, cap, m, n, V, D, Pl, rfl, hb, hl, hm, hmm, rfl, hx⟩
  · exact ⟨none, 0, 0, [], h0, StrAt.nil _ _, rfl, fun _ => ⟨rfl, rfl⟩, Nat.zero_le _, .inl rfl⟩
  have hlm : len ≤ m := by rw [hmm]; split <;> omega
  haveI : Inhabited ByteArray := ⟨e0⟩
  obtain ⟨f, hfn⟩ := choose_lt (n := len) (p := fun i (h : ByteArray) => w.cell? (a.add i) = some (.string h)) (fun i hi => by
    obtain ⟨h1, h2⟩ := hx i (by omega)
    obtain ⟨s, hs, -⟩ := DataW.trod_string Tryd.underlying9 h2
    have e : V i = .string s := by injection hs
    exact ⟨s, by rw [h1, e]⟩)
  refine ⟨some a, len, cap, (List.range len).map f, rfl, fun i hi => ?_, by simp, fun h => (by cases h), by omega, .inr ⟨_, _, rfl, by simp⟩⟩
  have hi' : i < len := by simpa using hi
  have hsp : a.spot = none := by
    have := World.cell?_spot (hfn 0 (by omega))
    simpa [Addr.add] using this
  obtain ⟨b, o, spot⟩ := a
  simp only at hsp
  subst hsp
  have e0 := hfn i hi'
  rw [add_up] at e0
  refine ⟨b, o, rfl, ?_⟩
  rw [List.getElem_map, List.getElem_range]
  exact e0
theorem mail_of {fuel : Nat} {cs : List Value} {x : DataW H × List MemPlace} (hf : DataW.trod enc Tryd.prog w base sp held fuel 38 cs = some x) :
    ∃ (k u q : Int) (t g : ByteArray) (a : Option Addr) (n c : Nat) (a2 : Option Addr) (n2 c2 : Nat) (ss : List Sl) (is : List ByteArray) (d0 d1 d2 d3 d4 d5 d6 : DataW H),
      cs = [.int .i64 k, .int .i64 u, .int .i64 q, .string t, .string g, .slice a n c, .slice a2 n2 c2] ∧ Lists w a n c a2 n2 c2 ss is ∧ x.1 = .agg [d0, d1, d2, d3, d4, d5, d6]
      ∧ (n = 0 ∨ ∃ elems spare, d5 = .slice elems spare ∧ elems.length = n) ∧ (n2 = 0 ∨ ∃ elems spare, d6 = .slice elems spare ∧ elems.length = n2) := by
  obtain ⟨xs, n, rfl, rfl, hl, hxl, hff⟩ := DataW.trod_struct Tryd.underlying38 hf
  rw [show Tryd.prog.cellsOf 38 = 7 by kernel_rfl] at hl
  obtain ⟨y0, y1, y2, y3, y4, y5, y6, rfl⟩ : ∃ y0 y1 y2 y3 y4 y5 y6, cs = [y0, y1, y2, y3, y4, y5, y6] := by
    match cs, hl with
    | [y0, y1, y2, y3, y4, y5, y6], _ => exact ⟨y0, y1, y2, y3, y4, y5, y6, rfl⟩
  obtain ⟨x0, x1, x2, x3, x4, x5, x6, rfl⟩ : ∃ x0 x1 x2 x3 x4 x5 x6, xs = [x0, x1, x2, x3, x4, x5, x6] := by
    match xs, hxl with
    | [x0, x1, x2, x3, x4, x5, x6], _ => exact ⟨x0, x1, x2, x3, x4, x5, x6, rfl⟩
  have cI : Tryd.prog.cellsOf 3 = 1 := by kernel_rfl
  have cS : Tryd.prog.cellsOf 9 = 1 := by kernel_rfl
  have cL : Tryd.prog.cellsOf 35 = 1 := by kernel_rfl
  have cT : Tryd.prog.cellsOf 36 = 1 := by kernel_rfl
  have g0 : DataW.trod enc Tryd.prog w base sp held n 3 (List.take (Tryd.prog.cellsOf 3) (List.drop 0 [y0, y1, y2, y3, y4, y5, y6])) = some x0 := hff 0 _ rfl
  have g1 : DataW.trod enc Tryd.prog w base sp held n 3 (List.take (Tryd.prog.cellsOf 3) (List.drop 1 [y0, y1, y2, y3, y4, y5, y6])) = some x1 := hff 1 _ rfl
  have g2 : DataW.trod enc Tryd.prog w base sp held n 3 (List.take (Tryd.prog.cellsOf 3) (List.drop 2 [y0, y1, y2, y3, y4, y5, y6])) = some x2 := hff 2 _ rfl
  have g3 : DataW.trod enc Tryd.prog w base sp held n 9 (List.take (Tryd.prog.cellsOf 9) (List.drop 3 [y0, y1, y2, y3, y4, y5, y6])) = some x3 := hff 3 _ rfl
  have g4 : DataW.trod enc Tryd.prog w base sp held n 9 (List.take (Tryd.prog.cellsOf 9) (List.drop 4 [y0, y1, y2, y3, y4, y5, y6])) = some x4 := hff 4 _ rfl
  have g5 : DataW.trod enc Tryd.prog w base sp held n 35 (List.take (Tryd.prog.cellsOf 35) (List.drop 5 [y0, y1, y2, y3, y4, y5, y6])) = some x5 := hff 5 _ rfl
  have g6 : DataW.trod enc Tryd.prog w base sp held n 36 (List.take (Tryd.prog.cellsOf 36) (List.drop 6 [y0, y1, y2, y3, y4, y5, y6])) = some x6 := hff 6 _ rfl
  rw [cI] at g0 g1 g2
  rw [cS] at g3 g4
  rw [cL] at g5
  rw [cT] at g6
  obtain ⟨k, hk, -⟩ := DataW.trod_int Tryd.underlying3 g0
  obtain ⟨u, hu, -⟩ := DataW.trod_int Tryd.underlying3 g1
  obtain ⟨q, hq, -⟩ := DataW.trod_int Tryd.underlying3 g2
  obtain ⟨t, ht, -⟩ := DataW.trod_string Tryd.underlying9 g3
  obtain ⟨g, hg, -⟩ := DataW.trod_string Tryd.underlying9 g4
  obtain ⟨a, n', c, ss, hs, s1, s2, s3, s4, s5⟩ := slots_of g5
  obtain ⟨a2, n2, c2, is, hi, i1, i2, i3, i4, i5⟩ := strs_of g6
  have hk' : [y0] = [.int .i64 k] := hk
  have hu' : [y1] = [.int .i64 u] := hu
  have hq' : [y2] = [.int .i64 q] := hq
  have ht' : [y3] = [.string t] := ht
  have hg' : [y4] = [.string g] := hg
  have hs' : [y5] = [.slice a n' c] := hs
  have hi' : [y6] = [.slice a2 n2 c2] := hi
  cases hk'
  cases hu'
  cases hq'
  cases ht'
  cases hg'
  cases hs'
  cases hi'
  unfold maxLen at s4 i4
  exact ⟨k, u, q, t, g, a, n', c, a2, n2, c2, ss, is, _, _, _, _, _, _, _, rfl, ⟨s1, i1, s2, i2, s3, i3, by omega, by omega⟩, rfl, s5, i5⟩
theorem open_mail {r : Reach} {b0 : Nat} {v : Value} {d : DataW H} {ps : List MemPlace} (hval : Value.okWide Tryd.prog w r b0 38 v) (h : DataW.Trod enc Tryd.prog w base sp held 38 v d ps) :
    ∃ (k u q : Int) (t g : ByteArray) (a : Option Addr) (n c : Nat) (a2 : Option Addr) (n2 c2 : Nat) (ss : List Sl) (is : List ByteArray) (d0 d1 d2 d3 d4 d5 d6 : DataW H),
      v = mv k u q t g a n c a2 n2 c2 ∧ Lists w a n c a2 n2 c2 ss is ∧ d = .agg [d0, d1, d2, d3, d4, d5, d6]
      ∧ (n = 0 ∨ ∃ elems spare, d5 = .slice elems spare ∧ elems.length = n) ∧ (n2 = 0 ∨ ∃ elems spare, d6 = .slice elems spare ∧ elems.length = n2) := by
  obtain ⟨cs, rfl, hsz⟩ := okWide_struct Tryd.underlying38 hval
  obtain ⟨fuel, hf⟩ := h
  obtain ⟨k, u, q, t, g, a, n, c, a2, n2, c2, ss, is, d0, d1, d2, d3, d4, d5, d6, hx, L, hd, z1, z2⟩ := mail_of hf
  have e : cs.toList = [.int .i64 k, .int .i64 u, .int .i64 q, .string t, .string g, .slice a n c, .slice a2 n2 c2] := hx
  refine ⟨k, u, q, t, g, a, n, c, a2, n2, c2, ss, is, d0, d1, d2, d3, d4, d5, d6, ?_, L, hd, z1, z2⟩
  obtain ⟨l⟩ := cs
  have e : l = _ := e
  rw [e]
theorem sized_mail {ts : List TypeId} {ds : List (DataW H)} (h : (DataW.weightsEach Tryd.prog ts ds).all (· ≤ reachBytes) = true) {j : Nat} {d0 d1 d2 d3 d4 d5 d6 : DataW H} (ht : ts[j]? = some 38) (hd : ds[j]? = some (.agg [d0, d1, d2, d3, d4, d5, d6])) :
    (DataW.weightsEach Tryd.prog [3, 3, 3, 9, 9, 35, 36] [d0, d1, d2, d3, d4, d5, d6]).all (· ≤ reachBytes) = true := by
  rw [List.all_eq_true]
  intro x hx
  exact List.all_eq_true.1 h _ (DataW.weights_mem_each ht hd x (by
    simp only [DataW.weights, Tryd.underlying38]
    exact hx))
theorem sized_slots {d0 d1 d2 d3 d4 d5 d6 : DataW H} {n : Nat} (h : (DataW.weightsEach Tryd.prog [3, 3, 3, 9, 9, 35, 36] [d0, d1, d2, d3, d4, d5, d6]).all (· ≤ reachBytes) = true) (hs : n = 0 ∨ ∃ elems spare, d5 = .slice elems spare ∧ elems.length = n) : n * 32 ≤ 140737488351232 := by
  rcases hs with rfl | ⟨elems, spare, rfl, rfl⟩
  · decide
  · have := sized_slice h (j := 5) (t := 35) (e := 83) rfl rfl Tryd.underlying35
    rw [show Tryd.prog.bytesOf 83 = 32 by kernel_rfl] at this
    simp only [reachBytes] at this
    omega
theorem sized_ids {d0 d1 d2 d3 d4 d5 d6 : DataW H} {n : Nat} (h : (DataW.weightsEach Tryd.prog [3, 3, 3, 9, 9, 35, 36] [d0, d1, d2, d3, d4, d5, d6]).all (· ≤ reachBytes) = true) (hs : n = 0 ∨ ∃ elems spare, d6 = .slice elems spare ∧ elems.length = n) : n * 16 ≤ 140737488351232 := by
  rcases hs with rfl | ⟨elems, spare, rfl, rfl⟩
  · decide
  · have := sized_slice h (j := 6) (t := 36) (e := 9) rfl rfl Tryd.underlying36
    rw [show Tryd.prog.bytesOf 9 = 16 by kernel_rfl] at this
    simp only [reachBytes] at this
    omega
end
end Go.Proofs.YtbogoheigbiegaaDoor.Mai
