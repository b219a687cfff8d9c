/- Parts: FH5, FH6. -/
import Derived.Test.YtckfplpiakbbdaaGreatDoorZcG34
import Derived.WalkKit
import Derived.ProofKit
import Derived.OpenShut
import Derived.ShutString
import Derived.ChangeOld
import Derived.ChangeArms
import Derived.SizedLaws
import Derived.Deep.Slices
import Derived.Deep.Fields
import Derived.SliceStrings
namespace Go.Proofs.Hopf
open Go.ChangeShapes Go.WideShapes Go.Deep Go.Proofs.Rt
section
variable {H : Type} {enc : TypeId × Value → H} {P : Program} {w : World} {base : Nat} {sp : Nat → Bool} {held : Bool}
structure IsHop (P : Program) (t : TypeId) : Prop where
  fields : ∃ f0 f1 f2 f3 f4 : Field, P.underlying t = some (.struct #[f0, f1, f2, f3, f4]) ∧ f0.offset = 0 ∧ f1.offset = 1 ∧ f2.offset = 2 ∧ f3.offset = 3 ∧ f4.offset = 4
    ∧ P.underlying f0.type = some (.int .i64) ∧ P.underlying f1.type = some (.int .i64) ∧ P.underlying f2.type = some (.int .i64) ∧ P.underlying f3.type = some (.int .i64) ∧ P.underlying f4.type = some .string
    ∧ P.cellsOf f0.type = 1 ∧ P.cellsOf f1.type = 1 ∧ P.cellsOf f2.type = 1 ∧ P.cellsOf f3.type = 1 ∧ P.cellsOf f4.type = 1
  cells : P.cellsOf t = 5
def hd (h : Hp) : DataW H := .agg [.lit (.int .i64 h.k), .lit (.int .i64 h.n), .lit (.int .i64 h.u), .lit (.int .i64 h.d), .lit (.string h.id.data.toList)]
theorem hop_of {t : TypeId} {fuel : Nat} {cs : List Value} {x : DataW H × List MemPlace} (T : IsHop P t) (hf : DataW.trod enc P w base sp held fuel t cs = some x) :
    ∃ h : Hp, cs = [.int .i64 h.k, .int .i64 h.n, .int .i64 h.u, .int .i64 h.d, .string h.id] ∧ x = (hd h, []) ∧ h.id.size ≤ maxLen := by
  obtain ⟨f0, f1, f2, f3, f4, ht, o0, o1, o2, o3, o4, t0, t1, t2, t3, t4, c0, c1, c2, c3, c4⟩ := T.fields
  obtain ⟨xs, n, rfl, rfl, hl, hxl, hff⟩ := DataW.trod_struct ht hf
  have g0 := hff 0 f0 rfl
  have g1 := hff 1 f1 rfl
  have g2 := hff 2 f2 rfl
  have g3 := hff 3 f3 rfl
  have g4 := hff 4 f4 rfl
  rw [o0, c0] at g0
  rw [o1, c1] at g1
  rw [o2, c2] at g2
  rw [o3, c3] at g3
  rw [o4, c4] at g4
  rw [T.cells] at hl
  obtain ⟨y0, y1, y2, y3, y4, rfl⟩ : ∃ y0 y1 y2 y3 y4, cs = [y0, y1, y2, y3, y4] := by
    match cs, hl with
    | [y0, y1, y2, y3, y4], _ => exact ⟨y0, y1, y2, y3, y4, rfl⟩
  obtain ⟨x0, x1, x2, x3, x4, rfl⟩ : ∃ x0 x1 x2 x3 x4, xs = [x0, x1, x2, x3, x4] := by
    match xs, hxl with
    | [x0, x1, x2, x3, x4], _ => exact ⟨x0, x1, x2, x3, x4, rfl⟩
  obtain ⟨k, hk, e0, -⟩ := DataW.trod_int t0 g0
  obtain ⟨n', hn, e1, -⟩ := DataW.trod_int t1 g1
  obtain ⟨u, hu, e2, -⟩ := DataW.trod_int t2 g2
  obtain ⟨d, hdd, e3, -⟩ := DataW.trod_int t3 g3
  obtain ⟨id, hid, e4, hz⟩ := DataW.trod_string t4 g4
  simp at hk hn hu hdd hid
  subst hk hn hu hdd hid e0 e1 e2 e3 e4
  exact ⟨⟨k, n', u, d, id⟩, rfl, rfl, hz⟩
theorem weights_all {e : TypeId} {l : List (DataW H)} {d : DataW H} (hd' : d ∈ l) {n : Nat} (hn : n ∈ d.weights P e) : n ∈ DataW.weightsAll P e l := by
  induction l with
  | nil => cases hd'
  | cons x r ih =>
    simp only [DataW.weightsAll, List.mem_append]
    rcases List.mem_cons.1 hd' with rfl | h
    · exact .inl hn
    · exact .inr (ih h)
theorem open_hops {t e : TypeId} {fuel : Nat} {cs : List Value} {x : DataW H × List MemPlace} (ht : P.underlying t = some (.slice e)) (T : IsHop P e) (hf : DataW.trod enc P w base sp held fuel t cs = some x) :
    (cs = [.slice none 0 0] ∧ x.1 = .nil) ∨
    ∃ (a : Addr) (len cap : Nat) (hs : List Hp) (spare : List (DataW H)), cs = [.slice (some a) len cap] ∧ len ≤ cap ∧ hs.length = len ∧ x.1 = .slice (hs.map hd) spare
      ∧ ∀ i, i < len → ∃ b o, some a = some ⟨b, o, none⟩ ∧ w.cell? ⟨b, o + i * 5, none⟩ = some (.int .i64 (hs.getD i zh).k) ∧ w.cell? ⟨b, o + i * 5 + 1, none⟩ = some (.int .i64 (hs.getD i zh).n) ∧ w.cell? ⟨b, o + i * 5 + 2, none⟩ = some (.int .i64 (hs.getD i zh).u) ∧ w.cell? ⟨b, o + i * 5 + 3, none⟩ = some (.int .i64 (hs.getD i zh).d) ∧ w.cell? ⟨b, o + i * 5 + 4, none⟩ = some (.string (hs.getD i zh).id) := by
  rcases open_slice ht hf with ⟨h0, rfl⟩ | ⟨a, len, cap, m, n, D, Pl, rfl, hb, hl, hm, hmm, rfl, hx⟩
  · exact .inl ⟨h0, rfl⟩
  right
  have hlm : len ≤ m := by rw [hmm]; split <;> omega
  haveI : Inhabited Hp := ⟨zh⟩
  obtain ⟨f, hfn⟩ := choose_lt (n := len) (p := fun i (h : Hp) => D i = hd h ∧ w.cell? (a.add (i * 5)) = some (.int .i64 h.k) ∧ w.cell? (a.add (i * 5 + 1)) = some (.int .i64 h.n) ∧ w.cell? (a.add (i * 5 + 2)) = some (.int .i64 h.u) ∧ w.cell? (a.add (i * 5 + 3)) = some (.int .i64 h.d) ∧ w.cell? (a.add (i * 5 + 4)) = some (.string h.id)) (fun i hi => by
    obtain ⟨cs', h1, h2⟩ := hx i (by omega)
    obtain ⟨h, rfl, he, -⟩ := hop_of T h2
    rw [T.cells] at h1
    obtain ⟨-, -, hc⟩ := World.cells?_some h1
    have e0 := hc 0 (by omega)
    have e1 := hc 1 (by omega)
    have e2 := hc 2 (by omega)
    have e3 := hc 3 (by omega)
    have e4 := hc 4 (by omega)
    rw [add_add] at e0 e1 e2 e3 e4
    simp only [Prod.mk.injEq] at he
    exact ⟨h, he.1, e0, e1, e2, e3, e4⟩)
  have hsp : 0 < len → a.spot = none := fun h0 => by
    have := World.cell?_spot (hfn 0 h0).2.1
    simpa [Addr.add] using this
  refine ⟨a, len, cap, (List.range len).map f, (List.range (m - len)).map fun j => D (len + j), rfl, hl, by simp, ?_, fun i hi => ?_⟩
  · show DataW.slice _ _ = _
    congr 1
    rw [List.map_map]
    exact List.map_congr_left fun i hi => (hfn i (List.mem_range.1 hi)).1
  · obtain ⟨b, o, spot⟩ := a
    have hs0 : spot = none := hsp (by omega)
    subst hs0
    have hg : ((List.range len).map f).getD i zh = f i := by
      rw [List.getD_eq_getElem?_getD, List.getElem?_map, List.getElem?_range hi]; rfl
    have qa : ∀ k, Addr.add ⟨b, o, none⟩ k = ⟨b, o + k, none⟩ := fun k => by first | (simp [Addr.add]; done) | (simp [Addr.add]; intro h; simp [h])
    obtain ⟨-, e0, e1, e2, e3, e4⟩ := hfn i hi
    rw [qa] at e0 e1 e2 e3 e4
    rw [hg]
    exact ⟨b, o, rfl, e0, by rw [Nat.add_assoc]; exact e1, by rw [Nat.add_assoc]; exact e2, by rw [Nat.add_assoc]; exact e3, by rw [Nat.add_assoc]; exact e4⟩
theorem sized_hops {ts : List TypeId} {ds : List (DataW H)} (h : (DataW.weightsEach P ts ds).all (· ≤ reachBytes) = true) {j : Nat} {t e : TypeId} {hs : List Hp} {spare : List (DataW H)} (hu : P.underlying t = some (.slice e)) (T : IsHop P e) (ht : ts[j]? = some t) (hd' : ds[j]? = some (.slice (hs.map hd) spare)) : ∀ x ∈ hs, x.id.size ≤ 140737488351232 := by
  intro x hx
  obtain ⟨f0, f1, f2, f3, f4, hu2, -⟩ := T.fields
  have h1 : x.id.data.toList.length ∈ DataW.weightsAll (H := H) P e (hs.map hd) := weights_all (List.mem_map_of_mem hx) (by simp [hd, DataW.weights, DataW.weightsEach, hu2])
  have := List.all_eq_true.1 h _ (DataW.weights_mem_each ht hd' x.id.data.toList.length (by
    simp only [DataW.weights, hu, List.mem_cons, List.mem_append]
    exact .inr (.inl h1)))
  have h2 := of_decide_eq_true this
  simpa [reachBytes] using h2
end
end Go.Proofs.Hopf
namespace Go.Proofs.Hopf
open Go.ChangeShapes Go.WideShapes Go.Deep Go.Proofs.Rt
section
variable {H : Type} {P : Program}
theorem sized_strs {ts : List TypeId} {ds : List (DataW H)} (h : (DataW.weightsEach P ts ds).all (· ≤ reachBytes) = true) {j : Nat} {t e : TypeId} {ss : List ByteArray} {spare : List (DataW H)} (hu : P.underlying t = some (.slice e)) (ht : ts[j]? = some t) (hd' : ds[j]? = some (.slice (strs ss) spare)) : ∀ x ∈ ss, x.size ≤ 140737488351232 := by
  intro x hx
  have h1 : x.data.toList.length ∈ DataW.weightsAll (H := H) P e (strs ss) := weights_all (d := .lit (.string x.data.toList)) (List.mem_map_of_mem (f := fun s : ByteArray => (DataW.lit (.string s.data.toList) : DataW H)) hx) (by simp [DataW.weights])
  have := List.all_eq_true.1 h _ (DataW.weights_mem_each ht hd' x.data.toList.length (by
    simp only [DataW.weights, hu, List.mem_cons, List.mem_append]
    exact .inr (.inl h1)))
  have h2 := of_decide_eq_true this
  simpa [reachBytes] using h2
end
end Go.Proofs.Hopf
