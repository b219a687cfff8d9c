/- Lists of bytes and of strings of the call's own: small facts. -/
import Derived.Test.YtbaajpefefedbaaKB
import Derived.Test.YtbaajpefefedbaaFrM
import Derived.Lib.AppendStr
import Derived.Lib.AppendZerosOnto
namespace Go.Proofs.Ytbaajpefefedbaa
open Go.RowKit Go.Proofs.Fd
set_option maxRecDepth 20000

def bcells (l : List UInt8) : List Value := l.map fun b => .int .u8 b.toNat
theorem infoByte : (Try.prog.info? 5).map (fun i => (i.zero, i.size, i.bytes)) = some (some (.int .u8 0), 1, 1) := by kernel_rfl
theorem cells_new (w : World) (cs : Array Value) (t : TypeId) : ∀ j u, cs.toList[j]? = some u → (w.alloc (.cells cs t)).cell? (Addr.add ⟨w.heap.size, 0, none⟩ j) = some u := fun j u h => by
  have q : Addr.add ⟨w.heap.size, 0, none⟩ j = ⟨w.heap.size, j, none⟩ := by simp [Addr.add]; intro h; exact h.symm
  rw [q, World.cell?_alloc_new]
  simpa using h
def StrAt (w : World) (a : Option Addr) (ks : List ByteArray) : Prop := ∀ i (hi : i < ks.length), ∃ b o, a = some ⟨b, o, none⟩ ∧ w.cell? ⟨b, o + i, none⟩ = some (.string ks[i])
theorem StrAt.later {B : Nat} {W w1 : World} {a : Option Addr} {ks : List ByteArray} (h : StrAt W a ks) (hb : Below B W w1) (hB : W.heap.size = B) : StrAt w1 a ks := fun i hi => by
  subst hB
  obtain ⟨b, o, e, hc⟩ := h i hi
  exact ⟨b, o, e, cell_later hb hc⟩
theorem flat_step {β : Type} (f : ByteArray → List β) (ks : List ByteArray) (k : Nat) (hk : k < ks.length) : (ks.take (k + 1)).flatMap f = (ks.take k).flatMap f ++ f ks[k] := by
  rw [List.take_succ_eq_append_getElem hk, List.flatMap_append, List.flatMap_singleton]
theorem strAt1 {w : World} {B : Nat} {x : ByteArray} (h0 : w.cell? ⟨B, 0, none⟩ = some (.string x)) : StrAt w (some ⟨B, 0, none⟩) [x] := fun i hi => by
  refine ⟨B, 0, rfl, ?_⟩
  obtain rfl : i = 0 := by simp at hi; omega
  exact h0
theorem strAt2 {w : World} {B : Nat} {x y : ByteArray} (h0 : w.cell? ⟨B, 0, none⟩ = some (.string x)) (h1 : w.cell? ⟨B, 1, none⟩ = some (.string y)) : StrAt w (some ⟨B, 0, none⟩) [x, y] := fun i hi => by
  refine ⟨B, 0, rfl, ?_⟩
  rcases (by simp at hi; omega : i = 0 ∨ i = 1) with rfl | rfl
  · exact h0
  · exact h1
def scells (l : List ByteArray) : List Value := l.map fun s => .string s
theorem infoStr : (Try.prog.info? 9).map (fun i => (i.zero, i.size, i.bytes)) = some (some (.string ⟨#[]⟩), 1, 16) := by kernel_rfl
theorem owns_strs {w : World} {base n : Nat} {v : Value} {l : List ByteArray} (h : w.ownsRow base 9 1 v n (scells l)) : l.length = n ∧ ((v = .slice none 0 0 ∧ n = 0) ∨ ∃ g cap, v = .slice (some ⟨g, 0, none⟩) n cap ∧ StrAt w (some ⟨g, 0, none⟩) l) := by
  obtain ⟨h1, h2⟩ := h
  have hl : l.length = n := by simpa [scells] using h1
  refine ⟨hl, ?_⟩
  rcases h2 with h2 | ⟨g, cap, cur, rfl, -, hh, -, -, -, ht⟩
  · exact .inl h2
  · refine .inr ⟨g, cap, rfl, fun j hj => ⟨g, 0, rfl, ?_⟩⟩
    have e : cur[j]? = (scells l)[j]? := by
      rw [← ht, List.getElem?_take_of_lt (by omega)]; simp
    rw [Nat.zero_add]
    unfold World.cell?
    rw [hh]
    simp only [Option.isSome_none]
    show cur[j]? = _
    rw [e]; simp [scells, hj]
theorem flat_le {f : ByteArray → List UInt8} (ks : List ByteArray) (k : Nat) : ((ks.take k).flatMap f).length ≤ (ks.flatMap f).length := by
  have h : (ks.take k).flatMap f ++ (ks.drop k).flatMap f = ks.flatMap f := by rw [← List.flatMap_append, List.take_append_drop]
  rw [← h, List.length_append]
  omega
theorem strCells_eq (s : ByteArray) : Go.Lib.strCells s = bcells s.data.toList := by
  simp [Go.Lib.strCells, bcells]
theorem own_later {w w' : World} {base : Nat} {e : TypeId} {size : Nat} {v : Value} {n : Nat} {xs : List Value} (h : w.ownsRow base e size v n xs) (hb : Below w.heap.size w w') : w'.ownsRow base e size v n xs := by
  refine ⟨h.1, ?_⟩
  rcases h.2 with hn | ⟨g, cap, cur, rfl, hbg, hgg, rest⟩
  · exact .inl hn
  · refine .inr ⟨g, cap, cur, rfl, hbg, ?_, rest⟩
    rw [hb.block g (Array.getElem?_eq_some_iff.1 hgg).1]
    exact hgg
theorem owns_bytes {w : World} {base n : Nat} {v : Value} {l : List UInt8} (h : w.ownsRow base 5 1 v n (bcells l)) : l.length = n ∧ ((v = .slice none 0 0 ∧ n = 0) ∨ ∃ g cap, v = .slice (some ⟨g, 0, none⟩) n cap ∧ ∀ j (hj : j < l.length), w.cell? ⟨g, j, none⟩ = some (.int .u8 (l[j].toNat : Int))) := by
  obtain ⟨h1, h2⟩ := h
  have hl : l.length = n := by simpa [bcells] using h1
  refine ⟨hl, ?_⟩
  rcases h2 with h2 | ⟨g, cap, cur, rfl, -, hh, -, -, -, ht⟩
  · exact .inl h2
  · refine .inr ⟨g, cap, rfl, fun j hj => ?_⟩
    have e : cur[j]? = (bcells l)[j]? := by
      rw [← ht, List.getElem?_take_of_lt (by omega)]; simp
    unfold World.cell?
    rw [hh]
    simp only [Option.isSome_none]
    show cur[j]? = _
    rw [e]; simp [bcells, hj]
theorem own_string {V : World} {base n : Nat} {v : Value} {l : List UInt8} (h : V.ownsRow base 5 1 v n (bcells l)) : ∀ w', Below V.heap.size V w' → (convert 59 9 v).run Try.prog w' = .ok (.string ⟨l.toArray⟩) w' := by
  intro w' hb
  obtain ⟨hlen, hor⟩ := owns_bytes h
  rcases hor with ⟨rfl, h0⟩ | ⟨g, cap, rfl, hcell⟩
  · obtain rfl : l = [] := List.length_eq_zero_iff.1 (by omega)
    kernel_rfl
  · have := run_convert_bytes_back (P := Try.prog) w' 59 9 5 ⟨g, 0, none⟩ cap l Try.underlying59 Try.underlying5 Try.underlying9 (fun j hj => by
      have q : Addr.add ⟨g, 0, none⟩ j = ⟨g, j, none⟩ := by simp [Addr.add]; intro h; exact h.symm
      rw [q]; exact cell_later hb (hcell j hj))
    rw [hlen] at this; exact this
end Go.Proofs.Ytbaajpefefedbaa
