/- Digests of pieces: beginnings of them, rows of the call's own. -/
import Derived.Test.YtbkefhfbbhdpcaaDoorK8
import Derived.Lib.AppendStr

/- Short digests. -/
namespace Go.Proofs.YtbkefhfbbhdpcaaDoor
open Go.RowKit Go.Proofs.Fd Go.Proofs.Hs

/-- The digest of strings. -/
def shs (ks : List ByteArray) : ByteArray := ⟨(sha (ks.flatMap fun s => s.data.toList)).toArray⟩
theorem shs_size (ks : List ByteArray) : (shs ks).size = 32 := rfl
theorem strAt1 {w : World} {B : Nat} {x : ByteArray} (h0 : w.cell? ⟨B, 0, none⟩ = some (.string x)) : StrAt w (some ⟨B, 0, none⟩) [x] := fun i hi => by
  refine ⟨B, 0, rfl, ?_⟩
  obtain rfl : i = 0 := by simp at hi; omega
  exact h0

end Go.Proofs.YtbkefhfbbhdpcaaDoor

/- HashShort answers true. -/
namespace Go.Proofs.YtbkefhfbbhdpcaaDoor
open Go.RowKit Go.Proofs.Fd Go.Proofs.Hs

theorem ext_ext (S : ByteArray) (n k : Nat) (h : k ≤ n) : (S.extract 0 n).extract 0 k = S.extract 0 k := by
  apply ByteArray.ext
  simp [ByteArray.data_extract, Nat.min_eq_left h]
theorem ext_size (S : ByteArray) (n : Nat) (h : n ≤ S.size) : (S.extract 0 n).size = n := by
  simp [ByteArray.size_extract]; omega
theorem ext_all (S : ByteArray) : S.extract 0 S.size = S := by
  apply ByteArray.ext
  simp

end Go.Proofs.YtbkefhfbbhdpcaaDoor

/- HashCuts answers true. -/
namespace Go.Proofs.YtbkefhfbbhdpcaaDoor
open Go.RowKit Go.Proofs.Fd Go.Proofs.Hs

/-- Numbers that lie in a row. -/
def IntAt (w : World) (a : Option Addr) (cs : List Int) : Prop := ∀ i (hi : i < cs.length), ∃ b o, a = some ⟨b, o, none⟩ ∧ w.cell? ⟨b, o + i, none⟩ = some (.int .i64 cs[i])
theorem IntAt.later {W w1 : World} {a : Option Addr} {cs : List Int} (h : IntAt W a cs) (hb : Below W.heap.size W w1) : IntAt w1 a cs := fun i hi => by
  obtain ⟨b, o, e, hc⟩ := h i hi
  exact ⟨b, o, e, cell_later hb hc⟩

/-- Strings as cells. -/
def scells (l : List ByteArray) : List Value := l.map fun s => .string s
theorem infoStr : (Tryd.prog.info? 9).map (fun i => (i.zero, i.size, i.bytes)) = some (some (.string ⟨#[]⟩), 1, 16) := by kernel_rfl
theorem owns_strs {w : World} {base n : Nat} {v : Value} {l : List ByteArray} (h : w.ownsRow base 9 1 v n (scells l)) : l.length = n ∧ ((v = .slice none 0 0 ∧ n = 0) ∨ ∃ g cap, v = .slice (some ⟨g, 0, none⟩) n cap ∧ StrAt w (some ⟨g, 0, none⟩) l) := by
  obtain ⟨h1, h2⟩ := h
  have hl : l.length = n := by simpa [scells] using h1
  refine ⟨hl, ?_⟩
  rcases h2 with h2 | ⟨g, cap, cur, rfl, -, hh, -, -, -, ht⟩
  · exact .inl h2
  · refine .inr ⟨g, cap, rfl, fun j hj => ⟨g, 0, rfl, ?_⟩⟩
    have e : cur[j]? = (scells l)[j]? := by
      rw [← ht, List.getElem?_take_of_lt (by omega)]; simp
    rw [Nat.zero_add]
    unfold World.cell?
    rw [hh]
    simp only [Option.isSome_none]
    show cur[j]? = _
    rw [e]; simp [scells, hj]

theorem ext_list (s : ByteArray) (a b : Nat) : (s.extract a b).data.toList = (s.data.toList.take b).drop a := by
  simp [ByteArray.data_extract, List.drop_take]

end Go.Proofs.YtbkefhfbbhdpcaaDoor

/- HashBound answers true. -/
namespace Go.Proofs.YtbkefhfbbhdpcaaDoor
open Go.RowKit Go.Proofs.Fd Go.Proofs.Hs

/-- Bound pieces as one text. -/
def bnd (ks : List ByteArray) : List UInt8 := ks.flatMap fun s => be8 s.size ++ s.data.toList
theorem bnd_step (ks : List ByteArray) (k : Nat) (hk : k < ks.length) : bnd (ks.take (k + 1)) = bnd (ks.take k) ++ (be8 ks[k].size ++ ks[k].data.toList) := flat_step _ ks k hk
theorem flat_le {f : ByteArray → List UInt8} (ks : List ByteArray) (k : Nat) : ((ks.take k).flatMap f).length ≤ (ks.flatMap f).length := by
  have h : (ks.take k).flatMap f ++ (ks.drop k).flatMap f = ks.flatMap f := by rw [← List.flatMap_append, List.take_append_drop]
  rw [← h, List.length_append]
  omega
theorem bnd_le (ks : List ByteArray) (k : Nat) : (bnd (ks.take k)).length ≤ (bnd ks).length := flat_le ks k
theorem strCells_eq (s : ByteArray) : Go.Lib.strCells s = bcells s.data.toList := by
  simp [Go.Lib.strCells, bcells]

/-- A row of the call's own, read back as a string, in whatever world comes later. -/
theorem own_string {V : World} {base n : Nat} {v : Value} {l : List UInt8} (h : V.ownsRow base 5 1 v n (bcells l)) : ∀ w', Below V.heap.size V w' → (convert 30 9 v).run Tryd.prog w' = .ok (.string ⟨l.toArray⟩) w' := by
  intro w' hb
  obtain ⟨hlen, hor⟩ := owns_bytes h
  rcases hor with ⟨rfl, h0⟩ | ⟨g, cap, rfl, hcell⟩
  · obtain rfl : l = [] := List.length_eq_zero_iff.1 (by omega)
    kernel_rfl
  · have := run_convert_bytes_back (P := Tryd.prog) w' 30 9 5 ⟨g, 0, none⟩ cap l Tryd.underlying30 Tryd.underlying5 Tryd.underlying9 (fun j hj => by
      have q : Addr.add ⟨g, 0, none⟩ j = ⟨g, j, none⟩ := by simp [Addr.add]; intro h; exact h.symm
      rw [q]; exact cell_later hb (hcell j hj))
    rw [hlen] at this; exact this

end Go.Proofs.YtbkefhfbbhdpcaaDoor
