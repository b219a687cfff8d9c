/- The document's wide blocks: texts laid, and looked for. -/
import Derived.Test.YtbkefhfbbhdpcabDoorGS
import Derived.Test.YtbkefhfbbhdpcabDoorGW
namespace Go.Proofs.YtbkefhfbbhdpcabDoor
open Go.RowKit Go.Proofs.Fd Go.Proofs.Hs Go.Proofs.Cc Go.Proofs.Wd
set_option maxRecDepth 20000

theorem ba_sz (l : List UInt8) : (⟨l.toArray⟩ : ByteArray).size = l.length := by show l.toArray.size = _; simp
theorem ba_cut (l : List UInt8) (a b : Nat) : ((⟨l.toArray⟩ : ByteArray).extract a b).data.toList = (l.drop a).take (b - a) := by
  rw [ByteArray.data_extract, Array.toList_extract, List.extract_eq_take_drop]
theorem ba_of {s : ByteArray} {l : List UInt8} (h : s.data.toList = l) : s = ⟨l.toArray⟩ := by cases s; subst h; simp
theorem list_sz (s : ByteArray) : s.data.toList.length = s.size := by simp

/-- What a text's look answers. -/
def txV (l : List UInt8) : Array Value := match textl l with
  | some t => #[.string ⟨t.toArray⟩, .bool true]
  | none => #[.string ⟨#[]⟩, .bool false]
theorem txV_no (l : List UInt8) (h : textl l = none) : txV l = #[.string ⟨#[]⟩, .bool false] := by unfold txV; rw [h]
theorem txV_yes (l t : List UInt8) (h : textl l = some t) : txV l = #[.string ⟨t.toArray⟩, .bool true] := by unfold txV; rw [h]
theorem ba_getD (b : ByteArray) (j : Nat) (h : j < b.size) : b.data.toList.getD j 0 = b[j] := by
  rw [List.getD_eq_getElem?_getD, List.getElem?_eq_getElem (by rw [list_sz]; exact h)]
  rfl

end Go.Proofs.YtbkefhfbbhdpcabDoor
