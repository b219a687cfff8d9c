/- Sums and products of elements. -/
import Derived.Test.YtmoeijgblhfpdaaMath5
namespace Go.Proofs.Fd

/-- The sum of elements, modulo p. -/
def sumOf (l : List ByteArray) : Nat := l.foldl (fun a s => (a + num s.data.toList) % p) 0
/-- The product of elements, modulo p, from a on. -/
def mulFrom (a : Nat) (l : List ByteArray) : Nat := l.foldl (fun a s => (a * num s.data.toList) % p) a

theorem sumOf_take_succ (l : List ByteArray) (k : Nat) (h : k < l.length) : sumOf (l.take (k + 1)) = (sumOf (l.take k) + num l[k].data.toList) % p := by
  unfold sumOf; rw [List.take_succ_eq_append_getElem h, List.foldl_append]; rfl
theorem mulFrom_take_succ (a : Nat) (l : List ByteArray) (k : Nat) (h : k < l.length) : mulFrom a (l.take (k + 1)) = (mulFrom a (l.take k) * num l[k].data.toList) % p := by
  unfold mulFrom; rw [List.take_succ_eq_append_getElem h, List.foldl_append]; rfl

theorem p_pos : 0 < p := by decide

theorem sumOf_lt (l : List ByteArray) : sumOf l < p := by
  rcases List.eq_nil_or_concat l with rfl | ⟨m, b, rfl⟩
  · exact p_pos
  · unfold sumOf; rw [List.concat_eq_append, List.foldl_append]; exact Nat.mod_lt _ p_pos

end Go.Proofs.Fd
