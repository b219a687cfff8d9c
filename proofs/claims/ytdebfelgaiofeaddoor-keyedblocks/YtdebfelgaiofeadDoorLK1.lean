/- HashShort answers true. -/
import Derived.Test.YtdebfelgaiofeadDoorK9
namespace Go.Proofs.YtdebfelgaiofeadDoor
open Go.RowKit Go.Proofs.Fd Go.Proofs.Hs

theorem ext_ext (S : ByteArray) (n k : Nat) (h : k ≤ n) : (S.extract 0 n).extract 0 k = S.extract 0 k := by
  apply ByteArray.ext
  simp [ByteArray.data_extract, Nat.min_eq_left h]
theorem ext_size (S : ByteArray) (n : Nat) (h : n ≤ S.size) : (S.extract 0 n).size = n := by
  simp [ByteArray.size_extract]; omega
theorem ext_all (S : ByteArray) : S.extract 0 S.size = S := by
  apply ByteArray.ext
  simp

end Go.Proofs.YtdebfelgaiofeadDoor
