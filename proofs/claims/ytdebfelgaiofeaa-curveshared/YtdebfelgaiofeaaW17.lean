/- The faces of package field at elements. -/
import Derived.Test.YtdebfelgaiofeaaW16
import Derived.Test.YtdebfelgaiofeaaMA
namespace Go.Proofs.Ytdebfelgaiofeaa
open Go.RowKit Go.Proofs.Fd

theorem Sub_el (a b : Nat) (ha : a < p) (hb : b < p) (w : World) :
    Calls Try.prog 59 #[.string (enc a), .string (enc b)] w fun e w' => e = .returned (.tuple #[.string (enc ((a + p - b) % p)), .int .i64 0]) ∧ Below w.heap.size w w' := by
  have := Sub_ok (enc a) (enc b) (chk_enc ha) (chk_enc hb) w
  rw [num_enc_p ha, num_enc_p hb] at this
  exact this

theorem Inv_el (a : Nat) (ha : a < p) (w : World) :
    Calls Try.prog 61 #[.string (enc a)] w fun e w' => e = .returned (.tuple #[.string (enc (a ^ (p - 2) % p)), .int .i64 0]) ∧ Below w.heap.size w w' := by
  have := Inv_ok (enc a) (chk_enc ha) w
  rw [num_enc_p ha] at this
  exact this

theorem chkList2 {a b : Nat} (ha : a < p) (hb : b < p) : chkList [enc a, enc b] = 0 := by
  unfold chkList chkAll chkAll chkAll; simp [chk_enc ha, chk_enc hb]
theorem chkList3 {a b c : Nat} (ha : a < p) (hb : b < p) (hc : c < p) : chkList [enc a, enc b, enc c] = 0 := by
  unfold chkList chkAll chkAll chkAll chkAll; simp [chk_enc ha, chk_enc hb, chk_enc hc]

theorem strAt2 {w : World} {B : Nat} {s t : ByteArray} (h0 : w.cell? ⟨B, 0, none⟩ = some (.string s)) (h1 : w.cell? ⟨B, 1, none⟩ = some (.string t)) : StrAt w (some ⟨B, 0, none⟩) [s, t] := by
  intro i hi
  have : i = 0 ∨ i = 1 := by simp at hi; omega
  rcases this with rfl | rfl
  · exact ⟨_, _, rfl, h0⟩
  · exact ⟨_, _, rfl, h1⟩
theorem strAt3 {w : World} {B : Nat} {s t r : ByteArray} (h0 : w.cell? ⟨B, 0, none⟩ = some (.string s)) (h1 : w.cell? ⟨B, 1, none⟩ = some (.string t)) (h2 : w.cell? ⟨B, 2, none⟩ = some (.string r)) : StrAt w (some ⟨B, 0, none⟩) [s, t, r] := by
  intro i hi
  have : i = 0 ∨ i = 1 ∨ i = 2 := by simp at hi; omega
  rcases this with rfl | rfl | rfl
  · exact ⟨_, _, rfl, h0⟩
  · exact ⟨_, _, rfl, h1⟩
  · exact ⟨_, _, rfl, h2⟩

theorem Add2_el (a b B : Nat) (ha : a < p) (hb : b < p) (w : World) (h0 : w.cell? ⟨B, 0, none⟩ = some (.string (enc a))) (h1 : w.cell? ⟨B, 1, none⟩ = some (.string (enc b))) :
    Calls Try.prog 60 #[.slice (some ⟨B, 0, none⟩) 2 2] w fun e w' => e = .returned (.tuple #[.string (enc ((a + b) % p)), .int .i64 0]) ∧ Below w.heap.size w w' := by
  have := Add_ok (some ⟨B, 0, none⟩) [enc a, enc b] 2 2 rfl (by omega) (chkList2 ha hb) w (strAt2 h0 h1)
  have e : sumOf [enc a, enc b] = (a + b) % p := by
    show ((0 + num (enc a).data.toList) % p + num (enc b).data.toList) % p = _
    rw [num_enc_p ha, num_enc_p hb, sum2]
  rw [e] at this
  exact this

theorem Add3_el (a b c B : Nat) (ha : a < p) (hb : b < p) (hc : c < p) (w : World) (h0 : w.cell? ⟨B, 0, none⟩ = some (.string (enc a))) (h1 : w.cell? ⟨B, 1, none⟩ = some (.string (enc b))) (h2 : w.cell? ⟨B, 2, none⟩ = some (.string (enc c))) :
    Calls Try.prog 60 #[.slice (some ⟨B, 0, none⟩) 3 3] w fun e w' => e = .returned (.tuple #[.string (enc ((a + b + c) % p)), .int .i64 0]) ∧ Below w.heap.size w w' := by
  have := Add_ok (some ⟨B, 0, none⟩) [enc a, enc b, enc c] 3 3 rfl (by omega) (chkList3 ha hb hc) w (strAt3 h0 h1 h2)
  have e : sumOf [enc a, enc b, enc c] = (a + b + c) % p := by
    show (((0 + num (enc a).data.toList) % p + num (enc b).data.toList) % p + num (enc c).data.toList) % p = _
    rw [num_enc_p ha, num_enc_p hb, num_enc_p hc, sum3]
  rw [e] at this
  exact this

theorem Mul2_el (a b B : Nat) (ha : a < p) (hb : b < p) (w : World) (h0 : w.cell? ⟨B, 0, none⟩ = some (.string (enc a))) (h1 : w.cell? ⟨B, 1, none⟩ = some (.string (enc b))) :
    Calls Try.prog 58 #[.slice (some ⟨B, 0, none⟩) 2 2] w fun e w' => e = .returned (.tuple #[.string (enc (a * b % p)), .int .i64 0]) ∧ Below w.heap.size w w' := by
  have := Mul_ok B 0 [enc a, enc b] 2 2 rfl (by omega) (by omega) (by omega) (by omega) (chkList2 ha hb) w (strAt2 h0 h1)
  have e : mulFrom (num ([enc a, enc b].headD ByteArray.empty).data.toList) [enc a, enc b].tail = a * b % p := by
    show num (enc a).data.toList * num (enc b).data.toList % p = _
    rw [num_enc_p ha, num_enc_p hb]
  rw [e] at this
  exact this

theorem Mul3_el (a b c B : Nat) (ha : a < p) (hb : b < p) (hc : c < p) (w : World) (h0 : w.cell? ⟨B, 0, none⟩ = some (.string (enc a))) (h1 : w.cell? ⟨B, 1, none⟩ = some (.string (enc b))) (h2 : w.cell? ⟨B, 2, none⟩ = some (.string (enc c))) :
    Calls Try.prog 58 #[.slice (some ⟨B, 0, none⟩) 3 3] w fun e w' => e = .returned (.tuple #[.string (enc (a * b % p * c % p)), .int .i64 0]) ∧ Below w.heap.size w w' := by
  have := Mul_ok B 0 [enc a, enc b, enc c] 3 3 rfl (by omega) (by omega) (by omega) (by omega) (chkList3 ha hb hc) w (strAt3 h0 h1 h2)
  have e : mulFrom (num ([enc a, enc b, enc c].headD ByteArray.empty).data.toList) [enc a, enc b, enc c].tail = a * b % p * c % p := by
    show num (enc a).data.toList * num (enc b).data.toList % p * num (enc c).data.toList % p = _
    rw [num_enc_p ha, num_enc_p hb, num_enc_p hc]
  rw [e] at this
  exact this

/-- The element of bytes: of the first 64. -/
def elt (s : ByteArray) : Nat := num (s.data.toList.take 64) % p
theorem elt_lt (s : ByteArray) : elt s < p := Nat.mod_lt _ p_pos

end Go.Proofs.Ytdebfelgaiofeaa
