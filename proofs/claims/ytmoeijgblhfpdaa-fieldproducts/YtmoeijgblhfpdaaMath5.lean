/- What the faces of package field answer, as plain functions. -/
import Derived.Test.YtmoeijgblhfpdaaMath4
namespace Go.Proofs.Fd

/-- The 32 bytes of a number. -/
def enc (n : Nat) : ByteArray := ⟨(byts 32 n).toArray⟩

theorem enc_size (n : Nat) : (enc n).size = 32 := by
  show (byts 32 n).toArray.size = 32
  rw [List.size_toArray, byts_length]

theorem pow_w256 : (256 : Nat) ^ 32 = W256 := by decide

theorem num_enc {n : Nat} (h : n < W256) : num (enc n).data.toList = n := by
  show num (byts 32 n) = n
  rw [num_byts, pow_w256, Nat.mod_eq_of_lt h]

theorem p_lt : p < W256 := by decide
theorem num_enc_p {n : Nat} (h : n < p) : num (enc n).data.toList = n := num_enc (Nat.lt_trans h p_lt)

theorem enc_inj {a b : Nat} (ha : a < W256) (hb : b < W256) (h : enc a = enc b) : a = b := by
  rw [← num_enc ha, h, num_enc hb]

theorem enc_num {s : ByteArray} (h : s.size = 32) : enc (num s.data.toList) = s := by
  have hl : s.data.toList.length = 32 := by simpa using h
  have := byts_num s.data.toList
  rw [hl] at this
  unfold enc
  rw [this]

/-- What Check answers. -/
def chk (s : ByteArray) : Int := if s.size = 32 then (if num s.data.toList < p then 0 else 1) else 3

theorem chk_enc {n : Nat} (h : n < p) : chk (enc n) = 0 := by
  unfold chk; rw [if_pos (enc_size n), if_pos (by rw [num_enc_p h]; exact h)]

theorem chk_zero {s : ByteArray} (h : chk s = 0) : s.size = 32 ∧ num s.data.toList < p := by
  unfold chk at h
  split at h
  · split at h
    · exact ⟨by assumption, by assumption⟩
    · cases h
  · cases h

/-- The first refusal among elements; 0 if there is none. -/
def chkAll : List ByteArray → Int
  | [] => 0
  | s :: r => if chk s = 0 then chkAll r else chk s

/-- What checkList answers. -/
def chkList (l : List ByteArray) : Int := if chkAll l = 0 then (if l.length ≤ 100 then 0 else 2) else chkAll l

theorem chkAll_take_succ (l : List ByteArray) (k : Nat) (h : k < l.length) (h0 : chkAll (l.take k) = 0) : chkAll (l.take (k + 1)) = chk l[k] := by
  induction l generalizing k with
  | nil => simp at h
  | cons s r ih =>
    cases k with
    | zero => simp [chkAll]; exact fun h => h.symm
    | succ k =>
      simp only [List.take_succ_cons, chkAll] at h0 ⊢
      split at h0
      · rename_i hs
        rw [if_pos hs]
        simpa using ih k (by simpa using h) h0
      · rename_i hs; exact absurd h0 hs

theorem chkAll_found (l : List ByteArray) (k : Nat) (h : k < l.length) (h0 : chkAll (l.take k) = 0) (h1 : ¬ chk l[k] = 0) : chkAll l = chk l[k] := by
  induction l generalizing k with
  | nil => simp at h
  | cons s r ih =>
    cases k with
    | zero => simp only [List.getElem_cons_zero] at h1 ⊢; simp only [chkAll]; rw [if_neg h1]
    | succ k =>
      simp only [List.take_succ_cons, chkAll] at h0 ⊢
      split at h0
      · rename_i hs
        rw [if_pos hs]
        simpa using ih k (by simpa using h) h0 (by simpa using h1)
      · rename_i hs; exact absurd h0 hs

theorem chkAll_mem {l : List ByteArray} (h : chkAll l = 0) : ∀ s ∈ l, chk s = 0 := by
  induction l with
  | nil => simp
  | cons s r ih =>
    simp only [chkAll] at h
    split at h
    · rename_i hs
      intro t ht
      rcases List.mem_cons.1 ht with rfl | ht
      · exact hs
      · exact ih h t ht
    · rename_i hs; exact absurd h hs

theorem chkList_zero {l : List ByteArray} (h : chkList l = 0) : chkAll l = 0 ∧ l.length ≤ 100 := by
  unfold chkList at h
  split at h
  · split at h
    · exact ⟨by assumption, by assumption⟩
    · cases h
  · rename_i hs; exact absurd h hs

end Go.Proofs.Fd
