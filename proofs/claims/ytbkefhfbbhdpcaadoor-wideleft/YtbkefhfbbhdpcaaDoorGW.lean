/- Wide blocks: pure, with the chapter's example. -/
import Derived.Test.YtbkefhfbbhdpcaaDoorHM
import Derived.Test.YtbkefhfbbhdpcaaDoorSM

/- Wide blocks: pure. -/
namespace Go.Proofs.Wd
open Go.Proofs.Hs Go.Proofs.Cc

/-- The label. -/
def lab : List UInt8 := [119, 105, 100, 101]
/-- The four keys of a key. -/
def wkey (key : List UInt8) (i : Nat) : List UInt8 := ((drv key lab 128).drop (32 * i)).take 32
theorem wkey_len (key : List UInt8) (i : Nat) (h : i < 4) : (wkey key i).length = 32 := by
  unfold wkey drv
  rw [List.length_take, List.length_drop, xpn_len]; omega
def z12 : List UInt8 := List.replicate 12 0
/-- The right half, and the left one, turned. -/
def stR (k l r : List UInt8) : List UInt8 := xorl r (strm (xorl l k) z12 0 r.length)
def stL (k l r : List UInt8) : List UInt8 := xorl l (hmac k r)
theorem stR_len (k l r : List UInt8) : (stR k l r).length = r.length := by
  unfold stR; exact xorl_len _ _ (by rw [strm_len]; exact Nat.le_refl _)
theorem stL_len (k l r : List UInt8) (h : l.length = 32) : (stL k l r).length = 32 := by
  unfold stL; rw [xorl_len _ _ (by rw [hmac_len, h]; exact Nat.le_refl _), h]
theorem stR_twice (k l r : List UInt8) : stR k l (stR k l r) = r := by
  have e : (stR k l r).length = r.length := stR_len k l r
  unfold stR at *
  rw [e, xorl_twice _ _ (by rw [strm_len]; exact Nat.le_refl _)]
theorem stL_twice (k l r : List UInt8) (h : l.length = 32) : stL k (stL k l r) r = l := by
  unfold stL
  exact xorl_twice _ _ (by rw [hmac_len, h]; exact Nat.le_refl _)
/-- One step. -/
def stp (key : List UInt8) (i : Nat) (p : List UInt8 × List UInt8) : List UInt8 × List UInt8 :=
  if i % 2 = 0 then (p.1, stR (wkey key i) p.1 p.2) else (stL (wkey key i) p.1 p.2, p.2)
theorem stp_even (key : List UInt8) (i : Nat) (l r : List UInt8) (h : i % 2 = 0) : stp key i (l, r) = (l, stR (wkey key i) l r) := by unfold stp; rw [if_pos h]
theorem stp_odd (key : List UInt8) (i : Nat) (l r : List UInt8) (h : ¬ i % 2 = 0) : stp key i (l, r) = (stL (wkey key i) l r, r) := by unfold stp; rw [if_neg h]
theorem stp_len (key : List UInt8) (i : Nat) (p : List UInt8 × List UInt8) (h : p.1.length = 32) : (stp key i p).1.length = 32 ∧ (stp key i p).2.length = p.2.length := by
  unfold stp
  split
  · exact ⟨h, stR_len _ _ _⟩
  · exact ⟨stL_len _ _ _ h, rfl⟩
theorem stp_twice (key : List UInt8) (i : Nat) (p : List UInt8 × List UInt8) (h : p.1.length = 32) : stp key i (stp key i p) = p := by
  obtain ⟨l, r⟩ := p
  by_cases hi : i % 2 = 0
  · rw [stp_even _ _ _ _ hi, stp_even _ _ _ _ hi, stR_twice]
  · rw [stp_odd _ _ _ _ hi, stp_odd _ _ _ _ hi, stL_twice _ _ _ h]
def run (key : List UInt8) (steps : List Nat) (p : List UInt8 × List UInt8) : List UInt8 × List UInt8 := steps.foldl (fun p i => stp key i p) p
theorem run_cons (key : List UInt8) (i : Nat) (steps : List Nat) (p : List UInt8 × List UInt8) : run key (i :: steps) p = run key steps (stp key i p) := rfl
theorem run_nil (key : List UInt8) (p : List UInt8 × List UInt8) : run key [] p = p := rfl
theorem run_snoc (key : List UInt8) (i : Nat) (steps : List Nat) (p : List UInt8 × List UInt8) : run key (steps ++ [i]) p = stp key i (run key steps p) := by
  unfold run; rw [List.foldl_append]; rfl
theorem run_len (key : List UInt8) (steps : List Nat) (p : List UInt8 × List UInt8) (h : p.1.length = 32) : (run key steps p).1.length = 32 ∧ (run key steps p).2.length = p.2.length := by
  induction steps generalizing p with
  | nil => exact ⟨h, rfl⟩
  | cons i s ih =>
    rw [run_cons]
    obtain ⟨h1, h2⟩ := stp_len key i p h
    obtain ⟨h3, h4⟩ := ih (stp key i p) h1
    exact ⟨h3, h4.trans h2⟩
theorem run_back (key : List UInt8) (steps : List Nat) (p : List UInt8 × List UInt8) (h : p.1.length = 32) : run key steps.reverse (run key steps p) = p := by
  induction steps generalizing p with
  | nil => rfl
  | cons i s ih =>
    rw [List.reverse_cons, run_cons, run_snoc, ih (stp key i p) (stp_len key i p h).1, stp_twice key i p h]
/-- A block, by steps. -/
def trnd (key : List UInt8) (steps : List Nat) (b : List UInt8) : List UInt8 := (run key steps (b.take 32, b.drop 32)).1 ++ (run key steps (b.take 32, b.drop 32)).2
theorem trnd_len (key : List UInt8) (steps : List Nat) (b : List UInt8) (h : 32 ≤ b.length) : (trnd key steps b).length = b.length := by
  obtain ⟨h1, h2⟩ := run_len key steps (b.take 32, b.drop 32) (by rw [List.length_take]; omega)
  unfold trnd
  rw [List.length_append, h1, h2]
  show 32 + (b.drop 32).length = _
  rw [List.length_drop]; omega
theorem trnd_back (key : List UInt8) (steps : List Nat) (b : List UInt8) (h : 32 ≤ b.length) : trnd key steps.reverse (trnd key steps b) = b := by
  have hl : (b.take 32, b.drop 32).1.length = 32 := by rw [List.length_take]; omega
  obtain ⟨h1, h2⟩ := run_len key steps (b.take 32, b.drop 32) hl
  have e1 : (trnd key steps b).take 32 = (run key steps (b.take 32, b.drop 32)).1 := by
    unfold trnd; rw [List.take_append_of_le_length (by omega), List.take_of_length_le (by omega)]
  have e2 : (trnd key steps b).drop 32 = (run key steps (b.take 32, b.drop 32)).2 := by
    unfold trnd; rw [List.drop_append_of_le_length (by omega), List.drop_of_length_le (by omega), List.nil_append]
  have e3 : trnd key steps.reverse (trnd key steps b) = (run key steps.reverse ((trnd key steps b).take 32, (trnd key steps b).drop 32)).1 ++ (run key steps.reverse ((trnd key steps b).take 32, (trnd key steps b).drop 32)).2 := rfl
  rw [e3, e1, e2]
  have e4 : ((run key steps (b.take 32, b.drop 32)).1, (run key steps (b.take 32, b.drop 32)).2) = run key steps (b.take 32, b.drop 32) := rfl
  rw [e4, run_back key steps _ hl]
  exact List.take_append_drop 32 b
def shutl (key b : List UInt8) : List UInt8 := trnd key [0, 1, 2, 3] b
def openl (key b : List UInt8) : List UInt8 := trnd key [3, 2, 1, 0] b
theorem shutl_len (key b : List UInt8) (h : 32 ≤ b.length) : (shutl key b).length = b.length := trnd_len _ _ _ h
theorem openl_len (key b : List UInt8) (h : 32 ≤ b.length) : (openl key b).length = b.length := trnd_len _ _ _ h
theorem open_shut (key b : List UInt8) (h : 32 ≤ b.length) : openl key (shutl key b) = b := trnd_back key [0, 1, 2, 3] b h
theorem shut_open (key b : List UInt8) (h : 32 ≤ b.length) : shutl key (openl key b) = b := trnd_back key [3, 2, 1, 0] b h
theorem shut_inj (key a b : List UInt8) (ha : 32 ≤ a.length) (hb : 32 ≤ b.length) (h : shutl key a = shutl key b) : a = b := by
  rw [← open_shut key a ha, h, open_shut key b hb]
/-- What is shut of a text that fits; and a text out of what was opened. -/
def plainl (t : List UInt8) (n : Nat) : List UInt8 := List.replicate 32 0 ++ [UInt8.ofNat (t.length / 256), UInt8.ofNat t.length] ++ t ++ List.replicate (n - 34 - t.length) 0
theorem plainl_len (t : List UInt8) (n : Nat) (h : t.length + 34 ≤ n) : (plainl t n).length = n := by
  unfold plainl; simp; omega
def told (b : List UInt8) : Nat := (b.getD 32 0).toNat * 256 + (b.getD 33 0).toNat
def textl (b : List UInt8) : Option (List UInt8) :=
  if (b.take 32).all (· == 0) = true ∧ told b + 34 ≤ b.length ∧ (b.drop (34 + told b)).all (· == 0) = true then some ((b.drop 34).take (told b)) else none
theorem text_plain (t : List UInt8) (n : Nat) (h : t.length + 34 ≤ n) (hn : n ≤ 65536) : textl (plainl t n) = some t := by
  have ht : told (plainl t n) = t.length := by
    have e : plainl t n = List.replicate 32 0 ++ (UInt8.ofNat (t.length / 256) :: UInt8.ofNat t.length :: (t ++ List.replicate (n - 34 - t.length) 0)) := by unfold plainl; simp
    rw [e]
    show (UInt8.ofNat (t.length / 256)).toNat * 256 + (UInt8.ofNat t.length).toNat = _
    rw [UInt8.toNat_ofNat', UInt8.toNat_ofNat']
    omega
  have e1 : (plainl t n).take 32 = List.replicate 32 0 := by
    unfold plainl
    rw [List.append_assoc, List.append_assoc, List.take_append_of_le_length (by simp), List.take_of_length_le (by simp)]
  have e2 : (plainl t n).drop 34 = t ++ List.replicate (n - 34 - t.length) 0 := by
    unfold plainl
    rw [List.append_assoc, List.drop_append_of_le_length (by simp), List.drop_of_length_le (by simp), List.nil_append]
  have e3 : (plainl t n).drop (34 + t.length) = List.replicate (n - 34 - t.length) 0 := by
    rw [← List.drop_drop, e2, List.drop_append_of_le_length (Nat.le_refl _), List.drop_length, List.nil_append]
  unfold textl
  rw [ht, e1, e2, e3, plainl_len t n h, if_pos ⟨by simp, by omega, by simp⟩, List.take_append_of_le_length (Nat.le_refl _), List.take_length]
end Go.Proofs.Wd

/- Wide blocks: texts laid and looked for: pure. -/
namespace Go.Proofs.Wd
/-- What is shut of a text, as far as it is laid. -/
def pln (t : List UInt8) (n q : Nat) : List UInt8 := List.replicate 32 0 ++ [UInt8.ofNat (t.length / 256), UInt8.ofNat t.length] ++ t.take q ++ List.replicate (n - 34 - q) 0
theorem pln_all (t : List UInt8) (n : Nat) : pln t n t.length = plainl t n := by unfold pln plainl; rw [List.take_length]
theorem pln_len (t : List UInt8) (n q : Nat) (h : q ≤ t.length) (hn : t.length + 34 ≤ n) : (pln t n q).length = n := by unfold pln; simp; omega
theorem pln_zero (t : List UInt8) (n : Nat) (hn : 34 ≤ n) : ((List.replicate n (0 : UInt8)).set 32 (UInt8.ofNat (t.length / 256))).set 33 (UInt8.ofNat t.length) = pln t n 0 := by
  obtain ⟨m, rfl⟩ : ∃ m, n = 32 + (m + 2) := ⟨n - 34, by omega⟩
  have e : List.replicate (32 + (m + 2)) (0 : UInt8) = List.replicate 32 0 ++ (0 :: 0 :: List.replicate m 0) := by
    rw [← List.replicate_append_replicate]; rfl
  unfold pln
  rw [e, show 32 + (m + 2) - 34 - 0 = m by omega, List.take_zero, List.append_nil, List.append_assoc]
  rw [List.set_append_right _ _ (by simp), List.set_append_right _ _ (by simp)]
  simp
theorem pln_succ (t : List UInt8) (n q : Nat) (h : q < t.length) (hn : t.length + 34 ≤ n) : (pln t n q).set (34 + q) t[q] = pln t n (q + 1) := by
  unfold pln
  generalize hz : List.replicate 32 (0 : UInt8) = Z
  have lz : Z.length = 32 := by rw [← hz, List.length_replicate]
  have e : n - 34 - q = (n - 34 - (q + 1)) + 1 := by omega
  have e2 : (Z ++ [UInt8.ofNat (t.length / 256), UInt8.ofNat t.length] ++ t.take q).length = 34 + q := by simp [lz]; omega
  rw [e, List.replicate_succ, List.set_append_right _ _ (by rw [e2]; exact Nat.le_refl _), e2, Nat.sub_self, List.set_cons_zero, List.take_succ_eq_append_getElem h]
  simp only [List.append_assoc, List.cons_append, List.nil_append]
theorem all_zero (l : List UInt8) : l.all (· == 0) = true ↔ ∀ j, j < l.length → l.getD j 0 = 0 := by
  rw [List.all_eq_true]
  constructor
  · intro h j hj
    rw [List.getD_eq_getElem?_getD, List.getElem?_eq_getElem hj]
    simpa using h l[j] (List.getElem_mem hj)
  · intro h x hx
    obtain ⟨j, hj, rfl⟩ := List.mem_iff_getElem.1 hx
    have := h j hj
    rw [List.getD_eq_getElem?_getD, List.getElem?_eq_getElem hj] at this
    simpa using this
theorem text_yes (l : List UInt8) (hl : 34 ≤ l.length) (h1 : ∀ j, j < 32 → l.getD j 0 = 0) (h2 : told l + 34 ≤ l.length) (h3 : ∀ j, 34 + told l ≤ j → j < l.length → l.getD j 0 = 0) : textl l = some ((l.drop 34).take (told l)) := by
  unfold textl
  rw [if_pos]
  refine ⟨(all_zero _).2 fun j hj => ?_, h2, (all_zero _).2 fun j hj => ?_⟩
  · have hj' : j < 32 := by rw [List.length_take] at hj; omega
    have := h1 j hj'
    rw [List.getD_eq_getElem?_getD] at this ⊢
    rw [List.getElem?_take_of_lt hj']
    exact this
  · rw [List.length_drop] at hj
    have := h3 (34 + told l + j) (by omega) (by omega)
    rw [List.getD_eq_getElem?_getD] at this ⊢
    rw [List.getElem?_drop]
    exact this
theorem text_no1 (l : List UInt8) (j : Nat) (hj : j < 32) (hl : 34 ≤ l.length) (h : l.getD j 0 ≠ 0) : textl l = none := by
  unfold textl
  rw [if_neg]
  rintro ⟨h1, -, -⟩
  have := (all_zero _).1 h1 j (by rw [List.length_take]; omega)
  rw [List.getD_eq_getElem?_getD, List.getElem?_take_of_lt hj, ← List.getD_eq_getElem?_getD] at this
  exact h this
theorem text_no2 (l : List UInt8) (h : l.length < told l + 34) : textl l = none := by
  unfold textl
  rw [if_neg]
  rintro ⟨-, h2, -⟩
  omega
theorem text_no3 (l : List UInt8) (j : Nat) (h1 : 34 + told l ≤ j) (h2 : j < l.length) (h : l.getD j 0 ≠ 0) : textl l = none := by
  unfold textl
  rw [if_neg]
  rintro ⟨-, -, h3⟩
  have := (all_zero _).1 h3 (j - (34 + told l)) (by rw [List.length_drop]; omega)
  rw [List.getD_eq_getElem?_getD, List.getElem?_drop, show 34 + told l + (j - (34 + told l)) = j by omega, ← List.getD_eq_getElem?_getD] at this
  exact h this
end Go.Proofs.Wd

/- Wide blocks: the chapter's example. -/
namespace Go.Proofs.Wd
open Go.Proofs.Hs Go.Proofs.Cc
theorem ex_wide : textl (openl [108] (shutl [107] (plainl [104, 101, 108, 108, 111] 100))) = none := by decide +kernel
end Go.Proofs.Wd
