/- Tapes, pure: what is drawn of bytes; orders. -/
import Derived.WalkKit
namespace Go.Proofs.Ta

/-- Four bytes as a number, the highest first; a draw below n. -/
def num4 (h : List UInt8) : Nat := (h.getD 0 0).toNat * 16777216 + (h.getD 1 0).toNat * 65536 + (h.getD 2 0).toNat * 256 + (h.getD 3 0).toNat
theorem num4_lt (h : List UInt8) : num4 h < 4294967296 := by
  unfold num4
  have := (h.getD 0 0).toNat_lt
  have := (h.getD 1 0).toNat_lt
  have := (h.getD 2 0).toNat_lt
  have := (h.getD 3 0).toNat_lt
  omega
def drw (n : Nat) (h : List UInt8) : Nat := num4 h * n / 4294967296
theorem drw_lt (n : Nat) (h : List UInt8) (hn : 0 < n) : drw n h < n := by
  unfold drw
  rw [Nat.div_lt_iff_lt_mul (by decide), Nat.mul_comm]
  exact Nat.mul_lt_mul_of_pos_left (num4_lt h) hn
theorem drw_mono (n : Nat) (a b : List UInt8) (h : num4 a ≤ num4 b) : drw n a ≤ drw n b := Nat.div_le_div_right (Nat.mul_le_mul_right n h)
theorem drw_zero (n : Nat) (a : List UInt8) (h : num4 a = 0) : drw n a = 0 := by unfold drw; rw [h, Nat.zero_mul, Nat.zero_div]
theorem drw_top (n : Nat) (a : List UInt8) (h : num4 a = 4294967295) (h0 : 0 < n) (h1 : n < 4294967296) : drw n a = n - 1 := by
  unfold drw
  rw [h]
  omega
theorem drw_small (n : Nat) (h : List UInt8) (hn : n < 2147483648) : num4 h * n < 9223372036854775808 := by
  have := num4_lt h
  exact Nat.lt_of_le_of_lt (Nat.mul_le_mul (show num4 h ≤ 4294967295 by omega) (show n ≤ 2147483647 by omega)) (by decide)

/-- Numbers at i and j change places. -/
def sw (L : List Int) (i j : Nat) : List Int := (L.set i (L.getD j 0)).set j (L.getD i 0)
theorem sw_len (L : List Int) (i j : Nat) : (sw L i j).length = L.length := by unfold sw; rw [List.length_set, List.length_set]
theorem sw_perm (L : List Int) (i j : Nat) (hi : i < L.length) (hj : j < L.length) : (sw L i j).Perm L := by
  have h := (Array.swap_perm (xs := L.toArray) (i := i) (j := j) (by simpa using hi) (by simpa using hj)).toList
  have e : (L.toArray.swap i j (by simpa using hi) (by simpa using hj)).toList = sw L i j := by
    unfold sw
    simp [Array.swap, List.getD_eq_getElem?_getD, List.getElem?_eq_getElem hi, List.getElem?_eq_getElem hj]
  rw [e] at h
  exact h
theorem sw_self (L : List Int) (i : Nat) : sw L i i = L := by
  unfold sw
  rw [List.set_set]
  by_cases h : i < L.length
  · rw [List.getD_eq_getElem?_getD, List.getElem?_eq_getElem h]
    exact List.set_getElem_self h
  · exact List.set_eq_of_length_le (by omega)
/-- The numbers 0 to n - 1; an order of them, drawn. -/
def shuf : Nat → List Int → List UInt8 → List Int
  | 0, L, _ => L
  | i + 1, L, l => shuf i (sw L (i + 1) (drw (i + 2) l)) (l.drop 4)
def up (n : Nat) : List Int := (List.range n).map Int.ofNat
def ord (n : Nat) (l : List UInt8) : List Int := shuf (n - 1) (up n) l
theorem up_len (n : Nat) : (up n).length = n := by unfold up; rw [List.length_map, List.length_range]
theorem up_succ (n : Nat) : up (n + 1) = up n ++ [(n : Int)] := by unfold up; rw [List.range_succ, List.map_append]; rfl
theorem up_at (n k : Nat) (h : k < n) : (up n)[k]'(by rw [up_len]; exact h) = (k : Int) := by unfold up; simp
theorem up_nodup (n : Nat) : (up n).Nodup := by
  unfold up
  exact List.Pairwise.map _ (fun a b h => by intro e; exact h (Int.ofNat.inj e)) List.nodup_range
theorem up_mem (n : Nat) (x : Int) (h : x ∈ up n) : 0 ≤ x ∧ x < (n : Int) := by
  unfold up at h
  obtain ⟨k, hk, rfl⟩ := List.mem_map.1 h
  have := List.mem_range.1 hk
  show (0 : Int) ≤ (k : Int) ∧ (k : Int) < (n : Int)
  omega
theorem shuf_perm (i : Nat) : ∀ (L : List Int) (l : List UInt8), i < L.length ∨ i = 0 → (shuf i L l).Perm L := by
  induction i with
  | zero => intro L l _; exact List.Perm.refl _
  | succ i ih =>
    intro L l h
    have hi : i + 1 < L.length := by omega
    have hd := drw_lt (i + 2) l (by omega)
    exact (ih _ _ (.inl (by rw [sw_len]; omega))).trans (sw_perm L (i + 1) _ hi (by omega))
theorem ord_perm (n : Nat) (l : List UInt8) : (ord n l).Perm (up n) := by
  refine shuf_perm (n - 1) (up n) l ?_
  rw [up_len]
  omega
theorem ord_len (n : Nat) (l : List UInt8) : (ord n l).length = n := by rw [(ord_perm n l).length_eq, up_len]
theorem ord_nodup (n : Nat) (l : List UInt8) : (ord n l).Nodup := (ord_perm n l).nodup_iff.2 (up_nodup n)
theorem ord_mem (n : Nat) (l : List UInt8) (x : Int) (h : x ∈ ord n l) : 0 ≤ x ∧ x < (n : Int) := up_mem n x ((ord_perm n l).mem_iff.1 h)
theorem shuf_still (i : Nat) : ∀ (L : List Int) (l : List UInt8), 4 * i ≤ l.length → (∀ k, k < 4 * i → l.getD k 0 = 255) → i + 1 < 4294967296 → shuf i L l = L := by
  induction i with
  | zero => intro L l _ _ _; rfl
  | succ i ih =>
    intro L l hl h hi
    have e : num4 l = 4294967295 := by
      unfold num4
      rw [h 0 (by omega), h 1 (by omega), h 2 (by omega), h 3 (by omega)]
      rfl
    have e2 : drw (i + 2) l = i + 1 := by rw [drw_top (i + 2) l e (by omega) (by omega)]; omega
    show shuf i (sw L (i + 1) (drw (i + 2) l)) (l.drop 4) = L
    rw [e2, sw_self]
    refine ih L _ (by rw [List.length_drop]; omega) (fun k hk => ?_) (by omega)
    have := h (4 + k) (by omega)
    rw [List.getD_eq_getElem?_getD] at this ⊢
    rw [List.getElem?_drop]
    exact this
theorem ord_still (n : Nat) (l : List UInt8) (hn : n ≤ 64) (hl : 4 * (n - 1) ≤ l.length) (h : ∀ k, k < 4 * (n - 1) → l.getD k 0 = 255) : ord n l = up n := shuf_still (n - 1) (up n) l hl h (by omega)
/-- In a list that has each number once, one is not among those ahead of it. -/
theorem not_ahead (L : List Int) (h : L.Nodup) (i : Nat) (hi : i < L.length) : L[i] ∉ L.take i := by
  intro hm
  obtain ⟨k, hk, e⟩ := List.mem_take_iff_getElem.1 hm
  exact List.pairwise_iff_getElem.1 h k i (by omega) hi (by omega) e
/-- What the calls answer, and what they leave. -/
def wordE (l : List UInt8) : Int := if l.length < 4 then 120 else 0
def wordV (l : List UInt8) : Int := if l.length < 4 then 0 else (num4 l : Int)
def wordR (l : List UInt8) : List UInt8 := if l.length < 4 then l else l.drop 4
def belE (n : Int) (l : List UInt8) : Int := if n < 1 ∨ 2147483647 < n then 1 else if l.length < 4 then 120 else 0
def belV (n : Int) (l : List UInt8) : Int := if n < 1 ∨ 2147483647 < n then 0 else if l.length < 4 then 0 else (drw n.toNat l : Int)
def belR (n : Int) (l : List UInt8) : List UInt8 := if n < 1 ∨ 2147483647 < n then l else if l.length < 4 then l else l.drop 4
def bytE (n : Int) (l : List UInt8) : Int := if n < 0 ∨ 4096 < n then 1 else if l.length < n.toNat then 120 else 0
def bytV (n : Int) (l : List UInt8) : List UInt8 := if n < 0 ∨ 4096 < n then [] else if l.length < n.toNat then [] else l.take n.toNat
def bytR (n : Int) (l : List UInt8) : List UInt8 := if n < 0 ∨ 4096 < n then l else if l.length < n.toNat then l else l.drop n.toNat
def ordE (n : Int) (l : List UInt8) : Int := if n < 0 ∨ 64 < n then 1 else if l.length < 4 * (n.toNat - 1) then 120 else 0
def ordV (n : Int) (l : List UInt8) : List Int := if n < 0 ∨ 64 < n then [] else if l.length < 4 * (n.toNat - 1) then [] else ord n.toNat l
def ordR (n : Int) (l : List UInt8) : List UInt8 := if n < 0 ∨ 64 < n then l else if l.length < 4 * (n.toNat - 1) then l else l.drop (4 * (n.toNat - 1))
end Go.Proofs.Ta
