/- Tags under a key, and keys that are expanded: pure. -/
import Derived.Test.YtbkefhfbbhdpcaaDoorKM
namespace Go.Proofs.Hs

/-- A key's 64 bytes. -/
def short (k : List UInt8) : List UInt8 := if 64 < k.length then sha k else k
def k64 (k : List UInt8) : List UInt8 := (List.range 64).map fun i => k.getD i 0
def xk (c : UInt8) (k : List UInt8) : List UInt8 := (k64 (short k)).map fun b => b ^^^ c
/-- The tag of a text under a key. -/
def hmac (k t : List UInt8) : List UInt8 := sha (xk 92 k ++ sha (xk 54 k ++ t))
theorem hmac_len (k t : List UInt8) : (hmac k t).length = 32 := rfl
theorem k64_len (k : List UInt8) : (k64 k).length = 64 := by simp [k64]
theorem xk_len (c : UInt8) (k : List UInt8) : (xk c k).length = 64 := by simp [xk, k64_len]
theorem k64_zero (k : List UInt8) (n : Nat) : k64 (k ++ List.replicate n 0) = k64 k := by
  unfold k64
  apply List.map_congr_left
  intro i _
  rw [List.getD_eq_getElem?_getD, List.getD_eq_getElem?_getD]
  by_cases h : i < k.length
  · rw [List.getElem?_append_left h]
  · rw [List.getElem?_append_right (by omega), List.getElem?_eq_none (by omega : k.length ≤ i)]
    by_cases h2 : i - k.length < n
    · simp [h2]
    · simp [h2]
theorem short_le (k : List UInt8) (h : k.length ≤ 64) : short k = k := by unfold short; rw [if_neg (by omega)]
theorem short_gt (k : List UInt8) (h : 64 < k.length) : short k = sha k := by unfold short; rw [if_pos h]
theorem hmac_zero (k t : List UInt8) (n : Nat) (h : k.length + n ≤ 64) : hmac (k ++ List.replicate n 0) t = hmac k t := by
  unfold hmac xk
  rw [short_le k (by omega), short_le (k ++ List.replicate n 0) (by simp; omega), k64_zero]
theorem hmac_long (k t : List UInt8) (h : 64 < k.length) : hmac k t = hmac (sha k) t := by
  unfold hmac xk
  rw [short_gt k h, short_le (sha k) (by show (32 : Nat) ≤ 64; decide)]

/-- The i-th tag of an expansion, and all up to it. -/
def tg (k info : List UInt8) : Nat → List UInt8
  | 0 => []
  | i + 1 => hmac k (tg k info i ++ info ++ [UInt8.ofNat (i + 1)])
def tgs (k info : List UInt8) : Nat → List UInt8
  | 0 => []
  | i + 1 => tgs k info i ++ tg k info (i + 1)
theorem tgs_succ (k info : List UInt8) (i : Nat) : tgs k info (i + 1) = tgs k info i ++ tg k info (i + 1) := rfl
theorem tg_len (k info : List UInt8) (i : Nat) : (tg k info (i + 1)).length = 32 := hmac_len _ _
theorem tgs_len (k info : List UInt8) (i : Nat) : (tgs k info i).length = 32 * i := by
  induction i with
  | zero => rfl
  | succ i ih =>
    show (tgs k info i ++ tg k info (i + 1)).length = _
    rw [List.length_append, ih, tg_len]; omega
theorem tgs_take (k info : List UInt8) (i j n : Nat) (hn : n ≤ 32 * i) : (tgs k info (i + j)).take n = (tgs k info i).take n := by
  induction j with
  | zero => rfl
  | succ j ih =>
    show (tgs k info (i + j) ++ tg k info (i + j + 1)).take n = _
    rw [List.take_append_of_le_length (by rw [tgs_len]; omega), ih]
theorem tgs_at (k info : List UInt8) (n i : Nat) (h : i < n) : ((tgs k info n).drop (32 * i)).take 32 = tg k info (i + 1) := by
  obtain ⟨j, rfl⟩ : ∃ j, n = i + 1 + j := ⟨n - (i + 1), by omega⟩
  have h1 : ((tgs k info (i + 1 + j)).take (32 * (i + 1))).drop (32 * i) = tg k info (i + 1) := by
    rw [tgs_take k info (i + 1) j _ (Nat.le_refl _)]
    rw [tgs_succ, List.take_of_length_le (by rw [List.length_append, tgs_len, tg_len]; omega), List.drop_append_of_le_length (by rw [tgs_len]; omega), List.drop_of_length_le (by rw [tgs_len]; omega), List.nil_append]
  rw [List.drop_take, show 32 * (i + 1) - 32 * i = 32 by omega] at h1
  exact h1
/-- What is expanded: n bytes. -/
def xpn (k info : List UInt8) (n : Nat) : List UInt8 := (tgs k info ((n + 31) / 32)).take n
theorem xpn_of (k info : List UInt8) (n i : Nat) (h : n ≤ 32 * i) : (tgs k info i).take n = xpn k info n := by
  unfold xpn
  obtain ⟨j, rfl⟩ : ∃ j, i = (n + 31) / 32 + j := ⟨i - (n + 31) / 32, by omega⟩
  exact tgs_take k info _ j n (by omega)
theorem xpn_len (k info : List UInt8) (n : Nat) : (xpn k info n).length = n := by
  unfold xpn
  rw [List.length_take, tgs_len]; omega
theorem xpn_take (k info : List UInt8) (n m : Nat) (h : n ≤ m) : (xpn k info m).take n = xpn k info n := by
  unfold xpn
  rw [List.take_take, Nat.min_eq_left h]
  exact xpn_of k info n _ (by omega)
theorem xpn_whole (k info : List UInt8) (n : Nat) : xpn k info (32 * n) = tgs k info n := by
  rw [← xpn_of k info (32 * n) n (Nat.le_refl _), List.take_of_length_le (by rw [tgs_len]; exact Nat.le_refl _)]
def drv (s label : List UInt8) (n : Nat) : List UInt8 := xpn (hmac [100, 111, 118, 101, 99, 111, 116, 101] s) label n
end Go.Proofs.Hs
