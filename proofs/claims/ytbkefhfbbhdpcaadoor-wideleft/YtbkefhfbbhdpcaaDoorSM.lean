/- ChaCha20's blocks and streams: pure. -/
import Derived.Test.YtbkefhfbbhdpcaaDoorKM
namespace Go.Proofs.Cc
open Go.Proofs.Hs (trn)

/-- A word turned to the left. -/
def lft (x : UInt32) (n : Nat) : UInt32 := trn x (32 - n)
/-- Half a quarter round. -/
def hq (n m : Nat) (w : List UInt32) (a b c d : Nat) : List UInt32 :=
  let w1 := w.set a (w.getD a 0 + w.getD b 0)
  let w2 := w1.set d (lft (w1.getD d 0 ^^^ w1.getD a 0) n)
  let w3 := w2.set c (w2.getD c 0 + w2.getD d 0)
  w3.set b (lft (w3.getD b 0 ^^^ w3.getD c 0) m)
def qr (w : List UInt32) (a b c d : Nat) : List UInt32 := hq 8 7 (hq 16 12 w a b c d) a b c d
theorem hq_len (n m : Nat) (w : List UInt32) (a b c d : Nat) : (hq n m w a b c d).length = w.length := by simp [hq]
theorem qr_len (w : List UInt32) (a b c d : Nat) : (qr w a b c d).length = w.length := by simp [qr, hq_len]
def cols (w : List UInt32) : Nat → List UInt32
  | 0 => w
  | k + 1 => qr (cols w k) k (4 + k) (8 + k) (12 + k)
def dias (w : List UInt32) : Nat → List UInt32
  | 0 => w
  | k + 1 => qr (dias w k) k (4 + (k + 1) % 4) (8 + (k + 2) % 4) (12 + (k + 3) % 4)
theorem cols_len (w : List UInt32) (k : Nat) : (cols w k).length = w.length := by
  induction k with
  | zero => rfl
  | succ k ih => rw [cols, qr_len, ih]
theorem dias_len (w : List UInt32) (k : Nat) : (dias w k).length = w.length := by
  induction k with
  | zero => rfl
  | succ k ih => rw [dias, qr_len, ih]
def rounds (w : List UInt32) : Nat → List UInt32
  | 0 => w
  | i + 1 => dias (cols (rounds w i) 4) 4
theorem rounds_len (w : List UInt32) (i : Nat) : (rounds w i).length = w.length := by
  induction i with
  | zero => rfl
  | succ i ih => rw [rounds, dias_len, cols_len, ih]

/-- A word's four bytes, and four bytes' word. -/
def le4 (x : UInt32) : List UInt8 := [UInt8.ofNat x.toNat, UInt8.ofNat (x.toNat / 256), UInt8.ofNat (x.toNat / 65536), UInt8.ofNat (x.toNat / 16777216)]
def rdw (l : List UInt8) (i : Nat) : UInt32 := UInt32.ofNat ((l.getD (4 * i) 0).toNat + (l.getD (4 * i + 1) 0).toNat * 256 + (l.getD (4 * i + 2) 0).toNat * 65536 + (l.getD (4 * i + 3) 0).toNat * 16777216)
def rd (l : List UInt8) (n : Nat) : List UInt32 := (List.range n).map (rdw l)
theorem rd_len (l : List UInt8) (n : Nat) : (rd l n).length = n := by simp [rd]
theorem rd_succ (l : List UInt8) (n : Nat) : rd l (n + 1) = rd l n ++ [rdw l n] := by simp [rd, List.range_succ]
/-- The words at first. -/
def fstw (k n : List UInt8) (c : UInt32) : List UInt32 := [1634760805, 857760878, 2036477234, 1797285236] ++ rd k 8 ++ [c] ++ rd n 3
theorem fstw_len (k n : List UInt8) (c : UInt32) : (fstw k n c).length = 16 := by simp [fstw, rd_len]
def outw (k n : List UInt8) (c : UInt32) (i : Nat) : UInt32 := (rounds (fstw k n c) 10).getD i 0 + (fstw k n c).getD i 0
/-- A block's bytes, of its first words, and all of it. -/
def blkn (k n : List UInt8) (c : UInt32) (i : Nat) : List UInt8 := (List.range i).flatMap fun j => le4 (outw k n c j)
def blk (k n : List UInt8) (c : UInt32) : List UInt8 := blkn k n c 16
theorem blkn_succ (k n : List UInt8) (c : UInt32) (i : Nat) : blkn k n c (i + 1) = blkn k n c i ++ le4 (outw k n c i) := by simp [blkn, List.range_succ]
theorem blkn_len (k n : List UInt8) (c : UInt32) (i : Nat) : (blkn k n c i).length = 4 * i := by
  induction i with
  | zero => rfl
  | succ i ih => rw [blkn_succ, List.length_append, ih]; simp [le4]; omega
theorem blk_len (k n : List UInt8) (c : UInt32) : (blk k n c).length = 64 := blkn_len k n c 16

/-- The stream's bytes from a counter on. -/
def blks (k n : List UInt8) (c : UInt32) : Nat → List UInt8
  | 0 => []
  | i + 1 => blks k n c i ++ blk k n (c + UInt32.ofNat i)
theorem blks_succ (k n : List UInt8) (c : UInt32) (i : Nat) : blks k n c (i + 1) = blks k n c i ++ blk k n (c + UInt32.ofNat i) := rfl
theorem blks_len (k n : List UInt8) (c : UInt32) (i : Nat) : (blks k n c i).length = 64 * i := by
  induction i with
  | zero => rfl
  | succ i ih => rw [blks_succ, List.length_append, ih, blk_len]; omega
theorem blks_take (k n : List UInt8) (c : UInt32) (i j m : Nat) (h : m ≤ 64 * i) : (blks k n c (i + j)).take m = (blks k n c i).take m := by
  induction j with
  | zero => rfl
  | succ j ih =>
    rw [← Nat.add_assoc, blks_succ, List.take_append_of_le_length (by rw [blks_len]; omega), ih]
def strm (k n : List UInt8) (c : UInt32) (m : Nat) : List UInt8 := (blks k n c ((m + 63) / 64)).take m
theorem strm_of (k n : List UInt8) (c : UInt32) (m i : Nat) (h : m ≤ 64 * i) : (blks k n c i).take m = strm k n c m := by
  unfold strm
  obtain ⟨j, rfl⟩ : ∃ j, i = (m + 63) / 64 + j := ⟨i - (m + 63) / 64, by omega⟩
  exact blks_take k n c _ j m (by omega)
theorem strm_len (k n : List UInt8) (c : UInt32) (m : Nat) : (strm k n c m).length = m := by
  unfold strm; rw [List.length_take, blks_len]; omega
theorem blks_add (k n : List UInt8) (c : UInt32) (i j : Nat) : blks k n c (i + j) = blks k n c i ++ blks k n (c + UInt32.ofNat i) j := by
  induction j with
  | zero => simp [blks]
  | succ j ih =>
    rw [← Nat.add_assoc, blks_succ, ih, blks_succ, List.append_assoc]
    congr 3
    rw [UInt32.add_assoc]
    congr 1
    apply UInt32.toNat_inj.1
    rw [UInt32.toNat_add, UInt32.toNat_ofNat', UInt32.toNat_ofNat', UInt32.toNat_ofNat']
    omega
/-- Two texts, byte by byte xor. -/
def xorl (a b : List UInt8) : List UInt8 := List.zipWith (fun x y => x ^^^ y) a b
theorem xorl_len (a b : List UInt8) (h : a.length ≤ b.length) : (xorl a b).length = a.length := by simp [xorl]; omega
theorem xorl_twice (a b : List UInt8) (h : a.length ≤ b.length) : xorl (xorl a b) b = a := by
  apply List.ext_getElem (by simp [xorl]; omega)
  intro i h1 h2
  simp only [xorl, List.getElem_zipWith]
  rw [UInt8.xor_assoc, UInt8.xor_self, UInt8.xor_zero]
theorem xorl_zeros (b : List UInt8) : xorl (List.replicate b.length 0) b = b := by
  apply List.ext_getElem (by simp [xorl])
  intro i h1 h2
  simp [xorl]
theorem ex_block : (blk [0, 1, 2, 3, 4, 5, 6, 7, 8, 9, 10, 11, 12, 13, 14, 15, 16, 17, 18, 19, 20, 21, 22, 23, 24, 25, 26, 27, 28, 29, 30, 31] [0, 0, 0, 9, 0, 0, 0, 74, 0, 0, 0, 0] 1).take 4 = [16, 241, 231, 228] := by decide +kernel
end Go.Proofs.Cc
