/- Parts of messages, and a joiner, as pure functions. -/
import Derived.Test.YtdepjiocmbbdpaaDoorKM
namespace Go.Proofs.Pt
open Go.Proofs.Hs

abbrev Bs := List UInt8
/-- What all parts of a message have alike: id, count, digest. -/
abbrev Mk := Bs × Nat × Bs
structure Pa where
  m : Mk
  k : Nat
  p : Bs
structure Ms where
  m : Mk
  ps : List Bs
  mi : Nat
structure Jn where
  mo : Nat
  no : Nat
  S : List Ms
  D : List Bs

def cnt (n : Nat) : Nat := max 1 ((n + 199) / 200)
def dg6 (i b : Bs) : Bs := (sha (i ++ b)).take 6
def mkOf (i b : Bs) : Mk := (i, cnt b.length, dg6 i b)
def pc (b : Bs) (k : Nat) : Bs := (b.drop (200 * k)).take 200
def tx (p : Pa) : Bs := p.m.1 ++ [UInt8.ofNat p.k, UInt8.ofNat p.m.2.1] ++ p.m.2.2 ++ p.p
def tpart (i b : Bs) (k : Nat) : Pa := ⟨mkOf i b, k, pc b k⟩
def cut (i b : Bs) : List Bs := (List.range (cnt b.length)).map fun k => tx (tpart i b k)
abbrev May (p : Pa) : Prop := p.m.2.1 ≤ 11 ∧ p.k < p.m.2.1 ∧ (if p.k + 1 < p.m.2.1 then p.p.length = 200 else cnt (200 * p.k + p.p.length) = p.m.2.1 ∧ 200 * p.k + p.p.length ≤ 2048)
def raw (s : Bs) : Pa := ⟨(s.take 8, (s.getD 9 0).toNat, (s.drop 10).take 6), (s.getD 8 0).toNat, s.drop 16⟩
def rd (s : Bs) : Option Pa := if s.length < 16 then none else if May (raw s) then some (raw s) else none
def beg (m : Mk) : Ms := ⟨m, List.replicate m.2.1 [], m.2.1⟩
def Ms.put (x : Ms) (p : Pa) : Ms := ⟨x.m, x.ps.set p.k p.p, x.mi - 1⟩
def Ms.code (x : Ms) (p : Pa) : Nat := if x.m ≠ p.m then 220 else if x.ps.getD p.k [] ≠ [] then 6 else 0
def Ms.take (x : Ms) (p : Pa) : Ms := if x.code p = 0 then x.put p else x
def push {α : Type} (mo : Nat) (l : List α) (x : α) : List α := (if l.length = mo then l.drop 1 else l) ++ [x]
def at_ (S : List Ms) (i : Bs) : Option Nat := S.findIdx? fun x => decide (x.m.1 = i)
def dflt : Ms := ⟨([], 0, []), [], 0⟩
/-- Where the message of a part stands, with those that wait then. -/
def Jn.keep (J : Jn) (p : Pa) : List Ms × Nat :=
  match at_ J.S p.m.1 with
  | some k => (J.S, k)
  | none => (push J.mo J.S (beg p.m), (push J.mo J.S (beg p.m)).length - 1)
/-- A message's end: told, or refused. -/
def Jn.fin (J : Jn) (S : List Ms) (k : Nat) (x : Ms) : Option (Bs × Bs) × Nat × Jn :=
  if x.m = mkOf x.m.1 x.ps.flatten then (some (x.m.1, x.ps.flatten), 0, ⟨J.mo, J.no, S.eraseIdx k, push J.no J.D x.m.1⟩)
  else (none, 220, ⟨J.mo, J.no, S.eraseIdx k, J.D⟩)
def Jn.at (J : Jn) (p : Pa) (S : List Ms) (k : Nat) (x : Ms) : Option (Bs × Bs) × Nat × Jn :=
  if x.code p ≠ 0 ∨ 0 < (x.take p).mi then (none, x.code p, ⟨J.mo, J.no, S.set k (x.take p), J.D⟩)
  else J.fin (S.set k (x.take p)) k (x.take p)
def Jn.take (J : Jn) (s : Bs) : Option (Bs × Bs) × Nat × Jn :=
  match rd s with
  | none => (none, 220, J)
  | some p => if p.m.1 ∈ J.D then (none, 6, J) else J.at p (J.keep p).1 (J.keep p).2 ((J.keep p).1.getD (J.keep p).2 dflt)
def new (mo no : Nat) : Jn := ⟨mo, no, [], []⟩

theorem cnt_pos (n : Nat) : 1 ≤ cnt n := Nat.le_max_left _ _
theorem cnt_le (n : Nat) (h : n ≤ 2048) : cnt n ≤ 11 := by unfold cnt; omega
theorem pc_last (b : Bs) (k : Nat) (h : k + 1 = cnt b.length) : 200 * k + (pc b k).length = b.length := by
  unfold pc cnt at *; rw [List.length_take, List.length_drop]; omega
theorem pc_full (b : Bs) (k : Nat) (h : k + 1 < cnt b.length) : (pc b k).length = 200 := by
  unfold pc cnt at *; rw [List.length_take, List.length_drop]; omega
theorem pc_le (b : Bs) (k : Nat) : (pc b k).length ≤ 200 := by unfold pc; rw [List.length_take]; exact Nat.min_le_left _ _
theorem sha_len (l : Bs) : (sha l).length = 32 := by simp [sha, Mach.fin, V8.out, w4]
theorem dg6_len (i b : Bs) : (dg6 i b).length = 6 := by unfold dg6; rw [List.length_take, sha_len]; rfl
/-- A part's text is read as the part. -/
theorem rd_tx (p : Pa) (h8 : p.m.1.length = 8) (h6 : p.m.2.2.length = 6) (hm : May p) : rd (tx p) = some p := by
  obtain ⟨⟨i, n, d⟩, k, q⟩ := p
  obtain ⟨a0, a1, a2, a3, a4, a5, a6, a7, rfl⟩ : ∃ a0 a1 a2 a3 a4 a5 a6 a7, i = [a0, a1, a2, a3, a4, a5, a6, a7] := by
    match i, h8 with
    | [a0, a1, a2, a3, a4, a5, a6, a7], _ => exact ⟨_, _, _, _, _, _, _, _, rfl⟩
  obtain ⟨b0, b1, b2, b3, b4, b5, rfl⟩ : ∃ b0 b1 b2 b3 b4 b5, d = [b0, b1, b2, b3, b4, b5] := by
    match d, h6 with
    | [b0, b1, b2, b3, b4, b5], _ => exact ⟨_, _, _, _, _, _, rfl⟩
  have hn : n ≤ 11 ∧ k < n := ⟨hm.1, hm.2.1⟩
  have e : raw (tx ⟨([a0, a1, a2, a3, a4, a5, a6, a7], n, [b0, b1, b2, b3, b4, b5]), k, q⟩) = ⟨([a0, a1, a2, a3, a4, a5, a6, a7], n, [b0, b1, b2, b3, b4, b5]), k, q⟩ := by
    simp only [raw, tx, List.cons_append, List.nil_append, List.take_succ_cons, List.take_zero, List.getD_cons_succ, List.getD_cons_zero, List.drop_succ_cons, List.drop_zero, UInt8.toNat_ofNat']
    rw [Nat.mod_eq_of_lt (show n < 2 ^ 8 by omega), Nat.mod_eq_of_lt (show k < 2 ^ 8 by omega)]
  unfold rd
  rw [e, if_neg (by simp only [tx, List.cons_append, List.nil_append, List.length_cons]; omega), if_pos hm]
theorem part_may (i b : Bs) (hb : b.length ≤ 2048) (k : Nat) (hk : k < cnt b.length) : May (tpart i b k) := by
  refine ⟨cnt_le _ hb, hk, ?_⟩
  show (if k + 1 < cnt b.length then (pc b k).length = 200 else cnt (200 * k + (pc b k).length) = cnt b.length ∧ _)
  split
  · exact pc_full b k (by assumption)
  · have e := pc_last b k (by omega)
    exact ⟨by rw [e], by show 200 * k + (pc b k).length ≤ 2048; omega⟩
theorem rd_part (i b : Bs) (hi : i.length = 8) (hb : b.length ≤ 2048) (k : Nat) (hk : k < cnt b.length) : rd (tx (tpart i b k)) = some (tpart i b k) :=
  rd_tx _ hi (dg6_len i b) (part_may i b hb k hk)
/-- All pieces are the body. -/
theorem pc_flat (b : Bs) : ∀ n, (((List.range n).map fun k => pc b k).flatten) = b.take (200 * n)
  | 0 => by simp
  | n + 1 => by
    rw [List.range_succ, List.map_append, List.flatten_append, pc_flat b n, List.map_singleton, List.flatten_cons, List.flatten_nil, List.append_nil]
    unfold pc
    rw [Nat.mul_succ, List.take_add]
theorem pc_all (b : Bs) : (((List.range (cnt b.length)).map fun k => pc b k).flatten) = b := by
  rw [pc_flat, List.take_of_length_le]
  unfold cnt; omega
end Go.Proofs.Pt
