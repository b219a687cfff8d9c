/- One byte of a part turned. -/
import Derived.Test.YtdepjiocmbbdpaaDoorPtWa
import Derived.Test.YtdepjiocmbbdpaaDoorPtX
namespace Go.Proofs.Pt
open Go.Proofs.Hs
theorem tx_set (p : Pa) (h8 : p.m.1.length = 8) (h6 : p.m.2.2.length = 6) (q : Nat) (v : UInt8) : (tx p).set (16 + q) v = tx ⟨p.m, p.k, p.p.set q v⟩ := by
  unfold tx
  have e : (p.m.1 ++ [UInt8.ofNat p.k, UInt8.ofNat p.m.2.1] ++ p.m.2.2).length = 16 := by simp only [List.length_append, h8, h6, List.length_cons, List.length_nil]
  rw [List.set_append_right _ _ (by rw [e]; omega), e]
  congr 2
  omega
theorem tx_get (p : Pa) (h8 : p.m.1.length = 8) (h6 : p.m.2.2.length = 6) (q : Nat) : (tx p)[16 + q]? = p.p[q]? := by
  unfold tx
  have e : (p.m.1 ++ [UInt8.ofNat p.k, UInt8.ofNat p.m.2.1] ++ p.m.2.2).length = 16 := by simp only [List.length_append, h8, h6, List.length_cons, List.length_nil]
  rw [List.getElem?_append_right (by rw [e]; omega), e]
  congr 1
  omega
theorem tx_tlen (p : Pa) (h8 : p.m.1.length = 8) (h6 : p.m.2.2.length = 6) : (tx p).length = 16 + p.p.length := by
  unfold tx; simp only [List.length_append, h8, h6, List.length_cons, List.length_nil]
theorem pc_get (b : Bs) (K : Nat) : (pc b (K / 200))[K % 200]? = b[K]? := by
  unfold pc
  rw [List.getElem?_take, if_pos (by omega), List.getElem?_drop]
  congr 1; omega
theorem cnt_div (b : Bs) (K : Nat) (hK : K < b.length) : K / 200 < cnt b.length := by unfold cnt; omega
/-- The parts with one byte of the body turned. -/
def tcut (i b : Bs) (K : Nat) (v : UInt8) : List Bs := (List.range (cnt b.length)).map fun k => tx ⟨mkOf i b, k, pc (b.set K v) k⟩
theorem tcut_eq (i b : Bs) (hi : i.length = 8) (K : Nat) (v : UInt8) : (cut i b).set (K / 200) ((tx (tpart i b (K / 200))).set (16 + K % 200) v) = tcut i b K v := by
  rw [tx_set _ hi (dg6_len i b)]
  unfold cut tcut
  apply List.ext_getElem
  · simp
  · intro j h1 h2
    rw [List.getElem_set]
    have hj : j < cnt b.length := by simpa using h2
    by_cases e : K / 200 = j
    · rw [if_pos e]
      simp only [List.getElem_map, List.getElem_range, pc_turn]
      rw [if_pos e.symm, ← e]
      rfl
    · rw [if_neg e]
      simp only [List.getElem_map, List.getElem_range, pc_turn]
      rw [if_neg (Ne.symm e)]
      rfl
theorem tcut_get (i b : Bs) (K : Nat) (v : UInt8) (k : Nat) (hk : k < cnt b.length) : (tcut i b K v)[k]? = some (tx ⟨mkOf i b, k, pc (b.set K v) k⟩) := by unfold tcut; rw [List.getElem?_map, List.getElem?_range hk]; rfl
theorem pc_turn_all (b : Bs) (K : Nat) (v : UInt8) : (((List.range (cnt b.length)).map (pc (b.set K v))).flatten) = b.set K v := by
  have := pc_all (b.set K v)
  rw [List.length_set] at this
  exact this
end Go.Proofs.Pt
namespace Go.Proofs.YtdepjiocmbbdpaaDoor
open Go.RowKit Go.Proofs.Fd Go.Proofs.Pt
set_option maxRecDepth 20000
theorem txor8 (a b : UInt8) : bits .xor .u8 (a.toNat : Int) (b.toNat : Int) = ((a ^^^ b).toNat : Int) := by
  have h1 : a.toNat < 2 ^ 8 := a.toNat_lt
  have h2 : b.toNat < 2 ^ 8 := b.toNat_lt
  have h3 : a.toNat ^^^ b.toNat < 2 ^ 8 := Nat.xor_lt_two_pow h1 h2
  rw [UInt8.toNat_xor]
  have e1 : a.toNat % 2 ^ IntKind.u8.bits = a.toNat := Nat.mod_eq_of_lt h1
  have e2 : b.toNat % 2 ^ IntKind.u8.bits = b.toNat := Nat.mod_eq_of_lt h2
  simp only [bits, BitVec.ofInt_natCast, BitVec.toNat_xor, BitVec.toNat_ofNat, e1, e2]
  rw [IntKind.wrap_u8]
  omega
theorem bs_toList (s : ByteArray) : (s.toList == []) = decide (s.size = 0) := by
  rw [ByteArray.toList_eq s]
  by_cases h : s.size = 0
  · rw [decide_eq_true h]
    have : s.data.toList.length = 0 := by simpa using h
    rw [List.length_eq_zero_iff.1 this]; rfl
  · rw [decide_eq_false h, beq_eq_false_iff_ne]
    intro z
    exact h (by have := congrArg List.length z; simpa using this)
theorem st_beq (x y : Bs) (h : x ≠ y) : ((st x).toList == (st y).toList) = false := by
  rw [beq_eq_false_iff_ne, ByteArray.toList_eq, ByteArray.toList_eq]
  exact h
/-- Before the k-th part comes. -/
structure Tu (w : World) (b : Bs) (K : Nat) (v : UInt8) (u G B n : Nat) (W : World) : Prop where
  k : Kh W
  g : Blk W G (scl (tcut i0 b K v))
  j : JW u (fun g => False ∨ g = B) W u (tst 2 2 (mkOf i0 b) (pc (b.set K v)) n)
  d : Below w.heap.size w W
  u : u ≤ W.heap.size
  b : B < W.heap.size
theorem Tu.take {w : World} {b : Bs} {K : Nat} {v : UInt8} {u G B k : Nat} {W : World} (hb : b.length ≤ 2048) (hk : k < cnt b.length) (hG : G < u) (hu : w.heap.size ≤ u) (hK : 0 < w.heap.size) (h : Tu w b K v u G B k W) :
    Calls Tryd.prog 15 #[.pointer (some ⟨u, 0, none⟩), .string (st (tx ⟨mkOf i0 b, k, pc (b.set K v) k⟩))] W fun e w' => e = .returned (if k + 1 < cnt b.length then ansV none 0 else if mkOf i0 b = mkOf i0 (b.set K v) then ansV (some (i0, b.set K v)) 0 else ansV none 220) ∧ (k + 1 < cnt b.length → Tu w b K v u G B (k + 1) w') ∧ Below w.heap.size w w' := by
  obtain ⟨q1, q2, q3, q4, q5⟩ := tst_ok 2 2 (Nat.le_refl _) (Nat.le_refl _) (mkOf i0 b) (pc (b.set K v)) k hk
  have A := all_turn i0 b (b.set K v) rfl hb List.length_set
  have T := tst_take 2 2 (by decide) (mkOf i0 b) (pc (b.set K v)) A k hk
  have F : ((List.range (mkOf i0 b).2.1).map (pc (b.set K v))).flatten = b.set K v := pc_turn_all b K v
  rw [F] at T
  have hs : (tx ⟨mkOf i0 b, k, pc (b.set K v) k⟩).length ≤ 140737488000000 := by
    rw [tx_tlen _ rfl (dg6_len i0 b)]
    have : (pc (b.set K v) k).length ≤ 200 := by unfold pc; rw [List.length_take]; omega
    show 16 + (pc (b.set K v) k).length ≤ _
    omega
  refine (takeJ_any u (fun g => False ∨ g = B) u _ _ hs q3 (fun _ _ _ => by rw [q1]; exact q4) (by rw [q2]; exact q5) (by rw [q1]; decide) (by rw [q2]; decide) W h.k (Nat.lt_of_lt_of_le hK hu) (fun g z => by
    rcases z with z | z
    · exact z.elim
    · rw [z]; exact h.b) h.u h.j).mono ?_
  rintro e w' ⟨rfl, j', bf, k'⟩
  rw [T] at j' ⊢
  have D : Below w.heap.size w w' := h.d.trans (bf.below (fun g z => Nat.le_trans hu z.1) h.d.size)
  refine ⟨?_, fun hk1 => ?_, D⟩
  · by_cases z : k + 1 < cnt b.length
    · have z' : k + 1 < (mkOf i0 b).2.1 := z
      rw [if_pos z, if_pos z']
    · have z' : ¬ k + 1 < (mkOf i0 b).2.1 := z
      rw [if_neg z, if_neg z']
      by_cases m : mkOf i0 b = mkOf i0 (b.set K v)
      · have m' : mkOf i0 b = mkOf (mkOf i0 b).1 (b.set K v) := m
        rw [if_pos m, if_pos m']; rfl
      · have m' : ¬ mkOf i0 b = mkOf (mkOf i0 b).1 (b.set K v) := m
        rw [if_neg m, if_neg m']
  · have z' : k + 1 < (mkOf i0 b).2.1 := hk1
    rw [if_pos z'] at j'
    exact ⟨k', h.g.bf bf (fun z => by omega), j', D, Nat.le_trans h.u bf.size, Nat.lt_of_lt_of_le h.b bf.size⟩
end Go.Proofs.YtdepjiocmbbdpaaDoor
