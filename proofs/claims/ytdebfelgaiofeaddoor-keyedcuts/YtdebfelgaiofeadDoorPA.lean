/- The program's keyed layer: whether two texts are the same bytes. -/
import Derived.Test.YtdebfelgaiofeadDoorKB
namespace Go.Proofs.YtdebfelgaiofeadDoor
open Go.RowKit Go.Proofs.Fd

theorem pxor8 (x y : UInt8) : bits BinOp.xor IntKind.u8 (x.toNat : Int) (y.toNat : Int) = ((x ^^^ y).toNat : Int) := by
  have h1 : x.toNat < 2 ^ 8 := x.toNat_lt
  have h2 : y.toNat < 2 ^ 8 := y.toNat_lt
  have h3 : x.toNat ^^^ y.toNat < 2 ^ 8 := Nat.xor_lt_two_pow h1 h2
  rw [UInt8.toNat_xor]
  have e1 : x.toNat % 2 ^ IntKind.u8.bits = x.toNat := Nat.mod_eq_of_lt h1
  have e2 : y.toNat % 2 ^ IntKind.u8.bits = y.toNat := Nat.mod_eq_of_lt h2
  simp only [bits, BitVec.ofInt_natCast, BitVec.toNat_xor, BitVec.toNat_ofNat, e1, e2]
  rw [IntKind.wrap_u8]
  omega
theorem por8 (x y : UInt8) : bits BinOp.or IntKind.u8 (x.toNat : Int) (y.toNat : Int) = ((x ||| y).toNat : Int) := by
  have h1 : x.toNat < 2 ^ 8 := x.toNat_lt
  have h2 : y.toNat < 2 ^ 8 := y.toNat_lt
  have h3 : x.toNat ||| y.toNat < 2 ^ 8 := Nat.or_lt_two_pow h1 h2
  rw [UInt8.toNat_or]
  have e1 : x.toNat % 2 ^ IntKind.u8.bits = x.toNat := Nat.mod_eq_of_lt h1
  have e2 : y.toNat % 2 ^ IntKind.u8.bits = y.toNat := Nat.mod_eq_of_lt h2
  simp only [bits, BitVec.ofInt_natCast, BitVec.toNat_or, BitVec.toNat_ofNat, e1, e2]
  rw [IntKind.wrap_u8]
  omega

/-- What is unlike in the first bytes. -/
def unl (a b : List UInt8) : Nat → UInt8
  | 0 => 0
  | k + 1 => unl a b k ||| (a.getD k 0 ^^^ b.getD k 0)
theorem unl_zero (a b : List UInt8) (k : Nat) : unl a b k = 0 ↔ ∀ j, j < k → a.getD j 0 = b.getD j 0 := by
  induction k with
  | zero => exact ⟨fun _ j h => absurd h (Nat.not_lt_zero _), fun _ => rfl⟩
  | succ k ih =>
    show unl a b k ||| (a.getD k 0 ^^^ b.getD k 0) = 0 ↔ _
    rw [UInt8.or_eq_zero_iff, ih, UInt8.xor_eq_zero_iff]
    constructor
    · rintro ⟨h1, h2⟩ j hj
      rcases Nat.lt_or_ge j k with h | h
      · exact h1 j h
      · obtain rfl : j = k := by omega
        exact h2
    · intro h
      exact ⟨fun j hj => h j (by omega), h k (by omega)⟩
theorem unl_same (a b : ByteArray) (h : a.size = b.size) : (unl a.data.toList b.data.toList a.size = 0) ↔ a.toList = b.toList := by
  rw [unl_zero, ByteArray.toList_eq, ByteArray.toList_eq]
  have h1 : a.data.toList.length = a.size := by simp
  have h2 : b.data.toList.length = b.size := by simp
  constructor
  · intro g
    apply List.ext_getElem (by omega)
    intro i h3 h4
    have := g i (by omega)
    rw [List.getD_eq_getElem?_getD, List.getD_eq_getElem?_getD, List.getElem?_eq_getElem h3, List.getElem?_eq_getElem h4] at this
    exact this
  · intro g j _
    rw [g]

set_option maxHeartbeats 1000000 in
theorem Same_any (a b : ByteArray) (w : World) (_ : Hid (a.size ≤ 140737488355328)) (hb : Hid (b.size ≤ 140737488355328)) :
    Calls Tryd.prog 9 #[.string a, .string b] w fun e w' => e = .returned (.bool (a.toList == b.toList)) ∧ Below w.heap.size w w' := by
  by_cases hs : a.size = b.size
  · have hs' : (a.size : Int) = (b.size : Int) := by omega
    have F : Hid ((a.toList == b.toList) = decide (unl a.data.toList b.data.toList b.size = 0)) := by
      show _ = _
      have h := unl_same a b hs
      rw [hs] at h
      by_cases q : a.toList = b.toList
      · rw [decide_eq_true (h.2 q), q]; simp
      · rw [decide_eq_false (fun z => q (h.1 z)), beq_eq_false_iff_ne]; exact q
    rw [F.out]
    have HS : Hid (a.size = b.size) := hs
    clear F hs
    go_enter Tryd.func9, Tryd.ntmps9
    go_wp2
    go_loopw [5, 14] (fun u i wr => ∃ k : Nat, k ≤ b.size ∧ i = .int .i64 (k : Int) ∧ u = .int .u8 ((unl a.data.toList b.data.toList k).toNat : Int) ∧ Hid (Below w.heap.size w wr)) (fun _ i _ => b.size - (intOf i).toNat)
    case atStart => exact ⟨0, Nat.zero_le _, rfl, rfl, Below.refl _ _⟩
    case round =>
      obtain ⟨k, hk, rfl, rfl, I⟩ := hrel
      by_cases hlt : k < b.size
      · have g1 : (k : Int) < (b.size : Int) := by omega
        have g2 : (k : Int) < (a.size : Int) := by omega
        have g3 : k < a.size := by have := HS.out; omega
        have UN : Hid (unl a.data.toList b.data.toList (k + 1) = unl a.data.toList b.data.toList k ||| (a[k] ^^^ b[k])) := by
          show unl a.data.toList b.data.toList k ||| (a.data.toList.getD k 0 ^^^ b.data.toList.getD k 0) = _
          rw [List.getD_eq_getElem?_getD, List.getElem?_eq_getElem (by simpa using g3), List.getD_eq_getElem?_getD, List.getElem?_eq_getElem (by simpa using hlt)]
          rfl
        generalize unl a.data.toList b.data.toList k = u at *
        obtain ⟨c, hc⟩ : ∃ c, a[k] = c := ⟨_, rfl⟩
        obtain ⟨d, hd⟩ : ∃ d, b[k] = d := ⟨_, rfl⟩
        rw [hc, hd] at UN
        have x1 := pxor8 c d
        have gk : (k : Int) < 140737488355328 := by have := hb.out; omega
        go_wp2
        go_region
        all_goals
          go_wp2
          go_roundw
          case rel => exact ⟨k + 1, by omega, by go_num, by rw [UN.out, ← por8, UInt8.toNat_xor], I.out.drew⟩
          case measure => simp [intOf]; omega
      · obtain rfl : k = b.size := by omega
        have g1 : ¬ (b.size : Int) < (b.size : Int) := by omega
        have E : Hid ((((unl a.data.toList b.data.toList b.size).toNat : Int) == 0) = decide (unl a.data.toList b.data.toList b.size = 0)) := by
          generalize unl a.data.toList b.data.toList b.size = u
          show _ = _
          by_cases q : u = 0
          · subst q; rfl
          · rw [decide_eq_false q, beq_eq_false_iff_ne]
            intro z
            exact q (UInt8.toNat_inj.1 (by simpa using z))
        go_wp2
        go_ret
        exact ⟨by rw [E.out]; rfl, I.out⟩
  · have hs' : ¬ (a.size : Int) = (b.size : Int) := by omega
    have F : (a.toList == b.toList) = false := by
      rw [beq_eq_false_iff_ne]
      intro h
      rw [ByteArray.toList_eq, ByteArray.toList_eq] at h
      apply hs
      have := congrArg List.length h
      simpa using this
    rw [F]
    clear F hs
    go_enter Tryd.func9, Tryd.ntmps9
    go_wp2
    go_ret
    exact ⟨rfl, Below.refl _ _⟩
end Go.Proofs.YtdebfelgaiofeadDoor
