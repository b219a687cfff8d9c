/- The program's wide layer: two texts, byte by byte; whether all bytes are 0. -/
import Derived.Test.YtbkefhfbbhdpcaaDoorGS
import Derived.Test.YtbkefhfbbhdpcaaDoorGP
import Derived.Test.YtbkefhfbbhdpcaaDoorGW
namespace Go.Proofs.YtbkefhfbbhdpcaaDoor
open Go.RowKit Go.Proofs.Fd Go.Proofs.Hs Go.Proofs.Cc Go.Proofs.Wd

set_option maxHeartbeats 1000000 in
theorem xored_any (a b : ByteArray) (hs : a.size ≤ 140737488355328) (hab : a.size ≤ b.size) (w : World) :
    Calls Tryd.prog 38 #[.string a, .string b] w fun e w' => e = .returned (.string ⟨(xorl a.data.toList b.data.toList).toArray⟩) ∧ Below w.heap.size w w' := by
  obtain ⟨cap, A, CA, BA, bA, hcap, CB, sA⟩ := bytes_of2 a hs w
  have IA : Hid (BytesAt A w.heap.size (mixd a.data.toList b.data.toList 0) ∧ Below w.heap.size w A) := by
    rw [mixd_zero]; exact ⟨BA, bA⟩
  have HL : Hid (a.data.toList.length ≤ b.data.toList.length ∧ a.data.toList.length = a.size) := ⟨by simpa using hab, by simp⟩
  clear BA bA sA
  go_enter Tryd.func38, Tryd.ntmps38
  go_wp2
  obtain ⟨g, hg⟩ : ∃ g, w.heap.size = g := ⟨_, rfl⟩
  rw [hg] at IA CA ⊢
  have HG : Hid (w.heap.size = g) := hg
  clear hg
  go_loopw [11] (fun iv wr => ∃ q : Nat, q ≤ a.size ∧ iv = .int .i64 (q : Int) ∧ Hid (BytesAt wr g (mixd a.data.toList b.data.toList q) ∧ Below g w wr)) (fun iv _ => a.size - (intOf iv).toNat)
  case atStart => exact ⟨0, Nat.zero_le _, rfl, IA.out⟩
  case round =>
    obtain ⟨q, hq, rfl, I⟩ := hrel
    clear IA CA
    by_cases hlt : q < a.size
    · have g1 : (q : Int) < (a.size : Int) := by omega
      have g2 : (q : Int) < (b.size : Int) := by omega
      have g3 : q < b.size := by omega
      have g4 : q < cap := by omega
      have oT : q < a.data.toList.length := by rw [HL.out.2]; exact hlt
      have lT := mixd_len a.data.toList b.data.toList q HL.out.1 (by omega)
      obtain ⟨cx, fx⟩ := I.out.1 q (by rw [lT]; exact oT)
      have ex : (mixd a.data.toList b.data.toList q)[q]'(by rw [lT]; exact oT) = a.data.toList[q] := by
        have := mixd_get a.data.toList b.data.toList q HL.out.1 oT
        rw [List.getElem?_eq_getElem (by rw [lT]; exact oT)] at this
        exact Option.some.inj this
      rw [ex] at cx
      have MS : Hid (_ = _) := mixd_succ a.data.toList b.data.toList q HL.out.1 oT b[q] (by rw [List.getElem?_eq_getElem (by simpa using g3)]; rfl)
      clear ex
      generalize a.data.toList[q] = x at *
      obtain ⟨y, hy⟩ : ∃ y, b[q] = y := ⟨_, rfl⟩
      rw [hy] at MS
      clear lT oT
      have XY := sxor8 x y
      have NX : Hid (BytesAt ((wr.setCell ⟨g, q, none⟩ (.int .u8 ((x.toNat ^^^ y.toNat : Nat) : Int))).drew) g (mixd a.data.toList b.data.toList (q + 1)) ∧ Below g w ((wr.setCell ⟨g, q, none⟩ (.int .u8 ((x.toNat ^^^ y.toNat : Nat) : Int))).drew)) := by
        obtain ⟨h2, h4⟩ := I.out
        rw [← MS.out]
        exact ⟨h2.set q (x ^^^ y) _ (by rw [UInt8.toNat_xor]), (h4.setCell (p := ⟨g, q, none⟩) (Nat.le_refl _) _).drew⟩
      clear MS I
      go_wp2
      go_region
      all_goals
        go_wp2
        go_roundw
        case rel => exact ⟨q + 1, by omega, by go_num, NX.out⟩
        case measure => simp [intOf]; omega
    · obtain rfl : q = a.size := by omega
      have g1 : ¬ (a.size : Int) < (a.size : Int) := by omega
      have CV : (convert 30 9 (.slice (some ⟨g, 0, none⟩) a.size cap)).run Tryd.prog wr = .ok (.string ⟨(xorl a.data.toList b.data.toList).toArray⟩) wr := by
        have h := I.out.1
        rw [← HL.out.2, mixd_all _ _ HL.out.1] at h
        exact h.string (by rw [xorl_len _ _ HL.out.1]; exact HL.out.2)
      have BF : Hid (Below g w wr) := I.out.2
      clear I
      obtain ⟨R, hR⟩ : ∃ R : ByteArray, ⟨(xorl a.data.toList b.data.toList).toArray⟩ = R := ⟨_, rfl⟩
      rw [hR] at CV
      have HR : Hid (_ = _) := hR
      clear hR
      go_wp2
      go_ret
      exact ⟨by rw [HR.out]; rfl, by have h := BF.out; rw [← HG.out] at h; exact h⟩

set_option maxHeartbeats 1000000 in
theorem blank_any (s : ByteArray) (hs : s.size ≤ 140737488355328) (w : World) :
    Calls Tryd.prog 26 #[.string s] w fun e w' => e = .returned (.bool (s.data.toList.all (· == 0))) ∧ w' = w := by
  have F : Hid (s.data.toList.all (· == 0) = decide (unl s.data.toList [] s.size = 0)) := by
    show _ = _
    have h1 : s.data.toList.length = s.size := by simp
    have h := all_zero s.data.toList
    rw [h1] at h
    have u := unl_zero s.data.toList [] s.size
    by_cases q : unl s.data.toList [] s.size = 0
    · rw [decide_eq_true q]
      exact h.2 fun j hj => by simpa using (u.1 q) j hj
    · rw [decide_eq_false q, Bool.eq_false_iff]
      exact fun z => q (u.2 fun j hj => by simpa using h.1 z j hj)
  rw [F.out]
  clear F
  go_enter Tryd.func26, Tryd.ntmps26
  go_wp2
  go_loopw [3, 7] (fun av iv wr => ∃ k : Nat, k ≤ s.size ∧ iv = .int .i64 (k : Int) ∧ av = .int .u8 ((unl s.data.toList [] k).toNat : Int) ∧ Hid (wr = w)) (fun _ iv _ => s.size - (intOf iv).toNat)
  case atStart => exact ⟨0, Nat.zero_le _, rfl, rfl, rfl⟩
  case round =>
    obtain ⟨k, hk, rfl, rfl, I⟩ := hrel
    by_cases hlt : k < s.size
    · have g1 : (k : Int) < (s.size : Int) := by omega
      have UN : Hid (unl s.data.toList [] (k + 1) = unl s.data.toList [] k ||| s[k]) := by
        show unl s.data.toList [] k ||| (s.data.toList.getD k 0 ^^^ ([] : List UInt8).getD k 0) = _
        rw [List.getD_eq_getElem?_getD, List.getElem?_eq_getElem (by simpa using hlt)]
        simp
        rfl
      generalize unl s.data.toList [] k = u at *
      obtain ⟨c, hc⟩ : ∃ c, s[k] = c := ⟨_, rfl⟩
      rw [hc] at UN
      have gk : (k : Int) < 140737488355328 := by omega
      go_wp2
      go_roundw
      case rel => exact ⟨k + 1, by omega, by go_num, by rw [UN.out, ← por8], I.out⟩
      case measure => simp [intOf]; omega
    · obtain rfl : k = s.size := by omega
      have g1 : ¬ (s.size : Int) < (s.size : Int) := by omega
      have E : Hid ((((unl s.data.toList [] s.size).toNat : Int) == 0) = decide (unl s.data.toList [] s.size = 0)) := by
        generalize unl s.data.toList [] s.size = u
        show _ = _
        by_cases q : u = 0
        · subst q; rfl
        · rw [decide_eq_false q, beq_eq_false_iff_ne]
          intro z
          exact q (UInt8.toNat_inj.1 (by simpa using z))
      go_wp2
      go_ret
      exact ⟨by rw [E.out]; rfl, I.out⟩
end Go.Proofs.YtbkefhfbbhdpcaaDoor
