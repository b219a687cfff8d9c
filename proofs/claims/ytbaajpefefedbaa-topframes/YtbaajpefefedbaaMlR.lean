/- The document's small functions. -/
import Derived.Test.YtbaajpefefedbaaMlP
namespace Go.Proofs.Ytbaajpefefedbaa
open Go.RowKit Go.Proofs.Fd Go.Proofs.Ml
set_option maxRecDepth 20000

set_option maxHeartbeats 1000000 in
theorem rlong_any (k : Int) (w : World) :
    Calls Try.prog 14 #[.int .i64 k] w fun e w' => e = .returned (.int .i64 (long k)) ∧ w' = w := by
  by_cases h1 : k = 1
  · subst h1
    go_enter Try.func14, Try.ntmps14
    go_wp2
    go_ret
    exact ⟨rfl, rfl⟩
  by_cases h2 : k = 2
  · subst h2
    go_enter Try.func14, Try.ntmps14
    go_wp2
    go_ret
    exact ⟨rfl, rfl⟩
  by_cases h3 : k = 3
  · subst h3
    go_enter Try.func14, Try.ntmps14
    go_wp2
    go_ret
    exact ⟨rfl, rfl⟩
  by_cases h4 : k = 4
  · subst h4
    go_enter Try.func14, Try.ntmps14
    go_wp2
    go_ret
    exact ⟨rfl, rfl⟩
  have e : long k = 0 := by unfold long; rw [if_neg h1, if_neg h2, if_neg h3, if_neg h4]
  rw [e]
  go_enter Try.func14, Try.ntmps14
  go_wp2
  go_ret
  exact ⟨rfl, rfl⟩
set_option maxHeartbeats 1000000 in
theorem rid_any (s : ByteArray) (w : World) :
    Calls Try.prog 44 #[.string s] w fun e w' => e = .returned (.bool (idB s)) ∧ Below w.heap.size w w' := by
  by_cases h : s.size = 16
  · rw [idB_16 h]
    have g1 : (s.size : Int) = 16 := by omega
    obtain ⟨W, CM, BW, bW, -⟩ := make_n 16 (by decide) w
    obtain ⟨Z, hZ⟩ : ∃ Z, mk (zr 16) = Z := ⟨_, rfl⟩
    have CV := BW.string (cap := 16) (n := 16) (by simp)
    rw [show (⟨(List.replicate 16 (0 : UInt8)).toArray⟩ : ByteArray) = Z from hZ] at CV
    have CM : (Instr.makeSlice 59 (.int .i64 16) (.int .i64 16)).run Try.prog w = .ok (.slice (some ⟨w.heap.size, 0, none⟩) 16 16) W := CM
    have g2 : (s.toList == Z.toList) = decide (by' s = zr 16) := by
      rw [toList_by, toList_by, ← hZ, by_mk]
      by_cases h2 : by' s = zr 16
      · rw [decide_eq_true h2, h2]; simp
      · rw [decide_eq_false h2, beq_eq_false_iff_ne]; exact h2
    obtain ⟨d, hd⟩ : ∃ d, decide (by' s = zr 16) = d := ⟨_, rfl⟩
    rw [hd] at g2 ⊢
    have B1 : Hid (Below w.heap.size w W) := bW
    clear hd hZ bW BW
    go_enter Try.func44, Try.ntmps44
    go_wp2
    go_ret
    exact ⟨rfl, B1.out⟩
  · rw [idB_false h]
    have g1 : ¬ (s.size : Int) = 16 := by omega
    go_enter Try.func44, Try.ntmps44
    go_wp2
    go_ret
    exact ⟨rfl, Below.refl _ _⟩
set_option maxHeartbeats 1000000 in
theorem rshown_any (s : ByteArray) (w : World) :
    Calls Try.prog 35 #[.string s] w fun e w' => e = .returned (.string (if idB s = true then s else e0)) ∧ Below w.heap.size w w' := by
  have ID := rid_any s
  obtain ⟨d, hd⟩ : ∃ d, idB s = d := ⟨_, rfl⟩
  rw [hd] at ID ⊢
  clear hd
  go_enter Try.func35, Try.ntmps35
  go_wp2_with fail
  refine Calls.mono (ID _) ?_
  rintro e w1 ⟨rfl, hb1⟩
  have B1 : Hid (Below w.heap.size w w1) := hb1
  clear hb1 ID
  cases d with
  | false =>
    go_wp2
    go_ret
    exact ⟨rfl, B1.out⟩
  | true =>
    go_wp2
    go_ret
    exact ⟨rfl, B1.out⟩
set_option maxHeartbeats 1000000 in
theorem rpadded_any (s : ByteArray) (n : Nat) (h : s.size ≤ n) (hn : n ≤ 1000000) (w : World) :
    Calls Try.prog 39 #[.string s, .int .i64 (n : Int)] w fun e w' => e = .returned (.string (mk (pad n (by' s)))) ∧ Below w.heap.size w w' := by
  obtain ⟨W, CM, BW, bW, -⟩ := make_n (n - s.size) (by omega) w
  obtain ⟨Z, hZ⟩ : ∃ Z, mk (zr (n - s.size)) = Z := ⟨_, rfl⟩
  obtain ⟨R, hR⟩ : ∃ R, mk (pad n (by' s)) = R := ⟨_, rfl⟩
  obtain ⟨m, hm⟩ : ∃ m, n - s.size = m := ⟨_, rfl⟩
  have CV := BW.string (cap := n - s.size) (n := n - s.size) (by simp)
  rw [show (⟨(List.replicate (n - s.size) (0 : UInt8)).toArray⟩ : ByteArray) = Z from hZ] at CV
  have AD : ∀ w, (Op.stringOp .add s Z).run Try.prog w = .ok (.string R) w := fun w => by
    have sz : s.size + Z.size ≤ 9223372036854775807 := by rw [← hZ, mk_size]; simp; omega
    rw [run_string_add_sum (P := Try.prog) w _ _ sz]
    have : s ++ Z = R := by
      rw [← hZ, ← hR]
      apply ByteArray.ext
      unfold pad mk
      rw [by_len]
      simp
    rw [this]
  have wr : IntKind.i64.wrap ((n : Int) - (s.size : Int)) = (m : Int) := by rw [IntKind.wrap_i64]; omega
  rw [hm] at CM CV
  rw [hR]
  have B1 : Hid (Below w.heap.size w W) := bW
  clear hR hZ bW BW hm
  go_enter Try.func39, Try.ntmps39
  go_wp2
  go_ret
  exact ⟨rfl, B1.out⟩
set_option maxHeartbeats 1000000 in
theorem rids_any (a : Option Addr) (is : List ByteArray) (n c : Nat) (hn : Hid (is.length = n)) (hm : n ≤ 9223372036854775807) (w : World) (hc : Hid (StrAt w a is)) :
    Calls Try.prog 31 #[.slice a n c] w fun e w' => e = .returned (.bool (idsB is && decide (n ≤ 4))) ∧ Below w.heap.size w w' := by
  obtain ⟨V, hV⟩ : ∃ V, idsB is = V := ⟨_, rfl⟩
  have HV : Hid (idsB (is.drop 0) = V) := by rw [List.drop_zero]; exact hV
  rw [hV]
  obtain ⟨D, hD⟩ : ∃ D, decide (n ≤ 4) = D := ⟨_, rfl⟩
  have HD : Hid (decide ((n : Int) ≤ 4) = D) := by
    show _ = _
    rw [← hD]
    exact decide_eq_decide.2 (by omega)
  rw [hD]
  clear hV hD
  go_enter Try.func31, Try.ntmps31
  go_wp2
  go_loopw [3] (fun i wr => ∃ k : Nat, k ≤ n ∧ i = .int .i64 (k : Int) ∧ Hid (idsB (is.drop k) = V ∧ Below w.heap.size w wr)) (fun i _ => n - (intOf i).toNat)
  case atStart => exact ⟨0, Nat.zero_le _, rfl, HV.out, Below.refl _ _⟩
  case round =>
    obtain ⟨k, hk, rfl, I⟩ := hrel
    clear HV
    by_cases hlt : k < n
    · have hk' : k < is.length := by rw [hn.out]; exact hlt
      have g1 : (k : Int) < (n : Int) := by omega
      obtain ⟨b, o, rfl, cx⟩ := hc.out.later I.out.2 rfl k hk'
      have J : Hid (_ = _) := (idsB_drop is k hk').symm.trans I.out.1
      obtain ⟨x, hx⟩ : ∃ x, is[k] = x := ⟨_, rfl⟩
      rw [hx] at cx J
      obtain ⟨d, hd⟩ : ∃ d, idB x = d := ⟨_, rfl⟩
      have ID := rid_any x wr
      rw [hd] at J ID
      clear hx hd
      go_wp2_with fail
      refine Calls.mono ID ?_
      rintro e w1 ⟨rfl, hb1⟩
      have B1 : Hid (Below w.heap.size w w1) := chain I.out.2 hb1
      clear ID hb1 I cx
      cases d with
      | false =>
        go_wp2
        go_ret
        refine ⟨?_, B1.out⟩
        rw [← J.out]; rfl
      | true =>
        go_wp2
        go_roundw
        case rel => exact ⟨k + 1, by omega, by go_num, J.out, B1.out⟩
        case measure => simp [intOf]; omega
    · obtain rfl : k = n := by omega
      have E : Hid (V = true ∧ Below w.heap.size w wr) := by
        refine ⟨?_, I.out.2⟩
        rw [← I.out.1, List.drop_of_length_le (by rw [hn.out]; exact Nat.le_refl _)]; rfl
      have HD2 := HD.out
      clear I
      go_wp2
      go_ret
      refine ⟨?_, E.out.2⟩
      rw [E.out.1]; rfl
end Go.Proofs.Ytbaajpefefedbaa
