/- FieldWide answers true. -/
import Derived.Test.YtmoeijgblhfpdabW19
import Derived.Test.YtmoeijgblhfpdabMath8
import Derived.Deep.QuietTactic
import Derived.BigQuiet
import Derived.Deep.DeepCutAuto
namespace Go.Proofs.Ytmoeijgblhfpdab
open Go.RowKit Go.Proofs.Fd

set_option maxHeartbeats 2000000 in
theorem FieldWide_walk (x y : ByteArray) (hx : x.size ≤ maxLen) (hy : y.size ≤ maxLen) (w : World) :
    Calls Try.prog 6 #[.string x, .string y] w fun e w' => e = .returned (.bool true) ∧ Below w.heap.size w w' := by
  unfold maxLen at hx hy
  go_enter Try.func6, Try.ntmps6
  go_wp2_with fail
  refine Calls.mono (works_any _) ?_
  rintro e w1 ⟨rfl, hb⟩
  have B1 : Hid (Below w.heap.size w w1) := hb
  clear hb
  go_wp2
  go_cut [0, 1] (fun s0 s1 wx => ∃ x' y' : ByteArray, s0 = .string x' ∧ s1 = .string y' ∧ x'.size ≤ 32 ∧ y'.size ≤ 32 ∧ Hid (Below w.heap.size w wx))
  case first =>
    by_cases h1 : (x.size : Int) ≤ 32
    · have n1 : ¬ (32 : Int) < (x.size : Int) := by omega
      by_cases h2 : (y.size : Int) ≤ 32
      · have n2 : ¬ (32 : Int) < (y.size : Int) := by omega
        go_quiet (fail)
        go_wp2
        go_meet
        case rel => exact ⟨x, y, rfl, rfl, by omega, by omega, below_drewN B1.out _⟩
      · have n2 : (32 : Int) < (y.size : Int) := by omega
        clear h2
        go_quiet (fail)
        go_wp2
        go_meet
        case rel => exact ⟨x, y.extract 0 32, rfl, rfl, by omega, by simp; omega, below_drewN B1.out _⟩
    · have n1 : (32 : Int) < (x.size : Int) := by omega
      clear h1
      by_cases h2 : (y.size : Int) ≤ 32
      · have n2 : ¬ (32 : Int) < (y.size : Int) := by omega
        go_quiet (fail)
        go_wp2
        go_meet
        case rel => exact ⟨x.extract 0 32, y, rfl, rfl, by simp; omega, by omega, below_drewN B1.out _⟩
      · have n2 : (32 : Int) < (y.size : Int) := by omega
        clear h2
        go_quiet (fail)
        go_wp2
        go_meet
        case rel => exact ⟨x.extract 0 32, y.extract 0 32, rfl, rfl, by simp; omega, by simp; omega, below_drewN B1.out _⟩
  case rest =>
    obtain ⟨x', y', rfl, rfl, k1, k2, B2⟩ := hcut
    clear hx hy
    have RE : Hid (∀ w, Calls Try.prog 15 #[.string (x' ++ y')] w fun e w' => e = .returned (.tuple #[.string (enc (num (x'.data.toList ++ y'.data.toList) % p)), .int .i64 0]) ∧ Below w.heap.size w w') := fun w => by
      have := Reduce_ok (x' ++ y') (by simp; omega) w
      rw [show (x' ++ y').data.toList = x'.data.toList ++ y'.data.toList by simp] at this
      exact this
    have e1 : elt x' = num x'.data.toList % p := by unfold elt; rw [List.take_of_length_le (by simp; omega)]
    have e2 : elt y' = num y'.data.toList % p := by unfold elt; rw [List.take_of_length_le (by simp; omega)]
    have EX : Hid (∀ w, Calls Try.prog 8 #[.string x'] w fun e w' => e = .returned (.string (enc (num x'.data.toList % p))) ∧ Below w.heap.size w w') := fun w => by
      have := element_any x' (by unfold maxLen; omega) w; rw [e1] at this; exact this
    have EY : Hid (∀ w, Calls Try.prog 8 #[.string y'] w fun e w' => e = .returned (.string (enc (num y'.data.toList * 256 ^ 0 % p))) ∧ Below w.heap.size w w') := fun w => by
      have := element_any y' (by unfold maxLen; omega) w; rw [e2] at this; simpa using this
    have S256 : Hid (∀ w, Calls Try.prog 13 #[.int .i64 256] w fun e w' => e = .returned (.string (enc 256)) ∧ Below w.heap.size w w') := fun w => small_k 256 256 rfl (by omega) w
    obtain ⟨n, hn⟩ : ∃ n, x'.size = n := ⟨_, rfl⟩
    have hl : x'.data.toList.length = n := by rw [← hn]; simp
    obtain ⟨R, hR⟩ : ∃ R, num (x'.data.toList ++ y'.data.toList) % p = R := ⟨_, rfl⟩
    have WV : Hid ((num x'.data.toList % p + num y'.data.toList * 256 ^ n % p) % p = R) := by
      show _ = R; rw [← hR, ← wide_val, hl]
    rw [hR] at RE
    obtain ⟨A, hA⟩ : ∃ A, num x'.data.toList % p = A := ⟨_, rfl⟩
    have lA : Hid (A < p) := by show A < p; rw [← hA]; exact Nat.mod_lt _ p_pos
    rw [hA] at EX WV
    have HN : Hid (x'.size = n) := hn
    have bn : n ≤ 32 := by omega
    have MU : Hid (∀ (k B : Nat) (w : World), w.cell? ⟨B, 0, none⟩ = some (.string (enc (num y'.data.toList * 256 ^ k % p))) → w.cell? ⟨B, 1, none⟩ = some (.string (enc 256)) → Calls Try.prog 12 #[.slice (some ⟨B, 0, none⟩) 2 2] w fun e w' => e = .returned (.tuple #[.string (enc (num y'.data.toList * 256 ^ (k + 1) % p)), .int .i64 0]) ∧ Below w.heap.size w w') := fun k B w h0 h1 => by
      have := Mul2_el _ 256 B (Nat.mod_lt _ p_pos) (by decide) w h0 h1; rw [wide_step] at this; exact this
    have AD : Hid (∀ (B : Nat) (w : World), w.cell? ⟨B, 0, none⟩ = some (.string (enc A)) → w.cell? ⟨B, 1, none⟩ = some (.string (enc (num y'.data.toList * 256 ^ n % p))) → Calls Try.prog 10 #[.slice (some ⟨B, 0, none⟩) 2 2] w fun e w' => e = .returned (.tuple #[.string (enc R), .int .i64 0]) ∧ Below w.heap.size w w') := fun B w h0 h1 => by
      have := Add2_el A _ B lA.out (Nat.mod_lt _ p_pos) w h0 h1; rw [WV.out] at this; exact this
    obtain ⟨Y, hY⟩ : ∃ Y : Nat → Nat, ∀ k, Y k = num y'.data.toList * 256 ^ k % p := ⟨fun k => num y'.data.toList * 256 ^ k % p, fun _ => rfl⟩
    simp only [← hY] at EY MU AD
    clear hY hn hl hR WV hA lA e1 e2
    go_wp2_with fail
    refine Calls.mono (RE.out _) ?_
    rintro e w2 ⟨rfl, hb⟩
    have B3 : Hid (Below w.heap.size w w2) := chain B2.out hb
    clear hb
    go_wp2_with fail
    refine Calls.mono (EX.out _) ?_
    rintro e w3 ⟨rfl, hb⟩
    have B4 : Hid (Below w.heap.size w w3) := chain B3.out hb
    clear hb
    go_wp2_with fail
    refine Calls.mono (EY.out _) ?_
    rintro e w4 ⟨rfl, hb⟩
    have B5 : Hid (Below w.heap.size w w4) := chain B4.out hb
    clear hb
    go_wp2
    rw [HN.out]
    go_loopw [8, 36] (fun h i wr => ∃ k : Nat, k ≤ n ∧ i = .int .i64 k ∧ h = .string (enc (Y k)) ∧ Hid (Below w.heap.size w wr)) (fun _ i _ => n - (intOf i).toNat)
    case atStart => exact ⟨0, Nat.zero_le _, rfl, rfl, B5.out⟩
    case round =>
      obtain ⟨k, hk, rfl, rfl, I⟩ := hrel
      by_cases hlt : k < n
      · go_wp2_with fail
        refine Calls.mono (S256.out _) ?_
        rintro e w5 ⟨rfl, hb⟩
        have C1 : Hid (Below w.heap.size w w5) := chain I.out hb
        clear hb
        go_wp2_with fail
        refine Calls.mono (MU.out k w5.heap.size _ (by simp [go_sem]) (by simp [go_sem])) ?_
        rintro e w6 ⟨rfl, hb⟩
        have C2 : Hid (Below w.heap.size w w6) := chain (C1.out.alloc C1.out.size _) hb
        clear hb
        go_wp2
        go_roundw
        case rel => exact ⟨k + 1, by omega, by go_num, rfl, C2.out⟩
        case measure => simp [intOf]; omega
      · have hkn : k = n := by omega
        subst hkn
        go_wp2_with fail
        refine Calls.mono (AD.out wr.heap.size _ (by simp [go_sem]) (by simp [go_sem])) ?_
        rintro e w7 ⟨rfl, hb⟩
        have C3 : Hid (Below w.heap.size w w7) := chain (I.out.alloc I.out.size _) hb
        clear hb
        go_wp2
        go_ret
        exact ⟨rfl, C3.out⟩

end Go.Proofs.Ytmoeijgblhfpdab
