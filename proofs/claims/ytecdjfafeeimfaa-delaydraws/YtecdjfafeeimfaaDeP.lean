/- The program's delays: what may be; a table; a word's place in it. -/
import Derived.Test.YtecdjfafeeimfaaTaW
import Derived.Test.YtecdjfafeeimfaaDeM
namespace Go.Proofs.Ytecdjfafeeimfaa
open Go.RowKit Go.Proofs.Fd Go.Proofs.Ta Go.Proofs.De
set_option maxRecDepth 20000

theorem all_upto (L : List Int) (h : ∀ j (hj : j < L.length), okM L[j] = true) : L.all okM = true := by
  rw [List.all_eq_true]
  intro x hx
  obtain ⟨j, hj, rfl⟩ := List.mem_iff_getElem.1 hx
  exact h j hj
theorem all_not (L : List Int) (j : Nat) (hj : j < L.length) (h : okM L[j] = false) : L.all okM = false := by
  rw [List.all_eq_false]
  exact ⟨L[j], List.getElem_mem hj, by rw [h]; decide⟩
def IdxP (L : List Int) (w : World) (e : Ending) (w' : World) : Prop := ∃ x : Int, e = .returned (.int .i64 x) ∧ decide (0 ≤ x) = !(L.all okM) ∧ w' = w
set_option maxHeartbeats 1000000 in
theorem idx_any (L : List Int) (a : Option Addr) (n c : Nat) (hn : L.length = n) (hn2 : n ≤ 1000000) (w : World) (h : Hid (IntAt w a L)) :
    Calls Try.prog 36 #[.slice a n c, .func (.func 30) #[] #[]] w fun e w' => IdxP L w e w' := by
  go_enter Try.func36, Try.ntmps36
  go_wp2
  go_loopw [5, 8] (fun _ i wr => ∃ k : Nat, k ≤ n ∧ i = .int .i64 (k : Int) ∧ Hid (∀ j (hj : j < L.length), j < k → okM L[j] = true) ∧ w = wr) (fun _ i _ => n - (intOf i).toNat)
  case atStart => exact ⟨0, by omega, rfl, fun j _ hj => absurd hj (Nat.not_lt_zero _), rfl⟩
  case round =>
    obtain ⟨k, hk, rfl, I, hw⟩ := hrel
    subst hw
    by_cases hlt : k < n
    · have g1 : (k : Int) < (n : Int) := by omega
      obtain ⟨b, o, rfl, e1⟩ := h.out k (by omega)
      obtain ⟨x, hx⟩ : ∃ x, L[k] = x := ⟨_, rfl⟩
      rw [hx] at e1
      by_cases h0 : x < 0
      · have F0 : decide (0 ≤ (k : Int)) = !(L.all okM) := by
          rw [all_not L k (by omega) (by rw [hx]; unfold okM; simp; omega)]
          simp
        have FI : Hid _ := F0
        clear F0
        clear hx I
        go_wp2
        go_ret
        exact ⟨_, rfl, FI.out, rfl⟩
      · by_cases h1 : 4096 < x
        · have F0 : decide (0 ≤ (k : Int)) = !(L.all okM) := by
            rw [all_not L k (by omega) (by rw [hx]; unfold okM; simp; omega)]
            simp
          have FI : Hid _ := F0
          clear F0
          clear hx I
          go_wp2
          go_ret
          exact ⟨_, rfl, FI.out, rfl⟩
        · have I2 : Hid (∀ j (hj : j < L.length), j < k + 1 → okM L[j] = true) := fun j hj hjk => by
            by_cases e : j = k
            · subst e; rw [hx, okM_iff]; omega
            · exact I.out j hj (by omega)
          clear hx I
          go_wp2
          go_roundw
          case rel => exact ⟨k + 1, by omega, by go_num, I2.out, trivial⟩
          case measure => simp [intOf]; omega
    · obtain rfl : k = n := by omega
      have FI : Hid (decide (0 ≤ (-1 : Int)) = !(L.all okM)) := by
        rw [all_upto L (fun j hj => I.out j hj (by omega))]
        rfl
      clear I
      go_wp2
      go_ret
      exact ⟨_, rfl, FI.out, rfl⟩
set_option maxHeartbeats 1000000 in
theorem contains_any (L : List Int) (a : Option Addr) (n c : Nat) (hn : L.length = n) (hn2 : n ≤ 1000000) (w : World) (h : Hid (IntAt w a L)) :
    Calls Try.prog 31 #[.slice a n c, .func (.func 30) #[] #[]] w fun e w' => e = .returned (.bool (!(L.all okM))) ∧ w' = w := by
  have IX : Hid _ := idx_any L a n c hn hn2 w h
  obtain ⟨v, hv⟩ : ∃ v, L.all okM = v := ⟨_, rfl⟩
  rw [hv]
  go_enter Try.func31, Try.ntmps31
  go_wp2_with fail
  refine Calls.mono IX.out ?_
  rintro e w1 ⟨x, rfl, hd, rfl⟩
  rw [hv] at hd
  clear IX hv
  have HD : Hid (decide (0 ≤ x) = !v) := hd
  clear hd
  go_wp2
  go_ret
  exact ⟨congrArg (fun b => Ending.returned (.bool b)) HD.out, rfl⟩
set_option maxHeartbeats 1000000 in
theorem mayBe_any (most : Int) (L : List Int) (a : Option Addr) (n c : Nat) (hn : L.length = n) (hn2 : n ≤ 1000000) (w : World) (h : Hid (IntAt w a L)) :
    Calls Try.prog 22 #[.int .i64 most, .slice a n c] w fun e w' => e = .returned (.bool (okA most L)) ∧ w' = w := by
  have CT : Hid _ := contains_any L a n c hn hn2 w h
  have e : okA most L = (okM most && L.all okM) := rfl
  rw [e]
  obtain ⟨v, hv⟩ : ∃ v, L.all okM = v := ⟨_, rfl⟩
  rw [hv] at CT ⊢
  clear e hv hn hn2 h
  by_cases h0 : 0 ≤ most
  · by_cases h1 : most ≤ 4096
    · rw [show okM most = true from (okM_iff most).2 ⟨h0, h1⟩]
      cases v
      all_goals
        go_enter Try.func22, Try.ntmps22
        go_wp2_with fail
        refine Calls.mono CT.out ?_
        rintro e w1 ⟨rfl, rfl⟩
        clear CT
        go_wp2
        go_ret
        exact ⟨rfl, rfl⟩
    · rw [show okM most = false by unfold okM; simp; omega]
      clear CT
      go_enter Try.func22, Try.ntmps22
      go_wp2
      go_ret
      exact ⟨rfl, rfl⟩
  · rw [show okM most = false by unfold okM; simp; omega]
    clear CT
    go_enter Try.func22, Try.ntmps22
    go_wp2
    go_ret
    exact ⟨rfl, rfl⟩
end Go.Proofs.Ytecdjfafeeimfaa
