/- One step behind the other. -/
import Derived.Test.YtdcimnmebgkmjaaDoorLgI
namespace Go.Proofs.YtdcimnmebgkmjaaDoor
open Go.RowKit Go.Proofs.Fd Go.Proofs.Dk Go.Proofs.Lg
set_option maxRecDepth 20000

/-- What a step leaves: the next one can be done, or it ends there. -/
def StepP (P : World → Prop) (E : Int → World → Prop) (e : Ending) (w' : World) : Prop := ∃ x, e = .returned (.int .i64 x) ∧ (x = 0 ∧ P w' ∨ x ≠ 0 ∧ E x w')
/-- The five steps' values. -/
def fsv (q p fr mn : Nat) : List Value := [.func (.func 32) #[.pointer (some ⟨q, 0, none⟩)] #[], .func (.func 48) #[.pointer (some ⟨q, 0, none⟩)] #[], .func (.func 45) #[plc p fr mn] #[], .func (.func 49) #[.pointer (some ⟨q, 0, none⟩)] #[], .func (.func 45) #[plc p fr mn] #[]]
set_option maxHeartbeats 4000000 in
theorem linOrder_any (q p fr mn C : Nat) (P : Nat → World → Prop) (E : Int → World → Prop)
    (hc : Hid (∀ k wr, k < 5 → P k wr → Blk wr C (fsv q p fr mn)))
    (S0 : Hid (∀ wr, P 0 wr → Calls Tryd.prog 32 #[.pointer (some ⟨q, 0, none⟩)] wr fun e w' => StepP (P 1) E e w'))
    (S1 : Hid (∀ wr, P 1 wr → Calls Tryd.prog 48 #[.pointer (some ⟨q, 0, none⟩)] wr fun e w' => StepP (P 2) E e w'))
    (S2 : Hid (∀ wr, P 2 wr → Calls Tryd.prog 45 #[plc p fr mn] wr fun e w' => StepP (P 3) E e w'))
    (S3 : Hid (∀ wr, P 3 wr → Calls Tryd.prog 49 #[.pointer (some ⟨q, 0, none⟩)] wr fun e w' => StepP (P 4) E e w'))
    (S4 : Hid (∀ wr, P 4 wr → Calls Tryd.prog 45 #[plc p fr mn] wr fun e w' => StepP (P 5) E e w'))
    (va : World) (h : Hid (P 0 va)) : Calls Tryd.prog 47 #[.slice (some ⟨C, 0, none⟩) 5 5] va fun e w' => StepP (P 5) E e w' := by
  unfold plc at *
  go_enter Tryd.func47, Tryd.ntmps47
  go_wp2
  go_loopw [8] (fun i wr => ∃ k : Nat, k ≤ 5 ∧ i = .int .i64 (k : Int) ∧ Hid (P k wr)) (fun i _ => 5 - (intOf i).toNat)
  case atStart => exact ⟨0, by decide, rfl, h.out⟩
  case round =>
    obtain ⟨k, hk5, rfl, I⟩ := hrel
    clear h
    by_cases hlt : k < 5
    · have B := hc.out k wr hlt I.out
      rcases (by omega : k = 0 ∨ k = 1 ∨ k = 2 ∨ k = 3 ∨ k = 4) with rfl | rfl | rfl | rfl | rfl
      · have c0 := B.c 0 _ rfl
        have ST : Hid _ := S0.out wr I.out
        clear S0 S1 S2 S3 S4 hc B I
        unfold plc at *
        go_wp2_with fail
        refine Calls.mono ST.out ?_
        rintro e w1 ⟨x, rfl, hx⟩
        by_cases h0 : x = 0
        · subst h0
          have J : Hid (P 1 w1) := by
            rcases hx with ⟨-, h⟩ | ⟨h, -⟩
            · exact h
            · exact absurd rfl h
          clear hx c0 ST
          go_wp2
          go_roundw
          case rel => exact ⟨1, by decide, rfl, J.out⟩
          case measure => simp [intOf]
        · have J : Hid (E x w1) := by
            rcases hx with ⟨h, -⟩ | ⟨-, h⟩
            · exact absurd h h0
            · exact h
          clear hx c0 ST
          go_wp2
          go_ret
          exact ⟨x, rfl, .inr ⟨h0, J.out⟩⟩
      · have c0 := B.c 1 _ rfl
        have ST : Hid _ := S1.out wr I.out
        clear S0 S1 S2 S3 S4 hc B I
        unfold plc at *
        go_wp2_with fail
        refine Calls.mono ST.out ?_
        rintro e w1 ⟨x, rfl, hx⟩
        by_cases h0 : x = 0
        · subst h0
          have J : Hid (P 2 w1) := by
            rcases hx with ⟨-, h⟩ | ⟨h, -⟩
            · exact h
            · exact absurd rfl h
          clear hx c0 ST
          go_wp2
          go_roundw
          case rel => exact ⟨2, by decide, rfl, J.out⟩
          case measure => simp [intOf]
        · have J : Hid (E x w1) := by
            rcases hx with ⟨h, -⟩ | ⟨-, h⟩
            · exact absurd h h0
            · exact h
          clear hx c0 ST
          go_wp2
          go_ret
          exact ⟨x, rfl, .inr ⟨h0, J.out⟩⟩
      · have c0 := B.c 2 _ rfl
        have ST : Hid _ := S2.out wr I.out
        clear S0 S1 S2 S3 S4 hc B I
        unfold plc at *
        go_wp2_with fail
        refine Calls.mono ST.out ?_
        rintro e w1 ⟨x, rfl, hx⟩
        by_cases h0 : x = 0
        · subst h0
          have J : Hid (P 3 w1) := by
            rcases hx with ⟨-, h⟩ | ⟨h, -⟩
            · exact h
            · exact absurd rfl h
          clear hx c0 ST
          go_wp2
          go_roundw
          case rel => exact ⟨3, by decide, rfl, J.out⟩
          case measure => simp [intOf]
        · have J : Hid (E x w1) := by
            rcases hx with ⟨h, -⟩ | ⟨-, h⟩
            · exact absurd h h0
            · exact h
          clear hx c0 ST
          go_wp2
          go_ret
          exact ⟨x, rfl, .inr ⟨h0, J.out⟩⟩
      · have c0 := B.c 3 _ rfl
        have ST : Hid _ := S3.out wr I.out
        clear S0 S1 S2 S3 S4 hc B I
        unfold plc at *
        go_wp2_with fail
        refine Calls.mono ST.out ?_
        rintro e w1 ⟨x, rfl, hx⟩
        by_cases h0 : x = 0
        · subst h0
          have J : Hid (P 4 w1) := by
            rcases hx with ⟨-, h⟩ | ⟨h, -⟩
            · exact h
            · exact absurd rfl h
          clear hx c0 ST
          go_wp2
          go_roundw
          case rel => exact ⟨4, by decide, rfl, J.out⟩
          case measure => simp [intOf]
        · have J : Hid (E x w1) := by
            rcases hx with ⟨h, -⟩ | ⟨-, h⟩
            · exact absurd h h0
            · exact h
          clear hx c0 ST
          go_wp2
          go_ret
          exact ⟨x, rfl, .inr ⟨h0, J.out⟩⟩
      · have c0 := B.c 4 _ rfl
        have ST : Hid _ := S4.out wr I.out
        clear S0 S1 S2 S3 S4 hc B I
        unfold plc at *
        go_wp2_with fail
        refine Calls.mono ST.out ?_
        rintro e w1 ⟨x, rfl, hx⟩
        by_cases h0 : x = 0
        · subst h0
          have J : Hid (P 5 w1) := by
            rcases hx with ⟨-, h⟩ | ⟨h, -⟩
            · exact h
            · exact absurd rfl h
          clear hx c0 ST
          go_wp2
          go_roundw
          case rel => exact ⟨5, by decide, rfl, J.out⟩
          case measure => simp [intOf]
        · have J : Hid (E x w1) := by
            rcases hx with ⟨h, -⟩ | ⟨-, h⟩
            · exact absurd h h0
            · exact h
          clear hx c0 ST
          go_wp2
          go_ret
          exact ⟨x, rfl, .inr ⟨h0, J.out⟩⟩
    · obtain rfl : k = 5 := by omega
      have FF : Hid (P 5 wr) := I.out
      clear S0 S1 S2 S3 S4 hc
      go_wp2
      go_ret
      exact ⟨0, rfl, .inl ⟨rfl, FF.out⟩⟩
end Go.Proofs.YtdcimnmebgkmjaaDoor
