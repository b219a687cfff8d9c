/- The first deadline. -/
import Derived.Test.YthnkkkiobbnpmaaWhC
namespace Go.Proofs.Ythnkkkiobbnpmaa
open Go.RowKit Go.Proofs.Fd Go.Proofs.Wh
set_option maxRecDepth 20000

theorem field_at (x y z : Int) (w : World) : (Instr.field 59 (.agg #[.int .i64 x, .int .i64 y, .int .i64 z]) 0).run Try.prog w = .ok (.int .i64 x) w := by kernel_rfl
def NxtP (w : World) (s : St) (e : Ending) (w' : World) : Prop := e = .returned (.tuple #[.int .i64 (nextV s), .bool (nextB s)]) ∧ Below w.heap.size w w'
set_option maxHeartbeats 2000000 in
theorem next_any (p : Nat) (F : Nat → Prop) (s : St) (w : World) (H : Hid (WAt w p F s)) :
    Calls Try.prog 20 #[.pointer (some ⟨p, 0, none⟩)] w fun e w' => NxtP w s e w' := by
  obtain ⟨ho, sv, sl, bm, D, rfl, h1, h2, hr⟩ := H.out
  have HO : Hid (Ok s) := ho
  have HS : Hid (Sl s sl) := h1
  have HR : Hid (Raw w p s.now s.many sv sl bm D) := hr
  clear ho h1 h2 hr H
  go_enter Try.func20, Try.ntmps20
  go_wp2
  go_step3
  go_wp2
  go_step3
  go_wp2
  go_loopw [4, 7] (fun v i wr => ∃ a : Nat, a ≤ 7 ∧ i = .int .i64 (a : Int) ∧ v = .slice none 0 0 ∧ Hid ((∀ j, j < 64 * a → sl j = []) ∧ Below w.heap.size w wr)) (fun v i wr => 7 - (intOf i).toNat)
  case atStart => exact ⟨0, by omega, rfl, rfl, fun j hj => absurd hj (by omega), Below.refl _ _⟩
  case round =>
    obtain ⟨a, ha, rfl, rfl, I⟩ := hrel
    by_cases ha7 : a < 7
    · have a7 : (a : Int) < 7 := by omega
      go_wp2
      go_loopw [4, 10] (fun v j wr => ∃ b : Nat, b ≤ 64 ∧ j = .int .i64 (b : Int) ∧ v = .slice none 0 0 ∧ Hid ((∀ j, j < 64 * a + b → sl j = []) ∧ Below w.heap.size w wr)) (fun v j wr => 64 - (intOf j).toNat)
      case atStart => exact ⟨0, by omega, rfl, rfl, I.out⟩
      case round =>
        obtain ⟨b, hb, rfl, rfl, I⟩ := hrel
        by_cases hb64 : b < 64
        · have b64 : (b : Int) < 64 := by omega
          have hm : 64 * a + b < 448 := by omega
          have R := HR.out.later I.out.2
          have ck := R.cs _ hm
          have row := R.row _ hm
          have e1 : 2 + (64 * a + b) = 2 + a * 64 + b := by omega
          rw [e1] at ck
          clear R e1
          rcases owns_tm row with ⟨hv, hs⟩ | ⟨g, cap, hv, ht, hc⟩
          · rw [hv] at ck
            have J : Hid ((∀ j, j < 64 * a + (b + 1) → sl j = []) ∧ Below w.heap.size w wr) := ⟨fun j hj => by
              by_cases e : j < 64 * a + b
              · exact I.out.1 j e
              · obtain rfl : j = 64 * a + b := by omega
                exact hs, I.out.2⟩
            clear hs hv row
            go_wp2
            go_roundw
            case rel => exact ⟨b + 1, by omega, by go_num, rfl, J.out⟩
            case measure => simp [intOf]; omega
          · rw [hv] at ck
            by_cases hz : (sl (64 * a + b)).length = 0
            · have hs := List.length_eq_zero_iff.1 hz
              rw [hz] at ck
              have J : Hid ((∀ j, j < 64 * a + (b + 1) → sl j = []) ∧ Below w.heap.size w wr) := ⟨fun j hj => by
                by_cases e : j < 64 * a + b
                · exact I.out.1 j e
                · obtain rfl : j = 64 * a + b := by omega
                  exact hs, I.out.2⟩
              clear hs hv row hz
              go_wp2
              go_roundw
              case rel => exact ⟨b + 1, by omega, by go_num, rfl, J.out⟩
              case measure => simp [intOf]; omega
            · have hl : (sl (64 * a + b)).length ≤ 4096 := Nat.le_trans (HS.out.length hm) HO.out.long
              have MN : Hid _ := min_any g cap (sl (64 * a + b)) _ rfl (by omega) hl wr ht
              obtain ⟨n, hn⟩ : ∃ n, (sl (64 * a + b)).length = n := ⟨_, rfl⟩
              rw [hn] at ck MN hz
              have n0 : (0 : Int) < (n : Int) := by omega
              have n1 : ((n : Int) == 0) = false := by rw [beq_eq_false_iff_ne]; omega
              have FN : Hid (∀ m : Tm, m ∈ sl (64 * a + b) → (∀ t ∈ sl (64 * a + b), ¬ lt t m) → nextV s = (m.a : Int) ∧ nextB s = true) := fun m m1 m2 => by
                obtain ⟨l, hl⟩ := HS.out.first HO.out hm I.out.1 m1 m2
                unfold nextV nextB
                rw [hl]
                exact ⟨rfl, rfl⟩
              clear hv row ht hz hn hl
              have fk := field_at
              go_wp2_with (go_at_call 31; refine Calls.mono MN.out ?_; rintro e w5 ⟨m, rfl, m1, m2, m3⟩)
              try rw [Exit.noGoto_ret]
              go_ret2
              obtain ⟨k1, k2⟩ := FN.out m m1 m2
              refine ⟨?_, chain I.out.2 m3⟩
              rw [k1, k2]
              rfl
        · obtain rfl : b = 64 := by omega
          go_wp2
          go_roundw
          case rel => exact ⟨a + 1, by omega, by go_num, rfl, I.out⟩
          case measure => simp [intOf]; omega
    · have ha' : a = 7 := by omega
      have hs := HS.out.none HO.out (by have := I.out.1; rw [ha'] at this; exact this)
      have a7 : ¬ (a : Int) < 7 := by omega
      clear ha' ha7
      have FN : Hid (nextV s = 0 ∧ nextB s = false) := by
        unfold nextV nextB
        rw [hs]
        exact ⟨rfl, rfl⟩
      clear hs
      go_wp2
      try rw [Exit.noGoto_ret]
      go_ret2
      refine ⟨?_, I.out.2⟩
      rw [FN.out.1, FN.out.2]
      rfl
end Go.Proofs.Ythnkkkiobbnpmaa
