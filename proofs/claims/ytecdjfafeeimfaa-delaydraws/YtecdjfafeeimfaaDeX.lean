/- The program's Draw. -/
import Derived.Test.YtecdjfafeeimfaaDeV
namespace Go.Proofs.Ytecdjfafeeimfaa
open Go.RowKit Go.Proofs.Fd Go.Proofs.Ta Go.Proofs.De
set_option maxRecDepth 20000

/-- What Several answers of one mean. -/
theorem sev_one (m n : Int) (l : List UInt8) : (drE m n l ≠ 0 ∧ drV m n l = 0 ∧ sevE n [m] l = drE m n l ∧ sevR n [m] l = drR m n l) ∨ (drE m n l = 0 ∧ sevE n [m] l = 0 ∧ sevV n [m] l = [drV m n l] ∧ sevR n [m] l = drR m n l) := by
  by_cases h : (0 ≤ m ∧ m ≤ 4096) ∧ 0 ≤ n ∧ n ≤ 4096
  · have hq : [m].length ≤ 64 ∧ okA n [m] = true := ⟨by simp, (okA_one m n).2 h⟩
    by_cases hl : l.length < 4
    · left
      have hl2 : l.length < 4 * [m].length := by simpa using hl
      rw [(dr_few h hl).1, (dr_few h hl).2.1, (dr_few h hl).2.2, (sev_few hq hl2).2.1, (sev_few hq hl2).2.2]
      exact ⟨by decide, rfl, rfl, rfl⟩
    · right
      have hl2 : ¬ l.length < 4 * [m].length := by simpa using hl
      rw [(dr_ok h hl).1, (dr_ok h hl).2.1, (dr_ok h hl).2.2, (sev_ok hq hl2).1, (sev_ok hq hl2).2.1, (sev_ok hq hl2).2.2]
      exact ⟨rfl, rfl, rfl, rfl⟩
  · left
    have hq : ¬ ([m].length ≤ 64 ∧ okA n [m] = true) := fun x => h ((okA_one m n).1 x.2)
    rw [(dr_no h).1, (dr_no h).2.1, (dr_no h).2.2, (sev_no hq).2.1, (sev_no hq).2.2]
    exact ⟨by decide, rfl, rfl, rfl⟩
def DrP (w : World) (p : Nat) (m n : Int) (l : List UInt8) (e : Ending) (w' : World) : Prop := e = .returned (.tuple #[.int .i64 (drV m n l), .int .i64 (drE m n l)]) ∧ TAt w' p (drR m n l) ∧ But p p w w'
set_option maxHeartbeats 1000000 in
theorem draw_any (p : Nat) (l : List UInt8) (m n : Int) (w : World) (R : Hid (TAt w p l)) :
    Calls Try.prog 20 #[.pointer (some ⟨p, 0, none⟩), .int .i64 m, .int .i64 n] w fun e w' => DrP w p m n l e w' := by
  have hp := R.out.lt
  have B0 : Below w.heap.size w (w.alloc (.cells #[.int .i64 m] 3)) := (Below.refl _ _).alloc (Nat.le_refl _) _
  have SV := several_any p l n [m] (some ⟨w.heap.size, 0, none⟩) 1 1 rfl (w.alloc (.cells #[.int .i64 m] 3)) (R.out.later B0) (one_at w m 3) (fun x hx _ => by cases hx; show w.heap.size ≠ p; omega)
  have HB : Hid _ := B0
  clear hp B0 R
  unfold DrP
  rcases sev_one m n l with ⟨h1, h2, h3, h4⟩ | ⟨h1, h2, h3, h4⟩
  · rw [h3, h4] at SV
    rw [h2]
    obtain ⟨x, hx⟩ : ∃ x, drE m n l = x := ⟨_, rfl⟩
    rw [hx] at SV h1 ⊢
    have HS : Hid _ := SV
    clear SV h2 h3 h4 hx
    go_enter Try.func20, Try.ntmps20
    go_wp2_with fail
    refine Calls.mono HS.out ?_
    rintro e w1 ⟨a, c, rfl, -, -, ht, hb⟩
    have FI : Hid (TAt w1 p (drR m n l) ∧ But p p w w1) := ⟨ht, (But.of HB.out).trans hb⟩
    clear HS ht hb HB
    go_wp2
    go_ret2
    exact ⟨rfl, FI.out⟩
  · rw [h2, h3, h4] at SV
    rw [h1]
    obtain ⟨x, hx⟩ : ∃ x, drV m n l = x := ⟨_, rfl⟩
    rw [hx] at SV ⊢
    have HS : Hid _ := SV
    clear SV h1 h2 h3 h4 hx
    go_enter Try.func20, Try.ntmps20
    go_wp2_with fail
    refine Calls.mono HS.out ?_
    rintro e w1 ⟨a, c, rfl, hi, -, ht, hb⟩
    have FI : Hid (TAt w1 p (drR m n l) ∧ But p p w w1) := ⟨ht, (But.of HB.out).trans hb⟩
    obtain ⟨b, o, rfl, c0⟩ := hi 0 Nat.zero_lt_one
    have c1 : w1.cell? ⟨b, o, none⟩ = some (.int .i64 x) := c0
    clear HS ht hb HB c0 hi
    rw [show ([x] : List Int).length = 1 from rfl]
    go_wp2
    go_ret2
    exact ⟨rfl, FI.out⟩
set_option maxHeartbeats 1000000 in
theorem draw_nil (w : World) :
    Calls Try.prog 20 #[.pointer none, .int .i64 1, .int .i64 1] w fun e w' => e = .returned (.tuple #[.int .i64 0, .int .i64 120]) ∧ Below w.heap.size w w' := by
  have HS : Hid _ := several_nil 1 [1] (some ⟨w.heap.size, 0, none⟩) 1 1 rfl (by decide) (by decide) (w.alloc (.cells #[.int .i64 1] 3)) (one_at w 1 3)
  go_enter Try.func20, Try.ntmps20
  go_wp2_with fail
  refine Calls.mono HS.out ?_
  rintro e w1 ⟨rfl, rfl⟩
  clear HS
  go_wp2
  go_ret2
  exact ⟨rfl, (Below.refl _ _).alloc (Nat.le_refl _) _⟩
end Go.Proofs.Ytecdjfafeeimfaa
