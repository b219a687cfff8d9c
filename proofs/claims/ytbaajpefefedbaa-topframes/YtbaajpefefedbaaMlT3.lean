/- The document's Check: kind 3. -/
import Derived.Test.YtbaajpefefedbaaMlT0
namespace Go.Proofs.Ytbaajpefefedbaa
open Go.RowKit Go.Proofs.Fd Go.Proofs.Ml
set_option maxRecDepth 20000

set_option maxHeartbeats 8000000 in
theorem rcheck_3 (k u q : Int) (t g : ByteArray) (a : Option Addr) (n c : Nat) (a2 : Option Addr) (n2 c2 : Nat) (ss : List Sl) (is : List ByteArray) (w : World) (L : Hid (Lists w a n c a2 n2 c2 ss is)) (h3 : k = 3) :
    Calls Try.prog 12 #[mv k u q t g a n c a2 n2 c2] w fun e w' => e = .returned (.int .i64 (chkE (okB ⟨k, u, q, t, g, ss, is⟩))) ∧ Below w.heap.size w w' := by
  have B0 : Hid (Below w.heap.size w (w.alloc (.cells #[.int .i64 k, .int .i64 u, .int .i64 q, .string t, .string g, .slice a n c, .slice a2 n2 c2] 25)) ∧ MlAt (w.alloc (.cells #[.int .i64 k, .int .i64 u, .int .i64 q, .string t, .string g, .slice a n c, .slice a2 n2 c2] 25)) w.heap.size k u q t g a n c a2 n2 c2) := ⟨(Below.refl _ _).alloc (Nat.le_refl _) _, MlAt.new w _ _ _ _ _ _ _ _ _ _ _ _⟩
  have ln : Hid (ss.length = n ∧ is.length = n2) := ⟨L.out.ls, L.out.li⟩
  subst h3
  by_cases w1 : 0 ≤ u
  rotate_left
  · skip
    have E : Hid (okB ⟨3, u, q, t, g, ss, is⟩ = false) := by
      cases h : okB ⟨3, u, q, t, g, ss, is⟩ with
      | false => exact rfl
      | true =>
        have o := ok_facts h
        simp only at o
        rw [ln.out.1, ln.out.2] at o
        clear ln B0 L h w
        omega
    rw [E.out]
    clear E
    go_enter Try.func12, Try.ntmps12
    go_wp2
    go_ret
    exact ⟨rfl, B0.out.1⟩
  by_cases w2 : u < 64
  rotate_left
  · skip
    have E : Hid (okB ⟨3, u, q, t, g, ss, is⟩ = false) := by
      cases h : okB ⟨3, u, q, t, g, ss, is⟩ with
      | false => exact rfl
      | true =>
        have o := ok_facts h
        simp only at o
        rw [ln.out.1, ln.out.2] at o
        clear ln B0 L h w
        omega
    rw [E.out]
    clear E
    go_enter Try.func12, Try.ntmps12
    go_wp2
    go_ret
    exact ⟨rfl, B0.out.1⟩
  by_cases w3 : 1 ≤ q
  rotate_left
  · skip
    have E : Hid (okB ⟨3, u, q, t, g, ss, is⟩ = false) := by
      cases h : okB ⟨3, u, q, t, g, ss, is⟩ with
      | false => exact rfl
      | true =>
        have o := ok_facts h
        simp only at o
        rw [ln.out.1, ln.out.2] at o
        clear ln B0 L h w
        omega
    rw [E.out]
    clear E
    go_enter Try.func12, Try.ntmps12
    go_wp2
    go_ret
    exact ⟨rfl, B0.out.1⟩
  by_cases w4 : q ≤ 2147483647
  rotate_left
  · skip
    have E : Hid (okB ⟨3, u, q, t, g, ss, is⟩ = false) := by
      cases h : okB ⟨3, u, q, t, g, ss, is⟩ with
      | false => exact rfl
      | true =>
        have o := ok_facts h
        simp only at o
        rw [ln.out.1, ln.out.2] at o
        clear ln B0 L h w
        omega
    rw [E.out]
    clear E
    go_enter Try.func12, Try.ntmps12
    go_wp2
    go_ret
    exact ⟨rfl, B0.out.1⟩
  by_cases w5 : t.size = 0
  rotate_left
  · have z5 : (t.toList == []) = false := by rw [size_toList, decide_eq_false w5]
    have E : Hid (okB ⟨3, u, q, t, g, ss, is⟩ = false) := by
      cases h : okB ⟨3, u, q, t, g, ss, is⟩ with
      | false => exact rfl
      | true =>
        have o := ok_facts h
        simp only at o
        rw [ln.out.1, ln.out.2] at o
        clear ln B0 L h w
        omega
    rw [E.out]
    clear E
    clear w5
    go_enter Try.func12, Try.ntmps12
    go_wp2
    go_ret
    exact ⟨rfl, B0.out.1⟩
  have z5 : (t.toList == []) = true := by rw [size_toList, decide_eq_true w5]
  by_cases g0 : g.size = 0
  rotate_left
  · have z6 : (g.toList == []) = false := by rw [size_toList, decide_eq_false g0]
    have E : Hid (okB ⟨3, u, q, t, g, ss, is⟩ = false) := by
      cases h : okB ⟨3, u, q, t, g, ss, is⟩ with
      | false => exact rfl
      | true =>
        have o := ok_facts h
        simp only at o
        rw [ln.out.1, ln.out.2] at o
        clear ln B0 L h w
        omega
    rw [E.out]
    clear E
    clear w5
    clear g0
    go_enter Try.func12, Try.ntmps12
    go_wp2
    go_ret
    exact ⟨rfl, B0.out.1⟩
  have z6 : (g.toList == []) = true := by rw [size_toList, decide_eq_true g0]
  have SL := fun w hh => rslots_any a ss n c ln.out.1 w hh
  obtain ⟨d, hd⟩ : ∃ d, (decide (n = 4) && slB ss false) = d := ⟨_, rfl⟩
  rw [hd] at SL
  have E : Hid (okB ⟨3, u, q, t, g, ss, is⟩ = (d && decide (n2 ≤ 0))) := by
    show _ = _
    rw [okB_3, ln.out.1, ln.out.2, ← hd]
    unfold nmB smB
    simp only [decide_eq_true w1, decide_eq_true w2, decide_eq_true w3, decide_eq_true w4, decide_eq_true w5, decide_eq_true g0, Bool.true_and]
    cases decide (n = 4) <;> cases decide (n2 ≤ 0) <;> cases slB ss false <;> rfl
  rw [E.out]
  clear E hd
  clear w5
  clear g0
  by_cases m0 : n2 = 0
  · have z9 : (n2 : Int) = 0 := by omega
    rw [show decide (n2 ≤ 0) = true from decide_eq_true (by omega)]
    clear m0
    go_enter Try.func12, Try.ntmps12
    go_wp2_with fail
    refine Calls.mono (SL _ (L.out.later B0.out.1).s) ?_
    rintro e w1 ⟨rfl, hb1⟩
    have B1 : Hid (Below w.heap.size w w1 ∧ MlAt w1 w.heap.size 3 u q t g a n c a2 n2 c2) := ⟨chain B0.out.1 hb1, B0.out.2.later hb1⟩
    clear hb1 SL
    obtain ⟨-, p0, p1, p2, p3, p4, p5, p6⟩ := B1.out.2
    cases d with
    | false =>
      go_wp2
      go_ret
      exact ⟨rfl, B1.out.1⟩
    | true =>
      go_wp2
      go_ret
      exact ⟨rfl, B1.out.1⟩
  · have z9 : ((n2 : Int) == 0) = false := by rw [beq_eq_false_iff_ne]; omega
    rw [show decide (n2 ≤ 0) = false from decide_eq_false (by omega)]
    clear m0
    go_enter Try.func12, Try.ntmps12
    go_wp2_with fail
    refine Calls.mono (SL _ (L.out.later B0.out.1).s) ?_
    rintro e w1 ⟨rfl, hb1⟩
    have B1 : Hid (Below w.heap.size w w1 ∧ MlAt w1 w.heap.size 3 u q t g a n c a2 n2 c2) := ⟨chain B0.out.1 hb1, B0.out.2.later hb1⟩
    clear hb1 SL
    obtain ⟨-, p0, p1, p2, p3, p4, p5, p6⟩ := B1.out.2
    cases d with
    | false =>
      go_wp2
      go_ret
      exact ⟨rfl, B1.out.1⟩
    | true =>
      go_wp2
      go_ret
      exact ⟨rfl, B1.out.1⟩
end Go.Proofs.Ytbaajpefefedbaa
