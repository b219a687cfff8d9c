/- Parts: MlT1, MlT2, MlT3, MlT4. -/
import Derived.Test.YtbogoheigbiegaaDoorZgG29
namespace Go.Proofs.YtbogoheigbiegaaDoor.Mai
open Go.RowKit Go.Proofs.Fd Go.Proofs.Ml
set_option maxRecDepth 20000
set_option maxHeartbeats 8000000 in
theorem rcheck_1 (k u q : Int) (t g : ByteArray) (a : Option Addr) (n c : Nat) (a2 : Option Addr) (n2 c2 : Nat) (ss : List Sl) (is : List ByteArray) (w : World) (L : Hid (Lists w a n c a2 n2 c2 ss is)) (h1 : k = 1) :
    Calls Tryd.prog 47 #[mv k u q t g a n c a2 n2 c2] w fun e w' => e = .returned (.int .i64 (chkE (okB ⟨k, u, q, t, g, ss, is⟩))) ∧ Below w.heap.size w w' := by
  have B0 : Hid (Below w.heap.size w (w.alloc (.cells #[.int .i64 k, .int .i64 u, .int .i64 q, .string t, .string g, .slice a n c, .slice a2 n2 c2] 38)) ∧ MlAt (w.alloc (.cells #[.int .i64 k, .int .i64 u, .int .i64 q, .string t, .string g, .slice a n c, .slice a2 n2 c2] 38)) w.heap.size k u q t g a n c a2 n2 c2) := ⟨(Below.refl _ _).alloc (Nat.le_refl _) _, MlAt.new w _ _ _ _ _ _ _ _ _ _ _ _⟩
  have ln : Hid (ss.length = n ∧ is.length = n2) := ⟨L.out.ls, L.out.li⟩
  subst h1
  by_cases u0 : u = 0
  rotate_left
  · skip
    by_cases w1 : 0 ≤ u
    rotate_left
    · skip
      have E : Hid (okB ⟨1, u, q, t, g, ss, is⟩ = false) := by
        cases h : okB ⟨1, u, q, t, g, ss, is⟩ with
        | false => exact rfl
        | true =>
          have o := ok_facts h
          simp only at o
          rw [ln.out.1, ln.out.2] at o
          clear ln B0 L h w
          omega
      rw [E.out]
      clear E
      go_enter Tryd.func47, Tryd.ntmps47
      go_wp2
      go_ret
      exact ⟨rfl, B0.out.1⟩
    by_cases w2 : u < 64
    rotate_left
    · skip
      have E : Hid (okB ⟨1, u, q, t, g, ss, is⟩ = false) := by
        cases h : okB ⟨1, u, q, t, g, ss, is⟩ with
        | false => exact rfl
        | true =>
          have o := ok_facts h
          simp only at o
          rw [ln.out.1, ln.out.2] at o
          clear ln B0 L h w
          omega
      rw [E.out]
      clear E
      go_enter Tryd.func47, Tryd.ntmps47
      go_wp2
      go_ret
      exact ⟨rfl, B0.out.1⟩
    by_cases w3 : 1 ≤ q
    rotate_left
    · skip
      have E : Hid (okB ⟨1, u, q, t, g, ss, is⟩ = false) := by
        cases h : okB ⟨1, u, q, t, g, ss, is⟩ with
        | false => exact rfl
        | true =>
          have o := ok_facts h
          simp only at o
          rw [ln.out.1, ln.out.2] at o
          clear ln B0 L h w
          omega
      rw [E.out]
      clear E
      go_enter Tryd.func47, Tryd.ntmps47
      go_wp2
      go_ret
      exact ⟨rfl, B0.out.1⟩
    by_cases w4 : q ≤ 2147483647
    rotate_left
    · skip
      have E : Hid (okB ⟨1, u, q, t, g, ss, is⟩ = false) := by
        cases h : okB ⟨1, u, q, t, g, ss, is⟩ with
        | false => exact rfl
        | true =>
          have o := ok_facts h
          simp only at o
          rw [ln.out.1, ln.out.2] at o
          clear ln B0 L h w
          omega
      rw [E.out]
      clear E
      go_enter Tryd.func47, Tryd.ntmps47
      go_wp2
      go_ret
      exact ⟨rfl, B0.out.1⟩
    by_cases w5 : t.size = 0
    rotate_left
    · have z5 : (t.toList == []) = false := by rw [size_toList, decide_eq_false w5]
      have E : Hid (okB ⟨1, u, q, t, g, ss, is⟩ = false) := by
        cases h : okB ⟨1, u, q, t, g, ss, is⟩ with
        | false => exact rfl
        | true =>
          have o := ok_facts h
          simp only at o
          rw [ln.out.1, ln.out.2] at o
          clear ln B0 L h w
          omega
      rw [E.out]
      clear E
      clear w5
      go_enter Tryd.func47, Tryd.ntmps47
      go_wp2
      go_ret
      exact ⟨rfl, B0.out.1⟩
    have z5 : (t.toList == []) = true := by rw [size_toList, decide_eq_true w5]
    have E : Hid (okB ⟨1, u, q, t, g, ss, is⟩ = false) := by
      cases h : okB ⟨1, u, q, t, g, ss, is⟩ with
      | false => exact rfl
      | true =>
        have o := ok_facts h
        simp only at o
        rw [ln.out.1, ln.out.2] at o
        clear ln B0 L h w
        omega
    rw [E.out]
    clear E
    clear w5
    go_enter Tryd.func47, Tryd.ntmps47
    go_wp2
    go_ret
    exact ⟨rfl, B0.out.1⟩
  subst u0
  by_cases q0 : q = 0
  rotate_left
  · skip
    by_cases w3 : 1 ≤ q
    rotate_left
    · skip
      have E : Hid (okB ⟨1, 0, q, t, g, ss, is⟩ = false) := by
        cases h : okB ⟨1, 0, q, t, g, ss, is⟩ with
        | false => exact rfl
        | true =>
          have o := ok_facts h
          simp only at o
          rw [ln.out.1, ln.out.2] at o
          clear ln B0 L h w
          omega
      rw [E.out]
      clear E
      go_enter Tryd.func47, Tryd.ntmps47
      go_wp2
      go_ret
      exact ⟨rfl, B0.out.1⟩
    by_cases w4 : q ≤ 2147483647
    rotate_left
    · skip
      have E : Hid (okB ⟨1, 0, q, t, g, ss, is⟩ = false) := by
        cases h : okB ⟨1, 0, q, t, g, ss, is⟩ with
        | false => exact rfl
        | true =>
          have o := ok_facts h
          simp only at o
          rw [ln.out.1, ln.out.2] at o
          clear ln B0 L h w
          omega
      rw [E.out]
      clear E
      go_enter Tryd.func47, Tryd.ntmps47
      go_wp2
      go_ret
      exact ⟨rfl, B0.out.1⟩
    by_cases w5 : t.size = 0
    rotate_left
    · have z5 : (t.toList == []) = false := by rw [size_toList, decide_eq_false w5]
      have E : Hid (okB ⟨1, 0, q, t, g, ss, is⟩ = false) := by
        cases h : okB ⟨1, 0, q, t, g, ss, is⟩ with
        | false => exact rfl
        | true =>
          have o := ok_facts h
          simp only at o
          rw [ln.out.1, ln.out.2] at o
          clear ln B0 L h w
          omega
      rw [E.out]
      clear E
      clear w5
      go_enter Tryd.func47, Tryd.ntmps47
      go_wp2
      go_ret
      exact ⟨rfl, B0.out.1⟩
    have z5 : (t.toList == []) = true := by rw [size_toList, decide_eq_true w5]
    have E : Hid (okB ⟨1, 0, q, t, g, ss, is⟩ = false) := by
      cases h : okB ⟨1, 0, q, t, g, ss, is⟩ with
      | false => exact rfl
      | true =>
        have o := ok_facts h
        simp only at o
        rw [ln.out.1, ln.out.2] at o
        clear ln B0 L h w
        omega
    rw [E.out]
    clear E
    clear w5
    go_enter Tryd.func47, Tryd.ntmps47
    go_wp2
    go_ret
    exact ⟨rfl, B0.out.1⟩
  subst q0
  by_cases g0 : g.size = 0
  rotate_left
  · have z6 : (g.toList == []) = false := by rw [size_toList, decide_eq_false g0]
    have E : Hid (okB ⟨1, 0, 0, t, g, ss, is⟩ = false) := by
      cases h : okB ⟨1, 0, 0, t, g, ss, is⟩ with
      | false => exact rfl
      | true =>
        have o := ok_facts h
        simp only at o
        rw [ln.out.1, ln.out.2] at o
        clear ln B0 L h w
        omega
    rw [E.out]
    clear E
    clear g0
    go_enter Tryd.func47, Tryd.ntmps47
    go_wp2
    go_ret
    exact ⟨rfl, B0.out.1⟩
  have z6 : (g.toList == []) = true := by rw [size_toList, decide_eq_true g0]
  by_cases t5 : t.size = 504
  rotate_left
  · have z7 : ((t.size : Int) == 504) = false := by rw [beq_eq_false_iff_ne]; omega
    have E : Hid (okB ⟨1, 0, 0, t, g, ss, is⟩ = false) := by
      cases h : okB ⟨1, 0, 0, t, g, ss, is⟩ with
      | false => exact rfl
      | true =>
        have o := ok_facts h
        simp only at o
        rw [ln.out.1, ln.out.2] at o
        clear ln B0 L h w
        omega
    rw [E.out]
    clear E
    clear g0
    clear t5
    go_enter Tryd.func47, Tryd.ntmps47
    go_wp2
    go_ret
    exact ⟨rfl, B0.out.1⟩
  have z7 : (t.size : Int) = 504 := by omega
  by_cases n0 : n = 0
  rotate_left
  · have z8 : ((n : Int) == 0) = false := by rw [beq_eq_false_iff_ne]; omega
    have E : Hid (okB ⟨1, 0, 0, t, g, ss, is⟩ = false) := by
      cases h : okB ⟨1, 0, 0, t, g, ss, is⟩ with
      | false => exact rfl
      | true =>
        have o := ok_facts h
        simp only at o
        rw [ln.out.1, ln.out.2] at o
        clear ln B0 L h w
        omega
    rw [E.out]
    clear E
    clear g0
    clear t5
    clear n0
    go_enter Tryd.func47, Tryd.ntmps47
    go_wp2
    go_ret
    exact ⟨rfl, B0.out.1⟩
  have z8 : (n : Int) = 0 := by omega
  by_cases m0 : n2 = 0
  rotate_left
  · have z9 : ((n2 : Int) == 0) = false := by rw [beq_eq_false_iff_ne]; omega
    have E : Hid (okB ⟨1, 0, 0, t, g, ss, is⟩ = false) := by
      cases h : okB ⟨1, 0, 0, t, g, ss, is⟩ with
      | false => exact rfl
      | true =>
        have o := ok_facts h
        simp only at o
        rw [ln.out.1, ln.out.2] at o
        clear ln B0 L h w
        omega
    rw [E.out]
    clear E
    clear g0
    clear t5
    clear n0
    clear m0
    go_enter Tryd.func47, Tryd.ntmps47
    go_wp2
    go_ret
    exact ⟨rfl, B0.out.1⟩
  have z9 : (n2 : Int) = 0 := by omega
  have E : Hid (okB ⟨1, 0, 0, t, g, ss, is⟩ = true) := by
    show _ = _
    rw [okB_1, ln.out.1, ln.out.2]
    unfold smB
    clear ln B0 L w
    simp [*]
  rw [E.out]
  clear E
  clear g0
  clear t5
  clear n0
  clear m0
  go_enter Tryd.func47, Tryd.ntmps47
  go_wp2
  go_ret
  exact ⟨rfl, B0.out.1⟩
end Go.Proofs.YtbogoheigbiegaaDoor.Mai
namespace Go.Proofs.YtbogoheigbiegaaDoor.Mai
open Go.RowKit Go.Proofs.Fd Go.Proofs.Ml
set_option maxRecDepth 20000
set_option maxHeartbeats 8000000 in
theorem rcheck_2 (k u q : Int) (t g : ByteArray) (a : Option Addr) (n c : Nat) (a2 : Option Addr) (n2 c2 : Nat) (ss : List Sl) (is : List ByteArray) (w : World) (L : Hid (Lists w a n c a2 n2 c2 ss is)) (h2 : k = 2) :
    Calls Tryd.prog 47 #[mv k u q t g a n c a2 n2 c2] w fun e w' => e = .returned (.int .i64 (chkE (okB ⟨k, u, q, t, g, ss, is⟩))) ∧ Below w.heap.size w w' := by
  have B0 : Hid (Below w.heap.size w (w.alloc (.cells #[.int .i64 k, .int .i64 u, .int .i64 q, .string t, .string g, .slice a n c, .slice a2 n2 c2] 38)) ∧ MlAt (w.alloc (.cells #[.int .i64 k, .int .i64 u, .int .i64 q, .string t, .string g, .slice a n c, .slice a2 n2 c2] 38)) w.heap.size k u q t g a n c a2 n2 c2) := ⟨(Below.refl _ _).alloc (Nat.le_refl _) _, MlAt.new w _ _ _ _ _ _ _ _ _ _ _ _⟩
  have ln : Hid (ss.length = n ∧ is.length = n2) := ⟨L.out.ls, L.out.li⟩
  subst h2
  by_cases w1 : 0 ≤ u
  rotate_left
  · skip
    have E : Hid (okB ⟨2, u, q, t, g, ss, is⟩ = false) := by
      cases h : okB ⟨2, u, q, t, g, ss, is⟩ with
      | false => exact rfl
      | true =>
        have o := ok_facts h
        simp only at o
        rw [ln.out.1, ln.out.2] at o
        clear ln B0 L h w
        omega
    rw [E.out]
    clear E
    go_enter Tryd.func47, Tryd.ntmps47
    go_wp2
    go_ret
    exact ⟨rfl, B0.out.1⟩
  by_cases w2 : u < 64
  rotate_left
  · skip
    have E : Hid (okB ⟨2, u, q, t, g, ss, is⟩ = false) := by
      cases h : okB ⟨2, u, q, t, g, ss, is⟩ with
      | false => exact rfl
      | true =>
        have o := ok_facts h
        simp only at o
        rw [ln.out.1, ln.out.2] at o
        clear ln B0 L h w
        omega
    rw [E.out]
    clear E
    go_enter Tryd.func47, Tryd.ntmps47
    go_wp2
    go_ret
    exact ⟨rfl, B0.out.1⟩
  by_cases w3 : 1 ≤ q
  rotate_left
  · skip
    have E : Hid (okB ⟨2, u, q, t, g, ss, is⟩ = false) := by
      cases h : okB ⟨2, u, q, t, g, ss, is⟩ with
      | false => exact rfl
      | true =>
        have o := ok_facts h
        simp only at o
        rw [ln.out.1, ln.out.2] at o
        clear ln B0 L h w
        omega
    rw [E.out]
    clear E
    go_enter Tryd.func47, Tryd.ntmps47
    go_wp2
    go_ret
    exact ⟨rfl, B0.out.1⟩
  by_cases w4 : q ≤ 2147483647
  rotate_left
  · skip
    have E : Hid (okB ⟨2, u, q, t, g, ss, is⟩ = false) := by
      cases h : okB ⟨2, u, q, t, g, ss, is⟩ with
      | false => exact rfl
      | true =>
        have o := ok_facts h
        simp only at o
        rw [ln.out.1, ln.out.2] at o
        clear ln B0 L h w
        omega
    rw [E.out]
    clear E
    go_enter Tryd.func47, Tryd.ntmps47
    go_wp2
    go_ret
    exact ⟨rfl, B0.out.1⟩
  by_cases w5 : t.size = 0
  rotate_left
  · have z5 : (t.toList == []) = false := by rw [size_toList, decide_eq_false w5]
    have E : Hid (okB ⟨2, u, q, t, g, ss, is⟩ = false) := by
      cases h : okB ⟨2, u, q, t, g, ss, is⟩ with
      | false => exact rfl
      | true =>
        have o := ok_facts h
        simp only at o
        rw [ln.out.1, ln.out.2] at o
        clear ln B0 L h w
        omega
    rw [E.out]
    clear E
    clear w5
    go_enter Tryd.func47, Tryd.ntmps47
    go_wp2
    go_ret
    exact ⟨rfl, B0.out.1⟩
  have z5 : (t.toList == []) = true := by rw [size_toList, decide_eq_true w5]
  by_cases g3 : g.size = 32
  rotate_left
  · have z10 : ((g.size : Int) == 32) = false := by rw [beq_eq_false_iff_ne]; omega
    have E : Hid (okB ⟨2, u, q, t, g, ss, is⟩ = false) := by
      cases h : okB ⟨2, u, q, t, g, ss, is⟩ with
      | false => exact rfl
      | true =>
        have o := ok_facts h
        simp only at o
        rw [ln.out.1, ln.out.2] at o
        clear ln B0 L h w
        omega
    rw [E.out]
    clear E
    clear w5
    clear g3
    go_enter Tryd.func47, Tryd.ntmps47
    go_wp2
    go_ret
    exact ⟨rfl, B0.out.1⟩
  have z10 : (g.size : Int) = 32 := by omega
  by_cases n0 : n = 0
  rotate_left
  · have z8 : ((n : Int) == 0) = false := by rw [beq_eq_false_iff_ne]; omega
    have E : Hid (okB ⟨2, u, q, t, g, ss, is⟩ = false) := by
      cases h : okB ⟨2, u, q, t, g, ss, is⟩ with
      | false => exact rfl
      | true =>
        have o := ok_facts h
        simp only at o
        rw [ln.out.1, ln.out.2] at o
        clear ln B0 L h w
        omega
    rw [E.out]
    clear E
    clear w5
    clear g3
    clear n0
    go_enter Tryd.func47, Tryd.ntmps47
    go_wp2
    go_ret
    exact ⟨rfl, B0.out.1⟩
  have z8 : (n : Int) = 0 := by omega
  by_cases m0 : n2 = 0
  rotate_left
  · have z9 : ((n2 : Int) == 0) = false := by rw [beq_eq_false_iff_ne]; omega
    have E : Hid (okB ⟨2, u, q, t, g, ss, is⟩ = false) := by
      cases h : okB ⟨2, u, q, t, g, ss, is⟩ with
      | false => exact rfl
      | true =>
        have o := ok_facts h
        simp only at o
        rw [ln.out.1, ln.out.2] at o
        clear ln B0 L h w
        omega
    rw [E.out]
    clear E
    clear w5
    clear g3
    clear n0
    clear m0
    go_enter Tryd.func47, Tryd.ntmps47
    go_wp2
    go_ret
    exact ⟨rfl, B0.out.1⟩
  have z9 : (n2 : Int) = 0 := by omega
  have E : Hid (okB ⟨2, u, q, t, g, ss, is⟩ = true) := by
    show _ = _
    rw [okB_2, ln.out.1, ln.out.2]
    unfold nmB smB
    clear ln B0 L w
    simp [*]
  rw [E.out]
  clear E
  clear w5
  clear g3
  clear n0
  clear m0
  go_enter Tryd.func47, Tryd.ntmps47
  go_wp2
  go_ret
  exact ⟨rfl, B0.out.1⟩
end Go.Proofs.YtbogoheigbiegaaDoor.Mai
namespace Go.Proofs.YtbogoheigbiegaaDoor.Mai
open Go.RowKit Go.Proofs.Fd Go.Proofs.Ml
set_option maxRecDepth 20000
set_option maxHeartbeats 8000000 in
theorem rcheck_3 (k u q : Int) (t g : ByteArray) (a : Option Addr) (n c : Nat) (a2 : Option Addr) (n2 c2 : Nat) (ss : List Sl) (is : List ByteArray) (w : World) (L : Hid (Lists w a n c a2 n2 c2 ss is)) (h3 : k = 3) :
    Calls Tryd.prog 47 #[mv k u q t g a n c a2 n2 c2] w fun e w' => e = .returned (.int .i64 (chkE (okB ⟨k, u, q, t, g, ss, is⟩))) ∧ Below w.heap.size w w' := by
  have B0 : Hid (Below w.heap.size w (w.alloc (.cells #[.int .i64 k, .int .i64 u, .int .i64 q, .string t, .string g, .slice a n c, .slice a2 n2 c2] 38)) ∧ MlAt (w.alloc (.cells #[.int .i64 k, .int .i64 u, .int .i64 q, .string t, .string g, .slice a n c, .slice a2 n2 c2] 38)) w.heap.size k u q t g a n c a2 n2 c2) := ⟨(Below.refl _ _).alloc (Nat.le_refl _) _, MlAt.new w _ _ _ _ _ _ _ _ _ _ _ _⟩
  have ln : Hid (ss.length = n ∧ is.length = n2) := ⟨L.out.ls, L.out.li⟩
  subst h3
  by_cases w1 : 0 ≤ u
  rotate_left
  · skip
    have E : Hid (okB ⟨3, u, q, t, g, ss, is⟩ = false) := by
      cases h : okB ⟨3, u, q, t, g, ss, is⟩ with
      | false => exact rfl
      | true =>
        have o := ok_facts h
        simp only at o
        rw [ln.out.1, ln.out.2] at o
        clear ln B0 L h w
        omega
    rw [E.out]
    clear E
    go_enter Tryd.func47, Tryd.ntmps47
    go_wp2
    go_ret
    exact ⟨rfl, B0.out.1⟩
  by_cases w2 : u < 64
  rotate_left
  · skip
    have E : Hid (okB ⟨3, u, q, t, g, ss, is⟩ = false) := by
      cases h : okB ⟨3, u, q, t, g, ss, is⟩ with
      | false => exact rfl
      | true =>
        have o := ok_facts h
        simp only at o
        rw [ln.out.1, ln.out.2] at o
        clear ln B0 L h w
        omega
    rw [E.out]
    clear E
    go_enter Tryd.func47, Tryd.ntmps47
    go_wp2
    go_ret
    exact ⟨rfl, B0.out.1⟩
  by_cases w3 : 1 ≤ q
  rotate_left
  · skip
    have E : Hid (okB ⟨3, u, q, t, g, ss, is⟩ = false) := by
      cases h : okB ⟨3, u, q, t, g, ss, is⟩ with
      | false => exact rfl
      | true =>
        have o := ok_facts h
        simp only at o
        rw [ln.out.1, ln.out.2] at o
        clear ln B0 L h w
        omega
    rw [E.out]
    clear E
    go_enter Tryd.func47, Tryd.ntmps47
    go_wp2
    go_ret
    exact ⟨rfl, B0.out.1⟩
  by_cases w4 : q ≤ 2147483647
  rotate_left
  · skip
    have E : Hid (okB ⟨3, u, q, t, g, ss, is⟩ = false) := by
      cases h : okB ⟨3, u, q, t, g, ss, is⟩ with
      | false => exact rfl
      | true =>
        have o := ok_facts h
        simp only at o
        rw [ln.out.1, ln.out.2] at o
        clear ln B0 L h w
        omega
    rw [E.out]
    clear E
    go_enter Tryd.func47, Tryd.ntmps47
    go_wp2
    go_ret
    exact ⟨rfl, B0.out.1⟩
  by_cases w5 : t.size = 0
  rotate_left
  · have z5 : (t.toList == []) = false := by rw [size_toList, decide_eq_false w5]
    have E : Hid (okB ⟨3, u, q, t, g, ss, is⟩ = false) := by
      cases h : okB ⟨3, u, q, t, g, ss, is⟩ with
      | false => exact rfl
      | true =>
        have o := ok_facts h
        simp only at o
        rw [ln.out.1, ln.out.2] at o
        clear ln B0 L h w
        omega
    rw [E.out]
    clear E
    clear w5
    go_enter Tryd.func47, Tryd.ntmps47
    go_wp2
    go_ret
    exact ⟨rfl, B0.out.1⟩
  have z5 : (t.toList == []) = true := by rw [size_toList, decide_eq_true w5]
  by_cases g0 : g.size = 0
  rotate_left
  · have z6 : (g.toList == []) = false := by rw [size_toList, decide_eq_false g0]
    have E : Hid (okB ⟨3, u, q, t, g, ss, is⟩ = false) := by
      cases h : okB ⟨3, u, q, t, g, ss, is⟩ with
      | false => exact rfl
      | true =>
        have o := ok_facts h
        simp only at o
        rw [ln.out.1, ln.out.2] at o
        clear ln B0 L h w
        omega
    rw [E.out]
    clear E
    clear w5
    clear g0
    go_enter Tryd.func47, Tryd.ntmps47
    go_wp2
    go_ret
    exact ⟨rfl, B0.out.1⟩
  have z6 : (g.toList == []) = true := by rw [size_toList, decide_eq_true g0]
  have SL := fun w hh => rslots_any a ss n c ln.out.1 w hh
  obtain ⟨d, hd⟩ : ∃ d, (decide (n = 4) && slB ss false) = d := ⟨_, rfl⟩
  rw [hd] at SL
  have E : Hid (okB ⟨3, u, q, t, g, ss, is⟩ = (d && decide (n2 ≤ 0))) := by
    show _ = _
    rw [okB_3, ln.out.1, ln.out.2, ← hd]
    unfold nmB smB
    simp only [decide_eq_true w1, decide_eq_true w2, decide_eq_true w3, decide_eq_true w4, decide_eq_true w5, decide_eq_true g0, Bool.true_and]
    cases decide (n = 4) <;> cases decide (n2 ≤ 0) <;> cases slB ss false <;> rfl
  rw [E.out]
  clear E hd
  clear w5
  clear g0
  by_cases m0 : n2 = 0
  · have z9 : (n2 : Int) = 0 := by omega
    rw [show decide (n2 ≤ 0) = true from decide_eq_true (by omega)]
    clear m0
    go_enter Tryd.func47, Tryd.ntmps47
    go_wp2_with fail
    refine Calls.mono (SL _ (L.out.later B0.out.1).s) ?_
    rintro e w1 ⟨rfl, hb1⟩
    have B1 : Hid (Below w.heap.size w w1 ∧ MlAt w1 w.heap.size 3 u q t g a n c a2 n2 c2) := ⟨chain B0.out.1 hb1, B0.out.2.later hb1⟩
    clear hb1 SL
    obtain ⟨-, p0, p1, p2, p3, p4, p5, p6⟩ := B1.out.2
    cases d with
    | false =>
      go_wp2
      go_ret
      exact ⟨rfl, B1.out.1⟩
    | true =>
      go_wp2
      go_ret
      exact ⟨rfl, B1.out.1⟩
  · have z9 : ((n2 : Int) == 0) = false := by rw [beq_eq_false_iff_ne]; omega
    rw [show decide (n2 ≤ 0) = false from decide_eq_false (by omega)]
    clear m0
    go_enter Tryd.func47, Tryd.ntmps47
    go_wp2_with fail
    refine Calls.mono (SL _ (L.out.later B0.out.1).s) ?_
    rintro e w1 ⟨rfl, hb1⟩
    have B1 : Hid (Below w.heap.size w w1 ∧ MlAt w1 w.heap.size 3 u q t g a n c a2 n2 c2) := ⟨chain B0.out.1 hb1, B0.out.2.later hb1⟩
    clear hb1 SL
    obtain ⟨-, p0, p1, p2, p3, p4, p5, p6⟩ := B1.out.2
    cases d with
    | false =>
      go_wp2
      go_ret
      exact ⟨rfl, B1.out.1⟩
    | true =>
      go_wp2
      go_ret
      exact ⟨rfl, B1.out.1⟩
end Go.Proofs.YtbogoheigbiegaaDoor.Mai
namespace Go.Proofs.YtbogoheigbiegaaDoor.Mai
open Go.RowKit Go.Proofs.Fd Go.Proofs.Ml
set_option maxRecDepth 20000
set_option maxHeartbeats 8000000 in
theorem rcheck_4 (k u q : Int) (t g : ByteArray) (a : Option Addr) (n c : Nat) (a2 : Option Addr) (n2 c2 : Nat) (ss : List Sl) (is : List ByteArray) (w : World) (L : Hid (Lists w a n c a2 n2 c2 ss is)) (h4 : k = 4) :
    Calls Tryd.prog 47 #[mv k u q t g a n c a2 n2 c2] w fun e w' => e = .returned (.int .i64 (chkE (okB ⟨k, u, q, t, g, ss, is⟩))) ∧ Below w.heap.size w w' := by
  have B0 : Hid (Below w.heap.size w (w.alloc (.cells #[.int .i64 k, .int .i64 u, .int .i64 q, .string t, .string g, .slice a n c, .slice a2 n2 c2] 38)) ∧ MlAt (w.alloc (.cells #[.int .i64 k, .int .i64 u, .int .i64 q, .string t, .string g, .slice a n c, .slice a2 n2 c2] 38)) w.heap.size k u q t g a n c a2 n2 c2) := ⟨(Below.refl _ _).alloc (Nat.le_refl _) _, MlAt.new w _ _ _ _ _ _ _ _ _ _ _ _⟩
  have ln : Hid (ss.length = n ∧ is.length = n2) := ⟨L.out.ls, L.out.li⟩
  subst h4
  by_cases w1 : 0 ≤ u
  rotate_left
  · skip
    have E : Hid (okB ⟨4, u, q, t, g, ss, is⟩ = false) := by
      cases h : okB ⟨4, u, q, t, g, ss, is⟩ with
      | false => exact rfl
      | true =>
        have o := ok_facts h
        simp only at o
        rw [ln.out.1, ln.out.2] at o
        clear ln B0 L h w
        omega
    rw [E.out]
    clear E
    go_enter Tryd.func47, Tryd.ntmps47
    go_wp2
    go_ret
    exact ⟨rfl, B0.out.1⟩
  by_cases w2 : u < 64
  rotate_left
  · skip
    have E : Hid (okB ⟨4, u, q, t, g, ss, is⟩ = false) := by
      cases h : okB ⟨4, u, q, t, g, ss, is⟩ with
      | false => exact rfl
      | true =>
        have o := ok_facts h
        simp only at o
        rw [ln.out.1, ln.out.2] at o
        clear ln B0 L h w
        omega
    rw [E.out]
    clear E
    go_enter Tryd.func47, Tryd.ntmps47
    go_wp2
    go_ret
    exact ⟨rfl, B0.out.1⟩
  by_cases w3 : 1 ≤ q
  rotate_left
  · skip
    have E : Hid (okB ⟨4, u, q, t, g, ss, is⟩ = false) := by
      cases h : okB ⟨4, u, q, t, g, ss, is⟩ with
      | false => exact rfl
      | true =>
        have o := ok_facts h
        simp only at o
        rw [ln.out.1, ln.out.2] at o
        clear ln B0 L h w
        omega
    rw [E.out]
    clear E
    go_enter Tryd.func47, Tryd.ntmps47
    go_wp2
    go_ret
    exact ⟨rfl, B0.out.1⟩
  by_cases w4 : q ≤ 2147483647
  rotate_left
  · skip
    have E : Hid (okB ⟨4, u, q, t, g, ss, is⟩ = false) := by
      cases h : okB ⟨4, u, q, t, g, ss, is⟩ with
      | false => exact rfl
      | true =>
        have o := ok_facts h
        simp only at o
        rw [ln.out.1, ln.out.2] at o
        clear ln B0 L h w
        omega
    rw [E.out]
    clear E
    go_enter Tryd.func47, Tryd.ntmps47
    go_wp2
    go_ret
    exact ⟨rfl, B0.out.1⟩
  by_cases w5 : t.size = 0
  rotate_left
  · have z5 : (t.toList == []) = false := by rw [size_toList, decide_eq_false w5]
    have E : Hid (okB ⟨4, u, q, t, g, ss, is⟩ = false) := by
      cases h : okB ⟨4, u, q, t, g, ss, is⟩ with
      | false => exact rfl
      | true =>
        have o := ok_facts h
        simp only at o
        rw [ln.out.1, ln.out.2] at o
        clear ln B0 L h w
        omega
    rw [E.out]
    clear E
    clear w5
    go_enter Tryd.func47, Tryd.ntmps47
    go_wp2
    go_ret
    exact ⟨rfl, B0.out.1⟩
  have z5 : (t.toList == []) = true := by rw [size_toList, decide_eq_true w5]
  by_cases g3 : g.size = 32
  rotate_left
  · have z10 : ((g.size : Int) == 32) = false := by rw [beq_eq_false_iff_ne]; omega
    have E : Hid (okB ⟨4, u, q, t, g, ss, is⟩ = false) := by
      cases h : okB ⟨4, u, q, t, g, ss, is⟩ with
      | false => exact rfl
      | true =>
        have o := ok_facts h
        simp only at o
        rw [ln.out.1, ln.out.2] at o
        clear ln B0 L h w
        omega
    rw [E.out]
    clear E
    clear w5
    clear g3
    go_enter Tryd.func47, Tryd.ntmps47
    go_wp2
    go_ret
    exact ⟨rfl, B0.out.1⟩
  have z10 : (g.size : Int) = 32 := by omega
  by_cases n0 : n = 0
  rotate_left
  · have z8 : ((n : Int) == 0) = false := by rw [beq_eq_false_iff_ne]; omega
    have E : Hid (okB ⟨4, u, q, t, g, ss, is⟩ = false) := by
      cases h : okB ⟨4, u, q, t, g, ss, is⟩ with
      | false => exact rfl
      | true =>
        have o := ok_facts h
        simp only at o
        rw [ln.out.1, ln.out.2] at o
        clear ln B0 L h w
        omega
    rw [E.out]
    clear E
    clear w5
    clear g3
    clear n0
    go_enter Tryd.func47, Tryd.ntmps47
    go_wp2
    go_ret
    exact ⟨rfl, B0.out.1⟩
  have z8 : (n : Int) = 0 := by omega
  have SL := fun w hh => rids_any a2 is n2 c2 ln.out.2 L.out.mi w hh
  obtain ⟨d, hd⟩ : ∃ d, (idsB is && decide (n2 ≤ 4)) = d := ⟨_, rfl⟩
  rw [hd] at SL
  have E : Hid (okB ⟨4, u, q, t, g, ss, is⟩ = d) := by
    show _ = _
    rw [okB_4, ln.out.1, ln.out.2, ← hd]
    unfold nmB smB
    simp only [decide_eq_true w1, decide_eq_true w2, decide_eq_true w3, decide_eq_true w4, decide_eq_true w5, decide_eq_true g3, decide_eq_true n0, Bool.true_and]
    cases decide (n2 ≤ 4) <;> cases idsB is <;> rfl
  rw [E.out]
  clear E hd
  clear w5
  clear g3
  clear n0
  go_enter Tryd.func47, Tryd.ntmps47
  go_wp2_with fail
  refine Calls.mono (SL _ (L.out.later B0.out.1).i) ?_
  rintro e w1 ⟨rfl, hb1⟩
  have B1 : Hid (Below w.heap.size w w1) := chain B0.out.1 hb1
  clear hb1 SL
  cases d with
  | false =>
    go_wp2
    go_ret
    exact ⟨rfl, B1.out⟩
  | true =>
    go_wp2
    go_ret
    exact ⟨rfl, B1.out⟩
end Go.Proofs.YtbogoheigbiegaaDoor.Mai
