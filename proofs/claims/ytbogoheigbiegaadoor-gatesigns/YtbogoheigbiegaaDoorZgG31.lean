/- Parts: MlT5, MlT. -/
import Derived.Test.YtbogoheigbiegaaDoorZgG29
import Derived.Test.YtbogoheigbiegaaDoorZgG30
namespace Go.Proofs.YtbogoheigbiegaaDoor.Mai
open Go.RowKit Go.Proofs.Fd Go.Proofs.Ml
set_option maxRecDepth 20000
set_option maxHeartbeats 8000000 in
theorem rcheck_5 (k u q : Int) (t g : ByteArray) (a : Option Addr) (n c : Nat) (a2 : Option Addr) (n2 c2 : Nat) (ss : List Sl) (is : List ByteArray) (w : World) (L : Hid (Lists w a n c a2 n2 c2 ss is)) (h1 : ¬ k = 1) (h2 : ¬ k = 2) (h3 : ¬ k = 3) (h4 : ¬ k = 4) :
    Calls Tryd.prog 47 #[mv k u q t g a n c a2 n2 c2] w fun e w' => e = .returned (.int .i64 (chkE (okB ⟨k, u, q, t, g, ss, is⟩))) ∧ Below w.heap.size w w' := by
  have B0 : Hid (Below w.heap.size w (w.alloc (.cells #[.int .i64 k, .int .i64 u, .int .i64 q, .string t, .string g, .slice a n c, .slice a2 n2 c2] 38)) ∧ MlAt (w.alloc (.cells #[.int .i64 k, .int .i64 u, .int .i64 q, .string t, .string g, .slice a n c, .slice a2 n2 c2] 38)) w.heap.size k u q t g a n c a2 n2 c2) := ⟨(Below.refl _ _).alloc (Nat.le_refl _) _, MlAt.new w _ _ _ _ _ _ _ _ _ _ _ _⟩
  have ln : Hid (ss.length = n ∧ is.length = n2) := ⟨L.out.ls, L.out.li⟩
  rw [okB_5 h1 h2 h3 h4]
  by_cases w1 : 0 ≤ u
  rotate_left
  · skip
    go_enter Tryd.func47, Tryd.ntmps47
    go_wp2
    go_ret
    exact ⟨rfl, B0.out.1⟩
  by_cases w2 : u < 64
  rotate_left
  · skip
    go_enter Tryd.func47, Tryd.ntmps47
    go_wp2
    go_ret
    exact ⟨rfl, B0.out.1⟩
  by_cases w3 : 1 ≤ q
  rotate_left
  · skip
    go_enter Tryd.func47, Tryd.ntmps47
    go_wp2
    go_ret
    exact ⟨rfl, B0.out.1⟩
  by_cases w4 : q ≤ 2147483647
  rotate_left
  · skip
    go_enter Tryd.func47, Tryd.ntmps47
    go_wp2
    go_ret
    exact ⟨rfl, B0.out.1⟩
  by_cases w5 : t.size = 0
  rotate_left
  · have z5 : (t.toList == []) = false := by rw [size_toList, decide_eq_false w5]
    go_enter Tryd.func47, Tryd.ntmps47
    go_wp2
    go_ret
    exact ⟨rfl, B0.out.1⟩
  have z5 : (t.toList == []) = true := by rw [size_toList, decide_eq_true w5]
  go_enter Tryd.func47, Tryd.ntmps47
  go_wp2
  go_ret
  exact ⟨rfl, B0.out.1⟩
end Go.Proofs.YtbogoheigbiegaaDoor.Mai
namespace Go.Proofs.YtbogoheigbiegaaDoor.Mai
open Go.RowKit Go.Proofs.Fd Go.Proofs.Ml
set_option maxRecDepth 20000
theorem rcheck_any (k u q : Int) (t g : ByteArray) (a : Option Addr) (n c : Nat) (a2 : Option Addr) (n2 c2 : Nat) (ss : List Sl) (is : List ByteArray) (w : World) (L : Hid (Lists w a n c a2 n2 c2 ss is)) :
    Calls Tryd.prog 47 #[mv k u q t g a n c a2 n2 c2] w fun e w' => e = .returned (.int .i64 (chkE (okB ⟨k, u, q, t, g, ss, is⟩))) ∧ Below w.heap.size w w' := by
  by_cases h1 : k = 1
  · exact rcheck_1 k u q t g a n c a2 n2 c2 ss is w L h1
  by_cases h2 : k = 2
  · exact rcheck_2 k u q t g a n c a2 n2 c2 ss is w L h2
  by_cases h3 : k = 3
  · exact rcheck_3 k u q t g a n c a2 n2 c2 ss is w L h3
  by_cases h4 : k = 4
  · exact rcheck_4 k u q t g a n c a2 n2 c2 ss is w L h4
  exact rcheck_5 k u q t g a n c a2 n2 c2 ss is w L h1 h2 h3 h4
end Go.Proofs.YtbogoheigbiegaaDoor.Mai
