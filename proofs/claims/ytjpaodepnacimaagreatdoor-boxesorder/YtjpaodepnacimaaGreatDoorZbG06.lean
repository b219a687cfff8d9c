/- What mixed of the document does. -/
import Derived.Test.YtjpaodepnacimaaGreatDoorZbG05
import Derived.Test.YtjpaodepnacimaaGreatDoorZbG04
namespace Go.Proofs.YtjpaodepnacimaaGreatDoor
open Go.RowKit Go.Proofs.Fd Go.Proofs.Hs
attribute [local go_sem] not32 and32 or32 xor32 add32 add32'
structure Mx (w0 : World) (V S R g gk : Nat) (v s : V8) (W : List UInt32) (w : World) : Prop where
  v : At8 w V (.int .u32 (tv v.a)) (.int .u32 (tv v.b)) (.int .u32 (tv v.c)) (.int .u32 (tv v.d)) (.int .u32 (tv v.e)) (.int .u32 (tv v.f)) (.int .u32 (tv v.g)) (.int .u32 (tv v.h))
  s : At8 w S (.int .u32 (tv s.a)) (.int .u32 (tv s.b)) (.int .u32 (tv s.c)) (.int .u32 (tv s.d)) (.int .u32 (tv s.e)) (.int .u32 (tv s.f)) (.int .u32 (tv s.g)) (.int .u32 (tv s.h))
  r : At8 w R (.int .u32 0) (.int .u32 0) (.int .u32 0) (.int .u32 0) (.int .u32 0) (.int .u32 0) (.int .u32 0) (.int .u32 0)
  W : WordsAt w g W
  k : WordsAt w gk kst
  below : Below w0.heap.size w0 w
  ord : w0.heap.size ≤ V ∧ V < R ∧ R < g ∧ R < gk ∧ g < S ∧ gk < S
theorem Mx.drewN {w0 w : World} {V S R g gk : Nat} {v s : V8} {W : List UInt32} (h : Mx w0 V S R g gk v s W w) (n : Nat) : Mx w0 V S R g gk v s W (w.drewN n) := ⟨h.v, h.s, h.r, h.W, h.k, below_drewN h.below n, h.ord⟩
end Go.Proofs.YtjpaodepnacimaaGreatDoor
