/- CurveTimes and CurveShared answer true. -/
import Derived.Test.YtdebfelgaiofeaaD5
import Derived.Test.YtdebfelgaiofeaaC8
namespace Go.Proofs.Ytdebfelgaiofeaa
open Go.RowKit Go.Proofs.Fd Go.Proofs.Ed

/-- Two functions of two texts that answer alike. -/
def Alike2 (f g : FuncId) (k u : ByteArray) : Prop := ∃ (X : ByteArray) (e : Int), (∀ w, Calls Try.prog f #[.string k, .string u] w fun r w' => r = .returned (.tuple #[.string X, .int .i64 e]) ∧ Below w.heap.size w w') ∧ (∀ w, Calls Try.prog g #[.string k, .string u] w fun r w' => r = .returned (.tuple #[.string X, .int .i64 e]) ∧ Below w.heap.size w w')
def Alike1 (f g : FuncId) (k : ByteArray) : Prop := ∃ (X : ByteArray) (e : Int), (∀ w, Calls Try.prog f #[.string k] w fun r w' => r = .returned (.tuple #[.string X, .int .i64 e]) ∧ Below w.heap.size w w') ∧ (∀ w, Calls Try.prog g #[.string k] w fun r w' => r = .returned (.tuple #[.string X, .int .i64 e]) ∧ Below w.heap.size w w')

theorem times_alike (k u : ByteArray) : Alike2 9 10 k u := by
  by_cases h : k.size = 32 ∧ u.size = 32
  · exact ⟨_, _, Times_ok k u h.1 h.2, rTimes_ok k u h.1 h.2⟩
  · exact ⟨_, _, Times_no k u h, rTimes_no k u h⟩
theorem clamp_alike (k : ByteArray) : Alike1 11 12 k := by
  by_cases h : k.size = 32
  · exact ⟨_, _, Clamp_ok k h, rClamp_ok k h⟩
  · exact ⟨_, _, Clamp_no k h, rClamp_no k h⟩
theorem shared_alike (k u : ByteArray) : Alike2 14 15 k u := by
  by_cases h : k.size = 32 ∧ u.size = 32
  · by_cases h0 : tm k u = 0
    · exact ⟨_, _, Shared_weak k u h.1 h.2 h0, rShared_weak k u h.1 h.2 h0⟩
    · exact ⟨_, _, Shared_ok k u h.1 h.2 h0, rShared_ok k u h.1 h.2 h0⟩
  · exact ⟨_, _, Shared_no k u h, rShared_no k u h⟩
theorem public_alike (k : ByteArray) : Alike1 16 17 k := by
  by_cases h : k.size = 32
  · exact ⟨_, _, Public_ok k h, rPublic_ok k h⟩
  · exact ⟨_, _, Public_no k h, rPublic_no k h⟩

set_option maxHeartbeats 1000000 in
theorem CurveTimes_walk (k u : ByteArray) (w : World) :
    Calls Try.prog 3 #[.string k, .string u] w fun e w' => e = .returned (.bool true) ∧ Below w.heap.size w w' := by
  obtain ⟨X, e1, h1, h2⟩ := times_alike k u
  obtain ⟨Y, e2, h3, h4⟩ := clamp_alike k
  have H1 : Hid (∀ w, Calls Try.prog 9 #[.string k, .string u] w fun r w' => r = .returned (.tuple #[.string X, .int .i64 e1]) ∧ Below w.heap.size w w') := h1
  have H2 : Hid (∀ w, Calls Try.prog 10 #[.string k, .string u] w fun r w' => r = .returned (.tuple #[.string X, .int .i64 e1]) ∧ Below w.heap.size w w') := h2
  have H3 : Hid (∀ w, Calls Try.prog 11 #[.string k] w fun r w' => r = .returned (.tuple #[.string Y, .int .i64 e2]) ∧ Below w.heap.size w w') := h3
  have H4 : Hid (∀ w, Calls Try.prog 12 #[.string k] w fun r w' => r = .returned (.tuple #[.string Y, .int .i64 e2]) ∧ Below w.heap.size w w') := h4
  clear h1 h2 h3 h4
  go_enter Try.func3, Try.ntmps3
  go_wp2_with fail
  refine Calls.mono (H1.out _) ?_
  rintro e w1 ⟨rfl, hb⟩
  have B1 : Hid (Below w.heap.size w w1) := hb
  clear hb
  go_wp2_with fail
  refine Calls.mono (H2.out _) ?_
  rintro e w2 ⟨rfl, hb⟩
  have B2 : Hid (Below w.heap.size w w2) := chain B1.out hb
  clear hb
  go_wp2_with fail
  refine Calls.mono (H3.out _) ?_
  rintro e w3 ⟨rfl, hb⟩
  have B3 : Hid (Below w.heap.size w w3) := chain B2.out hb
  clear hb
  go_wp2_with fail
  refine Calls.mono (H4.out _) ?_
  rintro e w4 ⟨rfl, hb⟩
  have B4 : Hid (Below w.heap.size w w4) := chain B3.out hb
  clear hb
  go_wp2_with fail
  refine Calls.mono (works_any _) ?_
  rintro e w5 ⟨rfl, hb⟩
  have B5 : Hid (Below w.heap.size w w5) := chain B4.out hb
  clear hb
  go_wp2
  go_ret
  exact ⟨rfl, B5.out⟩

set_option maxHeartbeats 1000000 in
theorem CurveShared_walk (k u : ByteArray) (w : World) :
    Calls Try.prog 4 #[.string k, .string u] w fun e w' => e = .returned (.bool true) ∧ Below w.heap.size w w' := by
  obtain ⟨X, e1, h1, h2⟩ := shared_alike k u
  obtain ⟨Y, e2, h3, h4⟩ := public_alike k
  have H1 : Hid (∀ w, Calls Try.prog 14 #[.string k, .string u] w fun r w' => r = .returned (.tuple #[.string X, .int .i64 e1]) ∧ Below w.heap.size w w') := h1
  have H2 : Hid (∀ w, Calls Try.prog 15 #[.string k, .string u] w fun r w' => r = .returned (.tuple #[.string X, .int .i64 e1]) ∧ Below w.heap.size w w') := h2
  have H3 : Hid (∀ w, Calls Try.prog 16 #[.string k] w fun r w' => r = .returned (.tuple #[.string Y, .int .i64 e2]) ∧ Below w.heap.size w w') := h3
  have H4 : Hid (∀ w, Calls Try.prog 17 #[.string k] w fun r w' => r = .returned (.tuple #[.string Y, .int .i64 e2]) ∧ Below w.heap.size w w') := h4
  clear h1 h2 h3 h4
  go_enter Try.func4, Try.ntmps4
  go_wp2_with fail
  refine Calls.mono (H1.out _) ?_
  rintro e w1 ⟨rfl, hb⟩
  have B1 : Hid (Below w.heap.size w w1) := hb
  clear hb
  go_wp2_with fail
  refine Calls.mono (H2.out _) ?_
  rintro e w2 ⟨rfl, hb⟩
  have B2 : Hid (Below w.heap.size w w2) := chain B1.out hb
  clear hb
  go_wp2_with fail
  refine Calls.mono (H3.out _) ?_
  rintro e w3 ⟨rfl, hb⟩
  have B3 : Hid (Below w.heap.size w w3) := chain B2.out hb
  clear hb
  go_wp2_with fail
  refine Calls.mono (H4.out _) ?_
  rintro e w4 ⟨rfl, hb⟩
  have B4 : Hid (Below w.heap.size w w4) := chain B3.out hb
  clear hb
  go_wp2_with fail
  refine Calls.mono (works_any _) ?_
  rintro e w5 ⟨rfl, hb⟩
  have B5 : Hid (Below w.heap.size w w5) := chain B4.out hb
  clear hb
  go_wp2
  go_ret
  exact ⟨rfl, B5.out⟩
end Go.Proofs.Ytdebfelgaiofeaa
