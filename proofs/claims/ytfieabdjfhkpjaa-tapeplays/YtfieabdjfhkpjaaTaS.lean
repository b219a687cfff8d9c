/- A call of both tapes: they answer alike. -/
import Derived.Test.YtfieabdjfhkpjaaTaE
import Derived.Test.YtfieabdjfhkpjaaTaW
namespace Go.Proofs.Ytfieabdjfhkpjaa
open Go.RowKit Go.Proofs.Fd Go.Proofs.Ta
set_option maxRecDepth 20000

/-- Both go on alike. -/
def Both (w : World) (p d : Nat) (e : Ending) (w' : World) : Prop := e = .returned (.bool true) ∧ ∃ m, TAt w' p m ∧ DAt w' d m ∧ But p d w w'
set_option maxHeartbeats 1000000 in
theorem step_0 (p d : Nat) (l : List UInt8) (x n : Int) (w : World) (hpd : p ≠ d) (hx : Hid (∀ w, Calls Try.prog 13 #[.int .i64 x, .int .i64 4] w fun e w' => e = .returned (.int .i64 0) ∧ w' = w)) (R : Hid (TAt w p l)) (D : Hid (DAt w d l)) :
    Calls Try.prog 11 #[.pointer (some ⟨p, 0, none⟩), .pointer (some ⟨d, 0, none⟩), .agg #[.int .i64 x, .int .i64 n]] w fun e w' => Both w p d e w' := by
  obtain ⟨W, hW⟩ : ∃ W, w.alloc (.cells #[.int .i64 x, .int .i64 n] 32) = W := ⟨_, rfl⟩
  have hB : Below w.heap.size w W := by rw [← hW]; exact (Below.refl _ w).alloc (Nat.le_refl _) _
  have c0 : W.cell? ⟨w.heap.size, 0, none⟩ = some (.int .i64 x) := by rw [← hW, World.cell?_alloc_new]; rfl
  have c1 : W.cell? ⟨w.heap.size, 1, none⟩ = some (.int .i64 n) := by rw [← hW, World.cell?_alloc_new]; rfl
  obtain ⟨b, hb⟩ : ∃ b, w.heap.size = b := ⟨_, rfl⟩
  have I : Hid (TAt W p l ∧ DAt W d l ∧ But p d w W ∧ p < b ∧ d < b) := ⟨R.out.later hB, D.out.later hB, But.of hB, by rw [← hb]; exact R.out.lt, by rw [← hb]; exact D.out.lt⟩
  have A1 := Below_any p l n W I.out.1
  have A2 : Hid (∀ w, DAt w d l → _) := fun w h => rbelow_any d l n w h
  obtain ⟨V, hV⟩ : ∃ V, belV n l = V := ⟨_, rfl⟩
  obtain ⟨E, hE⟩ : ∃ E, belE n l = E := ⟨_, rfl⟩
  obtain ⟨M, hM⟩ : ∃ M, belR n l = M := ⟨_, rfl⟩
  rw [hV, hE, hM] at A1
  have A2' : Hid (∀ w, DAt w d l → Calls Try.prog 21 #[.pointer (some ⟨d, 0, none⟩), .int .i64 n] w fun e w' => e = .returned (.tuple #[.int .i64 V, .int .i64 E]) ∧ DAt w' d M ∧ But d d w w') := by
    rw [← hV, ← hE, ← hM]; exact A2.out
  have H1 : Hid _ := A1
  rw [hb] at c0 c1
  clear A1 A2 hV hE hM hB R D
  go_enter Try.func11, Try.ntmps11
  go_wp2_with fail
  refine Calls.mono (hx.out _) ?_
  rintro e w1 ⟨rfl, hw⟩
  have hw' := hw.symm
  subst hw'
  clear hw hW hx
  go_wp2_with fail
  refine Calls.mono H1.out ?_
  rintro e w2 ⟨rfl, ht, hbt⟩
  have I2 : Hid (TAt w2 p M ∧ DAt w2 d l ∧ But p d w w2 ∧ p < b ∧ d < b) := by
    obtain ⟨i1, i2, i3, i4, i5⟩ := I.out
    exact ⟨ht, i2.apart hbt (Ne.symm hpd) (Ne.symm hpd), i3.trans ⟨hbt.os, hbt.tape, hbt.output, hbt.size, fun j hj hp _ => hbt.block j hj hp hp⟩, i4, i5⟩
  have k1 : w2.cell? ⟨b, 1, none⟩ = some (.int .i64 n) := hbt.cell c1 (show b ≠ p by have := I.out.2.2.2.1; omega) (show b ≠ p by have := I.out.2.2.2.1; omega)
  clear ht hbt H1 I c0 c1
  go_wp2_with fail
  refine Calls.mono (A2'.out _ I2.out.2.1) ?_
  rintro e w3 ⟨rfl, ht, hbt⟩
  have FI : Hid (∃ m, TAt w3 p m ∧ DAt w3 d m ∧ But p d w w3) := by
    obtain ⟨i1, i2, i3, i4, i5⟩ := I2.out
    exact ⟨M, i1.apart hbt hpd hpd, ht, i3.trans ⟨hbt.os, hbt.tape, hbt.output, hbt.size, fun j hj _ hg => hbt.block j hj hg hg⟩⟩
  clear ht hbt A2' I2 k1
  go_wp2
  go_ret
  exact ⟨rfl, FI.out⟩
set_option maxHeartbeats 1000000 in
theorem step_1 (p d : Nat) (l : List UInt8) (x n : Int) (w : World) (hpd : p ≠ d) (hx : Hid (∀ w, Calls Try.prog 13 #[.int .i64 x, .int .i64 4] w fun e w' => e = .returned (.int .i64 1) ∧ w' = w)) (R : Hid (TAt w p l)) (D : Hid (DAt w d l)) :
    Calls Try.prog 11 #[.pointer (some ⟨p, 0, none⟩), .pointer (some ⟨d, 0, none⟩), .agg #[.int .i64 x, .int .i64 n]] w fun e w' => Both w p d e w' := by
  obtain ⟨W, hW⟩ : ∃ W, w.alloc (.cells #[.int .i64 x, .int .i64 n] 32) = W := ⟨_, rfl⟩
  have hB : Below w.heap.size w W := by rw [← hW]; exact (Below.refl _ w).alloc (Nat.le_refl _) _
  have c0 : W.cell? ⟨w.heap.size, 0, none⟩ = some (.int .i64 x) := by rw [← hW, World.cell?_alloc_new]; rfl
  have c1 : W.cell? ⟨w.heap.size, 1, none⟩ = some (.int .i64 n) := by rw [← hW, World.cell?_alloc_new]; rfl
  obtain ⟨b, hb⟩ : ∃ b, w.heap.size = b := ⟨_, rfl⟩
  have I : Hid (TAt W p l ∧ DAt W d l ∧ But p d w W ∧ p < b ∧ d < b) := ⟨R.out.later hB, D.out.later hB, But.of hB, by rw [← hb]; exact R.out.lt, by rw [← hb]; exact D.out.lt⟩
  have A1 := Word_any p l W I.out.1
  have A2 : Hid (∀ w, DAt w d l → _) := fun w h => rword_any d l w h
  obtain ⟨V, hV⟩ : ∃ V, wordV l = V := ⟨_, rfl⟩
  obtain ⟨E, hE⟩ : ∃ E, wordE l = E := ⟨_, rfl⟩
  obtain ⟨M, hM⟩ : ∃ M, wordR l = M := ⟨_, rfl⟩
  rw [hV, hE, hM] at A1
  have A2' : Hid (∀ w, DAt w d l → Calls Try.prog 22 #[.pointer (some ⟨d, 0, none⟩)] w fun e w' => e = .returned (.tuple #[.int .i64 V, .int .i64 E]) ∧ DAt w' d M ∧ But d d w w') := by
    rw [← hV, ← hE, ← hM]; exact A2.out
  have H1 : Hid _ := A1
  rw [hb] at c0 c1
  clear A1 A2 hV hE hM hB R D
  go_enter Try.func11, Try.ntmps11
  go_wp2_with fail
  refine Calls.mono (hx.out _) ?_
  rintro e w1 ⟨rfl, hw⟩
  have hw' := hw.symm
  subst hw'
  clear hw hW hx
  go_wp2_with fail
  refine Calls.mono H1.out ?_
  rintro e w2 ⟨rfl, ht, hbt⟩
  have I2 : Hid (TAt w2 p M ∧ DAt w2 d l ∧ But p d w w2 ∧ p < b ∧ d < b) := by
    obtain ⟨i1, i2, i3, i4, i5⟩ := I.out
    exact ⟨ht, i2.apart hbt (Ne.symm hpd) (Ne.symm hpd), i3.trans ⟨hbt.os, hbt.tape, hbt.output, hbt.size, fun j hj hp _ => hbt.block j hj hp hp⟩, i4, i5⟩
  have k1 : w2.cell? ⟨b, 1, none⟩ = some (.int .i64 n) := hbt.cell c1 (show b ≠ p by have := I.out.2.2.2.1; omega) (show b ≠ p by have := I.out.2.2.2.1; omega)
  clear ht hbt H1 I c0 c1
  go_wp2_with fail
  refine Calls.mono (A2'.out _ I2.out.2.1) ?_
  rintro e w3 ⟨rfl, ht, hbt⟩
  have FI : Hid (∃ m, TAt w3 p m ∧ DAt w3 d m ∧ But p d w w3) := by
    obtain ⟨i1, i2, i3, i4, i5⟩ := I2.out
    exact ⟨M, i1.apart hbt hpd hpd, ht, i3.trans ⟨hbt.os, hbt.tape, hbt.output, hbt.size, fun j hj _ hg => hbt.block j hj hg hg⟩⟩
  clear ht hbt A2' I2 k1
  go_wp2
  go_ret
  exact ⟨rfl, FI.out⟩
set_option maxHeartbeats 1000000 in
theorem step_2 (p d : Nat) (l : List UInt8) (x n : Int) (w : World) (hpd : p ≠ d) (hx : Hid (∀ w, Calls Try.prog 13 #[.int .i64 x, .int .i64 4] w fun e w' => e = .returned (.int .i64 2) ∧ w' = w)) (R : Hid (TAt w p l)) (D : Hid (DAt w d l)) :
    Calls Try.prog 11 #[.pointer (some ⟨p, 0, none⟩), .pointer (some ⟨d, 0, none⟩), .agg #[.int .i64 x, .int .i64 n]] w fun e w' => Both w p d e w' := by
  obtain ⟨W, hW⟩ : ∃ W, w.alloc (.cells #[.int .i64 x, .int .i64 n] 32) = W := ⟨_, rfl⟩
  have hB : Below w.heap.size w W := by rw [← hW]; exact (Below.refl _ w).alloc (Nat.le_refl _) _
  have c0 : W.cell? ⟨w.heap.size, 0, none⟩ = some (.int .i64 x) := by rw [← hW, World.cell?_alloc_new]; rfl
  have c1 : W.cell? ⟨w.heap.size, 1, none⟩ = some (.int .i64 n) := by rw [← hW, World.cell?_alloc_new]; rfl
  obtain ⟨b, hb⟩ : ∃ b, w.heap.size = b := ⟨_, rfl⟩
  have I : Hid (TAt W p l ∧ DAt W d l ∧ But p d w W ∧ p < b ∧ d < b) := ⟨R.out.later hB, D.out.later hB, But.of hB, by rw [← hb]; exact R.out.lt, by rw [← hb]; exact D.out.lt⟩
  have A1 := Bytes_any p l n W I.out.1
  have A2 : Hid (∀ w, DAt w d l → _) := fun w h => rbytes_any d l n w h
  obtain ⟨V, hV⟩ : ∃ V, (⟨(bytV n l).toArray⟩ : ByteArray) = V := ⟨_, rfl⟩
  obtain ⟨E, hE⟩ : ∃ E, bytE n l = E := ⟨_, rfl⟩
  obtain ⟨M, hM⟩ : ∃ M, bytR n l = M := ⟨_, rfl⟩
  rw [hV, hE, hM] at A1
  have A2' : Hid (∀ w, DAt w d l → Calls Try.prog 23 #[.pointer (some ⟨d, 0, none⟩), .int .i64 n] w fun e w' => e = .returned (.tuple #[.string V, .int .i64 E]) ∧ DAt w' d M ∧ But d d w w') := by
    rw [← hV, ← hE, ← hM]; exact A2.out
  have H1 : Hid _ := A1
  rw [hb] at c0 c1
  clear A1 A2 hV hE hM hB R D
  go_enter Try.func11, Try.ntmps11
  go_wp2_with fail
  refine Calls.mono (hx.out _) ?_
  rintro e w1 ⟨rfl, hw⟩
  have hw' := hw.symm
  subst hw'
  clear hw hW hx
  go_wp2_with fail
  refine Calls.mono H1.out ?_
  rintro e w2 ⟨rfl, ht, hbt⟩
  have I2 : Hid (TAt w2 p M ∧ DAt w2 d l ∧ But p d w w2 ∧ p < b ∧ d < b) := by
    obtain ⟨i1, i2, i3, i4, i5⟩ := I.out
    exact ⟨ht, i2.apart hbt (Ne.symm hpd) (Ne.symm hpd), i3.trans ⟨hbt.os, hbt.tape, hbt.output, hbt.size, fun j hj hp _ => hbt.block j hj hp hp⟩, i4, i5⟩
  have k1 : w2.cell? ⟨b, 1, none⟩ = some (.int .i64 n) := hbt.cell c1 (show b ≠ p by have := I.out.2.2.2.1; omega) (show b ≠ p by have := I.out.2.2.2.1; omega)
  clear ht hbt H1 I c0 c1
  go_wp2_with fail
  refine Calls.mono (A2'.out _ I2.out.2.1) ?_
  rintro e w3 ⟨rfl, ht, hbt⟩
  have FI : Hid (∃ m, TAt w3 p m ∧ DAt w3 d m ∧ But p d w w3) := by
    obtain ⟨i1, i2, i3, i4, i5⟩ := I2.out
    exact ⟨M, i1.apart hbt hpd hpd, ht, i3.trans ⟨hbt.os, hbt.tape, hbt.output, hbt.size, fun j hj _ hg => hbt.block j hj hg hg⟩⟩
  clear ht hbt A2' I2 k1
  go_wp2
  go_ret
  exact ⟨rfl, FI.out⟩
set_option maxHeartbeats 1000000 in
theorem step_3 (p d : Nat) (l : List UInt8) (x n : Int) (w : World) (hpd : p ≠ d) (hx : Hid (∀ w, Calls Try.prog 13 #[.int .i64 x, .int .i64 4] w fun e w' => e = .returned (.int .i64 3) ∧ w' = w)) (R : Hid (TAt w p l)) (D : Hid (DAt w d l)) :
    Calls Try.prog 11 #[.pointer (some ⟨p, 0, none⟩), .pointer (some ⟨d, 0, none⟩), .agg #[.int .i64 x, .int .i64 n]] w fun e w' => Both w p d e w' := by
  obtain ⟨W, hW⟩ : ∃ W, w.alloc (.cells #[.int .i64 x, .int .i64 n] 32) = W := ⟨_, rfl⟩
  have hB : Below w.heap.size w W := by rw [← hW]; exact (Below.refl _ w).alloc (Nat.le_refl _) _
  have c0 : W.cell? ⟨w.heap.size, 0, none⟩ = some (.int .i64 x) := by rw [← hW, World.cell?_alloc_new]; rfl
  have c1 : W.cell? ⟨w.heap.size, 1, none⟩ = some (.int .i64 n) := by rw [← hW, World.cell?_alloc_new]; rfl
  obtain ⟨b, hb⟩ : ∃ b, w.heap.size = b := ⟨_, rfl⟩
  have I : Hid (TAt W p l ∧ DAt W d l ∧ But p d w W ∧ p < b ∧ d < b) := ⟨R.out.later hB, D.out.later hB, But.of hB, by rw [← hb]; exact R.out.lt, by rw [← hb]; exact D.out.lt⟩
  have A1 := Order_any p l n W I.out.1
  have A2 : Hid (∀ w, DAt w d l → _) := fun w h => rorder_any d l n w h
  have hV2 : (ordV n l).length ≤ 64 := by
    unfold ordV
    split
    · simp
    · split
      · simp
      · rw [ord_len]; omega
  obtain ⟨V, hV⟩ : ∃ V, ordV n l = V := ⟨_, rfl⟩
  obtain ⟨E, hE⟩ : ∃ E, ordE n l = E := ⟨_, rfl⟩
  obtain ⟨M, hM⟩ : ∃ M, ordR n l = M := ⟨_, rfl⟩
  rw [hV, hE, hM] at A1
  rw [hV] at hV2
  have A2' : Hid (∀ w, DAt w d l → Calls Try.prog 24 #[.pointer (some ⟨d, 0, none⟩), .int .i64 n] w fun e w' => ROrdP w d V E M e w') := by
    rw [← hV, ← hE, ← hM]; exact A2.out
  have H1 : Hid _ := A1
  rw [hb] at c0 c1
  clear A1 A2 hV hE hM hB R D
  go_enter Try.func11, Try.ntmps11
  go_wp2_with fail
  refine Calls.mono (hx.out _) ?_
  rintro e w1 ⟨rfl, hw⟩
  have hw' := hw.symm
  subst hw'
  clear hw hW hx
  go_wp2_with fail
  refine Calls.mono H1.out ?_
  rintro e w2 ⟨a1, cap1, rfl, hi1, hn1, ht, hbt⟩
  have I2 : Hid (TAt w2 p M ∧ DAt w2 d l ∧ But p d w w2 ∧ p < b ∧ d < b ∧ IntAt w2 a1 V ∧ New b a1) := by
    obtain ⟨i1, i2, i3, i4, i5⟩ := I.out
    exact ⟨ht, i2.apart hbt (Ne.symm hpd) (Ne.symm hpd), i3.trans ⟨hbt.os, hbt.tape, hbt.output, hbt.size, fun j hj hp _ => hbt.block j hj hp hp⟩, i4, i5, hi1, fun y hy => Nat.le_trans (by rw [← hb]; exact i3.size) (hn1 y hy)⟩
  have k1 : w2.cell? ⟨b, 1, none⟩ = some (.int .i64 n) := hbt.cell c1 (show b ≠ p by have := I.out.2.2.2.1; omega) (show b ≠ p by have := I.out.2.2.2.1; omega)
  clear ht hbt H1 I c0 c1 hi1 hn1
  go_wp2_with fail
  refine Calls.mono (A2'.out _ I2.out.2.1) ?_
  rintro e w3 ⟨a2, cap2, rfl, hi2, hn2, ht, hbt⟩
  have FI : Hid (TAt w3 p M ∧ DAt w3 d M ∧ But p d w w3) := by
    obtain ⟨i1, i2, i3, i4, i5, -⟩ := I2.out
    exact ⟨i1.apart hbt hpd hpd, ht, i3.trans ⟨hbt.os, hbt.tape, hbt.output, hbt.size, fun j hj _ hg => hbt.block j hj hg hg⟩⟩
  have J1 : Hid (IntAt w3 a1 V) := by
    obtain ⟨i1, i2, i3, i4, i5, i6, i7⟩ := I2.out
    exact i6.apart hbt i7 i5 i5
  have J2 : Hid (IntAt w3 a2 V) := hi2
  clear ht hbt A2' I2 k1 hi2 hn2
  go_wp2_with fail
  refine Calls.mono (same_ints a1 a2 V V.length cap1 cap2 rfl (by omega) w3 J1 J2) ?_
  rintro e w4 ⟨rfl, hb4⟩
  have FJ : Hid (∃ m, TAt w4 p m ∧ DAt w4 d m ∧ But p d w w4) := ⟨M, FI.out.1.later hb4, FI.out.2.1.later hb4, FI.out.2.2.later hb4⟩
  clear hb4 FI J1 J2
  go_wp2
  go_ret
  exact ⟨rfl, FJ.out⟩
theorem step_any (p d : Nat) (l : List UInt8) (x n : Int) (w : World) (hpd : p ≠ d) (R : Hid (TAt w p l)) (D : Hid (DAt w d l)) :
    Calls Try.prog 11 #[.pointer (some ⟨p, 0, none⟩), .pointer (some ⟨d, 0, none⟩), .agg #[.int .i64 x, .int .i64 n]] w fun e w' => Both w p d e w' := by
  obtain ⟨m, hm, hx⟩ := among_is x 4 (by decide) (by decide)
  rcases (by omega : m = 0 ∨ m = 1 ∨ m = 2 ∨ m = 3) with rfl | rfl | rfl | rfl
  · exact step_0 p d l x n w hpd hx R D
  · exact step_1 p d l x n w hpd hx R D
  · exact step_2 p d l x n w hpd hx R D
  · exact step_3 p d l x n w hpd hx R D
end Go.Proofs.Ytfieabdjfhkpjaa
