/- The chapter's example. -/
import Derived.Test.YtecdjfafeeimfaaDeQ
namespace Go.Proofs.Ytecdjfafeeimfaa
open Go.RowKit Go.Proofs.Fd Go.Proofs.Ta Go.Proofs.De
set_option maxRecDepth 20000

theorem ex_tbl : tbl 1 4 = [4294967296, 2147483648, 1073741824, 536870912] := by decide +kernel
theorem ex_of : (ofV 1 3 2147483648 = 0 ∧ ofE 1 3 2147483648 = 0) ∧ (ofV 1 3 2147483647 = 1 ∧ ofE 1 3 2147483647 = 0) ∧ ofV 1 3 0 = 3 ∧ ofE 1 3 0 = 0 := by decide +kernel
theorem ex_table (w : World) : Calls Try.prog 8 #[.int .i64 1, .int .i64 3] w fun e w' => ∃ b o c, e = .returned (.tuple #[.slice (some ⟨b, o, none⟩) 4 c, .int .i64 0]) ∧ w'.cell? ⟨b, o + 0, none⟩ = some (.int .i64 4294967296) ∧ w'.cell? ⟨b, o + 3, none⟩ = some (.int .i64 536870912) ∧ Below w.heap.size w w' := by
  refine Calls.mono (table_ok 1 3 (by decide) (by decide) w) ?_
  rintro e w1 ⟨a, c, rfl, hi, -, hb⟩
  rw [ex_tbl] at hi ⊢
  obtain ⟨b, o, rfl, h0⟩ := hi 0 (by decide)
  obtain ⟨b', o', hq, h3⟩ := hi 3 (by decide)
  cases hq
  exact ⟨b, o, c, rfl, h0, h3, hb⟩
theorem three_at (w : World) (x y z : Value) (t : TypeId) : (w.alloc (.cells #[x, y, z] t)).cell? ⟨w.heap.size, 0, none⟩ = some x ∧ (w.alloc (.cells #[x, y, z] t)).cell? ⟨w.heap.size, 1, none⟩ = some y ∧ (w.alloc (.cells #[x, y, z] t)).cell? ⟨w.heap.size, 2, none⟩ = some z := by
  refine ⟨?_, ?_, ?_⟩ <;> (rw [World.cell?_alloc_new]; rfl)
def Exd (w : World) (b : Nat) (wr : World) : Prop := wr.cell? ⟨b, 0, none⟩ = some (.int .i64 2147483648) ∧ wr.cell? ⟨b, 1, none⟩ = some (.int .i64 2147483647) ∧ wr.cell? ⟨b, 2, none⟩ = some (.int .i64 0) ∧ Below w.heap.size w wr
theorem Exd.later {w wr w2 : World} {b : Nat} (h : Exd w b wr) (hb : Below wr.heap.size wr w2) : Exd w b w2 := ⟨cell_later hb h.1, cell_later hb h.2.1, cell_later hb h.2.2.1, chain h.2.2.2 hb⟩
set_option maxHeartbeats 2000000 in
theorem works_any (w : World) :
    Calls Try.prog 13 #[] w fun e w' => e = .returned (.bool true) ∧ Below w.heap.size w w' := by
  have OF : Hid (∀ (u : Int) (W : World), _) := fun u W => of_any 1 3 u W
  go_enter Try.func13, Try.ntmps13
  go_wp2_with fail
  refine Calls.mono (ex_table w) ?_
  rintro e w1 ⟨b, o, c, rfl, h0, h3, hb⟩
  rw [Nat.add_zero] at h0
  have B1 : Hid (Below w.heap.size w w1) := hb
  clear hb
  go_wp2
  clear h0 h3
  obtain ⟨g, hg⟩ : ∃ g, w1.heap.size = g := ⟨_, rfl⟩
  have T3 := three_at w1 (.int .i64 2147483648) (.int .i64 2147483647) (.int .i64 0) 3
  rw [hg] at T3 ⊢
  have I0 : Hid (Exd w g (w1.alloc (.cells #[.int .i64 2147483648, .int .i64 2147483647, .int .i64 0] 3))) := ⟨T3.1, T3.2.1, T3.2.2, B1.out.alloc B1.out.size _⟩
  clear T3 B1 hg
  go_loopw [3, 4, 5, 6, 32] (fun _ _ _ _ i wr => ∃ k : Nat, (k = 0 ∨ k = 1 ∨ k = 2 ∨ k = 3) ∧ i = .int .i64 (k : Int) ∧ Hid (Exd w g wr)) (fun _ _ _ _ i _ => 3 - (intOf i).toNat)
  case atStart => exact ⟨0, .inl rfl, rfl, I0.out⟩
  case round =>
    obtain ⟨k, hk, rfl, I⟩ := hrel
    clear I0
    obtain ⟨c0, c1, c2, -⟩ := I.out
    rcases hk with rfl | rfl | rfl | rfl
    · rw [show ((0 : Nat) : Int) = 0 from rfl]
      have OF1 := OF.out 2147483648 wr
      rw [ex_of.1.1, ex_of.1.2] at OF1
      have HO : Hid _ := OF1
      clear OF1
      go_wp2_with fail
      refine Calls.mono HO.out ?_
      rintro e w2 ⟨rfl, hb⟩
      have I2 : Hid (Exd w g w2) := I.out.later hb
      clear I hb HO c0 c1 c2
      go_wp2
      go_roundw
      case rel => exact ⟨1, .inr (.inl rfl), rfl, I2.out.later ((Below.refl _ _).alloc (Nat.le_refl _) _)⟩
      case measure => simp [intOf]
    · rw [show ((1 : Nat) : Int) = 1 from rfl]
      have OF1 := OF.out 2147483647 wr
      rw [ex_of.2.1.1, ex_of.2.1.2] at OF1
      have HO : Hid _ := OF1
      clear OF1
      go_wp2_with fail
      refine Calls.mono HO.out ?_
      rintro e w2 ⟨rfl, hb⟩
      have I2 : Hid (Exd w g w2) := I.out.later hb
      clear I hb HO c0 c1 c2
      go_wp2
      go_roundw
      case rel => exact ⟨2, .inr (.inr (.inl rfl)), rfl, I2.out.later ((Below.refl _ _).alloc (Nat.le_refl _) _)⟩
      case measure => simp [intOf]
    · rw [show ((2 : Nat) : Int) = 2 from rfl]
      have OF1 := OF.out 0 wr
      rw [ex_of.2.2.1, ex_of.2.2.2] at OF1
      have HO : Hid _ := OF1
      clear OF1
      go_wp2_with fail
      refine Calls.mono HO.out ?_
      rintro e w2 ⟨rfl, hb⟩
      have I2 : Hid (Exd w g w2) := I.out.later hb
      clear I hb HO c0 c1 c2
      go_wp2
      go_roundw
      case rel => exact ⟨3, .inr (.inr (.inr rfl)), rfl, I2.out.later ((Below.refl _ _).alloc (Nat.le_refl _) _)⟩
      case measure => simp [intOf]
    · rw [show ((3 : Nat) : Int) = 3 from rfl]
      clear c0 c1 c2
      go_wp2
      go_ret
      exact ⟨rfl, I.out.2.2.2⟩
end Go.Proofs.Ytecdjfafeeimfaa
