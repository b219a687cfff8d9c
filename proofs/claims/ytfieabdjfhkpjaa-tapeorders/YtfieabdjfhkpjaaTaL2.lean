/- TapeOrders: an order has each number once. -/
import Derived.Test.YtfieabdjfhkpjaaTaW
namespace Go.Proofs.Ytfieabdjfhkpjaa
open Go.RowKit Go.Proofs.Fd Go.Proofs.Ta
set_option maxRecDepth 20000

/-- What was seen of the first i numbers. -/
def Sn (w : World) (g : Nat) (L : List Int) (i : Nat) : Prop := ∀ j, j < 65 → w.cell? ⟨g, j, none⟩ = some (.bool (decide ((j : Int) ∈ L.take i))) ∧ w.frozen? ⟨g, j, none⟩ = false
theorem make_bools (w : World) : (Instr.makeSlice 40 (.int .i64 65) (.int .i64 65)).run Try.prog w = .ok (.slice (some ⟨w.heap.size, 0, none⟩) 65 65) (w.alloc (.cells (Array.replicate 65 (.bool false)) 4)) := by kernel_rfl
theorem Sn.new (w : World) (L : List Int) : Sn (w.alloc (.cells (Array.replicate 65 (.bool false)) 4)) w.heap.size L 0 := fun j hj => by
  refine ⟨?_, by simp [go_sem]⟩
  rw [World.cell?_alloc_new, Array.getElem?_replicate, if_pos hj]
  simp
theorem Sn.step {w : World} {g : Nat} {L : List Int} {i : Nat} (h : Sn w g L i) (hi : i < L.length) (y : Nat) (hy : L[i] = (y : Int)) : Sn (w.setCell ⟨g, y, none⟩ (.bool true)) g L (i + 1) := fun j hj => by
  obtain ⟨h0, h1⟩ := h j hj
  refine ⟨?_, by simp [go_sem, h1]⟩
  rw [List.take_succ_eq_append_getElem hi, hy]
  by_cases e : y = j
  · subst e; simp [go_sem, h0]
  · have hne : (⟨g, y, none⟩ : Addr) ≠ ⟨g, j, none⟩ := fun q => e (by injection q)
    rw [World.cell?_setCell_other _ _ _ _ hne, h0]
    have : ¬ (j : Int) = (y : Int) := by omega
    simp [this]
set_option maxHeartbeats 4000000 in
theorem TapeOrders_walk (t : ByteArray) (ht : t.size ≤ 140737488351232) (x : Int) (w : World) :
    Calls Try.prog 4 #[.string t, .int .i64 x] w fun e w' => e = .returned (.bool true) ∧ Below w.heap.size w w' := by
  have NW : Hid (∀ w, _) := fun w => new_any t ht w
  obtain ⟨n, hn, AM⟩ := among_is x 65 (by decide) (by decide)
  have HA : Hid _ := AM
  clear AM
  have z1 : IntKind.i64.wrap ((n : Int) - 1) = (n : Int) - 1 := by rw [IntKind.wrap_i64]; omega
  have z2 : IntKind.i64.wrap (4 * ((n : Int) - 1)) = 4 * ((n : Int) - 1) := by rw [IntKind.wrap_i64]; omega
  obtain ⟨N, hN⟩ : ∃ N, 4 * (n - 1) = N := ⟨_, rfl⟩
  have z3 : max (0 : Int) (4 * ((n : Int) - 1)) = (N : Int) := by omega
  have z4 : IntKind.i64.wrap ((t.size : Int) - (N : Int)) = (t.size : Int) - (N : Int) := by rw [IntKind.wrap_i64]; omega
  have HN : Hid (4 * (n - 1) = N) := hN
  have ll : t.data.toList.length = t.size := by simp
  clear hN
  go_enter Try.func4, Try.ntmps4
  go_wp2_with fail
  refine Calls.mono (works_any w) ?_
  rintro e w1 ⟨rfl, hb⟩
  have B1 : Hid (Below w.heap.size w w1) := hb
  clear hb
  go_wp2_with fail
  refine Calls.mono (HA.out w1) ?_
  rintro e w2 ⟨rfl, hw⟩
  have hw' := hw.symm
  subst hw'
  clear hw HA
  go_wp2_with fail
  refine Calls.mono (NW.out _) ?_
  rintro e w3 ⟨p, rfl, hT, hp, hb⟩
  have I3 : Hid (TAt w3 p t.data.toList ∧ w.heap.size ≤ p ∧ Below w.heap.size w w3) := ⟨hT, Nat.le_trans B1.out.size hp, chain B1.out hb⟩
  clear hT hp hb NW B1
  by_cases q : t.size < N
  · obtain ⟨f1, f2, f3⟩ := ord_few (n := (n : Int)) (l := t.data.toList) (by omega) (by rw [Int.toNat_natCast, HN.out, ll]; exact q)
    have OR := Order_any p t.data.toList (n : Int) w3 I3.out.1
    rw [f1, f2, f3] at OR
    have HO : Hid _ := OR
    have q1 : (t.size : Int) < (N : Int) := by omega
    clear f1 f2 f3 OR
    go_wp2_with fail
    refine Calls.mono HO.out ?_
    rintro e w4 ⟨a, c, rfl, -, -, hT, hb⟩
    have I4 : Hid (TAt w4 p t.data.toList ∧ w.heap.size ≤ p ∧ Below w.heap.size w w4) := ⟨hT, I3.out.2.1, I3.out.2.2.trans (hb.below I3.out.2.1 I3.out.2.1 I3.out.2.2.size)⟩
    have LF := left_any p _ w4 I4.out.1
    rw [ll] at LF
    have HL : Hid _ := LF
    clear LF hT hb HO I3 ll
    rw [List.length_nil]
    go_wp2_with fail
    refine Calls.mono HL.out ?_
    rintro e w5 ⟨rfl, hb⟩
    have I5 : Hid (Below w.heap.size w w5) := chain I4.out.2.2 hb
    clear hb HL I4
    go_wp2
    go_ret
    exact ⟨rfl, I5.out⟩
  · have HO : Hid _ := order_yes p t.data.toList n (by omega) (by rw [HN.out, ll]; omega) w3 I3.out.1
    have q1 : ¬ (t.size : Int) < (N : Int) := by omega
    go_wp2_with fail
    refine Calls.mono HO.out ?_
    rintro e w4 ⟨g, rfl, hrow, hg, hT, hb⟩
    rw [HN.out] at hT
    obtain ⟨L, hL⟩ : ∃ L, ord n t.data.toList = L := ⟨_, rfl⟩
    rw [hL] at hrow
    have HQ : Hid (L.length = n ∧ L.Nodup ∧ (∀ y ∈ L, 0 ≤ y ∧ y < (n : Int)) ∧ ((∀ k, k < N → t.data.toList.getD k 0 = 255) → L = up n)) := by
      rw [← hL]
      exact ⟨ord_len _ _, ord_nodup _ _, fun y hy => ord_mem _ _ y hy, fun h => ord_still n _ (by omega) (by rw [HN.out, ll]; omega) (by rw [HN.out]; exact h)⟩
    have I4 : Hid (TAt w4 p (t.data.toList.drop N) ∧ Below w.heap.size w w4 ∧ Row w4 g L) := ⟨hT, I3.out.2.2.trans (hb.below I3.out.2.1 I3.out.2.1 I3.out.2.2.size), hrow⟩
    have l2 : (t.data.toList.drop N).length = t.size - N := by rw [List.length_drop, ll]
    have LF := left_any p _ w4 I4.out.1
    rw [l2] at LF
    have z5 : ((t.size - N : Nat) : Int) = (t.size : Int) - (N : Int) := by omega
    rw [z5] at LF
    have HL : Hid _ := LF
    clear LF hT hb HO I3 ll l2 z5 hrow hg hL
    go_wp2_with fail
    refine Calls.mono HL.out ?_
    rintro e w5 ⟨rfl, hb⟩
    have I5 : Hid (Below w.heap.size w w5 ∧ Row w5 g L) := ⟨chain I4.out.2.1 hb, I4.out.2.2.later hb⟩
    clear hb HL I4
    obtain ⟨W, hW⟩ : ∃ W, w5.alloc (.cells (Array.replicate 65 (.bool false)) 4) = W := ⟨_, rfl⟩
    obtain ⟨s, hs⟩ : ∃ s, w5.heap.size = s := ⟨_, rfl⟩
    have MK : (Instr.makeSlice 40 (.int .i64 65) (.int .i64 65)).run Try.prog w5 = .ok (.slice (some ⟨s, 0, none⟩) 65 65) W := by rw [← hW, ← hs]; exact make_bools w5
    have I6 : Hid (Below w.heap.size w W ∧ Row W g L ∧ Sn W s L 0 ∧ w.heap.size ≤ s ∧ (L = [] ∨ g ≠ s)) := by
      obtain ⟨i1, i2⟩ := I5.out
      rw [← hW, ← hs]
      refine ⟨i1.alloc i1.size _, i2.later ((Below.refl _ _).alloc (Nat.le_refl _) _), Sn.new w5 L, i1.size, ?_⟩
      by_cases q : L = []
      · exact .inl q
      · have : 0 < L.length := List.length_pos_iff.2 q
        have := World.block_lt_of_cell? _ _ (i2 0 this).1
        exact .inr (fun e => by simp only at this; omega)
    clear hW hs I5
    go_wp2
    go_loopw [10, 70] (fun st i wr => ∃ (k : Nat) (b : Bool), k ≤ n ∧ i = .int .i64 (k : Int) ∧ st = .bool b ∧ Hid ((L = up n → b = true) ∧ Below w.heap.size w wr ∧ Row wr g L ∧ Sn wr s L k ∧ w.heap.size ≤ s ∧ (L = [] ∨ g ≠ s))) (fun _ i _ => n - (intOf i).toNat)
    case atStart => exact ⟨0, true, by omega, rfl, rfl, fun _ => rfl, I6.out⟩
    case round =>
      obtain ⟨k, b, hk, rfl, rfl, I⟩ := hrel
      clear I6 MK
      by_cases hlt : k < n
      · have g1 : (k : Int) < (n : Int) := by omega
        have hkl : k < L.length := by have := HQ.out.1; omega
        obtain ⟨y, hy⟩ : ∃ y : Nat, L[k] = (y : Int) := ⟨(L[k]).toNat, by have := (HQ.out.2.2.1 _ (List.getElem_mem hkl)).1; omega⟩
        have hyn : y < n := by have := (HQ.out.2.2.1 _ (List.getElem_mem hkl)).2; omega
        have c0 := (I.out.2.2.1 k hkl).1
        rw [hy] at c0
        have hd : decide ((y : Int) ∈ L.take k) = false := by
          rw [← hy]; exact decide_eq_false (not_ahead L HQ.out.2.1 k hkl)
        have c1 := (I.out.2.2.2.1 y (by omega)).1
        have f1 := (I.out.2.2.2.1 y (by omega)).2
        rw [hd] at c1
        have g2 : (y : Int) < (n : Int) := by omega
        have g3 : (y : Int) < 65 := by omega
        have g4 : ¬ (n : Int) ≤ (y : Int) := by omega
        have I2 : Hid ((L = up n → (b && decide ((y : Int) = (k : Int))) = true) ∧ Below w.heap.size w (wr.setCell ⟨s, y, none⟩ (.bool true)) ∧ Row (wr.setCell ⟨s, y, none⟩ (.bool true)) g L ∧ Sn (wr.setCell ⟨s, y, none⟩ (.bool true)) s L (k + 1) ∧ w.heap.size ≤ s ∧ (L = [] ∨ g ≠ s)) := by
          obtain ⟨i1, i2, i3, i4, i5, i6⟩ := I.out
          refine ⟨fun h => ?_, i2.setCell (p := ⟨s, y, none⟩) i5 _, ?_, i4.step hkl y hy, i5, i6⟩
          · rw [i1 h, Bool.true_and]
            subst h
            rw [← hy, up_at n k (by omega)]
            exact decide_eq_true rfl
          · rcases i6 with rfl | i6
            · exact absurd hkl (Nat.not_lt_zero _)
            · exact fun j hj => ⟨cell_setCell (i3 j hj).1 (Ne.symm i6), (frozen_setCell (Ne.symm i6)).trans (i3 j hj).2⟩
        clear hd hy I hkl
        cases b
        · go_wp2
          go_roundw
          case rel => exact ⟨k + 1, false, by omega, by go_num, rfl, I2.out⟩
          case measure => simp [intOf]; omega
        · go_wp2
          go_roundw
          case rel => exact ⟨k + 1, decide ((y : Int) = (k : Int)), by omega, by go_num, rfl, by have := I2.out; rw [Bool.true_and] at this; exact this⟩
          case measure => simp [intOf]; omega
      · obtain rfl : k = n := by omega
        have I7 : Hid ((L = up k → b = true) ∧ Below w.heap.size w wr) := ⟨I.out.1, I.out.2.1⟩
        clear I
        go_wp2
        go_loopw [99] (fun i w2 => ∃ (j : Nat), j ≤ N ∧ i = .int .i64 (j : Int) ∧ w2 = wr ∧ Hid (∀ m, m < j → t.data.toList.getD m 0 = 255)) (fun i _ => N - (intOf i).toNat)
        case atStart => exact ⟨0, by omega, rfl, rfl, fun m hm => absurd hm (Nat.not_lt_zero _)⟩
        case round =>
          obtain ⟨j, hj, rfl, hw, J⟩ := hrel
          subst hw
          by_cases hlt : j < N
          · have g1 : (j : Int) < (N : Int) := by omega
            have g2 : j < t.size := by omega
            have g3 : (j : Int) < (t.size : Int) := by omega
            obtain ⟨c, hc⟩ : ∃ c, t[j] = c := ⟨_, rfl⟩
            by_cases h255 : (c.toNat : Int) = 255
            · have J2 : Hid (∀ m, m < j + 1 → t.data.toList.getD m 0 = 255) := by
                intro m hm
                by_cases e : m = j
                · subst e
                  rw [List.getD_eq_getElem?_getD, List.getElem?_eq_getElem (by simpa using g2)]
                  have : t.data.toList[m]'(by simpa using g2) = c := hc
                  rw [this]
                  exact UInt8.toNat_inj.1 (by show c.toNat = 255; omega)
                · exact J.out m (by omega)
              clear J
              go_wp2
              go_roundw
              case rel => exact ⟨j + 1, by omega, by go_num, trivial, J2.out⟩
              case measure => simp [intOf]; omega
            · clear J
              go_wp2
              go_ret
              exact ⟨rfl, I7.out.2⟩
          · obtain rfl : j = N := by omega
            have hb : b = true := I7.out.1 (HQ.out.2.2.2 J.out)
            subst hb
            clear J HQ
            go_wp2
            go_ret
            exact ⟨rfl, I7.out.2⟩
end Go.Proofs.Ytfieabdjfhkpjaa
