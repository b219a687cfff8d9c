/- The program's Order. -/
import Derived.Test.YtfieabdjfhkpjaaTaD
namespace Go.Proofs.Ytfieabdjfhkpjaa
open Go.RowKit Go.Proofs.Fd Go.Proofs.Ta
set_option maxRecDepth 20000

/-- Block g holds these numbers, and they may be written. -/
def Row (w : World) (g : Nat) (l : List Int) : Prop := ∀ j (hj : j < l.length), w.cell? ⟨g, j, none⟩ = some (.int .i64 l[j]) ∧ w.frozen? ⟨g, j, none⟩ = false
theorem Row.later {W w1 : World} {b : Nat} {l : List Int} (h : Row W b l) (hb : Below W.heap.size W w1) : Row w1 b l := fun j hj => by
  obtain ⟨h0, h1⟩ := h j hj
  exact ⟨cell_later hb h0, (frozen_kept hb (World.block_lt_of_cell? _ _ h0)).trans h1⟩
theorem Row.apart {w w' : World} {b p g : Nat} {l : List Int} (h : Row w b l) (hb : But p g w w') (h1 : b ≠ p) (h2 : b ≠ g) : Row w' b l := fun j hj => by
  obtain ⟨e0, e1⟩ := h j hj
  have e := hb.block b (World.block_lt_of_cell? _ _ e0) h1 h2
  exact ⟨(World.cell?_of_block (a := ⟨b, j, none⟩) e).trans e0, (World.frozen?_of_block (a := ⟨b, j, none⟩) e).trans e1⟩
theorem Row.set {w : World} {b : Nat} {l : List Int} (h : Row w b l) (k : Nat) (x : Int) : Row (w.setCell ⟨b, k, none⟩ (.int .i64 x)) b (l.set k x) := fun j hj => by
  obtain ⟨h0, h1⟩ := h j (by simpa using hj)
  refine ⟨?_, by simp [go_sem, h1]⟩
  by_cases e : k = j
  · subst e; simp [go_sem, h0]
  · have hne : (⟨b, k, none⟩ : Addr) ≠ ⟨b, j, none⟩ := fun q => e (by injection q)
    rw [World.cell?_setCell_other _ _ _ _ hne, h0]
    simp [e]
theorem Row.at {w : World} {b : Nat} {l : List Int} (h : Row w b l) : IntAt w (some ⟨b, 0, none⟩) l := fun i hi => ⟨b, 0, rfl, by rw [Nat.zero_add]; exact (h i hi).1⟩
theorem infoInt : (Try.prog.info? 3).map (fun i => (i.zero, i.size, i.bytes)) = some (some (.int .i64 0), 1, 8) := by kernel_rfl
theorem made_ints (n : Nat) : madeCells (Value.int .i64 0).cells (n * 1) = Array.replicate n (.int .i64 0) := by
  apply Array.ext
  · rw [size_madeCells, Array.size_replicate, Nat.mul_one]
  · intro i h1 h2
    rw [Array.getElem_replicate]
    simp [madeCells, Value.cells, Nat.mod_one]
theorem make_ints (n : Nat) (hn : n ≤ 1000000) (w : World) : ∃ W : World, (Instr.makeSlice 36 (.int .i64 (n : Int)) (.int .i64 (n : Int))).run Try.prog w = .ok (.slice (some ⟨w.heap.size, 0, none⟩) n n) W
    ∧ Row W w.heap.size (List.replicate n 0) ∧ Below w.heap.size w W := by
  obtain ⟨i0, hi, hz0, hz1, hz2⟩ := info_parts infoInt
  have h := run_make (P := Try.prog) w 36 3 i0 (.int .i64 0) Try.underlying36 hi hz0 .i64 .i64 (n : Int) (n : Int) (by omega) (Int.le_refl _) (by rw [hz2]; omega) (by omega)
  rw [Int.toNat_natCast, hz1, made_ints] at h
  refine ⟨_, h, fun j hj => ?_, (Below.refl _ _).alloc (Nat.le_refl _) _⟩
  have hj' : j < n := by simpa using hj
  refine ⟨?_, by simp [go_sem]⟩
  rw [World.cell?_alloc_new, List.getElem_replicate, Array.getElem?_replicate, if_pos hj']
theorem ord_no {n : Int} {l : List UInt8} (h : n < 0 ∨ 64 < n) : ordV n l = [] ∧ ordE n l = 1 ∧ ordR n l = l := ⟨if_pos h, if_pos h, if_pos h⟩
theorem ord_few {n : Int} {l : List UInt8} (h : ¬ (n < 0 ∨ 64 < n)) (hl : l.length < 4 * (n.toNat - 1)) : ordV n l = [] ∧ ordE n l = 120 ∧ ordR n l = l := by
  unfold ordV ordE ordR
  rw [if_neg h, if_neg h, if_neg h, if_pos hl, if_pos hl, if_pos hl]
  exact ⟨rfl, rfl, rfl⟩
theorem ord_ok {n : Int} {l : List UInt8} (h : ¬ (n < 0 ∨ 64 < n)) (hl : ¬ l.length < 4 * (n.toNat - 1)) : ordV n l = ord n.toNat l ∧ ordE n l = 0 ∧ ordR n l = l.drop (4 * (n.toNat - 1)) := by
  unfold ordV ordE ordR
  rw [if_neg h, if_neg h, if_neg h, if_neg hl, if_neg hl, if_neg hl]
  exact ⟨rfl, rfl, rfl⟩
/-- What holds while an order is drawn: k numbers are still to be placed. -/
def Dr (n : Nat) (l : List UInt8) (k : Nat) (L : List Int) (m : List UInt8) : Prop := k ≤ n ∧ L.length = n ∧ shuf (k - 1) L m = ord n l ∧ 4 * (k - 1) ≤ m.length ∧ m.drop (4 * (k - 1)) = l.drop (4 * (n - 1))
theorem Dr.step {n : Nat} {l : List UInt8} {k : Nat} {L : List Int} {m : List UInt8} (h : Dr n l (k + 2) L m) : Dr n l (k + 1) (sw L (k + 1) (drw (k + 2) m)) (m.drop 4) := by
  obtain ⟨h1, h2, h3, h4, h5⟩ := h
  refine ⟨by omega, by rw [sw_len]; exact h2, h3, by rw [List.length_drop]; omega, ?_⟩
  rw [← h5, List.drop_drop]
  congr 1
  omega
theorem fill_step (n k : Nat) (h : k < n) : (up k ++ List.replicate (n - k) 0).set k (k : Int) = up (k + 1) ++ List.replicate (n - (k + 1)) 0 := by
  obtain ⟨m, rfl⟩ : ∃ m, n = k + (m + 1) := ⟨n - k - 1, by omega⟩
  rw [show k + (m + 1) - k = m + 1 by omega, show k + (m + 1) - (k + 1) = m by omega, up_succ, List.replicate_succ, List.set_append_right _ _ (by rw [up_len]; omega), up_len, Nat.sub_self, List.append_assoc]
  rfl
theorem row_swap {w : World} {g : Nat} {L : List Int} (h : Row w g L) (i j : Nat) : Row ((w.setCell ⟨g, i, none⟩ (.int .i64 (L.getD j 0))).setCell ⟨g, j, none⟩ (.int .i64 (L.getD i 0))) g (sw L i j) := (h.set i _).set j _
theorem Row.get {w : World} {g : Nat} {L : List Int} (h : Row w g L) (i : Nat) (hi : i < L.length) : w.cell? ⟨g, i, none⟩ = some (.int .i64 (L.getD i 0)) := by
  rw [(h i hi).1, List.getD_eq_getElem?_getD, List.getElem?_eq_getElem hi]
  rfl
set_option maxHeartbeats 4000000 in
theorem order_yes (p : Nat) (l : List UInt8) (n : Nat) (hn : n ≤ 64) (hl : 4 * (n - 1) ≤ l.length) (w : World) (R : Hid (TAt w p l)) :
    Calls Try.prog 14 #[.pointer (some ⟨p, 0, none⟩), .int .i64 (n : Int)] w fun e w' => ∃ g, e = .returned (.tuple #[.slice (some ⟨g, 0, none⟩) n n, .int .i64 0]) ∧ Row w' g (ord n l) ∧ w.heap.size ≤ g ∧ TAt w' p (l.drop (4 * (n - 1))) ∧ But p p w w' := by
  have LF : Hid _ := left_any p l w R.out
  have q1 : ¬ (n : Int) < 0 := by omega
  have q2 : ¬ (64 : Int) < (n : Int) := by omega
  have z1 : IntKind.i64.wrap ((n : Int) - 1) = (n : Int) - 1 := by rw [IntKind.wrap_i64]; omega
  have z2 : IntKind.i64.wrap (4 * ((n : Int) - 1)) = 4 * ((n : Int) - 1) := by rw [IntKind.wrap_i64]; omega
  have q3 : ¬ (l.length : Int) < 4 * ((n : Int) - 1) := by omega
  have HL : Hid (4 * (n - 1) ≤ l.length) := hl
  have HP : Hid (p < w.heap.size) := R.out.lt
  clear hl
  go_enter Try.func14, Try.ntmps14
  go_wp2_with fail
  refine Calls.mono LF.out ?_
  rintro e w1 ⟨rfl, hb1⟩
  have B1 : Hid (Below w.heap.size w w1) := hb1
  clear hb1 LF
  obtain ⟨W, CM, hrow, hbW⟩ := make_ints n (by omega) w1
  obtain ⟨g, hg⟩ : ∃ g, w1.heap.size = g := ⟨_, rfl⟩
  rw [hg] at CM hrow hbW
  have I0 : Hid (Row W g (up 0 ++ List.replicate (n - 0) 0) ∧ w.heap.size ≤ g ∧ TAt W p l ∧ Below w.heap.size w W) := ⟨by rw [Nat.sub_zero]; exact hrow, by rw [← hg]; exact B1.out.size, (R.out.later B1.out).later (by rw [hg]; exact hbW), chain B1.out (by rw [hg]; exact hbW)⟩
  clear hrow hbW B1 R hg
  go_wp2
  clear q3
  go_loopw [27] (fun i wr => ∃ k : Nat, k ≤ n ∧ i = .int .i64 (k : Int) ∧ Hid (Row wr g (up k ++ List.replicate (n - k) 0) ∧ w.heap.size ≤ g ∧ TAt wr p l ∧ Below w.heap.size w wr)) (fun i _ => n - (intOf i).toNat)
  case atStart => exact ⟨0, by omega, rfl, I0.out⟩
  case round =>
    obtain ⟨k, hk, rfl, I⟩ := hrel
    clear I0
    by_cases hlt : k < n
    · have g1 : (k : Int) < (n : Int) := by omega
      have ln : (up k ++ List.replicate (n - k) 0).length = n := by rw [List.length_append, up_len, List.length_replicate]; omega
      have c0 := (I.out.1 k (by omega)).1
      have f0 := (I.out.1 k (by omega)).2
      have I2 : Hid (Row (wr.setCell ⟨g, k, none⟩ (.int .i64 (k : Int))) g (up (k + 1) ++ List.replicate (n - (k + 1)) 0) ∧ w.heap.size ≤ g ∧ TAt (wr.setCell ⟨g, k, none⟩ (.int .i64 (k : Int))) p l ∧ Below w.heap.size w (wr.setCell ⟨g, k, none⟩ (.int .i64 (k : Int)))) := by
        obtain ⟨i1, i2, i3, i4⟩ := I.out
        have hp := HP.out
        refine ⟨by rw [← fill_step n k hlt]; exact i1.set k _, i2, i3.same (Below.heap_setCell wr _ _ p (show p ≠ g by omega)), i4.setCell (p := ⟨g, k, none⟩) i2 _⟩
      obtain ⟨x, hx⟩ : ∃ x, (up k ++ List.replicate (n - k) 0)[k] = x := ⟨_, rfl⟩
      rw [hx] at c0
      clear ln hx I
      go_wp2
      go_roundw
      case rel => exact ⟨k + 1, by omega, by go_num, I2.out⟩
      case measure => simp [intOf]; omega
    · obtain rfl : k = n := by omega
      have I3 : Hid (Row wr g (up k) ∧ w.heap.size ≤ g ∧ TAt wr p l ∧ But p p w wr) := by
        obtain ⟨i1, i2, i3, i4⟩ := I.out
        rw [Nat.sub_self, List.replicate_zero, List.append_nil] at i1
        exact ⟨i1, i2, i3, ⟨i4.os, i4.tape, i4.output, i4.size, fun j hj _ _ => i4.block j hj⟩⟩
      clear I
      go_wp2
      go_loopw [8] (fun x wr => ∃ (j : Nat) (L : List Int) (m : List UInt8), j ≤ k ∧ x = .int .i64 ((j : Int) - 1) ∧ Hid (Dr k l j L m ∧ Row wr g L ∧ w.heap.size ≤ g ∧ TAt wr p m ∧ But p p w wr)) (fun x _ => (intOf x).toNat)
      case atStart => exact ⟨k, up k, l, Nat.le_refl _, rfl, ⟨Nat.le_refl _, up_len k, rfl, HL.out, rfl⟩, I3.out⟩
      case round =>
        obtain ⟨j, L, m, hj, rfl, I⟩ := hrel
        clear I3
        by_cases hlt : 2 ≤ j
        · obtain ⟨a, rfl⟩ : ∃ a, j = a + 1 := ⟨j - 1, by omega⟩
          have g0 : ((a + 1 : Nat) : Int) - 1 = (a : Int) := by omega
          rw [g0]
          have g1 : (1 : Int) ≤ (a : Int) := by omega
          have z3 : IntKind.i64.wrap ((a : Int) + 1) = (a : Int) + 1 := by rw [IntKind.wrap_i64]; omega
          have z4 : IntKind.i64.wrap ((a : Int) - 1) = (a : Int) - 1 := by rw [IntKind.wrap_i64]; omega
          have BL := Below_any p m ((a : Int) + 1) wr I.out.2.2.2.1
          have hm4 : ¬ m.length < 4 := by have := I.out.1.2.2.2.1; omega
          obtain ⟨e1, e2, e3⟩ := bel_ok (n := (a : Int) + 1) (l := m) (by omega) hm4
          rw [e1, e2, e3, show ((a : Int) + 1).toNat = a + 1 by omega] at BL
          have hd := drw_lt (a + 1) m (by omega)
          obtain ⟨b, hb⟩ : ∃ b, drw (a + 1) m = b := ⟨_, rfl⟩
          rw [hb] at BL hd
          have DS : Hid (Dr k l a (sw L a b) (m.drop 4)) := by
            obtain ⟨c, rfl⟩ : ∃ c, a = c + 1 := ⟨a - 1, by omega⟩
            rw [← hb]
            exact I.out.1.step
          have HB : Hid _ := BL
          clear e1 e2 e3 hm4 hb BL
          go_wp2_with fail
          refine Calls.mono HB.out ?_
          rintro e w2 ⟨rfl, ht, hbt⟩
          have ln : L.length = k := I.out.1.2.1
          have R2 : Hid (Row w2 g L) := I.out.2.1.apart hbt (by have := HP.out; have := I.out.2.2.1; omega) (by have := HP.out; have := I.out.2.2.1; omega)
          have ca := R2.out.get a (by omega)
          have cb := R2.out.get b (by omega)
          have fa := (R2.out a (by omega)).2
          have fb := (R2.out b (by omega)).2
          have J2 : Hid (Dr k l a (sw L a b) (m.drop 4) ∧ Row ((w2.setCell ⟨g, a, none⟩ (.int .i64 (L.getD b 0))).setCell ⟨g, b, none⟩ (.int .i64 (L.getD a 0))) g (sw L a b) ∧ w.heap.size ≤ g ∧ TAt ((w2.setCell ⟨g, a, none⟩ (.int .i64 (L.getD b 0))).setCell ⟨g, b, none⟩ (.int .i64 (L.getD a 0))) p (m.drop 4) ∧ But p p w ((w2.setCell ⟨g, a, none⟩ (.int .i64 (L.getD b 0))).setCell ⟨g, b, none⟩ (.int .i64 (L.getD a 0)))) := by
            have hp := HP.out
            obtain ⟨i1, i2, i3, i4, i5⟩ := I.out
            refine ⟨DS.out, row_swap R2.out a b, i3, ?_, ((i5.trans hbt).fresh i3 _ _).fresh i3 _ _⟩
            exact (ht.same (Below.heap_setCell w2 _ _ p (show p ≠ g by omega))).same (Below.heap_setCell _ _ _ p (show p ≠ g by omega))
          have g2 : (a : Int) < (k : Int) := by omega
          have g3 : (b : Int) < (k : Int) := by omega
          obtain ⟨xa, hxa⟩ : ∃ x, L.getD a 0 = x := ⟨_, rfl⟩
          obtain ⟨xb, hxb⟩ : ∃ x, L.getD b 0 = x := ⟨_, rfl⟩
          rw [hxa] at ca J2
          rw [hxb] at cb J2
          clear HB ht hbt I ln hxa hxb R2 DS
          have cc : (w2.setCell ⟨g, a, none⟩ (.int .i64 xb)).cell? ⟨g, b, none⟩ = some (.int .i64 xb) := by
            by_cases e : a = b
            · subst e; simp [go_sem, ca]
            · have hne : (⟨g, a, none⟩ : Addr) ≠ ⟨g, b, none⟩ := fun q => e (by injection q)
              rw [World.cell?_setCell_other _ _ _ _ hne, cb]
          have cd : (w2.drew.setCell ⟨g, a, none⟩ (.int .i64 xb)).cell? ⟨g, b, none⟩ = some (.int .i64 xb) := cc
          go_wp2
          go_region_with (fail)
          all_goals
            clear ca cb cc cd fa fb
            go_wp2
            go_roundw
            case rel => exact ⟨a, sw L a b, m.drop 4, by omega, rfl, J2.out.1, J2.out.2.1, J2.out.2.2.1, J2.out.2.2.2.1, J2.out.2.2.2.2.drew⟩
            case measure => simp [intOf]; omega
        · have g1 : ¬ (1 : Int) ≤ (j : Int) - 1 := by omega
          have FI : Hid (Row wr g (ord k l) ∧ w.heap.size ≤ g ∧ TAt wr p (l.drop (4 * (k - 1))) ∧ But p p w wr) := by
            obtain ⟨⟨i1, i2, i3, i4, i5⟩, j1, j2, j3, j4⟩ := I.out
            rw [show j - 1 = 0 by omega] at i3 i5
            have e3 : L = ord k l := i3
            have e5 : m = l.drop (4 * (k - 1)) := i5
            rw [← e3, ← e5]
            exact ⟨j1, j2, j3, j4⟩
          clear I
          go_wp2
          go_ret2
          exact ⟨g, rfl, FI.out⟩
/-- What Order answers: numbers, in a row that is new. -/
def OrdP (w : World) (p : Nat) (L : List Int) (x : Int) (m : List UInt8) (e : Ending) (w' : World) : Prop := ∃ a c, e = .returned (.tuple #[.slice a L.length c, .int .i64 x]) ∧ IntAt w' a L ∧ New w.heap.size a ∧ TAt w' p m ∧ But p p w w'
theorem OrdP.no {w w' : World} {p : Nat} {x : Int} {m : List UInt8} (h1 : TAt w' p m) (h2 : But p p w w') : OrdP w p [] x m (.returned (.tuple #[.slice none 0 0, .int .i64 x])) w' := ⟨none, 0, rfl, IntAt.nil _ _, New.none _, h1, h2⟩
set_option maxHeartbeats 1000000 in
theorem Order_any (p : Nat) (l : List UInt8) (n : Int) (w : World) (R : Hid (TAt w p l)) :
    Calls Try.prog 14 #[.pointer (some ⟨p, 0, none⟩), .int .i64 n] w fun e w' => OrdP w p (ordV n l) (ordE n l) (ordR n l) e w' := by
  by_cases h : n < 0 ∨ 64 < n
  · obtain ⟨e1, e2, e3⟩ := ord_no (l := l) h
    rw [e1, e2, e3]
    clear e1 e2 e3
    by_cases h1 : n < 0
    · clear h
      go_enter Try.func14, Try.ntmps14
      go_wp2
      go_ret2
      exact OrdP.no R.out (But.refl _ _ _)
    · have h2 : 64 < n := by omega
      clear h
      go_enter Try.func14, Try.ntmps14
      go_wp2
      go_ret2
      exact OrdP.no R.out (But.refl _ _ _)
  · have h1 : ¬ n < 0 := by omega
    have h2 : ¬ 64 < n := by omega
    obtain ⟨k, rfl⟩ : ∃ k : Nat, n = k := ⟨n.toNat, by omega⟩
    by_cases q : l.length < 4 * (k - 1)
    · obtain ⟨e1, e2, e3⟩ := ord_few h (by simpa using q)
      rw [e1, e2, e3]
      have z1 : IntKind.i64.wrap ((k : Int) - 1) = (k : Int) - 1 := by rw [IntKind.wrap_i64]; omega
      have z2 : IntKind.i64.wrap (4 * ((k : Int) - 1)) = 4 * ((k : Int) - 1) := by rw [IntKind.wrap_i64]; omega
      have q3 : (l.length : Int) < 4 * ((k : Int) - 1) := by omega
      have LF : Hid _ := left_any p l w R.out
      clear e1 e2 e3 h
      go_enter Try.func14, Try.ntmps14
      go_wp2_with fail
      refine Calls.mono LF.out ?_
      rintro e w1 ⟨rfl, hb1⟩
      have B1 : Hid (TAt w1 p l ∧ But p p w w1) := ⟨R.out.later hb1, But.of hb1⟩
      clear hb1 LF R
      go_wp2
      go_ret2
      exact OrdP.no B1.out.1 B1.out.2
    · obtain ⟨e1, e2, e3⟩ := ord_ok h (by simpa using q)
      rw [e1, e2, e3, Int.toNat_natCast]
      refine Calls.mono (order_yes p l k (by omega) (by omega) w R) ?_
      rintro e w1 ⟨g, rfl, h1, h2, h3, h4⟩
      exact ⟨some ⟨g, 0, none⟩, k, by rw [ord_len], h1.at, New.some h2, h3, h4⟩
end Go.Proofs.Ytfieabdjfhkpjaa
