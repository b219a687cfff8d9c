/- The program's lists of ids and slots, read. -/
import Derived.Test.YtbogoheigbiegaaDoorZgG21
namespace Go.Proofs.YtbogoheigbiegaaDoor.Mai
open Go.RowKit Go.Proofs.Fd Go.Proofs.Ml
set_option maxRecDepth 20000
set_option maxHeartbeats 2000000 in
theorem readIds_any (s : ByteArray) (hs : s.size = 64) (w : World) :
    Calls Tryd.prog 54 #[.string s] w fun e w' => ∃ v, e = .returned v ∧ w'.ownsRow w.heap.size 9 1 v (rIds 4 (by' s)).length (scells (rIds 4 (by' s))) ∧ Below w.heap.size w w' := by
  obtain ⟨R, hR⟩ : ∃ R, rIds 4 (by' s) = R := ⟨_, rfl⟩
  have HR : Hid (rIds 4 (by' s) = R) := hR
  rw [hR]
  clear hR
  go_enter Tryd.func54, Tryd.ntmps54
  go_wp2
  go_loopw [0, 3] (fun sv lv wr => ∃ (f : Nat) (x : ByteArray) (out : List ByteArray), sv = .string x ∧ Hid (f ≤ 4 ∧ x.size = 16 * f ∧ R = out ++ rIds f (by' x) ∧ out.length = 4 - f) ∧ Hid (wr.ownsRow w.heap.size 9 1 lv (4 - f) (scells out) ∧ Below w.heap.size w wr)) (fun sv _ _ => match sv with | .string x => x.size | _ => 0)
  case atStart => exact ⟨4, s, [], rfl, ⟨Nat.le_refl _, hs, HR.out.symm, rfl⟩, World.ownsRow_nil _ _ _ _, Below.refl _ _⟩
  case round =>
    obtain ⟨f, x, out, rfl, J, I⟩ := hrel
    clear HR
    cases f with
    | zero =>
      obtain rfl := nil_of (show x.size = 0 by have := J.out.2.1; omega)
      have E : Hid (R = out ∧ out.length = 4) := ⟨by rw [J.out.2.2.1]; show out ++ [] = out; simp, J.out.2.2.2⟩
      clear J
      unfold e0
      go_wp2
      go_ret
      exact ⟨_, rfl, by rw [E.out.1, E.out.2]; exact I.out.1, I.out.2⟩
    | succ f =>
      have hf := J.out.1
      have hx := J.out.2.1
      have z1 : (x.toList == []) = false := by rw [size_toList, decide_eq_false (by omega)]
      have z2 : (16 : Int) ≤ (x.size : Int) := by omega
      have z3 : 16 ≤ x.size := by omega
      have e1 : ((x.extract 0 16).toList == [0, 0, 0, 0, 0, 0, 0, 0, 0, 0, 0, 0, 0, 0, 0, 0]) = !nz ((by' x).take 16) := by
        rw [toList_by, ext_by, List.drop_zero]
        unfold nz
        rw [Bool.not_not]
        by_cases h2 : (by' x).take 16 = zr 16
        · rw [decide_eq_true h2, h2]; rfl
        · rw [decide_eq_false h2, beq_eq_false_iff_ne]; exact h2
      by_cases hnz : nz ((by' x).take 16) = true
      · have e2 : ((x.extract 0 16).toList == [0, 0, 0, 0, 0, 0, 0, 0, 0, 0, 0, 0, 0, 0, 0, 0]) = false := by rw [e1, hnz]; rfl
        obtain ⟨y, hy⟩ : ∃ y, x.extract 0 16 = y := ⟨_, rfl⟩
        obtain ⟨r, hr⟩ : ∃ r, x.extract 16 x.size = r := ⟨_, rfl⟩
        have CL : Hid (∀ w, Calls Tryd.prog 46 #[.string y] w fun e w' => e = .returned (.string y) ∧ Below w.heap.size w w') := fun w => sclone_any y (by rw [← hy, ext_size _ 0 16 z3 (by omega)]; decide) w
        have J2 : Hid (f ≤ 4 ∧ r.size = 16 * f ∧ R = (out ++ [y]) ++ rIds f (by' r) ∧ (out ++ [y]).length = 4 - f ∧ 4 - (f + 1) + 1 = 4 - f) := by
          obtain ⟨j1, j2, j3, j4⟩ := J.out
          refine ⟨by omega, by rw [← hr, ext_size _ _ _ (Nat.le_refl _) z3]; omega, ?_, by rw [List.length_append, j4, List.length_singleton]; omega, by omega⟩
          rw [j3]
          conv => lhs; unfold rIds
          rw [if_pos hnz, ← hy, ← hr, ext_head, ext_tail _ _ _ (Nat.le_refl _), by_mk]
          simp
        have hrl : r.size < x.size := by rw [← hr, ext_size _ _ _ (Nat.le_refl _) z3]; omega
        rw [hy] at e2
        clear J e1 hnz hx
        have f4 : 4 - (f + 1) ≤ 1000 := by omega
        go_wp2_with fail
        refine Calls.mono (CL.out _) ?_
        rintro e w2 ⟨rfl, hb2⟩
        have I2 : Hid (w2.ownsRow w.heap.size 9 1 u3 (4 - (f + 1)) (scells out) ∧ Below w.heap.size w w2) := ⟨own_later I.out.1 hb2, chain I.out.2 hb2⟩
        obtain ⟨v3, w3, r3, o3, b3, -⟩ := app_one w2 36 w.heap.size u3 (4 - (f + 1)) out I2.out.1 y f4 I2.out.2.size
        have I3 : Hid (w3.ownsRow w.heap.size 9 1 v3 (4 - f) (scells (out ++ [y])) ∧ Below w.heap.size w w3) := ⟨by rw [← J2.out.2.2.2.2]; exact o3, I2.out.2.trans b3⟩
        have R3 : Hid (_ = _) := r3
        clear hb2 o3 b3 I I2 r3
        go_wp2_with (at_builtin; refine Go.Lib.wpList_append_run _ rfl _ _ _ _ rfl _ _ rfl rfl _ _ R3.out ?_)
        go_roundw
        case rel => exact ⟨f, r, out ++ [y], rfl, ⟨J2.out.1, J2.out.2.1, J2.out.2.2.1, J2.out.2.2.2.1⟩, I3.out⟩
        case measure => exact hrl
      · have hnz : nz ((by' x).take 16) = false := by simpa using hnz
        have e2 : ((x.extract 0 16).toList == [0, 0, 0, 0, 0, 0, 0, 0, 0, 0, 0, 0, 0, 0, 0, 0]) = true := by rw [e1, hnz]; rfl
        have E : Hid (R = out ∧ out.length = 4 - (f + 1)) := ⟨by
          rw [J.out.2.2.1]
          conv => lhs; unfold rIds
          rw [if_neg (by rw [hnz]; decide), List.append_nil], J.out.2.2.2⟩
        clear J e1 hnz
        go_wp2
        go_ret
        exact ⟨_, rfl, by rw [E.out.1, E.out.2]; exact I.out.1, I.out.2⟩
def SlR (w : World) (b : Nat) (l : List Sl) : Prop := (∀ o, w.frozen? ⟨b, o, none⟩ = false) ∧ SlAt w (some ⟨b, 0, none⟩) l
theorem SlR.later {w w' : World} {b : Nat} {l : List Sl} (h : SlR w b l) (h0 : 0 < l.length) (hb : Below w.heap.size w w') : SlR w' b l := by
  obtain ⟨b', o, e, c0, -⟩ := h.2 0 h0
  cases e
  exact ⟨fun o => (frozen_kept hb (World.block_lt_of_cell? _ _ c0)).trans (h.1 o), h.2.later hb⟩
theorem SlR.set {w : World} {b : Nat} {l : List Sl} (h : SlR w b l) (k : Nat) (id tx : ByteArray) : SlR ((w.setCell ⟨b, k * 2, none⟩ (.string id)).setCell ⟨b, k * 2 + 1, none⟩ (.string tx)) b (l.set k ⟨id, tx⟩) := by
  refine ⟨fun o => by simp [go_sem, h.1], fun i hi => ⟨b, 0, rfl, ?_⟩⟩
  rw [List.length_set] at hi
  obtain ⟨b', o, e, c0, c1⟩ := h.2 i hi
  cases e
  rw [Nat.zero_add] at c0 c1 ⊢
  by_cases q : k = i
  · subst q
    have n1 : (⟨b, k * 2 + 1, none⟩ : Addr) ≠ ⟨b, k * 2, none⟩ := fun z => by injection z with _ z; omega
    rw [List.getElem_set_self]
    refine ⟨?_, ?_⟩
    · rw [World.cell?_setCell_other _ _ _ _ n1]; simp [go_sem, c0]
    · simp [go_sem, c1]
  · have n1 : (⟨b, k * 2 + 1, none⟩ : Addr) ≠ ⟨b, i * 2, none⟩ := fun z => by injection z with _ z; omega
    have n2 : (⟨b, k * 2, none⟩ : Addr) ≠ ⟨b, i * 2, none⟩ := fun z => by injection z with _ z; omega
    have n3 : (⟨b, k * 2 + 1, none⟩ : Addr) ≠ ⟨b, i * 2 + 1, none⟩ := fun z => by injection z with _ z; omega
    have n4 : (⟨b, k * 2, none⟩ : Addr) ≠ ⟨b, i * 2 + 1, none⟩ := fun z => by injection z with _ z; omega
    rw [World.cell?_setCell_other _ _ _ _ n1, World.cell?_setCell_other _ _ _ _ n2, World.cell?_setCell_other _ _ _ _ n3, World.cell?_setCell_other _ _ _ _ n4, List.getElem_set_ne (fun z => q z)]
    exact ⟨c0, c1⟩
def zsl : Sl := ⟨e0, e0⟩
theorem make4 (w : World) : ∃ W : World, (Instr.makeSlice 35 (.int .i64 4) (.int .i64 4)).run Tryd.prog w = .ok (.slice (some ⟨w.heap.size, 0, none⟩) 4 4) W ∧ SlR W w.heap.size [zsl, zsl, zsl, zsl] ∧ Below w.heap.size w W := by
  refine ⟨w.alloc (.cells #[.string ⟨#[]⟩, .string ⟨#[]⟩, .string ⟨#[]⟩, .string ⟨#[]⟩, .string ⟨#[]⟩, .string ⟨#[]⟩, .string ⟨#[]⟩, .string ⟨#[]⟩] 83), by kernel_rfl, ⟨fun o => by simp [go_sem], fun i hi => ⟨w.heap.size, 0, rfl, ?_⟩⟩, (Below.refl _ _).alloc (Nat.le_refl _) _⟩
  rcases (by simp at hi; omega : i = 0 ∨ i = 1 ∨ i = 2 ∨ i = 3) with rfl | rfl | rfl | rfl <;> exact ⟨by simp [go_sem]; rfl, by simp [go_sem]; rfl⟩
def upS (R : List Sl) (k : Nat) : List Sl := R.take k ++ List.replicate (4 - k) zsl
theorem upS_len (R : List Sl) (h : R.length = 4) (k : Nat) (hk : k ≤ 4) : (upS R k).length = 4 := by unfold upS; simp; omega
theorem upS_step (R : List Sl) (h : R.length = 4) (k : Nat) (hk : k < 4) : (upS R k).set k R[k] = upS R (k + 1) := by
  unfold upS
  obtain ⟨d, hd⟩ : ∃ d, 4 - k = d + 1 := ⟨4 - k - 1, by omega⟩
  rw [hd, show 4 - (k + 1) = d by omega, List.replicate_succ, List.set_append_right _ _ (by simp; omega), show k - (R.take k).length = 0 by simp; omega, List.set_cons_zero, List.take_succ_eq_append_getElem (by omega), List.append_assoc]
  rfl
theorem upS_end (R : List Sl) (h : R.length = 4) : upS R 4 = R := by
  unfold upS
  rw [List.take_of_length_le (by omega)]; simp
theorem rSlots_len (n : Nat) (l : List UInt8) : (rSlots n l).length = n := by
  induction n generalizing l with
  | zero => rfl
  | succ n ih => unfold rSlots; rw [List.length_cons, ih]
theorem rSlots_get (n : Nat) (l : List UInt8) (k : Nat) (hk : k < (rSlots n l).length) : (rSlots n l)[k] = rSlot ((l.drop (k * 239)).take 239) := by
  induction n generalizing l k with
  | zero => exact absurd hk (Nat.not_lt_zero _)
  | succ n ih =>
    cases k with
    | zero => unfold rSlots; rw [Nat.zero_mul, List.drop_zero]; rfl
    | succ k =>
      have e := ih (l.drop 239) k (by rw [rSlots_len] at hk ⊢; omega)
      rw [List.drop_drop, show 239 + k * 239 = (k + 1) * 239 by omega] at e
      rw [← e]
      rfl
set_option maxHeartbeats 2000000 in
theorem readSlots_any (s : ByteArray) (hs : s.size = 956) (w : World) :
    Calls Tryd.prog 53 #[.string s] w fun e w' => e = .returned (.slice (some ⟨w.heap.size, 0, none⟩) 4 4) ∧ SlR w' w.heap.size (rSlots 4 (by' s)) ∧ Below w.heap.size w w' := by
  obtain ⟨R, hR⟩ : ∃ R, rSlots 4 (by' s) = R := ⟨_, rfl⟩
  have HR : Hid (rSlots 4 (by' s) = R ∧ R.length = 4) := ⟨hR, by rw [← hR]; exact rSlots_len _ _⟩
  rw [hR]
  clear hR
  obtain ⟨W, CM, RW, bW⟩ := make4 w
  obtain ⟨B, hB⟩ : ∃ B, w.heap.size = B := ⟨_, rfl⟩
  have HB : Hid (w.heap.size = B) := hB
  have I0 : Hid (SlR W B (upS R 0) ∧ Below B w W) := hB ▸ ⟨RW, bW⟩
  rw [hB] at CM
  clear RW bW hB
  go_enter Tryd.func53, Tryd.ntmps53
  go_wp2
  go_loopw [8] (fun i wr => ∃ k : Nat, k ≤ 4 ∧ i = .int .i64 (k : Int) ∧ Hid (SlR wr B (upS R k) ∧ Below B w wr)) (fun i _ => 4 - (intOf i).toNat)
  case atStart => exact ⟨0, Nat.zero_le _, rfl, I0.out⟩
  case round =>
    obtain ⟨k, hk, rfl, I⟩ := hrel
    clear I0 CM
    by_cases hlt : k < 4
    · have g1 : (k : Int) < 4 := by omega
      obtain ⟨a1, ha1⟩ : ∃ a : Nat, k * 239 = a := ⟨_, rfl⟩
      obtain ⟨a2, ha2⟩ : ∃ a : Nat, (k + 1) * 239 = a := ⟨_, rfl⟩
      have w1 : IntKind.i64.wrap ((k : Int) * 239) = (a1 : Int) := by rw [IntKind.wrap_i64]; omega
      have w2 : IntKind.i64.wrap ((k : Int) + 1) = (k : Int) + 1 := by rw [IntKind.wrap_i64]; omega
      have w3 : IntKind.i64.wrap (((k : Int) + 1) * 239) = (a2 : Int) := by rw [IntKind.wrap_i64]; omega
      have l1 : (a1 : Int) ≤ (a2 : Int) := by omega
      have l2 : (a2 : Int) ≤ (s.size : Int) := by omega
      obtain ⟨y, hy⟩ : ∃ y, s.extract a1 a2 = y := ⟨_, rfl⟩
      have ky : k < R.length := by rw [HR.out.2]; exact hlt
      have RS := readSlot_any y (by rw [← hy, ext_size _ _ _ (by omega) (by omega)]; omega)
      have EY : Hid (rSlot (by' y) = R[k]) := by
        show _ = _
        have e := rSlots_get 4 (by' s) k (by rw [rSlots_len]; exact hlt)
        simp only [HR.out.1] at e
        rw [e, ← hy, ext_by, ← ha1, List.drop_take, show a2 - k * 239 = 239 by omega]
      obtain ⟨id, tx, hr⟩ : ∃ id tx, rSlot (by' y) = ⟨id, tx⟩ := ⟨_, _, rfl⟩
      rw [hr] at RS EY
      simp only at RS
      have SS : Hid ((upS R k).set k ⟨id, tx⟩ = upS R (k + 1)) := by
        show _ = _
        rw [EY.out]
        exact upS_step R HR.out.2 k hlt
      have LU : Hid ((upS R k).length = 4) := upS_len R HR.out.2 k hk
      clear hr EY
      go_wp2_with fail
      refine Calls.mono (RS _) ?_
      rintro e w4 ⟨rfl, hb4⟩
      have I4 : Hid (SlR w4 B (upS R k) ∧ Below B w w4) := ⟨I.out.1.later (by rw [LU.out]; decide) hb4, HB.out ▸ chain (HB.out ▸ I.out.2) hb4⟩
      obtain ⟨b', o', e', c0, c1⟩ := I4.out.1.2 k (by rw [LU.out]; exact hlt)
      cases e'
      rw [Nat.zero_add] at c0 c1
      have f0 := I4.out.1.1 (k * 2)
      have f1 := I4.out.1.1 (k * 2 + 1)
      have I5 : Hid (SlR ((w4.setCell ⟨B, k * 2, none⟩ (.string id)).setCell ⟨B, k * 2 + 1, none⟩ (.string tx)) B (upS R (k + 1)) ∧ Below B w ((w4.setCell ⟨B, k * 2, none⟩ (.string id)).setCell ⟨B, k * 2 + 1, none⟩ (.string tx))) := by
        refine ⟨?_, (I4.out.2.setCell (p := ⟨B, k * 2, none⟩) (Nat.le_refl _) _).setCell (p := ⟨B, k * 2 + 1, none⟩) (Nat.le_refl _) _⟩
        rw [← SS.out]
        exact I4.out.1.set k id tx
      clear hb4 I I4 RS ha1 ha2
      go_wp2
      go_roundw
      case rel => exact ⟨k + 1, by omega, by go_num, I5.out⟩
      case measure => simp [intOf]; omega
    · obtain rfl : k = 4 := by omega
      have FI : Hid (SlR wr B R ∧ Below B w wr) := by
        have := I.out
        rw [upS_end R HR.out.2] at this
        exact this
      clear I
      rw [show ((4 : Nat) : Int) = 4 from rfl]
      go_wp2
      go_ret
      exact ⟨by rw [HB.out]; rfl, HB.out ▸ FI.out⟩
end Go.Proofs.YtbogoheigbiegaaDoor.Mai
