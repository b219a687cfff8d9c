/- Bytes that are appended to; a part's text. -/
import Derived.Test.YtdepjiocmbbdpaaDoorPtB
import Derived.Lib.AppendStr
import Derived.Lib.AppendZeros
namespace Go.Proofs.YtdepjiocmbbdpaaDoor
open Go.RowKit Go.Proofs.Fd Go.Proofs.Pt Go.Lib
set_option maxRecDepth 20000

theorem info3 {T : TypeId} {z : Value} {n b : Nat} (h : (Tryd.prog.info? T).map (fun i => (i.zero, i.size, i.bytes)) = some (some z, n, b)) : ∃ i0, Tryd.prog.info? T = some i0 ∧ i0.zero = some z ∧ i0.size = n ∧ i0.bytes = b := by
  cases hq : Tryd.prog.info? T with
  | none => rw [hq] at h; cases h
  | some i0 =>
    rw [hq] at h
    simp only [Option.map_some, Option.some.injEq, Prod.mk.injEq] at h
    exact ⟨i0, rfl, h.1, h.2.1, h.2.2⟩
theorem infoB : (Tryd.prog.info? 5).map (fun i => (i.zero, i.size, i.bytes)) = some (some (.int .u8 0), 1, 1) := by kernel_rfl
/-- Bytes of the call's own. -/
abbrev OwnB (base : Nat) (w : World) (v : Value) (l : Bs) : Prop := w.ownsRow base 5 1 v l.length (bc l)
theorem add_off (b o j : Nat) : (⟨b, o, none⟩ : Addr).add j = ⟨b, o + j, none⟩ := by unfold Addr.add; split <;> simp_all
theorem grown_below {B : Nat} {a w w' : World} {row : Option Nat} (h : Below B a w) (k : w.grownBy w' row) (hr : ∀ g, row = some g → B ≤ g) (hB : B ≤ w.heap.size) : Below B a w' :=
  h.trans ⟨k.os, k.tape, k.output, k.size, fun g hg => k.block g (Nat.lt_of_lt_of_le hg hB) (fun e => by have := hr g e.symm; omega)⟩
/-- Bytes that lie somewhere are appended; a string is. -/
theorem app_bytes {base : Nat} {w : World} {v : Value} {l : Bs} (ty : TypeId) (h : OwnB base w v l) (b o n cap : Nat) (m : Bs) (hr : w.rangeAt b o (bc m)) (hm : m.length = n) (hz : l.length + m.length ≤ 140737488355328) (hB : base ≤ w.heap.size) :
    ∃ v' w', (Builtin.append_ #[54, 54] ty #[v, .slice (some ⟨b, o, none⟩) n cap]).run Tryd.prog w = .ok v' w' ∧ OwnB base w' v' (l ++ m) ∧ Below base w w' := by
  obtain ⟨i0, hi, hz0, hz1, hz2⟩ := info3 infoB
  obtain ⟨v', w', r1, r2, r3, -⟩ := run_append_own (P := Tryd.prog) w base 54 ty 5 i0 _ 1 1 Tryd.underlying54 hi hz0 hz1 hz2 rfl (by decide) v l.length (bc l) h ⟨b, o, none⟩ n cap (bc m) (by rw [bc_len, hm, Nat.mul_one]) (fun j u hu => by rw [add_off]; exact hr j u hu) (bc_one m) (by unfold maxLen; omega) (by omega) hB
  refine ⟨v', w', r1, ?_, grown_below (Below.refl _ _) r3 (fun g e => (h.lt g e).1) hB⟩
  unfold OwnB
  rw [bc_app, List.length_append, hm]
  exact r2
theorem strCells_bc (s : Bs) : strCells (st s) = bc s := by simp [strCells, bc]
theorem app_str {base : Nat} {w : World} {v : Value} {l : Bs} (ty : TypeId) (h : OwnB base w v l) (m : Bs) (hz : l.length + m.length ≤ 140737488355328) (hB : base ≤ w.heap.size) :
    ∃ v' w', (Builtin.append_ #[54, 9] ty #[v, .string (st m)]).run Tryd.prog w = .ok v' w' ∧ OwnB base w' v' (l ++ m) ∧ Below base w w' := by
  obtain ⟨i0, hi, hz0, hz1, hz2⟩ := info3 infoB
  obtain ⟨v', w', r1, r2, r3, -⟩ := run_append_own_string (P := Tryd.prog) w base 54 9 ty 5 i0 Tryd.underlying54 Tryd.underlying9 hi hz0 hz1 hz2 v l.length (bc l) h (st m) (by rw [st_size]; unfold maxLen; omega) (by rw [st_size]; omega) hB
  refine ⟨v', w', r1, ?_, grown_below (Below.refl _ _) r3 (fun g e => (h.lt g e).1) hB⟩
  unfold OwnB
  rw [bc_app, List.length_append]
  rw [st_size, strCells_bc] at r2
  exact r2
/-- Bytes of the call's own as a string. -/
theorem own_text {base : Nat} {w : World} {v : Value} {l : Bs} (h : OwnB base w v l) (h0 : l ≠ []) : (convert 54 9 v).run Tryd.prog w = .ok (.string (st l)) w := by
  rcases h.2 with ⟨-, e⟩ | ⟨g, cap, cur, rfl, -⟩
  · exact absurd (List.length_eq_zero_iff.1 e) h0
  · exact run_convert_bytes_back (P := Tryd.prog) w 54 9 5 ⟨g, 0, none⟩ cap l Tryd.underlying54 Tryd.underlying5 Tryd.underlying9 (fun j hj => h.cells rfl j _ (by unfold bc; rw [List.getElem?_map, List.getElem?_eq_getElem hj]; rfl))
/-- The fields of a part. -/
structure PaF (w : World) (b : Nat) (p : Pa) : Prop where
  i : w.rangeAt b 0 (bc p.m.1)
  n : w.cell? ⟨b, 8, none⟩ = some (.int .i64 (p.m.2.1 : Int))
  d : w.rangeAt b 9 (bc p.m.2.2)
  k : w.cell? ⟨b, 15, none⟩ = some (.int .i64 (p.k : Int))
  p : w.cell? ⟨b, 16, none⟩ = some (.string (st p.p))
theorem pac_eq (p : Pa) : pac p = bc p.m.1 ++ ([.int .i64 (p.m.2.1 : Int)] ++ (bc p.m.2.2 ++ ([.int .i64 (p.k : Int)] ++ [.string (st p.p)]))) := by unfold pac mkc; simp
theorem paf {w : World} {b : Nat} {p : Pa} (h : w.rangeAt b 0 (pac p)) (hm : Mk8 p.m) : PaF w b p := by
  rw [pac_eq] at h
  have r1 := range_right h
  rw [bc_len, hm.a] at r1
  have r2 := range_right r1
  have r3 := range_right r2
  rw [bc_len, hm.b] at r3
  have r4 := range_right r3
  exact ⟨range_left h, r1 0 _ rfl, range_left r2, r3 0 _ rfl, r4 0 _ rfl⟩
set_option maxHeartbeats 4000000 in
theorem partText_any (p : Pa) (hm : Mk8 p.m) (hk : p.k < 256) (hn : p.m.2.1 < 256) (hp : p.p.length ≤ 140737488355000) (w : World) :
    Calls Tryd.prog 22 #[.agg (pac p).toArray] w fun e w' => e = .returned (.string (st (tx p))) ∧ Below w.heap.size w w' := by
  obtain ⟨W0, hW0⟩ : ∃ W, w.alloc (.cells (pac p).toArray 64) = W := ⟨_, rfl⟩
  have y0 : Blk W0 w.heap.size (pac p) := hW0 ▸ Blk.new w (pac p) _ (pac_ne p)
  have b0 : Below w.heap.size w W0 := hW0 ▸ (Below.refl _ w).alloc (Nat.le_refl _) _
  have s0 : W0.heap.size = w.heap.size + 1 := by rw [← hW0]; simp
  have F0 := paf y0.r hm
  obtain ⟨v1, W1, A1, o1, n1⟩ := app_bytes (l := []) 54 (World.ownsRow_nil W0 W0.heap.size 5 1) w.heap.size 0 8 8 p.m.1 F0.i hm.a (by rw [hm.a]; decide) (Nat.le_refl _)
  have y1 := y0.later n1
  have F1 := paf y1.r hm
  obtain ⟨W2, hW2⟩ : ∃ W, W1.alloc (.cells #[.int .u8 (p.k : Int), .int .u8 (p.m.2.1 : Int)] 5) = W := ⟨_, rfl⟩
  have n2 : Below W1.heap.size W1 W2 := hW2 ▸ (Below.refl _ W1).alloc (Nat.le_refl _) _
  have z2 : Blk W2 W1.heap.size (bc [UInt8.ofNat p.k, UInt8.ofNat p.m.2.1]) := by
    have e : bc [UInt8.ofNat p.k, UInt8.ofNat p.m.2.1] = [.int .u8 (p.k : Int), .int .u8 (p.m.2.1 : Int)] := by
      simp only [bc, List.map_cons, List.map_nil, UInt8.toNat_ofNat']
      rw [Nat.mod_eq_of_lt (show p.k < 2 ^ 8 by omega), Nat.mod_eq_of_lt (show p.m.2.1 < 2 ^ 8 by omega)]
    rw [e, ← hW2]
    exact Blk.new W1 [.int .u8 (p.k : Int), .int .u8 (p.m.2.1 : Int)] 5 (by simp)
  have o1' : OwnB W0.heap.size W2 v1 ([] ++ p.m.1) := by
    rw [← hW2]; exact o1.alloc _
  obtain ⟨v3, W3, A3, o3, n3⟩ := app_bytes 54 o1' W1.heap.size 0 2 2 [UInt8.ofNat p.k, UInt8.ofNat p.m.2.1] z2.r rfl (by simp [hm.a]) (Nat.le_trans n1.size n2.size)
  have y3 : Blk W3 w.heap.size (pac p) := (y1.later n2).below n3 (by omega)
  have F3 := paf y3.r hm
  obtain ⟨v4, W4, A4, o4, n4⟩ := app_bytes 54 o3 w.heap.size 9 6 6 p.m.2.2 F3.d hm.b (by simp [hm.a, hm.b]) (Nat.le_trans n1.size (Nat.le_trans n2.size n3.size))
  have y4 : Blk W4 w.heap.size (pac p) := y3.below n4 (by omega)
  have F4 := paf y4.r hm
  obtain ⟨v5, W5, A5, o5, n5⟩ := app_str 54 o4 p.p (by simp [hm.a, hm.b]; omega) (Nat.le_trans n1.size (Nat.le_trans n2.size (Nat.le_trans n3.size n4.size)))
  have e5 : [] ++ p.m.1 ++ [UInt8.ofNat p.k, UInt8.ofNat p.m.2.1] ++ p.m.2.2 ++ p.p = tx p := by unfold tx; simp
  rw [e5] at o5
  have CV := own_text o5 (by unfold tx; simp)
  have FI : Hid (Below w.heap.size w W5) := b0.trans ((chain n1 n2).trans ((n3.trans (n4.trans n5))) |>.mono (by omega))
  have c1k := F1.k
  have c1n := F1.n
  have c4p := F4.p
  have w1 : IntKind.u8.wrap (p.k : Int) = (p.k : Int) := by rw [IntKind.wrap_u8]; omega
  have w2 : IntKind.u8.wrap (p.m.2.1 : Int) = (p.m.2.1 : Int) := by rw [IntKind.wrap_u8]; omega
  have hA1 : Hid _ := A1
  have hA3 : Hid _ := A3
  have hA4 : Hid _ := A4
  have hA5 : Hid _ := A5
  clear A1 A3 A4 A5
  clear y0 b0 s0 F0 o1 n1 y1 F1 n2 z2 o1' o3 n3 y3 F3 o4 n4 y4 F4 o5 n5 e5
  generalize st p.p = P at *
  generalize p.k = K at *
  generalize p.m.2.1 = N at *
  go_enter Tryd.func22, Tryd.ntmps22
  go_upto_region 2 with fail
  refine wp_region_lit ?_
  refine wpList_plain rfl (fun K2 hK2 => ?_)
  go_simp
  refine hK2 _ _ ?_
  clear hK2 K2
  refine wpList_plain rfl (fun K2 hK2 => ?_)
  go_simp
  refine hK2 _ _ ?_
  clear hK2 K2
  refine wpList_plain rfl (fun K2 hK2 => ?_)
  go_simp
  refine hK2 _ _ ?_
  clear hK2 K2
  refine wpList_plain rfl (fun K2 hK2 => ?_)
  go_simp
  refine hK2 _ _ ?_
  clear hK2 K2
  refine wpList_plain rfl (fun K2 hK2 => Go.Lib.wp_append_run _ _ _ _ _ rfl _ _ rfl rfl _ _ (hA1.out) (hK2 _ _ ?_))
  try simp only [Act.put, List.setIfInBounds_toArray, List.set_cons_zero, List.set_cons_succ]
  refine wpList_plain rfl (fun K2 hK2 => ?_)
  go_simp
  refine hK2 _ _ ?_
  clear hK2 K2
  refine wpList_nil ?_
  try simp only [Act.put, List.setIfInBounds_toArray, List.set_cons_zero, List.set_cons_succ]
  go_upto_region 3 with fail
  refine wp_region_lit ?_
  refine wpList_plain rfl (fun K2 hK2 => ?_)
  go_simp
  refine hK2 _ _ ?_
  clear hK2 K2
  refine wpList_plain rfl (fun K2 hK2 => ?_)
  go_simp
  refine hK2 _ _ ?_
  clear hK2 K2
  refine wpList_plain rfl (fun K2 hK2 => ?_)
  go_simp
  refine hK2 _ _ ?_
  clear hK2 K2
  refine wpList_plain rfl (fun K2 hK2 => ?_)
  go_simp
  refine hK2 _ _ ?_
  clear hK2 K2
  refine wpList_plain rfl (fun K2 hK2 => ?_)
  go_simp
  refine hK2 _ _ ?_
  clear hK2 K2
  refine wpList_plain rfl (fun K2 hK2 => ?_)
  go_simp
  refine hK2 _ _ ?_
  clear hK2 K2
  refine wpList_plain rfl (fun K2 hK2 => ?_)
  go_simp
  refine hK2 _ _ ?_
  clear hK2 K2
  refine wpList_plain rfl (fun K2 hK2 => ?_)
  go_simp
  refine hK2 _ _ ?_
  clear hK2 K2
  refine wpList_plain rfl (fun K2 hK2 => ?_)
  go_simp
  refine hK2 _ _ ?_
  clear hK2 K2
  refine wpList_plain rfl (fun K2 hK2 => Go.Lib.wp_append_run _ _ _ _ _ rfl _ _ rfl rfl _ _ (hA3.out) (hK2 _ _ ?_))
  try simp only [Act.put, List.setIfInBounds_toArray, List.set_cons_zero, List.set_cons_succ]
  refine wpList_plain rfl (fun K2 hK2 => ?_)
  go_simp
  refine hK2 _ _ ?_
  clear hK2 K2
  refine wpList_nil ?_
  try simp only [Act.put, List.setIfInBounds_toArray, List.set_cons_zero, List.set_cons_succ]
  go_upto_region 4 with fail
  refine wp_region_lit ?_
  refine wpList_plain rfl (fun K2 hK2 => ?_)
  go_simp
  refine hK2 _ _ ?_
  clear hK2 K2
  refine wpList_plain rfl (fun K2 hK2 => ?_)
  go_simp
  refine hK2 _ _ ?_
  clear hK2 K2
  refine wpList_plain rfl (fun K2 hK2 => ?_)
  go_simp
  refine hK2 _ _ ?_
  clear hK2 K2
  refine wpList_plain rfl (fun K2 hK2 => ?_)
  go_simp
  refine hK2 _ _ ?_
  clear hK2 K2
  refine wpList_plain rfl (fun K2 hK2 => Go.Lib.wp_append_run _ _ _ _ _ rfl _ _ rfl rfl _ _ (hA4.out) (hK2 _ _ ?_))
  try simp only [Act.put, List.setIfInBounds_toArray, List.set_cons_zero, List.set_cons_succ]
  refine wpList_plain rfl (fun K2 hK2 => ?_)
  go_simp
  refine hK2 _ _ ?_
  clear hK2 K2
  refine wpList_nil ?_
  try simp only [Act.put, List.setIfInBounds_toArray, List.set_cons_zero, List.set_cons_succ]
  go_upto_region 5 with fail
  refine wp_region_lit ?_
  refine wpList_plain rfl (fun K2 hK2 => ?_)
  go_simp
  refine hK2 _ _ ?_
  clear hK2 K2
  refine wpList_plain rfl (fun K2 hK2 => ?_)
  go_simp
  refine hK2 _ _ ?_
  clear hK2 K2
  refine wpList_plain rfl (fun K2 hK2 => ?_)
  go_simp
  refine hK2 _ _ ?_
  clear hK2 K2
  refine wpList_plain rfl (fun K2 hK2 => Go.Lib.wp_append_run _ _ _ _ _ rfl _ _ rfl rfl _ _ (hA5.out) (hK2 _ _ ?_))
  try simp only [Act.put, List.setIfInBounds_toArray, List.set_cons_zero, List.set_cons_succ]
  refine wpList_plain rfl (fun K2 hK2 => ?_)
  go_simp
  refine hK2 _ _ ?_
  clear hK2 K2
  refine wpList_plain rfl (fun K2 hK2 => ?_)
  go_simp
  refine hK2 _ _ ?_
  clear hK2 K2
  refine wpList_nil ?_
  try simp only [Act.put, List.setIfInBounds_toArray, List.set_cons_zero, List.set_cons_succ]
  go_wp2
  go_ret
  exact ⟨rfl, FI.out⟩
end Go.Proofs.YtdepjiocmbbdpaaDoor
