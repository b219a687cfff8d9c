/- Counts, pieces, ids. -/
import Derived.Test.YtdepjiocmbbdpaaDoorPtA
namespace Go.Proofs.YtdepjiocmbbdpaaDoor
open Go.RowKit Go.Proofs.Fd Go.Proofs.Pt
set_option maxRecDepth 20000

theorem countOf_any (n : Nat) (hn : n ≤ 140737488355328) (w : World) :
    Calls Tryd.prog 33 #[.int .i64 (n : Int)] w fun e w' => e = .returned (.int .i64 (cnt n : Int)) ∧ w' = w := by
  have e1 : wrap64 ((n : Int) + 200) = ((n + 200 : Nat) : Int) := by unfold wrap64; omega
  have e2 : wrap64 (((n + 200 : Nat) : Int) - 1) = ((n + 199 : Nat) : Int) := by unfold wrap64; omega
  go_enter Tryd.func33, Tryd.ntmps33
  go_wp2
  all_goals go_ret
  all_goals refine ⟨?_, rfl⟩
  all_goals show Ending.returned (.int .i64 _) = _
  all_goals congr 2; unfold cnt; omega
theorem pieceOf_any (b : ByteArray) (k : Nat) (hb : b.size ≤ 2048) (hk : 200 * k ≤ b.size) (w : World) :
    Calls Tryd.prog 21 #[.string b, .int .i64 (k : Int)] w fun e w' => e = .returned (.string (st (pc b.data.toList k))) ∧ w' = w := by
  have hs : b.data.toList.length = b.size := by simp
  have E : ∀ m, 200 * k ≤ m → m ≤ b.size → (m = 200 * k + 200 ∨ m = b.size ∧ b.size ≤ 200 * k + 200) → b.extract (k * 200) m = st (pc b.data.toList k) := fun m h1 h2 h3 => by
    apply ByteArray.ext
    apply Array.ext'
    simp [pc, ByteArray.data_extract]
    rw [show k * 200 = 200 * k by omega]
    rcases h3 with rfl | ⟨rfl, h3⟩
    · rw [show 200 * k + 200 - 200 * k = 200 by omega]
    · rw [List.take_of_length_le (by rw [List.length_drop]; omega), List.take_of_length_le (by rw [List.length_drop]; omega)]
  go_enter Tryd.func21, Tryd.ntmps21
  go_wp2
  all_goals go_ret
  all_goals refine ⟨?_, rfl⟩
  · rw [E b.size hk (Nat.le_refl _) (.inr ⟨rfl, by omega⟩)]; rfl
  · rw [show ((k : Int) + 1) * 200 = ((200 * k + 200 : Nat) : Int) by omega, Int.toNat_natCast, E _ (by omega) (by omega) (.inl rfl)]; rfl
/-- Eight bytes, six bytes. -/
theorem eight {i : Bs} (h : i.length = 8) : ∃ a0 a1 a2 a3 a4 a5 a6 a7, i = [a0, a1, a2, a3, a4, a5, a6, a7] := by
  match i, h with
  | [a0, a1, a2, a3, a4, a5, a6, a7], _ => exact ⟨_, _, _, _, _, _, _, _, rfl⟩
theorem six {i : Bs} (h : i.length = 6) : ∃ a0 a1 a2 a3 a4 a5, i = [a0, a1, a2, a3, a4, a5] := by
  match i, h with
  | [a0, a1, a2, a3, a4, a5], _ => exact ⟨_, _, _, _, _, _, rfl⟩
theorem range8 {w : World} {b o : Nat} {a0 a1 a2 a3 a4 a5 a6 a7 : Value} (h : w.rangeAt b o [a0, a1, a2, a3, a4, a5, a6, a7]) : w.cell? ⟨b, o, none⟩ = some a0 ∧ w.cell? ⟨b, o + 1, none⟩ = some a1 ∧ w.cell? ⟨b, o + 2, none⟩ = some a2 ∧ w.cell? ⟨b, o + 3, none⟩ = some a3 ∧ w.cell? ⟨b, o + 4, none⟩ = some a4 ∧ w.cell? ⟨b, o + 5, none⟩ = some a5 ∧ w.cell? ⟨b, o + 6, none⟩ = some a6 ∧ w.cell? ⟨b, o + 7, none⟩ = some a7 :=
  ⟨h 0 _ rfl, h 1 _ rfl, h 2 _ rfl, h 3 _ rfl, h 4 _ rfl, h 5 _ rfl, h 6 _ rfl, h 7 _ rfl⟩
set_option maxHeartbeats 1000000 in
theorem nameOf_any (i : Bs) (hi : i.length = 8) (w : World) :
    Calls Tryd.prog 20 #[.string (st i)] w fun e w' => e = .returned (.agg (bc i).toArray) ∧ Below w.heap.size w w' := by
  obtain ⟨W, hW⟩ : ∃ W, (w.alloc (.cells #[.int .u8 0, .int .u8 0, .int .u8 0, .int .u8 0, .int .u8 0, .int .u8 0, .int .u8 0, .int .u8 0] 57)).alloc (.cells #[.int .u8 0, .int .u8 0, .int .u8 0, .int .u8 0, .int .u8 0, .int .u8 0, .int .u8 0, .int .u8 0] 57) = W := ⟨_, rfl⟩
  have z8 : Blk W (w.heap.size + 1) [.int .u8 0, .int .u8 0, .int .u8 0, .int .u8 0, .int .u8 0, .int .u8 0, .int .u8 0, .int .u8 0] := by
    have := Blk.new (w.alloc (.cells #[.int .u8 0, .int .u8 0, .int .u8 0, .int .u8 0, .int .u8 0, .int .u8 0, .int .u8 0, .int .u8 0] 57)) [.int .u8 0, .int .u8 0, .int .u8 0, .int .u8 0, .int .u8 0, .int .u8 0, .int .u8 0, .int .u8 0] 57 (by simp)
    rw [hW] at this; simpa using this
  have z0 : Blk W w.heap.size [.int .u8 0, .int .u8 0, .int .u8 0, .int .u8 0, .int .u8 0, .int .u8 0, .int .u8 0, .int .u8 0] := by
    have := (Blk.new w [.int .u8 0, .int .u8 0, .int .u8 0, .int .u8 0, .int .u8 0, .int .u8 0, .int .u8 0, .int .u8 0] 57 (by simp)).later ((Below.refl _ _).alloc (Nat.le_refl _) (.cells #[.int .u8 0, .int .u8 0, .int .u8 0, .int .u8 0, .int .u8 0, .int .u8 0, .int .u8 0, .int .u8 0] 57))
    rw [hW] at this; exact this
  have bW : Below w.heap.size w W := by rw [← hW]; exact ((Below.refl _ w).alloc (Nat.le_refl _) _).alloc (by simp) _
  have C0 := copy_str W (w.heap.size + 1) 0 8 8 (st i) 8 (by rw [st_size, hi]; rfl) z8.there
  rw [List.take_of_length_le (by simp [hi])] at C0
  obtain ⟨V, hV⟩ : ∃ V, W.setCells (w.heap.size + 1) 0 (bc (st i).data.toList) = V := ⟨_, rfl⟩
  have z1 : Blk V (w.heap.size + 1) (bc i) := hV ▸ z8.put (bc i) (by rw [bc_len, hi]; rfl)
  have z2 : Blk V w.heap.size [.int .u8 0, .int .u8 0, .int .u8 0, .int .u8 0, .int .u8 0, .int .u8 0, .int .u8 0, .int .u8 0] := hV ▸ z0.bf (Bf.sets (fun g => g = w.heap.size + 1) _ rfl _ _ _) (by omega)
  have bV : Below w.heap.size w V := hV ▸ below_sets (by omega) _ _ bW
  rw [hV] at C0
  have z3 : Hid (Blk (V.setCells w.heap.size 0 (bc i)) w.heap.size (bc i)) := z2.put (bc i) (by rw [bc_len, hi]; rfl)
  have FI : Hid (Below w.heap.size w (V.setCells w.heap.size 0 (bc i))) := below_sets (Nat.le_refl _) _ _ bV
  obtain ⟨a0, a1, a2, a3, a4, a5, a6, a7, rfl⟩ := eight hi
  simp only [bc, List.map_cons, List.map_nil] at z1 z3 FI ⊢
  obtain ⟨c0, c1, c2, c3, c4, c5, c6, c7⟩ := range8 z1.r
  obtain ⟨d0, d1, d2, d3, d4, d5, d6, d7⟩ := range8 z2.r
  have f0 := z2.f
  simp only [Nat.zero_add] at c1 c2 c3 c4 c5 c6 c7 d1 d2 d3 d4 d5 d6 d7
  clear z8 z0 bW z1 z2 bV hV
  go_enter Tryd.func20, Tryd.ntmps20
  go_upto_region 2 with fail
  go_wp2
  refine bodyPost_ret (v := .agg #[.int .u8 (a0.toNat : Int), .int .u8 (a1.toNat : Int), .int .u8 (a2.toNat : Int), .int .u8 (a3.toNat : Int), .int .u8 (a4.toNat : Int), .int .u8 (a5.toNat : Int), .int .u8 (a6.toNat : Int), .int .u8 (a7.toNat : Int)]) ?_ rfl ⟨rfl, FI.out⟩
  exact res_c1 Tryd.results20 _ _ w.heap.size _ (by kernel_rfl) (run_loadVar_mid _ w.heap.size 0 57 [.int .u8 (a0.toNat : Int), .int .u8 (a1.toNat : Int), .int .u8 (a2.toNat : Int), .int .u8 (a3.toNat : Int), .int .u8 (a4.toNat : Int), .int .u8 (a5.toNat : Int), .int .u8 (a6.toNat : Int), .int .u8 (a7.toNat : Int)] _ z3.out.r Tryd.underlying57 rfl sizeName)
theorem nameText_any (i : Bs) (hi : i.length = 8) (w : World) :
    Calls Tryd.prog 35 #[.agg (bc i).toArray] w fun e w' => e = .returned (.string (st i)) ∧ Below w.heap.size w w' := by
  have ne : bc i ≠ [] := fun e => by have := bc_len i; rw [e, hi] at this; cases this
  have B : Blk (w.alloc (.cells (bc i).toArray 57)) w.heap.size (bc i) := Blk.new w (bc i) 57 ne
  have CV := BytesAt.string (w := w.alloc (.cells (bc i).toArray 57)) (b := w.heap.size) (cap := 8) (n := 8) (l := i) (fun j hj => ⟨B.c j _ (by unfold bc; rw [List.getElem?_map, List.getElem?_eq_getElem hj]; rfl), B.f j⟩) hi
  have FI : Hid (Below w.heap.size w (w.alloc (.cells (bc i).toArray 57))) := (Below.refl _ w).alloc (Nat.le_refl _) _
  clear B
  go_enter Tryd.func35, Tryd.ntmps35
  go_wp2
  go_ret
  exact ⟨rfl, FI.out⟩
end Go.Proofs.YtdepjiocmbbdpaaDoor
