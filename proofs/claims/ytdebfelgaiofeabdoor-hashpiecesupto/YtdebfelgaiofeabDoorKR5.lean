/- What stands behind a text, as the document has it. -/
import Derived.Test.YtdebfelgaiofeabDoorKR4
import Derived.Test.YtdebfelgaiofeabDoorLK4
import Derived.Laws.OwnMore
namespace Go.Proofs.YtdebfelgaiofeabDoor
open Go.RowKit Go.Proofs.Fd Go.Proofs.Hs

theorem made_zero (n : Nat) : (madeCells (Value.cells (.int .u8 0)) (n * 1)).toList = bcells (List.replicate n 0) := by
  rw [Nat.mul_one]
  apply List.ext_getElem?
  intro j
  simp [madeCells, bcells, Value.cells]
  by_cases h : j < n
  · simp [h, Nat.mod_one]
  · simp [h]

/-- The last eight bytes so far. -/
def bs (X : Nat) : Nat → List UInt8
  | 0 => List.replicate 8 0
  | i + 1 => (bs X i).set (7 - i) (UInt8.ofNat (X / 2 ^ (8 * i)))
theorem bs_len (X i : Nat) : (bs X i).length = 8 := by
  induction i with
  | zero => rfl
  | succ i ih => simpa [bs] using ih
theorem bs_all (X : Nat) : bs X 8 = be8 X := by rfl
theorem bcells_set (l : List UInt8) (j : Nat) (x : UInt8) : (bcells l).set j (.int .u8 (x.toNat : Int)) = bcells (l.set j x) := by
  unfold bcells; rw [List.map_set]

set_option maxHeartbeats 1000000 in
theorem rwhole_any (s : ByteArray) (hs : s.size ≤ 140737488355328) (w : World) :
    Calls Tryd.prog 22 #[.string s] w fun e w' => e = .returned (.string ⟨(pd s.data.toList).toArray⟩) ∧ Below w.heap.size w w' := by
  obtain ⟨i0, hi, hz0, hz1, hz2⟩ := info_parts infoByte
  have hl : Hid (s.data.toList.length = s.size) := by show s.data.toList.length = s.size; simp
  obtain ⟨n, hn⟩ : ∃ n, (119 - s.size % 64) % 64 = n := ⟨_, rfl⟩
  have n64 : n < 64 := by omega
  have a1 : (s.size : Int).tmod 64 = ((s.size % 64 : Nat) : Int) := by rw [Int.tmod_eq_emod_of_nonneg (by omega)]; omega
  obtain ⟨r, hr⟩ : ∃ r, s.size % 64 = r := ⟨_, rfl⟩
  rw [hr] at a1
  have a1' : (s.size : Int) % 64 = (r : Int) := by omega
  have a2 : IntKind.i64.wrap (119 - (r : Int)) = 119 - (r : Int) := by rw [IntKind.wrap_i64]; omega
  have a3 : (119 - (r : Int)).tmod 64 = (n : Int) := by rw [Int.tmod_eq_emod_of_nonneg (by omega)]; omega
  have a3' : (119 - (r : Int)) % 64 = (n : Int) := by omega
  have a0 : (0 : Int) ≤ 119 - (r : Int) := by omega
  obtain ⟨c, hc⟩ : ∃ c, n + 9 = c := ⟨_, rfl⟩
  have a4 : IntKind.i64.wrap ((n : Int) + 9) = (c : Int) := by rw [IntKind.wrap_i64]; omega
  have a4' : (n : Int) + 9 = (c : Int) := by omega
  obtain ⟨X, hX⟩ : ∃ X, 8 * s.size % 2 ^ 64 = X := ⟨_, rfl⟩
  obtain ⟨W, hmk, hown0, hgrown⟩ := run_make_full (P := Tryd.prog) w w.heap.size 36 5 i0 (.int .u8 0) 1 Tryd.underlying36 hi hz0 hz1 .i64 .i64 c (by rw [hz2]; omega) (by unfold maxLen; omega) (Nat.le_refl _)
  have OW : Hid (W.ownsRow w.heap.size 5 1 (.slice (some ⟨w.heap.size, 0, none⟩) c c) c (bcells (List.replicate c 0)) ∧ Below w.heap.size w W) := ⟨by rw [← made_zero]; exact hown0, (Below.refl _ _).grown hgrown (Nat.le_refl _) (fun k h => by cases h)⟩
  have c0 : W.cell? ⟨w.heap.size, 0, none⟩ = some (.int .u8 0) := by
    rw [OW.out.1.cellAt 0 (by omega)]
    simp [bcells, show 0 < c by omega]
  have f0 := OW.out.1.frozenAt 0
  have cpos : (0 : Int) < (c : Int) := by omega
  have ST : Hid ((W.setCell ⟨w.heap.size, 0, none⟩ (.int .u8 128)).ownsRow w.heap.size 5 1 (.slice (some ⟨w.heap.size, 0, none⟩) c c) c (bcells ((128 :: List.replicate n 0) ++ bs X 0)) ∧ Below w.heap.size w (W.setCell ⟨w.heap.size, 0, none⟩ (.int .u8 128))) := by
    refine ⟨?_, OW.out.2.setCell (p := ⟨w.heap.size, 0, none⟩) (Nat.le_refl _) _⟩
    have h := (OW.out.1.stored 0 (.int .u8 (((128 : UInt8).toNat : Nat) : Int))).1
    rw [bcells_set] at h
    have e : (List.replicate c (0 : UInt8)).set 0 128 = (128 :: List.replicate n 0) ++ bs X 0 := by
      rw [← hc]
      show (List.replicate (n + 8 + 1) (0 : UInt8)).set 0 128 = 128 :: (List.replicate n 0 ++ List.replicate 8 0)
      rw [List.replicate_succ, List.set_cons_zero, List.replicate_append_replicate]
    rw [e] at h
    exact h
  have FIN : Hid ((⟨(pd s.data.toList).toArray⟩ : ByteArray) = s ++ ⟨((128 :: List.replicate n 0) ++ bs X 8).toArray⟩) := by
    show _ = _
    apply ByteArray.ext
    unfold pd
    rw [hl.out, hn, hX, bs_all]
    simp
  have HN : Hid (n + 9 = c ∧ n < 64 ∧ s.size % 64 = r) := ⟨hc, n64, hr⟩
  have HX : Hid (8 * s.size = X) := by show 8 * s.size = X; omega
  clear hn hr hc hX hown0 hgrown
  go_enter Tryd.func22, Tryd.ntmps22
  go_wp2
  go_loopw [5] (fun i wr => ∃ j : Nat, j ≤ 8 ∧ i = .int .i64 (j : Int) ∧ Hid (wr.ownsRow w.heap.size 5 1 (.slice (some ⟨w.heap.size, 0, none⟩) c c) c (bcells ((128 :: List.replicate n 0) ++ bs X j)) ∧ Below w.heap.size w wr)) (fun i _ => 8 - (intOf i).toNat)
  case atStart => exact ⟨0, by omega, rfl, ST.out⟩
  case round =>
    obtain ⟨j, hj, rfl, J⟩ := hrel
    clear hmk c0 f0 ST
    by_cases hj8 : j = 8
    · subst hj8
      have CV := own_string J.out.1 wr (Below.refl _ _)
      have SZ : Hid (((128 :: List.replicate n 0) ++ bs X 8).length = c) := by
        show _ = _
        rw [List.length_append, List.length_cons, List.length_replicate, bs_len]
        have := HN.out; omega
      have fs : s.size + (⟨((128 :: List.replicate n 0) ++ bs X 8).toArray⟩ : ByteArray).size ≤ 9223372036854775807 := by
        have h1 : (⟨((128 :: List.replicate n 0) ++ bs X 8).toArray⟩ : ByteArray).size = c := by
          show ((128 :: List.replicate n 0) ++ bs X 8).toArray.size = c
          rw [List.size_toArray]; exact SZ.out
        rw [h1]
        have := HN.out; omega
      generalize (⟨((128 :: List.replicate n 0) ++ bs X 8).toArray⟩ : ByteArray) = Y at *
      go_wp2
      go_ret
      exact ⟨by rw [FIN.out]; rfl, J.out.2⟩
    · obtain ⟨p, hp⟩ : ∃ p, n + 8 - j = p := ⟨_, rfl⟩
      have hpc : p < c := by have := HN.out; omega
      have CP : wr.cell? ⟨w.heap.size, p, none⟩ = (bcells ((128 :: List.replicate n 0) ++ bs X j))[p]? := J.out.1.cellAt p (by omega)
      obtain ⟨y, hy⟩ : ∃ y, (bcells ((128 :: List.replicate n 0) ++ bs X j))[p]? = some y := by
        have hl2 : (bcells ((128 :: List.replicate n 0) ++ bs X j)).length = c := by
          unfold bcells
          rw [List.length_map, List.length_append, List.length_cons, List.length_replicate, bs_len]
          have := HN.out; omega
        exact ⟨_, List.getElem?_eq_getElem (by omega)⟩
      rw [hy] at CP
      have FP := J.out.1.frozenAt p
      have e1 : IntKind.i64.wrap ((n : Int) + 8) = (n : Int) + 8 := by rw [IntKind.wrap_i64]; omega
      have e2 : IntKind.i64.wrap ((n : Int) + 8 - (j : Int)) = (p : Int) := by rw [IntKind.wrap_i64]; omega
      have e2' : (n : Int) + 8 - (j : Int) = (p : Int) := by omega
      have e3 : (p : Int) < (c : Int) := by omega
      have e4 : IntKind.u64.wrap ((s.size : Nat) : Int) = ((s.size : Nat) : Int) := by rw [IntKind.wrap_u64]; omega
      have e4' : ((s.size : Nat) : Int) % 18446744073709551616 = ((s.size : Nat) : Int) := by omega
      have e5 : IntKind.u64.wrap ((s.size : Int) * 8) = (X : Int) := by rw [IntKind.wrap_u64]; have := HX.out; omega
      have e5' : (s.size : Int) * 8 % 18446744073709551616 = (X : Int) := by have := HX.out; omega
      have e6 : IntKind.i64.wrap (8 * (j : Int)) = ((8 * j : Nat) : Int) := by rw [IntKind.wrap_i64]; omega
      have e7 : ((8 * j : Nat) : Int) ≤ 64 := by omega
      have BV : (X : Int) / 2 ^ (8 * j) % 256 = ((UInt8.ofNat (X / 2 ^ (8 * j))).toNat : Int) := by rw [UInt8.toNat_ofNat']; simp
      have NX : Hid ((wr.setCell ⟨w.heap.size, p, none⟩ (.int .u8 ((UInt8.ofNat (X / 2 ^ (8 * j))).toNat : Int))).ownsRow w.heap.size 5 1 (.slice (some ⟨w.heap.size, 0, none⟩) c c) c (bcells ((128 :: List.replicate n 0) ++ bs X (j + 1))) ∧ Below w.heap.size w (wr.setCell ⟨w.heap.size, p, none⟩ (.int .u8 ((UInt8.ofNat (X / 2 ^ (8 * j))).toNat : Int)))) := by
        refine ⟨?_, J.out.2.setCell (p := ⟨w.heap.size, p, none⟩) (Nat.le_refl _) _⟩
        have h := (J.out.1.stored p (.int .u8 ((UInt8.ofNat (X / 2 ^ (8 * j))).toNat : Int))).1
        rw [bcells_set, List.set_append_right _ _ (by rw [List.length_cons, List.length_replicate]; omega)] at h
        rw [show p - (128 :: List.replicate n (0 : UInt8)).length = 7 - j by rw [List.length_cons, List.length_replicate]; omega] at h
        exact h
      obtain ⟨x, hx⟩ : ∃ x, UInt8.ofNat (X / 2 ^ (8 * j)) = x := ⟨_, rfl⟩
      rw [hx] at BV NX
      clear hx hy hp
      go_wp2
      go_roundw
      case rel => exact ⟨j + 1, by omega, by go_num, NX.out⟩
      case measure => simp [intOf]; omega
end Go.Proofs.YtdebfelgaiofeabDoor
