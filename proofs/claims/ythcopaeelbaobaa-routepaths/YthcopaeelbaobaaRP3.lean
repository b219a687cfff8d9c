/- The program's Encode. -/
import Derived.Test.YthcopaeelbaobaaRP2
import Derived.Test.YthcopaeelbaobaaRC
namespace Go.Proofs.Ythcopaeelbaobaa
open Go.RowKit Go.Proofs.Fd Go.Proofs.Rt
set_option maxRecDepth 20000

theorem byt_of (h : Hp) : (bq h 0).take 4 ++ h.id.data.toList ++ (bq h 0).drop (4 + h.id.data.toList.length) = byt h := by
  have e : h.id.data.toList.length = h.id.size := by simp
  unfold bq byt
  rw [e, List.take_zero, List.append_nil, ← List.drop_drop]
  show [UInt8.ofNat h.k.toNat, UInt8.ofNat (h.n + h.u).toNat, UInt8.ofNat (h.d / 256).toNat, UInt8.ofNat (h.d % 256).toNat] ++ h.id.data.toList ++ (List.replicate (20 - 0) (0 : UInt8)).drop h.id.size = _
  rw [List.drop_replicate]

set_option maxHeartbeats 1000000 in
theorem encode_ok (h : Hp) (hk : ok h = true) (w : World) :
    Calls Try.prog 9 #[hv h] w fun e w' => e = .returned (.tuple #[.string ⟨(byt h).toArray⟩, .int .i64 0]) ∧ Below w.heap.size w w' := by
  have CK : Hid (∀ w, Calls Try.prog 11 #[hv h] w fun e w' => e = .returned (.int .i64 0) ∧ Below w.heap.size w w') := fun w => check_ok h hk w
  have hI := id_len h hk
  have hB : 0 ≤ h.k ∧ h.k < 256 ∧ 0 ≤ h.n + h.u ∧ h.n + h.u < 256 ∧ 0 ≤ h.d ∧ h.d ≤ 4096 := by
    rcases ok_cases h hk with g | g | g | g <;> omega
  clear hk
  obtain ⟨k, n, u, d, id⟩ := h
  simp only at hI hB
  obtain ⟨b1, b2, b3, b4, b5, b6⟩ := hB
  unfold hv at CK ⊢
  simp only at CK ⊢
  have t1 : IntKind.u8.wrap k = k := by rw [IntKind.wrap_u8]; omega
  have t2 : IntKind.i64.wrap (n + u) = n + u := by rw [IntKind.wrap_i64]; omega
  have t3 : IntKind.u8.wrap (n + u) = n + u := by rw [IntKind.wrap_u8]; omega
  have t6 : IntKind.u8.wrap (d / 256) = d / 256 := by rw [IntKind.wrap_u8]; omega
  have t7 : IntKind.u8.wrap d = d % 256 := by rw [IntKind.wrap_u8]
  go_enter Try.func9, Try.ntmps9
  go_wp2_with fail
  refine Calls.mono (CK.out _) ?_
  rintro e w1 ⟨rfl, hb1⟩
  have B1 : Hid (HopAt w1 w.heap.size ⟨k, n, u, d, id⟩ ∧ Below w.heap.size w w1) := ⟨(HopAt.fresh _ _ _ _ _ _ _).later hb1, chain ((Below.refl _ _).alloc (Nat.le_refl _) _) hb1⟩
  clear hb1 CK
  obtain ⟨W, CM, BW, bW, sW⟩ := rmake24 w1
  obtain ⟨g, hg⟩ : ∃ g, w.heap.size = g := ⟨_, rfl⟩
  obtain ⟨gb, hgb⟩ : ∃ g, w1.heap.size = g := ⟨_, rfl⟩
  rw [hgb] at CM BW
  rw [hg] at B1 ⊢
  have CB : Hid (HopAt W g ⟨k, n, u, d, id⟩ ∧ Below g w W ∧ g < gb) := by
    refine ⟨B1.out.1.later bW, ?_, by rw [← hgb]; exact B1.out.1.lt⟩
    rw [← hg]
    exact chain (hg ▸ B1.out.2) bW
  have ne1 : ¬ gb = g := by have := CB.out.2.2; omega
  have ne2 : ¬ g = gb := by have := CB.out.2.2; omega
  obtain ⟨c0, c1, c2, c3, c4⟩ := CB.out.1.cells
  obtain ⟨v0, x0, f0⟩ := BW.cell 0 (by decide)
  obtain ⟨v1, x1, f1⟩ := BW.cell 1 (by decide)
  obtain ⟨v2, x2, f2⟩ := BW.cell 2 (by decide)
  obtain ⟨v3, x3, f3⟩ := BW.cell 3 (by decide)
  clear B1 bW sW hgb
  have t8 : IntKind.u8.wrap (d / 256) = d / 256 := by rw [IntKind.wrap_u8]; omega
  have t9 : d / 256 % 256 = d / 256 := by omega
  go_wp2
  go_region
  obtain ⟨Z, hZ⟩ : ∃ Z, ((((W.setCell ⟨gb, 0, none⟩ (.int .u8 k)).setCell ⟨gb, 1, none⟩ (.int .u8 (n + u))).setCell ⟨gb, 2, none⟩ (.int .u8 (d / 256))).setCell ⟨gb, 3, none⟩ (.int .u8 (d % 256))).drew = Z := ⟨_, rfl⟩
  rw [hZ]
  obtain ⟨F, CP, CF, bF, cZ⟩ : ∃ F : World, (Builtin.copy_ #[40, 9] 3 #[.slice (some ⟨gb, 4, none⟩) 20 20, .string id]).run Try.prog Z.drew = .ok (.int .i64 (id.size : Int)) F
      ∧ (convert 40 9 (.slice (some ⟨gb, 0, none⟩) 24 24)).run Try.prog F = .ok (.string ⟨(byt ⟨k, n, u, d, id⟩).toArray⟩) F ∧ Hid (Below g w F) ∧ Z.cell? ⟨g, 4, none⟩ = some (.string id) := by
    obtain ⟨h1, h2, h3⟩ := CB.out
    have le : g ≤ gb := by omega
    have hh : HopAt ((((W.setCell ⟨gb, 0, none⟩ (.int .u8 k)).setCell ⟨gb, 1, none⟩ (.int .u8 (n + u))).setCell ⟨gb, 2, none⟩ (.int .u8 (d / 256))).setCell ⟨gb, 3, none⟩ (.int .u8 (d % 256))) g ⟨k, n, u, d, id⟩ := (((h1.other (a := ⟨gb, 0, none⟩) ne1 _).other (a := ⟨gb, 1, none⟩) ne1 _).other (a := ⟨gb, 2, none⟩) ne1 _).other (a := ⟨gb, 3, none⟩) ne1 _
    have hw : Below g w ((((W.setCell ⟨gb, 0, none⟩ (.int .u8 k)).setCell ⟨gb, 1, none⟩ (.int .u8 (n + u))).setCell ⟨gb, 2, none⟩ (.int .u8 (d / 256))).setCell ⟨gb, 3, none⟩ (.int .u8 (d % 256))) := (((h2.setCell (p := ⟨gb, 0, none⟩) le _).setCell (p := ⟨gb, 1, none⟩) le _).setCell (p := ⟨gb, 2, none⟩) le _).setCell (p := ⟨gb, 3, none⟩) le _
    have hy : BytesAt ((((W.setCell ⟨gb, 0, none⟩ (.int .u8 k)).setCell ⟨gb, 1, none⟩ (.int .u8 (n + u))).setCell ⟨gb, 2, none⟩ (.int .u8 (d / 256))).setCell ⟨gb, 3, none⟩ (.int .u8 (d % 256))) gb (bq ⟨k, n, u, d, id⟩ 0) := by
      rw [← bq_zero]
      exact (((BW.set 0 _ _ (by rw [u8_of _ b1 b2])).set 1 _ _ (by rw [u8_of _ b3 b4])).set 2 _ _ (by show _ = ((UInt8.ofNat (d / 256).toNat).toNat : Int); rw [u8_of (d / 256) (by omega) (by omega)])).set 3 _ _ (by show _ = ((UInt8.ofNat (d % 256).toNat).toNat : Int); rw [u8_of (d % 256) (by omega) (by omega)])
    have hyZ : BytesAt Z.drew gb (bq ⟨k, n, u, d, id⟩ 0) := (hZ ▸ hy.later (Below.refl _ _).drew : BytesAt Z gb (bq ⟨k, n, u, d, id⟩ 0)).later (Below.refl _ _).drew
    have hhZ : HopAt Z g ⟨k, n, u, d, id⟩ := hZ ▸ hh.later (Below.refl _ _).drew
    have hwZ : Below g w Z.drew := (hZ ▸ hw.drew : Below g w Z).drew
    have lb : (bq ⟨k, n, u, d, id⟩ 0).length = 24 := bq_len _ _ (Nat.zero_le _) (by show id.size ≤ 20; omega)
    have lt : id.data.toList.length = id.size := by simp
    have CP := rcopy_at Z.drew gb 4 20 20 id id.size (Nat.min_eq_left (by omega)) (fun j hj => by rw [(hyZ (4 + j) (by omega)).1]; rfl) (fun j hj => (hyZ (4 + j) (by omega)).2)
    rw [List.take_of_length_le (by rw [lt]; exact Nat.le_refl _)] at CP
    have BF := hyZ.rcopied 4 id.data.toList (by omega)
    have e := byt_of ⟨k, n, u, d, id⟩
    simp only at e
    rw [e] at BF
    refine ⟨_, CP, BF.string (cap := 24) ?_, below_setCells le _ _ _ hwZ, hhZ.cells.2.2.2.2⟩
    rw [← e, List.length_append, List.length_append, List.length_take, List.length_drop, lb, lt]
    omega
  have HG : Hid (w.heap.size = g) := hg
  clear hZ CB BW CM x0 x1 x2 x3 f0 f1 f2 f3 c0 c1 c2 c3 c4 hg
  go_wp2
  go_region
  go_wp2
  go_ret2
  exact ⟨rfl, by rw [HG.out]; exact bF.out⟩

set_option maxHeartbeats 1000000 in
theorem encode_no (h : Hp) (hk : ¬ ok h = true) (hi : h.id.size ≤ 140737488355328) (w : World) :
    Calls Try.prog 9 #[hv h] w fun e w' => e = .returned (.tuple #[.string ⟨#[]⟩, .int .i64 70]) ∧ Below w.heap.size w w' := by
  have CK : Hid (∀ w, Calls Try.prog 11 #[hv h] w fun e w' => e = .returned (.int .i64 70) ∧ Below w.heap.size w w') := fun w => by
    have := check_c h w hi
    rw [chk_no h hk] at this
    exact this
  clear hk hi
  obtain ⟨k, n, u, d, id⟩ := h
  unfold hv at CK ⊢
  simp only at CK ⊢
  go_enter Try.func9, Try.ntmps9
  go_wp2_with fail
  refine Calls.mono (CK.out _) ?_
  rintro e w1 ⟨rfl, hb1⟩
  have B1 : Hid (Below w.heap.size w w1) := chain ((Below.refl _ _).alloc (Nat.le_refl _) _) hb1
  clear hb1 CK
  go_wp2
  go_ret2
  exact ⟨rfl, B1.out⟩

theorem encode_c : EncodeC := fun h w hi => by
  by_cases hk : ok h = true
  · rw [enV_ok h hk]; exact encode_ok h hk w
  · rw [enV_no h hk]; exact encode_no h hk hi.out w
end Go.Proofs.Ythcopaeelbaobaa
