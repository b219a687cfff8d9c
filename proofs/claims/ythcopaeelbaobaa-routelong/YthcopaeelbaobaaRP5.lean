/- The program's Decode: its contract. -/
import Derived.Test.YthcopaeelbaobaaRP4
namespace Go.Proofs.Ythcopaeelbaobaa
open Go.RowKit Go.Proofs.Fd Go.Proofs.Rt
set_option maxRecDepth 20000

/-- The answer of Decode: a command in block b, and a number. -/
theorem res_dec (tmps : Array Value) (w : World) (b : Nat) (k n u d : Int) (id : ByteArray) (e : Int) (h2 : tmps.getD 2 undef = .pointer (some ⟨b, 0, none⟩)) (h3 : tmps.getD 3 undef = .int .i64 e) (l : HopAt w b ⟨k, n, u, d, id⟩) :
    (results Try.f14 tmps).run Try.prog w = .ok (.tuple #[.agg #[.int .i64 k, .int .i64 n, .int .i64 u, .int .i64 d, .string id], .int .i64 e]) w := by
  have l1 := run_loadVar_mid (P := Try.prog) w b 0 23 [.int .i64 k, .int .i64 n, .int .i64 u, .int .i64 d, .string id] _ l.range Try.underlying23 rfl (by kernel_rfl)
  unfold results
  rw [Try.results14]
  have h2' : tmps[2]?.getD undef = .pointer (some ⟨b, 0, none⟩) := by simpa using h2
  have h3' : tmps[3]?.getD undef = .int .i64 e := by simpa using h3
  simp [h2', h3', l1, asAddr]

set_option maxHeartbeats 1000000 in
theorem decode_form (b : ByteArray) (h : ¬ b.size = 24) (w : World) :
    Calls Try.prog 14 #[.string b] w fun e w' => e = .returned (.tuple #[hv zh, .int .i64 3]) ∧ Below w.heap.size w w' := by
  have h' : ¬ (b.size : Int) = 24 := by omega
  unfold hv zh
  simp only
  go_enter Try.func14, Try.ntmps14
  go_wp2
  refine bodyPost_ret ?_ rfl ⟨rfl, (Below.refl _ _).alloc (Nat.le_refl _) _⟩
  exact res_dec _ _ w.heap.size 0 0 0 0 ⟨#[]⟩ 3 (by kernel_rfl) (by kernel_rfl) (HopAt.fresh _ _ _ _ _ _ _)

theorem nm_cand (b : ByteArray) (hb : b.size = 24) :
    ∃ x : Hp, nm x = cand b.data.toList ∧ x.id.size ≤ 16 ∧ ∀ w, Calls Try.prog 21 #[.string b] w fun e w' => e = .returned (hv x) ∧ Below w.heap.size w w' := by
  have l0 : 0 < b.size := by omega
  have l1 : 1 < b.size := by omega
  have l2 : 2 < b.size := by omega
  have l3 : 3 < b.size := by omega
  obtain ⟨c0, hc0⟩ : ∃ c, b[0] = c := ⟨_, rfl⟩
  obtain ⟨c1, hc1⟩ : ∃ c, b[1] = c := ⟨_, rfl⟩
  obtain ⟨c2, hc2⟩ : ∃ c, b[2] = c := ⟨_, rfl⟩
  obtain ⟨c3, hc3⟩ : ∃ c, b[3] = c := ⟨_, rfl⟩
  have CD := cand_kinds b c0 c1 c2 c3 (by rw [List.getD_eq_getElem?_getD, List.getElem?_eq_getElem (by simpa using l0), ← hc0]; rfl) (by rw [List.getD_eq_getElem?_getD, List.getElem?_eq_getElem (by simpa using l1), ← hc1]; rfl) (by rw [List.getD_eq_getElem?_getD, List.getElem?_eq_getElem (by simpa using l2), ← hc2]; rfl) (by rw [List.getD_eq_getElem?_getD, List.getElem?_eq_getElem (by simpa using l3), ← hc3]; rfl)
  refine ⟨_, ?_, ?_, fun w => read_any b hb c0 c1 c2 c3 l0 l1 l2 l3 hc0 hc1 hc2 hc3 w⟩
  · have key : ∀ v : UInt8, c0 = v ↔ (c0.toNat : Int) = (v.toNat : Int) := fun v => ⟨fun h => by rw [h], fun h => UInt8.toNat.inj (by omega)⟩
    have k1 : c0 = 1 ↔ (c0.toNat : Int) = 1 := key 1
    have k2 : c0 = 2 ↔ (c0.toNat : Int) = 2 := key 2
    have k3 : c0 = 3 ↔ (c0.toNat : Int) = 3 := key 3
    unfold nm
    simp only
    by_cases h1 : c0 = 1
    · rw [CD.1 h1, if_pos (k1.1 h1), k1.1 h1]
    · by_cases h2 : c0 = 2
      · rw [CD.2.1 h2, if_neg (fun h => h1 (k1.2 h)), if_pos (k2.1 h2), k2.1 h2]
      · by_cases h3 : c0 = 3
        · rw [CD.2.2.1 h3, if_neg (fun h => h1 (k1.2 h)), if_neg (fun h => h2 (k2.2 h)), if_pos (k3.1 h3), k3.1 h3]
        · rw [CD.2.2.2 h1 h2 h3, if_neg (fun h => h1 (k1.2 h)), if_neg (fun h => h2 (k2.2 h)), if_neg (fun h => h3 (k3.2 h))]
  · show (b.extract 4 20).size ≤ 16
    simp
    omega

set_option maxHeartbeats 1000000 in
theorem decode_24 (b : ByteArray) (hb : b.size = 24) (w : World) :
    Calls Try.prog 14 #[.string b] w fun e w' => e = .returned (.tuple (dcV b)) ∧ Below w.heap.size w w' := by
  obtain ⟨x, hx, sx, RD⟩ := nm_cand b hb
  have R0 : Hid (∀ w, Calls Try.prog 21 #[.string b] w fun e w' => e = .returned (hv x) ∧ Below w.heap.size w w') := RD
  have N0 : Hid (∀ w, Calls Try.prog 19 #[hv x] w fun e w' => e = .returned (hv (cand b.data.toList)) ∧ Below w.heap.size w w') := fun w => by
    have := named_any x w
    rw [hx] at this
    exact this
  have si : (cand b.data.toList).id.size ≤ 16 := by
    rw [← hx]; unfold nm; repeat' split
    all_goals first | exact sx | exact Nat.zero_le _
  have hl : b.data.toList.length = 24 := by simpa using hb
  have zb : (b.size : Int) = 24 := by omega
  have E0 : Hid (∀ w, Calls Try.prog 9 #[hv (cand b.data.toList)] w fun e w' => e = .returned (.tuple (enV (cand b.data.toList))) ∧ Below w.heap.size w w') := fun w => encode_c _ w (by show _ ≤ _; omega)
  have FN : Hid ((¬ ok (cand b.data.toList) = true → dcV b = #[hv zh, .int .i64 70]) ∧ (¬ byt (cand b.data.toList) = b.data.toList → dcV b = #[hv zh, .int .i64 70]) ∧ (ok (cand b.data.toList) = true → byt (cand b.data.toList) = b.data.toList → dcV b = #[hv (cand b.data.toList), .int .i64 0])) := by
    refine ⟨fun h => dcV_none b hb ?_, fun h => dcV_none b hb ?_, fun h1 h2 => dcV_some b _ hb ?_⟩
    · unfold dcd; rw [if_neg (fun g => h g.2.1)]
    · unfold dcd; rw [if_neg (fun g => h g.2.2)]
    · unfold dcd; rw [if_pos ⟨hl, h1, h2⟩]
  clear RD hx sx si hl
  generalize cand b.data.toList = y at *
  obtain ⟨k', n', u', d', id'⟩ := x
  obtain ⟨k, n, u, d, id⟩ := y
  unfold hv at R0 N0 E0 FN
  simp only at R0 N0 E0 FN
  go_enter Try.func14, Try.ntmps14
  go_wp2_with fail
  refine Calls.mono (R0.out _) ?_
  rintro e w1 ⟨rfl, hb1⟩
  have B1 : Hid (HopAt w1 w.heap.size ⟨0, 0, 0, 0, ⟨#[]⟩⟩ ∧ Below w.heap.size w w1) := ⟨(HopAt.fresh _ _ _ _ _ _ _).later hb1, chain ((Below.refl _ _).alloc (Nat.le_refl _) _) hb1⟩
  clear hb1 R0
  go_wp2_with fail
  refine Calls.mono (N0.out _) ?_
  rintro e w2 ⟨rfl, hb2⟩
  have B2 : Hid (HopAt w2 w.heap.size ⟨0, 0, 0, 0, ⟨#[]⟩⟩ ∧ Below w.heap.size w w2) := ⟨B1.out.1.later hb2, chain B1.out.2 hb2⟩
  clear hb2 N0 B1
  go_wp2_with fail
  obtain ⟨D, hD⟩ : ∃ D, w2.alloc (.cells #[.int .i64 k, .int .i64 n, .int .i64 u, .int .i64 d, .string id] 23) = D := ⟨_, rfl⟩
  obtain ⟨g, hg⟩ : ∃ g, w2.heap.size = g := ⟨_, rfl⟩
  have HD : Hid (HopAt D w.heap.size ⟨0, 0, 0, 0, ⟨#[]⟩⟩ ∧ HopAt D g ⟨k, n, u, d, id⟩ ∧ Below w.heap.size w D) := by
    have bd := (Below.refl w2.heap.size w2).alloc (Nat.le_refl _) (.cells #[.int .i64 k, .int .i64 n, .int .i64 u, .int .i64 d, .string id] 23)
    rw [← hD, ← hg]
    exact ⟨B2.out.1.later bd, HopAt.fresh _ _ _ _ _ _ _, chain B2.out.2 bd⟩
  rw [hD, hg]
  clear hD hg B2
  by_cases hok : ok ⟨k, n, u, d, id⟩ = true
  · rw [enV_ok _ hok] at E0
    obtain ⟨X, hX⟩ : ∃ X : ByteArray, ⟨(byt ⟨k, n, u, d, id⟩).toArray⟩ = X := ⟨_, rfl⟩
    have EX : Hid ((X.toList = b.toList) = (byt ⟨k, n, u, d, id⟩ = b.data.toList)) := by
      show _ = _
      rw [ByteArray.toList_eq, ByteArray.toList_eq, ← hX]
    rw [hX] at E0
    have OK1 : Hid (ok ⟨k, n, u, d, id⟩ = true) := hok
    refine Calls.mono (E0.out _) ?_
    rintro e w3 ⟨rfl, hb3⟩
    have H2 : Hid (HopAt w3 w.heap.size ⟨0, 0, 0, 0, ⟨#[]⟩⟩ ∧ HopAt w3 g ⟨k, n, u, d, id⟩ ∧ Below w.heap.size w w3) := ⟨HD.out.1.later hb3, HD.out.2.1.later hb3, chain HD.out.2.2 hb3⟩
    obtain ⟨r0, r1, r2, r3, r4⟩ := H2.out.2.1.cells
    obtain ⟨s0, s1, s2, s3, s4⟩ := H2.out.1.cells
    have fz := H2.out.1.1
    have f0 := fz 0
    have f1 := fz 1
    have f2 := fz 2
    have f3 := fz 3
    have f4 := fz 4
    clear hb3 HD E0 fz hok hX
    by_cases hq : X.toList = b.toList
    · have E : Hid (dcV b = #[.agg #[.int .i64 k, .int .i64 n, .int .i64 u, .int .i64 d, .string id], .int .i64 0]) := FN.out.2.2 OK1.out (EX.out ▸ hq)
      have hq2 : (X.toList == b.toList) = true := by simpa using hq
      have HW : Hid (_ ∧ _) := And.intro (HopAt.whole H2.out.1 k n u d id) (below_put5 H2.out.2.2 (Nat.le_refl w.heap.size) (.int .i64 k) (.int .i64 n) (.int .i64 u) (.int .i64 d) (.string id))
      clear FN EX OK1 H2
      go_wp2
      refine bodyPost_ret (v := .tuple #[.agg #[.int .i64 k, .int .i64 n, .int .i64 u, .int .i64 d, .string id], .int .i64 0]) ?_ rfl ⟨by rw [E.out], HW.out.2⟩
      exact res_dec _ _ w.heap.size _ _ _ _ _ 0 (by kernel_rfl) (by kernel_rfl) HW.out.1
    · have hq2 : (X.toList == b.toList) = false := beq_eq_false_iff_ne.2 hq
      have E : Hid (dcV b = #[.agg #[.int .i64 0, .int .i64 0, .int .i64 0, .int .i64 0, .string ⟨#[]⟩], .int .i64 70]) := FN.out.2.1 (fun h => hq (EX.out ▸ h))
      have HW : Hid (_ ∧ _) := And.intro (HopAt.whole H2.out.1 0 0 0 0 ⟨#[]⟩) (below_put5 H2.out.2.2 (Nat.le_refl w.heap.size) (.int .i64 0) (.int .i64 0) (.int .i64 0) (.int .i64 0) (.string ⟨#[]⟩))
      clear FN EX OK1 H2
      go_wp2
      refine bodyPost_ret (v := .tuple #[.agg #[.int .i64 0, .int .i64 0, .int .i64 0, .int .i64 0, .string ⟨#[]⟩], .int .i64 70]) ?_ rfl ⟨by rw [E.out], HW.out.2⟩
      exact res_dec _ _ w.heap.size 0 0 0 0 ⟨#[]⟩ 70 (by kernel_rfl) (by kernel_rfl) HW.out.1
  · rw [enV_no _ hok] at E0
    refine Calls.mono (E0.out _) ?_
    rintro e w3 ⟨rfl, hb3⟩
    have H2 : Hid (HopAt w3 w.heap.size ⟨0, 0, 0, 0, ⟨#[]⟩⟩ ∧ Below w.heap.size w w3) := ⟨HD.out.1.later hb3, chain HD.out.2.2 hb3⟩
    obtain ⟨s0, s1, s2, s3, s4⟩ := H2.out.1.cells
    have fz := H2.out.1.1
    have f0 := fz 0
    have f1 := fz 1
    have f2 := fz 2
    have f3 := fz 3
    have f4 := fz 4
    have E : Hid (dcV b = #[.agg #[.int .i64 0, .int .i64 0, .int .i64 0, .int .i64 0, .string ⟨#[]⟩], .int .i64 70]) := FN.out.1 hok
    have HW : Hid (_ ∧ _) := And.intro (HopAt.whole H2.out.1 0 0 0 0 ⟨#[]⟩) (below_put5 H2.out.2 (Nat.le_refl w.heap.size) (.int .i64 0) (.int .i64 0) (.int .i64 0) (.int .i64 0) (.string ⟨#[]⟩))
    clear FN hb3 HD E0 H2 fz hok
    go_wp2
    refine bodyPost_ret (v := .tuple #[.agg #[.int .i64 0, .int .i64 0, .int .i64 0, .int .i64 0, .string ⟨#[]⟩], .int .i64 70]) ?_ rfl ⟨by rw [E.out], HW.out.2⟩
    exact res_dec _ _ w.heap.size 0 0 0 0 ⟨#[]⟩ 70 (by kernel_rfl) (by kernel_rfl) HW.out.1

theorem decode_c : DecodeC := fun b w _ => by
  by_cases h : b.size = 24
  · exact decode_24 b h w
  · rw [dcV_form b h]; exact decode_form b h w
end Go.Proofs.Ythcopaeelbaobaa
