/- The document's reader. -/
import Derived.Test.YtihfilngbljiaaaFrR
namespace Go.Proofs.Ytihfilngbljiaaa
open Go.RowKit Go.Proofs.Fd Go.Proofs.Fr
set_option maxRecDepth 20000

/-- The document's reader at d. -/
def DAt (w : World) (d : Nat) (r : Rd) : Prop := w.cell? ⟨d, 0, none⟩ = some (.string ⟨r.h.toArray⟩) ∧ w.cell? ⟨d, 1, none⟩ = some (.bool r.b) ∧ ∀ o, w.frozen? ⟨d, o, none⟩ = false
theorem DAt.same {w w' : World} {d : Nat} {r : Rd} (h : DAt w d r) (e : w'.heap[d]? = w.heap[d]?) : DAt w' d r :=
  ⟨(World.cell?_of_block (a := ⟨d, 0, none⟩) e).trans h.1, (World.cell?_of_block (a := ⟨d, 1, none⟩) e).trans h.2.1, fun o => (World.frozen?_of_block (a := ⟨d, o, none⟩) e).trans (h.2.2 o)⟩
theorem DAt.lt {w : World} {d : Nat} {r : Rd} (h : DAt w d r) : d < w.heap.size := World.block_lt_of_cell? _ _ h.1
theorem DAt.later {w w' : World} {d : Nat} {r : Rd} (h : DAt w d r) (hb : Below w.heap.size w w') : DAt w' d r := h.same (hb.block d h.lt)
theorem DAt.apart {w w' : World} {d p g : Nat} {r : Rd} (h : DAt w d r) (hb : But p g w w') (h1 : d ≠ p) (h2 : d ≠ g) : DAt w' d r := h.same (hb.block d h.lt h1 h2)
theorem DAt.put {w : World} {d : Nat} {r : Rd} (h : DAt w d r) (l : List UInt8) : DAt (w.setCell ⟨d, 0, none⟩ (.string ⟨l.toArray⟩)) d ⟨l, r.b⟩ := by
  obtain ⟨h1, h2, h3⟩ := h
  exact ⟨by simp [go_sem, h1], by simp [go_sem, h2], fun o => by simp [go_sem, h3]⟩
theorem DAt.broken {w : World} {d : Nat} {r : Rd} (h : DAt w d r) : DAt ((w.setCell ⟨d, 0, none⟩ (.string ⟨#[]⟩)).setCell ⟨d, 1, none⟩ (.bool true)) d ⟨[], true⟩ := by
  obtain ⟨h1, h2, h3⟩ := h
  exact ⟨by simp [go_sem, h1], by simp [go_sem, h2], fun o => by simp [go_sem, h3]⟩
theorem DAt.new (w : World) (r : Rd) (t : TypeId) : DAt (w.alloc (.cells #[.string ⟨r.h.toArray⟩, .bool r.b] t)) w.heap.size r :=
  ⟨by rw [World.cell?_alloc_new]; rfl, by rw [World.cell?_alloc_new]; rfl, fun o => by simp [go_sem]⟩
theorem wr63 (n : Int) (h0 : 0 ≤ n) (h1 : n < 9223372036854775808) : wrap64 n = n := by
  unfold wrap64
  omega
theorem add_word (c0 c1 c2 c3 : UInt8) : wrap64 (wrap64 (wrap64 (wrap64 (wrap64 (c0.toNat : Int) * 16777216) + wrap64 (wrap64 (c1.toNat : Int) * 65536)) + wrap64 (wrap64 (c2.toNat : Int) * 256)) + wrap64 (c3.toNat : Int)) = ((c0.toNat * 16777216 + c1.toNat * 65536 + c2.toNat * 256 + c3.toNat : Nat) : Int) := by
  have q0 := c0.toNat_lt
  have q1 := c1.toNat_lt
  have q2 := c2.toNat_lt
  have q3 := c3.toNat_lt
  rw [wr63 (c0.toNat : Int) (by omega) (by omega), wr63 (c1.toNat : Int) (by omega) (by omega), wr63 (c2.toNat : Int) (by omega) (by omega), wr63 (c3.toNat : Int) (by omega) (by omega), wr63 ((c0.toNat : Int) * 16777216) (by omega) (by omega), wr63 ((c1.toNat : Int) * 65536) (by omega) (by omega), wr63 ((c2.toNat : Int) * 256) (by omega) (by omega), wr63 ((c0.toNat : Int) * 16777216 + (c1.toNat : Int) * 65536) (by omega) (by omega), wr63 ((c0.toNat : Int) * 16777216 + (c1.toNat : Int) * 65536 + (c2.toNat : Int) * 256) (by omega) (by omega), wr63 _ (by omega) (by omega)]
  omega
def longD (h : List UInt8) : Int := if 4 ≤ h.length then (num4 h : Int) else -1
set_option maxHeartbeats 1000000 in
theorem dlong_any (d : Nat) (r : Rd) (w : World) (R : Hid (DAt w d r)) :
    Calls Try.prog 26 #[.pointer (some ⟨d, 0, none⟩)] w fun e w' => e = .returned (.int .i64 (longD r.h)) ∧ Below w.heap.size w w' := by
  have c0 := R.out.1
  obtain ⟨S, hS⟩ : ∃ S : ByteArray, S = ⟨r.h.toArray⟩ := ⟨_, rfl⟩
  have hlen : S.size = r.h.length := by rw [hS]; simp [ByteArray.size]
  rw [← hS] at c0
  by_cases q : 4 ≤ r.h.length
  · have EV : Hid (longD r.h = ((S[0].toNat * 16777216 + S[1].toNat * 65536 + S[2].toNat * 256 + S[3].toNat : Nat) : Int)) := by
      show _ = _
      unfold longD
      rw [if_pos q, num4_of _ q]
      subst hS
      rfl
    rw [EV.out]
    have l0 : 0 < S.size := by omega
    have l1 : 1 < S.size := by omega
    have l2 : 2 < S.size := by omega
    have l3 : 3 < S.size := by omega
    obtain ⟨x0, hx0⟩ : ∃ c, S[0] = c := ⟨_, rfl⟩
    obtain ⟨x1, hx1⟩ : ∃ c, S[1] = c := ⟨_, rfl⟩
    obtain ⟨x2, hx2⟩ : ∃ c, S[2] = c := ⟨_, rfl⟩
    obtain ⟨x3, hx3⟩ : ∃ c, S[3] = c := ⟨_, rfl⟩
    have z0 : (0 : Int) < (S.size : Int) := by omega
    have z1 : (1 : Int) < (S.size : Int) := by omega
    have z2 : (2 : Int) < (S.size : Int) := by omega
    have z3 : (3 : Int) < (S.size : Int) := by omega
    have z4 : ¬ (S.size : Int) < 4 := by omega
    rw [hx0, hx1, hx2, hx3]
    have AW : Hid (_ = _) := add_word x0 x1 x2 x3
    clear EV R hS
    go_enter Try.func26, Try.ntmps26
    go_wp2
    go_quiet (fail)
    rw [AW.out]
    go_wp2
    go_ret
    exact ⟨rfl, below_drewN (Below.refl _ _) _⟩
  · have EV : longD r.h = -1 := if_neg q
    rw [EV]
    have z4 : (S.size : Int) < 4 := by omega
    clear EV R hS
    go_enter Try.func26, Try.ntmps26
    go_wp2
    go_ret
    exact ⟨rfl, Below.refl _ _⟩
set_option maxHeartbeats 1000000 in
theorem dlook_any (d : Nat) (r : Rd) (w : World) (R : Hid (DAt w d r)) :
    Calls Try.prog 23 #[.pointer (some ⟨d, 0, none⟩)] w fun e w' => e = .returned (.tuple #[]) ∧ DAt w' d (Fr.look r) ∧ But d d w w' := by
  have L := dlong_any d r w R
  by_cases q : bad r.h
  · have e1 : longD r.h = (num4 r.h : Int) := if_pos q.1
    have e2 : (4096 : Int) < (num4 r.h : Int) := by have := q.2; omega
    rw [look_bad q]
    rw [e1] at L
    have HL : Hid (Calls Try.prog 26 #[.pointer (some ⟨d, 0, none⟩)] w fun e w' => e = .returned (.int .i64 (num4 r.h : Int)) ∧ Below w.heap.size w w') := L
    clear e1 q L
    go_enter Try.func23, Try.ntmps23
    go_wp2_with fail
    refine Calls.mono HL.out ?_
    rintro e w1 ⟨rfl, hb⟩
    have V1 : Hid (DAt w1 d r) := R.out.later hb
    have B1 : Hid (But d d w w1) := But.of hb
    have c0 := V1.out.1
    have c1 := V1.out.2.1
    have c2 := V1.out.2.2
    clear hb HL
    go_wp2
    exact bodyPost_end (results_none Try.results23 _ _ _) rfl ⟨rfl, V1.out.broken, (B1.out.setCell _ _).setCell _ _⟩
  · rw [look_of q]
    obtain ⟨E, hE⟩ : ∃ E, longD r.h = E := ⟨_, rfl⟩
    have e2 : ¬ (4096 : Int) < E := by
      rw [← hE]
      unfold longD
      by_cases q4 : 4 ≤ r.h.length
      · rw [if_pos q4]
        have : ¬ 4096 < num4 r.h := fun z => q ⟨q4, z⟩
        omega
      · rw [if_neg q4]; omega
    rw [hE] at L
    have HL : Hid (Calls Try.prog 26 #[.pointer (some ⟨d, 0, none⟩)] w fun e w' => e = .returned (.int .i64 E) ∧ Below w.heap.size w w') := L
    clear hE q L
    go_enter Try.func23, Try.ntmps23
    go_wp2_with fail
    refine Calls.mono HL.out ?_
    rintro e w1 ⟨rfl, hb⟩
    have V1 : Hid (DAt w1 d r) := R.out.later hb
    have B1 : Hid (But d d w w1) := But.of hb
    clear hb HL
    go_wp2
    exact bodyPost_end (results_none Try.results23 _ _ _) rfl ⟨rfl, V1.out, B1.out⟩
set_option maxHeartbeats 1000000 in
theorem dtake_any (d : Nat) (r : Rd) (c : ByteArray) (w : World) (R : Hid (DAt w d r)) (hz : r.h.length ≤ 1048576) :
    Calls Try.prog 15 #[.pointer (some ⟨d, 0, none⟩), .string c] w fun e w' => e = .returned (.int .i64 (takeE r c.data.toList)) ∧ DAt w' d (takeR r c.data.toList) ∧ But d d w w' := by
  obtain ⟨c0, c1, c2⟩ := R.out
  have hlS : c.data.toList.length = c.size := by simp
  by_cases qb : r.b = true
  · obtain ⟨t1, t2⟩ := broken_take r c.data.toList qb
    rw [t1, t2]
    rw [qb] at c1
    clear t1 t2
    go_enter Try.func15, Try.ntmps15
    go_wp2
    go_ret
    exact ⟨rfl, R.out, But.refl _ _ _⟩
  · rw [(Bool.not_eq_true _).mp qb] at c1
    obtain ⟨S, hS⟩ : ∃ S : ByteArray, S = ⟨r.h.toArray⟩ := ⟨_, rfl⟩
    have hlen : S.size = r.h.length := by rw [hS]; simp [ByteArray.size]
    rw [← hS] at c0
    have z1 : IntKind.i64.wrap (1048576 - (S.size : Int)) = 1048576 - (S.size : Int) := by rw [IntKind.wrap_i64]; omega
    by_cases ql : 1048576 - r.h.length < c.data.toList.length
    · have t1 : takeE r c.data.toList = 2 := by unfold takeE; rw [if_neg qb, if_pos ql]
      have t2 : takeR r c.data.toList = r := if_neg (by rw [t1]; decide)
      rw [t1, t2]
      have z2 : (1048576 : Int) - (S.size : Int) < (c.size : Int) := by omega
      clear t1 t2 hlen hS ql hlS hz
      go_enter Try.func15, Try.ntmps15
      go_wp2
      go_ret
      exact ⟨rfl, R.out, But.refl _ _ _⟩
    · have t1 : takeE r c.data.toList = 0 := by unfold takeE; rw [if_neg qb, if_neg ql]
      have t2 : takeR r c.data.toList = Fr.look ⟨r.h ++ c.data.toList, r.b⟩ := if_pos t1
      rw [t1, t2]
      have z2 : ¬ (1048576 : Int) - (S.size : Int) < (c.size : Int) := by omega
      obtain ⟨Z, hZ⟩ : ∃ Z : ByteArray, Z = ⟨(r.h ++ c.data.toList).toArray⟩ := ⟨_, rfl⟩
      have HA : ∀ w, (Op.stringOp .add S c).run Try.prog w = .ok (.string Z) w := fun w => by
        rw [run_string_add_sum (P := Try.prog) w S c (by omega), hZ, hS]
        congr 2
      have HX : Hid (DAt (w.setCell ⟨d, 0, none⟩ (.string Z)) d ⟨r.h ++ c.data.toList, r.b⟩ ∧ But d d w (w.setCell ⟨d, 0, none⟩ (.string Z))) := ⟨by rw [hZ]; exact R.out.put _, (But.refl _ _ _).setCell _ _⟩
      clear t1 t2 hlen hS hZ ql hlS hz R
      go_enter Try.func15, Try.ntmps15
      go_wp2_with fail
      refine Calls.mono (dlook_any d ⟨r.h ++ c.data.toList, r.b⟩ _ HX.out.1) ?_
      rintro e w2 ⟨rfl, hl2, hb2⟩
      have FI : Hid (DAt w2 d (Fr.look ⟨r.h ++ c.data.toList, r.b⟩) ∧ But d d w w2) := ⟨hl2, HX.out.2.trans hb2 (.inl rfl)⟩
      clear HX hl2 hb2
      go_wp2
      go_ret
      exact ⟨rfl, FI.out⟩
set_option maxHeartbeats 1000000 in
theorem dnext_no (d : Nat) (r : Rd) (w : World) (R : Hid (DAt w d r)) (hz : r.h.length ≤ 1048576) (hh : ¬ has r.h) :
    Calls Try.prog 18 #[.pointer (some ⟨d, 0, none⟩)] w fun e w' => e = .returned noV ∧ Below w.heap.size w w' := by
  have L := dlong_any d r w R
  obtain ⟨S, hS⟩ : ∃ S : ByteArray, S = ⟨r.h.toArray⟩ := ⟨_, rfl⟩
  have hlen : S.size = r.h.length := by rw [hS]; simp [ByteArray.size]
  by_cases q4 : 4 ≤ r.h.length
  · have e1 : longD r.h = (num4 r.h : Int) := if_pos q4
    have q5 : ¬ num4 r.h ≤ r.h.length - 4 := fun z => hh ⟨q4, z⟩
    obtain ⟨l, hl⟩ : ∃ l, num4 r.h = l := ⟨_, rfl⟩
    have q6 := num4_lt r.h
    rw [hl] at e1 q5 q6
    rw [e1] at L
    have HL : Hid (Calls Try.prog 26 #[.pointer (some ⟨d, 0, none⟩)] w fun e w' => e = .returned (.int .i64 (l : Int)) ∧ Below w.heap.size w w') := L
    have z2 : IntKind.i64.wrap ((S.size : Int) - 4) = (S.size : Int) - 4 := by rw [IntKind.wrap_i64]; omega
    have z3 : (S.size : Int) - 4 < (l : Int) := by omega
    have z0 : ¬ (l : Int) < 0 := by omega
    clear e1 hl q5 q6 L
    go_enter Try.func18, Try.ntmps18
    go_wp2_with fail
    refine Calls.mono HL.out ?_
    rintro e w1 ⟨rfl, hb⟩
    have c0 := (R.out.later hb).1
    rw [← hS] at c0
    have B1 : Hid (Below w.heap.size w w1) := hb
    clear hb HL R hS hlen
    go_wp2
    go_ret2
    exact ⟨rfl, B1.out⟩
  · have e1 : longD r.h = -1 := if_neg q4
    rw [e1] at L
    have HL : Hid (Calls Try.prog 26 #[.pointer (some ⟨d, 0, none⟩)] w fun e w' => e = .returned (.int .i64 (-1)) ∧ Below w.heap.size w w') := L
    clear e1 L
    go_enter Try.func18, Try.ntmps18
    go_wp2_with fail
    refine Calls.mono HL.out ?_
    rintro e w1 ⟨rfl, hb⟩
    have B1 : Hid (Below w.heap.size w w1) := hb
    clear hb HL R hS hlen
    go_wp2
    go_ret2
    exact ⟨rfl, B1.out⟩
set_option maxHeartbeats 1000000 in
theorem dnext_yes (d : Nat) (r : Rd) (w : World) (R : Hid (DAt w d r)) (hz : r.h.length ≤ 1048576) (hh : has r.h) :
    Calls Try.prog 18 #[.pointer (some ⟨d, 0, none⟩)] w fun e w' => e = .returned (.tuple #[.string ⟨(nextS r).toArray⟩, .bool true]) ∧ DAt w' d (nextR r) ∧ But d d w w' := by
  have L := dlong_any d r w R
  have e1 : longD r.h = (num4 r.h : Int) := if_pos hh.1
  obtain ⟨l, hl⟩ : ∃ l, num4 r.h = l := ⟨_, rfl⟩
  obtain ⟨E, hE⟩ : ∃ E, 4 + l = E := ⟨_, rfl⟩
  have h4 := hh.1
  have q5 := hh.2
  have q6 := num4_lt r.h
  rw [hl] at e1 q5 q6
  rw [e1] at L
  have HL : Hid (Calls Try.prog 26 #[.pointer (some ⟨d, 0, none⟩)] w fun e w' => e = .returned (.int .i64 (l : Int)) ∧ Below w.heap.size w w') := L
  obtain ⟨S, hS⟩ : ∃ S : ByteArray, S = ⟨r.h.toArray⟩ := ⟨_, rfl⟩
  have hlen : S.size = r.h.length := by rw [hS]; simp [ByteArray.size]
  have hlst : S.data.toList = r.h := by rw [hS]
  have z2 : IntKind.i64.wrap ((S.size : Int) - 4) = (S.size : Int) - 4 := by rw [IntKind.wrap_i64]; omega
  have z3 : ¬ (S.size : Int) - 4 < (l : Int) := by omega
  have z0 : ¬ (l : Int) < 0 := by omega
  have z4 : IntKind.i64.wrap (4 + (l : Int)) = (E : Int) := by rw [IntKind.wrap_i64]; omega
  have z5 : (4 : Int) ≤ (E : Int) := by omega
  have z6 : (E : Int) ≤ (S.size : Int) := by omega
  have X1 : Hid (S.extract 4 E = ⟨(nextS r).toArray⟩) := by
    show _ = _
    apply ByteArray.ext
    apply Array.ext'
    have q : (S.extract 4 E).data.toList = (S.data.toList.take E).drop 4 := by simp [ByteArray.data_extract, List.drop_take]
    rw [q, hlst]
    unfold nextS
    rw [hl, List.drop_take, show E - 4 = l by omega]
  have X2 : Hid ((S.extract E S.size) = ⟨(r.h.drop E).toArray⟩ ∧ nextR r = Fr.look ⟨r.h.drop E, r.b⟩) := by
    refine ⟨?_, by unfold nextR; rw [hl, hE]⟩
    apply ByteArray.ext
    apply Array.ext'
    have q : (S.extract E S.size).data.toList = (S.data.toList.take S.size).drop E := by simp [ByteArray.data_extract, List.drop_take]
    rw [q, List.take_of_length_le (by simp), hlst]
  rw [X2.out.2, ← X1.out]
  clear e1 hl q6 q5 h4 hE L hh
  go_enter Try.func18, Try.ntmps18
  go_wp2_with fail
  refine Calls.mono HL.out ?_
  rintro e w1 ⟨rfl, hb⟩
  have V1 : Hid (DAt w1 d r) := R.out.later hb
  have c0 := V1.out.1
  have c2 := V1.out.2.2
  rw [← hS] at c0
  have B1 : Hid (But d d w w1) := But.of hb
  clear hb HL R hS hlen hlst
  have W2 : Hid (DAt (w1.setCell ⟨d, 0, none⟩ (.string (S.extract E S.size))) d ⟨r.h.drop E, r.b⟩ ∧ But d d w (w1.setCell ⟨d, 0, none⟩ (.string (S.extract E S.size)))) := ⟨by rw [X2.out.1]; exact V1.out.put _, B1.out.setCell _ _⟩
  go_wp2_with fail
  refine Calls.mono (dlook_any d ⟨r.h.drop E, r.b⟩ _ W2.out.1) ?_
  rintro e w3 ⟨rfl, hr3, hb3⟩
  have FI : Hid (DAt w3 d (Fr.look ⟨r.h.drop E, r.b⟩) ∧ But d d w w3) := ⟨hr3, W2.out.2.trans hb3 (.inl rfl)⟩
  clear hr3 hb3 W2 V1 c0 c2 B1
  go_wp2
  go_ret2
  exact ⟨rfl, FI.out⟩
set_option maxHeartbeats 1000000 in
theorem dfork_any (d : Nat) (r : Rd) (w : World) (R : Hid (DAt w d r)) :
    Calls Try.prog 14 #[.pointer (some ⟨d, 0, none⟩)] w fun e w' => ∃ d', e = .returned (.pointer (some ⟨d', 0, none⟩)) ∧ DAt w' d' r ∧ w.heap.size ≤ d' ∧ Below w.heap.size w w' := by
  obtain ⟨c0, c1, c2⟩ := R.out
  obtain ⟨S, hS⟩ : ∃ S : ByteArray, S = ⟨r.h.toArray⟩ := ⟨_, rfl⟩
  rw [← hS] at c0
  have NW : Hid (∀ (w' : World) (t : TypeId), DAt (w'.alloc (.cells #[.string S, .bool r.b] t)) w'.heap.size r) := fun w' t => by rw [hS]; exact DAt.new w' r t
  clear hS R
  go_enter Try.func14, Try.ntmps14
  go_wp2_with fail
  go_region
  all_goals
    go_wp2
    go_ret
    exact ⟨_, rfl, NW.out _ _, Nat.le_refl _, (Below.refl _ _).drew.alloc (Nat.le_refl _) _⟩
end Go.Proofs.Ytihfilngbljiaaa
