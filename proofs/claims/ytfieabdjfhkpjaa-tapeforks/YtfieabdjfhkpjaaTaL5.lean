/- TapeForks: a fork draws what the tape draws. -/
import Derived.Test.YtfieabdjfhkpjaaTaA
namespace Go.Proofs.Ytfieabdjfhkpjaa
open Go.RowKit Go.Proofs.Fd Go.Proofs.Ta
set_option maxRecDepth 20000

theorem bel_is (m : Nat) (l : List UInt8) (hm : m < 1000) : ∃ (V E : Int) (M : List UInt8), (∀ p w, TAt w p l → Calls Try.prog 16 #[.pointer (some ⟨p, 0, none⟩), .int .i64 (1 + (m : Int))] w fun e w' => e = .returned (.tuple #[.int .i64 V, .int .i64 E]) ∧ TAt w' p M ∧ But p p w w') ∧ ((E = 0 ∧ V < 1 + (m : Int)) ∨ E = 120) := by
  refine ⟨belV (1 + (m : Int)) l, belE (1 + (m : Int)) l, belR (1 + (m : Int)) l, fun p w h => Below_any p l _ w h, ?_⟩
  by_cases q : l.length < 4
  · exact .inr (bel_few (by omega) q).2.1
  · obtain ⟨e1, e2, -⟩ := bel_ok (n := 1 + (m : Int)) (l := l) (by omega) q
    refine .inl ⟨e2, ?_⟩
    rw [e1]
    have := drw_lt (1 + (m : Int)).toNat l (by omega)
    omega
/-- Three tapes of the call's own. -/
def Trio (w wr : World) (pa pb pf : Nat) (la lb lf : List UInt8) : Prop := TAt wr pa la ∧ TAt wr pb lb ∧ TAt wr pf lf ∧ (pa ≠ pb ∧ pa ≠ pf ∧ pb ≠ pf) ∧ (w.heap.size ≤ pa ∧ w.heap.size ≤ pb ∧ w.heap.size ≤ pf) ∧ Below w.heap.size w wr
theorem Trio.later {w wr w' : World} {pa pb pf : Nat} {la lb lf : List UInt8} (h : Trio w wr pa pb pf la lb lf) (hb : Below wr.heap.size wr w') : Trio w w' pa pb pf la lb lf := by
  obtain ⟨i1, i2, i3, i4, i5, i6⟩ := h
  exact ⟨i1.later hb, i2.later hb, i3.later hb, i4, i5, chain i6 hb⟩
theorem Trio.a {w wr w' : World} {pa pb pf : Nat} {la lb lf M : List UInt8} (h : Trio w wr pa pb pf la lb lf) (hT : TAt w' pa M) (hb : But pa pa wr w') : Trio w w' pa pb pf M lb lf := by
  obtain ⟨i1, i2, i3, ⟨i4, i5, i6⟩, ⟨i7, i8, i9⟩, i10⟩ := h
  exact ⟨hT, i2.apart hb (Ne.symm i4) (Ne.symm i4), i3.apart hb (Ne.symm i5) (Ne.symm i5), ⟨i4, i5, i6⟩, ⟨i7, i8, i9⟩, i10.trans (hb.below i7 i7 i10.size)⟩
theorem Trio.b {w wr w' : World} {pa pb pf : Nat} {la lb lf M : List UInt8} (h : Trio w wr pa pb pf la lb lf) (hT : TAt w' pb M) (hb : But pb pb wr w') : Trio w w' pa pb pf la M lf := by
  obtain ⟨i1, i2, i3, ⟨i4, i5, i6⟩, ⟨i7, i8, i9⟩, i10⟩ := h
  exact ⟨i1.apart hb i4 i4, hT, i3.apart hb (Ne.symm i6) (Ne.symm i6), ⟨i4, i5, i6⟩, ⟨i7, i8, i9⟩, i10.trans (hb.below i8 i8 i10.size)⟩
theorem Trio.f {w wr w' : World} {pa pb pf : Nat} {la lb lf M : List UInt8} (h : Trio w wr pa pb pf la lb lf) (hT : TAt w' pf M) (hb : But pf pf wr w') : Trio w w' pa pb pf la lb M := by
  obtain ⟨i1, i2, i3, ⟨i4, i5, i6⟩, ⟨i7, i8, i9⟩, i10⟩ := h
  exact ⟨i1.apart hb i5 i5, i2.apart hb i6 i6, hT, ⟨i4, i5, i6⟩, ⟨i7, i8, i9⟩, i10.trans (hb.below i9 i9 i10.size)⟩
set_option maxHeartbeats 4000000 in
theorem TapeForks_walk (t : ByteArray) (ht : t.size ≤ 140737488351232) (a : Option Addr) (cs : List (Int × Int)) (n cap : Nat) (hn : Hid (cs.length = n)) (w : World) (hc : Hid (ActAt w a cs)) :
    Calls Try.prog 7 #[.string t, .slice a n cap] w fun e w' => e = .returned (.bool true) ∧ Below w.heap.size w w' := by
  have NW : Hid (∀ w, _) := fun w => new_any t ht w
  clear ht
  go_enter Try.func7, Try.ntmps7
  go_wp2_with fail
  refine Calls.mono (NW.out _) ?_
  rintro e w1 ⟨pa, rfl, hT, hp, hb⟩
  have I1 : Hid (TAt w1 pa t.data.toList ∧ w.heap.size ≤ pa ∧ Below w.heap.size w w1) := ⟨hT, hp, hb⟩
  clear hT hp hb
  go_wp2_with fail
  refine Calls.mono (NW.out _) ?_
  rintro e w2 ⟨pb, rfl, hT, hp, hb⟩
  have I2 : Hid (TAt w2 pa t.data.toList ∧ TAt w2 pb t.data.toList ∧ pa ≠ pb ∧ w.heap.size ≤ pa ∧ w.heap.size ≤ pb ∧ Below w.heap.size w w2) := by
    obtain ⟨i1, i2, i3⟩ := I1.out
    have := i1.lt
    have := i3.size
    exact ⟨i1.later hb, hT, by omega, i2, by omega, chain i3 hb⟩
  clear hT hp hb I1 NW
  go_wp2_with fail
  refine Calls.mono (works_any _) ?_
  rintro e w3 ⟨rfl, hb⟩
  have I3 : Hid (TAt w3 pa t.data.toList ∧ TAt w3 pb t.data.toList ∧ pa ≠ pb ∧ w.heap.size ≤ pa ∧ w.heap.size ≤ pb ∧ Below w.heap.size w w3) := by
    obtain ⟨i1, i2, i3, i4, i5, i6⟩ := I2.out
    exact ⟨i1.later hb, i2.later hb, i3, i4, i5, chain i6 hb⟩
  clear hb I2
  go_wp2
  go_loopw [7] (fun i wr => ∃ (k : Nat) (l : List UInt8), k ≤ n ∧ k ≤ 60 ∧ i = .int .i64 (k : Int) ∧ Hid (TAt wr pa l ∧ TAt wr pb l ∧ pa ≠ pb ∧ w.heap.size ≤ pa ∧ w.heap.size ≤ pb ∧ Below w.heap.size w wr)) (fun i _ => 60 - (intOf i).toNat)
  case atStart => exact ⟨0, _, by omega, by omega, rfl, I3.out⟩
  case round =>
    obtain ⟨k, l, hk, hk2, rfl, I⟩ := hrel
    clear I3
    by_cases hlt : k < n ∧ k < 60
    · have g1 : (k : Int) < (n : Int) := by omega
      have g2 : (k : Int) < 60 := by omega
      go_wp2_with fail
      refine Calls.mono (fork_any pa l wr I.out.1) ?_
      rintro e w4 ⟨pf, rfl, hT, hp, hb⟩
      have I4 : Hid (Trio w w4 pa pb pf l l l) := by
        obtain ⟨i1, i2, i3, i4, i5, i6⟩ := I.out
        have := i1.lt
        have := i2.lt
        have := i6.size
        exact ⟨i1.later hb, i2.later hb, hT, ⟨i3, by omega, by omega⟩, ⟨i4, i5, by omega⟩, chain i6 hb⟩
      clear hT hp hb I
      obtain ⟨b1, o1, rfl, -, e1⟩ := (hc.out.later I4.out.2.2.2.2.2) k (by have := hn.out; omega)
      obtain ⟨x, hx⟩ : ∃ x, (cs[k]'(by have := hn.out; omega)).2 = x := ⟨_, rfl⟩
      rw [hx] at e1
      obtain ⟨m, hm, AM⟩ := among_is x 1000 (by decide) (by decide)
      have HA : Hid _ := AM w4
      obtain ⟨V, E, M, BL, VE⟩ := bel_is m l hm
      have HB : Hid _ := BL
      have HV : Hid _ := VE
      have z1 : IntKind.i64.wrap (1 + (m : Int)) = 1 + (m : Int) := by rw [IntKind.wrap_i64]; omega
      have e1' : w4.cell? ⟨b1, o1 + (k * 2 + 1), none⟩ = some (.int .i64 x) := by rw [← Nat.add_assoc]; exact e1
      clear AM hx BL hm VE
      go_wp2_with fail
      refine Calls.mono HA.out ?_
      rintro e w5 ⟨rfl, hw⟩
      have hw' := hw.symm
      subst hw'
      clear hw HA e1 e1'
      go_wp2_with fail
      refine Calls.mono (HB.out pa _ I4.out.1) ?_
      rintro e w6 ⟨rfl, hT, hb⟩
      have I6 : Hid (Trio w w6 pa pb pf M l l) := I4.out.a hT hb
      clear hT hb I4
      go_wp2_with fail
      refine Calls.mono (HB.out pf w6 I6.out.2.2.1) ?_
      rintro e w7 ⟨rfl, hT, hb⟩
      have I7 : Hid (Trio w w7 pa pb pf M l M) := I6.out.f hT hb
      clear hT hb I6
      go_wp2_with fail
      refine Calls.mono (HB.out pb w7 I7.out.2.1) ?_
      rintro e w8 ⟨rfl, hT, hb⟩
      have I8 : Hid (Trio w w8 pa pb pf M M M) := I7.out.b hT hb
      clear hT hb I7 HB
      have LF : Hid (∀ p w, TAt w p M → Calls Try.prog 12 #[.pointer (some ⟨p, 0, none⟩)] w fun e w' => e = .returned (.int .i64 (M.length : Int)) ∧ Below w.heap.size w w') := fun p w h => left_any p M w h
      obtain ⟨Q, hQ⟩ : ∃ Q, M.length = Q := ⟨_, rfl⟩
      rw [hQ] at LF
      clear hQ
      go_wp2_with fail
      refine Calls.mono (LF.out pa w8 I8.out.1) ?_
      rintro e w9 ⟨rfl, hb⟩
      have I9 : Hid (Trio w w9 pa pb pf M M M) := I8.out.later hb
      clear hb I8
      go_wp2_with fail
      refine Calls.mono (LF.out pf w9 I9.out.2.2.1) ?_
      rintro e wA ⟨rfl, hb⟩
      have IA : Hid (Trio w wA pa pb pf M M M) := I9.out.later hb
      clear hb I9
      go_wp2_with fail
      refine Calls.mono (LF.out pa wA IA.out.1) ?_
      rintro e wB ⟨rfl, hb⟩
      have IB : Hid (Trio w wB pa pb pf M M M) := IA.out.later hb
      clear hb IA
      go_wp2_with fail
      refine Calls.mono (LF.out pb wB IB.out.2.1) ?_
      rintro e wC ⟨rfl, hb⟩
      have IC : Hid (Trio w wC pa pb pf M M M) := IB.out.later hb
      clear hb IB
      go_wp2_with fail
      refine Calls.mono (Word_any pf M wC IC.out.2.2.1) ?_
      rintro e wD ⟨rfl, hT, hb⟩
      have ID : Hid (Trio w wD pa pb pf M M (wordR M)) := IC.out.f hT hb
      clear hb IC hT
      go_wp2_with fail
      refine Calls.mono (Bytes_any pf (wordR M) 3 wD ID.out.2.2.1) ?_
      rintro e wE ⟨rfl, hT, hb⟩
      have IE : Hid (Trio w wE pa pb pf M M (bytR 3 (wordR M))) := ID.out.f hT hb
      clear hb ID hT
      go_wp2_with fail
      refine Calls.mono (LF.out pa wE IE.out.1) ?_
      rintro e wF ⟨rfl, hb⟩
      have IF : Hid (Trio w wF pa pb pf M M (bytR 3 (wordR M))) := IE.out.later hb
      clear hb IE
      go_wp2_with fail
      refine Calls.mono (LF.out pb wF IF.out.2.1) ?_
      rintro e wG ⟨rfl, hb⟩
      have IG : Hid (TAt wG pa M ∧ TAt wG pb M ∧ pa ≠ pb ∧ w.heap.size ≤ pa ∧ w.heap.size ≤ pb ∧ Below w.heap.size w wG) := by
        obtain ⟨i1, i2, i3, i4, i5, i6⟩ := IF.out.later hb
        exact ⟨i1, i2, i4.1, i5.1, i5.2.1, i6⟩
      clear hb IF LF
      rcases HV.out with ⟨rfl, hv⟩ | rfl
      · have q1 : ¬ 1 + (m : Int) ≤ V := by omega
        clear HV hv
        go_wp2
        go_roundw
        case rel => exact ⟨k + 1, M, by omega, by omega, by go_num, IG.out⟩
        case measure => simp [intOf]; omega
      · clear HV
        go_wp2
        go_roundw
        case rel => exact ⟨k + 1, M, by omega, by omega, by go_num, IG.out⟩
        case measure => simp [intOf]; omega
    · have B9 : Hid (Below w.heap.size w wr) := I.out.2.2.2.2.2
      clear I
      by_cases q : k < n
      · have g1 : (k : Int) < (n : Int) := by omega
        have g2 : ¬ (k : Int) < 60 := by omega
        go_wp2
        go_ret
        exact ⟨rfl, B9.out⟩
      · have g1 : ¬ (k : Int) < (n : Int) := by omega
        go_wp2
        go_ret
        exact ⟨rfl, B9.out⟩
end Go.Proofs.Ytfieabdjfhkpjaa
