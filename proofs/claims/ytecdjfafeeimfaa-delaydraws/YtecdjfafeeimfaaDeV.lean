/- The program's Several and Draw. -/
import Derived.Test.YtecdjfafeeimfaaDeQ
namespace Go.Proofs.Ytecdjfafeeimfaa
open Go.RowKit Go.Proofs.Fd Go.Proofs.Ta Go.Proofs.De
set_option maxRecDepth 20000

theorem IntAt.but {w w' : World} {a : Option Addr} {cs : List Int} {p g : Nat} (h : IntAt w a cs) (hb : But p g w w') (hn : ∀ x, a = some x → x.block ≠ p ∧ x.block ≠ g) : IntAt w' a cs := fun i hi => by
  obtain ⟨b, o, e, hc⟩ := h i hi
  exact ⟨b, o, e, hb.cell hc (hn _ e).1 (hn _ e).2⟩
theorem row_fill (V : List Int) (n k : Nat) (hV : V.length = n) (h : k < n) : (V.take k ++ List.replicate (n - k) 0).set k (V[k]'(by omega)) = V.take (k + 1) ++ List.replicate (n - (k + 1)) 0 := by
  obtain ⟨m, rfl⟩ : ∃ m, n = k + (m + 1) := ⟨n - k - 1, by omega⟩
  have hl : (V.take k).length = k := by rw [List.length_take]; omega
  rw [show k + (m + 1) - k = m + 1 by omega, show k + (m + 1) - (k + 1) = m by omega, List.replicate_succ, List.set_append_right _ _ (by omega), hl, Nat.sub_self, List.take_succ_eq_append_getElem (by omega), List.append_assoc]
  rfl
def SevP (w : World) (p : Nat) (L : List Int) (x : Int) (r : List UInt8) (e : Ending) (w' : World) : Prop := ∃ a c, e = .returned (.tuple #[.slice a L.length c, .int .i64 x]) ∧ IntAt w' a L ∧ New w.heap.size a ∧ TAt w' p r ∧ But p p w w'
theorem SevP.no {w w' : World} {p : Nat} {x : Int} {r : List UInt8} (h : TAt w' p r) (hb : But p p w w') : SevP w p [] x r (.returned (.tuple #[.slice none 0 0, .int .i64 x])) w' := ⟨none, 0, rfl, IntAt.nil _ _, New.none _, h, hb⟩
theorem word_yes {l : List UInt8} (h : 4 ≤ l.length) : wordV l = (num4 l : Int) ∧ wordE l = 0 ∧ wordR l = l.drop 4 := by
  have q : ¬ l.length < 4 := by omega
  unfold wordV wordE wordR
  rw [if_neg q, if_neg q, if_neg q]
  exact ⟨rfl, rfl, rfl⟩
set_option maxHeartbeats 4000000 in
theorem several_yes (p : Nat) (l : List UInt8) (nn : Nat) (hnn : nn ≤ 4096) (L : List Int) (a : Option Addr) (n c : Nat) (hn : L.length = n) (hn2 : n ≤ 64) (hL : ∀ x ∈ L, 0 ≤ x ∧ x ≤ 4096) (hl : 4 * n ≤ l.length) (w : World) (R : Hid (TAt w p l)) (h : Hid (IntAt w a L)) (hne : Hid (∀ x, a = some x → 0 < n → x.block ≠ p)) :
    Calls Try.prog 16 #[.pointer (some ⟨p, 0, none⟩), .int .i64 (nn : Int), .slice a n c] w fun e w' => SevP w p (dls nn L l) 0 (l.drop (4 * n)) e w' := by
  have OA : okA (nn : Int) L = true := (okA_iff _ _).2 ⟨⟨by omega, by omega⟩, hL⟩
  have MB := mayBe_any (nn : Int) L a n c hn (by omega) w h
  rw [OA] at MB
  have HM : Hid _ := MB
  have LF : Hid _ := left_any p l w R.out
  have q1 : ¬ (64 : Int) < (n : Int) := by omega
  have z2 : IntKind.i64.wrap (4 * (n : Int)) = 4 * (n : Int) := by rw [IntKind.wrap_i64]; omega
  have q3 : ¬ (l.length : Int) < 4 * (n : Int) := by omega
  have HL : Hid (4 * n ≤ l.length ∧ L.length = n ∧ n ≤ 64 ∧ nn ≤ 4096 ∧ ∀ x ∈ L, 0 ≤ x ∧ x ≤ 4096) := ⟨hl, hn, hn2, hnn, hL⟩
  have HP : Hid (p < w.heap.size) := R.out.lt
  have HV : Hid ((dls nn L l).length = n) := (dls_len nn L l).trans hn
  have HB : Hid (∀ x, a = some x → 0 < n → x.block < w.heap.size) := fun x hx h0 => by
    obtain ⟨b, o, e, hc⟩ := h.out 0 (by omega)
    have e2 : x = ⟨b, o, none⟩ := Option.some.inj (hx.symm.trans e)
    rw [e2]
    exact World.block_lt_of_cell? _ _ hc
  clear hl MB OA hL hnn hn hn2
  go_enter Try.func16, Try.ntmps16
  go_wp2_with fail
  refine Calls.mono HM.out ?_
  rintro e w0 ⟨rfl, rfl⟩
  clear HM
  go_wp2_with fail
  refine Calls.mono LF.out ?_
  rintro e w1 ⟨rfl, hb1⟩
  have B1 : Hid (Below w0.heap.size w0 w1) := hb1
  clear hb1 LF
  obtain ⟨W, CM, hrow, hbW⟩ := make_ints n (by have := HL.out; omega) w1
  obtain ⟨g, hg⟩ : ∃ g, w1.heap.size = g := ⟨_, rfl⟩
  rw [hg] at CM hrow hbW
  have I0 : Hid (Row W g ((dls nn L l).take 0 ++ List.replicate (n - 0) 0) ∧ w0.heap.size ≤ g ∧ TAt W p (l.drop (4 * 0)) ∧ But p p w0 W ∧ IntAt W a L) := ⟨by rw [Nat.sub_zero]; exact hrow, by rw [← hg]; exact B1.out.size, (R.out.later B1.out).later (by rw [hg]; exact hbW), But.of (chain B1.out (by rw [hg]; exact hbW)), h.out.later (chain B1.out (by rw [hg]; exact hbW))⟩
  clear hrow hbW B1 R hg h
  go_wp2
  clear q3
  go_loopw [9, 10, 11, 12, 37] (fun _ _ _ _ i wr => ∃ k : Nat, k ≤ n ∧ i = .int .i64 (k : Int) ∧ Hid (Row wr g ((dls nn L l).take k ++ List.replicate (n - k) 0) ∧ w0.heap.size ≤ g ∧ TAt wr p (l.drop (4 * k)) ∧ But p p w0 wr ∧ IntAt wr a L)) (fun _ _ _ _ i _ => n - (intOf i).toNat)
  case atStart => exact ⟨0, by omega, rfl, I0.out⟩
  case round =>
    obtain ⟨k, hk, rfl, I⟩ := hrel
    clear I0
    by_cases hlt : k < n
    · have g1 : (k : Int) < (n : Int) := by omega
      obtain ⟨b, o, rfl, e1⟩ := I.out.2.2.2.2 k (by rw [HL.out.2.1]; exact hlt)
      have hx := HL.out.2.2.2.2 _ (List.getElem_mem (show k < L.length by rw [HL.out.2.1]; exact hlt))
      have EV : Hid ((dls nn L l)[k]'(by rw [HV.out]; exact hlt) = _) := dls_at nn L l k (by rw [HL.out.2.1]; exact hlt)
      obtain ⟨m, hm⟩ : ∃ m : Nat, L[k]'(by rw [HL.out.2.1]; exact hlt) = (m : Int) := ⟨(L[k]'(by rw [HL.out.2.1]; exact hlt)).toNat, by omega⟩
      rw [hm] at e1 hx EV
      rw [Int.toNat_natCast] at EV
      have h4 : 4 ≤ (l.drop (4 * k)).length := by rw [List.length_drop]; have := HL.out.1; omega
      have WD := Word_any p (l.drop (4 * k)) wr I.out.2.2.1
      rw [(word_yes h4).1, (word_yes h4).2.1, (word_yes h4).2.2, List.drop_drop, show 4 * k + 4 = 4 * (k + 1) by omega] at WD
      have HW : Hid _ := WD
      obtain ⟨u, hu⟩ : ∃ u, num4 (l.drop (4 * k)) = u := ⟨_, rfl⟩
      rw [hu] at HW EV
      have HX : Hid (m ≤ 4096) := (by omega : m ≤ 4096)
      clear WD h4 hu hm hx
      go_wp2_with fail
      refine Calls.mono HW.out ?_
      rintro e w2 ⟨rfl, ht2, hb2⟩
      have I2 : Hid (Row w2 g ((dls nn L l).take k ++ List.replicate (n - k) 0) ∧ w0.heap.size ≤ g ∧ TAt w2 p (l.drop (4 * (k + 1))) ∧ But p p w0 w2 ∧ IntAt w2 (some ⟨b, o, none⟩) L) := by
        obtain ⟨i1, i2, i3, i4, i5⟩ := I.out
        have hp := HP.out
        exact ⟨i1.apart hb2 (by omega) (by omega), i2, ht2, i4.trans hb2, i5.but hb2 (fun x hx => ⟨hne.out x hx (by omega), hne.out x hx (by omega)⟩)⟩
      clear I HW ht2 hb2 e1
      go_wp2_with fail
      refine Calls.mono (tableOf_any m nn HX.out HL.out.2.2.2.1 _) ?_
      rintro e w3 ⟨g3, rfl, hr3, hg3, hb3⟩
      have I3 : Hid (Row w3 g ((dls nn L l).take k ++ List.replicate (n - k) 0) ∧ w0.heap.size ≤ g ∧ TAt w3 p (l.drop (4 * (k + 1))) ∧ But p p w0 w3 ∧ IntAt w3 (some ⟨b, o, none⟩) L) := by
        obtain ⟨i1, i2, i3, i4, i5⟩ := I2.out
        exact ⟨i1.later hb3, i2, i3.later hb3, i4.later hb3, i5.later hb3⟩
      have PL : Hid _ := placeOf_any g3 m nn u HL.out.2.2.2.1 w3 hr3
      clear I2 hr3 hg3 hb3
      go_wp2_with fail
      refine Calls.mono PL.out ?_
      rintro e w4 ⟨rfl, hb4⟩
      have ln : ((dls nn L l).take k ++ List.replicate (n - k) 0).length = n := by rw [List.length_append, List.length_take, HV.out, List.length_replicate]; omega
      have I4 : Hid (Row w4 g ((dls nn L l).take k ++ List.replicate (n - k) 0) ∧ w0.heap.size ≤ g ∧ TAt w4 p (l.drop (4 * (k + 1))) ∧ But p p w0 w4 ∧ IntAt w4 (some ⟨b, o, none⟩) L) := by
        obtain ⟨i1, i2, i3, i4, i5⟩ := I3.out
        exact ⟨i1.later hb4, i2, i3.later hb4, i4.later hb4, i5.later hb4⟩
      have c4 := (I4.out.1 k (by omega)).1
      have f4 := (I4.out.1 k (by omega)).2
      obtain ⟨v, hv⟩ : ∃ v, ((dls nn L l).take k ++ List.replicate (n - k) 0)[k]'(by omega) = v := ⟨_, rfl⟩
      rw [hv] at c4
      obtain ⟨d, hd⟩ : ∃ d, dl m nn u = d := ⟨_, rfl⟩
      rw [hd] at EV
      rw [hd]
      have I5 : Hid (Row (w4.setCell ⟨g, k, none⟩ (.int .i64 (d : Int))) g ((dls nn L l).take (k + 1) ++ List.replicate (n - (k + 1)) 0) ∧ w0.heap.size ≤ g ∧ TAt (w4.setCell ⟨g, k, none⟩ (.int .i64 (d : Int))) p (l.drop (4 * (k + 1))) ∧ But p p w0 (w4.setCell ⟨g, k, none⟩ (.int .i64 (d : Int))) ∧ IntAt (w4.setCell ⟨g, k, none⟩ (.int .i64 (d : Int))) (some ⟨b, o, none⟩) L) := by
        obtain ⟨i1, i2, i3, i4, i5⟩ := I4.out
        have hp := HP.out
        refine ⟨?_, i2, i3.same (Below.heap_setCell w4 _ _ p (show p ≠ g by omega)), i4.fresh i2 _ _, ?_⟩
        · rw [← row_fill (dls nn L l) n k HV.out hlt, EV.out]
          exact i1.set k _
        · have hb := HB.out _ rfl (by omega)
          have hbg : b ≠ g := by
            intro e
            subst e
            exact absurd hb (by show ¬ b < w0.heap.size; omega)
          intro i hi
          obtain ⟨b', o', e, hc⟩ := i5 i hi
          cases e
          exact ⟨b, o, rfl, cell_setCell hc (Ne.symm hbg)⟩
      clear PL hb4 I3 I4 EV ln hv hd
      go_wp2
      go_roundw
      case rel => exact ⟨k + 1, by omega, by go_num, I5.out⟩
      case measure => simp [intOf]; omega
    · obtain rfl : k = n := by omega
      have FI : Hid (Row wr g (dls nn L l) ∧ w0.heap.size ≤ g ∧ TAt wr p (l.drop (4 * k)) ∧ But p p w0 wr) := by
        obtain ⟨i1, i2, i3, i4, i5⟩ := I.out
        rw [Nat.sub_self, List.replicate_zero, List.append_nil, List.take_of_length_le (by rw [HV.out]; exact Nat.le_refl _)] at i1
        exact ⟨i1, i2, i3, i4⟩
      clear I
      go_wp2
      go_ret2
      exact ⟨some ⟨g, 0, none⟩, k, by rw [HV.out]; rfl, FI.out.1.at, New.some FI.out.2.1, FI.out.2.2⟩
set_option maxHeartbeats 1000000 in
theorem several_many (t : Value) (most : Int) (a : Option Addr) (n c : Nat) (h : 64 < n) (w : World) :
    Calls Try.prog 16 #[t, .int .i64 most, .slice a n c] w fun e w' => e = .returned (.tuple #[.slice none 0 0, .int .i64 1]) ∧ w' = w := by
  have q1 : (64 : Int) < (n : Int) := by omega
  clear h
  go_enter Try.func16, Try.ntmps16
  go_wp2
  go_ret2
  exact ⟨rfl, rfl⟩
set_option maxHeartbeats 1000000 in
theorem several_range (t : Value) (most : Int) (L : List Int) (a : Option Addr) (n c : Nat) (hn : L.length = n) (hn2 : n ≤ 64) (hL : okA most L = false) (w : World) (h : Hid (IntAt w a L)) :
    Calls Try.prog 16 #[t, .int .i64 most, .slice a n c] w fun e w' => e = .returned (.tuple #[.slice none 0 0, .int .i64 1]) ∧ w' = w := by
  have MB := mayBe_any most L a n c hn (by omega) w h
  rw [hL] at MB
  have HM : Hid _ := MB
  have q1 : ¬ (64 : Int) < (n : Int) := by omega
  clear MB hL hn hn2 h
  go_enter Try.func16, Try.ntmps16
  go_wp2_with fail
  refine Calls.mono HM.out ?_
  rintro e w0 ⟨rfl, rfl⟩
  clear HM
  go_wp2
  go_ret2
  exact ⟨rfl, rfl⟩
set_option maxHeartbeats 1000000 in
theorem several_nil (most : Int) (L : List Int) (a : Option Addr) (n c : Nat) (hn : L.length = n) (hn2 : n ≤ 64) (hL : okA most L = true) (w : World) (h : Hid (IntAt w a L)) :
    Calls Try.prog 16 #[.pointer none, .int .i64 most, .slice a n c] w fun e w' => e = .returned (.tuple #[.slice none 0 0, .int .i64 120]) ∧ w' = w := by
  have MB := mayBe_any most L a n c hn (by omega) w h
  rw [hL] at MB
  have HM : Hid _ := MB
  have q1 : ¬ (64 : Int) < (n : Int) := by omega
  clear MB hL hn hn2 h
  go_enter Try.func16, Try.ntmps16
  go_wp2_with fail
  refine Calls.mono HM.out ?_
  rintro e w0 ⟨rfl, rfl⟩
  clear HM
  go_wp2
  go_ret2
  exact ⟨rfl, rfl⟩
set_option maxHeartbeats 1000000 in
theorem several_few (p : Nat) (l : List UInt8) (most : Int) (L : List Int) (a : Option Addr) (n c : Nat) (hn : L.length = n) (hn2 : n ≤ 64) (hL : okA most L = true) (hl : l.length < 4 * n) (w : World) (R : Hid (TAt w p l)) (h : Hid (IntAt w a L)) :
    Calls Try.prog 16 #[.pointer (some ⟨p, 0, none⟩), .int .i64 most, .slice a n c] w fun e w' => e = .returned (.tuple #[.slice none 0 0, .int .i64 120]) ∧ Below w.heap.size w w' := by
  have MB := mayBe_any most L a n c hn (by omega) w h
  rw [hL] at MB
  have HM : Hid _ := MB
  have LF : Hid _ := left_any p l w R.out
  have q1 : ¬ (64 : Int) < (n : Int) := by omega
  have z2 : IntKind.i64.wrap (4 * (n : Int)) = 4 * (n : Int) := by rw [IntKind.wrap_i64]; omega
  have q3 : (l.length : Int) < 4 * (n : Int) := by omega
  clear MB hL hn hn2 h hl R
  go_enter Try.func16, Try.ntmps16
  go_wp2_with fail
  refine Calls.mono HM.out ?_
  rintro e w0 ⟨rfl, rfl⟩
  clear HM
  go_wp2_with fail
  refine Calls.mono LF.out ?_
  rintro e w1 ⟨rfl, hb1⟩
  have B1 : Hid (Below w0.heap.size w0 w1) := hb1
  clear hb1 LF
  go_wp2
  go_ret2
  exact ⟨rfl, B1.out⟩
theorem several_any (p : Nat) (l : List UInt8) (most : Int) (L : List Int) (a : Option Addr) (n c : Nat) (hn : L.length = n) (w : World) (R : Hid (TAt w p l)) (h : Hid (IntAt w a L)) (hne : Hid (∀ x, a = some x → 0 < n → x.block ≠ p)) :
    Calls Try.prog 16 #[.pointer (some ⟨p, 0, none⟩), .int .i64 most, .slice a n c] w fun e w' => SevP w p (sevV most L l) (sevE most L l) (sevR most L l) e w' := by
  by_cases hq : L.length ≤ 64 ∧ okA most L = true
  · by_cases hl : l.length < 4 * L.length
    · rw [(sev_few hq hl).1, (sev_few hq hl).2.1, (sev_few hq hl).2.2]
      refine Calls.mono (several_few p l most L a n c hn (by omega) hq.2 (by omega) w R h) ?_
      rintro e w1 ⟨rfl, hb⟩
      exact SevP.no (R.out.later hb) (But.of hb)
    · rw [(sev_ok hq hl).1, (sev_ok hq hl).2.1, (sev_ok hq hl).2.2, hn]
      have h2 := (okA_iff most L).1 hq.2
      obtain ⟨nn, rfl⟩ : ∃ k : Nat, most = k := ⟨most.toNat, by omega⟩
      rw [Int.toNat_natCast]
      exact several_yes p l nn (by omega) L a n c hn (by omega) h2.2 (by omega) w R h hne
  · rw [(sev_no hq).1, (sev_no hq).2.1, (sev_no hq).2.2]
    by_cases h6 : 64 < n
    · refine Calls.mono (several_many _ most a n c h6 w) ?_
      rintro e w1 ⟨rfl, rfl⟩
      exact SevP.no R.out (But.refl _ _ _)
    · have h7 : okA most L = false := by
        cases e : okA most L with
        | false => rfl
        | true => exact absurd ⟨by omega, e⟩ hq
      refine Calls.mono (several_range _ most L a n c hn (by omega) h7 w h) ?_
      rintro e w1 ⟨rfl, rfl⟩
      exact SevP.no R.out (But.refl _ _ _)
end Go.Proofs.Ytecdjfafeeimfaa
