/- TapeReads: bytes that are read piece by piece are the text. -/
import Derived.Test.YtfieabdjfhkpjaaTaW
namespace Go.Proofs.Ytfieabdjfhkpjaa
open Go.RowKit Go.Proofs.Fd Go.Proofs.Ta
set_option maxRecDepth 20000

theorem ba_piece (t : ByteArray) (a m : Nat) : (⟨((t.data.toList.drop a).take m).toArray⟩ : ByteArray) = t.extract a (a + m) := by
  apply ByteArray.ext
  apply Array.ext'
  simp [ByteArray.data_extract]
set_option maxHeartbeats 2000000 in
theorem TapeReads_walk (t : ByteArray) (ht : t.size ≤ 140737488351232) (a : Option Addr) (cs : List Int) (n cap : Nat) (hn : Hid (cs.length = n)) (w : World) (hc : Hid (IntAt w a cs)) :
    Calls Try.prog 6 #[.string t, .slice a n cap] w fun e w' => e = .returned (.bool true) ∧ Below w.heap.size w w' := by
  have NW : Hid _ := new_any t ht w
  go_enter Try.func6, Try.ntmps6
  go_wp2_with fail
  refine Calls.mono NW.out ?_
  rintro e w1 ⟨p, rfl, hT, hp, hb⟩
  have I1 : Hid (TAt w1 p t.data.toList ∧ w.heap.size ≤ p ∧ Below w.heap.size w w1) := ⟨hT, hp, hb⟩
  clear hT hp hb NW
  go_wp2_with fail
  refine Calls.mono (works_any w1) ?_
  rintro e w2 ⟨rfl, hb⟩
  have I2 : Hid (TAt w2 p (t.data.toList.drop 0) ∧ w.heap.size ≤ p ∧ Below w.heap.size w w2) := ⟨I1.out.1.later hb, I1.out.2.1, chain I1.out.2.2 hb⟩
  clear hb I1
  go_wp2
  go_loopw [6, 7] (fun x i wr => ∃ k o : Nat, k ≤ n ∧ k ≤ 60 ∧ o ≤ t.size ∧ i = .int .i64 (k : Int) ∧ x = .int .i64 (o : Int) ∧ Hid (TAt wr p (t.data.toList.drop o) ∧ w.heap.size ≤ p ∧ Below w.heap.size w wr)) (fun _ i _ => 60 - (intOf i).toNat)
  case atStart => exact ⟨0, 0, by omega, by omega, by omega, rfl, rfl, I2.out⟩
  case round =>
    obtain ⟨k, o, hk, hk2, ho, rfl, rfl, I⟩ := hrel
    clear I2
    have ll : (t.data.toList.drop o).length = t.size - o := by rw [List.length_drop]; simp
    have z1 : IntKind.i64.wrap ((t.size : Int) - (o : Int)) = ((t.size - o : Nat) : Int) := by rw [IntKind.wrap_i64]; omega
    obtain ⟨M, hM⟩ : ∃ M, t.size - o = M := ⟨_, rfl⟩
    rw [hM] at ll z1
    by_cases hlt : k < n ∧ k < 60
    · have g1 : (k : Int) < (n : Int) := by omega
      have g2 : (k : Int) < 60 := by omega
      obtain ⟨b1, o1, rfl, e1⟩ := (hc.out.later I.out.2.2) k (by have := hn.out; omega)
      obtain ⟨x, hx⟩ : ∃ x, cs[k]'(by have := hn.out; omega) = x := ⟨_, rfl⟩
      rw [hx] at e1
      obtain ⟨m, hm, AM⟩ := among_is x 100 (by decide) (by decide)
      have HA : Hid _ := AM wr
      have BY := Bytes_any p (t.data.toList.drop o) (m : Int) wr I.out.1
      clear AM hx
      by_cases q : M < m
      · obtain ⟨f1, f2, f3⟩ := byt_few (n := (m : Int)) (l := t.data.toList.drop o) (by omega) (by rw [Int.toNat_natCast, ll]; exact q)
        rw [f1, f2, f3] at BY
        have HB : Hid _ := BY
        have q1 : (M : Int) < (m : Int) := by omega
        clear BY f1 f2 f3
        go_wp2_with fail
        refine Calls.mono HA.out ?_
        rintro e w3 ⟨rfl, hw⟩
        have hw' := hw.symm
        subst hw'
        clear hw HA e1
        go_wp2_with fail
        refine Calls.mono HB.out ?_
        rintro e w4 ⟨rfl, hT, hb⟩
        have I4 : Hid (TAt w4 p (t.data.toList.drop o) ∧ w.heap.size ≤ p ∧ Below w.heap.size w w4) := ⟨hT, I.out.2.1, I.out.2.2.trans (hb.below I.out.2.1 I.out.2.1 I.out.2.2.size)⟩
        clear hT hb HB I
        have LF := left_any p _ w4 I4.out.1
        rw [ll] at LF
        have HL : Hid _ := LF
        clear LF
        go_wp2_with fail
        refine Calls.mono HL.out ?_
        rintro e w5 ⟨rfl, hb⟩
        have I5 : Hid (TAt w5 p (t.data.toList.drop o) ∧ w.heap.size ≤ p ∧ Below w.heap.size w w5) := ⟨I4.out.1.later hb, I4.out.2.1, chain I4.out.2.2 hb⟩
        clear hb HL I4
        go_wp2
        go_roundw
        case rel => exact ⟨k + 1, o, by omega, by omega, ho, by go_num, rfl, I5.out⟩
        case measure => simp [intOf]; omega
      · obtain ⟨f1, f2, f3⟩ := byt_ok (n := (m : Int)) (l := t.data.toList.drop o) (by omega) (by rw [Int.toNat_natCast, ll]; exact q)
        rw [f1, f2, f3, Int.toNat_natCast, ba_piece, List.drop_drop] at BY
        have HB : Hid _ := BY
        have q1 : ¬ (M : Int) < (m : Int) := by omega
        have z2 : IntKind.i64.wrap ((o : Int) + (m : Int)) = ((o + m : Nat) : Int) := by rw [IntKind.wrap_i64]; omega
        have hom : o + m ≤ t.size := by omega
        obtain ⟨O, hO⟩ : ∃ O, o + m = O := ⟨_, rfl⟩
        rw [hO] at z2 HB hom
        have q2 : (o : Int) ≤ (O : Int) := by omega
        have q3 : (O : Int) ≤ (t.size : Int) := by omega
        clear BY f1 f2 f3 hO hM
        go_wp2_with fail
        refine Calls.mono HA.out ?_
        rintro e w3 ⟨rfl, hw⟩
        have hw' := hw.symm
        subst hw'
        clear hw HA e1
        go_wp2_with fail
        refine Calls.mono HB.out ?_
        rintro e w4 ⟨rfl, hT, hb⟩
        have I4 : Hid (TAt w4 p (t.data.toList.drop O) ∧ w.heap.size ≤ p ∧ Below w.heap.size w w4) := ⟨hT, I.out.2.1, I.out.2.2.trans (hb.below I.out.2.1 I.out.2.1 I.out.2.2.size)⟩
        clear hT hb HB I
        go_wp2
        go_roundw
        case rel => exact ⟨k + 1, O, by omega, by omega, hom, by go_num, rfl, I4.out⟩
        case measure => simp [intOf]; omega
    · have LF := left_any p _ wr I.out.1
      rw [ll] at LF
      have HL : Hid _ := LF
      clear LF
      by_cases q : k < n
      · have g1 : (k : Int) < (n : Int) := by omega
        have g2 : ¬ (k : Int) < 60 := by omega
        go_wp2_with fail
        refine Calls.mono HL.out ?_
        rintro e w5 ⟨rfl, hb⟩
        have I5 : Hid (Below w.heap.size w w5) := chain I.out.2.2 hb
        clear hb HL I
        go_wp2
        go_ret
        exact ⟨rfl, I5.out⟩
      · have g1 : ¬ (k : Int) < (n : Int) := by omega
        go_wp2_with fail
        refine Calls.mono HL.out ?_
        rintro e w5 ⟨rfl, hb⟩
        have I5 : Hid (Below w.heap.size w w5) := chain I.out.2.2 hb
        clear hb HL I
        go_wp2
        go_ret
        exact ⟨rfl, I5.out⟩
end Go.Proofs.Ytfieabdjfhkpjaa
