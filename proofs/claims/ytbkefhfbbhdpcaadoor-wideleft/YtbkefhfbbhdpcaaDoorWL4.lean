/- WideLeft answers true, by the layer's contracts. -/
import Derived.Test.YtbkefhfbbhdpcaaDoorWE
namespace Go.Proofs.YtbkefhfbbhdpcaaDoor
open Go.RowKit Go.Proofs.Fd Go.Proofs.Hs Go.Proofs.Cc Go.Proofs.Wd
set_option maxRecDepth 20000

theorem set_other (l : List UInt8) (j : Nat) (hj : j < l.length) : l.set j (l[j] ^^^ 1) ≠ l := fun h => by
  have h1 : (l.set j (l[j] ^^^ 1))[j]? = l[j]? := by rw [h]
  rw [List.getElem?_set_self hj, List.getElem?_eq_getElem hj] at h1
  have h2 := Option.some.inj h1
  have h3 : (1 : UInt8) = 0 := by
    have h4 : l[j] ^^^ (l[j] ^^^ 1) = l[j] ^^^ l[j] := by rw [h2]
    rw [← UInt8.xor_assoc, UInt8.xor_self, UInt8.zero_xor] at h4
    exact h4
  exact absurd h3 (by decide)

set_option maxHeartbeats 1000000 in
theorem WideLeft_walk (CS : Hid ShutC) (CW : Hid WrapC) (CU : Hid UnwrapC) (k b : ByteArray) (m : Int) (hk : k.size ≤ 140737488351232) (hb0 : b.size ≤ 140737488351232) (w : World) (hK : Hid (Kh w)) :
    Calls Tryd.prog 8 #[.string k, .string b, .int .i64 m] w fun e w' => e = .returned (.bool true) ∧ Below w.heap.size w w' := by
  by_cases h : wmay (b.size : Int) = 0
  · obtain ⟨h0, h1⟩ := wmay_zero _ h
    have g1 : ¬ (b.size : Int) < 64 := by omega
    have g2 : ¬ 8192 < (b.size : Int) := by omega
    have hl : b.data.toList.length = b.size := list_sz b
    have u1 : IntKind.u64.wrap (b.size : Int) = (b.size : Int) := by rw [IntKind.wrap_u64]; omega
    obtain ⟨j, hj⟩ : ∃ j : Nat, (IntKind.u64.wrap m).tmod (b.size : Int) = (j : Int) := ⟨((IntKind.u64.wrap m).tmod (b.size : Int)).toNat, by
      rw [IntKind.wrap_u64, Int.tmod_eq_emod_of_nonneg (by omega)]
      have := Int.emod_nonneg (m % 18446744073709551616) (show (b.size : Int) ≠ 0 by omega)
      omega⟩
    have jb : j < b.size := by
      rw [IntKind.wrap_u64, Int.tmod_eq_emod_of_nonneg (by omega)] at hj
      have := Int.emod_lt_of_pos (m % 18446744073709551616) (show (0 : Int) < (b.size : Int) by omega)
      omega
    have ji : (j : Int) < (b.size : Int) := by omega
    obtain ⟨x, hx⟩ : ∃ x, b.data.toList[j]'(by rw [hl]; exact jb) = x := ⟨_, rfl⟩
    obtain ⟨D, hD⟩ : ∃ D : ByteArray, ⟨(b.data.toList.set j (x ^^^ 1)).toArray⟩ = D := ⟨_, rfl⟩
    have dD : D.data.toList = b.data.toList.set j (x ^^^ 1) := by rw [← hD]
    have sD : D.size = b.size := by rw [← list_sz, dD, List.length_set, hl]
    obtain ⟨X, hX⟩ : ∃ X : ByteArray, ⟨(shutl k.data.toList b.data.toList).toArray⟩ = X := ⟨_, rfl⟩
    obtain ⟨Y, hY⟩ : ∃ Y : ByteArray, ⟨(shutl k.data.toList D.data.toList).toArray⟩ = Y := ⟨_, rfl⟩
    have hne : (X.toList == Y.toList) = false := by
      have h2 : X.toList ≠ Y.toList := fun e => by
        have e1 := bytes_ext e
        rw [← hX, ← hY] at e1
        have e2 : shutl k.data.toList b.data.toList = shutl k.data.toList D.data.toList := by
          have := congrArg (fun s : ByteArray => s.data.toList) e1
          simpa using this
        have e3 := shut_inj _ _ _ (by omega) (by rw [list_sz]; omega) e2
        rw [dD] at e3
        subst hx
        exact set_other _ j (by rw [hl]; exact jb) e3.symm
      simpa using h2
    have S1 : Hid (∀ w, Kh w → Calls Tryd.prog 9 #[.string k, .string b] w fun e w' => e = .returned (.tuple #[.string X, .int .i64 0]) ∧ Below w.heap.size w w') := fun w h => by
      have := CS.out k b w (by show _ ≤ _; omega) (by show _ ≤ _; omega) h
      rw [shV_ok k b (by omega) (by omega), hX] at this
      exact this
    have S2 : Hid (∀ w, Kh w → Calls Tryd.prog 9 #[.string k, .string D] w fun e w' => e = .returned (.tuple #[.string Y, .int .i64 0]) ∧ Below w.heap.size w w') := fun w h => by
      have := CS.out k D w (by show _ ≤ _; omega) (by show _ ≤ _; omega) h
      rw [shV_ok k D (by omega) (by omega), hY] at this
      exact this
    have HD : Hid (⟨(b.data.toList.set j (x ^^^ 1)).toArray⟩ = D ∧ b.data.toList.length = b.size ∧ b.data.toList[j]? = some x) := ⟨hD, hl, by rw [List.getElem?_eq_getElem (by rw [hl]; exact jb), hx]⟩
    clear hD dD sD hX hY CS hx hl h
    go_enter Tryd.func8, Tryd.ntmps8
    go_wp2_with fail
    refine Calls.mono (works6_any CW CU _ hK.out) ?_
    rintro e w0 ⟨rfl, hb⟩
    have B0 : Hid (Below w.heap.size w w0 ∧ Kh w0) := ⟨hb, hK.out.later hb⟩
    clear hb
    obtain ⟨cap, A, CA, BA, bA, hcap, CB, sA⟩ := bytes_of2 b (by omega) w0
    obtain ⟨g, hg⟩ : ∃ g, w0.heap.size = g := ⟨_, rfl⟩
    rw [hg] at CA BA
    have cj := BA j (by rw [HD.out.2.1]; exact jb)
    obtain ⟨cj, fj⟩ := cj
    have ex : b.data.toList[j]'(by rw [HD.out.2.1]; exact jb) = x := by
      have := HD.out.2.2
      rw [List.getElem?_eq_getElem (by rw [HD.out.2.1]; exact jb)] at this
      exact Option.some.inj this
    rw [ex] at cj
    clear ex
    obtain ⟨E, hE⟩ : ∃ E, A.setCell ⟨g, j, none⟩ (.int .u8 (bits .xor .u8 (x.toNat : Int) 1)) = E := ⟨_, rfl⟩
    have IE : Hid (BytesAt E g (b.data.toList.set j (x ^^^ 1)) ∧ Below w.heap.size w E ∧ Kh E) := by
      have b2 : Below w0.heap.size w0 E := by rw [← hE]; exact bA.setCell (p := ⟨g, j, none⟩) (Nat.le_of_eq hg) _
      refine ⟨?_, chain B0.out.1 b2, B0.out.2.later b2⟩
      rw [← hE]; exact BA.set j (x ^^^ 1) _ (sxor8 x 1)
    clear BA bA B0 sA hg
    go_wp2_with fail
    refine Calls.mono (S1.out _ IE.out.2.2) ?_
    rintro e w2 ⟨rfl, hb⟩
    have B2 : Hid (Below w.heap.size w w2 ∧ Kh w2) := ⟨chain IE.out.2.1 hb, IE.out.2.2.later hb⟩
    have CV := (IE.out.1.later hb).string (cap := cap) (n := b.size) (by rw [List.length_set]; exact HD.out.2.1)
    rw [HD.out.1] at CV
    clear hb S1 IE hE cj fj
    go_wp2_with fail
    refine Calls.mono (S2.out _ B2.out.2) ?_
    rintro e w3 ⟨rfl, hb⟩
    have B3 : Hid (Below w.heap.size w w3) := chain B2.out.1 hb
    clear hb S2 B2 CV
    go_wp2
    go_ret
    exact ⟨by first | rfl | (show Ending.returned (.bool (!(X.toList == Y.toList))) = _; rw [hne]; rfl), B3.out⟩
  · have gb : (b.size : Int) < 64 ∨ 8192 < (b.size : Int) := by
      by_cases g : (b.size : Int) < 64
      · exact .inl g
      · by_cases g2 : 8192 < (b.size : Int)
        · exact .inr g2
        · exact absurd (wmay_ok _ (by omega) (by omega)) h
    clear CS h
    rcases gb with gb | gb
    · go_enter Tryd.func8, Tryd.ntmps8
      go_wp2_with fail
      refine Calls.mono (works6_any CW CU _ hK.out) ?_
      rintro e w0 ⟨rfl, hb⟩
      have B0 : Hid (Below w.heap.size w w0) := hb
      clear hb
      go_wp2
      go_ret
      exact ⟨rfl, B0.out⟩
    · have gb2 : ¬ (b.size : Int) < 64 := by omega
      go_enter Tryd.func8, Tryd.ntmps8
      go_wp2_with fail
      refine Calls.mono (works6_any CW CU _ hK.out) ?_
      rintro e w0 ⟨rfl, hb⟩
      have B0 : Hid (Below w.heap.size w w0) := hb
      clear hb
      go_wp2
      go_ret
      exact ⟨rfl, B0.out⟩
end Go.Proofs.YtbkefhfbbhdpcaaDoor
