/- The document's slots. -/
import Derived.Test.YtbaajpefefedbaaMlR
namespace Go.Proofs.Ytbaajpefefedbaa
open Go.RowKit Go.Proofs.Fd Go.Proofs.Ml
set_option maxRecDepth 20000

/-- Is the one ahead empty? -/
def pe (ss : List Sl) : Nat → Bool
  | 0 => false
  | j + 1 => emB (ss.getD j zsl)
theorem getD_at (ss : List Sl) (k : Nat) (h : k < ss.length) : ss.getD k zsl = ss[k] := by
  rw [List.getD_eq_getElem?_getD, List.getElem?_eq_getElem h]; rfl
theorem slB_not {x : Sl} {r : List Sl} {e : Bool} (h1 : emB x = false) (h2 : okS x = false) : slB (x :: r) e = false := by
  unfold slB
  rw [if_neg (by rw [h1]; decide), if_neg (show ¬ okS x = true by rw [h2]; decide)]
  split <;> rfl
theorem slB_em {x : Sl} {r : List Sl} {e : Bool} (h1 : emB x = true) : slB (x :: r) e = slB r true := by
  rw [slB, if_pos h1]
theorem slB_ok {x : Sl} {r : List Sl} (h1 : emB x = false) (h2 : okS x = true) : slB (x :: r) false = slB r false := by
  rw [slB, if_neg (by rw [h1]; decide), if_neg (by decide), if_pos h2]
theorem slB_ahead {x : Sl} {r : List Sl} (h1 : emB x = false) : slB (x :: r) true = false := by
  rw [slB, if_neg (by rw [h1]; decide), if_pos rfl]
theorem emB_eq (id tx : ByteArray) : emB ⟨id, tx⟩ = ((id.toList == []) && (tx.toList == [])) := by
  rw [size_toList, size_toList]; rfl
set_option maxHeartbeats 2000000 in
theorem rslots_any (a : Option Addr) (ss : List Sl) (n c : Nat) (hn : Hid (ss.length = n)) (w : World) (hc : Hid (SlAt w a ss)) :
    Calls Try.prog 30 #[.slice a n c] w fun e w' => e = .returned (.bool (decide (n = 4) && slB ss false)) ∧ Below w.heap.size w w' := by
  by_cases h4 : n = 4
  rotate_left
  · rw [decide_eq_false h4]
    have g4 : ((n : Int) != 4) = true := by simp; omega
    go_enter Try.func30, Try.ntmps30
    go_wp2
    go_ret
    exact ⟨rfl, Below.refl _ _⟩
  rw [decide_eq_true h4, Bool.true_and]
  subst h4
  obtain ⟨V, hV⟩ : ∃ V, slB ss false = V := ⟨_, rfl⟩
  have HV : Hid (slB (ss.drop 0) (pe ss 0) = V) := by rw [List.drop_zero]; exact hV
  rw [hV]
  clear hV
  go_enter Try.func30, Try.ntmps30
  go_wp2
  go_loopw [3] (fun i wr => ∃ k : Nat, k ≤ 4 ∧ i = .int .i64 (k : Int) ∧ Hid (slB (ss.drop k) (pe ss k) = V ∧ Below w.heap.size w wr)) (fun i _ => 4 - (intOf i).toNat)
  case atStart => exact ⟨0, Nat.zero_le _, rfl, HV.out, Below.refl _ _⟩
  case round =>
    obtain ⟨k, hk, rfl, I⟩ := hrel
    clear HV
    by_cases hlt : k < 4
    · have hk' : k < ss.length := by rw [hn.out]; exact hlt
      have g1 : (k : Int) < 4 := by omega
      have g1' : (k : Int) < ((4 : Nat) : Int) := by omega
      obtain ⟨b, o, rfl, c0, c1⟩ := hc.out.later I.out.2 k hk'
      have J : Hid (slB (ss[k] :: ss.drop (k + 1)) (pe ss k) = V) := by
        have := I.out.1
        rw [List.drop_eq_getElem_cons hk'] at this
        exact this
      have PE : Hid (pe ss (k + 1) = emB ss[k]) := by
        show emB (ss.getD k zsl) = _
        rw [getD_at ss k hk']
      have B0 : Hid (Below w.heap.size w wr) := I.out.2
      generalize ss[k] = s at c0 c1 J PE
      obtain ⟨id, tx⟩ := s
      simp only at c0 c1
      have EQ := emB_eq id tx
      have ID := rid_any id
      clear I
      cases hem : emB ⟨id, tx⟩ with
      | true =>
        have J2 : Hid (slB (ss.drop (k + 1)) (pe ss (k + 1)) = V) := by
          have := J.out
          rw [slB_em hem] at this
          show _ = _
          rw [PE.out, hem]; exact this
        have he := em_of hem
        cases he
        clear J PE EQ hem ID
        unfold e0 at c0 c1
        go_wp2
        go_roundw
        case rel => exact ⟨k + 1, by omega, by go_num, J2.out, B0.out⟩
        case measure => simp [intOf]; omega
      | false =>
        rw [hem] at EQ
        cases hok : okS ⟨id, tx⟩ with
        | false =>
          have J2 : Hid (V = false) := by
            show _ = _
            rw [← J.out, slB_not hem hok]
          have hk2 : (idB id && decide (tx.size ≤ 222)) = false := hok
          obtain ⟨d, hd⟩ : ∃ d, idB id = d := ⟨_, rfl⟩
          rw [hd] at hk2 ID
          clear J PE hem hok hd
          obtain ⟨x, hx⟩ : ∃ x, (id.toList == []) = x := ⟨_, rfl⟩
          obtain ⟨y, hy⟩ : ∃ x, (tx.toList == []) = x := ⟨_, rfl⟩
          rw [hx, hy] at EQ
          have hb := B0.out
          cases x with
          | true =>
            cases y with
            | true => cases EQ
            | false =>
              clear EQ
              go_wp2_with fail
              refine Calls.mono (ID _) ?_
              rintro e w1 ⟨rfl, hb1⟩
              have c11 := cell_later hb1 c1
              have B1 : Hid (Below w.heap.size w w1) := chain B0.out hb1
              clear hb1 ID c0
              cases d with
              | false =>
                go_wp2
                go_ret
                exact ⟨ret_b J2.out, B1.out⟩
              | true =>
                have g3 : (222 : Int) < (tx.size : Int) := by
                  have : ¬ tx.size ≤ 222 := of_decide_eq_false hk2
                  omega
                go_wp2
                go_ret
                exact ⟨ret_b J2.out, B1.out⟩
          | false =>
            clear EQ
            go_wp2_with fail
            refine Calls.mono (ID _) ?_
            rintro e w1 ⟨rfl, hb1⟩
            have c11 := cell_later hb1 c1
            have B1 : Hid (Below w.heap.size w w1) := chain B0.out hb1
            clear hb1 ID c0
            cases d with
            | false =>
              go_wp2
              go_ret
              exact ⟨ret_b J2.out, B1.out⟩
            | true =>
              have g3 : (222 : Int) < (tx.size : Int) := by
                have : ¬ tx.size ≤ 222 := of_decide_eq_false hk2
                omega
              go_wp2
              go_ret
              exact ⟨ret_b J2.out, B1.out⟩
        | true =>
          obtain ⟨⟨i1, i2⟩, i3⟩ := okS_of hok
          simp only at i1 i2 i3
          have hid : idB id = true := by
            have : (idB id && decide (tx.size ≤ 222)) = true := hok
            rw [Bool.and_eq_true] at this
            exact this.1
          have z1 : (id.toList == []) = false := by rw [size_toList, decide_eq_false (by omega)]
          have g3 : ¬ (222 : Int) < (tx.size : Int) := by omega
          rw [hid] at ID
          clear EQ i1 i2 i3 hid
          go_wp2_with fail
          refine Calls.mono (ID _) ?_
          rintro e w1 ⟨rfl, hb1⟩
          have c11 := cell_later hb1 c1
          have B1 : Hid (Below w.heap.size w w1) := chain B0.out hb1
          clear hb1 ID c0 c1
          by_cases hk0 : k = 0
          · subst hk0
            have J2 : Hid (slB (ss.drop 1) (pe ss 1) = V) := by
              have := J.out
              rw [show pe ss 0 = false from rfl, slB_ok hem hok] at this
              show _ = _
              rw [PE.out, hem]; exact this
            clear J PE hem hok
            rw [show ((0 : Nat) : Int) = 0 from rfl]
            go_wp2
            go_roundw
            case rel => exact ⟨1, by omega, by go_num, J2.out, B1.out⟩
            case measure => simp [intOf]
          · obtain ⟨j, hjk⟩ : ∃ j, j + 1 = k := ⟨k - 1, by omega⟩
            have hj : j < ss.length := by omega
            obtain ⟨b', o', e', p0, p1⟩ := hc.out.later B1.out j hj
            cases e'
            have pj : pe ss k = emB ss[j] := by
              rw [← hjk]
              show emB (ss.getD j zsl) = _
              rw [getD_at ss j hj]
            rw [pj] at J
            clear pj
            generalize ss[j] = s' at p0 p1 J
            obtain ⟨id', tx'⟩ := s'
            simp only at p0 p1
            have EQ := emB_eq id' tx'
            have g5 : IntKind.i64.wrap ((k : Int) - 1) = (j : Int) := by rw [IntKind.wrap_i64]; omega
            have g6 : (0 : Int) < (k : Int) := by omega
            have g7 : (j : Int) < 4 := by omega
            have g8 : j < 4 := by omega
            clear hjk
            obtain ⟨x, hx⟩ : ∃ x, (id'.toList == []) = x := ⟨_, rfl⟩
            obtain ⟨y, hy⟩ : ∃ x, (tx'.toList == []) = x := ⟨_, rfl⟩
            rw [hx, hy] at EQ
            have JF : Hid (emB ⟨id', tx'⟩ = true → V = false) := fun q => by
              rw [← J.out, q, slB_ahead hem]
            have JT : Hid (emB ⟨id', tx'⟩ = false → slB (ss.drop (k + 1)) (pe ss (k + 1)) = V) := fun q => by
              have := J.out
              rw [q, slB_ok hem hok] at this
              rw [PE.out, hem]; exact this
            clear J PE hem hok
            cases x with
            | true =>
              cases y with
              | true =>
                have J2 : Hid (V = false) := JF.out EQ
                clear JF JT EQ
                go_wp2
                go_ret
                exact ⟨ret_b J2.out, B1.out⟩
              | false =>
                have J2 : Hid (slB (ss.drop (k + 1)) (pe ss (k + 1)) = V) := JT.out EQ
                clear JF JT EQ
                go_wp2
                go_roundw
                case rel => exact ⟨k + 1, by omega, by go_num, J2.out, B1.out⟩
                case measure => simp [intOf]; omega
            | false =>
              have J2 : Hid (slB (ss.drop (k + 1)) (pe ss (k + 1)) = V) := JT.out EQ
              clear JF JT EQ
              go_wp2
              go_roundw
              case rel => exact ⟨k + 1, by omega, by go_num, J2.out, B1.out⟩
              case measure => simp [intOf]; omega
    · obtain rfl : k = 4 := by omega
      have E : Hid (V = true ∧ Below w.heap.size w wr) := by
        refine ⟨?_, I.out.2⟩
        rw [← I.out.1, List.drop_of_length_le (by rw [hn.out]; exact Nat.le_refl _)]; rfl
      clear I
      rw [show ((4 : Nat) : Int) = 4 from rfl]
      go_wp2
      go_ret
      exact ⟨ret_b E.out.1, E.out.2⟩
end Go.Proofs.Ytbaajpefefedbaa
