/- The program's checks: ids, slots. -/
import Derived.Test.YtbaajpefefedbaaMlE
namespace Go.Proofs.Ytbaajpefefedbaa
open Go.RowKit Go.Proofs.Fd Go.Proofs.Ml
set_option maxRecDepth 20000

theorem ret_b {V b : Bool} (h : V = b) : Ending.returned (.bool b) = Ending.returned (.bool V) := by rw [h]
theorem idsB_drop (l : List ByteArray) (k : Nat) (h : k < l.length) : idsB (l.drop k) = (idB l[k] && idsB (l.drop (k + 1))) := by
  rw [List.drop_eq_getElem_cons h]; unfold idsB; rw [List.all_cons]
set_option maxHeartbeats 1000000 in
theorem areIds_any (a : Option Addr) (is : List ByteArray) (n c : Nat) (hn : Hid (is.length = n)) (hm : n ≤ 9223372036854775807) (w : World) (hc : Hid (StrAt w a is)) :
    Calls Try.prog 43 #[.slice a n c] w fun e w' => e = .returned (.bool (idsB is)) ∧ w' = w := by
  obtain ⟨V, hV⟩ : ∃ V, idsB is = V := ⟨_, rfl⟩
  have HV : Hid (idsB (is.drop 0) = V) := by rw [List.drop_zero]; exact hV
  rw [hV]
  clear hV
  go_enter Try.func43, Try.ntmps43
  go_wp2
  go_loopw [7] (fun i wr => ∃ k : Nat, k ≤ n ∧ i = .int .i64 (k : Int) ∧ Hid (idsB (is.drop k) = V) ∧ w = wr) (fun i _ => n - (intOf i).toNat)
  case atStart => exact ⟨0, Nat.zero_le _, rfl, HV, rfl⟩
  case round =>
    obtain ⟨k, hk, rfl, I, hw⟩ := hrel
    subst hw
    clear HV
    by_cases hlt : k < n
    · have hk' : k < is.length := by rw [hn.out]; exact hlt
      have g1 : (k : Int) < (n : Int) := by omega
      obtain ⟨b, o, rfl, cx⟩ := hc.out k hk'
      have J : Hid (_ = _) := (idsB_drop is k hk').symm.trans I.out
      obtain ⟨x, hx⟩ : ∃ x, is[k] = x := ⟨_, rfl⟩
      rw [hx] at cx J
      obtain ⟨d, hd⟩ : ∃ d, idB x = d := ⟨_, rfl⟩
      have ID := isId_any x w
      rw [hd] at J ID
      clear hx I hd
      go_wp2_with fail
      refine Calls.mono ID ?_
      rintro e w1 ⟨rfl, rfl⟩
      clear ID
      cases d with
      | false =>
        go_wp2
        go_ret
        exact ⟨ret_b J.out.symm, rfl⟩
      | true =>
        go_wp2
        go_roundw
        case rel => exact ⟨k + 1, by omega, by go_num, J.out, trivial⟩
        case measure => simp [intOf]; omega
    · obtain rfl : k = n := by omega
      have E : Hid (V = true) := by
        show _ = _
        rw [← I.out, List.drop_of_length_le (by rw [hn.out]; exact Nat.le_refl _)]; rfl
      clear I
      go_wp2
      go_ret
      exact ⟨ret_b E.out, rfl⟩
theorem slB_drop (l : List Sl) (k : Nat) (e : Bool) (h : k < l.length) : slB (l.drop k) e = if emB l[k] = true then slB (l.drop (k + 1)) true else if e = true then false else if okS l[k] = true then slB (l.drop (k + 1)) false else false := by
  rw [List.drop_eq_getElem_cons h]; rfl
theorem size_toList (x : ByteArray) : (x.toList == []) = decide (x.size = 0) := by
  rw [toList_by]
  by_cases h : x.size = 0
  · rw [decide_eq_true h, nil_of h]; rfl
  · rw [decide_eq_false h, beq_eq_false_iff_ne]
    intro z
    exact h (by rw [← by_len, z]; rfl)
set_option maxHeartbeats 1000000 in
theorem areSlots_any (a : Option Addr) (ss : List Sl) (n c : Nat) (hn : Hid (ss.length = n)) (hm : n ≤ 9223372036854775807) (w : World) (hc : Hid (SlAt w a ss)) :
    Calls Try.prog 42 #[.slice a n c] w fun e w' => e = .returned (.bool (slB ss false)) ∧ Below w.heap.size w w' := by
  obtain ⟨V, hV⟩ : ∃ V, slB ss false = V := ⟨_, rfl⟩
  have HV : Hid (slB (ss.drop 0) false = V) := by rw [List.drop_zero]; exact hV
  rw [hV]
  clear hV
  go_enter Try.func42, Try.ntmps42
  go_wp2
  go_loopw [3, 8] (fun en i wr => ∃ (k : Nat) (e : Bool), k ≤ n ∧ i = .int .i64 (k : Int) ∧ en = .bool e ∧ Hid (slB (ss.drop k) e = V ∧ Below w.heap.size w wr)) (fun _ i _ => n - (intOf i).toNat)
  case atStart => exact ⟨0, false, Nat.zero_le _, rfl, rfl, HV.out, Below.refl _ _⟩
  case round =>
    obtain ⟨k, e, hk, rfl, rfl, I⟩ := hrel
    clear HV
    by_cases hlt : k < n
    · have hk' : k < ss.length := by rw [hn.out]; exact hlt
      have g1 : (k : Int) < (n : Int) := by omega
      obtain ⟨b, o, rfl, c0, c1⟩ := hc.out.later I.out.2 k hk'
      have J : Hid (_ = _) := (slB_drop ss k e hk').symm.trans I.out.1
      have B0 : Hid (Below w.heap.size w wr) := I.out.2
      generalize ss[k] = s at c0 c1 J
      obtain ⟨id, tx⟩ := s
      simp only at c0 c1
      have B1 : Hid (∀ o, Below w.heap.size w (wr.alloc o)) := fun o => B0.out.alloc B0.out.size o
      have ID := isId_any id
      clear I
      by_cases h1 : id.size = 0
      · obtain rfl := nil_of h1
        by_cases h2 : tx.size = 0
        · obtain rfl := nil_of h2
          have J2 : Hid (slB (ss.drop (k + 1)) true = V) := J.out
          clear J ID h1 h2
          unfold e0 at c0 c1
          go_wp2
          go_roundw
          case rel => exact ⟨k + 1, true, by omega, by go_num, rfl, J2.out, B1.out _⟩
          case measure => simp [intOf]; omega
        · have z2 : (tx.toList == []) = false := by rw [size_toList, decide_eq_false h2]
          have J2 : Hid (V = false) := by
            have q := J.out
            rw [if_neg (by unfold emB; simp only [decide_eq_false h2, Bool.and_false]; decide), show okS ⟨e0, tx⟩ = false from rfl] at q
            show _ = _
            rw [← q]
            by_cases q1 : e = true
            · rw [if_pos q1]
            · rw [if_neg q1, if_neg (by decide)]
          rw [show idB e0 = false from rfl] at ID
          clear J h1 h2
          unfold e0 at c0 ID
          cases e with
          | true =>
            go_wp2
            go_ret
            exact ⟨ret_b J2.out, B1.out _⟩
          | false =>
            go_wp2_with fail
            refine Calls.mono (ID _) ?_
            rintro e w1 ⟨rfl, rfl⟩
            go_wp2
            go_ret
            exact ⟨ret_b J2.out, B1.out _⟩
      · have z1 : (id.toList == []) = false := by rw [size_toList, decide_eq_false h1]
        have J2 : Hid ((if e = true then false else if okS ⟨id, tx⟩ = true then slB (ss.drop (k + 1)) false else false) = V) := by
          have q := J.out
          rw [if_neg (by unfold emB; simp only [decide_eq_false h1, Bool.false_and]; decide)] at q
          exact q
        clear J h1
        cases e with
        | true =>
          have J3 : Hid (V = false) := J2.out.symm
          clear J2
          go_wp2
          go_ret
          exact ⟨ret_b J3.out, B1.out _⟩
        | false =>
          have J3 : Hid ((if okS ⟨id, tx⟩ = true then slB (ss.drop (k + 1)) false else false) = V) := J2.out
          unfold okS at J3
          simp only at J3
          obtain ⟨d, hd⟩ : ∃ d, idB id = d := ⟨_, rfl⟩
          rw [hd] at J3 ID
          clear J2 hd
          go_wp2_with fail
          refine Calls.mono (ID _) ?_
          rintro e w1 ⟨rfl, rfl⟩
          clear ID
          cases d with
          | false =>
            have J4 : Hid (V = false) := J3.out.symm
            clear J3
            go_wp2
            go_ret
            exact ⟨ret_b J4.out, B1.out _⟩
          | true =>
            by_cases h3 : tx.size ≤ 222
            · have g3 : ¬ (222 : Int) < (tx.size : Int) := by omega
              have J4 : Hid (slB (ss.drop (k + 1)) false = V) := by
                have q := J3.out
                rw [decide_eq_true h3, if_pos (by rfl)] at q
                exact q
              clear J3 h3
              go_wp2
              go_roundw
              case rel => exact ⟨k + 1, false, by omega, by go_num, rfl, J4.out, B1.out _⟩
              case measure => simp [intOf]; omega
            · have g3 : (222 : Int) < (tx.size : Int) := by omega
              have J4 : Hid (V = false) := by
                have q := J3.out
                rw [decide_eq_false h3, if_neg (by decide)] at q
                exact q.symm
              clear J3 h3
              go_wp2
              go_ret
              exact ⟨ret_b J4.out, B1.out _⟩
    · obtain rfl : k = n := by omega
      have E : Hid (V = true ∧ Below w.heap.size w wr) := by
        refine ⟨?_, I.out.2⟩
        rw [← I.out.1, List.drop_of_length_le (by rw [hn.out]; exact Nat.le_refl _)]; rfl
      clear I
      go_wp2
      go_ret
      exact ⟨ret_b E.out.1, E.out.2⟩
end Go.Proofs.Ytbaajpefefedbaa
