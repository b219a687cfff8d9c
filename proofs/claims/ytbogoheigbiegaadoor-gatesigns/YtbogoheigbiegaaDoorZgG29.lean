/- Parts: GtRa, MlR, MlS, MlT0. -/
import Derived.Test.YtbogoheigbiegaaDoorZgG26
import Derived.Test.YtbogoheigbiegaaDoorZgG24
namespace Go.Proofs.YtbogoheigbiegaaDoor.Gat
open Go.RowKit Go.Proofs.Fd Go.Proofs.Gt
set_option maxRecDepth 20000
theorem there_yes (l : List Ac) (u : Int) (j : Nat) (h : j < l.length) (e : l[j].u = u) : thereB l u = true := by
  induction l generalizing j with
  | nil => cases h
  | cons a r ih =>
    unfold thereB
    cases j with
    | zero => rw [if_pos (show u = a.u from e.symm)]
    | succ j =>
      split
      · rfl
      · exact ih j (by simpa using h) e
theorem there_no (l : List Ac) (u : Int) (hb : ∀ i (hi : i < l.length), ¬ l[i].u = u) : thereB l u = false := by
  induction l with
  | nil => rfl
  | cons a r ih =>
    unfold thereB
    rw [if_neg (fun e => hb 0 (by simp) e.symm)]
    exact ih (fun i hi => hb (i + 1) (by simpa using hi))
set_option maxHeartbeats 4000000 in
theorem rcheck_any (a : Option Addr) (n c : Nat) (l : List Ac) (hn : Hid (l.length = n)) (hm : n ≤ 9223372036854775807) (w : World) (hc : Hid (AcAt w a l)) :
    Calls Tryd.prog 9 #[.slice a n c] w fun e w' => e = .returned (.tuple #[.int .i64 (chk l).1, .int .i64 (chk l).2]) ∧ Below w.heap.size w w' := by
  obtain ⟨X, hX⟩ : ∃ X, (chk l).1 = X := ⟨_, rfl⟩
  obtain ⟨Y, hY⟩ : ∃ Y, (chk l).2 = Y := ⟨_, rfl⟩
  have HE : Hid (chk l = (X, Y)) := by rw [← hX, ← hY]; exact rfl
  rw [hX, hY]
  clear hX hY
  by_cases h1 : 64 < n
  · have E1 : Hid (X = -1 ∧ Y = 2) := by
      have q := HE.out
      rw [chk_long (by rw [hn.out]; exact h1)] at q
      have := pair_eq q.symm
      exact ⟨this.1, this.2⟩
    have g1 : (64 : Int) < (n : Int) := by omega
    clear HE h1
    go_enter Tryd.func9, Tryd.ntmps9
    go_wp2
    go_ret2
    exact ⟨ret_2 E1.out.1 E1.out.2, Below.refl _ _⟩
  have HV : Hid (chkN l (n - 0) 0 = (X, Y)) := by
    show _ = _
    rw [← HE.out, chk_short (by rw [hn.out]; exact h1), hn.out]; rfl
  have h64 : n ≤ 64 := by omega
  have g0 : ¬ (64 : Int) < (n : Int) := by omega
  clear HE h1
  go_enter Tryd.func9, Tryd.ntmps9
  go_wp2
  go_loopw [4] (fun i wr => ∃ k : Nat, k ≤ n ∧ i = .int .i64 (k : Int) ∧ Hid (chkN l (n - k) k = (X, Y) ∧ Below w.heap.size w wr)) (fun i _ => n - (intOf i).toNat)
  case atStart => exact ⟨0, Nat.zero_le _, rfl, HV.out, Below.refl _ _⟩
  case round =>
    obtain ⟨k, hk, rfl, I⟩ := hrel
    obtain ⟨wo, hwo⟩ : ∃ W, W = wr := ⟨_, rfl⟩
    rw [← hwo] at I ⊢
    clear HV hwo
    by_cases hlt : k < n
    · have hk' : k < l.length := by rw [hn.out]; exact hlt
      have g1 : (k : Int) < (n : Int) := by omega
      obtain ⟨b, o, rfl, c0, c1⟩ := hc.out.later I.out.2 k hk'
      have B0 : Hid (Below w.heap.size w wo) := I.out.2
      have J : Hid (if bad l k = 0 then chkN l (n - (k + 1)) (k + 1) = (X, Y) else ((k : Int), bad l k) = (X, Y)) := by
        have q := I.out.1
        rw [show n - k = (n - (k + 1)) + 1 by omega] at q
        by_cases z : bad l k = 0
        · show (if _ then _ else _)
          rw [if_pos z, ← chkN_ok _ z]; exact q
        · show (if _ then _ else _)
          rw [if_neg z, ← chkN_no _ z]; exact q
      have BE : Hid (bad l k = refE l[k] (l.take k)) := bad_at hk'
      have LK : Hid (∀ i (hi : i < (l.take k).length), (l.take k)[i].u = (l[i]'(by rw [List.length_take] at hi; omega)).u) := fun i hi => by rw [List.getElem_take]
      have HT : Hid ((l.take k).length = k) := by show _ = _; rw [List.length_take]; omega
      generalize l[k] = s at c0 c1 BE
      obtain ⟨us, ks⟩ := s
      simp only at c0 c1
      clear I
      generalize bad l k = bk at J BE
      by_cases h2 : us < 0
      · have E1 : Hid (X = (k : Int) ∧ Y = 1) := by
          have e : bk = 1 := BE.out.trans (if_pos (.inl h2))
          have q := J.out
          rw [e, if_neg (by decide)] at q
          exact ⟨(pair_eq q.symm).1, (pair_eq q.symm).2⟩
        clear J BE LK HT
        go_wp2
        go_ret2
        exact ⟨ret_2 E1.out.1 E1.out.2, B0.out⟩
      by_cases h3 : 64 ≤ us
      · have E1 : Hid (X = (k : Int) ∧ Y = 1) := by
          have e : bk = 1 := BE.out.trans (if_pos (.inr h3))
          have q := J.out
          rw [e, if_neg (by decide)] at q
          exact ⟨(pair_eq q.symm).1, (pair_eq q.symm).2⟩
        clear J BE LK HT
        go_wp2
        go_ret2
        exact ⟨ret_2 E1.out.1 E1.out.2, B0.out⟩
      have BE2 : Hid (bk = if thereB (l.take k) us = true then 6 else if ks.size = 32 then 0 else 3) := by
        show _ = _
        rw [BE.out]
        unfold refE
        rw [if_neg (show ¬ (us < 0 ∨ 64 ≤ us) by omega)]
      clear BE
      have hkn : k ≤ 64 := by omega
      go_wp2
      go_loopw [5] (fun i wr => ∃ j : Nat, j ≤ k ∧ i = .int .i64 (j : Int) ∧ Hid ((∀ x (hx : x < (l.take k).length), x < j → ¬ (l.take k)[x].u = us) ∧ Below w.heap.size w wr ∧ wr.cell? ⟨b, o + k * 2, none⟩ = some (.int .i64 us) ∧ wr.cell? ⟨b, o + k * 2 + 1, none⟩ = some (.string ks))) (fun i _ => k - (intOf i).toNat)
      case atStart => exact ⟨0, Nat.zero_le _, rfl, fun x hx q => absurd q (Nat.not_lt_zero _), B0.out, c0, c1⟩
      case round =>
        obtain ⟨j, hj, rfl, I⟩ := hrel
        have e0 := I.out.2.2.1
        have e1 := I.out.2.2.2
        clear B0 c0 c1
        by_cases hjk : j < k
        · have g3 : (j : Int) < (k : Int) := by omega
          have hjl : j < l.length := by omega
          obtain ⟨b', o', hbo, d0, -⟩ := hc.out.later I.out.2.1 j hjl
          obtain ⟨rfl, rfl⟩ : b = b' ∧ o = o' := by
            have := Option.some.inj hbo
            exact ⟨congrArg (fun (x : Addr) => x.block) this, congrArg (fun (x : Addr) => x.off) this⟩
          have hjt : j < (l.take k).length := by rw [HT.out]; exact hjk
          have hju := LK.out j hjt
          have g4 : (j : Int) < (n : Int) := by omega
          by_cases he : l[j].u = us
          · have E1 : Hid (X = (k : Int) ∧ Y = 6) := by
              have e : bk = 6 := BE2.out.trans (if_pos (there_yes (l.take k) us j hjt (hju.trans he)))
              have q := J.out
              rw [e, if_neg (by decide)] at q
              exact ⟨(pair_eq q.symm).1, (pair_eq q.symm).2⟩
            rw [he] at d0
            have B1 : Hid (Below w.heap.size w wr.drew) := I.out.2.1.drew
            clear he J BE2 LK HT I hju hbo
            go_wp2_with fail
            go_region_held3 (fun w' => w'.cell? ⟨b, o + k * 2, none⟩ = some (.int .i64 us) ∧ w'.cell? ⟨b, o + j * 2, none⟩ = some (.int .i64 us)) (first | exact ⟨e0, d0⟩ | assumption) (fail)
            go_wp2
            go_ret2
            exact ⟨ret_2 E1.out.1 E1.out.2, B1.out⟩
          · have NO : Hid (∀ x (hx : x < (l.take k).length), x < j + 1 → ¬ (l.take k)[x].u = us) := fun x hx q => by
              by_cases z : x = j
              · subst z; rw [hju]; exact he
              · exact I.out.1 x hx (by omega)
            have B1 : Hid (Below w.heap.size w wr.drew ∧ wr.drew.cell? ⟨b, o + k * 2, none⟩ = some (.int .i64 us) ∧ wr.drew.cell? ⟨b, o + k * 2 + 1, none⟩ = some (.string ks)) := ⟨I.out.2.1.drew, e0, e1⟩
            generalize l[j].u = uj at d0 he
            clear I hju hbo
            go_wp2_with fail
            go_region_held3 (fun w' => w'.cell? ⟨b, o + k * 2, none⟩ = some (.int .i64 us) ∧ w'.cell? ⟨b, o + j * 2, none⟩ = some (.int .i64 uj)) (first | exact ⟨e0, d0⟩ | assumption) (fail)
            go_wp2
            go_roundw
            case rel => exact ⟨j + 1, by omega, by go_num, NO.out, B1.out.1, B1.out.2.1, B1.out.2.2⟩
            case measure => simp [intOf]; omega
        · obtain rfl : j = k := by omega
          have TB : thereB (l.take j) us = false := there_no _ _ (fun x hx => I.out.1 x hx (by rw [← HT.out]; exact hx))
          have B1 : Hid (Below w.heap.size w wr) := I.out.2.1
          have BE3 : Hid (bk = if ks.size = 32 then 0 else 3) := by
            have q := BE2.out
            rw [TB] at q
            exact q
          clear TB BE2 LK HT I
          by_cases hz : ks.size = 32
          · have g5 : (ks.size : Int) = 32 := by omega
            have J2 : Hid (chkN l (n - (j + 1)) (j + 1) = (X, Y)) := by
              have q := J.out
              rw [BE3.out, if_pos hz, if_pos rfl] at q
              exact q
            clear J BE3
            go_wp2
            go_roundw
            case rel => exact ⟨j + 1, by omega, by go_num, J2.out, B1.out⟩
            case measure => simp [intOf]; omega
          · have g5 : ¬ (ks.size : Int) = 32 := by omega
            have E1 : Hid (X = (j : Int) ∧ Y = 3) := by
              have q := J.out
              rw [BE3.out, if_neg hz, if_neg (by decide)] at q
              exact ⟨(pair_eq q.symm).1, (pair_eq q.symm).2⟩
            clear J BE3
            go_wp2
            go_ret2
            exact ⟨ret_2 E1.out.1 E1.out.2, B1.out⟩
    · obtain rfl : k = n := by omega
      have E1 : Hid (X = 0 ∧ Y = 0) := by
        have q := I.out.1
        rw [Nat.sub_self, chkN_zero] at q
        exact ⟨(pair_eq q.symm).1, (pair_eq q.symm).2⟩
      have B0 : Hid (Below w.heap.size w wo) := I.out.2
      clear I
      go_wp2
      go_ret2
      exact ⟨ret_2 E1.out.1 E1.out.2, B0.out⟩
end Go.Proofs.YtbogoheigbiegaaDoor.Gat
namespace Go.Proofs.YtbogoheigbiegaaDoor.Mai
open Go.RowKit Go.Proofs.Fd Go.Proofs.Ml
set_option maxRecDepth 20000
set_option maxHeartbeats 1000000 in
theorem rid_any (s : ByteArray) (w : World) :
    Calls Tryd.prog 71 #[.string s] w fun e w' => e = .returned (.bool (idB s)) ∧ Below w.heap.size w w' := by
  by_cases h : s.size = 16
  · rw [idB_16 h]
    have g1 : (s.size : Int) = 16 := by omega
    obtain ⟨W, CM, BW, bW, -⟩ := make_n 16 (by decide) w
    obtain ⟨Z, hZ⟩ : ∃ Z, mk (zr 16) = Z := ⟨_, rfl⟩
    have CV := BW.string (cap := 16) (n := 16) (by simp)
    rw [show (⟨(List.replicate 16 (0 : UInt8)).toArray⟩ : ByteArray) = Z from hZ] at CV
    have CM : (Instr.makeSlice 60 (.int .i64 16) (.int .i64 16)).run Tryd.prog w = .ok (.slice (some ⟨w.heap.size, 0, none⟩) 16 16) W := CM
    have g2 : (s.toList == Z.toList) = decide (by' s = zr 16) := by
      rw [toList_by, toList_by, ← hZ, by_mk]
      by_cases h2 : by' s = zr 16
      · rw [decide_eq_true h2, h2]; simp
      · rw [decide_eq_false h2, beq_eq_false_iff_ne]; exact h2
    obtain ⟨d, hd⟩ : ∃ d, decide (by' s = zr 16) = d := ⟨_, rfl⟩
    rw [hd] at g2 ⊢
    have B1 : Hid (Below w.heap.size w W) := bW
    clear hd hZ bW BW
    go_enter Tryd.func71, Tryd.ntmps71
    go_wp2
    go_ret
    exact ⟨rfl, B1.out⟩
  · rw [idB_false h]
    have g1 : ¬ (s.size : Int) = 16 := by omega
    go_enter Tryd.func71, Tryd.ntmps71
    go_wp2
    go_ret
    exact ⟨rfl, Below.refl _ _⟩
set_option maxHeartbeats 1000000 in
theorem rpadded_any (s : ByteArray) (n : Nat) (h : s.size ≤ n) (hn : n ≤ 1000000) (w : World) :
    Calls Tryd.prog 61 #[.string s, .int .i64 (n : Int)] w fun e w' => e = .returned (.string (mk (pad n (by' s)))) ∧ Below w.heap.size w w' := by
  obtain ⟨W, CM, BW, bW, -⟩ := make_n (n - s.size) (by omega) w
  obtain ⟨Z, hZ⟩ : ∃ Z, mk (zr (n - s.size)) = Z := ⟨_, rfl⟩
  obtain ⟨R, hR⟩ : ∃ R, mk (pad n (by' s)) = R := ⟨_, rfl⟩
  obtain ⟨m, hm⟩ : ∃ m, n - s.size = m := ⟨_, rfl⟩
  have CV := BW.string (cap := n - s.size) (n := n - s.size) (by simp)
  rw [show (⟨(List.replicate (n - s.size) (0 : UInt8)).toArray⟩ : ByteArray) = Z from hZ] at CV
  have AD : ∀ w, (Op.stringOp .add s Z).run Tryd.prog w = .ok (.string R) w := fun w => by
    have sz : s.size + Z.size ≤ 9223372036854775807 := by rw [← hZ, mk_size]; simp; omega
    rw [run_string_add_sum (P := Tryd.prog) w _ _ sz]
    have : s ++ Z = R := by
      rw [← hZ, ← hR]
      apply ByteArray.ext
      unfold pad mk
      rw [by_len]
      simp
    rw [this]
  have wr : IntKind.i64.wrap ((n : Int) - (s.size : Int)) = (m : Int) := by rw [IntKind.wrap_i64]; omega
  rw [hm] at CM CV
  rw [hR]
  have B1 : Hid (Below w.heap.size w W) := bW
  clear hR hZ bW BW hm
  go_enter Tryd.func61, Tryd.ntmps61
  go_wp2
  go_ret
  exact ⟨rfl, B1.out⟩
set_option maxHeartbeats 1000000 in
theorem rids_any (a : Option Addr) (is : List ByteArray) (n c : Nat) (hn : Hid (is.length = n)) (hm : n ≤ 9223372036854775807) (w : World) (hc : Hid (StrAt w a is)) :
    Calls Tryd.prog 59 #[.slice a n c] w fun e w' => e = .returned (.bool (idsB is && decide (n ≤ 4))) ∧ Below w.heap.size w w' := by
  obtain ⟨V, hV⟩ : ∃ V, idsB is = V := ⟨_, rfl⟩
  have HV : Hid (idsB (is.drop 0) = V) := by rw [List.drop_zero]; exact hV
  rw [hV]
  obtain ⟨D, hD⟩ : ∃ D, decide (n ≤ 4) = D := ⟨_, rfl⟩
  have HD : Hid (decide ((n : Int) ≤ 4) = D) := by
    show _ = _
    rw [← hD]
    exact decide_eq_decide.2 (by omega)
  rw [hD]
  clear hV hD
  go_enter Tryd.func59, Tryd.ntmps59
  go_wp2
  go_loopw [3] (fun i wr => ∃ k : Nat, k ≤ n ∧ i = .int .i64 (k : Int) ∧ Hid (idsB (is.drop k) = V ∧ Below w.heap.size w wr)) (fun i _ => n - (intOf i).toNat)
  case atStart => exact ⟨0, Nat.zero_le _, rfl, HV.out, Below.refl _ _⟩
  case round =>
    obtain ⟨k, hk, rfl, I⟩ := hrel
    clear HV
    by_cases hlt : k < n
    · have hk' : k < is.length := by rw [hn.out]; exact hlt
      have g1 : (k : Int) < (n : Int) := by omega
      obtain ⟨b, o, rfl, cx⟩ := hc.out.later I.out.2 rfl k hk'
      have J : Hid (_ = _) := (idsB_drop is k hk').symm.trans I.out.1
      obtain ⟨x, hx⟩ : ∃ x, is[k] = x := ⟨_, rfl⟩
      rw [hx] at cx J
      obtain ⟨d, hd⟩ : ∃ d, idB x = d := ⟨_, rfl⟩
      have ID := rid_any x wr
      rw [hd] at J ID
      clear hx hd
      go_wp2_with fail
      refine Calls.mono ID ?_
      rintro e w1 ⟨rfl, hb1⟩
      have B1 : Hid (Below w.heap.size w w1) := chain I.out.2 hb1
      clear ID hb1 I cx
      cases d with
      | false =>
        go_wp2
        go_ret
        refine ⟨?_, B1.out⟩
        rw [← J.out]; rfl
      | true =>
        go_wp2
        go_roundw
        case rel => exact ⟨k + 1, by omega, by go_num, J.out, B1.out⟩
        case measure => simp [intOf]; omega
    · obtain rfl : k = n := by omega
      have E : Hid (V = true ∧ Below w.heap.size w wr) := by
        refine ⟨?_, I.out.2⟩
        rw [← I.out.1, List.drop_of_length_le (by rw [hn.out]; exact Nat.le_refl _)]; rfl
      have HD2 := HD.out
      clear I
      go_wp2
      go_ret
      refine ⟨?_, E.out.2⟩
      rw [E.out.1]; rfl
end Go.Proofs.YtbogoheigbiegaaDoor.Mai
namespace Go.Proofs.YtbogoheigbiegaaDoor.Mai
open Go.RowKit Go.Proofs.Fd Go.Proofs.Ml
set_option maxRecDepth 20000
def pe (ss : List Sl) : Nat → Bool
  | 0 => false
  | j + 1 => emB (ss.getD j zsl)
theorem getD_at (ss : List Sl) (k : Nat) (h : k < ss.length) : ss.getD k zsl = ss[k] := by
  rw [List.getD_eq_getElem?_getD, List.getElem?_eq_getElem h]; rfl
theorem slB_not {x : Sl} {r : List Sl} {e : Bool} (h1 : emB x = false) (h2 : okS x = false) : slB (x :: r) e = false := by
  unfold slB
  rw [if_neg (by rw [h1]; decide), if_neg (show ¬ okS x = true by rw [h2]; decide)]
  split <;> rfl
theorem slB_em {x : Sl} {r : List Sl} {e : Bool} (h1 : emB x = true) : slB (x :: r) e = slB r true := by
  rw [slB, if_pos h1]
theorem slB_ok {x : Sl} {r : List Sl} (h1 : emB x = false) (h2 : okS x = true) : slB (x :: r) false = slB r false := by
  rw [slB, if_neg (by rw [h1]; decide), if_neg (by decide), if_pos h2]
theorem slB_ahead {x : Sl} {r : List Sl} (h1 : emB x = false) : slB (x :: r) true = false := by
  rw [slB, if_neg (by rw [h1]; decide), if_pos rfl]
theorem emB_eq (id tx : ByteArray) : emB ⟨id, tx⟩ = ((id.toList == []) && (tx.toList == [])) := by
  rw [size_toList, size_toList]; rfl
set_option maxHeartbeats 2000000 in
theorem rslots_any (a : Option Addr) (ss : List Sl) (n c : Nat) (hn : Hid (ss.length = n)) (w : World) (hc : Hid (SlAt w a ss)) :
    Calls Tryd.prog 58 #[.slice a n c] w fun e w' => e = .returned (.bool (decide (n = 4) && slB ss false)) ∧ Below w.heap.size w w' := by
  by_cases h4 : n = 4
  rotate_left
  · rw [decide_eq_false h4]
    have g4 : ((n : Int) != 4) = true := by simp; omega
    go_enter Tryd.func58, Tryd.ntmps58
    go_wp2
    go_ret
    exact ⟨rfl, Below.refl _ _⟩
  rw [decide_eq_true h4, Bool.true_and]
  subst h4
  obtain ⟨V, hV⟩ : ∃ V, slB ss false = V := ⟨_, rfl⟩
  have HV : Hid (slB (ss.drop 0) (pe ss 0) = V) := by rw [List.drop_zero]; exact hV
  rw [hV]
  clear hV
  go_enter Tryd.func58, Tryd.ntmps58
  go_wp2
  go_loopw [3] (fun i wr => ∃ k : Nat, k ≤ 4 ∧ i = .int .i64 (k : Int) ∧ Hid (slB (ss.drop k) (pe ss k) = V ∧ Below w.heap.size w wr)) (fun i _ => 4 - (intOf i).toNat)
  case atStart => exact ⟨0, Nat.zero_le _, rfl, HV.out, Below.refl _ _⟩
  case round =>
    obtain ⟨k, hk, rfl, I⟩ := hrel
    clear HV
    by_cases hlt : k < 4
    · have hk' : k < ss.length := by rw [hn.out]; exact hlt
      have g1 : (k : Int) < 4 := by omega
      have g1' : (k : Int) < ((4 : Nat) : Int) := by omega
      obtain ⟨b, o, rfl, c0, c1⟩ := hc.out.later I.out.2 k hk'
      have J : Hid (slB (ss[k] :: ss.drop (k + 1)) (pe ss k) = V) := by
        have := I.out.1
        rw [List.drop_eq_getElem_cons hk'] at this
        exact this
      have PE : Hid (pe ss (k + 1) = emB ss[k]) := by
        show emB (ss.getD k zsl) = _
        rw [getD_at ss k hk']
      have B0 : Hid (Below w.heap.size w wr) := I.out.2
      generalize ss[k] = s at c0 c1 J PE
      obtain ⟨id, tx⟩ := s
      simp only at c0 c1
      have EQ := emB_eq id tx
      have ID := rid_any id
      clear I
      cases hem : emB ⟨id, tx⟩ with
      | true =>
        have J2 : Hid (slB (ss.drop (k + 1)) (pe ss (k + 1)) = V) := by
          have := J.out
          rw [slB_em hem] at this
          show _ = _
          rw [PE.out, hem]; exact this
        have he := em_of hem
        cases he
        clear J PE EQ hem ID
        unfold e0 at c0 c1
        go_wp2
        go_roundw
        case rel => exact ⟨k + 1, by omega, by go_num, J2.out, B0.out⟩
        case measure => simp [intOf]; omega
      | false =>
        rw [hem] at EQ
        cases hok : okS ⟨id, tx⟩ with
        | false =>
          have J2 : Hid (V = false) := by
            show _ = _
            rw [← J.out, slB_not hem hok]
          have hk2 : (idB id && decide (tx.size ≤ 222)) = false := hok
          obtain ⟨d, hd⟩ : ∃ d, idB id = d := ⟨_, rfl⟩
          rw [hd] at hk2 ID
          clear J PE hem hok hd
          obtain ⟨x, hx⟩ : ∃ x, (id.toList == []) = x := ⟨_, rfl⟩
          obtain ⟨y, hy⟩ : ∃ x, (tx.toList == []) = x := ⟨_, rfl⟩
          rw [hx, hy] at EQ
          have hb := B0.out
          cases x with
          | true =>
            cases y with
            | true => cases EQ
            | false =>
              clear EQ
              go_wp2_with fail
              refine Calls.mono (ID _) ?_
              rintro e w1 ⟨rfl, hb1⟩
              have c11 := cell_later hb1 c1
              have B1 : Hid (Below w.heap.size w w1) := chain B0.out hb1
              clear hb1 ID c0
              cases d with
              | false =>
                go_wp2
                go_ret
                exact ⟨ret_b J2.out, B1.out⟩
              | true =>
                have g3 : (222 : Int) < (tx.size : Int) := by
                  have : ¬ tx.size ≤ 222 := of_decide_eq_false hk2
                  omega
                go_wp2
                go_ret
                exact ⟨ret_b J2.out, B1.out⟩
          | false =>
            clear EQ
            go_wp2_with fail
            refine Calls.mono (ID _) ?_
            rintro e w1 ⟨rfl, hb1⟩
            have c11 := cell_later hb1 c1
            have B1 : Hid (Below w.heap.size w w1) := chain B0.out hb1
            clear hb1 ID c0
            cases d with
            | false =>
              go_wp2
              go_ret
              exact ⟨ret_b J2.out, B1.out⟩
            | true =>
              have g3 : (222 : Int) < (tx.size : Int) := by
                have : ¬ tx.size ≤ 222 := of_decide_eq_false hk2
                omega
              go_wp2
              go_ret
              exact ⟨ret_b J2.out, B1.out⟩
        | true =>
          obtain ⟨⟨i1, i2⟩, i3⟩ := okS_of hok
          simp only at i1 i2 i3
          have hid : idB id = true := by
            have : (idB id && decide (tx.size ≤ 222)) = true := hok
            rw [Bool.and_eq_true] at this
            exact this.1
          have z1 : (id.toList == []) = false := by rw [size_toList, decide_eq_false (by omega)]
          have g3 : ¬ (222 : Int) < (tx.size : Int) := by omega
          rw [hid] at ID
          clear EQ i1 i2 i3 hid
          go_wp2_with fail
          refine Calls.mono (ID _) ?_
          rintro e w1 ⟨rfl, hb1⟩
          have c11 := cell_later hb1 c1
          have B1 : Hid (Below w.heap.size w w1) := chain B0.out hb1
          clear hb1 ID c0 c1
          by_cases hk0 : k = 0
          · subst hk0
            have J2 : Hid (slB (ss.drop 1) (pe ss 1) = V) := by
              have := J.out
              rw [show pe ss 0 = false from rfl, slB_ok hem hok] at this
              show _ = _
              rw [PE.out, hem]; exact this
            clear J PE hem hok
            rw [show ((0 : Nat) : Int) = 0 from rfl]
            go_wp2
            go_roundw
            case rel => exact ⟨1, by omega, by go_num, J2.out, B1.out⟩
            case measure => simp [intOf]
          · obtain ⟨j, hjk⟩ : ∃ j, j + 1 = k := ⟨k - 1, by omega⟩
            have hj : j < ss.length := by omega
            obtain ⟨b', o', e', p0, p1⟩ := hc.out.later B1.out j hj
            cases e'
            have pj : pe ss k = emB ss[j] := by
              rw [← hjk]
              show emB (ss.getD j zsl) = _
              rw [getD_at ss j hj]
            rw [pj] at J
            clear pj
            generalize ss[j] = s' at p0 p1 J
            obtain ⟨id', tx'⟩ := s'
            simp only at p0 p1
            have EQ := emB_eq id' tx'
            have g5 : IntKind.i64.wrap ((k : Int) - 1) = (j : Int) := by rw [IntKind.wrap_i64]; omega
            have g6 : (0 : Int) < (k : Int) := by omega
            have g7 : (j : Int) < 4 := by omega
            have g8 : j < 4 := by omega
            clear hjk
            obtain ⟨x, hx⟩ : ∃ x, (id'.toList == []) = x := ⟨_, rfl⟩
            obtain ⟨y, hy⟩ : ∃ x, (tx'.toList == []) = x := ⟨_, rfl⟩
            rw [hx, hy] at EQ
            have JF : Hid (emB ⟨id', tx'⟩ = true → V = false) := fun q => by
              rw [← J.out, q, slB_ahead hem]
            have JT : Hid (emB ⟨id', tx'⟩ = false → slB (ss.drop (k + 1)) (pe ss (k + 1)) = V) := fun q => by
              have := J.out
              rw [q, slB_ok hem hok] at this
              rw [PE.out, hem]; exact this
            clear J PE hem hok
            cases x with
            | true =>
              cases y with
              | true =>
                have J2 : Hid (V = false) := JF.out EQ
                clear JF JT EQ
                go_wp2
                go_ret
                exact ⟨ret_b J2.out, B1.out⟩
              | false =>
                have J2 : Hid (slB (ss.drop (k + 1)) (pe ss (k + 1)) = V) := JT.out EQ
                clear JF JT EQ
                go_wp2
                go_roundw
                case rel => exact ⟨k + 1, by omega, by go_num, J2.out, B1.out⟩
                case measure => simp [intOf]; omega
            | false =>
              have J2 : Hid (slB (ss.drop (k + 1)) (pe ss (k + 1)) = V) := JT.out EQ
              clear JF JT EQ
              go_wp2
              go_roundw
              case rel => exact ⟨k + 1, by omega, by go_num, J2.out, B1.out⟩
              case measure => simp [intOf]; omega
    · obtain rfl : k = 4 := by omega
      have E : Hid (V = true ∧ Below w.heap.size w wr) := by
        refine ⟨?_, I.out.2⟩
        rw [← I.out.1, List.drop_of_length_le (by rw [hn.out]; exact Nat.le_refl _)]; rfl
      clear I
      rw [show ((4 : Nat) : Int) = 4 from rfl]
      go_wp2
      go_ret
      exact ⟨ret_b E.out.1, E.out.2⟩
end Go.Proofs.YtbogoheigbiegaaDoor.Mai
namespace Go.Proofs.Ml
theorem ok_facts {m : Ml} (h : okB m = true) :
    (m.k = 1 ∧ m.u = 0 ∧ m.q = 0 ∧ m.t.size = 504 ∧ m.g.size = 0 ∧ m.sl.length = 0 ∧ m.ids.length = 0) ∨
    ((0 ≤ m.u ∧ m.u < 64 ∧ 1 ≤ m.q ∧ m.q ≤ 2147483647) ∧ m.t.size = 0 ∧
      ((m.k = 2 ∧ m.g.size = 32 ∧ m.sl.length = 0 ∧ m.ids.length = 0) ∨ (m.k = 3 ∧ m.g.size = 0 ∧ m.sl.length = 4 ∧ m.ids.length = 0) ∨ (m.k = 4 ∧ m.g.size = 32 ∧ m.sl.length = 0 ∧ m.ids.length ≤ 4))) := by
  rcases ok_cases h with ⟨k, u, q, t, g, s, i⟩ | ⟨-, hw, t, hc⟩
  · exact .inl ⟨k, u, q, t, by rw [g]; rfl, by rw [s]; rfl, by rw [i]; rfl⟩
  · refine .inr ⟨hw, by rw [t]; rfl, ?_⟩
    rcases hc with ⟨k, g, s, i⟩ | ⟨k, g, s, i, -⟩ | ⟨k, g, s, i, -⟩
    · exact .inl ⟨k, g, by rw [s]; rfl, by rw [i]; rfl⟩
    · exact .inr (.inl ⟨k, by rw [g]; rfl, s, by rw [i]; rfl⟩)
    · exact .inr (.inr ⟨k, g, by rw [s]; rfl, i⟩)
end Go.Proofs.Ml
namespace Go.Proofs.YtbogoheigbiegaaDoor.Mai
open Go.RowKit Go.Proofs.Fd Go.Proofs.Ml
set_option maxRecDepth 20000
end Go.Proofs.YtbogoheigbiegaaDoor.Mai
