/- Parts: MlE, MlF, MlG. -/
import Derived.Test.YtbogoheigbiegaaDoorZgG17
namespace Go.Proofs.YtbogoheigbiegaaDoor.Mai
open Go.RowKit Go.Proofs.Fd Go.Proofs.Ml
set_option maxRecDepth 20000
theorem mslice_from (g len n a : Nat) (hn : n ≤ len) (ha : (if len = n then 0 else n) = a) (w : World) :
    (Instr.slice 60 (.slice (some ⟨g, 0, none⟩) len len) (some (.int .i64 (n : Int))) none none).run Tryd.prog w = .ok (.slice (some ⟨g, a, none⟩) (len - n) (len - n)) w := by
  have h1 : (n : Int) ≤ (len : Int) := by omega
  by_cases q : len = n
  · rw [if_pos q] at ha
    subst ha
    subst q
    simp [go_sem]
  · rw [if_neg q] at ha
    subst ha
    simp [go_sem, h1, q]
theorem flat_take (ks : List ByteArray) (k : Nat) (hk : k < ks.length) : flat (ks.take (k + 1)) = flat (ks.take k) ++ by' ks[k] := flat_step by' ks k hk
theorem flat_some (ks : List ByteArray) (k : Nat) : (flat (ks.take k)).length ≤ (flat ks).length := flat_le ks k
theorem pad_laid (n : Nat) (l x : List UInt8) : (pad n l).take l.length ++ x ++ (pad n l).drop (l.length + x.length) = pad n (l ++ x) := by
  unfold pad
  rw [List.take_left, ← List.drop_drop, List.drop_left, List.length_append]
  show l ++ x ++ (zr _).drop _ = l ++ x ++ zr _
  rw [zr_drop, Nat.sub_sub]
theorem below_cells {B : Nat} {a w : World} {b : Nat} (hb : B ≤ b) (o : Nat) (vs : List Value) (h : Below B a w) : Below B a (w.setCells b o vs) := below_setCells hb _ _ _ h
set_option maxHeartbeats 1000000 in
theorem write_any (L : Nat) (a : Option Addr) (ks : List ByteArray) (n cap : Nat) (hn : Hid (ks.length = n)) (hm : n < 9223372036854775807) (hz : Hid ((flat ks).length ≤ L)) (hL : L ≤ 1000000) (w : World) (hc : Hid (StrAt w a ks)) :
    Calls Tryd.prog 40 #[.int .i64 (L : Int), .slice a n cap] w fun e w' => e = .returned (.string (mk (pad L (flat ks)))) ∧ Below w.heap.size w w' := by
  obtain ⟨S, hS⟩ : ∃ S, mk (pad L (flat ks)) = S := ⟨_, rfl⟩
  have HS : Hid (mk (pad L (flat ks)) = S) := hS
  rw [hS]
  clear hS
  obtain ⟨W, CM, BW, bW, -⟩ := make_n L (by omega) w
  obtain ⟨B, hB⟩ : ∃ B, w.heap.size = B := ⟨_, rfl⟩
  have I0 : Hid (BytesAt W B (pad L (flat (ks.take 0))) ∧ Below B w W) := by
    refine ⟨?_, hB ▸ bW⟩
    rw [List.take_zero, flat_nil, pad_nil, ← hB]
    exact BW
  have HB : Hid (w.heap.size = B) := hB
  rw [hB] at CM
  clear BW bW hB
  go_enter Tryd.func40, Tryd.ntmps40
  go_wp2
  go_loopw [6, 13] (fun at' i wr => ∃ k : Nat, k ≤ n ∧ i = .int .i64 (k : Int) ∧ at' = .int .i64 ((flat (ks.take k)).length : Int) ∧ Hid (BytesAt wr B (pad L (flat (ks.take k))) ∧ Below B w wr)) (fun _ i _ => n - (intOf i).toNat)
  case atStart => exact ⟨0, Nat.zero_le _, rfl, rfl, I0.out⟩
  case round =>
    obtain ⟨k, hk, rfl, rfl, I⟩ := hrel
    clear I0 CM
    by_cases hlt : k < n
    · have hk' : k < ks.length := by rw [hn.out]; exact hlt
      have g1 : (k : Int) < (n : Int) := by omega
      obtain ⟨b, o, rfl, cx⟩ := hc.out.later (HB.out ▸ I.out.2) rfl k hk'
      obtain ⟨x, hx⟩ : ∃ x, ks[k] = x := ⟨_, rfl⟩
      rw [hx] at cx
      have e1 : (flat (ks.take (k + 1))).length ≤ L := Nat.le_trans (flat_some _ _) hz.out
      have e2 := flat_take ks k hk'
      rw [hx] at e2
      have e3 : (flat (ks.take (k + 1))).length = (flat (ks.take k)).length + x.size := by rw [e2, List.length_append, by_len]
      obtain ⟨at0, hat⟩ : ∃ c, (flat (ks.take k)).length = c := ⟨_, rfl⟩
      obtain ⟨a1, ha1⟩ : ∃ a, (if L = at0 then 0 else at0) = a := ⟨_, rfl⟩
      have SL := mslice_from B L at0 a1 (by omega) ha1
      have hy := I.out.1
      have lp := pad_len L (flat (ks.take k)) (by omega)
      obtain ⟨V, CP, I2⟩ : ∃ V, (Builtin.copy_ #[60, 9] 3 #[.slice (some ⟨B, a1, none⟩) (L - at0) (L - at0), .string x]).run Tryd.prog wr = .ok (.int .i64 (x.size : Int)) V ∧ Hid (BytesAt V B (pad L (flat (ks.take (k + 1)))) ∧ Below B w V) := by
        by_cases q : L = at0
        · rw [if_pos q] at ha1
          subst ha1
          have hx0 : x.size = 0 := by omega
          have CP := copy_at wr B 0 (L - at0) (L - at0) x x.size (Nat.min_eq_left (by omega)) (fun j hj => by omega) (fun j hj => by omega)
          have xe : by' x = [] := List.length_eq_zero_iff.1 (by rw [by_len]; exact hx0)
          refine ⟨wr, ?_, ?_, I.out.2⟩
          · have : ((by' x).take x.size).map (fun x => Value.int .u8 (x.toNat : Int)) = [] := by rw [xe]; simp
            rw [CP]
            show Result.ok _ (wr.setCells B 0 (((by' x).take x.size).map (fun x => Value.int .u8 (x.toNat : Int)))) = _
            rw [this]
            rfl
          · rw [e2, xe, List.append_nil]; exact hy
        · rw [if_neg q] at ha1
          subst ha1
          have CP := copy_at wr B at0 (L - at0) (L - at0) x x.size (Nat.min_eq_left (by omega)) (fun j hj => by rw [(hy (at0 + j) (by omega)).1]; rfl) (fun j hj => (hy (at0 + j) (by omega)).2)
          rw [List.take_of_length_le (by simp)] at CP
          refine ⟨_, CP, ?_, below_cells (Nat.le_refl _) _ _ I.out.2⟩
          have BF := hy.copied at0 (by' x) (by rw [lp, by_len]; omega)
          have pl := pad_laid L (flat (ks.take k)) (by' x)
          rw [hat] at pl
          rw [pl, ← e2] at BF
          exact BF
      have HA : Hid ((flat (ks.take (k + 1))).length = at0 + x.size ∧ at0 + x.size ≤ L) := ⟨by omega, by omega⟩
      obtain ⟨z, hz2⟩ : ∃ z, L - at0 = z := ⟨_, rfl⟩
      rw [hz2] at SL CP
      rw [hat]
      have w1 : IntKind.i64.wrap ((at0 : Int) + (x.size : Int)) = ((at0 + x.size : Nat) : Int) := by rw [IntKind.wrap_i64]; omega
      clear I e1 e2 e3 hat ha1 hy lp hz2 hx
      go_wp2
      go_roundw
      case rel => exact ⟨k + 1, by omega, by go_num, by rw [HA.out.1, Int.natCast_add], I2.out⟩
      case measure => simp [intOf]; omega
    · obtain rfl : k = n := by omega
      have CV : (convert 60 9 (.slice (some ⟨B, 0, none⟩) L L)).run Tryd.prog wr = .ok (.string S) wr := by
        rw [← HS.out]
        have h := I.out.1
        rw [List.take_of_length_le (by rw [hn.out]; exact Nat.le_refl _)] at h
        exact h.string (pad_len _ _ hz.out)
      have BF : Hid (Below B w wr) := I.out.2
      clear I
      go_wp2
      go_ret
      exact ⟨rfl, HB.out ▸ BF.out⟩
end Go.Proofs.YtbogoheigbiegaaDoor.Mai
namespace Go.Proofs.YtbogoheigbiegaaDoor.Mai
open Go.RowKit Go.Proofs.Fd Go.Proofs.Ml
set_option maxRecDepth 20000
theorem ret_b {V b : Bool} (h : V = b) : Ending.returned (.bool b) = Ending.returned (.bool V) := by rw [h]
theorem idsB_drop (l : List ByteArray) (k : Nat) (h : k < l.length) : idsB (l.drop k) = (idB l[k] && idsB (l.drop (k + 1))) := by
  rw [List.drop_eq_getElem_cons h]; unfold idsB; rw [List.all_cons]
set_option maxHeartbeats 1000000 in
theorem areIds_any (a : Option Addr) (is : List ByteArray) (n c : Nat) (hn : Hid (is.length = n)) (hm : n ≤ 9223372036854775807) (w : World) (hc : Hid (StrAt w a is)) :
    Calls Tryd.prog 65 #[.slice a n c] w fun e w' => e = .returned (.bool (idsB is)) ∧ w' = w := by
  obtain ⟨V, hV⟩ : ∃ V, idsB is = V := ⟨_, rfl⟩
  have HV : Hid (idsB (is.drop 0) = V) := by rw [List.drop_zero]; exact hV
  rw [hV]
  clear hV
  go_enter Tryd.func65, Tryd.ntmps65
  go_wp2
  go_loopw [7] (fun i wr => ∃ k : Nat, k ≤ n ∧ i = .int .i64 (k : Int) ∧ Hid (idsB (is.drop k) = V) ∧ w = wr) (fun i _ => n - (intOf i).toNat)
  case atStart => exact ⟨0, Nat.zero_le _, rfl, HV, rfl⟩
  case round =>
    obtain ⟨k, hk, rfl, I, hw⟩ := hrel
    subst hw
    clear HV
    by_cases hlt : k < n
    · have hk' : k < is.length := by rw [hn.out]; exact hlt
      have g1 : (k : Int) < (n : Int) := by omega
      obtain ⟨b, o, rfl, cx⟩ := hc.out k hk'
      have J : Hid (_ = _) := (idsB_drop is k hk').symm.trans I.out
      obtain ⟨x, hx⟩ : ∃ x, is[k] = x := ⟨_, rfl⟩
      rw [hx] at cx J
      obtain ⟨d, hd⟩ : ∃ d, idB x = d := ⟨_, rfl⟩
      have ID := isId_any x w
      rw [hd] at J ID
      clear hx I hd
      go_wp2_with fail
      refine Calls.mono ID ?_
      rintro e w1 ⟨rfl, rfl⟩
      clear ID
      cases d with
      | false =>
        go_wp2
        go_ret
        exact ⟨ret_b J.out.symm, rfl⟩
      | true =>
        go_wp2
        go_roundw
        case rel => exact ⟨k + 1, by omega, by go_num, J.out, trivial⟩
        case measure => simp [intOf]; omega
    · obtain rfl : k = n := by omega
      have E : Hid (V = true) := by
        show _ = _
        rw [← I.out, List.drop_of_length_le (by rw [hn.out]; exact Nat.le_refl _)]; rfl
      clear I
      go_wp2
      go_ret
      exact ⟨ret_b E.out, rfl⟩
theorem slB_drop (l : List Sl) (k : Nat) (e : Bool) (h : k < l.length) : slB (l.drop k) e = if emB l[k] = true then slB (l.drop (k + 1)) true else if e = true then false else if okS l[k] = true then slB (l.drop (k + 1)) false else false := by
  rw [List.drop_eq_getElem_cons h]; rfl
theorem size_toList (x : ByteArray) : (x.toList == []) = decide (x.size = 0) := by
  rw [toList_by]
  by_cases h : x.size = 0
  · rw [decide_eq_true h, nil_of h]; rfl
  · rw [decide_eq_false h, beq_eq_false_iff_ne]
    intro z
    exact h (by rw [← by_len, z]; rfl)
set_option maxHeartbeats 1000000 in
theorem areSlots_any (a : Option Addr) (ss : List Sl) (n c : Nat) (hn : Hid (ss.length = n)) (hm : n ≤ 9223372036854775807) (w : World) (hc : Hid (SlAt w a ss)) :
    Calls Tryd.prog 64 #[.slice a n c] w fun e w' => e = .returned (.bool (slB ss false)) ∧ Below w.heap.size w w' := by
  obtain ⟨V, hV⟩ : ∃ V, slB ss false = V := ⟨_, rfl⟩
  have HV : Hid (slB (ss.drop 0) false = V) := by rw [List.drop_zero]; exact hV
  rw [hV]
  clear hV
  go_enter Tryd.func64, Tryd.ntmps64
  go_wp2
  go_loopw [3, 8] (fun en i wr => ∃ (k : Nat) (e : Bool), k ≤ n ∧ i = .int .i64 (k : Int) ∧ en = .bool e ∧ Hid (slB (ss.drop k) e = V ∧ Below w.heap.size w wr)) (fun _ i _ => n - (intOf i).toNat)
  case atStart => exact ⟨0, false, Nat.zero_le _, rfl, rfl, HV.out, Below.refl _ _⟩
  case round =>
    obtain ⟨k, e, hk, rfl, rfl, I⟩ := hrel
    clear HV
    by_cases hlt : k < n
    · have hk' : k < ss.length := by rw [hn.out]; exact hlt
      have g1 : (k : Int) < (n : Int) := by omega
      obtain ⟨b, o, rfl, c0, c1⟩ := hc.out.later I.out.2 k hk'
      have J : Hid (_ = _) := (slB_drop ss k e hk').symm.trans I.out.1
      have B0 : Hid (Below w.heap.size w wr) := I.out.2
      generalize ss[k] = s at c0 c1 J
      obtain ⟨id, tx⟩ := s
      simp only at c0 c1
      have B1 : Hid (∀ o, Below w.heap.size w (wr.alloc o)) := fun o => B0.out.alloc B0.out.size o
      have ID := isId_any id
      clear I
      by_cases h1 : id.size = 0
      · obtain rfl := nil_of h1
        by_cases h2 : tx.size = 0
        · obtain rfl := nil_of h2
          have J2 : Hid (slB (ss.drop (k + 1)) true = V) := J.out
          clear J ID h1 h2
          unfold e0 at c0 c1
          go_wp2
          go_roundw
          case rel => exact ⟨k + 1, true, by omega, by go_num, rfl, J2.out, B1.out _⟩
          case measure => simp [intOf]; omega
        · have z2 : (tx.toList == []) = false := by rw [size_toList, decide_eq_false h2]
          have J2 : Hid (V = false) := by
            have q := J.out
            rw [if_neg (by unfold emB; simp only [decide_eq_false h2, Bool.and_false]; decide), show okS ⟨e0, tx⟩ = false from rfl] at q
            show _ = _
            rw [← q]
            by_cases q1 : e = true
            · rw [if_pos q1]
            · rw [if_neg q1, if_neg (by decide)]
          rw [show idB e0 = false from rfl] at ID
          clear J h1 h2
          unfold e0 at c0 ID
          cases e with
          | true =>
            go_wp2
            go_ret
            exact ⟨ret_b J2.out, B1.out _⟩
          | false =>
            go_wp2_with fail
            refine Calls.mono (ID _) ?_
            rintro e w1 ⟨rfl, rfl⟩
            go_wp2
            go_ret
            exact ⟨ret_b J2.out, B1.out _⟩
      · have z1 : (id.toList == []) = false := by rw [size_toList, decide_eq_false h1]
        have J2 : Hid ((if e = true then false else if okS ⟨id, tx⟩ = true then slB (ss.drop (k + 1)) false else false) = V) := by
          have q := J.out
          rw [if_neg (by unfold emB; simp only [decide_eq_false h1, Bool.false_and]; decide)] at q
          exact q
        clear J h1
        cases e with
        | true =>
          have J3 : Hid (V = false) := J2.out.symm
          clear J2
          go_wp2
          go_ret
          exact ⟨ret_b J3.out, B1.out _⟩
        | false =>
          have J3 : Hid ((if okS ⟨id, tx⟩ = true then slB (ss.drop (k + 1)) false else false) = V) := J2.out
          unfold okS at J3
          simp only at J3
          obtain ⟨d, hd⟩ : ∃ d, idB id = d := ⟨_, rfl⟩
          rw [hd] at J3 ID
          clear J2 hd
          go_wp2_with fail
          refine Calls.mono (ID _) ?_
          rintro e w1 ⟨rfl, rfl⟩
          clear ID
          cases d with
          | false =>
            have J4 : Hid (V = false) := J3.out.symm
            clear J3
            go_wp2
            go_ret
            exact ⟨ret_b J4.out, B1.out _⟩
          | true =>
            by_cases h3 : tx.size ≤ 222
            · have g3 : ¬ (222 : Int) < (tx.size : Int) := by omega
              have J4 : Hid (slB (ss.drop (k + 1)) false = V) := by
                have q := J3.out
                rw [decide_eq_true h3, if_pos (by rfl)] at q
                exact q
              clear J3 h3
              go_wp2
              go_roundw
              case rel => exact ⟨k + 1, false, by omega, by go_num, rfl, J4.out, B1.out _⟩
              case measure => simp [intOf]; omega
            · have g3 : (222 : Int) < (tx.size : Int) := by omega
              have J4 : Hid (V = false) := by
                have q := J3.out
                rw [decide_eq_false h3, if_neg (by decide)] at q
                exact q.symm
              clear J3 h3
              go_wp2
              go_ret
              exact ⟨ret_b J4.out, B1.out _⟩
    · obtain rfl : k = n := by omega
      have E : Hid (V = true ∧ Below w.heap.size w wr) := by
        refine ⟨?_, I.out.2⟩
        rw [← I.out.1, List.drop_of_length_le (by rw [hn.out]; exact Nat.le_refl _)]; rfl
      clear I
      go_wp2
      go_ret
      exact ⟨ret_b E.out.1, E.out.2⟩
end Go.Proofs.YtbogoheigbiegaaDoor.Mai
namespace Go.Proofs.YtbogoheigbiegaaDoor.Mai
open Go.RowKit Go.Proofs.Fd Go.Proofs.Ml
set_option maxRecDepth 20000
theorem okB_1 {u q : Int} {t g : ByteArray} {ss : List Sl} {is : List ByteArray} : okB ⟨1, u, q, t, g, ss, is⟩ = (decide (u = 0) && decide (q = 0) && smB t g ss.length is.length 504 0 0 0) := rfl
theorem okB_2 {u q : Int} {t g : ByteArray} {ss : List Sl} {is : List ByteArray} : okB ⟨2, u, q, t, g, ss, is⟩ = (nmB u q && smB t g ss.length is.length 0 32 0 0) := rfl
theorem okB_3 {u q : Int} {t g : ByteArray} {ss : List Sl} {is : List ByteArray} : okB ⟨3, u, q, t, g, ss, is⟩ = (nmB u q && smB t g ss.length is.length 0 0 4 0 && slB ss false) := rfl
theorem okB_4 {u q : Int} {t g : ByteArray} {ss : List Sl} {is : List ByteArray} : okB ⟨4, u, q, t, g, ss, is⟩ = (nmB u q && smB t g ss.length is.length 0 32 0 4 && idsB is) := rfl
theorem okB_5 {k u q : Int} {t g : ByteArray} {ss : List Sl} {is : List ByteArray} (h1 : ¬ k = 1) (h2 : ¬ k = 2) (h3 : ¬ k = 3) (h4 : ¬ k = 4) : okB ⟨k, u, q, t, g, ss, is⟩ = false := by
  unfold okB; simp only; rw [if_neg h1, if_neg h2, if_neg h3, if_neg h4]
set_option maxHeartbeats 2000000 in
theorem mayBe_any (k u q : Int) (t g : ByteArray) (a : Option Addr) (n c : Nat) (a2 : Option Addr) (n2 c2 : Nat) (ss : List Sl) (is : List ByteArray) (w : World) (L : Hid (Lists w a n c a2 n2 c2 ss is)) :
    Calls Tryd.prog 50 #[mv k u q t g a n c a2 n2 c2] w fun e w' => e = .returned (.bool (okB ⟨k, u, q, t, g, ss, is⟩)) ∧ Below w.heap.size w w' := by
  obtain ⟨A, hA⟩ : ∃ A : Obj, .cells #[.int .i64 k, .int .i64 u, .int .i64 q, .string t, .string g, .slice a n c, .slice a2 n2 c2] 38 = A := ⟨_, rfl⟩
  have B0 : Hid (Below w.heap.size w (w.alloc A) ∧ MlAt (w.alloc A) w.heap.size k u q t g a n c a2 n2 c2 ∧ Lists (w.alloc A) a n c a2 n2 c2 ss is) := by
    have hb : Below w.heap.size w (w.alloc A) := (Below.refl _ _).alloc (Nat.le_refl _) _
    exact ⟨hb, hA ▸ MlAt.new w _ _ _ _ _ _ _ _ _ _ _ _, L.out.later hb⟩
  subst hA
  have NB := numbered_any k u q t g a n c a2 n2 c2
  have ln : Hid (ss.length = n ∧ is.length = n2) := ⟨L.out.ls, L.out.li⟩
  have mm : n ≤ 9223372036854775807 ∧ n2 ≤ 9223372036854775807 := ⟨L.out.ms, L.out.mi⟩
  by_cases h1 : k = 1
  · subst h1
    rw [okB_1, ln.out.1, ln.out.2]
    have SZ := sized_any 504 0 0 0 1 u q t g a n c a2 n2 c2
    obtain ⟨d2, hd2⟩ : ∃ d, smB t g n n2 504 0 0 0 = d := ⟨_, rfl⟩
    rw [hd2] at SZ ⊢
    clear NB
    by_cases u0 : u = 0
    rotate_left
    · rw [decide_eq_false u0]
      go_enter Tryd.func50, Tryd.ntmps50
      go_wp2
      go_ret
      exact ⟨rfl, B0.out.1⟩
    subst u0
    by_cases q0 : q = 0
    rotate_left
    · rw [decide_eq_false q0]
      go_enter Tryd.func50, Tryd.ntmps50
      go_wp2
      go_ret
      exact ⟨rfl, B0.out.1⟩
    subst q0
    go_enter Tryd.func50, Tryd.ntmps50
    go_wp2_with fail
    refine Calls.mono (SZ _) ?_
    rintro e w1 ⟨rfl, hb1⟩
    have B1 : Hid (Below w.heap.size w w1) := chain B0.out.1 hb1
    clear hb1 SZ B0
    go_wp2
    go_ret
    exact ⟨by simp, B1.out⟩
  by_cases h2 : k = 2
  · subst h2
    rw [okB_2, ln.out.1, ln.out.2]
    have SZ := sized_any 0 32 0 0 2 u q t g a n c a2 n2 c2
    obtain ⟨d2, hd2⟩ : ∃ d, smB t g n n2 0 32 0 0 = d := ⟨_, rfl⟩
    rw [hd2] at SZ ⊢
    obtain ⟨d1, hd1⟩ : ∃ d, nmB u q = d := ⟨_, rfl⟩
    rw [hd1] at NB ⊢
    clear hd1 hd2
    go_enter Tryd.func50, Tryd.ntmps50
    go_wp2_with fail
    refine Calls.mono (NB _) ?_
    rintro e w1 ⟨rfl, hb1⟩
    have B1 : Hid (Below w.heap.size w w1 ∧ MlAt w1 w.heap.size 2 u q t g a n c a2 n2 c2 ∧ Lists w1 a n c a2 n2 c2 ss is) := ⟨chain B0.out.1 hb1, B0.out.2.1.later hb1, B0.out.2.2.later hb1⟩
    clear hb1 NB B0
    cases d1 with
    | false =>
      go_wp2
      go_ret
      exact ⟨rfl, B1.out.1⟩
    | true =>
      obtain ⟨-, c0, c1, c2', c3, c4, c5, c6⟩ := B1.out.2.1
      go_wp2_with fail
      refine Calls.mono (SZ _) ?_
      rintro e w2 ⟨rfl, hb2⟩
      have B2 : Hid (Below w.heap.size w w2 ∧ MlAt w2 w.heap.size 2 u q t g a n c a2 n2 c2 ∧ Lists w2 a n c a2 n2 c2 ss is) := ⟨chain B1.out.1 hb2, B1.out.2.1.later hb2, B1.out.2.2.later hb2⟩
      clear hb2 SZ B1 c0 c1 c2' c3 c4 c5 c6
      go_wp2
      go_ret
      exact ⟨by simp, B2.out.1⟩
  by_cases h3 : k = 3
  · subst h3
    rw [okB_3, ln.out.1, ln.out.2]
    have SZ := sized_any 0 0 4 0 3 u q t g a n c a2 n2 c2
    obtain ⟨d2, hd2⟩ : ∃ d, smB t g n n2 0 0 4 0 = d := ⟨_, rfl⟩
    rw [hd2] at SZ ⊢
    obtain ⟨d1, hd1⟩ : ∃ d, nmB u q = d := ⟨_, rfl⟩
    rw [hd1] at NB ⊢
    clear hd1 hd2
    obtain ⟨d3, hd3⟩ : ∃ d, slB ss false = d := ⟨_, rfl⟩
    have T3 := fun w hh => areSlots_any a ss n c ln.out.1 mm.1 w hh
    rw [hd3] at T3 ⊢
    clear hd3
    go_enter Tryd.func50, Tryd.ntmps50
    go_wp2_with fail
    refine Calls.mono (NB _) ?_
    rintro e w1 ⟨rfl, hb1⟩
    have B1 : Hid (Below w.heap.size w w1 ∧ MlAt w1 w.heap.size 3 u q t g a n c a2 n2 c2 ∧ Lists w1 a n c a2 n2 c2 ss is) := ⟨chain B0.out.1 hb1, B0.out.2.1.later hb1, B0.out.2.2.later hb1⟩
    clear hb1 NB B0
    cases d1 with
    | false =>
      go_wp2
      go_ret
      exact ⟨rfl, B1.out.1⟩
    | true =>
      obtain ⟨-, c0, c1, c2', c3, c4, c5, c6⟩ := B1.out.2.1
      go_wp2_with fail
      refine Calls.mono (SZ _) ?_
      rintro e w2 ⟨rfl, hb2⟩
      have B2 : Hid (Below w.heap.size w w2 ∧ MlAt w2 w.heap.size 3 u q t g a n c a2 n2 c2 ∧ Lists w2 a n c a2 n2 c2 ss is) := ⟨chain B1.out.1 hb2, B1.out.2.1.later hb2, B1.out.2.2.later hb2⟩
      clear hb2 SZ B1 c0 c1 c2' c3 c4 c5 c6
      obtain ⟨-, c0, c1, c2', c3, c4, c5, c6⟩ := B2.out.2.1
      cases d2 with
      | false =>
        go_wp2
        go_ret
        exact ⟨rfl, B2.out.1⟩
      | true =>
        go_wp2_with fail
        refine Calls.mono (T3 _ B2.out.2.2.s) ?_
        rintro e w3 ⟨rfl, hb3⟩
        have B3 : Hid (Below w.heap.size w w3) := chain B2.out.1 hb3
        clear hb3 T3 B2 c0 c1 c2' c3 c4 c5 c6
        go_wp2
        go_ret
        exact ⟨by simp, B3.out⟩
  by_cases h4 : k = 4
  · subst h4
    rw [okB_4, ln.out.1, ln.out.2]
    have SZ := sized_any 0 32 0 4 4 u q t g a n c a2 n2 c2
    obtain ⟨d2, hd2⟩ : ∃ d, smB t g n n2 0 32 0 4 = d := ⟨_, rfl⟩
    rw [hd2] at SZ ⊢
    obtain ⟨d1, hd1⟩ : ∃ d, nmB u q = d := ⟨_, rfl⟩
    rw [hd1] at NB ⊢
    clear hd1 hd2
    obtain ⟨d3, hd3⟩ : ∃ d, idsB is = d := ⟨_, rfl⟩
    have T3 := fun w hh => areIds_any a2 is n2 c2 ln.out.2 mm.2 w hh
    rw [hd3] at T3 ⊢
    clear hd3
    go_enter Tryd.func50, Tryd.ntmps50
    go_wp2_with fail
    refine Calls.mono (NB _) ?_
    rintro e w1 ⟨rfl, hb1⟩
    have B1 : Hid (Below w.heap.size w w1 ∧ MlAt w1 w.heap.size 4 u q t g a n c a2 n2 c2 ∧ Lists w1 a n c a2 n2 c2 ss is) := ⟨chain B0.out.1 hb1, B0.out.2.1.later hb1, B0.out.2.2.later hb1⟩
    clear hb1 NB B0
    cases d1 with
    | false =>
      go_wp2
      go_ret
      exact ⟨rfl, B1.out.1⟩
    | true =>
      obtain ⟨-, c0, c1, c2', c3, c4, c5, c6⟩ := B1.out.2.1
      go_wp2_with fail
      refine Calls.mono (SZ _) ?_
      rintro e w2 ⟨rfl, hb2⟩
      have B2 : Hid (Below w.heap.size w w2 ∧ MlAt w2 w.heap.size 4 u q t g a n c a2 n2 c2 ∧ Lists w2 a n c a2 n2 c2 ss is) := ⟨chain B1.out.1 hb2, B1.out.2.1.later hb2, B1.out.2.2.later hb2⟩
      clear hb2 SZ B1 c0 c1 c2' c3 c4 c5 c6
      obtain ⟨-, c0, c1, c2', c3, c4, c5, c6⟩ := B2.out.2.1
      cases d2 with
      | false =>
        go_wp2
        go_ret
        exact ⟨rfl, B2.out.1⟩
      | true =>
        go_wp2_with fail
        refine Calls.mono (T3 _ B2.out.2.2.i) ?_
        rintro e w3 ⟨rfl, rfl⟩
        have B3 : Hid (Below w.heap.size w w3) := B2.out.1
        clear T3 B2 c0 c1 c2' c3 c4 c5 c6
        go_wp2
        go_ret
        exact ⟨by simp, B3.out⟩
  rw [okB_5 h1 h2 h3 h4]
  go_enter Tryd.func50, Tryd.ntmps50
  go_wp2
  go_ret
  exact ⟨rfl, B0.out.1⟩
def chkE (b : Bool) : Int := if b = true then 0 else 110
set_option maxHeartbeats 1000000 in
theorem check_any (k u q : Int) (t g : ByteArray) (a : Option Addr) (n c : Nat) (a2 : Option Addr) (n2 c2 : Nat) (ss : List Sl) (is : List ByteArray) (w : World) (L : Hid (Lists w a n c a2 n2 c2 ss is)) :
    Calls Tryd.prog 31 #[mv k u q t g a n c a2 n2 c2] w fun e w' => e = .returned (.int .i64 (chkE (okB ⟨k, u, q, t, g, ss, is⟩))) ∧ Below w.heap.size w w' := by
  have MB := fun w h => mayBe_any k u q t g a n c a2 n2 c2 ss is w h
  obtain ⟨d, hd⟩ : ∃ d, okB ⟨k, u, q, t, g, ss, is⟩ = d := ⟨_, rfl⟩
  rw [hd] at MB ⊢
  clear hd
  go_enter Tryd.func31, Tryd.ntmps31
  go_wp2_with fail
  refine Calls.mono (MB _ (L.out.later ((Below.refl _ _).alloc (Nat.le_refl _) _))) ?_
  rintro e w1 ⟨rfl, hb1⟩
  have B1 : Hid (Below w.heap.size w w1) := chain ((Below.refl _ _).alloc (Nat.le_refl _) _) hb1
  clear hb1 MB
  cases d with
  | false =>
    go_wp2
    go_ret
    exact ⟨rfl, B1.out⟩
  | true =>
    go_wp2
    go_ret
    exact ⟨rfl, B1.out⟩
end Go.Proofs.YtbogoheigbiegaaDoor.Mai
