/- The document's Draw and Several. -/
import Derived.Test.YtecdjfafeeimfaaDeR
import Derived.Test.YtecdjfafeeimfaaDeX
namespace Go.Proofs.Ytecdjfafeeimfaa
open Go.RowKit Go.Proofs.Fd Go.Proofs.Ta Go.Proofs.De
set_option maxRecDepth 20000

def RDrP (w : World) (d : Nat) (m n : Int) (l : List UInt8) (e : Ending) (w' : World) : Prop := e = .returned (.tuple #[.int .i64 (drV m n l), .int .i64 (drE m n l)]) ∧ DAt w' d (drR m n l) ∧ But d d w w'
theorem DAt.but {w w' : World} {d q g : Nat} {l : List UInt8} (h : DAt w d l) (hb : But q g w w') (h1 : d ≠ q) (h2 : d ≠ g) : DAt w' d l := h.apart hb h1 h2
set_option maxHeartbeats 1000000 in
theorem rdraw_any (d : Nat) (l : List UInt8) (m n : Int) (w : World) (R : Hid (DAt w d l)) :
    Calls Try.prog 21 #[.pointer (some ⟨d, 0, none⟩), .int .i64 m, .int .i64 n] w fun e w' => RDrP w d m n l e w' := by
  unfold RDrP
  by_cases h : (0 ≤ m ∧ m ≤ 4096) ∧ 0 ≤ n ∧ n ≤ 4096
  · have MB : Hid _ := rmay_any m n true (may_yes h) w
    have WD := rword_any d l w R
    by_cases hl : l.length < 4
    · rw [(dr_few h hl).1, (dr_few h hl).2.1, (dr_few h hl).2.2]
      rw [show wordV l = 0 from if_pos hl, show wordE l = 120 from if_pos hl, show wordR l = l from if_pos hl] at WD
      have HW : Hid _ := WD
      clear WD h hl R
      go_enter Try.func21, Try.ntmps21
      go_wp2_with fail
      refine Calls.mono MB.out ?_
      rintro e w1 ⟨rfl, rfl⟩
      clear MB
      go_wp2_with fail
      refine Calls.mono HW.out ?_
      rintro e w2 ⟨rfl, t2, b2⟩
      have FI : Hid (DAt w2 d l ∧ But d d w1 w2) := ⟨t2, b2⟩
      clear HW t2 b2
      go_wp2
      go_ret2
      exact ⟨rfl, FI.out⟩
    · rw [(dr_ok h hl).1, (dr_ok h hl).2.1, (dr_ok h hl).2.2]
      rw [(word_yes (by omega : 4 ≤ l.length)).1, (word_yes (by omega : 4 ≤ l.length)).2.1, (word_yes (by omega : 4 ≤ l.length)).2.2] at WD
      have hu := num4_lt l
      obtain ⟨u, hu2⟩ : ∃ u, num4 l = u := ⟨_, rfl⟩
      rw [hu2] at WD hu ⊢
      have HO : Hid (∀ W : World, Calls Try.prog 11 #[.int .i64 m, .int .i64 n, .int .i64 (u : Int)] W fun e w' => OfP W (dl m.toNat n.toNat u : Int) 0 e w') := fun W => by
        have x := rof_any m n u W
        obtain ⟨m, rfl⟩ : ∃ k : Nat, m = k := ⟨m.toNat, by omega⟩
        obtain ⟨n, rfl⟩ : ∃ k : Nat, n = k := ⟨n.toNat, by omega⟩
        rw [(of_ok m n u (by omega) (by omega) hu).1, (of_ok m n u (by omega) (by omega) hu).2] at x
        exact x
      obtain ⟨v, hv⟩ : ∃ v : Int, (dl m.toNat n.toNat u : Int) = v := ⟨_, rfl⟩
      rw [hv] at HO ⊢
      have HW : Hid _ := WD
      clear WD h hl R hu hu2 hv
      go_enter Try.func21, Try.ntmps21
      go_wp2_with fail
      refine Calls.mono MB.out ?_
      rintro e w1 ⟨rfl, rfl⟩
      clear MB
      go_wp2_with fail
      refine Calls.mono HW.out ?_
      rintro e w2 ⟨rfl, t2, b2⟩
      have I2 : Hid (DAt w2 d (l.drop 4) ∧ But d d w1 w2) := ⟨t2, b2⟩
      clear HW t2 b2
      go_wp2_with fail
      refine Calls.mono (HO.out _) ?_
      rintro e w3 ⟨rfl, b3⟩
      have FI : Hid (DAt w3 d (l.drop 4) ∧ But d d w1 w3) := ⟨I2.out.1.later b3, I2.out.2.later b3⟩
      clear HO b3 I2
      go_wp2
      go_ret2
      exact ⟨rfl, FI.out⟩
  · have MB : Hid _ := rmay_any m n false (may_not h) w
    rw [(dr_no h).1, (dr_no h).2.1, (dr_no h).2.2]
    clear h
    go_enter Try.func21, Try.ntmps21
    go_wp2_with fail
    refine Calls.mono MB.out ?_
    rintro e w1 ⟨rfl, rfl⟩
    clear MB
    go_wp2
    go_ret2
    exact ⟨rfl, R.out, But.refl _ _ _⟩
def RSevP (w : World) (d : Nat) (L : List Int) (x : Int) (r : List UInt8) (e : Ending) (w' : World) : Prop := ∃ a c, e = .returned (.tuple #[.slice a L.length c, .int .i64 x]) ∧ IntAt w' a L ∧ New w.heap.size a ∧ DAt w' d r ∧ But d d w w'
theorem RSevP.no {w w' : World} {d : Nat} {x : Int} {r : List UInt8} (h : DAt w' d r) (hb : But d d w w') : RSevP w d [] x r (.returned (.tuple #[.slice none 0 0, .int .i64 x])) w' := ⟨none, 0, rfl, IntAt.nil _ _, New.none _, h, hb⟩
theorem okM_zero : okM 0 = true := by decide
/-- All that was looked at may be. -/
def Fine (n : Int) (L : List Int) (k : Nat) : Prop := ∀ j (hj : j < L.length), j < k → (okM L[j] && okM n) = true
theorem Fine.next {n : Int} {L : List Int} {k : Nat} (h : Fine n L k) (hk : k < L.length) (e : (okM L[k] && okM n) = true) : Fine n L (k + 1) := fun j hj hjk => by
  by_cases q : j = k
  · subst q; exact e
  · exact h j hj (by omega)
theorem Fine.all {n : Int} {L : List Int} {k : Nat} (h : Fine n L k) (hk : L.length = k) (hn : okM n = true) : okA n L = true := by
  unfold okA
  rw [hn, Bool.true_and]
  exact all_upto L (fun j hj => by have := h j hj (by omega); rw [Bool.and_eq_true] at this; exact this.1)
theorem fine_of {n : Int} {L : List Int} (h : okA n L = true) (k : Nat) (hk : k < L.length) : (okM L[k] && okM n) = true := by
  have h2 := (okA_iff n L).1 h
  exact may_yes ⟨h2.2 _ (List.getElem_mem hk), h2.1⟩
set_option maxHeartbeats 1000000 in
theorem rseveral_no (t : Value) (n : Int) (L : List Int) (a : Option Addr) (len cap : Nat) (hn : L.length = len) (hn2 : len ≤ 17592186044416) (hq : ¬ (L.length ≤ 64 ∧ okA n L = true)) (w : World) (h : Hid (IntAt w a L)) :
    Calls Try.prog 17 #[t, .int .i64 n, .slice a len cap] w fun e w' => e = .returned (.tuple #[.slice none 0 0, .int .i64 1]) ∧ w' = w := by
  have HQ : Hid (L.length = len ∧ ¬ (L.length ≤ 64 ∧ okA n L = true)) := ⟨hn, hq⟩
  clear hn hq
  go_enter Try.func17, Try.ntmps17
  go_wp2
  go_loopw [8] (fun i wr => ∃ k : Nat, k ≤ len ∧ i = .int .i64 (k : Int) ∧ Hid (Fine n L k) ∧ w = wr) (fun i _ => len - (intOf i).toNat)
  case atStart => exact ⟨0, by omega, rfl, fun j _ hj => absurd hj (Nat.not_lt_zero _), rfl⟩
  case round =>
    obtain ⟨k, hk, rfl, I, hw⟩ := hrel
    subst hw
    by_cases hlt : k < len
    · have g1 : (k : Int) < (len : Int) := by omega
      have hk1 : k < L.length := by rw [HQ.out.1]; exact hlt
      obtain ⟨b, o, rfl, e1⟩ := h.out k hk1
      obtain ⟨v, hv⟩ : ∃ v, (okM L[k] && okM n) = v := ⟨_, rfl⟩
      have MB : Hid _ := rmay_any L[k] n v hv w
      obtain ⟨x, hx⟩ : ∃ x, L[k] = x := ⟨_, rfl⟩
      have FN : Hid (v = true → Fine n L (k + 1)) := fun e => I.out.next hk1 (hv.trans e)
      rw [hx] at e1 MB
      clear hx hv I hk1
      cases v
      · go_wp2_with fail
        refine Calls.mono MB.out ?_
        rintro e w1 ⟨rfl, rfl⟩
        clear MB
        go_wp2
        go_ret2
        exact ⟨rfl, rfl⟩
      · go_wp2_with fail
        refine Calls.mono MB.out ?_
        rintro e w1 ⟨rfl, rfl⟩
        clear MB
        go_wp2
        go_roundw
        case rel => exact ⟨k + 1, by omega, by go_num, FN.out (by simp), trivial⟩
        case measure => simp [intOf]; omega
    · obtain rfl : k = len := by omega
      obtain ⟨v, hv⟩ : ∃ v, okM n = v := ⟨_, rfl⟩
      have MB : Hid _ := rmay_any 0 n v (by rw [okM_zero, hv]; rfl) w
      cases v
      · clear hv I
        go_wp2_with fail
        refine Calls.mono MB.out ?_
        rintro e w1 ⟨rfl, rfl⟩
        clear MB
        go_wp2
        go_ret2
        exact ⟨rfl, rfl⟩
      · have h64 : 64 < k := Nat.lt_of_not_le fun hle => HQ.out.2 ⟨by rw [HQ.out.1]; exact hle, I.out.all HQ.out.1 hv⟩
        have g2 : (64 : Int) < (k : Int) := by omega
        clear hv I h64
        go_wp2_with fail
        refine Calls.mono MB.out ?_
        rintro e w1 ⟨rfl, rfl⟩
        clear MB
        go_wp2
        go_ret2
        exact ⟨rfl, rfl⟩
set_option maxHeartbeats 1000000 in
theorem rseveral_few (d : Nat) (l : List UInt8) (n : Int) (L : List Int) (a : Option Addr) (len cap : Nat) (hn : L.length = len) (hn2 : len ≤ 64) (hq : okA n L = true) (hl : l.length < 4 * len) (w : World) (R : Hid (DAt w d l)) (h : Hid (IntAt w a L)) :
    Calls Try.prog 17 #[.pointer (some ⟨d, 0, none⟩), .int .i64 n, .slice a len cap] w fun e w' => e = .returned (.tuple #[.slice none 0 0, .int .i64 120]) ∧ w' = w := by
  have MA : Hid (∀ k (hk : k < L.length) (W : World), _) := fun k hk W => rmay_any L[k] n true (fine_of hq k hk) W
  have M0 : Hid _ := rmay_any 0 n true (by rw [okM_zero, Bool.true_and, okM_iff]; exact ((okA_iff n L).1 hq).1) w
  have HN : Hid (L.length = len) := hn
  have c0 := R.out.1
  obtain ⟨S, hS⟩ : ∃ S : ByteArray, ⟨l.toArray⟩ = S := ⟨_, rfl⟩
  have hz : S.size = l.length := by rw [← hS]; exact ba_size l
  rw [hS] at c0
  have z2 : IntKind.i64.wrap (4 * (len : Int)) = 4 * (len : Int) := by rw [IntKind.wrap_i64]; omega
  have q3 : (S.size : Int) < 4 * (len : Int) := by omega
  clear hn hq hl R hS hz
  go_enter Try.func17, Try.ntmps17
  go_wp2
  go_loopw [8] (fun i wr => ∃ k : Nat, k ≤ len ∧ i = .int .i64 (k : Int) ∧ w = wr) (fun i _ => len - (intOf i).toNat)
  case atStart => exact ⟨0, by omega, rfl, rfl⟩
  case round =>
    obtain ⟨k, hk, rfl, hw⟩ := hrel
    subst hw
    by_cases hlt : k < len
    · have g1 : (k : Int) < (len : Int) := by omega
      have hk1 : k < L.length := by rw [HN.out]; exact hlt
      obtain ⟨b, o, rfl, e1⟩ := h.out k hk1
      have MB : Hid _ := MA.out k hk1 w
      obtain ⟨x, hx⟩ : ∃ x, L[k] = x := ⟨_, rfl⟩
      rw [hx] at e1 MB
      clear hx hk1
      go_wp2_with fail
      refine Calls.mono MB.out ?_
      rintro e w1 ⟨rfl, rfl⟩
      clear MB
      go_wp2
      go_roundw
      case rel => exact ⟨k + 1, by omega, by go_num, trivial⟩
      case measure => simp [intOf]; omega
    · obtain rfl : k = len := by omega
      have g2 : ¬ (64 : Int) < (k : Int) := by omega
      go_wp2_with fail
      refine Calls.mono M0.out ?_
      rintro e w1 ⟨rfl, rfl⟩
      clear M0 MA
      go_wp2
      go_ret2
      exact ⟨rfl, rfl⟩
theorem own_but {w w' : World} {p g base : Nat} {e : TypeId} {size : Nat} {v : Value} {n : Nat} {xs : List Value} (h : w.ownsRow base e size v n xs) (hb : But p g w w') (hp : p < base) (hg : g < base) : w'.ownsRow base e size v n xs := by
  refine ⟨h.1, ?_⟩
  rcases h.2 with hn | ⟨k, cap, cur, rfl, hbg, hgg, rest⟩
  · exact .inl hn
  · refine .inr ⟨k, cap, cur, rfl, hbg, ?_, rest⟩
    rw [hb.block k (Array.getElem?_eq_some_iff.1 hgg).1 (by omega) (by omega)]
    exact hgg
set_option maxHeartbeats 2000000 in
theorem rseveral_yes (d : Nat) (l : List UInt8) (n : Int) (L : List Int) (a : Option Addr) (len cap : Nat) (hn : L.length = len) (hE : sevE n L l = 0) (hq : okA n L = true) (w : World) (R : Hid (DAt w d l)) (h : Hid (IntAt w a L)) (hne : Hid (∀ x, a = some x → 0 < len → x.block ≠ d)) :
    Calls Try.prog 17 #[.pointer (some ⟨d, 0, none⟩), .int .i64 n, .slice a len cap] w fun e w' => RSevP w d (sevV n L l) 0 (sevR n L l) e w' := by
  obtain ⟨i0, hi, hz0, hz1, hz2⟩ := info_parts infoInt
  have MA : Hid (∀ k (hk : k < L.length) (W : World), _) := fun k hk W => rmay_any L[k] n true (fine_of hq k hk) W
  have M0 : Hid _ := rmay_any 0 n true (by rw [okM_zero, Bool.true_and, okM_iff]; exact ((okA_iff n L).1 hq).1) w
  have OB : Hid _ := one_by_one n L l hE
  obtain ⟨V, hV⟩ : ∃ V, sevV n L l = V := ⟨_, rfl⟩
  obtain ⟨r, hr⟩ : ∃ r, sevR n L l = r := ⟨_, rfl⟩
  rw [hV, hr] at OB
  rw [hV, hr]
  have hn2 : len ≤ 64 := by rw [← hn]; exact OB.out.1
  have hl : 4 * len ≤ l.length := by rw [← hn]; exact OB.out.2.2.1
  have HN : Hid (L.length = len ∧ V.length = len) := ⟨hn, by rw [OB.out.2.1, hn]⟩
  have HP : Hid (d < w.heap.size) := R.out.lt
  have c0 := R.out.1
  obtain ⟨S, hS⟩ : ∃ S : ByteArray, ⟨l.toArray⟩ = S := ⟨_, rfl⟩
  have hz : S.size = l.length := by rw [← hS]; exact ba_size l
  rw [hS] at c0
  have z2 : IntKind.i64.wrap (4 * (len : Int)) = 4 * (len : Int) := by rw [IntKind.wrap_i64]; omega
  have q3 : ¬ (S.size : Int) < 4 * (len : Int) := by omega
  clear hn hq hl hS hz hV hr hE
  go_enter Try.func17, Try.ntmps17
  go_wp2
  go_loopw [8] (fun i wr => ∃ k : Nat, k ≤ len ∧ i = .int .i64 (k : Int) ∧ w = wr) (fun i _ => len - (intOf i).toNat)
  case atStart => exact ⟨0, by omega, rfl, rfl⟩
  case round =>
    obtain ⟨k, hk, rfl, hw⟩ := hrel
    subst hw
    by_cases hlt : k < len
    · have g1 : (k : Int) < (len : Int) := by omega
      have hk1 : k < L.length := by rw [HN.out.1]; exact hlt
      obtain ⟨b, o, rfl, e1⟩ := h.out k hk1
      have MB : Hid _ := MA.out k hk1 w
      obtain ⟨x, hx⟩ : ∃ x, L[k] = x := ⟨_, rfl⟩
      rw [hx] at e1 MB
      clear hx hk1
      go_wp2_with fail
      refine Calls.mono MB.out ?_
      rintro e w1 ⟨rfl, rfl⟩
      clear MB
      go_wp2
      go_roundw
      case rel => exact ⟨k + 1, by omega, by go_num, trivial⟩
      case measure => simp [intOf]; omega
    · obtain rfl : k = len := by omega
      have g2 : ¬ (64 : Int) < (k : Int) := by omega
      go_wp2_with fail
      refine Calls.mono M0.out ?_
      rintro e w1 ⟨rfl, rfl⟩
      clear M0 MA
      go_wp2
      clear c0 q3
      go_loopw [9, 10, 11, 12] (fun sl i _ _ wr => ∃ j : Nat, j ≤ k ∧ i = .int .i64 (j : Int) ∧ Hid (DAt wr d (l.drop (4 * j)) ∧ But d d w1 wr ∧ wr.ownsRow w1.heap.size 3 1 sl j (icells (V.take j)))) (fun _ i _ _ _ => k - (intOf i).toNat)
      case atStart => exact ⟨0, by omega, rfl, R.out, But.refl _ _ _, World.ownsRow_nil _ _ _ _⟩
      case round =>
        obtain ⟨j, hj, rfl, I⟩ := hrel
        by_cases hjt : j < k
        · have g3 : (j : Int) < (k : Int) := by omega
          have hj1 : j < L.length := by rw [HN.out.1]; exact hjt
          have hj2 : j < V.length := by rw [HN.out.2]; exact hjt
          obtain ⟨b, o, rfl, e1⟩ := (h.out.but I.out.2.1 (fun x hx => ⟨hne.out x hx (by omega), hne.out x hx (by omega)⟩)) j hj1
          obtain ⟨y1, y2, y3⟩ := OB.out.2.2.2.2 j hj1 hj2
          have DR := rdraw_any d (l.drop (4 * j)) L[j] n wr I.out.1
          unfold RDrP at DR
          rw [y1, y2, y3] at DR
          have HD : Hid _ := DR
          have TK : Hid (V.take (j + 1) = V.take j ++ [V[j]]) := List.take_succ_eq_append_getElem hj2
          obtain ⟨x, hx⟩ : ∃ x, L[j] = x := ⟨_, rfl⟩
          obtain ⟨v, hv⟩ : ∃ v, V[j] = v := ⟨_, rfl⟩
          rw [hx] at e1 HD
          rw [hv] at HD TK
          clear DR y1 y2 y3 hx hv hj1 hj2
          go_wp2_with fail
          refine Calls.mono HD.out ?_
          rintro e w5 ⟨rfl, t5, b5⟩
          have I5 : Hid (DAt w5 d (l.drop (4 * (j + 1))) ∧ But d d w1 w5 ∧ w5.ownsRow w1.heap.size 3 1 u9 j (icells (V.take j))) := by
            obtain ⟨x1, x2, x3⟩ := I.out
            exact ⟨t5, x2.trans b5, own_but x3 b5 HP.out HP.out⟩
          clear HD t5 b5 I e1
          go_wp2_with (first
            | (at_builtin; refine wpList_append_own _ rfl _ _ 22 rfl w1.heap.size 3 i0 (.int .i64 0) 1 8 Try.underlying22 hi hz0 hz1 hz2 rfl (by decide) _ _ _ rfl (I5.out.2.2.alloc _) ⟨w5.heap.size, 0, none⟩ 1 1 [.int .i64 v] rfl rfl (cells_new _ _ _) (by intro u hu; simp at hu; subst hu; rfl) (by unfold maxLen; omega) (by omega) (by have := I5.out.2.1.size; simp; omega) ?_; intro v1 w6 hown1 hgrow1 hnil1))
          have I6 : Hid (DAt w6 d (l.drop (4 * (j + 1))) ∧ But d d w1 w6 ∧ w6.ownsRow w1.heap.size 3 1 v1 (j + 1) (icells (V.take (j + 1)))) := by
            obtain ⟨i1, i2, i3⟩ := I5.out
            have hp := HP.out
            refine ⟨(i1.later ((Below.refl _ _).alloc (Nat.le_refl _) _)).same (hgrow1.block d (by have := i1.lt; simp; omega) (fun e => by have := (i3.lt d e.symm).1; omega)), (i2.alloc _).grown hgrow1 (fun x hx => (i3.lt x hx).1), ?_⟩
            rw [TK.out, icells_app]
            exact hown1
          clear I5 hown1 hgrow1 hnil1
          go_roundw
          case rel => exact ⟨j + 1, by omega, by go_num, I6.out⟩
          case measure => simp [intOf]; omega
        · obtain rfl : j = k := by omega
          have FI : Hid (V.length = j ∧ DAt wr d r ∧ But d d w1 wr ∧ wr.ownsRow w1.heap.size 3 1 u9 j (icells V)) := by
            obtain ⟨i1, i2, i3⟩ := I.out
            rw [List.take_of_length_le (by rw [HN.out.2]; exact Nat.le_refl _)] at i3
            have e := OB.out.2.2.2.1
            rw [HN.out.1] at e
            rw [e]
            exact ⟨HN.out.2, i1, i2, i3⟩
          clear I
          go_wp2
          go_ret2
          obtain ⟨x1, x2, x3, x4⟩ := FI.out
          rcases (owns_ints x4).2 with ⟨e1, e2⟩ | ⟨g, c, e1, e2, e3⟩
          · refine ⟨none, 0, ?_, ?_, New.none _, x2, x3⟩
            · rw [x1, e2, e1]
              rfl
            · intro i hi
              omega
          · refine ⟨some ⟨g, 0, none⟩, c, ?_, e2.at, New.some e3, x2, x3⟩
            rw [x1, e1]
            rfl
theorem rseveral_any (d : Nat) (l : List UInt8) (n : Int) (L : List Int) (a : Option Addr) (len cap : Nat) (hn : L.length = len) (hn2 : len ≤ 17592186044416) (w : World) (R : Hid (DAt w d l)) (h : Hid (IntAt w a L)) (hne : Hid (∀ x, a = some x → 0 < len → x.block ≠ d)) :
    Calls Try.prog 17 #[.pointer (some ⟨d, 0, none⟩), .int .i64 n, .slice a len cap] w fun e w' => RSevP w d (sevV n L l) (sevE n L l) (sevR n L l) e w' := by
  by_cases hq : L.length ≤ 64 ∧ okA n L = true
  · by_cases hl : l.length < 4 * L.length
    · rw [(sev_few hq hl).1, (sev_few hq hl).2.1, (sev_few hq hl).2.2]
      refine Calls.mono (rseveral_few d l n L a len cap hn (by omega) hq.2 (by omega) w R h) ?_
      rintro e w1 ⟨rfl, rfl⟩
      exact RSevP.no R.out (But.refl _ _ _)
    · have hE := (sev_ok hq hl).2.1
      rw [hE]
      exact rseveral_yes d l n L a len cap hn hE hq.2 w R h hne
  · rw [(sev_no hq).1, (sev_no hq).2.1, (sev_no hq).2.2]
    refine Calls.mono (rseveral_no _ n L a len cap hn hn2 hq w h) ?_
    rintro e w1 ⟨rfl, rfl⟩
    exact RSevP.no R.out (But.refl _ _ _)
end Go.Proofs.Ytecdjfafeeimfaa
