/- DelayDraws. -/
import Derived.Test.YtecdjfafeeimfaaDeY
import Derived.Test.YtecdjfafeeimfaaDeB
import Derived.Test.YtecdjfafeeimfaaDeW
namespace Go.Proofs.Ytecdjfafeeimfaa
open Go.RowKit Go.Proofs.Fd Go.Proofs.Ta Go.Proofs.De
set_option maxRecDepth 20000

theorem DAt.box (w : World) (t : ByteArray) (ty : TypeId) (ht : t.size ≤ 140737488351232) : DAt (w.alloc (.cells #[.string t] ty)) w.heap.size t.data.toList := by
  have h := DAt.new w t.data.toList ty (by simpa using ht)
  rw [ba_list] at h
  exact h
theorem keep1 {W wc w1 : World} {a : Addr} {x : Value} (hb : Below wc.heap.size wc w1) (h : wc.cell? a = some x ∧ Below W.heap.size W wc) : w1.cell? a = some x ∧ Below W.heap.size W w1 := ⟨cell_later hb h.1, chain h.2 hb⟩
theorem keep1B {W wc : World} {a : Addr} {x : Value} (h : wc.cell? a = some x ∧ Below W.heap.size W wc) : Below W.heap.size W wc := h.2
/-- Both tapes, and that they are new. -/
def Both (w wr : World) (p d : Nat) (m : List UInt8) : Prop := TAt wr p m ∧ DAt wr d m ∧ p ≠ d ∧ (w.heap.size ≤ p ∧ w.heap.size ≤ d) ∧ Below w.heap.size w wr
theorem Both.later {w wr w2 : World} {p d : Nat} {m : List UInt8} (h : Both w wr p d m) (hb : Below wr.heap.size wr w2) : Both w w2 p d m := ⟨h.1.later hb, h.2.1.later hb, h.2.2.1, h.2.2.2.1, chain h.2.2.2.2 hb⟩
set_option maxHeartbeats 4000000 in
theorem DelayDraws_walk (t : ByteArray) (ht : t.size ≤ 140737488351232) (n : Int) (a : Option Addr) (L : List Int) (len cap : Nat) (hn : L.length = len) (ha : a = none → len = 0 ∧ cap = 0) (hx : len * 8 ≤ 140737488351232) (w : World) (h : Hid (IntAt w a L)) :
    Calls Try.prog 4 #[.string t, .int .i64 n, .slice a len cap] w fun e w' => e = .returned (.bool true) ∧ Below w.heap.size w w' := by
  have NW : Hid _ := new_any t ht w
  have DB : Hid (∀ (W : World) (ty : TypeId), DAt (W.alloc (.cells #[.string t] ty)) W.heap.size t.data.toList) := fun W ty => DAt.box W t ty ht
  have HN : Hid (L.length = len ∧ len ≤ 17592186044416) := ⟨hn, by omega⟩
  have LE : Hid (∀ W : World, IntAt W a L → Calls Try.prog 15 #[.slice a len cap] W fun e w' => LentP W L len e w') := fun W hi => lend_any a L len cap hn ha hx W hi
  obtain ⟨l, hl⟩ : ∃ l, t.data.toList = l := ⟨_, rfl⟩
  rw [hl] at NW DB
  have BL : Hid (∀ x, a = some x → 0 < len → x.block < w.heap.size) := fun x hx h0 => by
    obtain ⟨b, o, e, hc⟩ := h.out 0 (by omega)
    have e2 : x = ⟨b, o, none⟩ := Option.some.inj (hx.symm.trans e)
    rw [e2]
    exact World.block_lt_of_cell? _ _ hc
  clear ht hl hn ha
  go_enter Try.func4, Try.ntmps4
  go_wp2_with fail
  refine Calls.mono NW.out ?_
  rintro e w1 ⟨p, rfl, t1, hp, b1⟩
  have I1 : Hid (TAt w1 p l ∧ w.heap.size ≤ p ∧ Below w.heap.size w w1) := ⟨t1, hp, b1⟩
  clear t1 hp b1 NW
  obtain ⟨d, hd⟩ : ∃ d, w1.heap.size = d := ⟨_, rfl⟩
  obtain ⟨W2, hW2⟩ : ∃ W2, w1.alloc (.cells #[.string t] 35) = W2 := ⟨_, rfl⟩
  have I2 : Hid (TAt W2 p l ∧ DAt W2 d l ∧ p ≠ d ∧ (w.heap.size ≤ p ∧ w.heap.size ≤ d) ∧ Below w.heap.size w W2) := by
    obtain ⟨x1, x2, x3⟩ := I1.out
    have b2 : Below w1.heap.size w1 W2 := by rw [← hW2]; exact (Below.refl _ _).alloc (Nat.le_refl _) _
    have x4 := x3.size
    have x5 := x1.lt
    exact ⟨x1.later b2, by rw [← hW2, ← hd]; exact DB.out w1 _, by omega, ⟨x2, by omega⟩, chain x3 b2⟩
  clear DB I1
  go_wp2_with fail
  refine Calls.mono (LE.out _ (h.out.later I2.out.2.2.2.2)) ?_
  rintro e w3 ⟨g, c, rfl, r3, c3, g3, b3⟩
  have I3 : Hid (Both w w3 p d l ∧ Row w3 g (L ++ [-77]) ∧ len + 1 ≤ c ∧ p < g ∧ d < g) := by
    obtain ⟨x1, x2, x3, x4, x5⟩ := I2.out
    have y1 := x1.lt
    have y2 := x2.lt
    exact ⟨⟨x1.later b3, x2.later b3, x3, x4, chain x5 b3⟩, r3, c3, by omega, by omega⟩
  clear LE r3 c3 g3 b3 I2 hd hW2
  have SV := several_any p l n L (some ⟨g, 0, none⟩) len c HN.out.1 w3 I3.out.1.1 I3.out.2.1.front (fun x hx _ => by cases hx; have := I3.out.2.2.2.1; show g ≠ p; omega)
  have RS : Hid (∀ W : World, DAt W d l → IntAt W a L → Calls Try.prog 17 #[.pointer (some ⟨d, 0, none⟩), .int .i64 n, .slice a len cap] W fun e w' => RSevP W d (sevV n L l) (sevE n L l) (sevR n L l) e w') := fun W h1 h2 => rseveral_any d l n L a len cap HN.out.1 HN.out.2 W h1 h2 (fun x hx h0 => by have := BL.out x hx h0; have := I3.out.1.2.2.2.1; omega)
  have hV : (sevV n L l).length ≤ 64 := by
    by_cases hE : sevE n L l = 0
    · obtain ⟨y1, y2, -⟩ := one_by_one n L l hE
      rw [y2]; exact y1
    · rw [(sev_other n L l hE).1]; exact Nat.zero_le _
  obtain ⟨V, eV⟩ : ∃ V, sevV n L l = V := ⟨_, rfl⟩
  obtain ⟨E, eE⟩ : ∃ E, sevE n L l = E := ⟨_, rfl⟩
  obtain ⟨r, er⟩ : ∃ r, sevR n L l = r := ⟨_, rfl⟩
  rw [eV, eE, er] at SV
  rw [eV, eE, er] at RS
  rw [eV] at hV
  have HS : Hid _ := SV
  have HV : Hid (V.length ≤ 64) := hV
  clear SV hV eV eE er
  go_wp2_with fail
  refine Calls.mono HS.out ?_
  rintro e w4 ⟨a4, c4, rfl, i4, n4, t4, b4⟩
  have I4 : Hid (TAt w4 p r ∧ DAt w4 d l ∧ p ≠ d ∧ (w.heap.size ≤ p ∧ w.heap.size ≤ d) ∧ Below w.heap.size w w4 ∧ Row w4 g (L ++ [-77]) ∧ len + 1 ≤ c ∧ (p < g ∧ d < g) ∧ IntAt w4 a4 V ∧ New w3.heap.size a4 ∧ d < w3.heap.size) := by
    obtain ⟨⟨x1, x2, x3, x4, x5⟩, y1, y2, y3, y4⟩ := I3.out
    exact ⟨t4, x2.but b4 (Ne.symm x3) (Ne.symm x3), x3, x4, x5.trans (b4.below x4.1 x4.1 x5.size), y1.apart b4 (by omega) (by omega), y2, ⟨y3, y4⟩, i4, n4, x2.lt⟩
  clear HS i4 n4 t4 b4 I3
  go_wp2_with fail
  refine Calls.mono (RS.out _ I4.out.2.1 (h.out.later I4.out.2.2.2.2.1)) ?_
  rintro e w5 ⟨a5, c5, rfl, i5, n5, t5, b5⟩
  have I5 : Hid (Both w w5 p d r ∧ Row w5 g (L ++ [-77]) ∧ len + 1 ≤ c ∧ IntAt w5 a4 V ∧ IntAt w5 a5 V ∧ IntAt w5 a L) := by
    obtain ⟨x1, x2, x3, x4, x5, y1, y2, y3, y4, y5, y6⟩ := I4.out
    have z5 : Below w.heap.size w w5 := x5.trans (b5.below x4.2 x4.2 x5.size)
    exact ⟨⟨x1.apart b5 x3 x3, t5, x3, x4, z5⟩, y1.apart b5 (by omega) (by omega), y2, y4.apart b5 y5 y6 y6, i5, h.out.later z5⟩
  clear RS i5 n5 t5 b5 I4
  obtain ⟨Z, hZ⟩ : ∃ Z : ByteArray, ⟨r.toArray⟩ = Z := ⟨_, rfl⟩
  have c0 : w5.cell? ⟨d, 0, none⟩ = some (.string Z) := by rw [← hZ]; exact I5.out.1.2.1.1
  have SM : Hid (∀ W : World, Below w5.heap.size w5 W → Calls Try.prog 12 #[.slice a4 V.length c4, .slice a5 V.length c5] W fun e w' => e = .returned (.bool true) ∧ Below W.heap.size W w') := fun W hb => same_many a4 a5 V V.length c4 c5 rfl (by have := HV.out; omega) W (I5.out.2.2.2.1.later hb) (I5.out.2.2.2.2.1.later hb)
  have LF : Hid (∀ W : World, Below w5.heap.size w5 W → Calls Try.prog 18 #[.pointer (some ⟨p, 0, none⟩)] W fun e w' => e = .returned (.int .i64 (Z.size : Int)) ∧ Below W.heap.size W w') := fun W hb => by
    rw [← hZ, ba_size]
    exact left_any p r W (I5.out.1.1.later hb)
  have KP : Hid (∀ W : World, Below w5.heap.size w5 W → Calls Try.prog 19 #[.slice (some ⟨g, 0, none⟩) len c, .slice a len cap] W fun e w' => e = .returned (.bool true) ∧ Below W.heap.size W w') := fun W hb => kept_any g a L len c cap HN.out.1 HN.out.2 I5.out.2.2.1 W (I5.out.2.1.later hb) (I5.out.2.2.2.2.2.later hb)
  have I6 : Hid (Both w w5 p d r) := I5.out.1
  clear I5 hZ
  go_wp2
  go_region_held3 (fun w' => w'.cell? ⟨d, 0, none⟩ = some (.string Z) ∧ Below w5.heap.size w5 w') (first | exact ⟨c0, (Below.refl _ _).drew⟩ | exact keep1 (by assumption) (by assumption)) (first | (go_at_call 12; refine Calls.mono (SM.out _ (keep1B (by assumption))) ?_; rintro e w7 ⟨rfl, hb7⟩) | (go_at_call 18; refine Calls.mono (LF.out _ (keep1B (by assumption))) ?_; rintro e w8 ⟨rfl, hb8⟩) | (go_at_call 19; refine Calls.mono (KP.out _ (keep1B (by assumption))) ?_; rintro e w9 ⟨rfl, hb9⟩))
  have I7 : Hid (Both w w9 p d r) := ((I6.out.later (Below.refl _ _).drew).later hb7).later hb8 |>.later hb9
  clear hb7 hb8 hb9 c0 SM LF KP I6
  go_wp2
  go_loopw [14, 15, 16, 17, 18] (fun i _ _ _ _ wr => ∃ (k : Nat) (m : List UInt8), k ≤ len ∧ k ≤ 10 ∧ i = .int .i64 (k : Int) ∧ Hid (Both w wr p d m)) (fun i _ _ _ _ _ => 10 - (intOf i).toNat)
  case atStart => exact ⟨0, r, by omega, by omega, rfl, I7.out⟩
  case round =>
    obtain ⟨k, m, hk, hk10, rfl, I⟩ := hrel
    clear I7
    by_cases hlt : k < len
    · by_cases h10 : k < 10
      · have g1 : (k : Int) < (len : Int) := by omega
        have g2 : (k : Int) < 10 := by omega
        obtain ⟨b, o, rfl, e1⟩ := h.out k (by rw [HN.out.1]; exact hlt)
        obtain ⟨x, hxx⟩ : ∃ x, L[k]'(by rw [HN.out.1]; exact hlt) = x := ⟨_, rfl⟩
        rw [hxx] at e1
        have E1 : Hid (w.cell? ⟨b, o + k, none⟩ = some (.int .i64 x)) := e1
        have e2 := cell_later I.out.2.2.2.2 e1
        have DR := draw_any p m x n wr I.out.1
        have RD : Hid (∀ W : World, DAt W d m → Calls Try.prog 21 #[.pointer (some ⟨d, 0, none⟩), .int .i64 x, .int .i64 n] W fun e w' => RDrP W d x n m e w') := fun W hd => rdraw_any d m x n W hd
        unfold DrP at DR
        unfold RDrP at RD
        obtain ⟨v, ev⟩ : ∃ v, drV x n m = v := ⟨_, rfl⟩
        obtain ⟨y, ey⟩ : ∃ y, drE x n m = y := ⟨_, rfl⟩
        obtain ⟨q, eq⟩ : ∃ q, drR x n m = q := ⟨_, rfl⟩
        rw [ev, ey, eq] at DR
        rw [ev, ey, eq] at RD
        have HD : Hid _ := DR
        clear DR ev ey eq hxx e1
        go_wp2_with fail
        refine Calls.mono HD.out ?_
        rintro e w10 ⟨rfl, t10, b10⟩
        have I8 : Hid (TAt w10 p q ∧ DAt w10 d m ∧ p ≠ d ∧ (w.heap.size ≤ p ∧ w.heap.size ≤ d) ∧ Below w.heap.size w w10) := by
          obtain ⟨x1, x2, x3, x4, x5⟩ := I.out
          exact ⟨t10, x2.but b10 (Ne.symm x3) (Ne.symm x3), x3, x4, x5.trans (b10.below x4.1 x4.1 x5.size)⟩
        have e3 := cell_later I8.out.2.2.2.2 E1.out
        clear HD t10 b10 I e2
        go_wp2_with fail
        refine Calls.mono (RD.out _ I8.out.2.1) ?_
        rintro e w11 ⟨rfl, t11, b11⟩
        have I9 : Hid (Both w w11 p d q) := by
          obtain ⟨x1, x2, x3, x4, x5⟩ := I8.out
          exact ⟨x1.apart b11 x3 x3, t11, x3, x4, x5.trans (b11.below x4.2 x4.2 x5.size)⟩
        clear RD t11 b11 I8 e3
        obtain ⟨Y, hY⟩ : ∃ Y : ByteArray, ⟨q.toArray⟩ = Y := ⟨_, rfl⟩
        have c1 : w11.cell? ⟨d, 0, none⟩ = some (.string Y) := by rw [← hY]; exact I9.out.2.1.1
        have LF : Hid (∀ W : World, Below w11.heap.size w11 W → Calls Try.prog 18 #[.pointer (some ⟨p, 0, none⟩)] W fun e w' => e = .returned (.int .i64 (Y.size : Int)) ∧ Below W.heap.size W w') := fun W hb => by
          rw [← hY, ba_size]
          exact left_any p q W (I9.out.1.later hb)
        clear hY
        go_wp2
        go_region_held3 (fun w' => w'.cell? ⟨d, 0, none⟩ = some (.string Y) ∧ Below w11.heap.size w11 w') (first | exact ⟨c1, (Below.refl _ _).drew⟩ | exact keep1 (by assumption) (by assumption)) (first | (go_at_call 18; refine Calls.mono (LF.out _ (keep1B (by assumption))) ?_; rintro e w12 ⟨rfl, hb12⟩))
        have J9 : Hid (Both w w12 p d q) := (I9.out.later (Below.refl _ _).drew).later hb12
        clear hb12 c1 LF I9
        go_wp2
        go_roundw
        case rel => exact ⟨k + 1, q, by omega, by omega, by go_num, J9.out⟩
        case measure => simp [intOf]; omega
      · have g1 : (k : Int) < (len : Int) := by omega
        have g2 : ¬ (k : Int) < 10 := by omega
        go_wp2_with fail
        refine Calls.mono (draw_nil _) ?_
        rintro e w10 ⟨rfl, b10⟩
        have I8 : Hid (Below w.heap.size w w10) := chain I.out.2.2.2.2 b10
        clear b10 I
        go_wp2_with fail
        refine Calls.mono (several_nil 1 [1] (some ⟨w10.heap.size, 0, none⟩) 1 1 rfl (by decide) (by decide) (w10.alloc (.cells #[.int .i64 1] 3)) (one_at w10 1 3)) ?_
        rintro e w11 ⟨rfl, rfl⟩
        go_wp2_with fail
        refine Calls.mono (works_any _) ?_
        rintro e w12 ⟨rfl, b12⟩
        have I9 : Hid (Below w.heap.size w w12) := chain (I8.out.alloc I8.out.size _) b12
        clear b12 I8
        go_wp2
        go_ret
        exact ⟨rfl, I9.out⟩
    · have g1 : ¬ (k : Int) < (len : Int) := by omega
      go_wp2_with fail
      refine Calls.mono (draw_nil _) ?_
      rintro e w10 ⟨rfl, b10⟩
      have I8 : Hid (Below w.heap.size w w10) := chain I.out.2.2.2.2 b10
      clear b10 I
      go_wp2_with fail
      refine Calls.mono (several_nil 1 [1] (some ⟨w10.heap.size, 0, none⟩) 1 1 rfl (by decide) (by decide) (w10.alloc (.cells #[.int .i64 1] 3)) (one_at w10 1 3)) ?_
      rintro e w11 ⟨rfl, rfl⟩
      go_wp2_with fail
      refine Calls.mono (works_any _) ?_
      rintro e w12 ⟨rfl, b12⟩
      have I9 : Hid (Below w.heap.size w w12) := chain (I8.out.alloc I8.out.size _) b12
      clear b12 I8
      go_wp2
      go_ret
      exact ⟨rfl, I9.out⟩
end Go.Proofs.Ytecdjfafeeimfaa
