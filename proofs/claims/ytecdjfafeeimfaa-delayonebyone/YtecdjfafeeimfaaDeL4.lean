/- DelayOneByOne. -/
import Derived.Test.YtecdjfafeeimfaaDeX
import Derived.Test.YtecdjfafeeimfaaDeW
namespace Go.Proofs.Ytecdjfafeeimfaa
open Go.RowKit Go.Proofs.Fd Go.Proofs.Ta Go.Proofs.De
set_option maxRecDepth 20000

theorem TAt.but {w w' : World} {p q g : Nat} {l : List UInt8} (h : TAt w p l) (hb : But q g w w') (h1 : p ≠ q) (h2 : p ≠ g) : TAt w' p l := h.apart hb h1 h2
set_option maxHeartbeats 2000000 in
theorem DelayOneByOne_walk (t : ByteArray) (ht : t.size ≤ 140737488351232) (n : Int) (a : Option Addr) (L : List Int) (len cap : Nat) (hn : L.length = len) (w : World) (h : Hid (IntAt w a L)) :
    Calls Try.prog 7 #[.string t, .int .i64 n, .slice a len cap] w fun e w' => e = .returned (.bool true) ∧ Below w.heap.size w w' := by
  have NW : Hid (∀ W : World, _) := fun W => new_any t ht W
  have HN : Hid (L.length = len) := hn
  obtain ⟨l, hl⟩ : ∃ l, t.data.toList = l := ⟨_, rfl⟩
  have hz : l.length = t.size := by rw [← hl]; simp
  have HZ : Hid (l.length = t.size) := hz
  rw [hl] at NW
  clear ht hl hz
  have BL : Hid (∀ x, a = some x → 0 < len → x.block < w.heap.size) := fun x hx h0 => by
    obtain ⟨b, o, e, hc⟩ := h.out 0 (by omega)
    have e2 : x = ⟨b, o, none⟩ := Option.some.inj (hx.symm.trans e)
    rw [e2]
    exact World.block_lt_of_cell? _ _ hc
  clear hn
  go_enter Try.func7, Try.ntmps7
  go_wp2_with fail
  refine Calls.mono (NW.out _) ?_
  rintro e w1 ⟨p, rfl, t1, hp, b1⟩
  have I1 : Hid (TAt w1 p l ∧ w.heap.size ≤ p ∧ Below w.heap.size w w1) := ⟨t1, hp, b1⟩
  clear t1 hp b1
  go_wp2_with fail
  refine Calls.mono (NW.out _) ?_
  rintro e w2 ⟨q, rfl, t2, hq, b2⟩
  have I2 : Hid (TAt w2 p l ∧ TAt w2 q l ∧ w.heap.size ≤ p ∧ p < q ∧ Below w.heap.size w w2) := ⟨I1.out.1.later b2, t2, I1.out.2.1, Nat.lt_of_lt_of_le I1.out.1.lt hq, chain I1.out.2.2 b2⟩
  clear t2 hq b2 NW I1
  go_wp2_with fail
  refine Calls.mono (works_any _) ?_
  rintro e w3 ⟨rfl, b3⟩
  have I3 : Hid (TAt w3 p l ∧ TAt w3 q l ∧ w.heap.size ≤ p ∧ p < q ∧ Below w.heap.size w w3) := ⟨I2.out.1.later b3, I2.out.2.1.later b3, I2.out.2.2.1, I2.out.2.2.2.1, chain I2.out.2.2.2.2 b3⟩
  clear b3 I2
  have HA : Hid (∀ x, a = some x → 0 < len → x.block ≠ p ∧ x.block ≠ q) := fun x hx h0 => by
    have := BL.out x hx h0
    have := I3.out
    omega
  have SV := several_any p l n L a len cap HN.out w3 I3.out.1 (h.out.later I3.out.2.2.2.2) (fun x hx h0 => (HA.out x hx h0).1)
  have OB : Hid (sevE n L l = 0 → _) := fun x => one_by_one n L l x
  have SO : Hid (¬ sevE n L l = 0 → _) := fun x => sev_other n L l x
  obtain ⟨V, hV⟩ : ∃ V, sevV n L l = V := ⟨_, rfl⟩
  obtain ⟨E, hE⟩ : ∃ E, sevE n L l = E := ⟨_, rfl⟩
  obtain ⟨r, hr⟩ : ∃ r, sevR n L l = r := ⟨_, rfl⟩
  rw [hV, hE, hr] at SV
  rw [hV, hE, hr] at OB
  rw [hV, hE, hr] at SO
  have HS : Hid _ := SV
  have H3 : Hid (IntAt w3 a L) := h.out.later I3.out.2.2.2.2
  clear SV hV hE hr h
  by_cases hE : E = 0
  · have HO : Hid _ := OB.out hE
    subst hE
    clear OB SO
    go_wp2_with fail
    refine Calls.mono HS.out ?_
    rintro e w4 ⟨a2, c2, rfl, i4, n4, t4, b4⟩
    have I4 : Hid (IntAt w4 a2 V ∧ IntAt w4 a L ∧ New w3.heap.size a2 ∧ TAt w4 p r ∧ TAt w4 q (l.drop (4 * 0)) ∧ w.heap.size ≤ p ∧ p < q ∧ q < w3.heap.size ∧ Below w.heap.size w w4) := by
      obtain ⟨x1, x2, x3, x4, x5⟩ := I3.out
      refine ⟨i4, ?_, n4, t4, x2.but b4 (by omega) (by omega), x3, x4, x2.lt, x5.trans (b4.below x3 x3 x5.size)⟩
      intro i hi
      exact (H3.out.but b4 (fun x hx => ⟨(HA.out x hx (by have := HN.out; omega)).1, (HA.out x hx (by have := HN.out; omega)).1⟩)) i hi
    clear HS i4 n4 t4 b4 I3 H3
    rw [HO.out.2.1, HN.out]
    have hlen : len ≤ 64 := by rw [← HN.out]; exact HO.out.1
    go_wp2
    go_loopw [11, 12, 13, 14, 50] (fun _ _ _ _ i wr => ∃ k : Nat, k ≤ len ∧ i = .int .i64 (k : Int) ∧ Hid (IntAt wr a2 V ∧ IntAt wr a L ∧ New w3.heap.size a2 ∧ TAt wr p r ∧ TAt wr q (l.drop (4 * k)) ∧ w.heap.size ≤ p ∧ p < q ∧ q < w3.heap.size ∧ Below w.heap.size w wr)) (fun _ _ _ _ i _ => len - (intOf i).toNat)
    case atStart => exact ⟨0, by omega, rfl, I4.out⟩
    case round =>
      obtain ⟨k, hk, rfl, I⟩ := hrel
      clear I4
      by_cases hlt : k < len
      · have g1 : (k : Int) < (len : Int) := by omega
        have hk1 : k < L.length := by rw [HN.out]; exact hlt
        have hk2 : k < V.length := by rw [HO.out.2.1]; exact hk1
        obtain ⟨b, o, rfl, e1⟩ := I.out.2.1 k hk1
        obtain ⟨y1, y2, y3⟩ := HO.out.2.2.2.2 k hk1 hk2
        have DR := draw_any q (l.drop (4 * k)) L[k] n wr I.out.2.2.2.2.1
        unfold DrP at DR
        rw [y1, y2, y3] at DR
        have HD : Hid _ := DR
        obtain ⟨x, hx⟩ : ∃ x, L[k] = x := ⟨_, rfl⟩
        obtain ⟨v, hv⟩ : ∃ v, V[k] = v := ⟨_, rfl⟩
        rw [hx] at e1 HD
        rw [hv] at HD
        have HV : Hid (V[k] = v) := hv
        clear DR y1 y2 y3 hx hv hk1
        go_wp2_with fail
        refine Calls.mono HD.out ?_
        rintro e w5 ⟨rfl, t5, b5⟩
        have I5 : Hid (IntAt w5 a2 V ∧ IntAt w5 (some ⟨b, o, none⟩) L ∧ New w3.heap.size a2 ∧ TAt w5 p r ∧ TAt w5 q (l.drop (4 * (k + 1))) ∧ w.heap.size ≤ p ∧ p < q ∧ q < w3.heap.size ∧ Below w.heap.size w w5) := by
          obtain ⟨x1, x2, x3, x4, x5, x6, x7, x8, x9⟩ := I.out
          exact ⟨x1.apart b5 x3 x8 x8, x2.but b5 (fun x hx => ⟨(HA.out x hx (by omega)).2, (HA.out x hx (by omega)).2⟩), x3, x4.but b5 (by omega) (by omega), t5, x6, x7, x8, x9.trans (b5.below (by omega) (by omega) x9.size)⟩
        obtain ⟨b2, o2, rfl, e2⟩ := I5.out.1 k hk2
        rw [HV.out] at e2
        clear HD t5 b5 I e1 HV hk2
        go_wp2
        go_roundw
        case rel => exact ⟨k + 1, by omega, by go_num, I5.out⟩
        case measure => simp [intOf]; omega
      · obtain rfl : k = len := by omega
        have LP : Hid _ := left_any p r wr I.out.2.2.2.1
        have LQ : Hid (∀ W : World, Below wr.heap.size wr W → _) := fun W hb => left_any q (l.drop (4 * k)) W (I.out.2.2.2.2.1.later hb)
        have rl : r.length = (l.drop (4 * k)).length := by rw [HO.out.2.2.2.1, HN.out]
        have RL : Hid (r.length = (l.drop (4 * k)).length) := rl
        clear rl
        go_wp2_with fail
        refine Calls.mono LP.out ?_
        rintro e w5 ⟨rfl, b5⟩
        have B5 : Hid (Below wr.heap.size wr w5) := b5
        clear b5 LP
        go_wp2_with fail
        refine Calls.mono (LQ.out _ B5.out) ?_
        rintro e w6 ⟨rfl, b6⟩
        have B6 : Hid (Below w.heap.size w w6) := chain (chain I.out.2.2.2.2.2.2.2.2 B5.out) b6
        rw [RL.out]
        clear LQ b6 B5 I
        go_wp2
        go_ret
        exact ⟨rfl, B6.out⟩
  · have HO : Hid _ := SO.out hE
    clear OB SO
    go_wp2_with fail
    refine Calls.mono HS.out ?_
    rintro e w4 ⟨a2, c2, rfl, -, -, t4, b4⟩
    rw [HO.out.1]
    rw [HO.out.2] at t4
    have LP : Hid _ := left_any p l w4 t4
    have I4 : Hid (Below w.heap.size w w4) := by
      obtain ⟨x1, x2, x3, x4, x5⟩ := I3.out
      exact x5.trans (b4.below x3 x3 x5.size)
    have LZ : Hid (l.length = t.size) := HZ.out
    clear HS t4 b4 I3 H3 HO
    rw [show ([] : List Int).length = 0 from rfl]
    go_wp2_with fail
    refine Calls.mono LP.out ?_
    rintro e w5 ⟨rfl, b5⟩
    have B5 : Hid (Below w.heap.size w w5) := chain I4.out b5
    rw [LZ.out]
    clear b5 LP I4
    go_wp2
    go_ret
    exact ⟨rfl, B5.out⟩
end Go.Proofs.Ytecdjfafeeimfaa
