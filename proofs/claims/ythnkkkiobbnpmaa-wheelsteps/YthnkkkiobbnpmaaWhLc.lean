/- WheelSteps. -/
import Derived.Test.YthnkkkiobbnpmaaWhW
namespace Go.Proofs.Ythnkkkiobbnpmaa
open Go.RowKit Go.Proofs.Fd Go.Proofs.Wh
set_option maxRecDepth 20000

theorem keep2 {wc w1 : World} {a b : Addr} {x y : Value} (e : w1 = wc) (h : wc.cell? a = some x ∧ wc.cell? b = some y) : w1.cell? a = some x ∧ w1.cell? b = some y := by rw [e]; exact h
theorem f30_le (L : List Int) (i : Nat) : f30 L i ≤ 1073741824 := (ud_le 1073741824 (by decide) _).2
theorem f30_form (L : List Int) (k : Nat) (hk : k < L.length) : wrap64 (1 + wrap64 ((IntKind.u64.wrap L[k]).tmod 1073741824)) = (f30 L k : Int) := by
  have := ud_form 1073741824 (by decide) (by decide) L[k]
  unfold f30
  rw [List.getD_eq_getElem?_getD, List.getElem?_eq_getElem hk]
  exact this
theorem Wl.now_cell {w wr : World} {p : Nat} {F : Nat → Prop} {s : St} (h : Wl w wr p F s) : wr.cell? ⟨p, 0, none⟩ = some (.int .i64 (s.now : Int)) := by
  obtain ⟨ho, sv, sl, bm, D, rfl, h1, h2, hr⟩ := h.at_
  exact hr.c0
/-- A step of the time. -/
def st28 (x : Int) : Nat := (x % 18446744073709551616).toNat % 268435456
theorem st_form (x : Int) (c : Nat) (hc : c ≤ 1073741824) : wrap64 ((c : Int) + wrap64 ((IntKind.u64.wrap x).tmod 268435456)) = ((c + st28 x : Nat) : Int) := by
  have e1 : IntKind.u64.wrap x = ((x % 18446744073709551616).toNat : Int) := by rw [IntKind.wrap_u64]; omega
  have e2 : (((x % 18446744073709551616).toNat : Int)).tmod 268435456 = (st28 x : Int) := (Int.ofNat_tmod _ 268435456).symm
  rw [e1, e2]
  have : st28 x < 268435456 := Nat.mod_lt _ (by decide)
  unfold wrap64
  omega
set_option maxHeartbeats 8000000 in
theorem WheelSteps_walk (a : Option Addr) (L : List Int) (len cap : Nat) (hn : L.length = len) (hx : len ≤ 140737488351232) (a2 : Option Addr) (M : List Int) (len2 cap2 : Nat) (hn2 : M.length = len2) (hx2 : len2 ≤ 140737488351232) (w : World) (h : Hid (IntAt w a L)) (h' : Hid (IntAt w a2 M)) :
    Calls Try.prog 4 #[.slice a len cap, .slice a2 len2 cap2] w fun e w' => e = .returned (.bool true) ∧ Below w.heap.size w w' := by
  have HN : Hid (L.length = len) := hn
  have HN2 : Hid (M.length = len2) := hn2
  clear hn hn2
  go_enter Try.func4, Try.ntmps4
  go_wp2_with fail
  refine Calls.mono (newL w w (Below.refl _ _)) ?_
  rintro e w1 ⟨p, F, rfl, h1, h2, h3⟩
  have I1 : Hid (Wl w w1 p F St.init) := h1
  clear h1 h2 h3
  go_wp2_with fail
  refine Calls.mono (newL w w1 I1.out.below) ?_
  rintro e w2 ⟨q, G, rfl, h1, h2, h3⟩
  have I2 : Hid (TwoW w w2 p q F G St.init St.init) := ⟨I1.out.later h3, h1, fun g hF hG => by
    have := h2 g hG
    have := I1.out.at_.lt hF
    omega⟩
  clear h1 h2 h3 I1
  have WK : Hid _ := works_any w2
  go_wp2_with fail
  refine Calls.mono WK.out ?_
  rintro e w3 ⟨rfl, hb3⟩
  have I0 : Hid (TwoW w w3 p q F G (pk (f30 L) 0) (pk (f30 L) 0)) := I2.out.later hb3
  clear I2 hb3 WK
  go_upto_block 0 with fail
  go_cut [7, 8, 9, 10, 11, 12, 13] (fun s7 s8 s9 s10 s11 s12 s13 wx => ∃ (k : Nat) (F G : Nat → Prop), k ≤ len ∧ k ≤ 100 ∧ s7 = .int .i64 (mx (f30 L) k : Int) ∧ Hid (TwoW w wx p q F G (pk (f30 L) k) (pk (f30 L) k) ∧ (k = len ∨ k = 100)))
  case first =>
    go_wp2_with fail
    go_loopw [7, 8] (fun m i wr => ∃ (k : Nat) (F G : Nat → Prop), k ≤ len ∧ k ≤ 100 ∧ i = .int .i64 (k : Int) ∧ m = .int .i64 (mx (f30 L) k : Int) ∧ Hid (TwoW w wr p q F G (pk (f30 L) k) (pk (f30 L) k))) (fun m i wr => 100 - (intOf i).toNat)
    case atStart => exact ⟨0, F, G, by omega, by omega, rfl, rfl, I0.out⟩
    case round =>
      obtain ⟨k, F, G, hk, hk100, rfl, rfl, I⟩ := hrel
      clear I0
      by_cases hlt : k < len
      · by_cases h100 : k < 100
        · have g1 : (k : Int) < (len : Int) := by omega
          have g2 : (k : Int) < 100 := by omega
          have hkl : k < L.length := by have := HN.out; omega
          obtain ⟨b, o, rfl, c0⟩ := (h.out.later I.out.fst.below) k hkl
          have z := f30_form L k hkl
          obtain ⟨x, hx⟩ : ∃ x, L[k] = x := ⟨_, rfl⟩
          rw [hx] at c0 z
          have zm : max ((mx (f30 L) k : Nat) : Int) ((f30 L k : Nat) : Int) = ((mx (f30 L) (k + 1) : Nat) : Int) := by show _ = ((max _ _ : Nat) : Int); omega
          have PK := pk_is (f30_ok L) k (by unfold maxI; omega)
          have PP : Hid (∀ (W : World) (p : Nat) (F : Nat → Prop), Wl w W p F (pk (f30 L) k) → Calls Try.prog 12 #[.pointer (some ⟨p, 0, none⟩), .int .i64 (f30 L k : Int), .int .i64 (k : Int)] W fun e w' => e = .returned (.tuple #[.int .i64 (putV (pk (f30 L) k) (f30 L k : Int)), .int .i64 0]) ∧ ∃ F', Wl w w' p F' (pk (f30 L) (k + 1)) ∧ Nx W F F' ∧ Bf F W w') := fun W p F hW => by
            have P := putL w W p F (pk (f30 L) k) (f30 L k : Int) (k : Int) ⟨by omega, by omega⟩ (by rw [PK.many]; omega) hW
            rw [pk_putE (f30_ok L) (show k < maxI by unfold maxI; omega)] at P
            exact P
          clear PK hx
          go_wp2_with fail
          refine Calls.mono (PP.out _ _ _ I.out.fst) ?_
          rintro e w4 ⟨rfl, F', h1, h2, h3⟩
          have J := I.out.one h1 h2 h3
          have J4 : Hid _ := J
          clear h1 h2 h3 I
          go_wp2_with fail
          refine Calls.mono (PP.out _ _ _ J.snd) ?_
          rintro e w5 ⟨rfl, G', h1, h2, h3⟩
          have J5 : Hid _ := J.two h1 h2 h3
          clear h1 h2 h3 J J4 PP z
          go_wp2
          go_roundw
          case rel => exact ⟨k + 1, F', G', by omega, by omega, by go_num, by first | rfl | rw [zm], J5.out⟩
          case measure => simp [intOf]; omega
        · have g1 : (k : Int) < (len : Int) := by omega
          have g2 : ¬ (k : Int) < 100 := by omega
          go_wp2
          go_meet
          case rel => exact ⟨k, F, G, hk, hk100, rfl, I.out, by omega⟩
      · have g1 : ¬ (k : Int) < (len : Int) := by omega
        go_wp2
        go_meet
        case rel => exact ⟨k, F, G, hk, hk100, rfl, I.out, by omega⟩
  case rest =>
    obtain ⟨k, F, G, hk, hk100, rfl, I⟩ := hcut
    clear I0
    have PK := pk_is (f30_ok L) k (by unfold maxI; omega)
    obtain ⟨m, hm⟩ : ∃ m, mx (f30 L) k = m := ⟨_, rfl⟩
    obtain ⟨l0, hl0⟩ : ∃ l0, (pk (f30 L) k).l = l0 := ⟨_, rfl⟩
    have e0 : pk (f30 L) k = ⟨0, k, l0⟩ := by
      have h1 := PK.now
      have h2 := PK.many
      cases hp : pk (f30 L) k with
      | mk n1 n2 l1 =>
        rw [hp] at h1 h2 hl0
        simp only at h1 h2 hl0
        rw [h1, h2, hl0]
    have hm30 : m ≤ 1073741824 := by rw [← hm]; exact mx_le _ _ (f30_le L) k
    have HL : Hid (l0.Pairwise lt ∧ l0.length = k ∧ (∀ t ∈ l0, 0 < t.a ∧ t.a ≤ m) ∧ ∀ t ∈ l0, ∃ i, i < k ∧ t = ⟨f30 L i, i + 1, i⟩) := by
      rw [← hl0, ← hm]
      refine ⟨PK.ok.sorted, PK.len, fun t ht => ?_, PK.mem⟩
      obtain ⟨i, hi, rfl⟩ := PK.mem t ht
      exact ⟨(f30_ok L i).1, mx_ge (f30 L) _ _ hi⟩
    rw [hm]
    rw [e0] at I
    clear e0 hl0 PK hm
    have DF : Hid (Wh.due m l0 = l0 ∧ rest m l0 = []) := due_full (fun t ht => (HL.out.2.2.1 t ht).2)
    have DN : Hid (Wh.due (0 : Nat) l0 = [] ∧ rest (0 : Nat) l0 = l0) := due_none (fun t ht => (HL.out.2.2.1 t ht).1)
    have A := advL w wc p F ⟨0, k, l0⟩ (m : Int) (show k < _ by omega) I.out.1.fst
    rw [advE_ok (s := ⟨0, k, l0⟩) (Nat.zero_le _) (show m ≤ 1099511627776 by omega), advV_ok (s := ⟨0, k, l0⟩) (Nat.zero_le _) (show m ≤ 1099511627776 by omega), advS_ok (s := ⟨0, k, l0⟩) (Nat.zero_le _) (show m ≤ 1099511627776 by omega)] at A
    simp only at A
    rw [DF.out.1, DF.out.2] at A
    have AA : Hid _ := A
    clear A
    have hmin : min (len : Int) 100 = (k : Int) := by have := I.out.2; omega
    go_wp2_with fail
    refine Calls.mono AA.out ?_
    rintro e w4 ⟨F4, va, vn, vc, rfl, h1, h2, h3, h4, h5⟩
    obtain ⟨-, v0⟩ := owns_int h4
    obtain rfl : k = vn := by rw [← v0, List.length_map]; exact HL.out.2.1.symm
    have S0 : Hid (Sx w w4 p q F4 G ⟨m, k, []⟩ l0 k 0 (.slice va k vc) (.slice none 0 0)) := by
      have T := I.out.1.one h1 h2 h3
      refine ⟨?_, h4, ?_, fun g e => ⟨(h5 g e).1, fun c => ?_⟩, fun g e => by cases e⟩
      · rw [show ((0 : Nat) : Int) = ((0 : Nat) : Int) from rfl, DN.out.2]
        exact T
      · rw [DN.out.1]
        exact World.ownsRow_nil _ _ _ _
      · have := (h5 g e).2
        have := I.out.1.snd.at_.lt c
        omega
    clear h1 h2 h3 h4 h5 v0 AA I DN
    go_upto_block 2 with fail
    go_cut [16, 17, 18, 19, 20, 21, 22, 23, 24] (fun s16 s17 s18 s19 s20 s21 s22 s23 s24 wx => ∃ (G : Nat → Prop) (oa : Option Addr) (om oc : Nat), s16 = .slice oa om oc ∧ Hid (Sx w wx p q F4 G ⟨m, k, []⟩ l0 k m (.slice va k vc) (.slice oa om oc)))
    case first =>
      go_wp2_with fail
      go_loopw [16, 17] (fun o i wr => ∃ (j c : Nat) (G : Nat → Prop) (oa : Option Addr) (om oc : Nat), j ≤ len2 + 1 ∧ j ≤ 101 ∧ i = .int .i64 (j : Int) ∧ o = .slice oa om oc ∧ c ≤ m ∧ Hid (Sx w wr p q F4 G ⟨m, k, []⟩ l0 k c (.slice va k vc) (.slice oa om oc) ∧ (j = len2 + 1 ∨ j = 101 → c = m))) (fun o i wr => 101 - (intOf i).toNat)
      case atStart => exact ⟨0, 0, G, none, 0, 0, by omega, by omega, rfl, rfl, Nat.zero_le _, S0.out, fun h => by omega⟩
      case round =>
        obtain ⟨j, c, G, oa, om, oc, hj, hj101, rfl, rfl, hcm, I⟩ := hrel
        clear S0
        by_cases hjl : j ≤ len2
        · by_cases hj100 : j ≤ 100
          · have g1 : (j : Int) ≤ (len2 : Int) := by omega
            have g2 : (j : Int) ≤ 100 := by omega
            go_upto_region 24 with fail
            go_cut [110] (fun s110 wx => s110 = .bool (decide (j < len2 ∧ j < 100)) ∧ wr = wx)
            case first =>
              by_cases hcu : j < len2
              · have gk : (j : Int) < (len2 : Int) := by omega
                by_cases hc100 : j < 100
                · have g100 : (j : Int) < 100 := by omega
                  go_wp2_with fail
                  go_meet
                  case rel => exact ⟨by rw [decide_eq_true ⟨hcu, hc100⟩], rfl⟩
                · have g100 : ¬ (j : Int) < 100 := by omega
                  go_wp2_with fail
                  go_meet
                  case rel => exact ⟨by rw [decide_eq_false (fun z => hc100 z.2)], rfl⟩
              · have gk : ¬ (j : Int) < (len2 : Int) := by omega
                go_wp2_with fail
                go_meet
                case rel => exact ⟨by rw [decide_eq_false (fun z => hcu z.1)], rfl⟩
            case rest =>
              obtain ⟨rfl, hwx⟩ := hcut
              subst hwx
              go_upto_if 110 with fail
              go_cut [18] (fun s18 wx => ∃ n : Nat, s18 = .int .i64 (n : Int) ∧ c ≤ n ∧ n ≤ m ∧ Hid (Sx w wx p q F4 G ⟨m, k, []⟩ l0 k c (.slice va k vc) (.slice oa om oc) ∧ (¬ (j < len2 ∧ j < 100) → n = m)))
              case first =>
                by_cases hcc : j < len2 ∧ j < 100
                · rw [decide_eq_true hcc]
                  have gk : (j : Int) < (len2 : Int) := by omega
                  obtain ⟨b, o, rfl, c0⟩ := (h'.out.later I.out.1.two.fst.below) j (by have := HN2.out; omega)
                  obtain ⟨x, hx⟩ : ∃ x, M[j]'(by have := HN2.out; omega) = x := ⟨_, rfl⟩
                  rw [hx] at c0
                  clear hx
                  have z := st_form x c (by omega)
                  obtain ⟨n, hnn⟩ : ∃ n : Nat, min m (c + st28 x) = n := ⟨_, rfl⟩
                  have zmin : min (m : Int) ((c + st28 x : Nat) : Int) = (n : Int) := by omega
                  have cn : c ≤ n := by omega
                  have nm : n ≤ m := by omega
                  have cq := I.out.1.two.snd.now_cell
                  simp only at cq
                  have NW : Hid (∀ W : World, W.cell? ⟨q, 0, none⟩ = some (.int .i64 (c : Int)) → Calls Try.prog 22 #[.pointer (some ⟨q, 0, none⟩)] W fun e w' => e = .returned (.int .i64 (c : Int)) ∧ w' = W) := fun W hW => now_any q c W hW
                  go_wp2
                  go_region_held3 (fun w' => w'.cell? ⟨b, o + j, none⟩ = some (.int .i64 x) ∧ w'.cell? ⟨q, 0, none⟩ = some (.int .i64 (c : Int)) ∧ Below wr.heap.size wr w') (first | exact ⟨c0, cq, (Below.refl _ _).drew⟩ | assumption) (first | (go_at_call 22; refine Calls.mono (NW.out _ (by assumption)) ?_; rintro e w9 ⟨rfl, rfl⟩))
                  have zz : min (m : Int) (IntKind.i64.wrap ((c : Int) + IntKind.i64.wrap ((IntKind.u64.wrap x).tmod 268435456))) = (n : Int) := by
                    rw [IntKind.wrap_i64, IntKind.wrap_i64]
                    unfold wrap64 at z
                    rw [z]
                    exact zmin
                  rw [zz]
                  have J : Hid (Sx w wr.drew p q F4 G ⟨m, k, []⟩ l0 k c (.slice va k vc) (.slice oa om oc)) := I.out.1.later (Below.refl _ _).drew
                  clear zz z zmin c0 cq NW
                  go_wp2_with fail
                  go_meet
                  case rel => exact ⟨n, rfl, cn, nm, J.out, fun hc => absurd hcc hc⟩
                · rw [decide_eq_false hcc]
                  go_wp2_with fail
                  go_meet
                  case rel => exact ⟨m, rfl, hcm, Nat.le_refl _, I.out.1, fun _ => rfl⟩
              case rest =>
                obtain ⟨n, rfl, hcn, hnm, J⟩ := hcut
                clear I
                have NW : Hid (∀ W : World, W.cell? ⟨q, 0, none⟩ = some (.int .i64 (c : Int)) → Calls Try.prog 22 #[.pointer (some ⟨q, 0, none⟩)] W fun e w' => e = .returned (.int .i64 (c : Int)) ∧ w' = W) := fun W hW => now_any q c W hW
                have cq := J.out.1.two.snd.now_cell
                simp only at cq
                have A := advL w _ q G ⟨c, k, rest c l0⟩ (n : Int) (show k < _ by omega) J.out.1.two.snd
                rw [advE_ok (s := ⟨c, k, rest c l0⟩) hcn (show n ≤ 1099511627776 by omega)] at A
                have AA : Hid _ := A
                clear A
                go_wp2_with (go_at_call 22; refine Calls.mono (NW.out _ cq) ?_; rintro e w9 ⟨rfl, rfl⟩)
                refine Calls.mono AA.out ?_
                rintro e w5 ⟨G5, la, ln, lc, rfl, t1, t2, t3, t4, t5⟩
                have V5 := t4
                rw [advV_ok (s := ⟨c, k, rest c l0⟩) hcn (show n ≤ 1099511627776 by omega)] at V5
                simp only at V5
                obtain ⟨i5, e5⟩ := owns_int V5
                have K5 : Hid (∀ w2, Below w5.heap.size w5 w2 → ∃ oa2 om2 oc2 w3, (Builtin.append_ #[38, 38] 38 #[.slice oa om oc, .slice la ln lc]).run Try.prog w2 = .ok (.slice oa2 om2 oc2) w3 ∧ Sx w w3 p q F4 G5 ⟨m, k, []⟩ l0 k n (.slice va k vc) (.slice oa2 om2 oc2)) := fun w2 hb => J.out.1.step HL.out.1 (by rw [HL.out.2.1]; omega) hcn (show n ≤ 1099511627776 by omega) t1 t2 t3 t4 hb
                have JJ : Hid (¬ (j < len2 ∧ j < 100) → n = m) := J.out.2
                have I5 : Hid (IntAt w5 la ((Wh.due n (rest c l0)).map Tm.i)) := i5
                have B5 : Hid (Below w.heap.size w w5) := t1.below
                have IDS : Hid (∀ y (hy : y < ((Wh.due n (rest c l0)).map Tm.i).length), ∃ i, i < k ∧ ((Wh.due n (rest c l0)).map Tm.i)[y] = (i : Int) ∧ c < f30 L i ∧ f30 L i ≤ n) := fun y hy => by
                  rw [List.getElem_map]
                  have hmem := List.getElem_mem (l := Wh.due n (rest c l0)) (n := y) (by simpa using hy)
                  obtain ⟨m1, m2⟩ := List.mem_filter.1 hmem
                  obtain ⟨m3, m4⟩ := List.mem_filter.1 m1
                  obtain ⟨i, hi, e⟩ := HL.out.2.2.2 _ m3
                  rw [e] at m2 m4 ⊢
                  simp at m2 m4
                  exact ⟨i, hi, rfl, by omega, by omega⟩
                have E5 : Hid (((Wh.due n (rest c l0)).map Tm.i).length = ln) := e5
                clear t1 t2 t3 t4 t5 V5 i5 e5 AA cq NW J
                have hln : ln ≤ 4096 := by
                  have h1 := E5.out
                  rw [List.length_map] at h1
                  have h2 : (Wh.due n (rest c l0)).length ≤ l0.length := Nat.le_trans (List.length_filter_le ..) (List.length_filter_le ..)
                  have h3 := HL.out.2.1
                  omega
                obtain ⟨ids, hids⟩ : ∃ ids, (Wh.due n (rest c l0)).map Tm.i = ids := ⟨_, rfl⟩
                rw [hids] at I5 IDS E5
                clear hids
                go_wp2
                go_loopw [135] (fun i wr => ∃ y : Nat, y ≤ ln ∧ i = .int .i64 (y : Int) ∧ Hid (Below w5.heap.size w5 wr)) (fun i wr => ln - (intOf i).toNat)
                case atStart => exact ⟨0, by omega, rfl, Below.refl _ _⟩
                case round =>
                  obtain ⟨y, hy, rfl, Y⟩ := hrel
                  by_cases hyl : y < ln
                  · have gy : (y : Int) < (ln : Int) := by omega
                    have hyi : y < ids.length := by have := E5.out; omega
                    obtain ⟨b1, o1, rfl, d0⟩ := (I5.out.later Y.out) y hyi
                    obtain ⟨i, hik, ei, ci, ni⟩ := IDS.out y hyi
                    rw [ei] at d0
                    have hil : i < L.length := by have := HN.out; omega
                    obtain ⟨b2, o2, rfl, d1⟩ := (h.out.later (chain B5.out Y.out)) i hil
                    have z := f30_form L i hil
                    obtain ⟨x, hx⟩ : ∃ x, L[i] = x := ⟨_, rfl⟩
                    rw [hx] at d1 z
                    clear hx ei
                    have gi : (i : Int) < (len : Int) := by have := HN.out; omega
                    have n1 : ¬ (n : Int) < (f30 L i : Int) := by omega
                    have n2 : ¬ (f30 L i : Int) ≤ (c : Int) := by omega
                    go_wp2
                    go_roundw
                    case rel => exact ⟨y + 1, by omega, by go_num, Y.out⟩
                    case measure => simp [intOf]; omega
                  · have gy : ¬ (y : Int) < (ln : Int) := by omega
                    obtain ⟨oa2, om2, oc2, w6, r1, S6⟩ := K5.out _ Y.out
                    have SS : Hid _ := S6
                    clear S6 K5
                    go_wp2_with (at_builtin; refine Go.Lib.wpList_append_run _ rfl _ _ _ _ rfl _ _ rfl rfl _ _ r1 ?_)
                    go_roundw
                    case rel => exact ⟨j + 1, n, G5, oa2, om2, oc2, by omega, by omega, by go_num, rfl, hnm, SS.out, fun hc => JJ.out (by omega)⟩
                    case measure => simp [intOf]; omega
          · have hj' : j = 101 := by omega
            have g1 : (j : Int) ≤ (len2 : Int) := by omega
            have g2 : ¬ (j : Int) ≤ 100 := by omega
            have ec := I.out.2 (.inr hj')
            clear hj'
            go_wp2
            go_meet
            case rel => exact ⟨G, oa, om, oc, rfl, by have := I.out.1; rw [ec] at this; exact this⟩
        · have hj' : j = len2 + 1 := by omega
          have g1 : ¬ (j : Int) ≤ (len2 : Int) := by omega
          have ec := I.out.2 (.inl hj')
          clear hj'
          go_wp2
          go_meet
          case rel => exact ⟨G, oa, om, oc, rfl, by have := I.out.1; rw [ec] at this; exact this⟩
    case rest =>
      obtain ⟨G, oa, om, oc, rfl, I⟩ := hcut
      clear S0
      obtain ⟨i1, e1⟩ := owns_int I.out.all
      have i2 := I.out.told
      rw [DF.out.1] at i2
      obtain ⟨i3, e2⟩ := owns_int i2
      obtain rfl : k = om := by rw [← e2, ← e1]
      have SM : Hid _ := same_ints oa va (l0.map Tm.i) k oc vc e1 (by omega) _ i3 i1
      have L1 : Hid (∀ W, TwoW w W p q F4 G ⟨m, k, []⟩ ⟨m, k, rest m l0⟩ → Calls Try.prog 23 #[.pointer (some ⟨p, 0, none⟩)] W fun e w' => e = .returned (.int .i64 0) ∧ w' = W) := fun W hW => lenW_any p F4 _ W hW.fst.at_
      have L2 : Hid (∀ W, TwoW w W p q F4 G ⟨m, k, []⟩ ⟨m, k, rest m l0⟩ → Calls Try.prog 23 #[.pointer (some ⟨q, 0, none⟩)] W fun e w' => e = .returned (.int .i64 0) ∧ w' = W) := fun W hW => by
        have := lenW_any q G _ W hW.snd.at_
        simp only at this
        rw [DF.out.2] at this
        exact this
      have T : Hid _ := I.out.two
      clear i1 i2 i3 e1 I
      go_wp2_with fail
      refine Calls.mono SM.out ?_
      rintro e w7 ⟨rfl, hb7⟩
      have T7 : Hid (TwoW w w7 p q F4 G ⟨m, k, []⟩ ⟨m, k, rest m l0⟩) := TwoW.later T.out hb7
      clear hb7 SM T
      go_wp2_with fail
      refine Calls.mono (L1.out _ T7.out) ?_
      rintro e w8 ⟨rfl, rfl⟩
      go_wp2_with fail
      refine Calls.mono (L2.out _ T7.out) ?_
      rintro e w9 ⟨rfl, rfl⟩
      go_wp2
      go_ret
      exact ⟨rfl, T7.out.fst.below⟩
end Go.Proofs.Ythnkkkiobbnpmaa
