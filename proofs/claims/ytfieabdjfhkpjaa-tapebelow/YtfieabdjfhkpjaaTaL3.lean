/- TapeBelow: each draw below n is below n; a greater word is no lesser draw. -/
import Derived.Test.YtfieabdjfhkpjaaTaE
import Derived.Test.YtfieabdjfhkpjaaTaW
namespace Go.Proofs.Ta
/-- A number as four bytes. -/
def be4 (n : Nat) : List UInt8 := [UInt8.ofNat (n / 16777216), UInt8.ofNat (n / 65536), UInt8.ofNat (n / 256), UInt8.ofNat n]
theorem num4_be4 (n : Nat) (t : List UInt8) (h : n < 4294967296) : num4 (be4 n ++ t) = n := by
  show (UInt8.ofNat (n / 16777216)).toNat * 16777216 + (UInt8.ofNat (n / 65536)).toNat * 65536 + (UInt8.ofNat (n / 256)).toNat * 256 + (UInt8.ofNat n).toNat = n
  rw [UInt8.toNat_ofNat', UInt8.toNat_ofNat', UInt8.toNat_ofNat', UInt8.toNat_ofNat']
  omega
end Go.Proofs.Ta
namespace Go.Proofs.Ytfieabdjfhkpjaa
open Go.RowKit Go.Proofs.Fd Go.Proofs.Ta
set_option maxRecDepth 20000

set_option maxHeartbeats 1000000 in
theorem lword_any (n : Nat) (w : World) :
    Calls Try.prog 15 #[.int .u32 (n : Int)] w fun e w' => e = .returned (.string ⟨(be4 n).toArray⟩) ∧ Below w.heap.size w w' := by
  obtain ⟨y0, hy0⟩ : ∃ y : UInt8, UInt8.ofNat (n / 16777216) = y := ⟨_, rfl⟩
  obtain ⟨y1, hy1⟩ : ∃ y : UInt8, UInt8.ofNat (n / 65536) = y := ⟨_, rfl⟩
  obtain ⟨y2, hy2⟩ : ∃ y : UInt8, UInt8.ofNat (n / 256) = y := ⟨_, rfl⟩
  obtain ⟨y3, hy3⟩ : ∃ y : UInt8, UInt8.ofNat n = y := ⟨_, rfl⟩
  have hB : be4 n = [y0, y1, y2, y3] := by unfold be4; rw [hy0, hy1, hy2, hy3]
  have k0 : IntKind.u8.wrap ((n : Int) / 16777216) = (y0.toNat : Int) := by rw [← hy0, UInt8.toNat_ofNat', IntKind.wrap_u8]; omega
  have k1 : IntKind.u8.wrap ((n : Int) / 65536) = (y1.toNat : Int) := by rw [← hy1, UInt8.toNat_ofNat', IntKind.wrap_u8]; omega
  have k2 : IntKind.u8.wrap ((n : Int) / 256) = (y2.toNat : Int) := by rw [← hy2, UInt8.toNat_ofNat', IntKind.wrap_u8]; omega
  have k3 : IntKind.u8.wrap (n : Int) = (y3.toNat : Int) := by rw [← hy3, UInt8.toNat_ofNat', IntKind.wrap_u8]; omega
  have ST : ∀ cap, (convert 60 9 (.slice (some ⟨w.heap.size, 0, none⟩) 4 cap)).run Try.prog (w.alloc (.cells #[.int .u8 (y0.toNat : Int), .int .u8 (y1.toNat : Int), .int .u8 (y2.toNat : Int), .int .u8 (y3.toNat : Int)] 5)) = .ok (.string ⟨([y0, y1, y2, y3] : List UInt8).toArray⟩) (w.alloc (.cells #[.int .u8 (y0.toNat : Int), .int .u8 (y1.toNat : Int), .int .u8 (y2.toNat : Int), .int .u8 (y3.toNat : Int)] 5)) := fun cap =>
    BytesAt.string (l := [y0, y1, y2, y3]) (fun j hj => by
      rcases (by simp at hj; omega : j = 0 ∨ j = 1 ∨ j = 2 ∨ j = 3) with rfl | rfl | rfl | rfl <;> exact ⟨by rw [World.cell?_alloc_new]; rfl, by simp [go_sem]⟩) rfl
  rw [hB]
  clear hB hy0 hy1 hy2 hy3
  go_enter Try.func15, Try.ntmps15
  go_wp2
  go_ret
  exact ⟨rfl, (Below.refl _ _).alloc (Nat.le_refl _) _⟩
theorem own_apart {w w' : World} {p g base : Nat} {e : TypeId} {size : Nat} {v : Value} {n : Nat} {xs : List Value} (h : w.ownsRow base e size v n xs) (hb : But p g w w') (hp : p < base) (hg : g < base) : w'.ownsRow base e size v n xs := by
  refine ⟨h.1, ?_⟩
  rcases h.2 with hn | ⟨k, cap, cur, rfl, hbg, hgg, rest⟩
  · exact .inl hn
  · refine .inr ⟨k, cap, cur, rfl, hbg, ?_, rest⟩
    rw [hb.block k (Array.getElem?_eq_some_iff.1 hgg).1 (by omega) (by omega)]
    exact hgg
theorem keep4 {W wc w1 : World} {a b c d : Addr} {x y z u : Value} (hb : Below wc.heap.size wc w1) (h : wc.cell? a = some x ∧ wc.cell? b = some y ∧ wc.cell? c = some z ∧ wc.cell? d = some u ∧ Below W.heap.size W wc) :
    w1.cell? a = some x ∧ w1.cell? b = some y ∧ w1.cell? c = some z ∧ w1.cell? d = some u ∧ Below W.heap.size W w1 := ⟨cell_later hb h.1, cell_later hb h.2.1, cell_later hb h.2.2.1, cell_later hb h.2.2.2.1, chain h.2.2.2.2 hb⟩
theorem keepB {W wc : World} {a b c d : Addr} {x y z u : Value} (h : wc.cell? a = some x ∧ wc.cell? b = some y ∧ wc.cell? c = some z ∧ wc.cell? d = some u ∧ Below W.heap.size W wc) : Below W.heap.size W wc := h.2.2.2.2
/-- The first k draws below n. -/
def vals (n : Nat) (l : List UInt8) (k : Nat) : List Int := (List.range k).map fun i => ((drw n (l.drop (4 * i)) : Nat) : Int)
theorem vals_succ (n : Nat) (l : List UInt8) (k : Nat) : vals n l (k + 1) = vals n l k ++ [((drw n (l.drop (4 * k)) : Nat) : Int)] := by unfold vals; rw [List.range_succ, List.map_append]; rfl
theorem vals_4 (n : Nat) (l : List UInt8) : vals n l 4 = [((drw n (l.drop 0) : Nat) : Int), ((drw n (l.drop 4) : Nat) : Int), ((drw n (l.drop 8) : Nat) : Int), ((drw n (l.drop 12) : Nat) : Int)] := rfl
set_option maxHeartbeats 4000000 in
theorem TapeBelow_walk (a b n : Int) (w : World) :
    Calls Try.prog 5 #[.int .i64 a, .int .i64 b, .int .i64 n] w fun e w' => e = .returned (.bool true) ∧ Below w.heap.size w w' := by
  obtain ⟨i0, hi0, hz0, hz1, hz2⟩ := info_parts infoInt
  obtain ⟨X, hX⟩ : ∃ X : Nat, IntKind.u32.wrap a = (X : Int) := ⟨(IntKind.u32.wrap a).toNat, by rw [IntKind.wrap_u32]; omega⟩
  obtain ⟨Y, hY⟩ : ∃ Y : Nat, IntKind.u32.wrap b = (Y : Int) := ⟨(IntKind.u32.wrap b).toNat, by rw [IntKind.wrap_u32]; omega⟩
  obtain ⟨U, hU⟩ : ∃ U : Nat, IntKind.u64.wrap n = (U : Int) := ⟨(IntKind.u64.wrap n).toNat, by rw [IntKind.wrap_u64]; omega⟩
  have hX2 : X < 4294967296 := by rw [IntKind.wrap_u32] at hX; omega
  have hY2 : Y < 4294967296 := by rw [IntKind.wrap_u32] at hY; omega
  obtain ⟨N, hN⟩ : ∃ N, U % 2147483647 + 1 = N := ⟨_, rfl⟩
  have hN2 : N ≤ 2147483647 := by omega
  have hN1 : 1 ≤ N := by omega
  have t1 : Int.tmod (U : Int) 2147483647 = (N : Int) - 1 := by rw [Int.tmod_eq_emod_of_nonneg (by omega)]; omega
  have t2 : (U : Int) % 2147483647 = (N : Int) - 1 := by omega
  have z1 : IntKind.u64.wrap ((N : Int) - 1) = (N : Int) - 1 := by rw [IntKind.wrap_u64]; omega
  have z2 : IntKind.i64.wrap ((N : Int) - 1) = (N : Int) - 1 := by rw [IntKind.wrap_i64]; omega
  have z3 : IntKind.i64.wrap (1 + ((N : Int) - 1)) = (N : Int) := by rw [IntKind.wrap_i64]; omega
  obtain ⟨lo, hi, h1, h2, h3⟩ : ∃ lo hi : Nat, lo ≤ hi ∧ hi < 4294967296 ∧ ((lo = X ∧ hi = Y) ∨ (lo < hi ∧ hi = X ∧ lo = Y)) := by
    by_cases q : X ≤ Y
    · exact ⟨X, Y, q, hY2, .inl ⟨rfl, rfl⟩⟩
    · exact ⟨Y, X, by omega, hX2, .inr ⟨by omega, rfl, rfl⟩⟩
  have LW : Hid (∀ (n : Nat) w, _) := fun n w => lword_any n w
  clear hX2 hY2 hN
  have BA : Hid ((⟨(be4 lo).toArray⟩ : ByteArray) ++ ⟨(be4 hi).toArray⟩ ++ ⟨(be4 0).toArray⟩ ++ ⟨(be4 4294967295).toArray⟩ = ⟨(be4 lo ++ (be4 hi ++ (be4 0 ++ be4 4294967295))).toArray⟩) := by
    apply ByteArray.ext
    apply Array.ext'
    simp [ByteArray.data_append]
  have b1 : (be4 lo).length = 4 := rfl
  have b2 : (be4 hi).length = 4 := rfl
  have b3 : (be4 0).length = 4 := rfl
  have b4 : (be4 4294967295).length = 4 := rfl
  rcases h3 with ⟨h5, h6⟩ | ⟨h4, h5, h6⟩
  all_goals
    subst h5 h6
    first
      | have g0 : ¬ hi < lo := by omega
      | have g0 : lo < hi := by omega
    go_enter Try.func5, Try.ntmps5
    go_wp2_with fail
    refine Calls.mono (works_any w) ?_
    rintro e w1 ⟨rfl, hb⟩
    have B1 : Hid (Below w.heap.size w w1) := hb
    clear hb
    go_wp2_with fail
    refine Calls.mono (LW.out lo w1) ?_
    rintro e w2 ⟨rfl, hb⟩
    have B2 : Hid (Below w.heap.size w w2) := chain B1.out hb
    clear hb B1
    go_wp2_with fail
    refine Calls.mono (LW.out hi w2) ?_
    rintro e w3 ⟨rfl, hb⟩
    have B3 : Hid (Below w.heap.size w w3) := chain B2.out hb
    clear hb B2
    go_wp2_with fail
    refine Calls.mono (LW.out 0 w3) ?_
    rintro e w4 ⟨rfl, hb⟩
    have B4 : Hid (Below w.heap.size w w4) := chain B3.out hb
    clear hb B3
    go_wp2_with fail
    refine Calls.mono (LW.out 4294967295 w4) ?_
    rintro e w5 ⟨rfl, hb⟩
    have B5 : Hid (Below w.heap.size w w5) := chain B4.out hb
    clear hb B4
    go_wp2_with fail
    rw [BA.out]
    refine Calls.mono (new_any ⟨(be4 lo ++ (be4 hi ++ (be4 0 ++ be4 4294967295))).toArray⟩ (by rw [ba_size]; simp only [List.length_append, b1, b2, b3, b4]; omega) w5) ?_
    rintro e w6 ⟨p, rfl, hT, hp, hb⟩
    have hT' : TAt w6 p (be4 lo ++ (be4 hi ++ (be4 0 ++ be4 4294967295))) := hT
    obtain ⟨l, hl⟩ : ∃ l, be4 lo ++ (be4 hi ++ (be4 0 ++ be4 4294967295)) = l := ⟨_, rfl⟩
    have LQ : Hid (l.length = 16 ∧ num4 (l.drop 0) = lo ∧ num4 (l.drop 4) = hi ∧ num4 (l.drop 8) = 0 ∧ num4 (l.drop 12) = 4294967295) := by
      rw [← hl]
      refine ⟨rfl, num4_be4 lo _ (by omega), ?_, ?_, ?_⟩
      · exact num4_be4 hi (be4 0 ++ be4 4294967295) (by omega)
      · exact num4_be4 0 (be4 4294967295) (by omega)
      · exact num4_be4 4294967295 [] (by omega)
    rw [hl] at hT'
    obtain ⟨Bs, hBs⟩ : ∃ B, w6.heap.size = B := ⟨_, rfl⟩
    have I6 : Hid (TAt w6 p (l.drop (4 * 0)) ∧ w.heap.size ≤ p ∧ p < Bs ∧ Bs ≤ w6.heap.size ∧ Below w.heap.size w w6) := ⟨hT', Nat.le_trans B5.out.size hp, by rw [← hBs]; exact hT'.lt, by omega, chain B5.out hb⟩
    clear hT hT' hl hp hb B5 BA hBs LW
    go_wp2
    go_loopw [10, 41] (fun sl i wr => ∃ k : Nat, k ≤ 4 ∧ i = .int .i64 (k : Int) ∧ Hid (TAt wr p (l.drop (4 * k)) ∧ w.heap.size ≤ p ∧ p < Bs ∧ Bs ≤ wr.heap.size ∧ Below w.heap.size w wr ∧ wr.ownsRow Bs 3 1 sl k (icells (vals N l k)))) (fun _ i _ => 4 - (intOf i).toNat)
    case atStart => exact ⟨0, by omega, rfl, I6.out.1, I6.out.2.1, I6.out.2.2.1, I6.out.2.2.2.1, I6.out.2.2.2.2, World.ownsRow_nil _ _ _ _⟩
    case round =>
      obtain ⟨k, hk, rfl, I⟩ := hrel
      clear I6
      by_cases hlt : k < 4
      · have g1 : (k : Int) < 4 := by omega
        obtain ⟨f1, f2, f3⟩ := bel_ok (n := (N : Int)) (l := l.drop (4 * k)) (by omega) (by rw [List.length_drop, LQ.out.1]; omega)
        have BL := Below_any p (l.drop (4 * k)) (N : Int) wr I.out.1
        rw [f1, f2, f3, Int.toNat_natCast, List.drop_drop, show 4 * k + 4 = 4 * (k + 1) by omega] at BL
        have hd := drw_lt N (l.drop (4 * k)) (by omega)
        have VS : Hid (vals N l (k + 1) = vals N l k ++ [((drw N (l.drop (4 * k)) : Nat) : Int)]) := vals_succ N l k
        obtain ⟨v, hv⟩ : ∃ v, drw N (l.drop (4 * k)) = v := ⟨_, rfl⟩
        rw [hv] at BL hd VS
        have HB : Hid _ := BL
        have g2 : ¬ (N : Int) ≤ (v : Int) := by omega
        clear BL f1 f2 f3 hv
        go_wp2_with fail
        refine Calls.mono HB.out ?_
        rintro e w7 ⟨rfl, hT, hb⟩
        have I7 : Hid (TAt w7 p (l.drop (4 * (k + 1))) ∧ w.heap.size ≤ p ∧ p < Bs ∧ Bs ≤ w7.heap.size ∧ Below w.heap.size w w7 ∧ w7.ownsRow Bs 3 1 u10 k (icells (vals N l k))) := by
          obtain ⟨i1, i2, i3, i4, i5, i6⟩ := I.out
          exact ⟨hT, i2, i3, Nat.le_trans i4 hb.size, i5.trans (hb.below i2 i2 i5.size), own_apart i6 hb i3 i3⟩
        clear HB hT hb I
        go_wp2_with (first
          | (at_builtin; refine wpList_append_own _ rfl _ _ 36 rfl Bs 3 i0 (.int .i64 0) 1 8 Try.underlying36 hi0 hz0 hz1 hz2 rfl (by decide) _ _ _ rfl (I7.out.2.2.2.2.2.alloc _) ⟨w7.heap.size, 0, none⟩ 1 1 [.int .i64 (v : Int)] rfl rfl (cells_new _ _ _) (by intro u hu; simp at hu; subst hu; rfl) (by unfold maxLen; omega) (by omega) (by have := I7.out.2.2.2.1; simp; omega) ?_; intro v1 w8 hown1 hgrow1 hnil1))
        have I8 : Hid (TAt w8 p (l.drop (4 * (k + 1))) ∧ w.heap.size ≤ p ∧ p < Bs ∧ Bs ≤ w8.heap.size ∧ Below w.heap.size w w8 ∧ w8.ownsRow Bs 3 1 v1 (k + 1) (icells (vals N l (k + 1)))) := by
          obtain ⟨i1, i2, i3, i4, i5, i6⟩ := I7.out
          have bB : w.heap.size ≤ Bs := by omega
          refine ⟨(i1.later ((Below.refl _ _).alloc (Nat.le_refl _) _)).same (hgrow1.block p (by have := i1.lt; simp; omega) (fun e => by have := (i6.lt p e.symm).1; omega)), i2, i3, Nat.le_trans i4 (Nat.le_trans (by simp) hgrow1.size), (i5.alloc i5.size _).grown hgrow1 (Nat.le_trans i5.size (by simp)) (fun x hx => Nat.le_trans bB (i6.lt x hx).1), ?_⟩
          rw [VS.out, icells_app]
          exact hown1
        clear I7 hown1 hgrow1 hnil1
        go_roundw
        case rel => exact ⟨k + 1, by omega, by go_num, I8.out⟩
        case measure => simp [intOf]; omega
      · obtain rfl : k = 4 := by omega
        obtain ⟨-, ⟨-, h0⟩ | ⟨g, cap, rfl, hrow, hg⟩⟩ := owns_ints I.out.2.2.2.2.2
        · cases h0
        obtain ⟨v0, e0⟩ : ∃ v, drw N (l.drop 0) = v := ⟨_, rfl⟩
        obtain ⟨v1, e1⟩ : ∃ v, drw N (l.drop 4) = v := ⟨_, rfl⟩
        have le01 : v0 ≤ v1 := by rw [← e0, ← e1]; exact drw_mono N _ _ (by rw [LQ.out.2.1, LQ.out.2.2.1]; exact h1)
        have e2 : drw N (l.drop 8) = 0 := drw_zero N _ LQ.out.2.2.2.1
        have e3 : drw N (l.drop 12) = N - 1 := drw_top N _ LQ.out.2.2.2.2 (by omega) (by omega)
        rw [vals_4, e0, e1, e2, e3] at hrow
        have c0 : wr.cell? ⟨g, 0, none⟩ = some (.int .i64 (v0 : Int)) := (hrow 0 (by simp)).1
        have c1 : wr.cell? ⟨g, 1, none⟩ = some (.int .i64 (v1 : Int)) := (hrow 1 (by simp)).1
        have c2 : wr.cell? ⟨g, 2, none⟩ = some (.int .i64 0) := (hrow 2 (by simp)).1
        have c3 : wr.cell? ⟨g, 3, none⟩ = some (.int .i64 ((N : Int) - 1)) := by
          rw [show (N : Int) - 1 = ((N - 1 : Nat) : Int) by omega]
          exact (hrow 3 (by simp)).1
        have q1 : (v0 : Int) ≤ (v1 : Int) := by omega
        have HL : Hid (∀ w', TAt w' p (l.drop (4 * 4)) → Calls Try.prog 12 #[.pointer (some ⟨p, 0, none⟩)] w' fun e w'' => e = .returned (.int .i64 0) ∧ Below w'.heap.size w' w'') := fun w' h => by
          have := left_any p _ w' h
          rw [show (l.drop (4 * 4)).length = 0 by rw [List.length_drop, LQ.out.1]] at this
          exact this
        have I9 : Hid (Below w.heap.size w wr) := I.out.2.2.2.2.1
        have HM : Hid (∀ w', Below wr.heap.size wr w' → Calls Try.prog 12 #[.pointer (some ⟨p, 0, none⟩)] w' fun e w'' => e = .returned (.int .i64 0) ∧ Below w'.heap.size w' w'') := fun w' h => HL.out w' (I.out.1.later h)
        clear hrow hg I LQ e0 e1 e2 e3 HL
        rw [show ((4 : Nat) : Int) = 4 from rfl]
        go_wp2
        go_region_held3 (fun w' => w'.cell? ⟨g, 0, none⟩ = some (.int .i64 (v0 : Int)) ∧ w'.cell? ⟨g, 1, none⟩ = some (.int .i64 (v1 : Int)) ∧ w'.cell? ⟨g, 2, none⟩ = some (.int .i64 0) ∧ w'.cell? ⟨g, 3, none⟩ = some (.int .i64 ((N : Int) - 1)) ∧ Below wr.heap.size wr w') (first | exact ⟨c0, c1, c2, c3, (Below.refl _ _).drew⟩ | exact keep4 (by assumption) (by assumption)) (first | (go_at_call 12; refine Calls.mono (HM.out _ (keepB (by assumption))) ?_; rintro e w9 ⟨rfl, hb9⟩))
        rename_i hBW
        have J9 : Hid (Below w.heap.size w w9) := chain I9.out hBW.2.2.2.2
        clear hBW hb9 c0 c1 c2 c3
        go_wp2
        go_ret
        exact ⟨rfl, J9.out⟩
end Go.Proofs.Ytfieabdjfhkpjaa
