/- The document's Order. -/
import Derived.Test.YtfieabdjfhkpjaaTaO
namespace Go.Proofs.Ytfieabdjfhkpjaa
open Go.RowKit Go.Proofs.Fd Go.Proofs.Ta
set_option maxRecDepth 20000

def icells (l : List Int) : List Value := l.map fun s => .int .i64 s
theorem icells_app (a b : List Int) : icells (a ++ b) = icells a ++ icells b := by unfold icells; rw [List.map_append]
theorem cells_new (w : World) (cs : Array Value) (t : TypeId) : ∀ j u, cs.toList[j]? = some u → (w.alloc (.cells cs t)).cell? (Addr.add ⟨w.heap.size, 0, none⟩ j) = some u := fun j u h => by
  have q : Addr.add ⟨w.heap.size, 0, none⟩ j = ⟨w.heap.size, j, none⟩ := by simp [Addr.add]; intro h; exact h.symm
  rw [q, World.cell?_alloc_new]
  simpa using h
/-- Numbers in a row of the call's own. -/
theorem owns_ints {w : World} {base n : Nat} {v : Value} {l : List Int} (h : w.ownsRow base 3 1 v n (icells l)) : l.length = n ∧ ((v = .slice none 0 0 ∧ n = 0) ∨ ∃ g cap, v = .slice (some ⟨g, 0, none⟩) n cap ∧ Row w g l ∧ base ≤ g) := by
  obtain ⟨h1, h2⟩ := h
  have hl : l.length = n := by simpa [icells] using h1
  refine ⟨hl, ?_⟩
  rcases h2 with h2 | ⟨g, cap, cur, rfl, hb, hh, -, -, -, ht⟩
  · exact .inl h2
  · refine .inr ⟨g, cap, rfl, fun j hj => ⟨?_, ?_⟩, hb⟩
    · have e : cur[j]? = (icells l)[j]? := by
        rw [← ht, List.getElem?_take_of_lt (by omega)]; simp
      unfold World.cell?
      rw [hh]
      simp only [Option.isSome_none]
      show cur[j]? = _
      rw [e]; simp [icells, hj]
    · unfold World.frozen?
      rw [hh]
      simp
set_option maxHeartbeats 4000000 in
theorem rorder_yes (d : Nat) (l : List UInt8) (n : Nat) (hn : n ≤ 64) (hl : 4 * (n - 1) ≤ l.length) (w : World) (R : Hid (DAt w d l)) :
    Calls Try.prog 24 #[.pointer (some ⟨d, 0, none⟩), .int .i64 (n : Int)] w fun e w' => ∃ a c, e = .returned (.tuple #[.slice a n c, .int .i64 0]) ∧ IntAt w' a (ord n l) ∧ New w.heap.size a ∧ DAt w' d (l.drop (4 * (n - 1))) ∧ But d d w w' := by
  obtain ⟨i0, hi, hz0, hz1, hz2⟩ := info_parts infoInt
  have q1 : ¬ (n : Int) < 0 := by omega
  have q2 : ¬ (64 : Int) < (n : Int) := by omega
  have z1 : IntKind.i64.wrap ((n : Int) - 1) = (n : Int) - 1 := by rw [IntKind.wrap_i64]; omega
  have z2 : IntKind.i64.wrap (4 * ((n : Int) - 1)) = 4 * ((n : Int) - 1) := by rw [IntKind.wrap_i64]; omega
  have HL : Hid (4 * (n - 1) ≤ l.length) := hl
  have HP : Hid (d < w.heap.size) := R.out.lt
  have c0 := R.out.1
  obtain ⟨S, hS⟩ : ∃ S : ByteArray, ⟨l.toArray⟩ = S := ⟨_, rfl⟩
  have hz : S.size = l.length := by rw [← hS]; exact ba_size l
  rw [hS] at c0
  have q3 : ¬ (S.size : Int) < 4 * ((n : Int) - 1) := by omega
  clear hl hS hz
  by_cases q4 : (1 : Int) < (n : Int)
  all_goals
    go_enter Try.func24, Try.ntmps24
    go_wp2
    clear q3 c0
    go_loopw [6, 7] (fun sl i wr => ∃ k : Nat, k ≤ n ∧ i = .int .i64 (k : Int) ∧ Hid (DAt wr d l ∧ But d d w wr ∧ wr.ownsRow w.heap.size 3 1 sl k (icells (up k)))) (fun _ i _ => n - (intOf i).toNat)
    case atStart => exact ⟨0, by omega, rfl, R.out, But.refl _ _ _, World.ownsRow_nil _ _ _ _⟩
    case round =>
      obtain ⟨k, hk, rfl, I⟩ := hrel
      clear R
      by_cases hlt : k < n
      · have g1 : (k : Int) < (n : Int) := by omega
        go_wp2_with (first
          | (at_builtin; refine wpList_append_own _ rfl _ _ 36 rfl w.heap.size 3 i0 (.int .i64 0) 1 8 Try.underlying36 hi hz0 hz1 hz2 rfl (by decide) _ _ _ rfl (I.out.2.2.alloc _) ⟨wr.heap.size, 0, none⟩ 1 1 [.int .i64 (k : Int)] rfl rfl (cells_new _ _ _) (by intro u hu; simp at hu; subst hu; rfl) (by unfold maxLen; omega) (by omega) (by have := I.out.2.1.size; simp; omega) ?_; intro v1 w3 hown1 hgrow1 hnil1))
        have I3 : Hid (DAt w3 d l ∧ But d d w w3 ∧ w3.ownsRow w.heap.size 3 1 v1 (k + 1) (icells (up (k + 1)))) := by
          obtain ⟨i1, i2, i3⟩ := I.out
          have hp := HP.out
          refine ⟨(i1.later ((Below.refl _ _).alloc (Nat.le_refl _) _)).same (hgrow1.block d (by have := i1.lt; simp; omega) (fun e => by have := (i3.lt d e.symm).1; omega)), (i2.alloc _).grown hgrow1 (fun x hx => (i3.lt x hx).1), ?_⟩
          rw [up_succ, icells_app]
          exact hown1
        clear I hown1 hgrow1 hnil1
        go_roundw
        case rel => exact ⟨k + 1, by omega, by go_num, I3.out⟩
        case measure => simp [intOf]; omega
      · obtain rfl : k = n := by omega
        obtain ⟨-, ⟨rfl, rfl⟩ | ⟨g, cap, rfl, hrow, hg⟩⟩ := owns_ints I.out.2.2
        · have FI : Hid (DAt wr d l ∧ But d d w wr) := ⟨I.out.1, I.out.2.1⟩
          clear I
          rw [show ((0 : Nat) : Int) = 0 from rfl]
          go_wp2
          go_loopw [8] (fun x w2 => x = .int .i64 (-1) ∧ w2 = wr) (fun _ _ => 0)
          case atStart => exact ⟨rfl, rfl⟩
          case round =>
            obtain ⟨rfl, rfl⟩ := hrel
            go_wp2
            go_ret2
            exact ⟨none, 0, rfl, IntAt.nil _ _, New.none _, FI.out⟩
        · have I3 : Hid (Row wr g (up k) ∧ w.heap.size ≤ g ∧ DAt wr d l ∧ But d d w wr) := ⟨hrow, hg, I.out.1, I.out.2.1⟩
          clear I hrow hg
          go_wp2
          go_loopw [8] (fun x wr => ∃ (j : Nat) (L : List Int) (m : List UInt8), j ≤ k ∧ x = .int .i64 ((j : Int) - 1) ∧ Hid (Dr k l j L m ∧ Row wr g L ∧ w.heap.size ≤ g ∧ DAt wr d m ∧ But d d w wr)) (fun x _ => (intOf x).toNat)
          case atStart => exact ⟨k, up k, l, Nat.le_refl _, rfl, ⟨Nat.le_refl _, up_len k, rfl, HL.out, rfl⟩, I3.out⟩
          case round =>
            obtain ⟨j, L, m, hj, rfl, I⟩ := hrel
            clear I3
            by_cases hlt : 2 ≤ j
            · obtain ⟨a, rfl⟩ : ∃ a, j = a + 1 := ⟨j - 1, by omega⟩
              have g0 : ((a + 1 : Nat) : Int) - 1 = (a : Int) := by omega
              rw [g0]
              have g1 : (1 : Int) ≤ (a : Int) := by omega
              have z3 : IntKind.i64.wrap ((a : Int) + 1) = (a : Int) + 1 := by rw [IntKind.wrap_i64]; omega
              have z4 : IntKind.i64.wrap ((a : Int) - 1) = (a : Int) - 1 := by rw [IntKind.wrap_i64]; omega
              have BL := rbelow_any d m ((a : Int) + 1) wr I.out.2.2.2.1
              have hm4 : ¬ m.length < 4 := by have := I.out.1.2.2.2.1; omega
              obtain ⟨e1, e2, e3⟩ := bel_ok (n := (a : Int) + 1) (l := m) (by omega) hm4
              rw [e1, e2, e3, show ((a : Int) + 1).toNat = a + 1 by omega] at BL
              have hd := drw_lt (a + 1) m (by omega)
              obtain ⟨b, hb⟩ : ∃ b, drw (a + 1) m = b := ⟨_, rfl⟩
              rw [hb] at BL hd
              have DS : Hid (Dr k l a (sw L a b) (m.drop 4)) := by
                obtain ⟨c, rfl⟩ : ∃ c, a = c + 1 := ⟨a - 1, by omega⟩
                rw [← hb]
                exact I.out.1.step
              have HB : Hid _ := BL
              clear e1 e2 e3 hm4 hb BL
              go_wp2_with fail
              refine Calls.mono HB.out ?_
              rintro e w2 ⟨rfl, ht, hbt⟩
              have ln : L.length = k := I.out.1.2.1
              have R2 : Hid (Row w2 g L) := I.out.2.1.apart hbt (by have := HP.out; have := I.out.2.2.1; omega) (by have := HP.out; have := I.out.2.2.1; omega)
              have ca := R2.out.get a (by omega)
              have cb := R2.out.get b (by omega)
              have fa := (R2.out a (by omega)).2
              have fb := (R2.out b (by omega)).2
              have J2 : Hid (Dr k l a (sw L a b) (m.drop 4) ∧ Row ((w2.setCell ⟨g, a, none⟩ (.int .i64 (L.getD b 0))).setCell ⟨g, b, none⟩ (.int .i64 (L.getD a 0))) g (sw L a b) ∧ w.heap.size ≤ g ∧ DAt ((w2.setCell ⟨g, a, none⟩ (.int .i64 (L.getD b 0))).setCell ⟨g, b, none⟩ (.int .i64 (L.getD a 0))) d (m.drop 4) ∧ But d d w ((w2.setCell ⟨g, a, none⟩ (.int .i64 (L.getD b 0))).setCell ⟨g, b, none⟩ (.int .i64 (L.getD a 0)))) := by
                have hp := HP.out
                obtain ⟨i1, i2, i3, i4, i5⟩ := I.out
                refine ⟨DS.out, row_swap R2.out a b, i3, ?_, ((i5.trans hbt).fresh i3 _ _).fresh i3 _ _⟩
                exact (ht.same (Below.heap_setCell w2 _ _ d (show d ≠ g by omega))).same (Below.heap_setCell _ _ _ d (show d ≠ g by omega))
              have g2 : (a : Int) < (k : Int) := by omega
              have g3 : (b : Int) < (k : Int) := by omega
              obtain ⟨xa, hxa⟩ : ∃ x, L.getD a 0 = x := ⟨_, rfl⟩
              obtain ⟨xb, hxb⟩ : ∃ x, L.getD b 0 = x := ⟨_, rfl⟩
              rw [hxa] at ca J2
              rw [hxb] at cb J2
              clear HB ht hbt I ln hxa hxb R2 DS
              have cc : (w2.setCell ⟨g, a, none⟩ (.int .i64 xb)).cell? ⟨g, b, none⟩ = some (.int .i64 xb) := by
                by_cases e : a = b
                · subst e; simp [go_sem, ca]
                · have hne : (⟨g, a, none⟩ : Addr) ≠ ⟨g, b, none⟩ := fun q => e (by injection q)
                  rw [World.cell?_setCell_other _ _ _ _ hne, cb]
              have cd : (w2.drew.setCell ⟨g, a, none⟩ (.int .i64 xb)).cell? ⟨g, b, none⟩ = some (.int .i64 xb) := cc
              go_wp2
              go_region_with (fail)
              all_goals
                clear ca cb cc cd fa fb
                go_wp2
                go_roundw
                case rel => exact ⟨a, sw L a b, m.drop 4, by omega, rfl, J2.out.1, J2.out.2.1, J2.out.2.2.1, J2.out.2.2.2.1, J2.out.2.2.2.2.drew⟩
                case measure => simp [intOf]; omega
            · have g1 : ¬ (1 : Int) ≤ (j : Int) - 1 := by omega
              have FI : Hid (Row wr g (ord k l) ∧ w.heap.size ≤ g ∧ DAt wr d (l.drop (4 * (k - 1))) ∧ But d d w wr) := by
                obtain ⟨⟨i1, i2, i3, i4, i5⟩, j1, j2, j3, j4⟩ := I.out
                rw [show j - 1 = 0 by omega] at i3 i5
                have e3 : L = ord k l := i3
                have e5 : m = l.drop (4 * (k - 1)) := i5
                rw [← e3, ← e5]
                exact ⟨j1, j2, j3, j4⟩
              clear I
              go_wp2
              go_ret2
              exact ⟨some ⟨g, 0, none⟩, ⟨cap, rfl⟩, FI.out.1.at, New.some FI.out.2.1, FI.out.2.2⟩
def ROrdP (w : World) (d : Nat) (L : List Int) (x : Int) (m : List UInt8) (e : Ending) (w' : World) : Prop := ∃ a c, e = .returned (.tuple #[.slice a L.length c, .int .i64 x]) ∧ IntAt w' a L ∧ New w.heap.size a ∧ DAt w' d m ∧ But d d w w'
theorem ROrdP.no {w w' : World} {d : Nat} {x : Int} {m : List UInt8} (h1 : DAt w' d m) (h2 : But d d w w') : ROrdP w d [] x m (.returned (.tuple #[.slice none 0 0, .int .i64 x])) w' := ⟨none, 0, rfl, IntAt.nil _ _, New.none _, h1, h2⟩
set_option maxHeartbeats 1000000 in
theorem rorder_any (d : Nat) (l : List UInt8) (n : Int) (w : World) (R : Hid (DAt w d l)) :
    Calls Try.prog 24 #[.pointer (some ⟨d, 0, none⟩), .int .i64 n] w fun e w' => ROrdP w d (ordV n l) (ordE n l) (ordR n l) e w' := by
  by_cases h : n < 0 ∨ 64 < n
  · obtain ⟨e1, e2, e3⟩ := ord_no (l := l) h
    rw [e1, e2, e3]
    clear e1 e2 e3
    by_cases h1 : n < 0
    · clear h
      go_enter Try.func24, Try.ntmps24
      go_wp2
      go_ret2
      exact ROrdP.no R.out (But.refl _ _ _)
    · have h2 : 64 < n := by omega
      clear h
      go_enter Try.func24, Try.ntmps24
      go_wp2
      go_ret2
      exact ROrdP.no R.out (But.refl _ _ _)
  · have h1 : ¬ n < 0 := by omega
    have h2 : ¬ 64 < n := by omega
    obtain ⟨k, rfl⟩ : ∃ k : Nat, n = k := ⟨n.toNat, by omega⟩
    by_cases q : l.length < 4 * (k - 1)
    · obtain ⟨e1, e2, e3⟩ := ord_few h (by simpa using q)
      rw [e1, e2, e3]
      have z1 : IntKind.i64.wrap ((k : Int) - 1) = (k : Int) - 1 := by rw [IntKind.wrap_i64]; omega
      have z2 : IntKind.i64.wrap (4 * ((k : Int) - 1)) = 4 * ((k : Int) - 1) := by rw [IntKind.wrap_i64]; omega
      have q4 : (1 : Int) < (k : Int) := by omega
      have c0 := R.out.1
      obtain ⟨S, hS⟩ : ∃ S : ByteArray, ⟨l.toArray⟩ = S := ⟨_, rfl⟩
      have hz : S.size = l.length := by rw [← hS]; exact ba_size l
      rw [hS] at c0
      have q3 : (S.size : Int) < 4 * ((k : Int) - 1) := by omega
      clear e1 e2 e3 h hS hz
      go_enter Try.func24, Try.ntmps24
      go_wp2
      go_ret2
      exact ROrdP.no R.out (But.refl _ _ _)
    · obtain ⟨e1, e2, e3⟩ := ord_ok h (by simpa using q)
      rw [e1, e2, e3, Int.toNat_natCast]
      refine Calls.mono (rorder_yes d l k (by omega) (by omega) w R) ?_
      rintro e w1 ⟨a, c, rfl, h1, h2, h3, h4⟩
      exact ⟨a, c, by rw [ord_len], h1, h2, h3, h4⟩
end Go.Proofs.Ytfieabdjfhkpjaa
