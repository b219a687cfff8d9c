/- Boxes of the program: lists of entries clipped, joined. -/
import Derived.Test.YtjpaodepnacimaaGreatDoorZbG24
import Derived.Lib.AppendZerosOnto
namespace Go.Proofs.YtjpaodepnacimaaGreatDoor
open Go.RowKit Go.Proofs.Fd Go.Proofs.Dk Go.Proofs.Lg Go.Proofs.Bx
set_option maxRecDepth 20000
set_option maxHeartbeats 1000000 in
theorem xgrow_nil (n : Nat) (h0 : 0 < n) (hb : n * 32 ≤ 140737488355328) (w : World) :
    Calls Tryz.prog 158 #[.slice none 0 0, .int .i64 (n : Int)] w fun e w' => ∃ v, e = .returned v ∧ w'.ownsRow w.heap.size 58 2 v 0 [] ∧ Below w.heap.size w w' := by
  obtain ⟨i0, hi, hz0, hz1, hz2⟩ := info_parts infoX
  have hr : ∀ ty, (Builtin.append_ #[83, 3] ty #[.slice none 0 0, .int .i64 (n : Int)]).run Tryz.prog w = .ok (.slice (some ⟨w.heap.size, 0, none⟩) n (grownCap w n 0 58)) (w.drew.alloc (.cells (([] : List Value).toArray ++ Builtin.zeroCells (Value.agg #[.string ⟨#[]⟩, .string ⟨#[]⟩]).cells n ++ Builtin.zeroCells (Value.agg #[.string ⟨#[]⟩, .string ⟨#[]⟩]).cells (grownCap w n 0 58 - n)) 58)) := fun ty => by
    have h := Go.Lib.run_append_grow_zeros w 83 3 ty 58 i0 (.agg #[.string ⟨#[]⟩, .string ⟨#[]⟩]) .i64 .i64 Tryz.underlying83 Tryz.underlying3 hi hz0 none 0 0 [] (run_firstCells_none w.drew _ 0 0 0) n h0 (by rw [hz1]; decide) (by omega) (by omega) (by rw [hz2]; omega) (by rw [hz2, Nat.zero_add]; exact growslice_fits h0 hb)
    rw [Nat.zero_add] at h
    exact h
  have OW : Hid ((w.drew.alloc (.cells (([] : List Value).toArray ++ Builtin.zeroCells (Value.agg #[.string ⟨#[]⟩, .string ⟨#[]⟩]).cells n ++ Builtin.zeroCells (Value.agg #[.string ⟨#[]⟩, .string ⟨#[]⟩]).cells (grownCap w n 0 58 - n)) 58)).ownsRow w.heap.size 58 2 (.slice (some ⟨w.heap.size, 0, none⟩) 0 (grownCap w n 0 58)) 0 [] ∧ Below w.heap.size w (w.drew.alloc (.cells (([] : List Value).toArray ++ Builtin.zeroCells (Value.agg #[.string ⟨#[]⟩, .string ⟨#[]⟩]).cells n ++ Builtin.zeroCells (Value.agg #[.string ⟨#[]⟩, .string ⟨#[]⟩]).cells (grownCap w n 0 58 - n)) 58))) := by
    refine ⟨World.ownsRow_made w.drew _ _ (Nat.le_refl _) (grownCap_le_maxLen w n 0 _ (by unfold maxLen; omega)) ?_, (Below.refl _ _).drew.alloc (Nat.le_refl _) _⟩
    have := grownCap_ge w n 0 58
    rw [Array.size_append, Array.size_append, size_zeroCells, size_zeroCells]
    show 0 + n * 2 + (grownCap w n 0 58 - n) * 2 = grownCap w n 0 58 * 2
    omega
  have hG : n ≤ grownCap w n 0 58 := grownCap_ge w _ _ _
  have hG63 : grownCap w n 0 58 ≤ 9223372036854775807 := by
    have := grownCap_le_maxLen w n 0 58 (by unfold maxLen; omega)
    unfold maxLen at this
    omega
  generalize grownCap w n 0 58 = G at *
  generalize w.drew.alloc (.cells (([] : List Value).toArray ++ Builtin.zeroCells (Value.agg #[.string ⟨#[]⟩, .string ⟨#[]⟩]).cells n ++ Builtin.zeroCells (Value.agg #[.string ⟨#[]⟩, .string ⟨#[]⟩]).cells (G - n)) 58) = W at *
  have g1 : ¬ ((n : Int) < 0) := by omega
  have g2 : (0 : Int) < (n : Int) := by omega
  go_enter Tryz.func158, Tryz.ntmps158
  go_wp2_with (at_builtin; refine Go.Lib.wpList_append_run _ rfl _ _ _ _ rfl _ _ rfl rfl _ _ (hr _) ?_)
  all_goals
    go_ret
    exact ⟨_, rfl, OW.out⟩
theorem xgrow_any (n : Nat) (hb : n ≤ 1000000) (w : World) :
    Calls Tryz.prog 158 #[.slice none 0 0, .int .i64 (n : Int)] w fun e w' => ∃ v, e = .returned v ∧ w'.ownsRow w.heap.size 58 2 v 0 [] ∧ Below w.heap.size w w' := by
  by_cases h0 : 0 < n
  · exact xgrow_nil n h0 (by omega) w
  · obtain rfl : n = 0 := by omega
    clear h0 hb
    go_enter Tryz.func158, Tryz.ntmps158
    go_wp2
    go_ret
    exact ⟨_, rfl, World.ownsRow_nil _ _ _ _, Below.refl _ _⟩
theorem app_sl (base : Nat) (w : World) (ty : TypeId) (v : Value) (xs : List Sl) (h : w.ownsRow base 58 2 v xs.length (scx xs)) (hbase : base ≤ w.heap.size) (a : Option Addr) (n c : Nat) (l : List Sl) (hn : l.length = n) (hx : xs.length ≤ 1000000) (hl : n ≤ 1000000) (tx : SlAt w a l) :
    ∃ v' w', (Builtin.append_ #[83, 83] ty #[v, .slice a n c]).run Tryz.prog w = .ok v' w' ∧ w'.ownsRow base 58 2 v' (xs ++ l).length (scx (xs ++ l)) ∧ w.grownBy w' v.ownBlock := by
  obtain ⟨i0, hi, hz0, hz1, hz2⟩ := info_parts infoX
  cases a with
  | none =>
    have h0 : l = [] := by
      cases l with
      | nil => rfl
      | cons k r => obtain ⟨b, o, e, -⟩ := tx 0 (by simp); cases e
    subst h0
    have hn0 : n = 0 := hn.symm
    subst hn0
    refine ⟨v, w, ?_, by rw [List.append_nil]; exact h, World.grownBy.refl _ _⟩
    rcases h.2 with ⟨rfl, hh⟩ | ⟨g, c2, cur, rfl, _, _, hnc, _⟩
    · simp [Builtin.append_, run_underlying Tryz.underlying83, sizeOf, typeInfo, hi, Builtin.lenOf, Builtin.firstCells]
    · simp [Builtin.append_, run_underlying Tryz.underlying83, sizeOf, typeInfo, hi, Builtin.lenOf, Builtin.firstCells, hnc, storeCells]
  | some ad =>
    obtain ⟨v', w', r1, r2, r3, -, -⟩ := run_append_own_at (P := Tryz.prog) w base 83 ty 58 i0 _ 2 32 Tryz.underlying83 hi hz0 hz1 hz2 rfl (by decide) v xs.length (scx xs) h ad n c (scx l) (by rw [scx_len, hn]) (fun j u hj => tx.cells j u hj) (scx_one l) (by unfold maxLen; omega) (by omega) hbase
    refine ⟨v', w', r1, ?_, r3⟩
    rw [scx_app, List.length_append, hn]
    exact r2
set_option maxHeartbeats 2000000 in
theorem xconcat_any (B : Nat) (a1 a2 : Option Addr) (n1 n2 c1 c2 : Nat) (l1 l2 : List Sl) (hn1 : l1.length = n1) (hn2 : l2.length = n2) (hb1 : n1 ≤ 100000) (hb2 : n2 ≤ 100000) (w : World)
    (k0 : Hid (w.cell? ⟨B, 0, none⟩ = some (.slice a1 n1 c1))) (k1 : Hid (w.cell? ⟨B, 1, none⟩ = some (.slice a2 n2 c2))) (t1 : Hid (SlAt w a1 l1)) (t2 : Hid (SlAt w a2 l2)) :
    Calls Tryz.prog 139 #[.slice (some ⟨B, 0, none⟩) 2 2] w fun e w' => ∃ a c, e = .returned (.slice a (n1 + n2) c) ∧ Sli w' a (n1 + n2) c (l1 ++ l2) ∧ (∀ x, a = some x → w.heap.size ≤ x.block) ∧ Below w.heap.size w w' := by
  have H1 : Hid (l1.length = n1) := hn1
  have H2 : Hid (l2.length = n2) := hn2
  clear hn1 hn2
  go_enter Tryz.func139, Tryz.ntmps139
  go_wp2
  go_loopw [3, 11] (fun sz i wr => ∃ k : Nat, (k = 0 ∧ sz = .int .i64 0 ∨ k = 1 ∧ sz = .int .i64 (n1 : Int) ∨ k = 2 ∧ sz = .int .i64 ((n1 + n2 : Nat) : Int)) ∧ i = .int .i64 (k : Int) ∧ w = wr) (fun _ i _ => 2 - (intOf i).toNat)
  case atStart => exact ⟨0, .inl ⟨rfl, rfl⟩, rfl, rfl⟩
  case round =>
    obtain ⟨k, hk, rfl, rfl⟩ := hrel
    rcases hk with ⟨rfl, rfl⟩ | ⟨rfl, rfl⟩ | ⟨rfl, rfl⟩
    · have cc := k0.out
      have g1 : ¬ ((n1 : Int) < 0) := by omega
      go_wp2
      go_roundw
      case rel => exact ⟨1, .inr (.inl ⟨rfl, by go_num⟩), by go_num, trivial⟩
      case measure => simp [intOf]
    · have cc := k1.out
      have e1 : IntKind.i64.wrap ((n1 : Int) + (n2 : Int)) = ((n1 + n2 : Nat) : Int) := by rw [IntKind.wrap_i64]; omega
      have g1 : ¬ (((n1 + n2 : Nat) : Int) < 0) := by omega
      go_wp2
      go_roundw
      case rel => exact ⟨2, .inr (.inr ⟨rfl, by go_num⟩), by go_num, trivial⟩
      case measure => simp [intOf]
    · go_wp2_with fail
      refine Calls.mono (xgrow_any (n1 + n2) (by omega) _) ?_
      rintro e w1 ⟨v1, rfl, ow, hb1⟩
      have OW : Hid (w1.ownsRow w.heap.size 58 2 v1 ([] : List Sl).length (scx []) ∧ Below w.heap.size w w1) := ⟨ow, hb1⟩
      clear ow hb1
      go_wp2
      go_loopw [6, 27] (fun sl i wx => ∃ (k : Nat) (xs : List Sl), k ≤ 2 ∧ i = .int .i64 (k : Int) ∧ (k = 0 ∧ xs = [] ∨ k = 1 ∧ xs = l1 ∨ k = 2 ∧ xs = l1 ++ l2) ∧ Hid (wx.ownsRow w.heap.size 58 2 sl xs.length (scx xs) ∧ Below w.heap.size w wx)) (fun _ i _ => 2 - (intOf i).toNat)
      case atStart => exact ⟨0, [], by omega, rfl, .inl ⟨rfl, rfl⟩, OW.out⟩
      case round =>
        obtain ⟨k, xs, hk2, rfl, hx, J⟩ := hrel
        clear OW
        rcases hx with ⟨rfl, rfl⟩ | ⟨rfl, rfl⟩ | ⟨rfl, rfl⟩
        · have cc := cell_later J.out.2 k0.out
          obtain ⟨v2, w2, r1, r2, r3⟩ := app_sl w.heap.size wr 83 u6 [] J.out.1 J.out.2.size a1 n1 c1 l1 H1.out (by simp) (by omega) (t1.out.later J.out.2)
          have K : Hid (w2.ownsRow w.heap.size 58 2 v2 l1.length (scx l1) ∧ Below w.heap.size w w2) := ⟨by rw [List.nil_append] at r2; exact r2, J.out.2.grown r3 J.out.2.size (fun q hq => (J.out.1.lt q hq).1)⟩
          clear r2 r3 J
          go_wp2_with (first | (at_builtin; refine Go.Lib.wpList_append_run _ rfl _ _ _ _ rfl _ _ rfl rfl _ _ r1 ?_))
          go_roundw
          case rel => exact ⟨1, l1, by omega, by go_num, .inr (.inl ⟨rfl, rfl⟩), K.out⟩
          case measure => simp [intOf]
        · have cc := cell_later J.out.2 k1.out
          obtain ⟨v2, w2, r1, r2, r3⟩ := app_sl w.heap.size wr 83 u6 xs J.out.1 J.out.2.size a2 n2 c2 l2 H2.out (by have := H1.out; omega) (by omega) (t2.out.later J.out.2)
          have K : Hid (w2.ownsRow w.heap.size 58 2 v2 (xs ++ l2).length (scx (xs ++ l2)) ∧ Below w.heap.size w w2) := ⟨r2, J.out.2.grown r3 J.out.2.size (fun q hq => (J.out.1.lt q hq).1)⟩
          clear r2 r3 J
          go_wp2_with (first | (at_builtin; refine Go.Lib.wpList_append_run _ rfl _ _ _ _ rfl _ _ rfl rfl _ _ r1 ?_))
          go_roundw
          case rel => exact ⟨2, xs ++ l2, by omega, by go_num, .inr (.inr ⟨rfl, rfl⟩), K.out⟩
          case measure => simp [intOf]
        · have e12 : (l1 ++ l2).length = n1 + n2 := by rw [List.length_append, H1.out, H2.out]
          have J1 := J.out.1
          rw [e12] at J1
          obtain ⟨a, cp, rfl, tx, hnw⟩ := owns_sl e12 J1
          have FF : Hid (Sli wr a (n1 + n2) cp (l1 ++ l2) ∧ (∀ x, a = some x → w.heap.size ≤ x.block) ∧ Below w.heap.size w wr) := ⟨tx, hnw, J.out.2⟩
          clear tx J J1 hnw
          go_wp2
          go_ret
          exact ⟨a, cp, rfl, FF.out⟩
set_option maxHeartbeats 1000000 in
theorem xclip_any (a : Option Addr) (n c : Nat) (h : n ≤ c) (hc : c ≤ 9223372036854775807) (h0 : a = none → n = 0 ∧ c = 0) (w : World) :
    Calls Tryz.prog 138 #[.slice a n c] w fun e w' => e = .returned (.slice a n n) ∧ w' = w := by
  cases a with
  | none =>
    obtain ⟨rfl, rfl⟩ := h0 rfl
    clear h0
    go_enter Tryz.func138, Tryz.ntmps138
    go_wp2
    go_ret
    exact ⟨rfl, rfl⟩
  | some ad =>
    have g1 : (n : Int) ≤ (c : Int) := by omega
    have g2 : ¬ ((n : Int) < 0) := by omega
    clear h0
    go_enter Tryz.func138, Tryz.ntmps138
    go_wp2
    go_ret
    exact ⟨rfl, rfl⟩
theorem app_one (w : World) (ty : TypeId) (a : Option Addr) (n : Nat) (l : List Sl) (hn : l.length = n) (hb : n ≤ 1000000) (h : SlAt w a l) (h0 : a = none → n = 0) (g : Nat) (e : Sl) (hg : w.cell? ⟨g, 0, none⟩ = some (sv e.1) ∧ w.cell? ⟨g, 1, none⟩ = some (sv e.2)) :
    ∃ a' c' w', (Builtin.append_ #[83, 83] ty #[.slice a n n, .slice (some ⟨g, 0, none⟩) 1 1]).run Tryz.prog w = .ok (.slice a' (n + 1) c') w' ∧ Sli w' a' (n + 1) c' (l ++ [e]) ∧ (∀ x, a' = some x → w.heap.size ≤ x.block) ∧ Below w.heap.size w w' := by
  obtain ⟨i0, hi, hz0, hz1, hz2⟩ := info_parts infoX
  have he : SlAt w (some ⟨g, 0, none⟩) [e] := fun i hi => by
    obtain rfl : i = 0 := by simpa using hi
    exact ⟨g, 0, rfl, hg.1, hg.2⟩
  have hle : (l ++ [e]).length = n + 1 := by rw [List.length_append, hn]; rfl
  have fin : ∀ {v' : Value} {w' : World}, w'.ownsRow w.heap.size 58 2 v' (n + 1) (scx (l ++ [e])) → w.grownBy w' none → ∃ a' c', v' = .slice a' (n + 1) c' ∧ Sli w' a' (n + 1) c' (l ++ [e]) ∧ (∀ x, a' = some x → w.heap.size ≤ x.block) ∧ Below w.heap.size w w' := fun {v' w'} o g => by
    obtain ⟨a', c', e1, e2, e3⟩ := owns_sl hle o
    exact ⟨a', c', e1, e2, e3, (Below.refl _ _).grown g (Nat.le_refl _) (fun q hq => by cases hq)⟩
  cases a with
  | none =>
    have hn0 := h0 rfl
    subst hn0
    have hl0 : l = [] := List.length_eq_zero_iff.1 hn
    subst hl0
    obtain ⟨v', w', r1, r2, r3, -, -⟩ := run_append_own_at (P := Tryz.prog) w w.heap.size 83 ty 58 i0 _ 2 32 Tryz.underlying83 hi hz0 hz1 hz2 rfl (by decide) (.slice none 0 0) 0 [] (World.ownsRow_nil _ _ _ _) ⟨g, 0, none⟩ 1 1 (scx [e]) rfl (fun j u hj => he.cells j u hj) (scx_one _) (by unfold maxLen; decide) (by decide) (Nat.le_refl _)
    obtain ⟨a', c', e1, e2⟩ := fin r2 r3
    exact ⟨a', c', w', by rw [← e1]; exact r1, e2⟩
  | some ad =>
    obtain ⟨v', w', r1, r2, r3⟩ := run_append_arg_grows (P := Tryz.prog) w 83 ty 58 i0 _ 2 32 Tryz.underlying83 hi hz0 hz1 hz2 rfl (by decide) ad n n (scx l) (by rw [scx_len, hn]) (fun j u hj => h.cells j u hj) ⟨g, 0, none⟩ 1 1 (scx [e]) rfl (fun j u hj => he.cells j u hj) (by omega) (by unfold maxLen; omega) (by omega)
    rw [← scx_app] at r2
    obtain ⟨a', c', e1, e2⟩ := fin r2 r3
    exact ⟨a', c', w', by rw [← e1]; exact r1, e2⟩
end Go.Proofs.YtjpaodepnacimaaGreatDoor
