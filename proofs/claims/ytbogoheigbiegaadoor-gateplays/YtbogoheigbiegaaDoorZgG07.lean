/- Parts: LK1, LK3, PC, KS, KT. -/
import Derived.Test.YtbogoheigbiegaaDoorZgG05
import Derived.Test.YtbogoheigbiegaaDoorZgG06
import Derived.Lib.AppendZerosOnto
import Derived.Laws.OwnMore
import Derived.Test.YtbogoheigbiegaaDoorZgG02
namespace Go.Proofs.YtbogoheigbiegaaDoor
open Go.RowKit Go.Proofs.Fd Go.Proofs.Hs
set_option maxRecDepth 20000
theorem ext_size (S : ByteArray) (n : Nat) (h : n ≤ S.size) : (S.extract 0 n).size = n := by
  simp [ByteArray.size_extract]; omega
end Go.Proofs.YtbogoheigbiegaaDoor
namespace Go.Proofs.YtbogoheigbiegaaDoor
open Go.RowKit Go.Proofs.Fd Go.Proofs.Hs
set_option maxRecDepth 20000
def IntAt (w : World) (a : Option Addr) (cs : List Int) : Prop := ∀ i (hi : i < cs.length), ∃ b o, a = some ⟨b, o, none⟩ ∧ w.cell? ⟨b, o + i, none⟩ = some (.int .i64 cs[i])
theorem IntAt.later {W w1 : World} {a : Option Addr} {cs : List Int} (h : IntAt W a cs) (hb : Below W.heap.size W w1) : IntAt w1 a cs := fun i hi => by
  obtain ⟨b, o, e, hc⟩ := h i hi
  exact ⟨b, o, e, cell_later hb hc⟩
def scells (l : List ByteArray) : List Value := l.map fun s => .string s
theorem infoStr : (Tryd.prog.info? 9).map (fun i => (i.zero, i.size, i.bytes)) = some (some (.string ⟨#[]⟩), 1, 16) := by kernel_rfl
theorem owns_strs {w : World} {base n : Nat} {v : Value} {l : List ByteArray} (h : w.ownsRow base 9 1 v n (scells l)) : l.length = n ∧ ((v = .slice none 0 0 ∧ n = 0) ∨ ∃ g cap, v = .slice (some ⟨g, 0, none⟩) n cap ∧ StrAt w (some ⟨g, 0, none⟩) l) := by
  obtain ⟨h1, h2⟩ := h
  have hl : l.length = n := by simpa [scells] using h1
  refine ⟨hl, ?_⟩
  rcases h2 with h2 | ⟨g, cap, cur, rfl, -, hh, -, -, -, ht⟩
  · exact .inl h2
  · refine .inr ⟨g, cap, rfl, fun j hj => ⟨g, 0, rfl, ?_⟩⟩
    have e : cur[j]? = (scells l)[j]? := by
      rw [← ht, List.getElem?_take_of_lt (by omega)]; simp
    rw [Nat.zero_add]
    unfold World.cell?
    rw [hh]
    simp only [Option.isSome_none]
    show cur[j]? = _
    rw [e]; simp [scells, hj]
theorem ext_list (s : ByteArray) (a b : Nat) : (s.extract a b).data.toList = (s.data.toList.take b).drop a := by
  simp [ByteArray.data_extract, List.drop_take]
end Go.Proofs.YtbogoheigbiegaaDoor
namespace Go.Proofs.YtbogoheigbiegaaDoor
open Go.RowKit Go.Proofs.Fd Go.Proofs.Hs
set_option maxRecDepth 20000
set_option maxHeartbeats 1000000 in
theorem Grow_nil (n : Nat) (h0 : 0 < n) (hb : n * 16 ≤ 140737488355328) (w : World) :
    Calls Tryd.prog 70 #[.slice none 0 0, .int .i64 (n : Int)] w fun e w' => ∃ cap, e = .returned (.slice (some ⟨w.heap.size, 0, none⟩) 0 cap) ∧ w'.ownsRow w.heap.size 9 1 (.slice (some ⟨w.heap.size, 0, none⟩) 0 cap) 0 [] ∧ Below w.heap.size w w' := by
  obtain ⟨i0, hi, hz0, hz1, hz2⟩ := info_parts infoStr
  have hr : ∀ ty, (Builtin.append_ #[36, 3] ty #[.slice none 0 0, .int .i64 (n : Int)]).run Tryd.prog w = .ok (.slice (some ⟨w.heap.size, 0, none⟩) n (grownCap w n 0 9)) (w.drew.alloc (.cells (([] : List Value).toArray ++ Builtin.zeroCells (Value.string ⟨#[]⟩).cells n ++ Builtin.zeroCells (Value.string ⟨#[]⟩).cells (grownCap w n 0 9 - n)) 9)) := fun ty => by
    have h := Go.Lib.run_append_grow_zeros w 36 3 ty 9 i0 (.string ⟨#[]⟩) .i64 .i64 Tryd.underlying36 Tryd.underlying3 hi hz0 none 0 0 [] (run_firstCells_none w.drew _ 0 0 0) n h0 (by rw [hz1]; decide) (by omega) (by omega) (by rw [hz2]; omega) (by rw [hz2, Nat.zero_add]; exact growslice_fits h0 hb)
    rw [Nat.zero_add] at h
    exact h
  have OW : Hid ((w.drew.alloc (.cells (([] : List Value).toArray ++ Builtin.zeroCells (Value.string ⟨#[]⟩).cells n ++ Builtin.zeroCells (Value.string ⟨#[]⟩).cells (grownCap w n 0 9 - n)) 9)).ownsRow w.heap.size 9 1 (.slice (some ⟨w.heap.size, 0, none⟩) 0 (grownCap w n 0 9)) 0 [] ∧ Below w.heap.size w (w.drew.alloc (.cells (([] : List Value).toArray ++ Builtin.zeroCells (Value.string ⟨#[]⟩).cells n ++ Builtin.zeroCells (Value.string ⟨#[]⟩).cells (grownCap w n 0 9 - n)) 9))) := by
    refine ⟨World.ownsRow_made w.drew _ _ (Nat.le_refl _) (grownCap_le_maxLen w n 0 _ (by unfold maxLen; omega)) ?_, (Below.refl _ _).drew.alloc (Nat.le_refl _) _⟩
    have := grownCap_ge w n 0 9
    rw [Array.size_append, Array.size_append, size_zeroCells, size_zeroCells]
    show 0 + n * 1 + (grownCap w n 0 9 - n) * 1 = grownCap w n 0 9 * 1
    omega
  have hG : n ≤ grownCap w n 0 9 := grownCap_ge w _ _ _
  have hG63 : grownCap w n 0 9 ≤ 9223372036854775807 := by
    have := grownCap_le_maxLen w n 0 9 (by unfold maxLen; omega)
    unfold maxLen at this
    omega
  generalize grownCap w n 0 9 = G at *
  generalize w.drew.alloc (.cells (([] : List Value).toArray ++ Builtin.zeroCells (Value.string ⟨#[]⟩).cells n ++ Builtin.zeroCells (Value.string ⟨#[]⟩).cells (G - n)) 9) = W at *
  have g1 : ¬ ((n : Int) < 0) := by omega
  have g2 : (0 : Int) < (n : Int) := by omega
  go_enter Tryd.func70, Tryd.ntmps70
  go_wp2_with (at_builtin; refine Go.Lib.wpList_append_run _ rfl _ _ _ _ rfl _ _ rfl rfl _ _ (hr _) ?_)
  all_goals
    go_ret
    exact ⟨G, rfl, OW.out⟩
theorem append_none (base : Nat) (ty : TypeId) (w : World) (v : Value) (n cap : Nat) (xs : List Value) (hown : w.ownsRow base 9 1 v n xs) :
    (Builtin.append_ #[36, 36] ty #[v, .slice none 0 cap]).run Tryd.prog w = .ok v w := by
  obtain ⟨i0, hi, hz0, hz1, hz2⟩ := info_parts infoStr
  rcases hown.2 with ⟨rfl, rfl⟩ | ⟨g, c, cur, rfl, _, _, hnc, _⟩
  · simp [Builtin.append_, run_underlying Tryd.underlying36, sizeOf, typeInfo, hi, Builtin.lenOf, Builtin.firstCells]
  · simp [Builtin.append_, run_underlying Tryd.underlying36, sizeOf, typeInfo, hi, Builtin.lenOf, Builtin.firstCells, hnc, storeCells]
set_option maxHeartbeats 1000000 in
theorem Concat_two (B b1 : Nat) (x : ByteArray) (a : Option Addr) (ks : List ByteArray) (n cap : Nat) (hn : Hid (ks.length = n)) (hb : Hid (n * 16 + 1024 ≤ 140737488355328)) (w : World)
    (c0 : Hid (w.cell? ⟨B, 0, none⟩ = some (.slice (some ⟨b1, 0, none⟩) 1 1))) (c1 : Hid (w.cell? ⟨B, 1, none⟩ = some (.slice a n cap))) (cx : Hid (w.cell? ⟨b1, 0, none⟩ = some (.string x))) (hs : Hid (StrAt w a ks)) :
    Calls Tryd.prog 56 #[.slice (some ⟨B, 0, none⟩) 2 2] w fun e w' => ∃ g cap', e = .returned (.slice (some ⟨g, 0, none⟩) (n + 1) cap') ∧ StrAt w' (some ⟨g, 0, none⟩) (x :: ks) ∧ Below w.heap.size w w' := by
  have hb47 : n ≤ 9000000000000 := by have := hb.out; omega
  obtain ⟨i0, hi, hz0, hz1, hz2⟩ := info_parts infoStr
  go_enter Tryd.func56, Tryd.ntmps56
  go_wp2
  go_loopw [3, 11] (fun sz i wr => ∃ k : Nat, (k = 0 ∧ sz = .int .i64 0 ∨ k = 1 ∧ sz = .int .i64 1 ∨ k = 2 ∧ sz = .int .i64 ((n + 1 : Nat) : Int)) ∧ i = .int .i64 (k : Int) ∧ w = wr) (fun _ i _ => 2 - (intOf i).toNat)
  case atStart => exact ⟨0, .inl ⟨rfl, rfl⟩, rfl, rfl⟩
  case round =>
    obtain ⟨k, hk, rfl, rfl⟩ := hrel
    rcases hk with ⟨rfl, rfl⟩ | ⟨rfl, rfl⟩ | ⟨rfl, rfl⟩
    · have cc := c0.out
      go_wp2
      go_roundw
      case rel => exact ⟨1, .inr (.inl ⟨rfl, by go_num⟩), by go_num, trivial⟩
      case measure => simp [intOf]
    · have cc := c1.out
      have e1 : IntKind.i64.wrap (1 + (n : Int)) = (n : Int) + 1 := by rw [IntKind.wrap_i64]; omega
      have g1 : ¬ ((n : Int) + 1 < 0) := by omega
      go_wp2
      go_roundw
      case rel => exact ⟨2, .inr (.inr ⟨rfl, by go_num⟩), by go_num, trivial⟩
      case measure => simp [intOf]
    · go_wp2_with fail
      refine Calls.mono (Grow_nil (n + 1) (by omega) (by have := hb.out; omega) _) ?_
      rintro e w1 ⟨cp, rfl, ow, hb1⟩
      have OW : Hid (w1.ownsRow w.heap.size 9 1 (.slice (some ⟨w.heap.size, 0, none⟩) 0 cp) 0 [] ∧ Below w.heap.size w w1) := ⟨ow, hb1⟩
      clear ow hb1
      go_wp2
      go_loopw [6, 27] (fun sl i wx => ∃ k : Nat, k ≤ 2 ∧ i = .int .i64 (k : Int) ∧ Hid ((k = 0 ∧ wx.ownsRow w.heap.size 9 1 sl 0 [] ∨ k = 1 ∧ wx.ownsRow w.heap.size 9 1 sl 1 [.string x] ∨ k = 2 ∧ wx.ownsRow w.heap.size 9 1 sl (n + 1) (scells (x :: ks))) ∧ Below w.heap.size w wx)) (fun _ i _ => 2 - (intOf i).toNat)
      case atStart => exact ⟨0, by omega, rfl, .inl ⟨rfl, OW.out.1⟩, OW.out.2⟩
      case round =>
        obtain ⟨k, hk2, rfl, J⟩ := hrel
        clear OW
        obtain ⟨J1, J2⟩ := J.out
        clear J
        rcases J1 with ⟨rfl, ow⟩ | ⟨rfl, ow⟩ | ⟨rfl, ow⟩
        · have cc := cell_later J2 c0.out
          have cn : ∀ (j : Nat) (u : Value), ([Value.string x] : List Value)[j]? = some u → wr.cell? ((⟨b1, 0, none⟩ : Addr).add j) = some u := fun j u hj => by
            obtain ⟨rfl, rfl⟩ : j = 0 ∧ u = .string x := by
              cases j with
              | zero => simp at hj; exact ⟨rfl, hj.symm⟩
              | succ j => simp at hj
            rw [Addr.add_mid]
            exact cell_later J2 cx.out
          have I : Hid (wr.ownsRow w.heap.size 9 1 _ 0 [] ∧ Below w.heap.size w wr) := ⟨ow, J2⟩
          have CN : Hid (∀ (j : Nat) (u : Value), ([Value.string x] : List Value)[j]? = some u → wr.cell? ((⟨b1, 0, none⟩ : Addr).add j) = some u) := cn
          clear ow J2 cn
          go_wp2_with (first
            | (at_builtin; refine wpList_append_own _ rfl _ _ 36 rfl w.heap.size 9 i0 (.string ⟨#[]⟩) 1 16 Tryd.underlying36 hi hz0 hz1 hz2 rfl (by decide) _ _ _ rfl I.out.1 ⟨b1, 0, none⟩ 1 1 [.string x] rfl rfl CN.out (by intro v hv; simp at hv; subst hv; rfl) (by unfold maxLen; omega) (by omega) I.out.2.size ?_; intro v1 w2 hown1 hgrow1 hnil1; simp only [Nat.zero_add, List.nil_append] at hown1))
          go_roundw
          case rel => exact ⟨1, by omega, by go_num, .inr (.inl ⟨rfl, hown1⟩), I.out.2.grown hgrow1 I.out.2.size (fun q hq => (I.out.1.lt q hq).1)⟩
          case measure => simp [intOf]
        · have cc := cell_later J2 c1.out
          have I : Hid (wr.ownsRow w.heap.size 9 1 _ 1 [.string x] ∧ Below w.heap.size w wr) := ⟨ow, J2⟩
          have SA := StrAt.later hs.out J2 rfl
          clear ow J2
          cases a with
          | none =>
            have hn0 : ks = [] := by
              cases ks with
              | nil => rfl
              | cons k r => obtain ⟨b, o, e, -⟩ := SA 0 (by simp); cases e
            subst hn0
            have HN : Hid (n = 0) := by have := hn.out; show n = 0; simpa using this.symm
            have AN : Hid (∀ ty cap, (Builtin.append_ #[36, 36] ty #[_, .slice none n cap]).run Tryd.prog wr = .ok _ wr) := fun ty cap => by rw [HN.out]; exact append_none _ ty wr _ 1 cap _ I.out.1
            go_wp2_with (first | (at_builtin; refine Go.Lib.wpList_append_run _ rfl _ _ _ _ rfl _ _ rfl rfl _ _ (AN.out _ _) ?_))
            go_roundw
            case rel => exact ⟨2, by omega, by go_num, .inr (.inr ⟨rfl, by rw [HN.out]; exact I.out.1⟩), I.out.2⟩
            case measure => simp [intOf]
          | some ad =>
            have CN : Hid (∀ (j : Nat) (u : Value), (scells ks)[j]? = some u → wr.cell? (ad.add j) = some u) := fun j u hj => by
              have hj' : j < ks.length := by
                have := (List.getElem?_eq_some_iff.1 hj).1
                simpa [scells] using this
              obtain ⟨b, o, e, hc⟩ := SA j hj'
              obtain rfl := Option.some.inj e
              rw [Addr.add_mid, hc]
              simp [scells, hj'] at hj
              rw [hj]
            clear SA
            go_wp2_with (first
              | (at_builtin; refine wpList_append_own _ rfl _ _ 36 rfl w.heap.size 9 i0 (.string ⟨#[]⟩) 1 16 Tryd.underlying36 hi hz0 hz1 hz2 rfl (by decide) _ _ _ rfl I.out.1 ad n cap (scells ks) rfl (by rw [Nat.mul_one]; simpa [scells] using hn.out) CN.out (by intro v hv; simp only [scells, List.mem_map] at hv; obtain ⟨x, -, rfl⟩ := hv; rfl) (by unfold maxLen; omega) (by have := hb.out; omega) I.out.2.size ?_; intro v1 w2 hown1 hgrow1 hnil1))
            go_roundw
            case rel => exact ⟨2, by omega, by go_num, .inr (.inr ⟨rfl, by rw [Nat.add_comm 1 n] at hown1; exact hown1⟩), I.out.2.grown hgrow1 I.out.2.size (fun q hq => (I.out.1.lt q hq).1)⟩
            case measure => simp [intOf]
        · obtain ⟨hl1, h2⟩ := owns_strs ow
          rcases h2 with ⟨rfl, h3⟩ | ⟨g, cap', rfl, h3⟩
          · omega
          · have J3 : Hid (StrAt wr (some ⟨g, 0, none⟩) (x :: ks) ∧ Below w.heap.size w wr) := ⟨h3, J2⟩
            clear ow J2 h3
            go_wp2
            go_ret
            exact ⟨g, cap', rfl, J3.out⟩
end Go.Proofs.YtbogoheigbiegaaDoor
namespace Go.Proofs.Hs
def grow (l : List UInt32) : List UInt32 := l ++ [l.getD (l.length - 16) 0 + (spread (l.getD (l.length - 15) 0) 7 18 3) + l.getD (l.length - 7) 0 + (spread (l.getD (l.length - 2) 0) 17 19 10)]
def sch (r : List UInt32) : Nat → List UInt32
  | 0 => r
  | k + 1 => grow (sch r k)
theorem sch_len (r : List UInt32) (k : Nat) : (sch r k).length = r.length + k := by
  induction k with
  | zero => rfl
  | succ k ih => rw [sch, grow, List.length_append, ih]; rfl
theorem sch_keep (r : List UInt32) (k d m : Nat) (h : m < r.length + k) : (sch r (k + d)).getD m 0 = (sch r k).getD m 0 := by
  induction d with
  | zero => rfl
  | succ d ih =>
    rw [← ih, show k + (d + 1) = (k + d) + 1 by omega, sch, grow]
    rw [List.getD_eq_getElem?_getD, List.getElem?_append_left (by rw [sch_len]; omega), ← List.getD_eq_getElem?_getD]
def wf (r : List UInt32) (m : Nat) : UInt32 := (sch r 48).getD m 0
theorem wf_lo (r : List UInt32) (hr : r.length = 16) (m : Nat) (h : m < 16) : wf r m = r.getD m 0 := by
  have := sch_keep r 0 48 m (by omega)
  rw [Nat.zero_add] at this
  exact this
theorem wf_hi (r : List UInt32) (hr : r.length = 16) (m : Nat) (h : 16 ≤ m) (h64 : m < 64) : wf r m = wf r (m - 16) + (spread (wf r (m - 15)) 7 18 3 + wf r (m - 7) + spread (wf r (m - 2)) 17 19 10) := by
  obtain ⟨k, rfl⟩ : ∃ k, m = 16 + k := ⟨m - 16, by omega⟩
  have e : ∀ j, j < 16 + k → wf r j = (sch r k).getD j 0 := fun j hj => by
    have := sch_keep r k (48 - k) j (by omega)
    rw [show k + (48 - k) = 48 by omega] at this
    exact this
  have e2 : wf r (16 + k) = (sch r (k + 1)).getD (16 + k) 0 := by
    have := sch_keep r (k + 1) (48 - (k + 1)) (16 + k) (by omega)
    rw [show k + 1 + (48 - (k + 1)) = 48 by omega] at this
    exact this
  rw [e2, sch, grow, List.getD_eq_getElem?_getD, List.getElem?_append_right (by rw [sch_len]; omega), sch_len, hr, Nat.sub_self]
  rw [e (16 + k - 16) (by omega), e (16 + k - 15) (by omega), e (16 + k - 7) (by omega), e (16 + k - 2) (by omega)]
  show ((sch r k).getD (16 + k - 16) 0 + spread ((sch r k).getD (16 + k - 15) 0) 7 18 3 + (sch r k).getD (16 + k - 7) 0 + spread ((sch r k).getD (16 + k - 2) 0) 17 19 10) = _
  rw [UInt32.add_assoc, UInt32.add_assoc, UInt32.add_assoc]
def rnds (v : V8) (f : Nat → UInt32) : Nat → V8
  | 0 => v
  | n + 1 => rnd (rnds v f n) (kst.getD n 0) (f n)
theorem ring_of (v : V8) (r : List UInt32) (hr : r.length = 16) (f : Nat → UInt32) (hf0 : ∀ m, m < 16 → f m = r.getD m 0) (hf1 : ∀ m, 16 ≤ m → m < 64 → f m = f (m - 16) + (spread (f (m - 15)) 7 18 3 + f (m - 7) + spread (f (m - 2)) 17 19 10)) : ∀ i, i ≤ 64 → (rounds v r i).2.length = 16 ∧ (∀ m, m < 64 → i ≤ m + 16 → (m < i ∨ m < 16) → (rounds v r i).2.getD (m % 16) 0 = f m) ∧ (rounds v r i).1 = rnds v f i := by
  intro i
  induction i with
  | zero =>
    intro _
    refine ⟨hr, fun m hm _ h => ?_, rfl⟩
    rw [Nat.mod_eq_of_lt (by omega), hf0 m (by omega)]
    rfl
  | succ i ih =>
    intro hi
    obtain ⟨h1, h2, h3⟩ := ih (by omega)
    have key : (wring (rounds v r i).2 i).length = 16 ∧ (∀ m, m < 64 → i + 1 ≤ m + 16 → (m < i + 1 ∨ m < 16) → (wring (rounds v r i).2 i).getD (m % 16) 0 = f m) := by
      by_cases h16 : i < 16
      · have e : wring (rounds v r i).2 i = (rounds v r i).2 := by unfold wring; rw [if_pos h16]
        rw [e]
        exact ⟨h1, fun m hm _ h => h2 m hm (by omega) (by omega)⟩
      · have e : wring (rounds v r i).2 i = (rounds v r i).2.set (i % 16) (f i) := by
          unfold wring rat
          rw [if_neg h16]
          have q0 := h2 (i - 16) (by omega) (by omega) (by omega)
          have q15 := h2 (i - 15) (by omega) (by omega) (by omega)
          have q7 := h2 (i - 7) (by omega) (by omega) (by omega)
          have q2 := h2 (i - 2) (by omega) (by omega) (by omega)
          rw [show (i - 16) % 16 = i % 16 by omega] at q0
          rw [q0, q15, q7, q2, ← hf1 i (by omega) (by omega)]
        rw [e]
        refine ⟨by simpa using h1, fun m hm hm1 hm2 => ?_⟩
        by_cases hmi : m = i
        · subst hmi
          rw [List.getD_eq_getElem?_getD, List.getElem?_set_self (by rw [h1]; omega)]
          rfl
        · rw [List.getD_eq_getElem?_getD, List.getElem?_set_ne (by omega), ← List.getD_eq_getElem?_getD]
          exact h2 m hm (by omega) (by omega)
    refine ⟨key.1, key.2, ?_⟩
    show rnd (rounds v r i).1 (kst.getD i 0) (rat (wring (rounds v r i).2 i) i) = _
    rw [h3]
    unfold rat
    rw [key.2 i (by omega) (by omega) (by omega)]
    rfl
theorem ring_inv (v : V8) (r : List UInt32) (hr : r.length = 16) (i : Nat) (hi : i ≤ 64) : (rounds v r i).2.length = 16 ∧ (rounds v r i).1 = rnds v (wf r) i :=
  ⟨(ring_of v r hr (wf r) (wf_lo r hr) (wf_hi r hr) i hi).1, (ring_of v r hr (wf r) (wf_lo r hr) (wf_hi r hr) i hi).2.2⟩
def word4 (a b c d : UInt8) : UInt32 := UInt32.ofNat (((a.toNat * 256 + b.toNat) * 256 + c.toNat) * 256 + d.toNat)
def words : List UInt8 → List UInt32
  | a :: b :: c :: d :: r => word4 a b c d :: words r
  | _ => []
theorem push4 (x : UInt32) (a b c d : UInt8) : UInt32.ofNat ((UInt32.ofNat ((UInt32.ofNat ((UInt32.ofNat (x.toNat * 256 + a.toNat)).toNat * 256 + b.toNat)).toNat * 256 + c.toNat)).toNat * 256 + d.toNat) = word4 a b c d := by
  unfold word4
  apply UInt32.toNat_inj.1
  simp only [UInt32.toNat_ofNat']
  have h1 := a.toNat_lt
  have h2 := b.toNat_lt
  have h3 := c.toNat_lt
  have h4 := d.toNat_lt
  omega
theorem four (m : Mach) (n0 j : Nat) (h0 : n0 % 64 = 0) (hlt : n0 < 2 ^ 64) (hj : j < 16) (hn : m.n = n0 + 4 * j) (hr : m.r.length = 16) (a b c d : UInt8) :
    (((m.push a).push b).push c).push d = ⟨m.v, m.r.set j (word4 a b c d), (n0 + 4 * (j + 1)) % 2 ^ 64⟩ := by
  have k0 : m.n / 4 % 16 = j := by omega
  have s1 : m.push a = ⟨m.v, m.r.set j (UInt32.ofNat ((m.r.getD j 0).toNat * 256 + a.toNat)), n0 + 4 * j + 1⟩ := by
    unfold Mach.push; rw [k0, hn, Nat.mod_eq_of_lt (by omega)]
  have g : ∀ x : UInt32, (m.r.set j x).getD j 0 = x := fun x => by
    rw [List.getD_eq_getElem?_getD, List.getElem?_set_self (by rw [hr]; exact hj)]; rfl
  have s2 : (m.push a).push b = ⟨m.v, m.r.set j (UInt32.ofNat ((UInt32.ofNat ((m.r.getD j 0).toNat * 256 + a.toNat)).toNat * 256 + b.toNat)), n0 + 4 * j + 2⟩ := by
    rw [s1]; unfold Mach.push
    simp only
    rw [show (n0 + 4 * j + 1) / 4 % 16 = j by omega, g, List.set_set, Nat.mod_eq_of_lt (by omega)]
  have s3 : ((m.push a).push b).push c = ⟨m.v, m.r.set j (UInt32.ofNat ((UInt32.ofNat ((UInt32.ofNat ((m.r.getD j 0).toNat * 256 + a.toNat)).toNat * 256 + b.toNat)).toNat * 256 + c.toNat)), n0 + 4 * j + 3⟩ := by
    rw [s2]; unfold Mach.push
    simp only
    rw [show (n0 + 4 * j + 2) / 4 % 16 = j by omega, g, List.set_set, Nat.mod_eq_of_lt (by omega)]
  rw [s3]; unfold Mach.push
  simp only
  rw [show (n0 + 4 * j + 3) / 4 % 16 = j by omega, g, List.set_set, push4]
  rw [show n0 + 4 * j + 3 + 1 = n0 + 4 * (j + 1) by omega]
end Go.Proofs.Hs
namespace Go.Proofs.Hs
def pushes (m : Mach) (l : List UInt8) : Mach := l.foldl Mach.push m
theorem pushes_words (n0 : Nat) (h0 : n0 % 64 = 0) (hlt : n0 < 2 ^ 64) : ∀ (k j : Nat) (l : List UInt8) (m : Mach), l.length = 4 * k → j + k = 16 → m.r.length = 16 → m.n = (n0 + 4 * j) % 2 ^ 64 → pushes m l = ⟨m.v, m.r.take j ++ words l, (n0 + 64) % 2 ^ 64⟩ := by
  intro k
  induction k with
  | zero =>
    intro j l m hl hj hr hn
    obtain rfl : l = [] := List.length_eq_zero_iff.1 (by omega)
    obtain rfl : j = 16 := by omega
    show m = _
    obtain ⟨v, r, n⟩ := m
    simp only at hr hn ⊢
    rw [List.take_of_length_le (by omega), hn]
    show _ = (⟨v, r ++ [], _⟩ : Mach)
    rw [List.append_nil]
  | succ k ih =>
    intro j l m hl hj hr hn
    match l, hl with
    | a :: b :: c :: d :: rest, hl =>
      have hj16 : j < 16 := by omega
      rw [Nat.mod_eq_of_lt (by omega)] at hn
      have f := four m n0 j h0 hlt hj16 hn hr a b c d
      show pushes ((((m.push a).push b).push c).push d) rest = _
      rw [f, ih (j + 1) rest _ (by simp at hl; omega) (by omega) (by simpa using hr) rfl]
      simp only
      congr 1
      show (m.r.set j (word4 a b c d)).take (j + 1) ++ words rest = m.r.take j ++ (word4 a b c d :: words rest)
      rw [List.take_succ_eq_append_getElem (by simp [hr]; omega), List.getElem_set_self, List.take_set_of_le (Nat.le_refl _), List.append_assoc]
      rfl
theorem words_len : ∀ (k : Nat) (l : List UInt8), l.length = 4 * k → (words l).length = k := by
  intro k
  induction k with
  | zero => intro l hl; obtain rfl : l = [] := List.length_eq_zero_iff.1 (by omega); rfl
  | succ k ih =>
    intro l hl
    match l, hl with
    | a :: b :: c :: d :: rest, hl =>
      show (words rest).length + 1 = k + 1
      rw [ih rest (by simp at hl; omega)]
theorem text_pushes : ∀ (l : List UInt8) (m : Mach), 0 < l.length → m.n % 64 + l.length = 64 → m.text l = (pushes m l).mix := by
  intro l
  induction l with
  | nil => intro m h _; simp at h
  | cons c r ih =>
    intro m _ hn
    simp only [List.length_cons] at hn
    have e : (m.push c).n = (m.n + 1) % 2 ^ 64 := rfl
    show (m.put c).text r = (pushes (m.push c) r).mix
    unfold Mach.put
    by_cases hr : r.length = 0
    · obtain rfl : r = [] := List.length_eq_zero_iff.1 hr
      simp only
      rw [if_pos (by rw [e]; simp at hn; omega)]
      rfl
    · simp only
      rw [if_neg (by rw [e]; omega)]
      exact ih _ (by omega) (by rw [e]; omega)
def comp (v : V8) (b : List UInt8) : V8 := v.plus (rnds v (wf (words b)) 64)
theorem mixb (v : V8) (r : List UInt32) (n : Nat) : ((⟨v, r, n⟩ : Mach).mix).v = v.plus (rounds v r 64).1 ∧ ((⟨v, r, n⟩ : Mach).mix).n = n ∧ ((⟨v, r, n⟩ : Mach).mix).r = (rounds v r 64).2 := by
  refine ⟨?_, ?_, ?_⟩ <;> simp only [Mach.mix]
theorem block_in (m : Mach) (l : List UInt8) (hl : l.length = 64) (h0 : m.n % 64 = 0) (hlt : m.n < 2 ^ 64) (hr : m.r.length = 16) :
    (m.text l).v = comp m.v l ∧ (m.text l).n = (m.n + 64) % 2 ^ 64 ∧ (m.text l).r.length = 16 := by
  have e : m.text l = (⟨m.v, words l, (m.n + 64) % 2 ^ 64⟩ : Mach).mix := by
    rw [text_pushes l m (by omega) (by omega), pushes_words m.n h0 hlt 16 0 l m (by omega) (by omega) hr (by rw [Nat.mod_eq_of_lt (by omega)]; rfl)]
    rfl
  have hw := words_len 16 l (by omega)
  have inv := ring_inv m.v (words l) hw 64 (by omega)
  obtain ⟨a, b, c⟩ := mixb m.v (words l) ((m.n + 64) % 2 ^ 64)
  rw [e]
  refine ⟨?_, b, by rw [c]; exact inv.1⟩
  rw [a, inv.2]
  unfold comp
  rfl
def cmpN (v : V8) (l : List UInt8) : Nat → V8
  | 0 => v
  | k + 1 => comp (cmpN v l k) ((l.drop (64 * k)).take 64)
theorem text_append (m : Mach) (s t : List UInt8) : m.text (s ++ t) = (m.text s).text t := by unfold Mach.text; rw [List.foldl_append]
theorem blocks_in (m : Mach) (h0 : m.n % 64 = 0) (hlt : m.n < 2 ^ 64) (hr : m.r.length = 16) (l : List UInt8) : ∀ k, 64 * k ≤ l.length →
    (m.text (l.take (64 * k))).v = cmpN m.v l k ∧ (m.text (l.take (64 * k))).n % 64 = 0 ∧ (m.text (l.take (64 * k))).n < 2 ^ 64 ∧ (m.text (l.take (64 * k))).r.length = 16 := by
  intro k
  induction k with
  | zero => intro _; exact ⟨rfl, h0, hlt, hr⟩
  | succ k ih =>
    intro hk
    obtain ⟨h1, h2, h3, h4⟩ := ih (by omega)
    have e : l.take (64 * (k + 1)) = l.take (64 * k) ++ (l.drop (64 * k)).take 64 := by
      rw [show 64 * (k + 1) = 64 * k + 64 by omega, List.take_add]
    rw [e, text_append]
    obtain ⟨q1, q2, q3⟩ := block_in _ ((l.drop (64 * k)).take 64) (by rw [List.length_take, List.length_drop]; omega) h2 h3 h4
    rw [q1, h1, q2]
    exact ⟨rfl, by omega, Nat.mod_lt _ (by decide), q3⟩
def pd (l : List UInt8) : List UInt8 := l ++ ([128] ++ List.replicate ((119 - l.length % 64) % 64) 0 ++ be8 (8 * l.length % 2 ^ 64))
theorem pd_len (l : List UInt8) : (pd l).length = l.length + (119 - l.length % 64) % 64 + 9 := by
  unfold pd be8
  simp
  omega
theorem put_count (m : Mach) (c : UInt8) : (m.put c).n = (m.n + 1) % 2 ^ 64 := by
  unfold Mach.put Mach.push Mach.mix
  simp only
  split <;> rfl
theorem text_count (l : List UInt8) : ∀ m : Mach, m.n < 2 ^ 64 → (m.text l).n = (m.n + l.length) % 2 ^ 64 := by
  induction l with
  | nil => intro m h; exact (Nat.mod_eq_of_lt h).symm
  | cons c r ih =>
    intro m h
    show ((m.put c).text r).n = _
    rw [ih _ (by rw [put_count]; exact Nat.mod_lt _ (by decide)), put_count, List.length_cons]
    omega
theorem sha_pd (l : List UInt8) (hl : l.length < 2 ^ 63) : sha l = (cmpN start.v (pd l) ((pd l).length / 64)).out := by
  have hn : (start.text l).n = l.length := by
    rw [text_count l start (by decide)]
    show (0 + l.length) % 2 ^ 64 = _
    omega
  have e : sha l = (start.text (pd l)).v.out := by
    unfold sha Mach.fin pd
    rw [text_append, text_append, text_append]
    show (((start.text l).put 128).pad.text (be8 (8 * (start.text l).n % 2 ^ 64))).v.out = ((((start.text l).text [128]).text (List.replicate ((119 - l.length % 64) % 64) 0)).text (be8 (8 * l.length % 2 ^ 64))).v.out
    unfold Mach.pad
    rw [put_count, hn]
    have : padn ((l.length + 1) % 2 ^ 64) = (119 - l.length % 64) % 64 := by unfold padn; omega
    rw [this]
    rfl
  have hlen := pd_len l
  have h64 : 64 * ((pd l).length / 64) = (pd l).length := by omega
  have b := (blocks_in start (by decide) (by decide) rfl (pd l) ((pd l).length / 64) (by omega)).1
  rw [h64, List.take_of_length_le (Nat.le_refl _)] at b
  rw [e, b]
end Go.Proofs.Hs
