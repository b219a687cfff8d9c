/- In any order, once. -/
import Derived.Test.YtdepjiocmbbdpaaDoorPtWa
namespace Go.Proofs.YtdepjiocmbbdpaaDoor
open Go.RowKit Go.Proofs.Fd Go.Proofs.Pt
set_option maxRecDepth 20000

/-- Numbers that lie in a row. -/
def IntAt (w : World) (a : Option Addr) (cs : List Int) : Prop := ∀ i (hi : i < cs.length), ∃ b o, a = some ⟨b, o, none⟩ ∧ w.cell? ⟨b, o + i, none⟩ = some (.int .i64 cs[i])
theorem IntAt.later {W w1 : World} {a : Option Addr} {cs : List Int} (h : IntAt W a cs) (hb : Below W.heap.size W w1) : IntAt w1 a cs := fun i hi => by
  obtain ⟨b, o, e, c⟩ := h i hi
  exact ⟨b, o, e, cell_later hb c⟩
/-- Which came, as cells. -/
def bcl (c : Nat → Bool) (n : Nat) : List Value := (List.range n).map fun k => .bool (c k)
theorem bcl_len (c : Nat → Bool) (n : Nat) : (bcl c n).length = n := by unfold bcl; simp
theorem bcl_get (c : Nat → Bool) (n k : Nat) (h : k < n) : (bcl c n)[k]? = some (.bool (c k)) := by unfold bcl; rw [List.getElem?_map, List.getElem?_range h]; rfl
theorem bcl_set (c : Nat → Bool) (n k : Nat) : (bcl c n).set k (.bool true) = bcl (upd c k) n := by
  apply List.ext_getElem
  · simp [bcl]
  · intro j h1 h2
    rw [List.getElem_set]
    by_cases hj : k = j
    · subst hj; simp [bcl, upd]
    · rw [if_neg hj]; simp [bcl, upd, Ne.symm hj]
theorem infoBool : (Tryd.prog.info? 4).map (fun i => (i.zero, i.size, i.bytes)) = some (some (.bool false), 1, 1) := by kernel_rfl
theorem make_bools (n : Nat) (hn : n ≤ 1000000) (h1 : 0 < n) (w : World) : ∃ W : World, (Instr.makeSlice 48 (.int .i64 (n : Int)) (.int .i64 (n : Int))).run Tryd.prog w = .ok (.slice (some ⟨w.heap.size, 0, none⟩) n n) W
    ∧ Blk W w.heap.size (bcl (fun _ => false) n) ∧ Below w.heap.size w W := by
  obtain ⟨i0, hi, hz0, hz1, hz2⟩ := info3 infoBool
  have h := run_make (P := Tryd.prog) w 48 4 i0 (.bool false) Tryd.underlying48 hi hz0 .i64 .i64 (n : Int) (n : Int) (by omega) (Int.le_refl _) (by rw [hz2]; omega) (by omega)
  have e : madeCells (Value.bool false).cells (n * 1) = (bcl (fun _ => false) n).toArray := by
    apply Array.ext
    · rw [size_madeCells, List.size_toArray, bcl_len, Nat.mul_one]
    · intro i h1 h2
      simp [madeCells, Value.cells, bcl, Nat.mod_one]
  rw [Int.toNat_natCast, hz1, e] at h
  exact ⟨_, h, Blk.new w _ _ (fun e => by have := congrArg List.length e; rw [bcl_len] at this; simp at this; omega), (Below.refl _ _).alloc (Nat.le_refl _) _⟩
/-- What stands while parts are taken: cc came, by the law; c, by the joiner. -/
structure Wi (w : World) (i b : Bs) (u G C j : Nat) (cc c : Nat → Bool) (W : World) : Prop where
  k : Kh W
  g : Blk W G (scl (cut i b))
  ca : Blk W C (bcl cc (cnt b.length))
  j : JW u (fun g => g = C) W j (stt 3 3 i b c)
  d : Below w.heap.size w W
  u : u ≤ W.heap.size
theorem Wi.later {w : World} {i b : Bs} {u G C j : Nat} {cc c : Nat → Bool} {W W' : World} (h : Wi w i b u G C j cc c W) (hb : Below W.heap.size W W') : Wi w i b u G C j cc c W' := ⟨h.k.later hb, h.g.later hb, h.ca.later hb, h.j.later hb, chain h.d hb, Nat.le_trans h.u hb.size⟩
theorem Wi.set {w : World} {i b : Bs} {u G C j : Nat} {cc c : Nat → Bool} {W : World} (h : Wi w i b u G C j cc c W) (k : Nat) (hk : k < cnt b.length) (hC : w.heap.size ≤ C) (hGC : G ≠ C) (hK : 0 < w.heap.size) : Wi w i b u G C j (upd cc k) c (W.setCell ⟨C, k, none⟩ (.bool true)) := by
  have bf := Bf.put1 W C k [.bool true]
  refine ⟨h.k.bf bf (by omega), h.g.bf bf hGC, ?_, h.j.bf bf (fun g e => .inl e), h.d.trans (bf.below (fun g e => by rw [e]; exact hC) h.d.size), by have := bf.size; exact Nat.le_trans h.u this⟩
  have := h.ca.set k (by rw [bcl_len]; exact hk) (.bool true)
  rw [bcl_set] at this; exact this
theorem Wi.take {w : World} {i b : Bs} {u G C j : Nat} {cc c c' : Nat → Bool} {W W' : World} (h : Wi w i b u G C j cc c W) (hj : JW u (fun g => g = C) W' j (stt 3 3 i b c')) (hb : Bf (fun g => u ≤ g ∧ ¬ g = C) W W') (hk : Kh W') (hG : G < u) (hu : w.heap.size ≤ u) : Wi w i b u G C j cc c' W' :=
  ⟨hk, h.g.bf hb (by omega), h.ca.bf hb (fun z => z.2 rfl), hj, h.d.trans (hb.below (fun g e => Nat.le_trans hu e.1) h.d.size), Nat.le_trans h.u hb.size⟩
set_option maxHeartbeats 4000000 in
theorem PartsWhole_walk (id body : ByteArray) (hs1 : body.size ≤ 140737488351232) (a : Option Addr) (os : List Int) (L cap : Nat) (hn : Hid (os.length = L)) (hL : L ≤ 17592186043904) (w : World) (hK : Kh w) (hc : Hid (IntAt w a os)) :
    Calls Tryd.prog 5 #[.string id, .string body, .slice a L cap] w fun e w' => e = .returned (.bool true) ∧ Below w.heap.size w w' := by
  obtain ⟨b, hb⟩ : ∃ b, body.data.toList = b := ⟨_, rfl⟩
  have eb : body = st b := by rw [← hb, ba_st]
  have sb := st_size b
  obtain ⟨i, hi⟩ : ∃ i, fit8 id.data.toList = i := ⟨_, rfl⟩
  have i8 : i.length = 8 := hi ▸ fit8_len _
  have WK : Hid _ := works22_any w hK
  have FT : Hid (∀ W, Calls Tryd.prog 18 #[.string id, .int .i64 8] W fun e w' => e = .returned (.string (st i)) ∧ Below W.heap.size W w') := fun W => by have := fit_any id W; rw [hi] at this; exact this
  have HK : Hid (Kh w) := hK
  have NW : Hid (∀ W, Calls Tryd.prog 13 #[.int .i64 3, .int .i64 3] W fun e w' => e = .returned (.tuple #[.pointer (some ⟨W.heap.size, 0, none⟩), .int .i64 0]) ∧ JW W.heap.size (fun _ => False) w' W.heap.size (stt 3 3 i b (fun _ => false)) ∧ Below W.heap.size W w') := fun W => by rw [stt_none]; exact NewJ 3 3 (by decide) (by decide) W
  subst eb
  clear hb hi hK hs1
  by_cases hl : 2048 < b.length
  · have CU : Hid (∀ W, Calls Tryd.prog 9 #[.string (st i), .string (st b)] W fun e w' => e = .returned (.tuple #[.slice none 0 0, .int .i64 2]) ∧ w' = W) := fun W => Cut_long (st i) (st b) (by rw [st_size, i8]) (by rw [st_size]; exact hl) W
    have g1 : (2048 : Int) < (b.length : Int) := by omega
    generalize st b = Bd at *
    generalize st i = Id at *
    clear hc hn
    go_enter Tryd.func5, Tryd.ntmps5
    go_wp2_with fail
    refine Calls.mono WK.out ?_
    rintro e w1 ⟨rfl, b1⟩
    go_wp2_with fail
    refine Calls.mono (FT.out _) ?_
    rintro e w2 ⟨rfl, b2⟩
    have B2 : Hid (Below w.heap.size w w2) := chain b1 b2
    go_wp2_with fail
    refine Calls.mono (CU.out _) ?_
    rintro e w3 ⟨rfl, rfl⟩
    clear b1 b2
    go_wp2_with fail
    refine Calls.mono (NW.out _) ?_
    rintro e w4 ⟨rfl, -, b4⟩
    have B4 : Hid (Below w.heap.size w w4) := chain B2.out b4
    clear b4 NW CU FT WK
    go_wp2
    go_ret
    exact ⟨rfl, B4.out⟩
  have hl' : b.length ≤ 2048 := by omega
  have CU : Hid (∀ W, Kh W → Calls Tryd.prog 9 #[.string (st i), .string (st b)] W fun e w' => ∃ G, e = .returned (.tuple #[.slice (some ⟨G, 0, none⟩) (cnt b.length) (cnt b.length), .int .i64 0]) ∧ Blk w' G (scl (cut i b)) ∧ W.heap.size ≤ G ∧ Below W.heap.size W w') := fun W h => Cut_ok i b i8 hl' W h
  have n1 := cnt_pos b.length
  have n11 := cnt_le _ hl'
  have CC : Hid (∀ W G, Blk W G (scl (cut i b)) → ∀ k, k < cnt b.length → W.cell? ⟨G, k, none⟩ = some (.string (st (tx (tpart i b k))))) := fun W G h k hk => cut_cell h k hk
  have BC : Hid (∀ W C cc, Blk W C (bcl cc (cnt b.length)) → ∀ k, k < cnt b.length → W.cell? ⟨C, k, none⟩ = some (.bool (cc k))) := fun W C cc h k hk => h.c k _ (bcl_get cc _ k hk)
  have TO : Hid (∀ u G C j cc c k W, c k = true → k < cnt b.length → Wi w i b u G C j cc c W → G < u → w.heap.size ≤ u → C < W.heap.size → Calls Tryd.prog 15 #[.pointer (some ⟨j, 0, none⟩), .string (st (tx (tpart i b k)))] W fun e w' => e = .returned (.tuple #[.agg #[.string ⟨#[]⟩, .string ⟨#[]⟩], .bool false, .int .i64 6]) ∧ Wi w i b u G C j cc c w') := fun u G C j cc c k W h1 h2 h3 h4 h5 h6 => by
    refine (take_old u (fun g => g = C) j 3 3 (by decide) (by decide) i b i8 hl' c k h2 h1 W h3.k (Nat.lt_of_lt_of_le HK.out.1 h5) (fun g hg => by rw [hg]; exact h6) h3.u h3.j).mono ?_
    rintro e w' ⟨rfl, q1, q2, q3⟩
    exact ⟨rfl, h3.take q1 q2 q3 h4 h5⟩
  have TN : Hid (∀ u G C j cc c k W, c k = false → k < cnt b.length → Wi w i b u G C j cc c W → G < u → w.heap.size ≤ u → C < W.heap.size → Calls Tryd.prog 15 #[.pointer (some ⟨j, 0, none⟩), .string (st (tx (tpart i b k)))] W fun e w' => e = .returned (ansV (if miss (upd c k) (cnt b.length) = 0 then some (i, b) else none) 0) ∧ Wi w i b u G C j cc (upd c k) w') := fun u G C j cc c k W h1 h2 h3 h4 h5 h6 => by
    refine (take_new u (fun g => g = C) j 3 3 (by decide) (by decide) i b i8 hl' c k h2 h1 W h3.k (Nat.lt_of_lt_of_le HK.out.1 h5) (fun g hg => by rw [hg]; exact h6) h3.u h3.j).mono ?_
    rintro e w' ⟨rfl, q1, q2, q3⟩
    exact ⟨rfl, h3.take q1 q2 q3 h4 h5⟩
  have WS : Hid (∀ u G C j cc c k W, k < cnt b.length → Wi w i b u G C j cc c W → w.heap.size ≤ C → G ≠ C → Wi w i b u G C j (upd cc k) c (W.setCell ⟨C, k, none⟩ (.bool true))) := fun u G C j cc c k W h1 h2 h3 h4 => h2.set k h1 h3 h4 HK.out.1
  have WT : Hid (∀ u G C j cc c W, miss c (cnt b.length) = 0 → Wi w i b u G C j cc c W → Calls Tryd.prog 17 #[.pointer (some ⟨j, 0, none⟩)] W fun e w' => e = .returned (.int .i64 0) ∧ w' = W) := fun u G C j cc c W h1 h2 => by
    obtain ⟨vS, vD, B, a, -⟩ := h2.j
    have := Waits_any j _ vS vD B W a
    rw [stt_waits 3 3 i b c h1] at this
    exact this
  have seI : ((st i).toList == (st i).toList) = true := by simp
  have seB : ((st b).toList == (st b).toList) = true := by simp
  have MZ := miss_zero
  have MU : Hid (∀ c k, k < cnt b.length → c k = false → miss (upd c k) (cnt b.length) + 1 = miss c (cnt b.length)) := fun c k h1 h2 => (miss_upd c k (cnt b.length)).2 h1 h2
  have MT : Hid (∀ c k, k < cnt b.length → c k = false → miss c (cnt b.length) ≠ 0) := fun c k h1 h2 z => by have := miss_zero c _ z k h1; rw [h2] at this; cases this
  have MA : Hid (∀ c, (∀ t, t < cnt b.length → c t = true) → miss c (cnt b.length) = 0) := fun c h => by
    apply Nat.eq_zero_of_not_pos
    intro hp
    have : ∀ n, n ≤ cnt b.length → miss c n = 0 := fun n => by
      induction n with
      | zero => intro _; rfl
      | succ n ih => intro hn; unfold miss; rw [ih (by omega), h n (by omega)]; rfl
    rw [this _ (Nat.le_refl _)] at hp; exact absurd hp (Nat.lt_irrefl _)
  have ML : Hid (∀ c, miss c (cnt b.length) ≤ cnt b.length) := fun c => miss_le c _
  have M0 : miss (fun _ => false) (cnt b.length) = cnt b.length := miss_none _
  obtain ⟨MBv, hMB⟩ : ∃ f : Nat → World → Prop, f = fun C W => ∃ V, (Instr.makeSlice 48 (.int .i64 (cnt b.length : Int)) (.int .i64 (cnt b.length : Int))).run Tryd.prog W = .ok (.slice (some ⟨W.heap.size, 0, none⟩) (cnt b.length) (cnt b.length)) V := ⟨_, rfl⟩
  have MB : Hid (∀ W, ∃ V, (Instr.makeSlice 48 (.int .i64 (cnt b.length : Int)) (.int .i64 (cnt b.length : Int))).run Tryd.prog W = .ok (.slice (some ⟨W.heap.size, 0, none⟩) (cnt b.length) (cnt b.length)) V ∧ Blk V W.heap.size (bcl (fun _ => false) (cnt b.length)) ∧ Below W.heap.size W V) := fun W => make_bools _ (by omega) n1 W
  clear hMB MBv MZ
  obtain ⟨N, hN⟩ : ∃ N, cnt b.length = N := ⟨_, rfl⟩
  have HN : Hid (cnt b.length = N) := hN
  rw [hN] at CU n1 n11 CC TO TN WS WT MU MT MA ML M0 MB
  clear hN
  have g1 : ¬ (2048 : Int) < (b.length : Int) := by omega
  go_enter Tryd.func5, Tryd.ntmps5
  go_wp2_with fail
  refine Calls.mono WK.out ?_
  rintro e w1 ⟨rfl, b1⟩
  go_wp2_with fail
  refine Calls.mono (FT.out _) ?_
  rintro e w2 ⟨rfl, b2⟩
  have B2 : Hid (Below w.heap.size w w2) := chain b1 b2
  go_wp2_with fail
  refine Calls.mono (CU.out _ (HK.out.later B2.out)) ?_
  rintro e w3 ⟨G, rfl, g3, lG, b3⟩
  have F3 : Hid (Blk w3 G (scl (cut i b)) ∧ Below w.heap.size w w3) := ⟨g3, chain B2.out b3⟩
  clear b1 b2 g3 lG b3 WK FT CU B2
  go_wp2_with fail
  refine Calls.mono (NW.out _) ?_
  rintro e w4 ⟨rfl, j4, b4⟩
  obtain ⟨W5, r5, z5, n5⟩ := MB.out w4
  have lG : G < w3.heap.size := F3.out.1.lt
  have lw : w.heap.size ≤ w3.heap.size := F3.out.2.size
  obtain ⟨u, hu⟩ : ∃ u, w3.heap.size = u := ⟨_, rfl⟩
  obtain ⟨C, hC⟩ : ∃ u, w4.heap.size = u := ⟨_, rfl⟩
  have luC : u ≤ C := by rw [← hu, ← hC]; exact b4.size
  have I5 : Hid (Wi w i b u G C u (fun _ => false) (fun _ => false) W5 ∧ C < W5.heap.size) := by
    refine ⟨⟨HK.out.later (chain (chain F3.out.2 b4) n5), (F3.out.1.later b4).later n5, ?_, ?_, chain (chain F3.out.2 b4) n5, ?_⟩, ?_⟩
    · rw [HN.out, ← hC]; exact z5
    · rw [← hu, ← hC]
      obtain ⟨vS, vD, B, q1, q2⟩ := j4
      exact ⟨vS, vD, B, q1.later n5, fun g hg => ⟨(q2 g hg).1, fun e => by have := q1.lt hg; omega⟩⟩
    · rw [← hu]; exact Nat.le_trans b4.size n5.size
    · rw [← hC]; exact z5.lt
  rw [hu] at lG lw ⊢
  rw [hC] at r5
  have ms := r5
  clear j4 b4 z5 n5 F3 NW MB
  have hGC : G ≠ C := by omega
  have hwC : w.heap.size ≤ C := by omega
  go_wp2_with fail
  clear ms r5
  have wM : Hid (miss (fun _ => false) N = N) := M0
  have SB : Hid (b.length ≤ 2048) := hl'
  clear M0 hl' g1 luC hu hC
  go_loopw [12, 13, 14] (fun lv tv iv wr => ∃ (q : Nat) (c : Nat → Bool) (m : Nat), q ≤ 200 ∧ m ≤ N ∧ lv = .int .i64 (m : Int) ∧ tv = .bool (decide (m = 0)) ∧ iv = .int .i64 (q : Int) ∧ Hid (Wi w i b u G C u c c wr ∧ C < wr.heap.size ∧ q ≤ L + N ∧ (∀ t, L + t < q → t < N → c t = true) ∧ miss c N = m)) (fun _ _ iv _ => 200 - (intOf iv).toNat)
  case atStart =>
    have nz : ¬ N = 0 := by omega
    have I6 : Hid (Wi w i b u G C u (fun _ => false) (fun _ => false) W5 ∧ C < W5.heap.size ∧ 0 ≤ L + N ∧ (∀ t, L + t < 0 → t < N → (fun _ : Nat => false) t = true) ∧ miss (fun _ => false) N = N) := ⟨I5.out.1, I5.out.2, Nat.zero_le _, fun t h => absurd h (Nat.not_lt_zero _), wM.out⟩
    refine ⟨0, fun _ => false, N, Nat.zero_le _, Nat.le_refl _, rfl, ?_, rfl, I6⟩
    rw [decide_eq_false nz]
  case round =>
    obtain ⟨q, c, mm, hq, hmN, rfl, rfl, rfl, I⟩ := hrel
    clear I5
    have HM : Hid (miss c N = mm) := I.out.2.2.2.2
    by_cases hlt : q < L + N ∧ q < 200
    · have q1 : (q : Int) < (L : Int) + (N : Int) := by omega
      have q2 : (q : Int) < 200 := by omega
      by_cases hqL : q < L
      · have q3 : (q : Int) < (L : Int) := by omega
        have q0 : (0 : Int) ≤ (q : Int) := by omega
        obtain ⟨bb, oo, rfl, co⟩ := (hc.out.later I.out.1.d) q (by rw [hn.out]; exact hqL)
        obtain ⟨v, hv⟩ : ∃ v, os[q]'(by rw [hn.out]; exact hqL) = v := ⟨_, rfl⟩
        rw [hv] at co
        obtain ⟨k, hk⟩ : ∃ k : Nat, (IntKind.u64.wrap v).tmod (N : Int) = (k : Int) := ⟨((IntKind.u64.wrap v).tmod (N : Int)).toNat, by
          rw [IntKind.wrap_u64, Int.tmod_eq_emod_of_nonneg (by omega)]
          have := Int.emod_nonneg (v % 18446744073709551616) (show (N : Int) ≠ 0 by omega)
          omega⟩
        have hkN : k < N := by
          rw [IntKind.wrap_u64, Int.tmod_eq_emod_of_nonneg (by omega)] at hk
          have := Int.emod_lt_of_pos (v % 18446744073709551616) (show (0 : Int) < (N : Int) by omega)
          omega
        have WN : Hid (IntKind.u64.wrap (N : Int) = (N : Int)) := by show _ = _; rw [IntKind.wrap_u64]; omega
        have WK : Hid (IntKind.i64.wrap (k : Int) = (k : Int)) := by show _ = _; rw [IntKind.wrap_i64]; omega
        have HK2 : Hid ((v % 18446744073709551616).tmod (N : Int) = (k : Int) ∧ (IntKind.u64.wrap v).tmod (N : Int) = (k : Int)) := by refine ⟨?_, hk⟩; rw [← IntKind.wrap_u64]; exact hk
        clear hk
        have PR : Hid (∀ t, L + t < q + 1 → t < N → t ≠ k → c t = true) := fun t h1 h2 h3 => by omega
        have kz : (0 : Int) ≤ (k : Int) := by omega
        have kz2 : ¬ (k : Int) < 0 := by omega
        have kN : (k : Int) < (N : Int) := by omega
        have kN2 : ¬ (N : Int) ≤ (k : Int) := by omega
        have ck := CC.out _ _ I.out.1.g k hkN
        cases hck : c k with
        | true =>
          have W1 : Hid (wrap64 ((q : Int) + 1) = ((q + 1 : Nat) : Int)) := by show _ = _; unfold wrap64; omega
          have NX : Hid (q + 1 ≤ L + N ∧ ∀ t, L + t < q + 1 → t < N → c t = true) := ⟨by omega, fun t h1 h2 => by
            by_cases e : t = k
            · rw [e]; exact hck
            · exact PR.out t h1 h2 e⟩
          cases hdd : decide (mm = 0) with
          | true =>
            have DZ : Hid (decide (mm = 0) = true) := hdd
            clear hdd
            have II := I.out
            clear I
            have WN' := WN.out
            have WK' := WK.out
            have hk1 := HK2.out.1
            have hk2 := HK2.out.2
            go_upto_region 18 with fail
            refine wp_region_lit ?_
            refine wpList_plain rfl (fun K2 hK2 => ?_)
            go_simp
            refine hK2 _ _ ?_
            clear hK2 K2
            refine wpList_plain rfl (fun K2 hK2 => ?_)
            go_simp
            refine hK2 _ _ ?_
            clear hK2 K2
            refine wpList_plain rfl (fun K2 hK2 => ?_)
            go_simp
            refine hK2 _ _ ?_
            clear hK2 K2
            refine wpList_plain rfl (fun K2 hK2 => ?_)
            go_simp
            refine hK2 _ _ ?_
            clear hK2 K2
            refine wpList_plain rfl (fun K2 hK2 => ?_)
            go_simp
            refine hK2 _ _ ?_
            clear hK2 K2
            refine wpList_plain rfl (fun K2 hK2 => ?_)
            go_simp
            refine Calls.mono (TO.out _ _ _ _ _ c k _ hck hkN II.1 lG lw II.2.1) ?_
            rintro e wt ⟨rfl, it⟩
            obtain ⟨V, w8, rA, rS, t8, n8⟩ := told_new wt (⟨#[]⟩) (⟨#[]⟩)
            have AL : Hid _ := rA
            have ST : Hid _ := rS
            have I8 : Hid (Wi w i b u G C u c c w8 ∧ C < w8.heap.size) := ⟨it.later n8, Nat.lt_of_lt_of_le it.ca.lt n8.size⟩
            have d0 := t8.c 0 _ rfl
            have d1 := t8.c 1 _ rfl
            have lCt : ¬ wt.heap.size = C := by have := it.ca.lt; omega
            have bc8 := BC.out _ _ _ I8.out.1.ca k (by rw [HN.out]; exact hkN)
            have cf8 := I8.out.1.ca.f
            clear rA rS n8 it
            refine hK2 _ _ ?_
            clear hK2 K2
            try simp only [Act.put, List.setIfInBounds_toArray, List.set_cons_zero, List.set_cons_succ]
            refine wpList_plain rfl (fun K2 hK2 => ?_)
            go_simp
            refine hK2 _ _ ?_
            clear hK2 K2
            refine wpList_plain rfl (fun K2 hK2 => ?_)
            go_simp
            refine hK2 _ _ ?_
            clear hK2 K2
            refine wpList_plain rfl (fun K2 hK2 => ?_)
            go_simp
            refine hK2 _ _ ?_
            clear hK2 K2
            refine wpList_plain rfl (fun K2 hK2 => ?_)
            go_simp
            refine hK2 _ _ ?_
            clear hK2 K2
            refine wpList_plain rfl (fun K2 hK2 => wp_alloc_run _ rfl _ _ (AL.out) (hK2 _ _ ?_))
            try simp only [Act.put, List.setIfInBounds_toArray, List.set_cons_zero, List.set_cons_succ]
            refine wpList_plain rfl (fun K2 hK2 => wp_store_run _ _ _ rfl _ rfl _ rfl _ (ST.out) (hK2 _ _ ?_))
            try simp only [Act.put]
            refine wpList_plain rfl (fun K2 hK2 => ?_)
            go_simp
            refine hK2 _ _ ?_
            clear hK2 K2
            refine wpList_plain rfl (fun K2 hK2 => ?_)
            go_simp
            refine hK2 _ _ ?_
            clear hK2 K2
            refine wpList_nil ?_
            try simp only [Act.put, List.setIfInBounds_toArray, List.set_cons_zero, List.set_cons_succ]
            rw [hck] at bc8
            have HM2 := HM
            go_wp2
            go_roundw
            case rel => exact ⟨q + 1, c, mm, by omega, by omega, rfl, by rw [DZ.out], by go_num, I8.out.1, I8.out.2, NX.out.1, NX.out.2, HM2.out⟩
            case measure => simp [intOf]; omega
          | false =>
            have DZ : Hid (decide (mm = 0) = false) := hdd
            clear hdd
            have II := I.out
            clear I
            have WN' := WN.out
            have WK' := WK.out
            have hk1 := HK2.out.1
            have hk2 := HK2.out.2
            go_upto_region 18 with fail
            refine wp_region_lit ?_
            refine wpList_plain rfl (fun K2 hK2 => ?_)
            go_simp
            refine hK2 _ _ ?_
            clear hK2 K2
            refine wpList_plain rfl (fun K2 hK2 => ?_)
            go_simp
            refine hK2 _ _ ?_
            clear hK2 K2
            refine wpList_plain rfl (fun K2 hK2 => ?_)
            go_simp
            refine hK2 _ _ ?_
            clear hK2 K2
            refine wpList_plain rfl (fun K2 hK2 => ?_)
            go_simp
            refine hK2 _ _ ?_
            clear hK2 K2
            refine wpList_plain rfl (fun K2 hK2 => ?_)
            go_simp
            refine hK2 _ _ ?_
            clear hK2 K2
            refine wpList_plain rfl (fun K2 hK2 => ?_)
            go_simp
            refine Calls.mono (TO.out _ _ _ _ _ c k _ hck hkN II.1 lG lw II.2.1) ?_
            rintro e wt ⟨rfl, it⟩
            obtain ⟨V, w8, rA, rS, t8, n8⟩ := told_new wt (⟨#[]⟩) (⟨#[]⟩)
            have AL : Hid _ := rA
            have ST : Hid _ := rS
            have I8 : Hid (Wi w i b u G C u c c w8 ∧ C < w8.heap.size) := ⟨it.later n8, Nat.lt_of_lt_of_le it.ca.lt n8.size⟩
            have d0 := t8.c 0 _ rfl
            have d1 := t8.c 1 _ rfl
            have lCt : ¬ wt.heap.size = C := by have := it.ca.lt; omega
            have bc8 := BC.out _ _ _ I8.out.1.ca k (by rw [HN.out]; exact hkN)
            have cf8 := I8.out.1.ca.f
            clear rA rS n8 it
            refine hK2 _ _ ?_
            clear hK2 K2
            try simp only [Act.put, List.setIfInBounds_toArray, List.set_cons_zero, List.set_cons_succ]
            refine wpList_plain rfl (fun K2 hK2 => ?_)
            go_simp
            refine hK2 _ _ ?_
            clear hK2 K2
            refine wpList_plain rfl (fun K2 hK2 => ?_)
            go_simp
            refine hK2 _ _ ?_
            clear hK2 K2
            refine wpList_plain rfl (fun K2 hK2 => ?_)
            go_simp
            refine hK2 _ _ ?_
            clear hK2 K2
            refine wpList_plain rfl (fun K2 hK2 => ?_)
            go_simp
            refine hK2 _ _ ?_
            clear hK2 K2
            refine wpList_plain rfl (fun K2 hK2 => wp_alloc_run _ rfl _ _ (AL.out) (hK2 _ _ ?_))
            try simp only [Act.put, List.setIfInBounds_toArray, List.set_cons_zero, List.set_cons_succ]
            refine wpList_plain rfl (fun K2 hK2 => wp_store_run _ _ _ rfl _ rfl _ rfl _ (ST.out) (hK2 _ _ ?_))
            try simp only [Act.put]
            refine wpList_plain rfl (fun K2 hK2 => ?_)
            go_simp
            refine hK2 _ _ ?_
            clear hK2 K2
            refine wpList_plain rfl (fun K2 hK2 => ?_)
            go_simp
            refine hK2 _ _ ?_
            clear hK2 K2
            refine wpList_nil ?_
            try simp only [Act.put, List.setIfInBounds_toArray, List.set_cons_zero, List.set_cons_succ]
            rw [hck] at bc8
            have HM2 := HM
            go_wp2
            go_roundw
            case rel => exact ⟨q + 1, c, mm, by omega, by omega, rfl, by rw [DZ.out], by go_num, I8.out.1, I8.out.2, NX.out.1, NX.out.2, HM2.out⟩
            case measure => simp [intOf]; omega
        | false =>
          have hm1 : miss (upd c k) N + 1 = mm := by rw [← HM.out]; exact MU.out c k hkN hck
          obtain ⟨m2, hm2⟩ : ∃ m, miss (upd c k) N = m := ⟨_, rfl⟩
          rw [hm2] at hm1
          have HM2 : Hid (miss (upd c k) N = m2) := hm2
          clear hm2
          have W1 : Hid (wrap64 ((q : Int) + 1) = ((q + 1 : Nat) : Int)) := by show _ = _; unfold wrap64; omega
          have W2 : Hid (wrap64 ((mm : Int) - 1) = (m2 : Int)) := by show _ = _; unfold wrap64; omega
          have W3 : Hid ((mm : Int) - 1 = (m2 : Int)) := by show _ = _; omega
          have dzc : decide (mm = 0) = false := decide_eq_false (by omega)
          have NX : Hid (q + 1 ≤ L + N ∧ ∀ t, L + t < q + 1 → t < N → upd c k t = true) := ⟨by omega, fun t h1 h2 => by
            unfold upd
            by_cases e : t = k
            · rw [if_pos e]
            · rw [if_neg e]; exact PR.out t h1 h2 e⟩
          by_cases z : m2 = 0
          · have DZ : Hid (decide (0 = 0) = true) := rfl
            have II := I.out
            have TNK := TN.out _ _ _ _ c c k _ hck hkN II.1 lG lw II.2.1
            rw [HM2.out, if_pos z] at TNK
            simp only [ansV] at TNK
            have TT : Hid _ := TNK
            clear TNK I
            rw [dzc]
            clear dzc
            have WN' := WN.out
            have WK' := WK.out
            have hk1 := HK2.out.1
            have hk2 := HK2.out.2
            go_upto_region 18 with fail
            refine wp_region_lit ?_
            refine wpList_plain rfl (fun K2 hK2 => ?_)
            go_simp
            refine hK2 _ _ ?_
            clear hK2 K2
            refine wpList_plain rfl (fun K2 hK2 => ?_)
            go_simp
            refine hK2 _ _ ?_
            clear hK2 K2
            refine wpList_plain rfl (fun K2 hK2 => ?_)
            go_simp
            refine hK2 _ _ ?_
            clear hK2 K2
            refine wpList_plain rfl (fun K2 hK2 => ?_)
            go_simp
            refine hK2 _ _ ?_
            clear hK2 K2
            refine wpList_plain rfl (fun K2 hK2 => ?_)
            go_simp
            refine hK2 _ _ ?_
            clear hK2 K2
            refine wpList_plain rfl (fun K2 hK2 => ?_)
            go_simp
            refine Calls.mono (TT.out) ?_
            rintro e wt ⟨rfl, it⟩
            obtain ⟨V, w8, rA, rS, t8, n8⟩ := told_new wt (st i) (st b)
            have AL : Hid _ := rA
            have ST : Hid _ := rS
            have I8 : Hid (Wi w i b u G C u c (upd c k) w8 ∧ C < w8.heap.size) := ⟨it.later n8, Nat.lt_of_lt_of_le it.ca.lt n8.size⟩
            have d0 := t8.c 0 _ rfl
            have d1 := t8.c 1 _ rfl
            have lCt : ¬ wt.heap.size = C := by have := it.ca.lt; omega
            have bc8 := BC.out _ _ _ I8.out.1.ca k (by rw [HN.out]; exact hkN)
            have cf8 := I8.out.1.ca.f
            clear rA rS n8 it
            refine hK2 _ _ ?_
            clear hK2 K2
            try simp only [Act.put, List.setIfInBounds_toArray, List.set_cons_zero, List.set_cons_succ]
            refine wpList_plain rfl (fun K2 hK2 => ?_)
            go_simp
            refine hK2 _ _ ?_
            clear hK2 K2
            refine wpList_plain rfl (fun K2 hK2 => ?_)
            go_simp
            refine hK2 _ _ ?_
            clear hK2 K2
            refine wpList_plain rfl (fun K2 hK2 => ?_)
            go_simp
            refine hK2 _ _ ?_
            clear hK2 K2
            refine wpList_plain rfl (fun K2 hK2 => ?_)
            go_simp
            refine hK2 _ _ ?_
            clear hK2 K2
            refine wpList_plain rfl (fun K2 hK2 => wp_alloc_run _ rfl _ _ (AL.out) (hK2 _ _ ?_))
            try simp only [Act.put, List.setIfInBounds_toArray, List.set_cons_zero, List.set_cons_succ]
            refine wpList_plain rfl (fun K2 hK2 => wp_store_run _ _ _ rfl _ rfl _ rfl _ (ST.out) (hK2 _ _ ?_))
            try simp only [Act.put]
            refine wpList_plain rfl (fun K2 hK2 => ?_)
            go_simp
            refine hK2 _ _ ?_
            clear hK2 K2
            refine wpList_plain rfl (fun K2 hK2 => ?_)
            go_simp
            refine hK2 _ _ ?_
            clear hK2 K2
            refine wpList_nil ?_
            try simp only [Act.put, List.setIfInBounds_toArray, List.set_cons_zero, List.set_cons_succ]
            rw [hck] at bc8
            have I9 : Hid _ := WS.out _ _ _ _ _ _ k _ hkN I8.out.1 hwC hGC
            have lC : Hid (C < (w8.setCell ⟨C, k, none⟩ (.bool true)).heap.size) := by show _ < _; simpa using I8.out.2
            have d0' : (w8.setCell ⟨C, k, none⟩ (.bool true)).cell? ⟨wt.heap.size, 0, none⟩ = some (.string (st i)) := by rw [World.cell?_setCell_other _ _ _ _ (by intro h; simp only [Addr.mk.injEq] at h; exact lCt (by first | exact h.1 | exact h.1.symm))]; exact d0
            have d1' : (w8.setCell ⟨C, k, none⟩ (.bool true)).cell? ⟨wt.heap.size, 1, none⟩ = some (.string (st b)) := by rw [World.cell?_setCell_other _ _ _ _ (by intro h; simp only [Addr.mk.injEq] at h; exact lCt (by first | exact h.1 | exact h.1.symm))]; exact d1
            clear lCt d0 d1
            subst z
            have w3 := W3.out
            go_upto_region 28 with fail
            refine wp_region_lit ?_
            refine wpList_plain rfl (fun K2 hK2 => ?_)
            go_simp
            refine hK2 _ _ ?_
            clear hK2 K2
            refine wpList_plain rfl (fun K2 hK2 => ?_)
            go_simp
            refine hK2 _ _ ?_
            clear hK2 K2
            refine wpList_plain rfl (fun K2 hK2 => ?_)
            go_simp
            refine hK2 _ _ ?_
            clear hK2 K2
            refine wpList_plain rfl (fun K2 hK2 => ?_)
            go_simp
            refine hK2 _ _ ?_
            clear hK2 K2
            refine wpList_plain rfl (fun K2 hK2 => ?_)
            go_simp
            refine hK2 _ _ ?_
            clear hK2 K2
            refine BigFrame.wpList_want (by first | rfl | simp [Region.wanted, yielded]) (fun K2 hK2 => ?_)
            go_simp
            refine hK2 _ _ ?_
            clear hK2 K2
            refine BigFrame.wpList_want (by first | rfl | simp [Region.wanted, yielded]) (fun K2 hK2 => ?_)
            go_simp
            refine hK2 _ _ ?_
            clear hK2 K2
            refine BigFrame.wpList_want (by first | rfl | simp [Region.wanted, yielded]) (fun K2 hK2 => ?_)
            go_simp
            refine hK2 _ _ ?_
            clear hK2 K2
            refine BigFrame.wpList_want (by first | rfl | simp [Region.wanted, yielded]) (fun K2 hK2 => ?_)
            go_simp
            refine hK2 _ _ ?_
            clear hK2 K2
            refine wpList_plain rfl (fun K2 hK2 => ?_)
            go_simp
            refine hK2 _ _ ?_
            clear hK2 K2
            refine wpList_nil ?_
            try simp only [Act.put, List.setIfInBounds_toArray, List.set_cons_zero, List.set_cons_succ]
            go_wp2
            go_roundw
            case rel => exact ⟨q + 1, (upd c k), 0, by omega, by omega, rfl, by rw [DZ.out], by go_num, I9.out, lC.out, NX.out.1, NX.out.2, HM2.out⟩
            case measure => simp [intOf]; omega
          · have DZ : Hid (decide (m2 = 0) = false) := decide_eq_false z
            have II := I.out
            have TNK := TN.out _ _ _ _ c c k _ hck hkN II.1 lG lw II.2.1
            rw [HM2.out, if_neg z] at TNK
            simp only [ansV] at TNK
            have TT : Hid _ := TNK
            clear TNK I
            rw [dzc]
            clear dzc
            have WN' := WN.out
            have WK' := WK.out
            have hk1 := HK2.out.1
            have hk2 := HK2.out.2
            go_upto_region 18 with fail
            refine wp_region_lit ?_
            refine wpList_plain rfl (fun K2 hK2 => ?_)
            go_simp
            refine hK2 _ _ ?_
            clear hK2 K2
            refine wpList_plain rfl (fun K2 hK2 => ?_)
            go_simp
            refine hK2 _ _ ?_
            clear hK2 K2
            refine wpList_plain rfl (fun K2 hK2 => ?_)
            go_simp
            refine hK2 _ _ ?_
            clear hK2 K2
            refine wpList_plain rfl (fun K2 hK2 => ?_)
            go_simp
            refine hK2 _ _ ?_
            clear hK2 K2
            refine wpList_plain rfl (fun K2 hK2 => ?_)
            go_simp
            refine hK2 _ _ ?_
            clear hK2 K2
            refine wpList_plain rfl (fun K2 hK2 => ?_)
            go_simp
            refine Calls.mono (TT.out) ?_
            rintro e wt ⟨rfl, it⟩
            obtain ⟨V, w8, rA, rS, t8, n8⟩ := told_new wt (⟨#[]⟩) (⟨#[]⟩)
            have AL : Hid _ := rA
            have ST : Hid _ := rS
            have I8 : Hid (Wi w i b u G C u c (upd c k) w8 ∧ C < w8.heap.size) := ⟨it.later n8, Nat.lt_of_lt_of_le it.ca.lt n8.size⟩
            have d0 := t8.c 0 _ rfl
            have d1 := t8.c 1 _ rfl
            have lCt : ¬ wt.heap.size = C := by have := it.ca.lt; omega
            have bc8 := BC.out _ _ _ I8.out.1.ca k (by rw [HN.out]; exact hkN)
            have cf8 := I8.out.1.ca.f
            clear rA rS n8 it
            refine hK2 _ _ ?_
            clear hK2 K2
            try simp only [Act.put, List.setIfInBounds_toArray, List.set_cons_zero, List.set_cons_succ]
            refine wpList_plain rfl (fun K2 hK2 => ?_)
            go_simp
            refine hK2 _ _ ?_
            clear hK2 K2
            refine wpList_plain rfl (fun K2 hK2 => ?_)
            go_simp
            refine hK2 _ _ ?_
            clear hK2 K2
            refine wpList_plain rfl (fun K2 hK2 => ?_)
            go_simp
            refine hK2 _ _ ?_
            clear hK2 K2
            refine wpList_plain rfl (fun K2 hK2 => ?_)
            go_simp
            refine hK2 _ _ ?_
            clear hK2 K2
            refine wpList_plain rfl (fun K2 hK2 => wp_alloc_run _ rfl _ _ (AL.out) (hK2 _ _ ?_))
            try simp only [Act.put, List.setIfInBounds_toArray, List.set_cons_zero, List.set_cons_succ]
            refine wpList_plain rfl (fun K2 hK2 => wp_store_run _ _ _ rfl _ rfl _ rfl _ (ST.out) (hK2 _ _ ?_))
            try simp only [Act.put]
            refine wpList_plain rfl (fun K2 hK2 => ?_)
            go_simp
            refine hK2 _ _ ?_
            clear hK2 K2
            refine wpList_plain rfl (fun K2 hK2 => ?_)
            go_simp
            refine hK2 _ _ ?_
            clear hK2 K2
            refine wpList_nil ?_
            try simp only [Act.put, List.setIfInBounds_toArray, List.set_cons_zero, List.set_cons_succ]
            rw [hck] at bc8
            have I9 : Hid _ := WS.out _ _ _ _ _ _ k _ hkN I8.out.1 hwC hGC
            have lC : Hid (C < (w8.setCell ⟨C, k, none⟩ (.bool true)).heap.size) := by show _ < _; simpa using I8.out.2
            have d0' : (w8.setCell ⟨C, k, none⟩ (.bool true)).cell? ⟨wt.heap.size, 0, none⟩ = some (.string (⟨#[]⟩)) := by rw [World.cell?_setCell_other _ _ _ _ (by intro h; simp only [Addr.mk.injEq] at h; exact lCt (by first | exact h.1 | exact h.1.symm))]; exact d0
            have d1' : (w8.setCell ⟨C, k, none⟩ (.bool true)).cell? ⟨wt.heap.size, 1, none⟩ = some (.string (⟨#[]⟩)) := by rw [World.cell?_setCell_other _ _ _ _ (by intro h; simp only [Addr.mk.injEq] at h; exact lCt (by first | exact h.1 | exact h.1.symm))]; exact d1
            clear lCt d0 d1
            have zI : ¬ ((m2 : Int) = 0) := by omega
            have w3 := W3.out
            go_wp2
            go_roundw
            case rel => exact ⟨q + 1, (upd c k), m2, by omega, by omega, rfl, by rw [DZ.out], by go_num, I9.out, lC.out, NX.out.1, NX.out.2, HM2.out⟩
            case measure => simp [intOf]; omega
      · have q3 : ¬ (q : Int) < (L : Int) := by omega
        obtain ⟨k, hk⟩ : ∃ k, q - L = k := ⟨_, rfl⟩
        have hkN : k < N := by omega
        have WK : Hid (wrap64 ((q : Int) - (L : Int)) = (k : Int)) := by show _ = _; unfold wrap64; omega
        have wk2 : (q : Int) - (L : Int) = (k : Int) := by omega
        have PR : Hid (∀ t, L + t < q + 1 → t < N → t ≠ k → c t = true) := fun t h1 h2 h3 => I.out.2.2.2.1 t (by omega) h2
        have kz : (0 : Int) ≤ (k : Int) := by omega
        have kz2 : ¬ (k : Int) < 0 := by omega
        have kN : (k : Int) < (N : Int) := by omega
        have kN2 : ¬ (N : Int) ≤ (k : Int) := by omega
        have ck := CC.out _ _ I.out.1.g k hkN
        cases hck : c k with
        | true =>
          have W1 : Hid (wrap64 ((q : Int) + 1) = ((q + 1 : Nat) : Int)) := by show _ = _; unfold wrap64; omega
          have NX : Hid (q + 1 ≤ L + N ∧ ∀ t, L + t < q + 1 → t < N → c t = true) := ⟨by omega, fun t h1 h2 => by
            by_cases e : t = k
            · rw [e]; exact hck
            · exact PR.out t h1 h2 e⟩
          cases hdd : decide (mm = 0) with
          | true =>
            have DZ : Hid (decide (mm = 0) = true) := hdd
            clear hdd
            have II := I.out
            clear I
            have WK' := WK.out
            go_upto_region 18 with fail
            refine wp_region_lit ?_
            refine wpList_plain rfl (fun K2 hK2 => ?_)
            go_simp
            refine hK2 _ _ ?_
            clear hK2 K2
            refine wpList_plain rfl (fun K2 hK2 => ?_)
            go_simp
            refine hK2 _ _ ?_
            clear hK2 K2
            refine wpList_plain rfl (fun K2 hK2 => ?_)
            go_simp
            refine hK2 _ _ ?_
            clear hK2 K2
            refine wpList_plain rfl (fun K2 hK2 => ?_)
            go_simp
            refine hK2 _ _ ?_
            clear hK2 K2
            refine wpList_plain rfl (fun K2 hK2 => ?_)
            go_simp
            refine hK2 _ _ ?_
            clear hK2 K2
            refine wpList_plain rfl (fun K2 hK2 => ?_)
            go_simp
            refine Calls.mono (TO.out _ _ _ _ _ c k _ hck hkN II.1 lG lw II.2.1) ?_
            rintro e wt ⟨rfl, it⟩
            obtain ⟨V, w8, rA, rS, t8, n8⟩ := told_new wt (⟨#[]⟩) (⟨#[]⟩)
            have AL : Hid _ := rA
            have ST : Hid _ := rS
            have I8 : Hid (Wi w i b u G C u c c w8 ∧ C < w8.heap.size) := ⟨it.later n8, Nat.lt_of_lt_of_le it.ca.lt n8.size⟩
            have d0 := t8.c 0 _ rfl
            have d1 := t8.c 1 _ rfl
            have lCt : ¬ wt.heap.size = C := by have := it.ca.lt; omega
            have bc8 := BC.out _ _ _ I8.out.1.ca k (by rw [HN.out]; exact hkN)
            have cf8 := I8.out.1.ca.f
            clear rA rS n8 it
            refine hK2 _ _ ?_
            clear hK2 K2
            try simp only [Act.put, List.setIfInBounds_toArray, List.set_cons_zero, List.set_cons_succ]
            refine wpList_plain rfl (fun K2 hK2 => ?_)
            go_simp
            refine hK2 _ _ ?_
            clear hK2 K2
            refine wpList_plain rfl (fun K2 hK2 => ?_)
            go_simp
            refine hK2 _ _ ?_
            clear hK2 K2
            refine wpList_plain rfl (fun K2 hK2 => ?_)
            go_simp
            refine hK2 _ _ ?_
            clear hK2 K2
            refine wpList_plain rfl (fun K2 hK2 => ?_)
            go_simp
            refine hK2 _ _ ?_
            clear hK2 K2
            refine wpList_plain rfl (fun K2 hK2 => wp_alloc_run _ rfl _ _ (AL.out) (hK2 _ _ ?_))
            try simp only [Act.put, List.setIfInBounds_toArray, List.set_cons_zero, List.set_cons_succ]
            refine wpList_plain rfl (fun K2 hK2 => wp_store_run _ _ _ rfl _ rfl _ rfl _ (ST.out) (hK2 _ _ ?_))
            try simp only [Act.put]
            refine wpList_plain rfl (fun K2 hK2 => ?_)
            go_simp
            refine hK2 _ _ ?_
            clear hK2 K2
            refine wpList_plain rfl (fun K2 hK2 => ?_)
            go_simp
            refine hK2 _ _ ?_
            clear hK2 K2
            refine wpList_nil ?_
            try simp only [Act.put, List.setIfInBounds_toArray, List.set_cons_zero, List.set_cons_succ]
            rw [hck] at bc8
            have HM2 := HM
            go_wp2
            go_roundw
            case rel => exact ⟨q + 1, c, mm, by omega, by omega, rfl, by rw [DZ.out], by go_num, I8.out.1, I8.out.2, NX.out.1, NX.out.2, HM2.out⟩
            case measure => simp [intOf]; omega
          | false =>
            have DZ : Hid (decide (mm = 0) = false) := hdd
            clear hdd
            have II := I.out
            clear I
            have WK' := WK.out
            go_upto_region 18 with fail
            refine wp_region_lit ?_
            refine wpList_plain rfl (fun K2 hK2 => ?_)
            go_simp
            refine hK2 _ _ ?_
            clear hK2 K2
            refine wpList_plain rfl (fun K2 hK2 => ?_)
            go_simp
            refine hK2 _ _ ?_
            clear hK2 K2
            refine wpList_plain rfl (fun K2 hK2 => ?_)
            go_simp
            refine hK2 _ _ ?_
            clear hK2 K2
            refine wpList_plain rfl (fun K2 hK2 => ?_)
            go_simp
            refine hK2 _ _ ?_
            clear hK2 K2
            refine wpList_plain rfl (fun K2 hK2 => ?_)
            go_simp
            refine hK2 _ _ ?_
            clear hK2 K2
            refine wpList_plain rfl (fun K2 hK2 => ?_)
            go_simp
            refine Calls.mono (TO.out _ _ _ _ _ c k _ hck hkN II.1 lG lw II.2.1) ?_
            rintro e wt ⟨rfl, it⟩
            obtain ⟨V, w8, rA, rS, t8, n8⟩ := told_new wt (⟨#[]⟩) (⟨#[]⟩)
            have AL : Hid _ := rA
            have ST : Hid _ := rS
            have I8 : Hid (Wi w i b u G C u c c w8 ∧ C < w8.heap.size) := ⟨it.later n8, Nat.lt_of_lt_of_le it.ca.lt n8.size⟩
            have d0 := t8.c 0 _ rfl
            have d1 := t8.c 1 _ rfl
            have lCt : ¬ wt.heap.size = C := by have := it.ca.lt; omega
            have bc8 := BC.out _ _ _ I8.out.1.ca k (by rw [HN.out]; exact hkN)
            have cf8 := I8.out.1.ca.f
            clear rA rS n8 it
            refine hK2 _ _ ?_
            clear hK2 K2
            try simp only [Act.put, List.setIfInBounds_toArray, List.set_cons_zero, List.set_cons_succ]
            refine wpList_plain rfl (fun K2 hK2 => ?_)
            go_simp
            refine hK2 _ _ ?_
            clear hK2 K2
            refine wpList_plain rfl (fun K2 hK2 => ?_)
            go_simp
            refine hK2 _ _ ?_
            clear hK2 K2
            refine wpList_plain rfl (fun K2 hK2 => ?_)
            go_simp
            refine hK2 _ _ ?_
            clear hK2 K2
            refine wpList_plain rfl (fun K2 hK2 => ?_)
            go_simp
            refine hK2 _ _ ?_
            clear hK2 K2
            refine wpList_plain rfl (fun K2 hK2 => wp_alloc_run _ rfl _ _ (AL.out) (hK2 _ _ ?_))
            try simp only [Act.put, List.setIfInBounds_toArray, List.set_cons_zero, List.set_cons_succ]
            refine wpList_plain rfl (fun K2 hK2 => wp_store_run _ _ _ rfl _ rfl _ rfl _ (ST.out) (hK2 _ _ ?_))
            try simp only [Act.put]
            refine wpList_plain rfl (fun K2 hK2 => ?_)
            go_simp
            refine hK2 _ _ ?_
            clear hK2 K2
            refine wpList_plain rfl (fun K2 hK2 => ?_)
            go_simp
            refine hK2 _ _ ?_
            clear hK2 K2
            refine wpList_nil ?_
            try simp only [Act.put, List.setIfInBounds_toArray, List.set_cons_zero, List.set_cons_succ]
            rw [hck] at bc8
            have HM2 := HM
            go_wp2
            go_roundw
            case rel => exact ⟨q + 1, c, mm, by omega, by omega, rfl, by rw [DZ.out], by go_num, I8.out.1, I8.out.2, NX.out.1, NX.out.2, HM2.out⟩
            case measure => simp [intOf]; omega
        | false =>
          have hm1 : miss (upd c k) N + 1 = mm := by rw [← HM.out]; exact MU.out c k hkN hck
          obtain ⟨m2, hm2⟩ : ∃ m, miss (upd c k) N = m := ⟨_, rfl⟩
          rw [hm2] at hm1
          have HM2 : Hid (miss (upd c k) N = m2) := hm2
          clear hm2
          have W1 : Hid (wrap64 ((q : Int) + 1) = ((q + 1 : Nat) : Int)) := by show _ = _; unfold wrap64; omega
          have W2 : Hid (wrap64 ((mm : Int) - 1) = (m2 : Int)) := by show _ = _; unfold wrap64; omega
          have W3 : Hid ((mm : Int) - 1 = (m2 : Int)) := by show _ = _; omega
          have dzc : decide (mm = 0) = false := decide_eq_false (by omega)
          have NX : Hid (q + 1 ≤ L + N ∧ ∀ t, L + t < q + 1 → t < N → upd c k t = true) := ⟨by omega, fun t h1 h2 => by
            unfold upd
            by_cases e : t = k
            · rw [if_pos e]
            · rw [if_neg e]; exact PR.out t h1 h2 e⟩
          by_cases z : m2 = 0
          · have DZ : Hid (decide (0 = 0) = true) := rfl
            have II := I.out
            have TNK := TN.out _ _ _ _ c c k _ hck hkN II.1 lG lw II.2.1
            rw [HM2.out, if_pos z] at TNK
            simp only [ansV] at TNK
            have TT : Hid _ := TNK
            clear TNK I
            rw [dzc]
            clear dzc
            have WK' := WK.out
            go_upto_region 18 with fail
            refine wp_region_lit ?_
            refine wpList_plain rfl (fun K2 hK2 => ?_)
            go_simp
            refine hK2 _ _ ?_
            clear hK2 K2
            refine wpList_plain rfl (fun K2 hK2 => ?_)
            go_simp
            refine hK2 _ _ ?_
            clear hK2 K2
            refine wpList_plain rfl (fun K2 hK2 => ?_)
            go_simp
            refine hK2 _ _ ?_
            clear hK2 K2
            refine wpList_plain rfl (fun K2 hK2 => ?_)
            go_simp
            refine hK2 _ _ ?_
            clear hK2 K2
            refine wpList_plain rfl (fun K2 hK2 => ?_)
            go_simp
            refine hK2 _ _ ?_
            clear hK2 K2
            refine wpList_plain rfl (fun K2 hK2 => ?_)
            go_simp
            refine Calls.mono (TT.out) ?_
            rintro e wt ⟨rfl, it⟩
            obtain ⟨V, w8, rA, rS, t8, n8⟩ := told_new wt (st i) (st b)
            have AL : Hid _ := rA
            have ST : Hid _ := rS
            have I8 : Hid (Wi w i b u G C u c (upd c k) w8 ∧ C < w8.heap.size) := ⟨it.later n8, Nat.lt_of_lt_of_le it.ca.lt n8.size⟩
            have d0 := t8.c 0 _ rfl
            have d1 := t8.c 1 _ rfl
            have lCt : ¬ wt.heap.size = C := by have := it.ca.lt; omega
            have bc8 := BC.out _ _ _ I8.out.1.ca k (by rw [HN.out]; exact hkN)
            have cf8 := I8.out.1.ca.f
            clear rA rS n8 it
            refine hK2 _ _ ?_
            clear hK2 K2
            try simp only [Act.put, List.setIfInBounds_toArray, List.set_cons_zero, List.set_cons_succ]
            refine wpList_plain rfl (fun K2 hK2 => ?_)
            go_simp
            refine hK2 _ _ ?_
            clear hK2 K2
            refine wpList_plain rfl (fun K2 hK2 => ?_)
            go_simp
            refine hK2 _ _ ?_
            clear hK2 K2
            refine wpList_plain rfl (fun K2 hK2 => ?_)
            go_simp
            refine hK2 _ _ ?_
            clear hK2 K2
            refine wpList_plain rfl (fun K2 hK2 => ?_)
            go_simp
            refine hK2 _ _ ?_
            clear hK2 K2
            refine wpList_plain rfl (fun K2 hK2 => wp_alloc_run _ rfl _ _ (AL.out) (hK2 _ _ ?_))
            try simp only [Act.put, List.setIfInBounds_toArray, List.set_cons_zero, List.set_cons_succ]
            refine wpList_plain rfl (fun K2 hK2 => wp_store_run _ _ _ rfl _ rfl _ rfl _ (ST.out) (hK2 _ _ ?_))
            try simp only [Act.put]
            refine wpList_plain rfl (fun K2 hK2 => ?_)
            go_simp
            refine hK2 _ _ ?_
            clear hK2 K2
            refine wpList_plain rfl (fun K2 hK2 => ?_)
            go_simp
            refine hK2 _ _ ?_
            clear hK2 K2
            refine wpList_nil ?_
            try simp only [Act.put, List.setIfInBounds_toArray, List.set_cons_zero, List.set_cons_succ]
            rw [hck] at bc8
            have I9 : Hid _ := WS.out _ _ _ _ _ _ k _ hkN I8.out.1 hwC hGC
            have lC : Hid (C < (w8.setCell ⟨C, k, none⟩ (.bool true)).heap.size) := by show _ < _; simpa using I8.out.2
            have d0' : (w8.setCell ⟨C, k, none⟩ (.bool true)).cell? ⟨wt.heap.size, 0, none⟩ = some (.string (st i)) := by rw [World.cell?_setCell_other _ _ _ _ (by intro h; simp only [Addr.mk.injEq] at h; exact lCt (by first | exact h.1 | exact h.1.symm))]; exact d0
            have d1' : (w8.setCell ⟨C, k, none⟩ (.bool true)).cell? ⟨wt.heap.size, 1, none⟩ = some (.string (st b)) := by rw [World.cell?_setCell_other _ _ _ _ (by intro h; simp only [Addr.mk.injEq] at h; exact lCt (by first | exact h.1 | exact h.1.symm))]; exact d1
            clear lCt d0 d1
            subst z
            have w3 := W3.out
            go_upto_region 28 with fail
            refine wp_region_lit ?_
            refine wpList_plain rfl (fun K2 hK2 => ?_)
            go_simp
            refine hK2 _ _ ?_
            clear hK2 K2
            refine wpList_plain rfl (fun K2 hK2 => ?_)
            go_simp
            refine hK2 _ _ ?_
            clear hK2 K2
            refine wpList_plain rfl (fun K2 hK2 => ?_)
            go_simp
            refine hK2 _ _ ?_
            clear hK2 K2
            refine wpList_plain rfl (fun K2 hK2 => ?_)
            go_simp
            refine hK2 _ _ ?_
            clear hK2 K2
            refine wpList_plain rfl (fun K2 hK2 => ?_)
            go_simp
            refine hK2 _ _ ?_
            clear hK2 K2
            refine BigFrame.wpList_want (by first | rfl | simp [Region.wanted, yielded]) (fun K2 hK2 => ?_)
            go_simp
            refine hK2 _ _ ?_
            clear hK2 K2
            refine BigFrame.wpList_want (by first | rfl | simp [Region.wanted, yielded]) (fun K2 hK2 => ?_)
            go_simp
            refine hK2 _ _ ?_
            clear hK2 K2
            refine BigFrame.wpList_want (by first | rfl | simp [Region.wanted, yielded]) (fun K2 hK2 => ?_)
            go_simp
            refine hK2 _ _ ?_
            clear hK2 K2
            refine BigFrame.wpList_want (by first | rfl | simp [Region.wanted, yielded]) (fun K2 hK2 => ?_)
            go_simp
            refine hK2 _ _ ?_
            clear hK2 K2
            refine wpList_plain rfl (fun K2 hK2 => ?_)
            go_simp
            refine hK2 _ _ ?_
            clear hK2 K2
            refine wpList_nil ?_
            try simp only [Act.put, List.setIfInBounds_toArray, List.set_cons_zero, List.set_cons_succ]
            go_wp2
            go_roundw
            case rel => exact ⟨q + 1, (upd c k), 0, by omega, by omega, rfl, by rw [DZ.out], by go_num, I9.out, lC.out, NX.out.1, NX.out.2, HM2.out⟩
            case measure => simp [intOf]; omega
          · have DZ : Hid (decide (m2 = 0) = false) := decide_eq_false z
            have II := I.out
            have TNK := TN.out _ _ _ _ c c k _ hck hkN II.1 lG lw II.2.1
            rw [HM2.out, if_neg z] at TNK
            simp only [ansV] at TNK
            have TT : Hid _ := TNK
            clear TNK I
            rw [dzc]
            clear dzc
            have WK' := WK.out
            go_upto_region 18 with fail
            refine wp_region_lit ?_
            refine wpList_plain rfl (fun K2 hK2 => ?_)
            go_simp
            refine hK2 _ _ ?_
            clear hK2 K2
            refine wpList_plain rfl (fun K2 hK2 => ?_)
            go_simp
            refine hK2 _ _ ?_
            clear hK2 K2
            refine wpList_plain rfl (fun K2 hK2 => ?_)
            go_simp
            refine hK2 _ _ ?_
            clear hK2 K2
            refine wpList_plain rfl (fun K2 hK2 => ?_)
            go_simp
            refine hK2 _ _ ?_
            clear hK2 K2
            refine wpList_plain rfl (fun K2 hK2 => ?_)
            go_simp
            refine hK2 _ _ ?_
            clear hK2 K2
            refine wpList_plain rfl (fun K2 hK2 => ?_)
            go_simp
            refine Calls.mono (TT.out) ?_
            rintro e wt ⟨rfl, it⟩
            obtain ⟨V, w8, rA, rS, t8, n8⟩ := told_new wt (⟨#[]⟩) (⟨#[]⟩)
            have AL : Hid _ := rA
            have ST : Hid _ := rS
            have I8 : Hid (Wi w i b u G C u c (upd c k) w8 ∧ C < w8.heap.size) := ⟨it.later n8, Nat.lt_of_lt_of_le it.ca.lt n8.size⟩
            have d0 := t8.c 0 _ rfl
            have d1 := t8.c 1 _ rfl
            have lCt : ¬ wt.heap.size = C := by have := it.ca.lt; omega
            have bc8 := BC.out _ _ _ I8.out.1.ca k (by rw [HN.out]; exact hkN)
            have cf8 := I8.out.1.ca.f
            clear rA rS n8 it
            refine hK2 _ _ ?_
            clear hK2 K2
            try simp only [Act.put, List.setIfInBounds_toArray, List.set_cons_zero, List.set_cons_succ]
            refine wpList_plain rfl (fun K2 hK2 => ?_)
            go_simp
            refine hK2 _ _ ?_
            clear hK2 K2
            refine wpList_plain rfl (fun K2 hK2 => ?_)
            go_simp
            refine hK2 _ _ ?_
            clear hK2 K2
            refine wpList_plain rfl (fun K2 hK2 => ?_)
            go_simp
            refine hK2 _ _ ?_
            clear hK2 K2
            refine wpList_plain rfl (fun K2 hK2 => ?_)
            go_simp
            refine hK2 _ _ ?_
            clear hK2 K2
            refine wpList_plain rfl (fun K2 hK2 => wp_alloc_run _ rfl _ _ (AL.out) (hK2 _ _ ?_))
            try simp only [Act.put, List.setIfInBounds_toArray, List.set_cons_zero, List.set_cons_succ]
            refine wpList_plain rfl (fun K2 hK2 => wp_store_run _ _ _ rfl _ rfl _ rfl _ (ST.out) (hK2 _ _ ?_))
            try simp only [Act.put]
            refine wpList_plain rfl (fun K2 hK2 => ?_)
            go_simp
            refine hK2 _ _ ?_
            clear hK2 K2
            refine wpList_plain rfl (fun K2 hK2 => ?_)
            go_simp
            refine hK2 _ _ ?_
            clear hK2 K2
            refine wpList_nil ?_
            try simp only [Act.put, List.setIfInBounds_toArray, List.set_cons_zero, List.set_cons_succ]
            rw [hck] at bc8
            have I9 : Hid _ := WS.out _ _ _ _ _ _ k _ hkN I8.out.1 hwC hGC
            have lC : Hid (C < (w8.setCell ⟨C, k, none⟩ (.bool true)).heap.size) := by show _ < _; simpa using I8.out.2
            have d0' : (w8.setCell ⟨C, k, none⟩ (.bool true)).cell? ⟨wt.heap.size, 0, none⟩ = some (.string (⟨#[]⟩)) := by rw [World.cell?_setCell_other _ _ _ _ (by intro h; simp only [Addr.mk.injEq] at h; exact lCt (by first | exact h.1 | exact h.1.symm))]; exact d0
            have d1' : (w8.setCell ⟨C, k, none⟩ (.bool true)).cell? ⟨wt.heap.size, 1, none⟩ = some (.string (⟨#[]⟩)) := by rw [World.cell?_setCell_other _ _ _ _ (by intro h; simp only [Addr.mk.injEq] at h; exact lCt (by first | exact h.1 | exact h.1.symm))]; exact d1
            clear lCt d0 d1
            have zI : ¬ ((m2 : Int) = 0) := by omega
            have w3 := W3.out
            go_wp2
            go_roundw
            case rel => exact ⟨q + 1, (upd c k), m2, by omega, by omega, rfl, by rw [DZ.out], by go_num, I9.out, lC.out, NX.out.1, NX.out.2, HM2.out⟩
            case measure => simp [intOf]; omega
    · by_cases hL8 : 180 < L
      · have q5 : (180 : Int) < (L : Int) := by omega
        by_cases q1 : q < L + N
        · have q1' : (q : Int) < (L : Int) + (N : Int) := by omega
          have q2 : ¬ (q : Int) < 200 := by omega
          clear hlt
          go_wp2
          go_ret
          exact ⟨rfl, I.out.1.d⟩
        · have q1' : ¬ (q : Int) < (L : Int) + (N : Int) := by omega
          clear hlt
          go_wp2
          go_ret
          exact ⟨rfl, I.out.1.d⟩
      · have q5 : ¬ (180 : Int) < (L : Int) := by omega
        have qe : q = L + N := by have := I.out.2.2.1; omega
        have q1' : ¬ (q : Int) < (L : Int) + (N : Int) := by omega
        have m0 : miss c N = 0 := MA.out c fun t ht => I.out.2.2.2.1 t (by omega) ht
        have mz : mm = 0 := by rw [← HM.out]; exact m0
        subst mz
        have dz : decide (0 = 0) = true := rfl
        rw [dz]
        clear hlt dz qe
        go_wp2_with fail
        refine Calls.mono (WT.out _ _ _ _ _ c _ m0 I.out.1) ?_
        rintro e wz ⟨rfl, rfl⟩
        go_wp2
        go_ret
        exact ⟨rfl, I.out.1.d⟩
end Go.Proofs.YtdepjiocmbbdpaaDoor
