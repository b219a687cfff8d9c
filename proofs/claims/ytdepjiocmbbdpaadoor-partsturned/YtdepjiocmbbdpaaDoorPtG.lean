/- A message is cut. -/
import Derived.Test.YtdepjiocmbbdpaaDoorPtF
import Derived.Test.YtdepjiocmbbdpaaDoorPtC
import Derived.Test.YtdepjiocmbbdpaaDoorPtN
namespace Go.Proofs.YtdepjiocmbbdpaaDoor
open Go.RowKit Go.Proofs.Fd Go.Proofs.Pt
set_option maxRecDepth 20000

def opcu0 : Oper := { dst := some 28, op := Go.Op.load 60 (Go.Operand.tmp 6), type := 60, pos := "parts.go:28", after := #[], guard := none }
def opcu1 : Oper := { dst := some 29, op := Go.Op.move (Go.Operand.tmp 8), type := 3, pos := "parts.go:28", after := #[], guard := none }
def opcu2 : Oper := { dst := some 30, op := Go.Op.move (Go.Operand.tmp 1), type := 9, pos := "parts.go:28", after := #[], guard := none }
def opcu3 : Oper := { dst := some 31, op := Go.Op.move (Go.Operand.tmp 8), type := 3, pos := "parts.go:28", after := #[], guard := none }
def opcu4 : Oper := { dst := some 32, op := Go.Op.call { callee := Go.Callee.value (Go.Operand.func 21), args := #[Go.Operand.tmp 30, Go.Operand.tmp 31], argTypes := #[9, 3] }, type := 9, pos := "parts.go:28", after := #[{ on := 2, ground := Go.Ground.data }, { on := 3, ground := Go.Ground.data }], guard := none }
def opcu5 : Oper := { dst := some 33, op := Go.Op.build 64 #[(0, Go.Operand.tmp 28), (1, Go.Operand.tmp 29), (2, Go.Operand.tmp 32)], type := 64, pos := "parts.go:28", after := #[{ on := 0, ground := Go.Ground.data }, { on := 1, ground := Go.Ground.data }, { on := 4, ground := Go.Ground.data }], guard := none }
def opcu6 : Oper := { dst := some 9, op := Go.Op.alloc 64, type := 0, pos := "parts.go:28", after := #[], guard := none }
def opcu7 : Oper := { dst := none, op := Go.Op.store 64 (Go.Operand.tmp 9) (Go.Operand.tmp 33), type := 0, pos := "parts.go:28", after := #[{ on := 6, ground := Go.Ground.data }, { on := 5, ground := Go.Ground.data }, { on := 4, ground := Go.Ground.chain }, { on := 0, ground := Go.Ground.phase }, { on := 1, ground := Go.Ground.phase }, { on := 2, ground := Go.Ground.phase }, { on := 3, ground := Go.Ground.phase }, { on := 4, ground := Go.Ground.phase }, { on := 5, ground := Go.Ground.phase }, { on := 6, ground := Go.Ground.phase }], guard := none }
/-- Texts as cells. -/
def scl (l : List Bs) : List Value := l.map fun x => .string (st x)
theorem scl_len (l : List Bs) : (scl l).length = l.length := List.length_map ..
theorem scl_one (l : List Bs) : ∀ u ∈ scl l, u.oneCell' = true := fun u h => by
  obtain ⟨x, -, rfl⟩ := List.mem_map.1 h
  rfl
theorem scl_get (l : List Bs) (k : Nat) (h : k < l.length) : (scl l)[k]? = some (.string (st l[k])) := by unfold scl; rw [List.getElem?_map, List.getElem?_eq_getElem h]; rfl
theorem scl_set (l : List Bs) (k : Nat) (x : Bs) : (scl l).set k (.string (st x)) = scl (l.set k x) := by unfold scl; rw [List.map_set]
theorem infoStr : (Tryd.prog.info? 9).map (fun i => (i.zero, i.size, i.bytes)) = some (some (.string ⟨#[]⟩), 1, 16) := by kernel_rfl
theorem made_strs (n : Nat) : madeCells (Value.string ⟨#[]⟩).cells (n * 1) = (scl (List.replicate n [])).toArray := by
  apply Array.ext
  · rw [size_madeCells, List.size_toArray, scl_len, List.length_replicate, Nat.mul_one]
  · intro i h1 h2
    simp [madeCells, Value.cells, scl, Nat.mod_one]
theorem make_strs (n : Nat) (hn : n ≤ 1000000) (h1 : 0 < n) (w : World) : ∃ W : World, (Instr.makeSlice 22 (.int .i64 (n : Int)) (.int .i64 (n : Int))).run Tryd.prog w = .ok (.slice (some ⟨w.heap.size, 0, none⟩) n n) W
    ∧ Blk W w.heap.size (scl (List.replicate n [])) ∧ Below w.heap.size w W ∧ W.heap.size = w.heap.size + 1 := by
  obtain ⟨i0, hi, hz0, hz1, hz2⟩ := info3 infoStr
  have h := run_make (P := Tryd.prog) w 22 9 i0 (.string ⟨#[]⟩) Tryd.underlying22 hi hz0 .i64 .i64 (n : Int) (n : Int) (by omega) (Int.le_refl _) (by rw [hz2]; omega) (by omega)
  rw [Int.toNat_natCast, hz1, made_strs] at h
  exact ⟨_, h, Blk.new w _ _ (fun e => by have := congrArg List.length e; rw [scl_len, List.length_replicate] at this; simp at this; omega), (Below.refl _ _).alloc (Nat.le_refl _) _, by simp⟩
theorem Cut_form (i b : ByteArray) (hi : i.size ≠ 8) (w : World) :
    Calls Tryd.prog 9 #[.string i, .string b] w fun e w' => e = .returned (.tuple #[.slice none 0 0, .int .i64 3]) ∧ w' = w := by
  have h : ((i.size : Int) == 8) = false := by rw [beq_eq_false_iff_ne]; omega
  go_enter Tryd.func9, Tryd.ntmps9
  go_wp2
  go_ret2
  exact ⟨rfl, rfl⟩
theorem Cut_long (i b : ByteArray) (hi : i.size = 8) (hb : 2048 < b.size) (w : World) :
    Calls Tryd.prog 9 #[.string i, .string b] w fun e w' => e = .returned (.tuple #[.slice none 0 0, .int .i64 2]) ∧ w' = w := by
  have h : (2048 : Int) < (b.size : Int) := by omega
  go_enter Tryd.func9, Tryd.ntmps9
  go_wp2
  go_ret2
  exact ⟨rfl, rfl⟩
/-- The first k texts of a message; the others are none yet. -/
def cuts (i b : Bs) (k : Nat) : List Bs := (List.range (cnt b.length)).map fun j => if j < k then tx (tpart i b j) else []
theorem cuts_0 (i b : Bs) : cuts i b 0 = List.replicate (cnt b.length) [] := by
  unfold cuts
  apply List.ext_getElem
  · simp
  · intro j h1 h2; simp
theorem cuts_all (i b : Bs) : cuts i b (cnt b.length) = cut i b := by
  unfold cuts cut
  apply List.map_congr_left
  intro j hj
  rw [if_pos (List.mem_range.1 hj)]
theorem cuts_len (i b : Bs) (k : Nat) : (cuts i b k).length = cnt b.length := by unfold cuts; simp
theorem cuts_set (i b : Bs) (k : Nat) : (cuts i b k).set k (tx (tpart i b k)) = cuts i b (k + 1) := by
  unfold cuts
  apply List.ext_getElem
  · simp
  · intro j h1 h2
    rw [List.getElem_set]
    by_cases hj : k = j
    · subst hj; simp
    · rw [if_neg hj]
      simp only [List.getElem_map, List.getElem_range]
      by_cases h : j < k
      · rw [if_pos h, if_pos (by omega)]
      · rw [if_neg h, if_neg (by omega)]
/-- What stands while a message is cut. -/
structure Cu (w : World) (i b : Bs) (M G k : Nat) (V : World) : Prop where
  m : Blk V M (mkc (mkOf i b))
  g : Blk V G (scl (cuts i b k))
  ne : M ≠ G
  wm : w.heap.size ≤ M
  wg : w.heap.size ≤ G
  d : Below w.heap.size w V
theorem Cu.later {w : World} {i b : Bs} {M G k : Nat} {V V' : World} (h : Cu w i b M G k V) (hb : Below V.heap.size V V') : Cu w i b M G k V' := ⟨h.m.later hb, h.g.later hb, h.ne, h.wm, h.wg, chain h.d hb⟩
theorem Cu.bf {w : World} {i b : Bs} {M G k X : Nat} {V V' : World} (h : Cu w i b M G k V) (hb : Bf (fun g => g = X) V V') (hM : M < X) (hG : G < X) : Cu w i b M G k V' :=
  ⟨h.m.bf hb (by omega), h.g.bf hb (by omega), h.ne, h.wm, h.wg, h.d.trans (hb.below (fun g e => by have := h.wm; omega) h.d.size)⟩
set_option maxHeartbeats 4000000 in
theorem Cut_ok (i b : Bs) (hi : i.length = 8) (hb : b.length ≤ 2048) (w : World) (hk : Hid (Kh w)) :
    Calls Tryd.prog 9 #[.string (st i), .string (st b)] w fun e w' => ∃ G, e = .returned (.tuple #[.slice (some ⟨G, 0, none⟩) (cnt b.length) (cnt b.length), .int .i64 0]) ∧ Blk w' G (scl (cut i b)) ∧ w.heap.size ≤ G ∧ Below w.heap.size w w' := by
  obtain ⟨N, hN⟩ : ∃ N, cnt b.length = N := ⟨_, rfl⟩
  have N1 : 1 ≤ N := hN ▸ cnt_pos _
  have N11 : N ≤ 11 := hN ▸ cnt_le _ hb
  have NO : Hid (∀ w, Calls Tryd.prog 20 #[.string (st i)] w fun e w' => e = .returned (.agg (bc i).toArray) ∧ Below w.heap.size w w') := nameOf_any i hi
  have MO : Hid (∀ W, Below w.heap.size w W → Calls Tryd.prog 19 #[.agg (bc i).toArray, .string (st b)] W fun e w' => e = .returned (.agg (mkc (mkOf i b)).toArray) ∧ Below W.heap.size W w') := fun W h => markOf_any i b hi (by omega) W (hk.out.later h)
  have M8 : Mk8 (mkOf i b) := ⟨hi, dg6_len i b⟩
  have PO : Hid (∀ (k : Nat), k < N → ∀ W, Calls Tryd.prog 21 #[.string (st b), .int .i64 (k : Int)] W fun e w' => e = .returned (.string (st (pc b k))) ∧ w' = W) := fun k hk W => by
    have hle : 200 * k ≤ (st b).size := by rw [st_size]; rw [← hN] at hk; unfold cnt at hk; omega
    exact pieceOf_any (st b) k (by rw [st_size]; omega) hle W
  have PT : Hid (∀ (k : Nat), k < N → ∀ W, Calls Tryd.prog 22 #[.agg (pac (tpart i b k)).toArray] W fun e w' => e = .returned (.string (st (tx (tpart i b k)))) ∧ Below W.heap.size W w') := fun k hk W =>
    partText_any (tpart i b k) M8 (by show k < 256; omega) (by show cnt b.length < 256; omega) (by show (pc b k).length ≤ _; have := pc_le b k; omega) W
  have B15 : Hid (∀ (k : Nat) w, (Instr.build 64 #[(0, .agg (mkc (mkOf i b)).toArray), (1, .int .i64 (k : Int)), (2, .string (st (pc b k)))]).run Tryd.prog w = .ok (.agg (pac (tpart i b k)).toArray) w) := fun k w => build_part (tpart i b k) M8 w
  have g1 : ((st i).size : Int) = 8 := by rw [st_size, hi]; rfl
  have g2 : ¬ (2048 : Int) < ((st b).size : Int) := by rw [st_size]; omega
  have cn : (mkOf i b).2.1 = N := hN
  have SB := st_size b
  rw [hN]
  go_enter Tryd.func9, Tryd.ntmps9
  go_upto_region 5 with fail
  refine wp_region_lit ?_
  refine wpList_plain rfl (fun K2 hK2 => ?_)
  go_simp
  refine hK2 _ _ ?_
  clear hK2 K2
  refine wpList_plain rfl (fun K2 hK2 => ?_)
  go_simp
  refine Calls.mono (NO.out _) ?_
  rintro e w1 ⟨rfl, hb1⟩
  have B1 : Hid (Below w.heap.size w w1) := hb1
  clear hb1
  refine hK2 _ _ ?_
  clear hK2 K2
  try simp only [Act.put, List.setIfInBounds_toArray, List.set_cons_zero, List.set_cons_succ]
  refine wpList_plain rfl (fun K2 hK2 => ?_)
  go_simp
  refine hK2 _ _ ?_
  clear hK2 K2
  refine wpList_plain rfl (fun K2 hK2 => ?_)
  go_simp
  refine Calls.mono (MO.out _ B1.out) ?_
  rintro e w2 ⟨rfl, hb2⟩
  have B2 : Hid (Below w.heap.size w w2) := chain B1.out hb2
  obtain ⟨X, V3, hr3, z3, x3, n3⟩ := alloc_mark_any w2
  obtain ⟨V4, hr4, z4, bf4⟩ := store_mark_any z3 m0_ok M8
  have AL3 : Hid _ := hr3
  have ST4 : Hid _ := hr4
  have F4 : Hid (Blk V4 X (mkc (mkOf i b)) ∧ w.heap.size ≤ X ∧ Below w.heap.size w V4) := ⟨z4, Nat.le_trans B2.out.size x3, (chain B2.out n3).trans (bf4.below (fun g e => by have := B2.out.size; omega) (Nat.le_trans B2.out.size n3.size))⟩
  clear hb2 hr3 hr4 z3 z4 n3 bf4
  refine hK2 _ _ ?_
  clear hK2 K2
  try simp only [Act.put, List.setIfInBounds_toArray, List.set_cons_zero, List.set_cons_succ]
  refine wpList_plain rfl (fun K2 hK2 => wp_alloc_run _ rfl _ _ (AL3.out) (hK2 _ _ ?_))
  try simp only [Act.put, List.setIfInBounds_toArray, List.set_cons_zero, List.set_cons_succ]
  refine wpList_plain rfl (fun K2 hK2 => wp_store_run _ _ _ rfl _ rfl _ rfl _ (ST4.out) (hK2 _ _ ?_))
  try simp only [Act.put]
  refine wpList_nil ?_
  try simp only [Act.put, List.setIfInBounds_toArray, List.set_cons_zero, List.set_cons_succ]
  obtain ⟨W7, hr7, z7, n7, s7⟩ := make_strs N (by omega) N1 V4
  have MS := hr7
  have I7 : Hid (Cu w i b X V4.heap.size 0 W7) := by
    refine ⟨F4.out.1.later n7, ?_, by have := F4.out.1.lt; omega, F4.out.2.1, F4.out.2.2.size, chain F4.out.2.2 n7⟩
    rw [cuts_0, hN]; exact z7
  have c8 : V4.cell? ⟨X, 8, none⟩ = some (.int .i64 (N : Int)) := by
    rw [← cn]; refine F4.out.1.c 8 _ ?_
    unfold mkc
    rw [List.getElem?_append_right (by rw [bc_len]; show i.length ≤ 8; omega), bc_len]
    show (Value.int .i64 ((mkOf i b).2.1 : Int) :: bc (mkOf i b).2.2)[8 - i.length]? = _
    rw [hi]; rfl
  obtain ⟨G, hG⟩ : ∃ G, V4.heap.size = G := ⟨_, rfl⟩
  rw [hG] at MS I7 s7
  clear hr7 z7 n7 NO MO
  go_upto_region 6 with fail
  refine wp_region_lit ?_
  refine wpList_plain rfl (fun K2 hK2 => ?_)
  go_simp
  refine hK2 _ _ ?_
  clear hK2 K2
  refine wpList_plain rfl (fun K2 hK2 => ?_)
  go_simp
  refine hK2 _ _ ?_
  clear hK2 K2
  refine wpList_plain rfl (fun K2 hK2 => ?_)
  go_simp
  refine hK2 _ _ ?_
  clear hK2 K2
  refine wpList_plain rfl (fun K2 hK2 => ?_)
  go_simp
  refine hK2 _ _ ?_
  clear hK2 K2
  refine wpList_nil ?_
  try simp only [Act.put, List.setIfInBounds_toArray, List.set_cons_zero, List.set_cons_succ]
  clear c8 MS F4 hG
  go_wp2_with fail
  go_loopw [25] (fun iv wr => ∃ k : Nat, k ≤ N ∧ iv = .int .i64 (k : Int) ∧ Hid (Cu w i b X G k wr)) (fun iv _ => N - (intOf iv).toNat)
  case atStart => exact ⟨0, Nat.zero_le _, rfl, I7.out⟩
  case round =>
    obtain ⟨k, hkN, rfl, I⟩ := hrel
    clear I7
    by_cases hlt : k < N
    · have q1 : (k : Int) < (N : Int) := by omega
      have q0 : (0 : Int) ≤ (k : Int) := by omega
      go_upto_region 10 with fail
      refine (fun (KEY : ∀ (Y : Nat) (V : World), Hid (Cu w i b X G k V ∧ Blk V Y (pac (tpart i b k)) ∧ X < Y ∧ G < Y) → (?KG : Nat → World → Prop) Y V) => ?mainG) ?keyG
      case mainG =>
        refine wp_region_noPanic ?_
        refine wp_region_held_drew (S := fun w' => Cu w i b X G k w') (by kernel_rfl) (⟨I.out.m.drew, I.out.g.drew, I.out.ne, I.out.wm, I.out.wg, I.out.d.drew⟩) (fun hHeld => ?_)
        refine wpAnyH_take (i := 0) (oi := opcu0) (v := ?_) rfl (by kernel_rfl) (by kernel_rfl) (by kernel_rfl) (fun _ _ _ h => h) (Or.inl ⟨by rfl, ?_⟩) (by assumption) ?_
        rotate_left
        · intro w' hSw
          exact exec_load (load_mark hSw.m.r (mkc_len M8)) opcu0 _ rfl (by first | rfl | kernel_rfl)
        simp only [opcu0, Act.put, List.setIfInBounds_toArray, List.set_cons_zero, List.set_cons_succ]
        refine wpAnyH_take (i := 1) (oi := opcu1) (v := ?_) rfl (by kernel_rfl) (by kernel_rfl) (by kernel_rfl) (fun _ _ _ h => h) (Or.inl ⟨by rfl, ?_⟩) (by assumption) ?_
        rotate_left
        · intro w' hSw
          clear hSw
          unfold opcu1
          first
          | (go_simp; done)
          | (go_simp; with_reducible rfl)
        simp only [opcu1, Act.put, List.setIfInBounds_toArray, List.set_cons_zero, List.set_cons_succ]
        refine wpAnyH_take (i := 2) (oi := opcu2) (v := ?_) rfl (by kernel_rfl) (by kernel_rfl) (by kernel_rfl) (fun _ _ _ h => h) (Or.inl ⟨by rfl, ?_⟩) (by assumption) ?_
        rotate_left
        · intro w' hSw
          clear hSw
          unfold opcu2
          first
          | (go_simp; done)
          | (go_simp; with_reducible rfl)
        simp only [opcu2, Act.put, List.setIfInBounds_toArray, List.set_cons_zero, List.set_cons_succ]
        refine wpAnyH_take (i := 3) (oi := opcu3) (v := ?_) rfl (by kernel_rfl) (by kernel_rfl) (by kernel_rfl) (fun _ _ _ h => h) (Or.inl ⟨by rfl, ?_⟩) (by assumption) ?_
        rotate_left
        · intro w' hSw
          clear hSw
          unfold opcu3
          first
          | (go_simp; done)
          | (go_simp; with_reducible rfl)
        simp only [opcu3, Act.put, List.setIfInBounds_toArray, List.set_cons_zero, List.set_cons_succ]
        refine wpAnyH_ready (rs := [4, 6]) (by kernel_rfl) (by simp) ?_
        refine AllReadyH.cons (o := opcu4) rfl (fun KK hKK => ?_) (AllReadyH.cons (o := opcu6) rfl (fun KK hKK => ?_) AllReadyH.nil)
        · unfold opcu4
          go_simp
          refine Calls.mono (PO.out k hlt _) ?_
          rintro e wk ⟨rfl, rfl⟩
          refine hKK.out _ _ (hHeld) (fun hHeld => ?_)
          clear hKK KK
          try simp only [opcu4, Act.put, List.setIfInBounds_toArray, List.set_cons_zero, List.set_cons_succ]
          refine wpAnyH_take (i := 5) (oi := opcu5) (v := ?_) rfl (by kernel_rfl) (by kernel_rfl) (by kernel_rfl) (fun _ _ _ h => h) (Or.inl ⟨by rfl, ?_⟩) (by assumption) ?_
          rotate_left
          · intro w' hSw
            exact exec_build (B15.out k w') opcu5 _ rfl (by first | rfl | kernel_rfl)
          simp only [opcu5, Act.put, List.setIfInBounds_toArray, List.set_cons_zero, List.set_cons_succ]
          refine wpAnyH_ready (rs := [6]) (by kernel_rfl) (by simp) ?_
          refine AllReadyH.cons (o := opcu6) rfl (fun KK hKK => ?_) AllReadyH.nil
          rw [if_pos (by kernel_rfl)]
          have ltX := hHeld.m.lt
          have ltG := hHeld.g.lt
          obtain ⟨Y, V, hr, bY, hx, hbV⟩ := alloc_part_any _
          refine wp_alloc_run _ rfl _ _ hr ?_
          refine hKK.out _ _ (hHeld.later hbV) (fun hHeld => ?_)
          clear hKK KK hr
          try simp only [opcu6, Act.put, List.setIfInBounds_toArray, List.set_cons_zero, List.set_cons_succ]
          refine wpAnyH_ready (rs := [7]) (by kernel_rfl) (by simp) ?_
          refine AllReadyH.cons (o := opcu7) rfl (fun KK hKK => ?_) AllReadyH.nil
          rw [if_pos (by kernel_rfl)]
          obtain ⟨V9, hr9, b9, bf9⟩ := store_part_any (p' := tpart i b k) bY m0_ok M8
          have xY : X < Y := Nat.lt_of_lt_of_le ltX hx
          have gY : G < Y := Nat.lt_of_lt_of_le ltG hx
          refine wp_store_run _ _ _ rfl _ rfl _ rfl _ hr9 ?_
          refine hKK.out _ _ (hHeld.bf bf9 xY gY) (fun hHeld => ?_)
          clear hKK KK hr9
          try simp only [opcu7, Act.put]
          refine wpAnyH_done (by kernel_rfl) ?_ _
          refine NoPanic.normal ?_
          exact KEY Y V9 ⟨hHeld, b9, xY, gY⟩
        · rw [if_pos (by kernel_rfl)]
          have ltX := hHeld.m.lt
          have ltG := hHeld.g.lt
          obtain ⟨Y, V, hr, bY, hx, hbV⟩ := alloc_part_any _
          refine wp_alloc_run _ rfl _ _ hr ?_
          refine hKK.out _ _ (hHeld.later hbV) (fun hHeld => ?_)
          clear hKK KK hr
          try simp only [opcu6, Act.put, List.setIfInBounds_toArray, List.set_cons_zero, List.set_cons_succ]
          refine wpAnyH_ready (rs := [4]) (by kernel_rfl) (by simp) ?_
          refine AllReadyH.cons (o := opcu4) rfl (fun KK hKK => ?_) AllReadyH.nil
          unfold opcu4
          go_simp
          refine Calls.mono (PO.out k hlt _) ?_
          rintro e wk ⟨rfl, rfl⟩
          refine hKK.out _ _ (hHeld) (fun hHeld => ?_)
          clear hKK KK
          try simp only [opcu4, Act.put, List.setIfInBounds_toArray, List.set_cons_zero, List.set_cons_succ]
          refine wpAnyH_take (i := 5) (oi := opcu5) (v := ?_) rfl (by kernel_rfl) (by kernel_rfl) (by kernel_rfl) (fun _ _ _ h => h) (Or.inl ⟨by rfl, ?_⟩) (by assumption) ?_
          rotate_left
          · intro w' hSw
            exact exec_build (B15.out k w') opcu5 _ rfl (by first | rfl | kernel_rfl)
          simp only [opcu5, Act.put, List.setIfInBounds_toArray, List.set_cons_zero, List.set_cons_succ]
          refine wpAnyH_ready (rs := [7]) (by kernel_rfl) (by simp) ?_
          refine AllReadyH.cons (o := opcu7) rfl (fun KK hKK => ?_) AllReadyH.nil
          rw [if_pos (by kernel_rfl)]
          obtain ⟨V9, hr9, b9, bf9⟩ := store_part_any (p' := tpart i b k) bY m0_ok M8
          have xY : X < Y := Nat.lt_of_lt_of_le ltX hx
          have gY : G < Y := Nat.lt_of_lt_of_le ltG hx
          refine wp_store_run _ _ _ rfl _ rfl _ rfl _ hr9 ?_
          refine hKK.out _ _ (hHeld.bf bf9 xY gY) (fun hHeld => ?_)
          clear hKK KK hr9
          try simp only [opcu7, Act.put]
          refine wpAnyH_done (by kernel_rfl) ?_ _
          refine NoPanic.normal ?_
          exact KEY Y V9 ⟨hHeld, b9, xY, gY⟩
      intro Y V I10
      have L10 : Hid ((Instr.loadAt 64 (.pointer (some ⟨Y, 0, none⟩))).run Tryd.prog V = .ok (.agg (pac (tpart i b k)).toArray) V) := load_part I10.out.2.1.r (pac_len M8)
      clear PO B15 I
      go_upto_region 11 with fail
      refine wp_region_lit ?_
      refine wpList_plain rfl (fun K2 hK2 => ?_)
      go_simp
      refine hK2 _ _ ?_
      clear hK2 K2
      refine wpList_plain rfl (fun K2 hK2 => ?_)
      go_simp
      refine hK2 _ _ ?_
      clear hK2 K2
      refine wpList_plain rfl (fun K2 hK2 => wp_load_run _ _ rfl _ rfl _ (L10.out) (hK2 _ _ ?_))
      try simp only [Act.put, List.setIfInBounds_toArray, List.set_cons_zero, List.set_cons_succ]
      refine wpList_plain rfl (fun K2 hK2 => ?_)
      go_simp
      refine Calls.mono (PT.out k hlt _) ?_
      rintro e w11 ⟨rfl, hb11⟩
      have I11 : Hid (Cu w i b X G k w11) := I10.out.1.later hb11
      have f11 := I11.out.g.f
      have c11 : w11.cell? ⟨G, k, none⟩ = some (.string (st ((cuts i b k)[k]'(by rw [cuts_len, hN]; exact hlt)))) := I11.out.g.c k _ (scl_get _ k _)
      clear hb11
      refine hK2 _ _ ?_
      clear hK2 K2
      try simp only [Act.put, List.setIfInBounds_toArray, List.set_cons_zero, List.set_cons_succ]
      refine wpList_plain rfl (fun K2 hK2 => ?_)
      go_simp
      refine hK2 _ _ ?_
      clear hK2 K2
      refine wpList_plain rfl (fun K2 hK2 => ?_)
      go_simp
      refine hK2 _ _ ?_
      clear hK2 K2
      refine wpList_nil ?_
      try simp only [Act.put, List.setIfInBounds_toArray, List.set_cons_zero, List.set_cons_succ]
      go_wp2
      go_roundw
      case rel =>
        refine ⟨k + 1, by omega, by go_num, ?_⟩
        have bf := Bf.put1 w11 G k [.string (st (tx (tpart i b k)))]
        refine ⟨I11.out.m.bf bf I11.out.ne, ?_, I11.out.ne, I11.out.wm, I11.out.wg, I11.out.d.trans (bf.below (fun g e => by rw [e]; exact I11.out.wg) I11.out.d.size)⟩
        have := I11.out.g.set k (by rw [scl_len, cuts_len, hN]; exact hlt) (.string (st (tx (tpart i b k))))
        rw [scl_set, cuts_set] at this; exact this
      case measure => simp [intOf]; omega
    · have q1 : ¬ (k : Int) < (N : Int) := by omega
      obtain rfl : k = N := by omega
      go_wp2
      go_ret2
      refine ⟨G, rfl, ?_, I.out.wg, I.out.d⟩
      have := I.out.g
      rw [← hN, cuts_all] at this; exact this
end Go.Proofs.YtdepjiocmbbdpaaDoor
