/- Parts: GtRb, GtRc, GtRd. -/
import Derived.Test.YtbogoheigbiegaaDoorZgG29
import Derived.Test.YtbogoheigbiegaaDoorZgG31
import Derived.Test.YtbogoheigbiegaaDoorZgG32
import Derived.Test.YtbogoheigbiegaaDoorZgG11
namespace Go.Proofs.YtbogoheigbiegaaDoor.Gat
open Go.RowKit Go.Proofs.Fd Go.Proofs.Ml Go.Proofs.Hs Go.Proofs.Gt
open Go.Proofs.YtbogoheigbiegaaDoor.Mai (mv MlAt Lists MlV SlAt enS chkE z32)
set_option maxRecDepth 20000
def IntsAt (w : World) (b : Nat) (l : List Int) : Prop := ∀ i (hi : i < l.length), w.cell? ⟨b, i, none⟩ = some (.int .i64 l[i]) ∧ w.frozen? ⟨b, i, none⟩ = false
structure RAt (w : World) (d h : Nat) (a : Option Addr) (n c : Nat) (L : List Si) : Prop where
  c0 : w.cell? ⟨d, 0, none⟩ = some (.slice a n c)
  c1 : w.cell? ⟨d, 1, none⟩ = some (.slice (some ⟨h, 0, none⟩) n n)
  l : L.length = n
  ac : AcAt w a (L.map fun s => ⟨s.u, s.k⟩)
  q : IntsAt w h (L.map fun s => s.q)
  dh : d ≠ h
  ah : ∀ x, a = some x → 0 < n → x.block ≠ h
  le : n ≤ 64
  k : ∀ i (hi : i < L.length), L[i].k.size = 32
theorem RAt.later {w w' : World} {d h : Nat} {a : Option Addr} {n c : Nat} {L : List Si} (H : RAt w d h a n c L) (hb : Below w.heap.size w w') : RAt w' d h a n c L :=
  ⟨cell_later hb H.c0, cell_later hb H.c1, H.l, H.ac.later hb, fun i hi => ⟨cell_later hb (H.q i hi).1, (frozen_kept hb (World.block_lt_of_cell? _ _ (H.q i hi).1)).trans (H.q i hi).2⟩, H.dh, H.ah, H.le, H.k⟩
theorem RAt.apart {F : Nat → Prop} {w w' : World} {d h : Nat} {a : Option Addr} {n c : Nat} {L : List Si} (H : RAt w d h a n c L) (hb : Bf F w w') (h1 : ¬ F d) (h2 : ¬ F h) (h3 : ∀ x, a = some x → ¬ F x.block) : RAt w' d h a n c L :=
  ⟨hb.cell H.c0 h1, hb.cell H.c1 h1, H.l, H.ac.apart hb h3, fun i hi => ⟨hb.cell (H.q i hi).1 h2, (World.frozen?_of_block (a := ⟨h, i, none⟩) (hb.block h (World.block_lt_of_cell? _ _ (H.q i hi).1) h2)).trans (H.q i hi).2⟩, H.dh, H.ah, H.le, H.k⟩
def RnR (w : World) (a : Option Addr) (n c : Nat) (l : List Ac) (e : Ending) (w' : World) : Prop :=
  Below w.heap.size w w' ∧ (((chk l).2 ≠ 0 ∧ e = .returned (.tuple #[.pointer none, .int .i64 (chk l).2])) ∨ ((chk l).2 = 0 ∧ ∃ d h, e = .returned (.tuple #[.pointer (some ⟨d, 0, none⟩), .int .i64 0]) ∧ RAt w' d h a n c (l.map sg) ∧ w.heap.size ≤ d ∧ w.heap.size ≤ h ∧ h < w'.heap.size))
set_option maxHeartbeats 1000000 in
theorem rnew_any (a : Option Addr) (n c : Nat) (l : List Ac) (hn : Hid (l.length = n)) (hm : n ≤ 9223372036854775807) (w : World) (hc : Hid (AcAt w a l)) :
    Calls Tryd.prog 11 #[.slice a n c] w fun e w' => RnR w a n c l e w' := by
  have CK := rcheck_any a n c l hn hm w hc
  obtain ⟨X, hX⟩ : ∃ X, (chk l).1 = X := ⟨_, rfl⟩
  obtain ⟨Y, hY⟩ : ∃ Y, (chk l).2 = Y := ⟨_, rfl⟩
  have HY : Hid ((chk l).2 = Y) := hY
  rw [hX, hY] at CK
  clear hX hY
  by_cases hz : Y = 0
  · subst hz
    have FN : Hid (∀ (w' : World) (d h : Nat), Below w.heap.size w w' → RAt w' d h a n c (l.map sg) → w.heap.size ≤ d → w.heap.size ≤ h → h < w'.heap.size → RnR w a n c l (.returned (.tuple #[.pointer (some ⟨d, 0, none⟩), .int .i64 0])) w') := fun w' d h h1 h2 h3 h4 h5 => ⟨h1, .inr ⟨HY.out, d, h, rfl, h2, h3, h4, h5⟩⟩
    have h64 : n ≤ 64 := by have := (chk_each HY.out).1; rw [hn.out] at this; exact this
    have HK : Hid (∀ i (hi : i < l.length), l[i].k.size = 32) := fun i hi => chk_key HY.out i hi
    go_enter Tryd.func11, Tryd.ntmps11
    go_wp2_with fail
    refine Calls.mono CK ?_
    rintro e w1 ⟨rfl, hb⟩
    have B1 : Hid (Below w.heap.size w w1) := hb
    clear hb CK
    have MK : ∃ W, (Instr.makeSlice 49 (.int .i64 (n : Int)) (.int .i64 (n : Int))).run Tryd.prog w1 = .ok (.slice (some ⟨w1.heap.size, 0, none⟩) n n) W ∧ IntsAt W w1.heap.size (List.replicate n 0) ∧ Below w1.heap.size w1 W ∧ w1.heap.size < W.heap.size := by
      have hi : (Tryd.prog.info? 3).map (fun i => (i.zero, i.size, i.bytes)) = some (some (.int .i64 0), 1, 8) := by kernel_rfl
      obtain ⟨i0, hi, hz0, hz1, hz2⟩ := info_parts hi
      have h := run_make (P := Tryd.prog) w1 49 3 i0 (.int .i64 0) Tryd.underlying49 hi hz0 .i64 .i64 (n : Int) (n : Int) (by omega) (Int.le_refl _) (by rw [hz2]; omega) (by omega)
      rw [Int.toNat_natCast, hz1] at h
      have e : madeCells (Value.int .i64 0).cells (n * 1) = Array.replicate n (.int .i64 0) := by
        apply Array.ext
        · rw [size_madeCells, Array.size_replicate, Nat.mul_one]
        · intro i h1 h2
          rw [Array.getElem_replicate]
          simp [madeCells, Value.cells, Nat.mod_one]
      rw [e] at h
      refine ⟨_, h, fun j hj => ?_, (Below.refl _ _).alloc (Nat.le_refl _) _, by simp⟩
      have hj' : j < n := by simpa using hj
      refine ⟨?_, by simp [go_sem]⟩
      rw [World.cell?_alloc_new, List.getElem_replicate, Array.getElem?_replicate, if_pos hj']
    obtain ⟨W, mk1, IW, bW, lW⟩ := MK
    have F2 : Hid (∀ o, (∀ x, a = some x → 0 < n → x.block < w.heap.size) → Below w.heap.size w (W.alloc (.cells #[.slice a n c, .slice (some ⟨w1.heap.size, 0, none⟩) n n] o)) ∧ RAt (W.alloc (.cells #[.slice a n c, .slice (some ⟨w1.heap.size, 0, none⟩) n n] o)) W.heap.size w1.heap.size a n c (l.map sg) ∧ w.heap.size ≤ W.heap.size ∧ w.heap.size ≤ w1.heap.size ∧ w1.heap.size < (W.alloc (.cells #[.slice a n c, .slice (some ⟨w1.heap.size, 0, none⟩) n n] o)).heap.size) := fun o hax => by
      have b2 : Below w.heap.size w W := chain B1.out bW
      have b3 : Below W.heap.size W (W.alloc (.cells #[.slice a n c, .slice (some ⟨w1.heap.size, 0, none⟩) n n] o)) := (Below.refl _ _).alloc (Nat.le_refl _) _
      have e1 : (l.map sg).map (fun s : Si => (⟨s.u, s.k⟩ : Ac)) = l := by
        rw [List.map_map]
        exact List.map_id' _
      have e2 : (l.map sg).map (fun s : Si => s.q) = List.replicate n 0 := by
        rw [List.map_map, ← hn.out]
        exact List.map_const' ..
      refine ⟨chain b2 b3, ⟨by simp [go_sem], by simp [go_sem], by rw [List.length_map]; exact hn.out, ?_, ?_, by omega, fun x hx h0 => ?_, h64, fun i hi => ?_⟩, b2.size, B1.out.size, by simp; omega⟩
      · rw [e1]; exact hc.out.later (chain b2 b3)
      · rw [e2]
        exact fun i hi => ⟨cell_later b3 (IW i hi).1, (frozen_kept b3 (World.block_lt_of_cell? _ _ (IW i hi).1)).trans (IW i hi).2⟩
      · have := hax x hx h0; have := B1.out.size; omega
      · rw [List.getElem_map]; exact HK.out i (by simpa using hi)
    have AX : Hid (∀ x, a = some x → 0 < n → x.block < w.heap.size) := fun x hx h0 => by
      obtain ⟨b, o, e, c0, -⟩ := hc.out 0 (by rw [hn.out]; exact h0)
      rw [e] at hx
      have := Option.some.inj hx
      subst this
      exact World.block_lt_of_cell? _ _ c0
    clear IW bW lW HK
    go_wp2
    go_ret2
    have q := F2.out 51 AX.out
    exact FN.out _ _ _ q.1 q.2.1 q.2.2.1 q.2.2.2.1 q.2.2.2.2
  · have FN : Hid (∀ (w' : World), Below w.heap.size w w' → RnR w a n c l (.returned (.tuple #[.pointer none, .int .i64 Y])) w') := fun w' h1 => ⟨h1, .inl ⟨by rw [HY.out]; exact hz, by rw [HY.out]⟩⟩
    go_enter Tryd.func11, Tryd.ntmps11
    go_wp2_with fail
    refine Calls.mono CK ?_
    rintro e w1 ⟨rfl, hb⟩
    have B1 : Hid (Below w.heap.size w w1) := hb
    clear hb CK
    go_wp2
    go_ret2
    exact FN.out _ B1.out
end Go.Proofs.YtbogoheigbiegaaDoor.Gat
namespace Go.Proofs.YtbogoheigbiegaaDoor.Gat
open Go.RowKit Go.Proofs.Fd Go.Proofs.Ml Go.Proofs.Hs Go.Proofs.Gt
open Go.Proofs.YtbogoheigbiegaaDoor.Mai (mv MlAt Lists MlV SlAt enS chkE z32)
set_option maxRecDepth 20000
theorem res_blank (tmps : Array Value) (w : World) (b : Nat) (k u q : Int) (t g : ByteArray) (a : Option Addr) (n c : Nat) (a2 : Option Addr) (n2 c2 : Nat) (h4 : tmps.getD 2 undef = .pointer (some ⟨b, 0, none⟩)) (l : MlAt w b k u q t g a n c a2 n2 c2) :
    (results Tryd.f29 tmps).run Tryd.prog w = .ok (mv k u q t g a n c a2 n2 c2) w := by
  have l1 := run_loadVar_mid (P := Tryd.prog) w b 0 38 _ _ l.range Tryd.underlying38 rfl (by kernel_rfl)
  unfold results
  rw [Tryd.results29]
  have h4' : tmps[2]?.getD undef = .pointer (some ⟨b, 0, none⟩) := by simpa using h4
  simp [h4', l1, asAddr]
set_option maxHeartbeats 2000000 in
theorem rblank_any (k u q : Int) (t g : ByteArray) (a : Option Addr) (n c : Nat) (a2 : Option Addr) (n2 c2 : Nat) (w : World) :
    Calls Tryd.prog 29 #[mv k u q t g a n c a2 n2 c2] w fun e w' => e = .returned (mv k u q t (mk (zr 32)) a n c a2 n2 c2) ∧ Below w.heap.size w w' := by
  obtain ⟨A, hA⟩ : ∃ A : Obj, .cells #[.int .i64 k, .int .i64 u, .int .i64 q, .string t, .string g, .slice a n c, .slice a2 n2 c2] 38 = A := ⟨_, rfl⟩
  have MA : MlAt (w.alloc A) w.heap.size k u q t g a n c a2 n2 c2 := hA ▸ MlAt.new w 38 k u q t g a n c a2 n2 c2
  have A2 := at_alloc2 w A
  have bz : Below (w.alloc A).heap.size (w.alloc A) ((w.alloc A).alloc zml) := (Below.refl _ _).alloc (Nat.le_refl _) _
  have MA2 := MlAt.later MA bz
  obtain ⟨W0, hW0⟩ : ∃ W0, (w.alloc A).alloc zml = W0 := ⟨_, rfl⟩
  rw [hW0] at A2 MA2
  obtain ⟨W, CM, BW, bW, -⟩ := Mai.make_n 32 (by decide) W0
  obtain ⟨Z, hZ⟩ : ∃ Z, mk (zr 32) = Z := ⟨_, rfl⟩
  have CV := BW.string (cap := 32) (n := 32) (by simp)
  rw [show (⟨(List.replicate 32 (0 : UInt8)).toArray⟩ : ByteArray) = Z from hZ] at CV
  have CM : (Instr.makeSlice 60 (.int .i64 32) (.int .i64 32)).run Tryd.prog W0 = .ok (.slice (some ⟨W0.heap.size, 0, none⟩) 32 32) W := CM
  have M1 := MlAt.later MA2 bW
  have R1 := MlAt.later A2.1 bW
  have B1 : Below w.heap.size w W := chain A2.2.2 bW
  have F4 : Hid (MlAt (W.setCell ⟨w.heap.size, 4, none⟩ (.string Z)) (w.heap.size + 1) 0 0 0 ⟨#[]⟩ ⟨#[]⟩ none 0 0 none 0 0 ∧ Below w.heap.size w (W.setCell ⟨w.heap.size, 4, none⟩ (.string Z))) := ⟨Mai.MlAt.other R1 (by show w.heap.size ≠ w.heap.size + 1; omega) _, B1.setCell (p := ⟨w.heap.size, 4, none⟩) (Nat.le_refl w.heap.size) _⟩
  obtain ⟨f3, c30, c31, c32, c33, c34, c35, c36⟩ := M1
  obtain ⟨f4, d0, d1, d2, d3, d4, d5, d6⟩ := R1
  have ne : ¬ w.heap.size = w.heap.size + 1 := by omega
  subst hA
  rw [hZ]
  clear hZ bW B1 BW bz MA MA2 A2
  unfold zml at hW0
  unfold mv
  go_enter Tryd.func29, Tryd.ntmps29
  go_wp2_with fail
  have FB := Mai.below_whole F4.out.2 (Nat.le_succ w.heap.size) (.int .i64 k) (.int .i64 u) (.int .i64 q) (.string t) (.string Z) (.slice a n c) (.slice a2 n2 c2)
  have FM := Mai.MlAt.whole F4.out.1 k u q t Z a n c a2 n2 c2
  refine bodyPost_ret (v := mv k u q t Z a n c a2 n2 c2) ?_ rfl ⟨rfl, FB⟩
  exact res_blank _ _ (w.heap.size + 1) _ _ _ _ _ _ _ _ _ _ _ (by kernel_rfl) FM
def rmB (m : Ml) : Bool := (decide (m.k = 2) || decide (m.k = 4)) && okB m
theorem rmB_may (m : Ml) : rmB m = mayB m := by
  unfold rmB mayB
  by_cases h : okB m = true
  · rw [h, Bool.and_true, Bool.true_and]
    by_cases hk : m.k = 2 ∨ m.k = 4
    · rw [bare_of h hk]; simpa using hk
    · have : okB (bare m) = false := by
        cases e : okB (bare m) with
        | false => rfl
        | true => exact absurd (bare_kind e).1 hk
      rw [this]
      simp only [not_or] at hk
      rw [decide_eq_false hk.1, decide_eq_false hk.2]; rfl
  · have h' : okB m = false := by simpa using h
    rw [h', Bool.and_false, Bool.false_and]
theorem rmB_bare (m : Ml) : rmB (bare m) = okB (bare m) := by
  rw [rmB_may]
  unfold mayB
  show (okB (bare m) && okB (bare m)) = _
  rw [Bool.and_self]
set_option maxHeartbeats 2000000 in
theorem rmay_any (k u q : Int) (t g : ByteArray) (a : Option Addr) (n c : Nat) (a2 : Option Addr) (n2 c2 : Nat) (ss : List Sl) (is : List ByteArray) (w : World) (L : Hid (Lists w a n c a2 n2 c2 ss is)) :
    Calls Tryd.prog 28 #[mv k u q t g a n c a2 n2 c2] w fun e w' => e = .returned (.bool (rmB ⟨k, u, q, t, g, ss, is⟩)) ∧ Below w.heap.size w w' := by
  have CK : Hid (∀ w2, Below w.heap.size w w2 → Calls Tryd.prog 47 #[mv k u q t g a n c a2 n2 c2] w2 fun e w' => e = .returned (.int .i64 (chkE (okB ⟨k, u, q, t, g, ss, is⟩))) ∧ Below w2.heap.size w2 w') := fun w2 h => Mai.rcheck_any k u q t g a n c a2 n2 c2 ss is w2 (L.out.later h)
  have BB : Hid (∀ o, Below w.heap.size w (w.alloc o)) := fun o => (Below.refl _ _).alloc (Nat.le_refl _) _
  unfold rmB
  obtain ⟨d, hd⟩ : ∃ d, okB ⟨k, u, q, t, g, ss, is⟩ = d := ⟨_, rfl⟩
  rw [hd] at CK ⊢
  clear hd L
  unfold mv at CK ⊢
  by_cases h2 : k = 2
  · subst h2
    rw [show (decide ((2 : Int) = 2) || decide ((2 : Int) = 4)) = true from rfl, Bool.true_and]
    go_enter Tryd.func28, Tryd.ntmps28
    go_wp2_with fail
    refine Calls.mono (CK.out _ (BB.out _)) ?_
    rintro e w1 ⟨rfl, hb⟩
    have B1 : Hid (Below w.heap.size w w1) := chain (BB.out _) hb
    clear hb CK BB
    cases d with
    | true =>
      rw [show chkE true = 0 from rfl]
      go_wp2
      go_ret
      exact ⟨rfl, B1.out⟩
    | false =>
      rw [show chkE false = 110 from rfl]
      go_wp2
      go_ret
      exact ⟨rfl, B1.out⟩
  by_cases h4 : k = 4
  · subst h4
    rw [show (decide ((4 : Int) = 2) || decide ((4 : Int) = 4)) = true from rfl, Bool.true_and]
    go_enter Tryd.func28, Tryd.ntmps28
    go_wp2_with fail
    refine Calls.mono (CK.out _ (BB.out _)) ?_
    rintro e w1 ⟨rfl, hb⟩
    have B1 : Hid (Below w.heap.size w w1) := chain (BB.out _) hb
    clear hb CK BB
    cases d with
    | true =>
      rw [show chkE true = 0 from rfl]
      go_wp2
      go_ret
      exact ⟨rfl, B1.out⟩
    | false =>
      rw [show chkE false = 110 from rfl]
      go_wp2
      go_ret
      exact ⟨rfl, B1.out⟩
  · rw [decide_eq_false h2, decide_eq_false h4, Bool.or_false, Bool.false_and]
    go_enter Tryd.func28, Tryd.ntmps28
    go_wp2
    go_ret
    exact ⟨rfl, BB.out _⟩
set_option maxHeartbeats 2000000 in
theorem rtag_any (key : ByteArray) (k u q : Int) (t g : ByteArray) (a : Option Addr) (n c : Nat) (a2 : Option Addr) (n2 c2 : Nat) (ss : List Sl) (is : List ByteArray) (hk : key.size = 32) (ho : okB (bare ⟨k, u, q, t, g, ss, is⟩) = true) (w : World) (L : Hid (Lists w a n c a2 n2 c2 ss is)) :
    Calls Tryd.prog 30 #[.string key, mv k u q t g a n c a2 n2 c2] w fun e w' => e = .returned (.string (tgM key ⟨k, u, q, t, g, ss, is⟩)) ∧ Below w.heap.size w w' := by
  have RB : Hid (∀ w2, Calls Tryd.prog 29 #[mv k u q t g a n c a2 n2 c2] w2 fun e w' => e = .returned (mv k u q t (mk (zr 32)) a n c a2 n2 c2) ∧ Below w2.heap.size w2 w') := fun w2 => rblank_any k u q t g a n c a2 n2 c2 w2
  have RT : Hid (∀ w2, Below w.heap.size w w2 → Calls Tryd.prog 49 #[mv k u q t (mk (zr 32)) a n c a2 n2 c2] w2 fun e w' => e = .returned (.string (mk (txt (bare ⟨k, u, q, t, g, ss, is⟩)))) ∧ Below w2.heap.size w2 w') := fun w2 h => Mai.rtext_any k u q t (mk (zr 32)) a n c a2 n2 c2 ss is ho w2 (L.out.later h)
  have lt : (txt (bare ⟨k, u, q, t, g, ss, is⟩)).length ≤ 1000 := by
    rw [txt_len ho]
    rcases (bare_kind ho).1 with h | h
    · rw [show (bare ⟨k, u, q, t, g, ss, is⟩).k = 2 from h]; decide
    · rw [show (bare ⟨k, u, q, t, g, ss, is⟩).k = 4 from h]; decide
  obtain ⟨T, hT⟩ : ∃ T, txt (bare ⟨k, u, q, t, g, ss, is⟩) = T := ⟨_, rfl⟩
  have TK0 : ∀ w2, Calls Tryd.prog 48 #[.string key, .string (mk (gate4 ++ T))] w2 fun e w' => e = .returned (.string (tgM key ⟨k, u, q, t, g, ss, is⟩)) ∧ Below w2.heap.size w2 w' := fun w2 => by
    have rq := rTag_any key (mk (gate4 ++ T)) (by show key.size ≤ _; rw [hk]; decide) (by show (mk (gate4 ++ T)).size + 64 ≤ _; rw [mk_size, List.length_append, ← hT]; show 4 + _ + 64 ≤ _; omega) w2
    have e1 : (mk (gate4 ++ T)).data.toList = gate4 ++ T := by_mk _
    have e2 : tgM key ⟨k, u, q, t, g, ss, is⟩ = (⟨(hmac key.data.toList (gate4 ++ T)).toArray⟩ : ByteArray) := by unfold tgM tgT; rw [hT]
    rw [e1] at rq
    rw [e2]
    exact rq
  have AD : ∀ w2, (Op.stringOp .add (⟨#[103, 97, 116, 101]⟩ : ByteArray) (mk T)).run Tryd.prog w2 = .ok (.string (mk (gate4 ++ T))) w2 := fun w2 => Mai.add_mk gate4 T _ _ _ rfl rfl rfl (by rw [← hT]; show 4 + _ ≤ _; omega) w2
  rw [hT] at RT
  clear hT lt hk ho L
  generalize mk (gate4 ++ T) = GT at TK0 AD
  have TK : Hid _ := TK0
  clear TK0
  generalize tgM key ⟨k, u, q, t, g, ss, is⟩ = R at TK ⊢
  generalize mk T = S at RT AD
  generalize mk (zr 32) = Z at RB RT
  have BB : Hid (∀ o, Below w.heap.size w (w.alloc o)) := fun o => (Below.refl _ _).alloc (Nat.le_refl _) _
  unfold mv at RB RT ⊢
  go_enter Tryd.func30, Tryd.ntmps30
  go_wp2_with fail
  refine Calls.mono (RB.out _) ?_
  rintro e w1 ⟨rfl, hb⟩
  have B1 : Hid (Below w.heap.size w w1) := chain (BB.out _) hb
  clear hb RB BB
  go_wp2_with fail
  refine Calls.mono (RT.out _ B1.out) ?_
  rintro e w2 ⟨rfl, hb⟩
  have B2 : Hid (Below w.heap.size w w2) := chain B1.out hb
  clear hb RT B1
  go_wp2_with fail
  refine Calls.mono (TK.out _) ?_
  rintro e w3 ⟨rfl, hb⟩
  have B3 : Hid (Below w.heap.size w w3) := chain B2.out hb
  clear hb TK B2
  go_wp2
  go_ret
  exact ⟨rfl, B3.out⟩
end Go.Proofs.YtbogoheigbiegaaDoor.Gat
namespace Go.Proofs.YtbogoheigbiegaaDoor.Gat
open Go.RowKit Go.Proofs.Fd Go.Proofs.Ml Go.Proofs.Hs Go.Proofs.Gt
open Go.Proofs.YtbogoheigbiegaaDoor.Mai (mv MlAt Lists MlV SlAt enS chkE z32)
set_option maxRecDepth 20000
theorem res_rSign (tmps : Array Value) (w : World) (b : Nat) (k u q : Int) (t g : ByteArray) (a : Option Addr) (n c : Nat) (a2 : Option Addr) (n2 c2 : Nat) (e : Int) (h4 : tmps.getD 4 undef = .pointer (some ⟨b, 0, none⟩)) (h5 : tmps.getD 5 undef = .int .i64 e) (l : MlAt w b k u q t g a n c a2 n2 c2) :
    (results Tryd.f12 tmps).run Tryd.prog w = .ok (.tuple #[mv k u q t g a n c a2 n2 c2, .int .i64 e]) w := by
  have l1 := run_loadVar_mid (P := Tryd.prog) w b 0 38 _ _ l.range Tryd.underlying38 rfl (by kernel_rfl)
  unfold results
  rw [Tryd.results12]
  have h4' : tmps[4]?.getD undef = .pointer (some ⟨b, 0, none⟩) := by simpa using h4
  have h5' : tmps[5]?.getD undef = .int .i64 e := by simpa using h5
  simp [h4', h5', l1, asAddr]
set_option maxHeartbeats 2000000 in
theorem rSign_any (key : ByteArray) (k u q : Int) (t g : ByteArray) (a : Option Addr) (n c : Nat) (a2 : Option Addr) (n2 c2 : Nat) (ss : List Sl) (is : List ByteArray) (w : World) (L : Hid (Lists w a n c a2 n2 c2 ss is)) :
    Calls Tryd.prog 12 #[.string key, mv k u q t g a n c a2 n2 c2] w fun e w' => ∃ v, e = .returned (.tuple #[v, .int .i64 (sgE key ⟨k, u, q, t, g, ss, is⟩)]) ∧ MlV w' v (sgV key ⟨k, u, q, t, g, ss, is⟩) ∧ Below w.heap.size w w' ∧ (sgE key ⟨k, u, q, t, g, ss, is⟩ = 0 → v = mv k u q t (tgM key ⟨k, u, q, t, g, ss, is⟩) a n c a2 n2 c2) := by
  obtain ⟨A, hA⟩ : ∃ A : Obj, .cells #[.int .i64 k, .int .i64 u, .int .i64 q, .string t, .string g, .slice a n c, .slice a2 n2 c2] 38 = A := ⟨_, rfl⟩
  have Q0 := at_alloc2 w A
  have A0 : Hid _ := Q0
  have MA : Hid (MlAt ((w.alloc A).alloc zml) w.heap.size k u q t g a n c a2 n2 c2) := by
    have h : MlAt (w.alloc A) w.heap.size k u q t g a n c a2 n2 c2 := hA ▸ MlAt.new w 38 k u q t g a n c a2 n2 c2
    exact MlAt.later h ((Below.refl _ _).alloc (Nat.le_refl _) _)
  have RB : Hid (∀ w2, Calls Tryd.prog 29 #[mv k u q t g a n c a2 n2 c2] w2 fun e w' => e = .returned (mv k u q t (mk (zr 32)) a n c a2 n2 c2) ∧ Below w2.heap.size w2 w') := fun w2 => rblank_any k u q t g a n c a2 n2 c2 w2
  have RM : Hid (∀ w2, Below w.heap.size w w2 → Calls Tryd.prog 28 #[mv k u q t (mk (zr 32)) a n c a2 n2 c2] w2 fun e w' => e = .returned (.bool (okB (bare ⟨k, u, q, t, g, ss, is⟩))) ∧ Below w2.heap.size w2 w') := fun w2 h => by
    have r := rmay_any k u q t (mk (zr 32)) a n c a2 n2 c2 ss is w2 (L.out.later h)
    have e : rmB ⟨k, u, q, t, mk (zr 32), ss, is⟩ = okB (bare ⟨k, u, q, t, g, ss, is⟩) := rmB_bare ⟨k, u, q, t, g, ss, is⟩
    rw [e] at r
    exact r
  generalize mk (zr 32) = ZT at RB RM
  by_cases hk : key.size = 32
  · have g1 : (key.size : Int) = 32 := by omega
    cases ho : okB (bare ⟨k, u, q, t, g, ss, is⟩) with
    | false =>
      obtain ⟨s1, s2⟩ := sg_no hk ho
      rw [s1, s2]
      rw [ho] at RM
      subst hA
      obtain ⟨f0, e0', e1, e2, e3, e4, e5, e6⟩ := MA.out
      clear ho s1 s2 hk L
      unfold mv at RB RM ⊢
      unfold zml at *
      go_enter Tryd.func12, Tryd.ntmps12
      go_wp2_with fail
      refine Calls.mono (RB.out _) ?_
      rintro e w1 ⟨rfl, hb⟩
      have C1 : Hid (Below w.heap.size w w1) := chain A0.out.2.2 hb
      have D1 : Hid (MlAt w1 (w.heap.size + 1) 0 0 0 ⟨#[]⟩ ⟨#[]⟩ none 0 0 none 0 0) := MlAt.later A0.out.1 hb
      clear hb RB f0 e0' e1 e2 e3 e4 e5 e6 MA A0 Q0
      go_wp2_with fail
      refine Calls.mono (RM.out _ C1.out) ?_
      rintro e w2 ⟨rfl, hb⟩
      have M2 := MlAt.later D1.out hb
      have F1 : Hid (MlAt w2 (w.heap.size + 1) 0 0 0 ⟨#[]⟩ ⟨#[]⟩ none 0 0 none 0 0 ∧ Below w.heap.size w w2) := ⟨M2, chain C1.out hb⟩
      obtain ⟨f4, d0, d1, d2, d3, d4, d5, d6⟩ := M2
      clear hb RM C1 D1
      go_wp2_with fail
      refine bodyPost_ret (v := .tuple #[mv 0 0 0 ⟨#[]⟩ ⟨#[]⟩ none 0 0 none 0 0, .int .i64 110]) ?_ rfl ⟨mv 0 0 0 ⟨#[]⟩ ⟨#[]⟩ none 0 0 none 0 0, rfl, Mai.MlV.zero _, Mai.below_whole F1.out.2 (Nat.le_succ _) _ _ _ _ _ _ _, fun h => absurd h (by decide)⟩
      exact res_rSign _ _ (w.heap.size + 1) _ _ _ _ _ _ _ _ _ _ _ _ (by kernel_rfl) (by kernel_rfl) (Mai.zero_store F1.out.1)
    | true =>
      obtain ⟨s1, s2⟩ := sg_ok hk ho
      rw [s1, s2]
      rw [ho] at RM
      have RT : Hid (∀ w2, Below w.heap.size w w2 → Calls Tryd.prog 30 #[.string key, mv k u q t g a n c a2 n2 c2] w2 fun e w' => e = .returned (.string (tgM key ⟨k, u, q, t, g, ss, is⟩)) ∧ Below w2.heap.size w2 w') := fun w2 h => rtag_any key k u q t g a n c a2 n2 c2 ss is hk ho w2 (L.out.later h)
      subst hA
      obtain ⟨f0, e0', e1, e2, e3, e4, e5, e6⟩ := MA.out
      have LL : Hid _ := L.out
      have I16 : Hid ((∀ s ∈ is, s.size = 16) ∧ ss = []) := ⟨ids16 ho, (bare_kind ho).2.2.2.2.2.2.1⟩
      clear ho s1 s2 hk L
      generalize tgM key ⟨k, u, q, t, g, ss, is⟩ = R at RT ⊢
      unfold with'
      simp only
      unfold mv at RB RM RT ⊢
      unfold zml at A0 Q0 MA e0' e1 e2 e3 e4 e5 e6 f0
      go_enter Tryd.func12, Tryd.ntmps12
      go_wp2_with fail
      refine Calls.mono (RB.out _) ?_
      rintro e w1 ⟨rfl, hb⟩
      have C1 : Hid (Below w.heap.size w w1) := chain A0.out.2.2 hb
      have D1 : Hid (MlAt w1 (w.heap.size + 1) 0 0 0 ⟨#[]⟩ ⟨#[]⟩ none 0 0 none 0 0 ∧ MlAt w1 w.heap.size k u q t g a n c a2 n2 c2 ∧ w1.heap[w.heap.size + 1]? = some zml ∧ w.heap.size + 1 < w1.heap.size) := ⟨MlAt.later A0.out.1 hb, MlAt.later MA.out hb, (hb.block _ (by simp)).trans A0.out.2.1, (MlAt.later A0.out.1 hb).lt⟩
      clear hb RB f0 e0' e1 e2 e3 e4 e5 e6 MA A0 Q0
      go_wp2_with fail
      refine Calls.mono (RM.out _ C1.out) ?_
      rintro e w2 ⟨rfl, hb⟩
      have C2 : Hid (Below w.heap.size w w2 ∧ Below w1.heap.size w1 w2) := ⟨chain C1.out hb, hb⟩
      obtain ⟨f0, e0', e1, e2, e3, e4, e5, e6⟩ := MlAt.later D1.out.2.1 hb
      clear hb RM C1
      go_wp2_with fail
      refine Calls.mono (RT.out _ C2.out.1) ?_
      rintro e w3 ⟨rfl, hb⟩
      have B13 : Below w1.heap.size w1 w3 := chain C2.out.2 hb
      have M3 := MlAt.later D1.out.2.1 B13
      have Z3 := MlAt.later D1.out.1 B13
      have F4 : Hid (MlAt (w3.setCell ⟨w.heap.size, 4, none⟩ (.string R)) (w.heap.size + 1) 0 0 0 ⟨#[]⟩ ⟨#[]⟩ none 0 0 none 0 0 ∧ Below w.heap.size w (w3.setCell ⟨w.heap.size, 4, none⟩ (.string R)) ∧ w3.heap[w.heap.size + 1]? = some zml ∧ Below w.heap.size w w3) := ⟨Mai.MlAt.other Z3 (by show w.heap.size ≠ w.heap.size + 1; omega) _, (chain C2.out.1 hb).setCell (p := ⟨w.heap.size, 4, none⟩) (Nat.le_refl w.heap.size) _, (B13.block _ D1.out.2.2.2).trans D1.out.2.2.1, chain C2.out.1 hb⟩
      clear f0 e0' e1 e2 e3 e4 e5 e6
      obtain ⟨f0, e0', e1, e2, e3, e4, e5, e6⟩ := M3
      obtain ⟨f4, d0, d1, d2, d3, d4, d5, d6⟩ := Z3
      have ne : ¬ w.heap.size = w.heap.size + 1 := by omega
      clear hb B13 RT C2 D1
      go_wp2_with fail
      have FB := Mai.below_whole F4.out.2.1 (Nat.le_succ w.heap.size) (.int .i64 k) (.int .i64 u) (.int .i64 q) (.string t) (.string R) (.slice a n c) (.slice a2 n2 c2)
      have FM := Mai.MlAt.whole F4.out.1 k u q t R a n c a2 n2 c2
      refine bodyPost_ret (v := .tuple #[mv k u q t R a n c a2 n2 c2, .int .i64 0]) ?_ rfl ⟨_, rfl, ⟨a, n, c, a2, n2, c2, rfl, ?_⟩, FB, fun _ => rfl⟩
      · exact res_rSign _ _ (w.heap.size + 1) _ _ _ _ _ _ _ _ _ _ _ _ (by kernel_rfl) (by kernel_rfl) FM
      · exact LL.out.later FB
  · obtain ⟨s1, s2⟩ := sg_len (m := ⟨k, u, q, t, g, ss, is⟩) hk
    have g1 : ¬ (key.size : Int) = 32 := by omega
    rw [s1, s2]
    subst hA
    obtain ⟨⟨f4, d0, d1, d2, d3, d4, d5, d6⟩, -, -⟩ := Q0
    clear RB RM s1 s2 hk L MA
    unfold mv
    unfold zml at *
    go_enter Tryd.func12, Tryd.ntmps12
    go_wp2_with fail
    refine bodyPost_ret (v := .tuple #[mv 0 0 0 ⟨#[]⟩ ⟨#[]⟩ none 0 0 none 0 0, .int .i64 3]) ?_ rfl ⟨mv 0 0 0 ⟨#[]⟩ ⟨#[]⟩ none 0 0 none 0 0, rfl, Mai.MlV.zero _, ?_, fun h => absurd h (by decide)⟩
    · exact res_rSign _ _ (w.heap.size + 1) _ _ _ _ _ _ _ _ _ _ _ _ (by kernel_rfl) (by kernel_rfl) A0.out.1
    · exact A0.out.2.2
def atI (L : List Si) (u : Int) : Int := if at' L u < L.length then (at' L u : Int) else -1
set_option maxHeartbeats 1000000 in
theorem rAt_any (d h : Nat) (a : Option Addr) (n c : Nat) (L : List Si) (u : Int) (w : World) (H : Hid (RAt w d h a n c L)) :
    Calls Tryd.prog 18 #[.pointer (some ⟨d, 0, none⟩), .int .i64 u] w fun e w' => e = .returned (.int .i64 (atI L u)) ∧ Below w.heap.size w w' := by
  obtain ⟨E, hE⟩ : ∃ E, atI L u = E := ⟨_, rfl⟩
  have HE : Hid (atI L u = E) := hE
  rw [hE]
  clear hE
  have c0 := H.out.c0
  have HN : Hid (L.length = n) := H.out.l
  have h64 : n ≤ 64 := H.out.le
  go_enter Tryd.func18, Tryd.ntmps18
  go_wp2
  go_loopw [5] (fun i wr => ∃ k : Nat, k ≤ n ∧ i = .int .i64 (k : Int) ∧ Hid ((∀ j (hj : j < L.length), j < k → ¬ L[j].u = u) ∧ wr = w)) (fun i _ => n - (intOf i).toNat)
  case atStart => exact ⟨0, Nat.zero_le _, rfl, fun j hj q => absurd q (Nat.not_lt_zero _), rfl⟩
  case round =>
    obtain ⟨k, hk, rfl, I⟩ := hrel
    obtain ⟨hno, hw⟩ := I.out
    subst hw
    have NO : Hid (∀ j (hj : j < L.length), j < k → ¬ L[j].u = u) := hno
    clear hno I
    by_cases hlt : k < n
    · have hk' : k < L.length := by rw [HN.out]; exact hlt
      have g1 : (k : Int) < (n : Int) := by omega
      obtain ⟨b, o, rfl, s0, s1⟩ := H.out.ac k (by rw [List.length_map]; exact hk')
      rw [List.getElem_map] at s0
      simp only at s0
      by_cases hu : L[k].u = u
      · have E1 : Hid (E = (k : Int)) := by
          show _ = _
          rw [← HE.out]
          have := at_is L u k hk' hu NO.out
          unfold atI
          rw [this, if_pos hk']
        rw [hu] at s0
        clear hu s1 HE NO
        go_wp2
        go_ret
        exact ⟨ret_e E1.out, Below.refl _ _⟩
      · have N2 : Hid (∀ j (hj : j < L.length), j < k + 1 → ¬ L[j].u = u) := fun j hj q => by
          by_cases e : j = k
          · subst e; exact hu
          · exact NO.out j hj (by omega)
        generalize L[k].u = x at hu s0
        clear s1 NO
        go_wp2
        go_roundw
        case rel => exact ⟨k + 1, by omega, by go_num, N2.out, trivial⟩
        case measure => simp [intOf]; omega
    · obtain rfl : k = n := by omega
      have E1 : Hid (E = -1) := by
        show _ = _
        rw [← HE.out]
        unfold atI
        rw [at_none L u (fun j hj => NO.out j hj (by rw [← HN.out]; exact hj)), if_neg (Nat.lt_irrefl _)]
      clear HE NO
      go_wp2
      go_ret
      exact ⟨ret_e E1.out, Below.refl _ _⟩
end Go.Proofs.YtbogoheigbiegaaDoor.Gat
