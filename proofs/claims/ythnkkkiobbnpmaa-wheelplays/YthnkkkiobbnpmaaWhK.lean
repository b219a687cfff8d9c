/- The slots up to a time are emptied. -/
import Derived.Test.YthnkkkiobbnpmaaWhL
namespace Go.Proofs.Ythnkkkiobbnpmaa
open Go.RowKit Go.Proofs.Fd Go.Proofs.Wh
set_option maxRecDepth 20000

/-- A row behind a row. -/
theorem app_rows (w : World) (ty : TypeId) (v u : Value) (l m : List Tm) (h : OwnsT w v l) (k : OwnsT w u m) (hl : l.length + m.length ≤ 8192) :
    ∃ va vn vc w', (Builtin.append_ #[52, 52] ty #[v, u]).run Try.prog w = .ok (.slice va vn vc) w' ∧ OwnsT w' (.slice va vn vc) (l ++ m) ∧ w.grownBy w' v.ownBlock ∧ ((Value.slice va vn vc).ownBlock = v.ownBlock ∨ (Value.slice va vn vc).ownBlock = some w.heap.size) := by
  obtain ⟨i0, hi, hz0, hz1, hz2⟩ := info_parts infoT
  rcases k.2 with ⟨rfl, hm⟩ | ⟨g, cap, cur, rfl, -, hb, hc, -⟩
  · obtain rfl := List.length_eq_zero_iff.1 hm
    obtain ⟨va, vn, vc, rfl⟩ := owns_slice h
    refine ⟨va, vn, vc, w, run_append_owned_none (P := Try.prog) w 0 52 ty 59 i0 3 Try.underlying52 hi _ _ _ h, by rw [List.append_nil]; exact h, ⟨rfl, rfl, rfl, Nat.le_refl _, fun _ _ _ => rfl⟩, .inl rfl⟩
  · obtain ⟨v', w', r1, r2, r3, -, r5⟩ := run_append_own_at (P := Try.prog) w 0 52 ty 59 i0 _ 3 24 Try.underlying52 hi hz0 hz1 hz2 rfl (by decide) v l.length (tcs l) h ⟨g, 0, none⟩ m.length cap (tcs m) (tcs_len m) (k.cells rfl) (tcs_one m) (by unfold maxLen; omega) (by omega) (Nat.zero_le _)
    have r2' : OwnsT w' v' (l ++ m) := by
      unfold OwnsT
      rw [tcs_app, List.length_append]
      exact r2
    obtain ⟨va, vn, vc, rfl⟩ := owns_slice r2'
    exact ⟨va, vn, vc, w', r1, r2', r3, r5⟩
def cutV (sv : Nat → Value) (m : Nat) : Nat → Value := fun j => if j < m then .slice none 0 0 else sv j
theorem cutV_step (sv : Nat → Value) (m : Nat) : updV (cutV sv m) m (.slice none 0 0) = cutV sv (m + 1) := by
  funext j
  unfold updV cutV
  by_cases h : j = m
  · simp [h]
  · by_cases h2 : j < m
    · have : j < m + 1 := by omega
      simp [h, h2, this]
    · have : ¬ j < m + 1 := by omega
      simp [h, h2, this]
theorem cut_step (sl : Nat → List Tm) (m : Nat) : upd (cut sl m) m [] = cut sl (m + 1) := by
  funext j
  unfold upd cut
  by_cases h : j = m
  · simp [h]
  · by_cases h2 : j < m
    · have : j < m + 1 := by omega
      simp [h, h2, this]
    · have : ¬ j < m + 1 := by omega
      simp [h, h2, this]
theorem cutV_zero (sv : Nat → Value) : cutV sv 0 = sv := by funext j; simp [cutV]
theorem cut_zero (sl : Nat → List Tm) : cut sl 0 = sl := by funext j; simp [cut]
/-- So many slots are emptied; what they had is in a row of its own. -/
structure Tk (w : World) (p now put : Nat) (sv : Nat → Value) (sl : Nat → List Tm) (bm : Nat) (D : DataW Unit) (m : Nat) (v : Value) (wr : World) : Prop where
  raw : Raw wr p now put (cutV sv m) (cut sl m) bm D
  own : OwnsT wr v (flat sl m)
  new : ∀ g, v.ownBlock = some g → w.heap.size ≤ g
  bf : Bf (Foot p sv bm) w wr
theorem Tk.foot {p : Nat} {sv : Nat → Value} {bm m g : Nat} (h : Foot p (cutV sv m) bm g) : Foot p sv bm g := by
  rcases h with h | h | ⟨k, hk, e⟩
  · exact .inl h
  · exact .inr (.inl h)
  · unfold cutV at e
    split at e
    · cases e
    · exact .inr (.inr ⟨k, hk, e⟩)
theorem Tk.start {w : World} {p now put : Nat} {sv : Nat → Value} {sl : Nat → List Tm} {bm : Nat} {D : DataW Unit} (R : Raw w p now put sv sl bm D) (q : Nat) : Tk w p now put sv sl bm D 0 (.slice none 0 0) (w.drewN q) :=
  ⟨by rw [cutV_zero, cut_zero]; exact R.later (below_drewN (Below.refl _ _) _), World.ownsRow_nil _ _ _ _, fun g e => (by cases e), Bf.of (below_drewN (Below.refl _ _) _)⟩
/-- One slot more. -/
theorem Tk.step {w wr : World} {p now put : Nat} {sv : Nat → Value} {sl : Nat → List Tm} {bm m : Nat} {D : DataW Unit} {v : Value} (h : Tk w p now put sv sl bm D m v wr) (hm : m < 448) (hlt : ∀ g, Foot p sv bm g → g < w.heap.size) (hl : (flat sl m).length ≤ 4096) (hl2 : (sl m).length ≤ 4096) :
    ∃ va vn vc w', (Builtin.append_ #[52, 52] 52 #[v, sv m]).run Try.prog wr = .ok (.slice va vn vc) w' ∧ w'.cell? ⟨p, 2 + m, none⟩ = some (sv m) ∧ w'.frozen? ⟨p, 2 + m, none⟩ = false ∧ Tk w p now put sv sl bm D (m + 1) (.slice va vn vc) (w'.setCell ⟨p, 2 + m, none⟩ (.slice none 0 0)) := by
  have e1 : cutV sv m m = sv m := by simp [cutV]
  have e2 : cut sl m m = sl m := by simp [cut]
  have k1 := h.raw.row m hm
  rw [e1, e2] at k1
  obtain ⟨va, vn, vc, w', r1, r2, r3, r4⟩ := app_rows wr 52 v (sv m) (flat sl m) (sl m) h.own k1 (by omega)
  have notF : ∀ g, v.ownBlock = some g → ¬ Foot p (cutV sv m) bm g := fun g e c => by
    have h1 := h.new g e
    have h2 := hlt g (Tk.foot c)
    omega
  have R2 := h.raw.grown r3 notF
  have R3 := R2.setRow (w1 := w') hm (⟨rfl, rfl, rfl, Nat.le_refl _, fun _ _ _ => rfl⟩) (v := .slice none 0 0) (l := []) (World.ownsRow_nil _ _ _ _) (fun g e => by cases e)
  rw [cutV_step, cut_step] at R3
  have newb : ∀ g, (Value.slice va vn vc).ownBlock = some g → w.heap.size ≤ g := fun g e => by
    rcases r4 with c | c
    · exact h.new g (by rw [← c]; exact e)
    · rw [c] at e
      injection e with e
      have := h.bf.size
      omega
  refine ⟨va, vn, vc, w', r1, ?_, R2.fr _, R3.1, ?_, newb, ?_⟩
  · rw [R2.cs m hm, e1]
  · refine ownsRow_same r2 (fun g e => ?_)
    have hg := newb g e
    exact Below.heap_setCell w' ⟨p, 2 + m, none⟩ _ g (fun c => by have := hlt p (.inl rfl); simp only at c; omega)
  · have b1 : Bf (Foot p sv bm) w w' := by
      refine h.bf.trans (F' := fun g => v.ownBlock = some g) (fun g e => .inr (h.new g e)) (Bf.grown r3 (fun g e => .inl e))
    refine b1.trans (F' := fun g => g = p) (fun g e => .inl (.inl e)) ⟨rfl, rfl, rfl, by simp, fun g _ hg => Below.heap_setCell w' ⟨p, 2 + m, none⟩ _ g hg⟩
set_option maxHeartbeats 2000000 in
theorem take_any (p now put tt : Nat) (sv : Nat → Value) (sl : Nat → List Tm) (bm : Nat) (D : DataW Unit) (h1 : now ≤ 1099511627776) (h2 : tt ≤ 1099511627776) (w : World) (R : Hid (Raw w p now put sv sl bm D)) (hl : Hid (∀ m, m ≤ 448 → (flat sl m).length ≤ 4096)) :
    Calls Try.prog 28 #[.pointer (some ⟨p, 0, none⟩), .int .i64 (tt : Int)] w fun e w' => ∃ va vn vc, e = .returned (.slice va vn vc) ∧ Tk w p now put sv sl bm D (pl now tt + 1) (.slice va vn vc) w' := by
  have hpl := pl_small h1 h2
  have hlv := lv_small h1 h2
  have hmod := Nat.mod_lt (pl now tt) (show 0 < 64 by decide)
  have hsum : 64 * lv now tt + pl now tt % 64 = pl now tt := by have := pl_div now tt; omega
  have CP : Hid _ := placeOf_any p now tt h1 h2 w R.out.c0
  obtain ⟨pt, hk⟩ : ∃ k, pl now tt = k := ⟨_, rfl⟩
  obtain ⟨x, hx⟩ : ∃ x, lv now tt = x := ⟨_, rfl⟩
  obtain ⟨y, hy⟩ : ∃ y, pl now tt % 64 = y := ⟨_, rfl⟩
  rw [hy] at CP hmod hsum
  rw [hx] at CP hlv hsum
  rw [hk] at hpl hsum ⊢
  clear hy hx hk
  go_enter Try.func28, Try.ntmps28
  go_wp2
  go_step3
  go_wp2_with (go_at_call 25; refine Calls.mono CP.out ?_; rintro e w1 ⟨rfl, ⟨q, rfl⟩⟩)
  go_step3
  go_wp2
  have I0 : Hid (Tk w p now put sv sl bm D 0 (.slice none 0 0) (w.drewN q)) := Tk.start R.out q
  have FL : Hid (∀ g, Foot p sv bm g → g < w.heap.size) := fun g hg => R.out.lt hg
  have SL : Hid (∀ m, m < 448 → (flat sl m).length ≤ 4096 ∧ (sl m).length ≤ 4096) := fun m hm => by
    refine ⟨hl.out m (by omega), ?_⟩
    have := hl.out (m + 1) (by omega)
    rw [flat, List.length_append] at this
    omega
  obtain ⟨W0, hW0⟩ : ∃ W0, w.drewN q = W0 := ⟨_, rfl⟩
  rw [hW0] at I0 ⊢
  clear hW0 CP R hl
  go_loopw [7, 16] (fun v i wr => ∃ (a : Nat) (va : Option Addr) (vn vc : Nat), a ≤ x ∧ i = .int .i64 (a : Int) ∧ v = .slice va vn vc ∧ Hid (Tk w p now put sv sl bm D (64 * a) (.slice va vn vc) wr)) (fun v i wr => 7 - (intOf i).toNat)
  case atStart => exact ⟨0, none, 0, 0, by omega, rfl, rfl, I0.out⟩
  case round =>
    obtain ⟨a, va, vn, vc, ha, rfl, rfl, I⟩ := hrel
    clear I0
    have a7 : (a : Int) < 7 := by omega
    go_wp2
    go_loopw [7, 19] (fun v j wr => ∃ (b : Nat) (va : Option Addr) (vn vc : Nat), b ≤ 64 ∧ 64 * a + b ≤ pt ∧ j = .int .i64 (b : Int) ∧ v = .slice va vn vc ∧ Hid (Tk w p now put sv sl bm D (64 * a + b) (.slice va vn vc) wr)) (fun v j wr => 64 - (intOf j).toNat)
    case atStart => exact ⟨0, va, vn, vc, by omega, by omega, rfl, rfl, I.out⟩
    case round =>
      obtain ⟨b, va, vn, vc, hb, hab, rfl, rfl, I⟩ := hrel
      by_cases hb64 : b < 64
      · have b64 : (b : Int) < 64 := by omega
        have hm : 64 * a + b < 448 := by omega
        obtain ⟨va2, vn2, vc2, w', r1, r2, r3, r4⟩ := I.out.step hm FL.out (SL.out _ hm).1 (SL.out _ hm).2
        have ck := I.out.raw.cs _ hm
        have e1 : 2 + (64 * a + b) = 2 + a * 64 + b := by omega
        have e2 : cutV sv (64 * a + b) (64 * a + b) = sv (64 * a + b) := by simp [cutV]
        rw [e1, e2] at ck
        rw [e1] at r2 r3 r4
        have J : Hid _ := r4
        clear r4 e2
        obtain ⟨u, hu⟩ : ∃ u, sv (64 * a + b) = u := ⟨_, rfl⟩
        rw [hu] at ck r1 r2
        clear hu
        by_cases hax : a = x
        · have x1 : ((a : Int) == (x : Int)) = true := by rw [beq_iff_eq]; omega
          by_cases hby : b = y
          · have y1 : ((b : Int) == (y : Int)) = true := by rw [beq_iff_eq]; omega
            have HP : Hid (64 * a + b + 1 = pt + 1) := by show _ = _; omega
            clear hax hby
            go_wp2_with (at_builtin; refine Go.Lib.wpList_append_run _ rfl _ _ _ _ rfl _ _ rfl rfl _ _ r1 ?_)
            try rw [Exit.noGoto_ret]
            go_ret
            refine ⟨va2, vn2, vc2, rfl, ?_⟩
            rw [← HP.out]
            exact J.out
          · have y1 : ((b : Int) == (y : Int)) = false := by rw [beq_eq_false_iff_ne]; omega
            have HP : Hid (64 * a + b + 1 ≤ pt) := by show _ ≤ _; omega
            clear hax hby
            go_wp2_with (at_builtin; refine Go.Lib.wpList_append_run _ rfl _ _ _ _ rfl _ _ rfl rfl _ _ r1 ?_)
            go_roundw
            case rel => exact ⟨b + 1, va2, vn2, vc2, by omega, HP.out, by go_num, rfl, J.out⟩
            case measure => simp [intOf]; omega
        · have x1 : ((a : Int) == (x : Int)) = false := by rw [beq_eq_false_iff_ne]; omega
          have HP : Hid (64 * a + b + 1 ≤ pt) := by show _ ≤ _; omega
          clear hax
          go_wp2_with (at_builtin; refine Go.Lib.wpList_append_run _ rfl _ _ _ _ rfl _ _ rfl rfl _ _ r1 ?_)
          go_roundw
          case rel => exact ⟨b + 1, va2, vn2, vc2, by omega, HP.out, by go_num, rfl, J.out⟩
          case measure => simp [intOf]; omega
      · obtain rfl : b = 64 := by omega
        go_wp2
        go_roundw
        case rel => exact ⟨a + 1, va, vn, vc, by omega, by go_num, rfl, I.out⟩
        case measure => simp [intOf]; omega
end Go.Proofs.Ythnkkkiobbnpmaa
