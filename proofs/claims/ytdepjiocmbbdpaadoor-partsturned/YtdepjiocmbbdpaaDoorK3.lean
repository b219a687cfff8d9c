/- The machine takes a whole block in. -/
import Derived.Test.YtdepjiocmbbdpaaDoorK2
namespace Go.Proofs.YtdepjiocmbbdpaaDoor
open Go.RowKit Go.Proofs.Fd Go.Proofs.Hs
theorem not32 (x : UInt32) : bits .xor .u32 IntKind.u32.max (tv x) = tv (~~~x) := by
  have e : IntKind.u32.max = tv 4294967295 := by decide
  rw [e, xor32]
  congr 1

/-- The first k of eight words made greater. -/
def plusN (v x : V8) (k : Nat) : V8 := ⟨if 0 < k then v.a + x.a else v.a, if 1 < k then v.b + x.b else v.b, if 2 < k then v.c + x.c else v.c, if 3 < k then v.d + x.d else v.d, if 4 < k then v.e + x.e else v.e, if 5 < k then v.f + x.f else v.f, if 6 < k then v.g + x.g else v.g, if 7 < k then v.h + x.h else v.h⟩

theorem ne_off (w : World) (b k : Nat) (x : Value) : ∀ j, j ≠ k → (w.setCell ⟨b, k, none⟩ x).cell? ⟨b, j, none⟩ = w.cell? ⟨b, j, none⟩ := fun j hj => by
  have hne : (⟨b, k, none⟩ : Addr) ≠ ⟨b, j, none⟩ := fun q => hj (by injection q with _ q2; exact q2.symm)
  exact World.cell?_setCell_other _ _ _ _ hne

theorem Mc.set0 {w : World} {b : Nat} {m : Mach} (h : Mc w b m) (x : UInt32) : Mc (w.setCell ⟨b, 0, none⟩ (.int .u32 (tv x))) b ⟨{ m.v with a := x }, m.r, m.n⟩ := by
  have ne := ne_off w b 0 (.int .u32 (tv x))
  refine ⟨h.pos, h.kst.later ((Below.refl b w).setCell (Nat.le_refl _) _) h.pos, by have := h.c0; simp [go_sem, this], (ne 1 (by decide)).trans h.c1, (ne 2 (by decide)).trans h.c2, (ne 3 (by decide)).trans h.c3, (ne 4 (by decide)).trans h.c4, (ne 5 (by decide)).trans h.c5, (ne 6 (by decide)).trans h.c6, (ne 7 (by decide)).trans h.c7, fun j hj => (ne (8 + j) (by omega)).trans (h.ring j hj), (ne 24 (by decide)).trans h.cn, fun o => by simp [h.fz], h.len, h.lt⟩
theorem Mc.set1 {w : World} {b : Nat} {m : Mach} (h : Mc w b m) (x : UInt32) : Mc (w.setCell ⟨b, 1, none⟩ (.int .u32 (tv x))) b ⟨{ m.v with b := x }, m.r, m.n⟩ := by
  have ne := ne_off w b 1 (.int .u32 (tv x))
  refine ⟨h.pos, h.kst.later ((Below.refl b w).setCell (Nat.le_refl _) _) h.pos, (ne 0 (by decide)).trans h.c0, by have := h.c1; simp [go_sem, this], (ne 2 (by decide)).trans h.c2, (ne 3 (by decide)).trans h.c3, (ne 4 (by decide)).trans h.c4, (ne 5 (by decide)).trans h.c5, (ne 6 (by decide)).trans h.c6, (ne 7 (by decide)).trans h.c7, fun j hj => (ne (8 + j) (by omega)).trans (h.ring j hj), (ne 24 (by decide)).trans h.cn, fun o => by simp [h.fz], h.len, h.lt⟩
theorem Mc.set2 {w : World} {b : Nat} {m : Mach} (h : Mc w b m) (x : UInt32) : Mc (w.setCell ⟨b, 2, none⟩ (.int .u32 (tv x))) b ⟨{ m.v with c := x }, m.r, m.n⟩ := by
  have ne := ne_off w b 2 (.int .u32 (tv x))
  refine ⟨h.pos, h.kst.later ((Below.refl b w).setCell (Nat.le_refl _) _) h.pos, (ne 0 (by decide)).trans h.c0, (ne 1 (by decide)).trans h.c1, by have := h.c2; simp [go_sem, this], (ne 3 (by decide)).trans h.c3, (ne 4 (by decide)).trans h.c4, (ne 5 (by decide)).trans h.c5, (ne 6 (by decide)).trans h.c6, (ne 7 (by decide)).trans h.c7, fun j hj => (ne (8 + j) (by omega)).trans (h.ring j hj), (ne 24 (by decide)).trans h.cn, fun o => by simp [h.fz], h.len, h.lt⟩
theorem Mc.set3 {w : World} {b : Nat} {m : Mach} (h : Mc w b m) (x : UInt32) : Mc (w.setCell ⟨b, 3, none⟩ (.int .u32 (tv x))) b ⟨{ m.v with d := x }, m.r, m.n⟩ := by
  have ne := ne_off w b 3 (.int .u32 (tv x))
  refine ⟨h.pos, h.kst.later ((Below.refl b w).setCell (Nat.le_refl _) _) h.pos, (ne 0 (by decide)).trans h.c0, (ne 1 (by decide)).trans h.c1, (ne 2 (by decide)).trans h.c2, by have := h.c3; simp [go_sem, this], (ne 4 (by decide)).trans h.c4, (ne 5 (by decide)).trans h.c5, (ne 6 (by decide)).trans h.c6, (ne 7 (by decide)).trans h.c7, fun j hj => (ne (8 + j) (by omega)).trans (h.ring j hj), (ne 24 (by decide)).trans h.cn, fun o => by simp [h.fz], h.len, h.lt⟩
theorem Mc.set4 {w : World} {b : Nat} {m : Mach} (h : Mc w b m) (x : UInt32) : Mc (w.setCell ⟨b, 4, none⟩ (.int .u32 (tv x))) b ⟨{ m.v with e := x }, m.r, m.n⟩ := by
  have ne := ne_off w b 4 (.int .u32 (tv x))
  refine ⟨h.pos, h.kst.later ((Below.refl b w).setCell (Nat.le_refl _) _) h.pos, (ne 0 (by decide)).trans h.c0, (ne 1 (by decide)).trans h.c1, (ne 2 (by decide)).trans h.c2, (ne 3 (by decide)).trans h.c3, by have := h.c4; simp [go_sem, this], (ne 5 (by decide)).trans h.c5, (ne 6 (by decide)).trans h.c6, (ne 7 (by decide)).trans h.c7, fun j hj => (ne (8 + j) (by omega)).trans (h.ring j hj), (ne 24 (by decide)).trans h.cn, fun o => by simp [h.fz], h.len, h.lt⟩
theorem Mc.set5 {w : World} {b : Nat} {m : Mach} (h : Mc w b m) (x : UInt32) : Mc (w.setCell ⟨b, 5, none⟩ (.int .u32 (tv x))) b ⟨{ m.v with f := x }, m.r, m.n⟩ := by
  have ne := ne_off w b 5 (.int .u32 (tv x))
  refine ⟨h.pos, h.kst.later ((Below.refl b w).setCell (Nat.le_refl _) _) h.pos, (ne 0 (by decide)).trans h.c0, (ne 1 (by decide)).trans h.c1, (ne 2 (by decide)).trans h.c2, (ne 3 (by decide)).trans h.c3, (ne 4 (by decide)).trans h.c4, by have := h.c5; simp [go_sem, this], (ne 6 (by decide)).trans h.c6, (ne 7 (by decide)).trans h.c7, fun j hj => (ne (8 + j) (by omega)).trans (h.ring j hj), (ne 24 (by decide)).trans h.cn, fun o => by simp [h.fz], h.len, h.lt⟩
theorem Mc.set6 {w : World} {b : Nat} {m : Mach} (h : Mc w b m) (x : UInt32) : Mc (w.setCell ⟨b, 6, none⟩ (.int .u32 (tv x))) b ⟨{ m.v with g := x }, m.r, m.n⟩ := by
  have ne := ne_off w b 6 (.int .u32 (tv x))
  refine ⟨h.pos, h.kst.later ((Below.refl b w).setCell (Nat.le_refl _) _) h.pos, (ne 0 (by decide)).trans h.c0, (ne 1 (by decide)).trans h.c1, (ne 2 (by decide)).trans h.c2, (ne 3 (by decide)).trans h.c3, (ne 4 (by decide)).trans h.c4, (ne 5 (by decide)).trans h.c5, by have := h.c6; simp [go_sem, this], (ne 7 (by decide)).trans h.c7, fun j hj => (ne (8 + j) (by omega)).trans (h.ring j hj), (ne 24 (by decide)).trans h.cn, fun o => by simp [h.fz], h.len, h.lt⟩
theorem Mc.set7 {w : World} {b : Nat} {m : Mach} (h : Mc w b m) (x : UInt32) : Mc (w.setCell ⟨b, 7, none⟩ (.int .u32 (tv x))) b ⟨{ m.v with h := x }, m.r, m.n⟩ := by
  have ne := ne_off w b 7 (.int .u32 (tv x))
  refine ⟨h.pos, h.kst.later ((Below.refl b w).setCell (Nat.le_refl _) _) h.pos, (ne 0 (by decide)).trans h.c0, (ne 1 (by decide)).trans h.c1, (ne 2 (by decide)).trans h.c2, (ne 3 (by decide)).trans h.c3, (ne 4 (by decide)).trans h.c4, (ne 5 (by decide)).trans h.c5, (ne 6 (by decide)).trans h.c6, by have := h.c7; simp [go_sem, this], fun j hj => (ne (8 + j) (by omega)).trans (h.ring j hj), (ne 24 (by decide)).trans h.cn, fun o => by simp [h.fz], h.len, h.lt⟩

attribute [local go_sem] not32 and32 or32 xor32 add32 add32'

set_option maxRecDepth 10000 in
set_option maxHeartbeats 2000000 in
theorem mix_any (b : Nat) (m : Mach) (w : World) (hm : Hid (Mc w b m)) :
    Calls Tryd.prog 71 #[.pointer (some ⟨b, 0, none⟩)] w fun e w' => e = .returned (.tuple #[]) ∧ Mc w' b m.mix ∧ Below b w w' := by
  have c0 := hm.out.c0
  have c1 := hm.out.c1
  have c2 := hm.out.c2
  have c3 := hm.out.c3
  have c4 := hm.out.c4
  have c5 := hm.out.c5
  have c6 := hm.out.c6
  have c7 := hm.out.c7
  go_enter Tryd.func71, Tryd.ntmps71
  go_wp2
  go_quiet (fail)
  go_wp2
  go_quiet (fail)
  go_wp2
  go_loopw [2, 3, 4, 5, 6, 7, 8, 9, 55] (fun sa sb sc sd se sf sg sh si wr => ∃ (k : Nat) (v : V8) (r : List UInt32), k ≤ 64 ∧ si = .int .i64 (k : Int) ∧ sa = .int .u32 (tv v.a) ∧ sb = .int .u32 (tv v.b) ∧ sc = .int .u32 (tv v.c) ∧ sd = .int .u32 (tv v.d) ∧ se = .int .u32 (tv v.e) ∧ sf = .int .u32 (tv v.f) ∧ sg = .int .u32 (tv v.g) ∧ sh = .int .u32 (tv v.h) ∧ Hid (rounds m.v m.r k = (v, r) ∧ Mc wr b ⟨m.v, r, m.n⟩ ∧ Below b w wr)) (fun _ _ _ _ _ _ _ _ si _ => 64 - (intOf si).toNat)
  case atStart => exact ⟨0, m.v, m.r, by omega, rfl, rfl, rfl, rfl, rfl, rfl, rfl, rfl, rfl, rfl, (hm.out.drewN _).drewN _, below_drewN (below_drewN (Below.refl _ _) _) _⟩
  case round =>
    obtain ⟨k, v, r, hk, rfl, rfl, rfl, rfl, rfl, rfl, rfl, rfl, rfl, I⟩ := hrel
    clear c0 c1 c2 c3 c4 c5 c6 c7
    by_cases hk2 : k = 64
    · subst hk2
      obtain ⟨v0, v1, v2, v3, v4, v5, v6, v7⟩ := v
      go_wp2
      go_loopw [115] (fun i wx => ∃ j : Nat, j ≤ 8 ∧ i = .int .i64 (j : Int) ∧ Hid (Mc wx b ⟨plusN m.v ⟨v0, v1, v2, v3, v4, v5, v6, v7⟩ j, r, m.n⟩ ∧ Below b w wx)) (fun i _ => 8 - (intOf i).toNat)
      case atStart => exact ⟨0, by omega, rfl, I.out.2⟩
      case round =>
        obtain ⟨j, hj, rfl, J⟩ := hrel
        rcases (by omega : j = 0 ∨ j = 1 ∨ j = 2 ∨ j = 3 ∨ j = 4 ∨ j = 5 ∨ j = 6 ∨ j = 7 ∨ j = 8) with rfl | rfl | rfl | rfl | rfl | rfl | rfl | rfl | rfl
        · have c : wr.cell? ⟨b, 0, none⟩ = some (.int .u32 (tv m.v.a)) := J.out.1.c0
          have f := J.out.1.fz 0
          have ix : ∀ w : World, (Instr.index 109 (.agg #[.int .u32 (tv v0), .int .u32 (tv v1), .int .u32 (tv v2), .int .u32 (tv v3), .int .u32 (tv v4), .int .u32 (tv v5), .int .u32 (tv v6), .int .u32 (tv v7)]) (.int .i64 0)).run Tryd.prog w = .ok (.int .u32 (tv v0)) w := fun _ => by kernel_rfl
          go_wp2
          go_region
          all_goals
            go_wp2
            go_roundw
            case rel => exact ⟨1, by omega, by go_num, J.out.1.drew.set0 _, J.out.2.drew.setCell (p := ⟨b, 0, none⟩) (Nat.le_refl _) _⟩
            case measure => simp [intOf]
        · have c : wr.cell? ⟨b, 1, none⟩ = some (.int .u32 (tv m.v.b)) := J.out.1.c1
          have f := J.out.1.fz 1
          have ix : ∀ w : World, (Instr.index 109 (.agg #[.int .u32 (tv v0), .int .u32 (tv v1), .int .u32 (tv v2), .int .u32 (tv v3), .int .u32 (tv v4), .int .u32 (tv v5), .int .u32 (tv v6), .int .u32 (tv v7)]) (.int .i64 1)).run Tryd.prog w = .ok (.int .u32 (tv v1)) w := fun _ => by kernel_rfl
          go_wp2
          go_region
          all_goals
            go_wp2
            go_roundw
            case rel => exact ⟨2, by omega, by go_num, J.out.1.drew.set1 _, J.out.2.drew.setCell (p := ⟨b, 1, none⟩) (Nat.le_refl _) _⟩
            case measure => simp [intOf]
        · have c : wr.cell? ⟨b, 2, none⟩ = some (.int .u32 (tv m.v.c)) := J.out.1.c2
          have f := J.out.1.fz 2
          have ix : ∀ w : World, (Instr.index 109 (.agg #[.int .u32 (tv v0), .int .u32 (tv v1), .int .u32 (tv v2), .int .u32 (tv v3), .int .u32 (tv v4), .int .u32 (tv v5), .int .u32 (tv v6), .int .u32 (tv v7)]) (.int .i64 2)).run Tryd.prog w = .ok (.int .u32 (tv v2)) w := fun _ => by kernel_rfl
          go_wp2
          go_region
          all_goals
            go_wp2
            go_roundw
            case rel => exact ⟨3, by omega, by go_num, J.out.1.drew.set2 _, J.out.2.drew.setCell (p := ⟨b, 2, none⟩) (Nat.le_refl _) _⟩
            case measure => simp [intOf]
        · have c : wr.cell? ⟨b, 3, none⟩ = some (.int .u32 (tv m.v.d)) := J.out.1.c3
          have f := J.out.1.fz 3
          have ix : ∀ w : World, (Instr.index 109 (.agg #[.int .u32 (tv v0), .int .u32 (tv v1), .int .u32 (tv v2), .int .u32 (tv v3), .int .u32 (tv v4), .int .u32 (tv v5), .int .u32 (tv v6), .int .u32 (tv v7)]) (.int .i64 3)).run Tryd.prog w = .ok (.int .u32 (tv v3)) w := fun _ => by kernel_rfl
          go_wp2
          go_region
          all_goals
            go_wp2
            go_roundw
            case rel => exact ⟨4, by omega, by go_num, J.out.1.drew.set3 _, J.out.2.drew.setCell (p := ⟨b, 3, none⟩) (Nat.le_refl _) _⟩
            case measure => simp [intOf]
        · have c : wr.cell? ⟨b, 4, none⟩ = some (.int .u32 (tv m.v.e)) := J.out.1.c4
          have f := J.out.1.fz 4
          have ix : ∀ w : World, (Instr.index 109 (.agg #[.int .u32 (tv v0), .int .u32 (tv v1), .int .u32 (tv v2), .int .u32 (tv v3), .int .u32 (tv v4), .int .u32 (tv v5), .int .u32 (tv v6), .int .u32 (tv v7)]) (.int .i64 4)).run Tryd.prog w = .ok (.int .u32 (tv v4)) w := fun _ => by kernel_rfl
          go_wp2
          go_region
          all_goals
            go_wp2
            go_roundw
            case rel => exact ⟨5, by omega, by go_num, J.out.1.drew.set4 _, J.out.2.drew.setCell (p := ⟨b, 4, none⟩) (Nat.le_refl _) _⟩
            case measure => simp [intOf]
        · have c : wr.cell? ⟨b, 5, none⟩ = some (.int .u32 (tv m.v.f)) := J.out.1.c5
          have f := J.out.1.fz 5
          have ix : ∀ w : World, (Instr.index 109 (.agg #[.int .u32 (tv v0), .int .u32 (tv v1), .int .u32 (tv v2), .int .u32 (tv v3), .int .u32 (tv v4), .int .u32 (tv v5), .int .u32 (tv v6), .int .u32 (tv v7)]) (.int .i64 5)).run Tryd.prog w = .ok (.int .u32 (tv v5)) w := fun _ => by kernel_rfl
          go_wp2
          go_region
          all_goals
            go_wp2
            go_roundw
            case rel => exact ⟨6, by omega, by go_num, J.out.1.drew.set5 _, J.out.2.drew.setCell (p := ⟨b, 5, none⟩) (Nat.le_refl _) _⟩
            case measure => simp [intOf]
        · have c : wr.cell? ⟨b, 6, none⟩ = some (.int .u32 (tv m.v.g)) := J.out.1.c6
          have f := J.out.1.fz 6
          have ix : ∀ w : World, (Instr.index 109 (.agg #[.int .u32 (tv v0), .int .u32 (tv v1), .int .u32 (tv v2), .int .u32 (tv v3), .int .u32 (tv v4), .int .u32 (tv v5), .int .u32 (tv v6), .int .u32 (tv v7)]) (.int .i64 6)).run Tryd.prog w = .ok (.int .u32 (tv v6)) w := fun _ => by kernel_rfl
          go_wp2
          go_region
          all_goals
            go_wp2
            go_roundw
            case rel => exact ⟨7, by omega, by go_num, J.out.1.drew.set6 _, J.out.2.drew.setCell (p := ⟨b, 6, none⟩) (Nat.le_refl _) _⟩
            case measure => simp [intOf]
        · have c : wr.cell? ⟨b, 7, none⟩ = some (.int .u32 (tv m.v.h)) := J.out.1.c7
          have f := J.out.1.fz 7
          have ix : ∀ w : World, (Instr.index 109 (.agg #[.int .u32 (tv v0), .int .u32 (tv v1), .int .u32 (tv v2), .int .u32 (tv v3), .int .u32 (tv v4), .int .u32 (tv v5), .int .u32 (tv v6), .int .u32 (tv v7)]) (.int .i64 7)).run Tryd.prog w = .ok (.int .u32 (tv v7)) w := fun _ => by kernel_rfl
          go_wp2
          go_region
          all_goals
            go_wp2
            go_roundw
            case rel => exact ⟨8, by omega, by go_num, J.out.1.drew.set7 _, J.out.2.drew.setCell (p := ⟨b, 7, none⟩) (Nat.le_refl _) _⟩
            case measure => simp [intOf]
        · go_wp2
          refine bodyPost_end (results_none Tryd.results71 _ _ _) rfl ⟨rfl, ?_, J.out.2⟩
          unfold Mach.mix
          rw [I.out.1]
          exact J.out.1
    · have hk3 : k < 64 := by omega
      have g0 : (0 : Int) ≤ (k : Int) := by omega
      have g1 : (k : Int) < 64 := by omega
      have HK := I.out.2.1.kst k hk3
      obtain ⟨kk, hkk⟩ : ∃ x, kst.getD k 0 = x := ⟨_, rfl⟩
      rw [hkk] at HK
      obtain ⟨v0, v1, v2, v3, v4, v5, v6, v7⟩ := v
      have T1 : Hid (∀ w, Calls Tryd.prog 74 #[.int .u32 (tv v4), .int .i64 6, .int .i64 11, .int .i64 25] w fun e w' => e = .returned (.int .u32 (tv (turned v4 6 11 25))) ∧ w' = w) := fun w => turned_any v4 6 11 25 (by omega) (by omega) (by omega) w
      have T2 : Hid (∀ w, Calls Tryd.prog 74 #[.int .u32 (tv v0), .int .i64 2, .int .i64 13, .int .i64 22] w fun e w' => e = .returned (.int .u32 (tv (turned v0 2 13 22))) ∧ w' = w) := fun w => turned_any v0 2 13 22 (by omega) (by omega) (by omega) w
      have P0 : Hid (0 < b ∧ k < 64) := ⟨I.out.2.1.pos, hk3⟩
      obtain ⟨y4, hy4⟩ : ∃ x, turned v4 6 11 25 = x := ⟨_, rfl⟩
      obtain ⟨y0, hy0⟩ : ∃ x, turned v0 2 13 22 = x := ⟨_, rfl⟩
      rw [hy4] at T1
      rw [hy0] at T2
      go_wp2
      go_region_held3 (fun w' => w'.cell? ⟨0, k, none⟩ = some (.int .u32 (tv kk))) (first | exact HK | exact (Below.cell hb1 P0.out.1).trans HK) (first | (go_at_call 74; refine Calls.mono (T1.out _) ?_; rintro e w' ⟨rfl, rfl⟩) | (go_at_call 75; refine Calls.mono (word_any b ⟨m.v, r, m.n⟩ k P0.out.2 _ ?_) ?_; (focus exact I.out.2.1.drew); rintro e w1 ⟨rfl, M1, hb1⟩))
      obtain ⟨T, hT⟩ : ∃ T, v7 + y4 + ((v4 &&& v5) ^^^ (~~~v4 &&& v6)) + kk + rat (wring r k) k = T := ⟨_, rfl⟩
      rw [hT]
      have HT : Hid (v7 + y4 + ((v4 &&& v5) ^^^ (~~~v4 &&& v6)) + kk + rat (wring r k) k = T) := hT
      have HY : Hid (kst.getD k 0 = kk ∧ turned v4 6 11 25 = y4 ∧ turned v0 2 13 22 = y0) := ⟨hkk, hy4, hy0⟩
      have HM1 : Hid (Mc w1 b { v := m.v, r := wring r k, n := m.n } ∧ Below b wr.drew w1) := ⟨M1, hb1⟩
      clear hT hkk hy4 hy0 M1 hb1 HK T1
      go_wp2_with fail
      refine Calls.mono (T2.out _) ?_
      rintro e w2 ⟨rfl, rfl⟩
      go_wp2
      go_roundw
      case rel =>
        refine ⟨k + 1, ⟨T + (y0 + ((v0 &&& v1) ^^^ (v0 &&& v2) ^^^ (v1 &&& v2))), v0, v1, v2, v3 + T, v4, v5, v6⟩, wring r k, by omega, by go_num, rfl, rfl, rfl, rfl, rfl, rfl, rfl, rfl, ?_, HM1.out.1, ?_⟩
        · show ((rounds m.v m.r k |> fun p => (rnd p.1 (kst.getD k 0) (rat (wring p.2 k) k), wring p.2 k)) : V8 × List UInt32) = _
          rw [I.out.1]
          show (rnd ⟨v0, v1, v2, v3, v4, v5, v6, v7⟩ (kst.getD k 0) (rat (wring r k) k), wring r k) = _
          unfold rnd
          rw [HY.out.1, HY.out.2.1, HY.out.2.2, HT.out]
        · exact I.out.2.2.drew.trans HM1.out.2
      case measure => simp [intOf]; omega
end Go.Proofs.YtdepjiocmbbdpaaDoor
