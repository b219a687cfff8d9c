/- Parts: K3, K4. -/
import Derived.Test.YtbogoheigbiegaaDoorZgG03
namespace Go.Proofs.YtbogoheigbiegaaDoor
open Go.RowKit Go.Proofs.Fd Go.Proofs.Hs
set_option maxRecDepth 20000
theorem not32 (x : UInt32) : bits .xor .u32 IntKind.u32.max (tv x) = tv (~~~x) := by
  have e : IntKind.u32.max = tv 4294967295 := by decide
  rw [e, xor32]
  congr 1
def plusN (v x : V8) (k : Nat) : V8 := ⟨if 0 < k then v.a + x.a else v.a, if 1 < k then v.b + x.b else v.b, if 2 < k then v.c + x.c else v.c, if 3 < k then v.d + x.d else v.d, if 4 < k then v.e + x.e else v.e, if 5 < k then v.f + x.f else v.f, if 6 < k then v.g + x.g else v.g, if 7 < k then v.h + x.h else v.h⟩
theorem ne_off (w : World) (b k : Nat) (x : Value) : ∀ j, j ≠ k → (w.setCell ⟨b, k, none⟩ x).cell? ⟨b, j, none⟩ = w.cell? ⟨b, j, none⟩ := fun j hj => by
  have hne : (⟨b, k, none⟩ : Addr) ≠ ⟨b, j, none⟩ := fun q => hj (by injection q with _ q2; exact q2.symm)
  exact World.cell?_setCell_other _ _ _ _ hne
theorem Mc.set0 {w : World} {b : Nat} {m : Mach} (h : Mc w b m) (x : UInt32) : Mc (w.setCell ⟨b, 0, none⟩ (.int .u32 (tv x))) b ⟨{ m.v with a := x }, m.r, m.n⟩ := by
  have ne := ne_off w b 0 (.int .u32 (tv x))
  refine ⟨h.pos, h.kst.later ((Below.refl b w).setCell (Nat.le_refl _) _) h.pos, by have := h.c0; simp [go_sem, this], (ne 1 (by decide)).trans h.c1, (ne 2 (by decide)).trans h.c2, (ne 3 (by decide)).trans h.c3, (ne 4 (by decide)).trans h.c4, (ne 5 (by decide)).trans h.c5, (ne 6 (by decide)).trans h.c6, (ne 7 (by decide)).trans h.c7, fun j hj => (ne (8 + j) (by omega)).trans (h.ring j hj), (ne 24 (by decide)).trans h.cn, fun o => by simp [h.fz], h.len, h.lt⟩
theorem Mc.set1 {w : World} {b : Nat} {m : Mach} (h : Mc w b m) (x : UInt32) : Mc (w.setCell ⟨b, 1, none⟩ (.int .u32 (tv x))) b ⟨{ m.v with b := x }, m.r, m.n⟩ := by
  have ne := ne_off w b 1 (.int .u32 (tv x))
  refine ⟨h.pos, h.kst.later ((Below.refl b w).setCell (Nat.le_refl _) _) h.pos, (ne 0 (by decide)).trans h.c0, by have := h.c1; simp [go_sem, this], (ne 2 (by decide)).trans h.c2, (ne 3 (by decide)).trans h.c3, (ne 4 (by decide)).trans h.c4, (ne 5 (by decide)).trans h.c5, (ne 6 (by decide)).trans h.c6, (ne 7 (by decide)).trans h.c7, fun j hj => (ne (8 + j) (by omega)).trans (h.ring j hj), (ne 24 (by decide)).trans h.cn, fun o => by simp [h.fz], h.len, h.lt⟩
theorem Mc.set2 {w : World} {b : Nat} {m : Mach} (h : Mc w b m) (x : UInt32) : Mc (w.setCell ⟨b, 2, none⟩ (.int .u32 (tv x))) b ⟨{ m.v with c := x }, m.r, m.n⟩ := by
  have ne := ne_off w b 2 (.int .u32 (tv x))
  refine ⟨h.pos, h.kst.later ((Below.refl b w).setCell (Nat.le_refl _) _) h.pos, (ne 0 (by decide)).trans h.c0, (ne 1 (by decide)).trans h.c1, by have := h.c2; simp [go_sem, this], (ne 3 (by decide)).trans h.c3, (ne 4 (by decide)).trans h.c4, (ne 5 (by decide)).trans h.c5, (ne 6 (by decide)).trans h.c6, (ne 7 (by decide)).trans h.c7, fun j hj => (ne (8 + j) (by omega)).trans (h.ring j hj), (ne 24 (by decide)).trans h.cn, fun o => by simp [h.fz], h.len, h.lt⟩
theorem Mc.set3 {w : World} {b : Nat} {m : Mach} (h : Mc w b m) (x : UInt32) : Mc (w.setCell ⟨b, 3, none⟩ (.int .u32 (tv x))) b ⟨{ m.v with d := x }, m.r, m.n⟩ := by
  have ne := ne_off w b 3 (.int .u32 (tv x))
  refine ⟨h.pos, h.kst.later ((Below.refl b w).setCell (Nat.le_refl _) _) h.pos, (ne 0 (by decide)).trans h.c0, (ne 1 (by decide)).trans h.c1, (ne 2 (by decide)).trans h.c2, by have := h.c3; simp [go_sem, this], (ne 4 (by decide)).trans h.c4, (ne 5 (by decide)).trans h.c5, (ne 6 (by decide)).trans h.c6, (ne 7 (by decide)).trans h.c7, fun j hj => (ne (8 + j) (by omega)).trans (h.ring j hj), (ne 24 (by decide)).trans h.cn, fun o => by simp [h.fz], h.len, h.lt⟩
theorem Mc.set4 {w : World} {b : Nat} {m : Mach} (h : Mc w b m) (x : UInt32) : Mc (w.setCell ⟨b, 4, none⟩ (.int .u32 (tv x))) b ⟨{ m.v with e := x }, m.r, m.n⟩ := by
  have ne := ne_off w b 4 (.int .u32 (tv x))
  refine ⟨h.pos, h.kst.later ((Below.refl b w).setCell (Nat.le_refl _) _) h.pos, (ne 0 (by decide)).trans h.c0, (ne 1 (by decide)).trans h.c1, (ne 2 (by decide)).trans h.c2, (ne 3 (by decide)).trans h.c3, by have := h.c4; simp [go_sem, this], (ne 5 (by decide)).trans h.c5, (ne 6 (by decide)).trans h.c6, (ne 7 (by decide)).trans h.c7, fun j hj => (ne (8 + j) (by omega)).trans (h.ring j hj), (ne 24 (by decide)).trans h.cn, fun o => by simp [h.fz], h.len, h.lt⟩
theorem Mc.set5 {w : World} {b : Nat} {m : Mach} (h : Mc w b m) (x : UInt32) : Mc (w.setCell ⟨b, 5, none⟩ (.int .u32 (tv x))) b ⟨{ m.v with f := x }, m.r, m.n⟩ := by
  have ne := ne_off w b 5 (.int .u32 (tv x))
  refine ⟨h.pos, h.kst.later ((Below.refl b w).setCell (Nat.le_refl _) _) h.pos, (ne 0 (by decide)).trans h.c0, (ne 1 (by decide)).trans h.c1, (ne 2 (by decide)).trans h.c2, (ne 3 (by decide)).trans h.c3, (ne 4 (by decide)).trans h.c4, by have := h.c5; simp [go_sem, this], (ne 6 (by decide)).trans h.c6, (ne 7 (by decide)).trans h.c7, fun j hj => (ne (8 + j) (by omega)).trans (h.ring j hj), (ne 24 (by decide)).trans h.cn, fun o => by simp [h.fz], h.len, h.lt⟩
theorem Mc.set6 {w : World} {b : Nat} {m : Mach} (h : Mc w b m) (x : UInt32) : Mc (w.setCell ⟨b, 6, none⟩ (.int .u32 (tv x))) b ⟨{ m.v with g := x }, m.r, m.n⟩ := by
  have ne := ne_off w b 6 (.int .u32 (tv x))
  refine ⟨h.pos, h.kst.later ((Below.refl b w).setCell (Nat.le_refl _) _) h.pos, (ne 0 (by decide)).trans h.c0, (ne 1 (by decide)).trans h.c1, (ne 2 (by decide)).trans h.c2, (ne 3 (by decide)).trans h.c3, (ne 4 (by decide)).trans h.c4, (ne 5 (by decide)).trans h.c5, by have := h.c6; simp [go_sem, this], (ne 7 (by decide)).trans h.c7, fun j hj => (ne (8 + j) (by omega)).trans (h.ring j hj), (ne 24 (by decide)).trans h.cn, fun o => by simp [h.fz], h.len, h.lt⟩
theorem Mc.set7 {w : World} {b : Nat} {m : Mach} (h : Mc w b m) (x : UInt32) : Mc (w.setCell ⟨b, 7, none⟩ (.int .u32 (tv x))) b ⟨{ m.v with h := x }, m.r, m.n⟩ := by
  have ne := ne_off w b 7 (.int .u32 (tv x))
  refine ⟨h.pos, h.kst.later ((Below.refl b w).setCell (Nat.le_refl _) _) h.pos, (ne 0 (by decide)).trans h.c0, (ne 1 (by decide)).trans h.c1, (ne 2 (by decide)).trans h.c2, (ne 3 (by decide)).trans h.c3, (ne 4 (by decide)).trans h.c4, (ne 5 (by decide)).trans h.c5, (ne 6 (by decide)).trans h.c6, by have := h.c7; simp [go_sem, this], fun j hj => (ne (8 + j) (by omega)).trans (h.ring j hj), (ne 24 (by decide)).trans h.cn, fun o => by simp [h.fz], h.len, h.lt⟩
attribute [local go_sem] not32 and32 or32 xor32 add32 add32'
set_option maxRecDepth 10000 in
set_option maxHeartbeats 2000000 in
theorem mix_any (b : Nat) (m : Mach) (w : World) (hm : Hid (Mc w b m)) :
    Calls Tryd.prog 80 #[.pointer (some ⟨b, 0, none⟩)] w fun e w' => e = .returned (.tuple #[]) ∧ Mc w' b m.mix ∧ Below b w w' := by
  have c0 := hm.out.c0
  have c1 := hm.out.c1
  have c2 := hm.out.c2
  have c3 := hm.out.c3
  have c4 := hm.out.c4
  have c5 := hm.out.c5
  have c6 := hm.out.c6
  have c7 := hm.out.c7
  go_enter Tryd.func80, Tryd.ntmps80
  go_wp2
  go_quiet (fail)
  go_wp2
  go_quiet (fail)
  go_wp2
  go_loopw [2, 3, 4, 5, 6, 7, 8, 9, 55] (fun sa sb sc sd se sf sg sh si wr => ∃ (k : Nat) (v : V8) (r : List UInt32), k ≤ 64 ∧ si = .int .i64 (k : Int) ∧ sa = .int .u32 (tv v.a) ∧ sb = .int .u32 (tv v.b) ∧ sc = .int .u32 (tv v.c) ∧ sd = .int .u32 (tv v.d) ∧ se = .int .u32 (tv v.e) ∧ sf = .int .u32 (tv v.f) ∧ sg = .int .u32 (tv v.g) ∧ sh = .int .u32 (tv v.h) ∧ Hid (rounds m.v m.r k = (v, r) ∧ Mc wr b ⟨m.v, r, m.n⟩ ∧ Below b w wr)) (fun _ _ _ _ _ _ _ _ si _ => 64 - (intOf si).toNat)
  case atStart => exact ⟨0, m.v, m.r, by omega, rfl, rfl, rfl, rfl, rfl, rfl, rfl, rfl, rfl, rfl, (hm.out.drewN _).drewN _, below_drewN (below_drewN (Below.refl _ _) _) _⟩
  case round =>
    obtain ⟨k, v, r, hk, rfl, rfl, rfl, rfl, rfl, rfl, rfl, rfl, rfl, I⟩ := hrel
    clear c0 c1 c2 c3 c4 c5 c6 c7
    by_cases hk2 : k = 64
    · subst hk2
      obtain ⟨v0, v1, v2, v3, v4, v5, v6, v7⟩ := v
      go_wp2
      go_loopw [115] (fun i wx => ∃ j : Nat, j ≤ 8 ∧ i = .int .i64 (j : Int) ∧ Hid (Mc wx b ⟨plusN m.v ⟨v0, v1, v2, v3, v4, v5, v6, v7⟩ j, r, m.n⟩ ∧ Below b w wx)) (fun i _ => 8 - (intOf i).toNat)
      case atStart => exact ⟨0, by omega, rfl, I.out.2⟩
      case round =>
        obtain ⟨j, hj, rfl, J⟩ := hrel
        rcases (by omega : j = 0 ∨ j = 1 ∨ j = 2 ∨ j = 3 ∨ j = 4 ∨ j = 5 ∨ j = 6 ∨ j = 7 ∨ j = 8) with rfl | rfl | rfl | rfl | rfl | rfl | rfl | rfl | rfl
        · have c : wr.cell? ⟨b, 0, none⟩ = some (.int .u32 (tv m.v.a)) := J.out.1.c0
          have f := J.out.1.fz 0
          have ix : ∀ w : World, (Instr.index 103 (.agg #[.int .u32 (tv v0), .int .u32 (tv v1), .int .u32 (tv v2), .int .u32 (tv v3), .int .u32 (tv v4), .int .u32 (tv v5), .int .u32 (tv v6), .int .u32 (tv v7)]) (.int .i64 0)).run Tryd.prog w = .ok (.int .u32 (tv v0)) w := fun _ => by kernel_rfl
          go_wp2
          go_region
          all_goals
            go_wp2
            go_roundw
            case rel => exact ⟨1, by omega, by go_num, J.out.1.drew.set0 _, J.out.2.drew.setCell (p := ⟨b, 0, none⟩) (Nat.le_refl _) _⟩
            case measure => simp [intOf]
        · have c : wr.cell? ⟨b, 1, none⟩ = some (.int .u32 (tv m.v.b)) := J.out.1.c1
          have f := J.out.1.fz 1
          have ix : ∀ w : World, (Instr.index 103 (.agg #[.int .u32 (tv v0), .int .u32 (tv v1), .int .u32 (tv v2), .int .u32 (tv v3), .int .u32 (tv v4), .int .u32 (tv v5), .int .u32 (tv v6), .int .u32 (tv v7)]) (.int .i64 1)).run Tryd.prog w = .ok (.int .u32 (tv v1)) w := fun _ => by kernel_rfl
          go_wp2
          go_region
          all_goals
            go_wp2
            go_roundw
            case rel => exact ⟨2, by omega, by go_num, J.out.1.drew.set1 _, J.out.2.drew.setCell (p := ⟨b, 1, none⟩) (Nat.le_refl _) _⟩
            case measure => simp [intOf]
        · have c : wr.cell? ⟨b, 2, none⟩ = some (.int .u32 (tv m.v.c)) := J.out.1.c2
          have f := J.out.1.fz 2
          have ix : ∀ w : World, (Instr.index 103 (.agg #[.int .u32 (tv v0), .int .u32 (tv v1), .int .u32 (tv v2), .int .u32 (tv v3), .int .u32 (tv v4), .int .u32 (tv v5), .int .u32 (tv v6), .int .u32 (tv v7)]) (.int .i64 2)).run Tryd.prog w = .ok (.int .u32 (tv v2)) w := fun _ => by kernel_rfl
          go_wp2
          go_region
          all_goals
            go_wp2
            go_roundw
            case rel => exact ⟨3, by omega, by go_num, J.out.1.drew.set2 _, J.out.2.drew.setCell (p := ⟨b, 2, none⟩) (Nat.le_refl _) _⟩
            case measure => simp [intOf]
        · have c : wr.cell? ⟨b, 3, none⟩ = some (.int .u32 (tv m.v.d)) := J.out.1.c3
          have f := J.out.1.fz 3
          have ix : ∀ w : World, (Instr.index 103 (.agg #[.int .u32 (tv v0), .int .u32 (tv v1), .int .u32 (tv v2), .int .u32 (tv v3), .int .u32 (tv v4), .int .u32 (tv v5), .int .u32 (tv v6), .int .u32 (tv v7)]) (.int .i64 3)).run Tryd.prog w = .ok (.int .u32 (tv v3)) w := fun _ => by kernel_rfl
          go_wp2
          go_region
          all_goals
            go_wp2
            go_roundw
            case rel => exact ⟨4, by omega, by go_num, J.out.1.drew.set3 _, J.out.2.drew.setCell (p := ⟨b, 3, none⟩) (Nat.le_refl _) _⟩
            case measure => simp [intOf]
        · have c : wr.cell? ⟨b, 4, none⟩ = some (.int .u32 (tv m.v.e)) := J.out.1.c4
          have f := J.out.1.fz 4
          have ix : ∀ w : World, (Instr.index 103 (.agg #[.int .u32 (tv v0), .int .u32 (tv v1), .int .u32 (tv v2), .int .u32 (tv v3), .int .u32 (tv v4), .int .u32 (tv v5), .int .u32 (tv v6), .int .u32 (tv v7)]) (.int .i64 4)).run Tryd.prog w = .ok (.int .u32 (tv v4)) w := fun _ => by kernel_rfl
          go_wp2
          go_region
          all_goals
            go_wp2
            go_roundw
            case rel => exact ⟨5, by omega, by go_num, J.out.1.drew.set4 _, J.out.2.drew.setCell (p := ⟨b, 4, none⟩) (Nat.le_refl _) _⟩
            case measure => simp [intOf]
        · have c : wr.cell? ⟨b, 5, none⟩ = some (.int .u32 (tv m.v.f)) := J.out.1.c5
          have f := J.out.1.fz 5
          have ix : ∀ w : World, (Instr.index 103 (.agg #[.int .u32 (tv v0), .int .u32 (tv v1), .int .u32 (tv v2), .int .u32 (tv v3), .int .u32 (tv v4), .int .u32 (tv v5), .int .u32 (tv v6), .int .u32 (tv v7)]) (.int .i64 5)).run Tryd.prog w = .ok (.int .u32 (tv v5)) w := fun _ => by kernel_rfl
          go_wp2
          go_region
          all_goals
            go_wp2
            go_roundw
            case rel => exact ⟨6, by omega, by go_num, J.out.1.drew.set5 _, J.out.2.drew.setCell (p := ⟨b, 5, none⟩) (Nat.le_refl _) _⟩
            case measure => simp [intOf]
        · have c : wr.cell? ⟨b, 6, none⟩ = some (.int .u32 (tv m.v.g)) := J.out.1.c6
          have f := J.out.1.fz 6
          have ix : ∀ w : World, (Instr.index 103 (.agg #[.int .u32 (tv v0), .int .u32 (tv v1), .int .u32 (tv v2), .int .u32 (tv v3), .int .u32 (tv v4), .int .u32 (tv v5), .int .u32 (tv v6), .int .u32 (tv v7)]) (.int .i64 6)).run Tryd.prog w = .ok (.int .u32 (tv v6)) w := fun _ => by kernel_rfl
          go_wp2
          go_region
          all_goals
            go_wp2
            go_roundw
            case rel => exact ⟨7, by omega, by go_num, J.out.1.drew.set6 _, J.out.2.drew.setCell (p := ⟨b, 6, none⟩) (Nat.le_refl _) _⟩
            case measure => simp [intOf]
        · have c : wr.cell? ⟨b, 7, none⟩ = some (.int .u32 (tv m.v.h)) := J.out.1.c7
          have f := J.out.1.fz 7
          have ix : ∀ w : World, (Instr.index 103 (.agg #[.int .u32 (tv v0), .int .u32 (tv v1), .int .u32 (tv v2), .int .u32 (tv v3), .int .u32 (tv v4), .int .u32 (tv v5), .int .u32 (tv v6), .int .u32 (tv v7)]) (.int .i64 7)).run Tryd.prog w = .ok (.int .u32 (tv v7)) w := fun _ => by kernel_rfl
          go_wp2
          go_region
          all_goals
            go_wp2
            go_roundw
            case rel => exact ⟨8, by omega, by go_num, J.out.1.drew.set7 _, J.out.2.drew.setCell (p := ⟨b, 7, none⟩) (Nat.le_refl _) _⟩
            case measure => simp [intOf]
        · go_wp2
          refine bodyPost_end (results_none Tryd.results80 _ _ _) rfl ⟨rfl, ?_, J.out.2⟩
          unfold Mach.mix
          rw [I.out.1]
          exact J.out.1
    · have hk3 : k < 64 := by omega
      have g0 : (0 : Int) ≤ (k : Int) := by omega
      have g1 : (k : Int) < 64 := by omega
      have HK := I.out.2.1.kst k hk3
      obtain ⟨kk, hkk⟩ : ∃ x, kst.getD k 0 = x := ⟨_, rfl⟩
      rw [hkk] at HK
      obtain ⟨v0, v1, v2, v3, v4, v5, v6, v7⟩ := v
      have T1 : Hid (∀ w, Calls Tryd.prog 81 #[.int .u32 (tv v4), .int .i64 6, .int .i64 11, .int .i64 25] w fun e w' => e = .returned (.int .u32 (tv (turned v4 6 11 25))) ∧ w' = w) := fun w => turned_any v4 6 11 25 (by omega) (by omega) (by omega) w
      have T2 : Hid (∀ w, Calls Tryd.prog 81 #[.int .u32 (tv v0), .int .i64 2, .int .i64 13, .int .i64 22] w fun e w' => e = .returned (.int .u32 (tv (turned v0 2 13 22))) ∧ w' = w) := fun w => turned_any v0 2 13 22 (by omega) (by omega) (by omega) w
      have P0 : Hid (0 < b ∧ k < 64) := ⟨I.out.2.1.pos, hk3⟩
      obtain ⟨y4, hy4⟩ : ∃ x, turned v4 6 11 25 = x := ⟨_, rfl⟩
      obtain ⟨y0, hy0⟩ : ∃ x, turned v0 2 13 22 = x := ⟨_, rfl⟩
      rw [hy4] at T1
      rw [hy0] at T2
      go_wp2
      go_region_held3 (fun w' => w'.cell? ⟨0, k, none⟩ = some (.int .u32 (tv kk))) (first | exact HK | exact (Below.cell hb1 P0.out.1).trans HK) (first | (go_at_call 81; refine Calls.mono (T1.out _) ?_; rintro e w' ⟨rfl, rfl⟩) | (go_at_call 82; refine Calls.mono (word_any b ⟨m.v, r, m.n⟩ k P0.out.2 _ ?_) ?_; (focus exact I.out.2.1.drew); rintro e w1 ⟨rfl, M1, hb1⟩))
      obtain ⟨T, hT⟩ : ∃ T, v7 + y4 + ((v4 &&& v5) ^^^ (~~~v4 &&& v6)) + kk + rat (wring r k) k = T := ⟨_, rfl⟩
      rw [hT]
      have HT : Hid (v7 + y4 + ((v4 &&& v5) ^^^ (~~~v4 &&& v6)) + kk + rat (wring r k) k = T) := hT
      have HY : Hid (kst.getD k 0 = kk ∧ turned v4 6 11 25 = y4 ∧ turned v0 2 13 22 = y0) := ⟨hkk, hy4, hy0⟩
      have HM1 : Hid (Mc w1 b { v := m.v, r := wring r k, n := m.n } ∧ Below b wr.drew w1) := ⟨M1, hb1⟩
      clear hT hkk hy4 hy0 M1 hb1 HK T1
      go_wp2_with fail
      refine Calls.mono (T2.out _) ?_
      rintro e w2 ⟨rfl, rfl⟩
      go_wp2
      go_roundw
      case rel =>
        refine ⟨k + 1, ⟨T + (y0 + ((v0 &&& v1) ^^^ (v0 &&& v2) ^^^ (v1 &&& v2))), v0, v1, v2, v3 + T, v4, v5, v6⟩, wring r k, by omega, by go_num, rfl, rfl, rfl, rfl, rfl, rfl, rfl, rfl, ?_, HM1.out.1, ?_⟩
        · show ((rounds m.v m.r k |> fun p => (rnd p.1 (kst.getD k 0) (rat (wring p.2 k) k), wring p.2 k)) : V8 × List UInt32) = _
          rw [I.out.1]
          show (rnd ⟨v0, v1, v2, v3, v4, v5, v6, v7⟩ (kst.getD k 0) (rat (wring r k) k), wring r k) = _
          unfold rnd
          rw [HY.out.1, HY.out.2.1, HY.out.2.2, HT.out]
        · exact I.out.2.2.drew.trans HM1.out.2
      case measure => simp [intOf]; omega
end Go.Proofs.YtbogoheigbiegaaDoor
namespace Go.Proofs.YtbogoheigbiegaaDoor
open Go.RowKit Go.Proofs.Fd Go.Proofs.Hs
set_option maxRecDepth 20000
theorem push32 (x : UInt32) (c : UInt8) : bits .or .u32 (tv x * 256 % 4294967296) ((c.toNat : Int) % 4294967296) = tv (UInt32.ofNat (x.toNat * 256 + c.toNat)) := by
  have hx := x.toNat_lt
  have hc := c.toNat_lt
  rw [tv_ofNat]
  unfold tv
  have e1 : (x.toNat : Int) * 256 % 4294967296 = ((x.toNat * 256 % 4294967296 : Nat) : Int) := by omega
  have e0 : (c.toNat : Int) % 4294967296 = (c.toNat : Int) := by omega
  rw [e1, e0, (bits_nat .u32 32 (by decide) wr32 _ _ (by omega) (by omega)).2]
  have := Nat.shiftLeft_add_eq_or_of_lt (show c.toNat < 2 ^ 8 from hc) (x.toNat % 2 ^ 24)
  rw [Nat.shiftLeft_eq] at this
  have e2 : x.toNat * 256 % 4294967296 = x.toNat % 2 ^ 24 * 2 ^ 8 := by omega
  rw [e2, ← this]
  omega
theorem Mc.setN {w : World} {b : Nat} {m : Mach} (h : Mc w b m) (n : Nat) (hn : n < 18446744073709551616) : Mc (w.setCell ⟨b, 24, none⟩ (.int .u64 (n : Int))) b ⟨m.v, m.r, n⟩ := by
  have ne := ne_off w b 24 (.int .u64 (n : Int))
  refine ⟨h.pos, h.kst.later ((Below.refl b w).setCell (Nat.le_refl _) _) h.pos, (ne 0 (by decide)).trans h.c0, (ne 1 (by decide)).trans h.c1, (ne 2 (by decide)).trans h.c2, (ne 3 (by decide)).trans h.c3, (ne 4 (by decide)).trans h.c4, (ne 5 (by decide)).trans h.c5, (ne 6 (by decide)).trans h.c6, (ne 7 (by decide)).trans h.c7, fun j hj => (ne (8 + j) (by omega)).trans (h.ring j hj), by have := h.cn; simp [go_sem, this], fun o => by simp [h.fz], h.len, hn⟩
set_option maxHeartbeats 1000000 in
theorem put_any (b : Nat) (m : Mach) (c : UInt8) (w : World) (hm : Hid (Mc w b m)) :
    Calls Tryd.prog 75 #[.pointer (some ⟨b, 0, none⟩), .int .u8 (c.toNat : Int)] w fun e w' => e = .returned (.tuple #[]) ∧ Mc w' b (m.put c) ∧ Below b w w' := by
  obtain ⟨k, hk⟩ : ∃ k, m.n / 4 % 16 = k := ⟨_, rfl⟩
  have hk16 : k < 16 := hk ▸ Nat.mod_lt _ (by decide)
  have R := hm.out.ring k hk16
  have CN := hm.out.cn
  obtain ⟨x, hx⟩ : ∃ x, m.r.getD k 0 = x := ⟨_, rfl⟩
  rw [hx] at R
  obtain ⟨n, hn⟩ : ∃ n, m.n = n := ⟨_, rfl⟩
  rw [hn] at CN hk
  have hlt := hm.out.lt
  rw [hn] at hlt
  have e0 : (n : Int) / 4 % 16 = (k : Int) := by omega
  have e0' : IntKind.u64.wrap ((n : Int) / 4) = (n : Int) / 4 := by rw [IntKind.wrap_u64]; omega
  have e0'' : ((n : Int) / 4).tmod 16 = (k : Int) := by rw [Int.tmod_eq_emod_of_nonneg (by omega)]; exact e0
  have b0 : (k : Int) < 16 := by omega
  obtain ⟨n1, hn1⟩ : ∃ n1, (n + 1) % 18446744073709551616 = n1 := ⟨_, rfl⟩
  have e1 : IntKind.u64.wrap ((n : Int) + 1) = (n1 : Int) := by rw [IntKind.wrap_u64]; omega
  have e2 : ((n : Int) + 1) % 18446744073709551616 = (n1 : Int) := by omega
  have PV : Hid (_ = _) := push32 x c
  have F := hm.out.fz (8 + k)
  have F2 := hm.out.fz 24
  obtain ⟨y, hy⟩ : ∃ y, UInt32.ofNat (x.toNat * 256 + c.toNat) = y := ⟨_, rfl⟩
  rw [hy] at PV
  have PU : Hid (m.push c = ⟨m.v, m.r.set k y, n1⟩) := by
    show _ = _
    unfold Mach.push
    simp only [hn, hk, hx, hy]
    rw [show (2 : Nat) ^ 64 = 18446744073709551616 by decide, hn1]
  have HN : Hid (m.n = n) := hn
  have HK : Hid (k < 16 ∧ n1 < 18446744073709551616) := ⟨hk16, by omega⟩
  by_cases h0 : n1 % 64 = 0
  · have PT : Hid (m.put c = (⟨m.v, m.r.set k y, n1⟩ : Mach).mix) := by
      show _ = _
      unfold Mach.put
      rw [PU.out]
      exact if_pos h0
    have h0' : (n1 : Int) % 64 = 0 := by omega
    have h0'' : (n1 : Int).tmod 64 = 0 := by rw [Int.tmod_eq_emod_of_nonneg (by omega)]; exact h0'
    clear hk hx hn hy hn1 hlt hk16
    go_enter Tryd.func75, Tryd.ntmps75
    go_wp2
    go_region
    all_goals
      rw [PV.out]
      obtain ⟨W, hW⟩ : ∃ W, (w.setCell ⟨b, 8 + k, none⟩ (.int .u32 (tv y))).drew = W := ⟨_, rfl⟩
      have M1 : Hid (Mc W b ⟨m.v, m.r.set k y, n⟩ ∧ Below b w W) := by
        rw [← hW]
        refine ⟨?_, ((Below.refl _ _).setCell (p := ⟨b, 8 + k, none⟩) (Nat.le_refl _) _).drew⟩
        have := (hm.out.setRing k HK.out.1 y _ rfl).drew
        rw [HN.out] at this
        exact this
      rw [hW]
      clear hW R CN F F2 PV
      have CN := M1.out.1.cn
      have F2 := M1.out.1.fz 24
      go_wp2_with fail
      refine Calls.mono (mix_any b ⟨m.v, m.r.set k y, n1⟩ _ (M1.out.1.setN n1 HK.out.2)) ?_
      rintro e w1 ⟨rfl, M2, hb2⟩
      have M3 : Hid (Mc w1 b (m.put c) ∧ Below b w w1) := ⟨PT.out ▸ M2, (M1.out.2.setCell (p := ⟨b, 24, none⟩) (Nat.le_refl _) _).trans hb2⟩
      clear M2 hb2
      go_wp2
      refine bodyPost_end (results_none Tryd.results75 _ _ _) rfl ⟨rfl, M3.out⟩
  · have PT : Hid (m.put c = (⟨m.v, m.r.set k y, n1⟩ : Mach)) := by
      show _ = _
      unfold Mach.put
      rw [PU.out]
      exact if_neg h0
    have h0' : ¬ (n1 : Int) % 64 = 0 := by omega
    have h0'' : ¬ (n1 : Int).tmod 64 = 0 := by rw [Int.tmod_eq_emod_of_nonneg (by omega)]; exact h0'
    clear hk hx hn hy hn1 hlt hk16
    go_enter Tryd.func75, Tryd.ntmps75
    go_wp2
    go_region
    all_goals
      rw [PV.out]
      obtain ⟨W, hW⟩ : ∃ W, (w.setCell ⟨b, 8 + k, none⟩ (.int .u32 (tv y))).drew = W := ⟨_, rfl⟩
      have M1 : Hid (Mc W b ⟨m.v, m.r.set k y, n⟩ ∧ Below b w W) := by
        rw [← hW]
        refine ⟨?_, ((Below.refl _ _).setCell (p := ⟨b, 8 + k, none⟩) (Nat.le_refl _) _).drew⟩
        have := (hm.out.setRing k HK.out.1 y _ rfl).drew
        rw [HN.out] at this
        exact this
      rw [hW]
      clear hW R CN F F2 PV
      have CN := M1.out.1.cn
      have F2 := M1.out.1.fz 24
      have M3 : Hid (Mc (W.setCell ⟨b, 24, none⟩ (.int .u64 (n1 : Int))) b (m.put c) ∧ Below b w (W.setCell ⟨b, 24, none⟩ (.int .u64 (n1 : Int)))) := ⟨PT.out ▸ M1.out.1.setN n1 HK.out.2, M1.out.2.setCell (p := ⟨b, 24, none⟩) (Nat.le_refl _) _⟩
      go_wp2
      refine bodyPost_end (results_none Tryd.results75 _ _ _) rfl ⟨rfl, M3.out⟩
theorem text_snoc (m : Mach) (s : List UInt8) (k : Nat) (hk : k < s.length) : m.text (s.take (k + 1)) = (m.text (s.take k)).put s[k] := by
  unfold Mach.text
  rw [List.take_succ_eq_append_getElem hk, List.foldl_append]
  rfl
set_option maxHeartbeats 1000000 in
theorem text_any (b : Nat) (m : Mach) (s : ByteArray) (hs : s.size < 9223372036854775807) (w : World) (hm : Hid (Mc w b m)) :
    Calls Tryd.prog 68 #[.pointer (some ⟨b, 0, none⟩), .string s] w fun e w' => e = .returned (.tuple #[]) ∧ Mc w' b (m.text s.data.toList) ∧ Below b w w' := by
  have hl : Hid (s.data.toList.length = s.size) := by show s.data.toList.length = s.size; simp
  go_enter Tryd.func68, Tryd.ntmps68
  go_wp2
  go_loopw [7] (fun i wr => ∃ k : Nat, k ≤ s.size ∧ i = .int .i64 (k : Int) ∧ Hid (Mc wr b (m.text (s.data.toList.take k)) ∧ Below b w wr)) (fun i _ => s.size - (intOf i).toNat)
  case atStart => exact ⟨0, Nat.zero_le _, rfl, hm.out, Below.refl _ _⟩
  case round =>
    obtain ⟨k, hk, rfl, I⟩ := hrel
    by_cases hlt : k < s.size
    · have TS : Hid (m.text (s.data.toList.take (k + 1)) = (m.text (s.data.toList.take k)).put s[k]) := text_snoc m s.data.toList k (by rw [hl.out]; exact hlt)
      obtain ⟨c, hc⟩ : ∃ c, s[k] = c := ⟨_, rfl⟩
      rw [hc] at TS
      go_wp2_with fail
      refine Calls.mono (put_any b _ c _ I.out.1) ?_
      rintro e w1 ⟨rfl, M2, hb2⟩
      have M3 : Hid (Mc w1 b (m.text (s.data.toList.take (k + 1))) ∧ Below b w w1) := ⟨TS.out ▸ M2, I.out.2.trans hb2⟩
      clear M2 hb2
      go_wp2
      go_roundw
      case rel => exact ⟨k + 1, by omega, by go_num, M3.out⟩
      case measure => simp [intOf]; omega
    · have hkn : k = s.size := by omega
      subst hkn
      have M3 : Hid (Mc wr b (m.text s.data.toList) ∧ Below b w wr) := by
        have := I.out
        rw [List.take_of_length_le (by rw [hl.out]; exact Nat.le_refl _)] at this
        exact this
      go_wp2
      refine bodyPost_end (results_none Tryd.results68 _ _ _) rfl ⟨rfl, M3.out⟩
end Go.Proofs.YtbogoheigbiegaaDoor
