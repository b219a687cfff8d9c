/- CurveSteps answers true. -/
import Derived.Test.YtdebfelgaiofeaaC8
import Derived.Test.YtdebfelgaiofeaaC11
namespace Go.Proofs.Ytdebfelgaiofeaa
open Go.RowKit Go.Proofs.Fd Go.Proofs.Ed

set_option maxHeartbeats 2000000 in
theorem CurveSteps_walk (a b u : ByteArray) (w : World) :
    Calls Try.prog 8 #[.string a, .string b, .string u] w fun e w' => e = .returned (.bool true) ∧ Below w.heap.size w w' := by
  have SA : Hid (∀ w, Calls Try.prog 20 #[.string a] w fun e w' => e = .returned (.string (sc a)) ∧ Below w.heap.size w w') := scalar_any a
  have SB : Hid (∀ w, Calls Try.prog 20 #[.string b] w fun e w' => e = .returned (.string (sc b)) ∧ Below w.heap.size w w') := scalar_any b
  have SU : Hid (∀ w, Calls Try.prog 20 #[.string u] w fun e w' => e = .returned (.string (sc u)) ∧ Below w.heap.size w w') := scalar_any u
  have ha := sc_size a
  have hb := sc_size b
  have hu := sc_size u
  generalize sc a = x at *
  generalize sc b = y at *
  generalize sc u = p at *
  have CN : Hid (∀ w, Calls Try.prog 18 #[.string p, .slice none 0 0] w fun e w' => e = .returned (.tuple #[.string p, .int .i64 0]) ∧ Below w.heap.size w w') := fun w => Chain0_any p hu w
  have HP : Hid (p.size = 32 ∧ x.size = 32 ∧ y.size = 32) := ⟨hu, ha, hb⟩
  clear ha hb hu
  go_enter Try.func8, Try.ntmps8
  go_wp2_with fail
  refine Calls.mono (works_any _) ?_
  rintro e w1 ⟨rfl, hb⟩
  have B1 : Hid (Below w.heap.size w w1) := hb
  clear hb
  go_wp2_with fail
  refine Calls.mono (SA.out _) ?_
  rintro e w2 ⟨rfl, hb⟩
  have B2 : Hid (Below w.heap.size w w2) := chain B1.out hb
  clear hb
  go_wp2_with fail
  refine Calls.mono (SB.out _) ?_
  rintro e w3 ⟨rfl, hb⟩
  have B3 : Hid (Below w.heap.size w w3) := chain B2.out hb
  clear hb
  go_wp2_with fail
  refine Calls.mono (SU.out _) ?_
  rintro e w4 ⟨rfl, hb⟩
  have B4 : Hid (Below w.heap.size w w4) := chain B3.out hb
  clear hb
  by_cases h0 : tm x p = 0
  · have C2 : Hid (∀ (B : Nat) (w : World), w.cell? ⟨B, 0, none⟩ = some (.string x) → w.cell? ⟨B, 1, none⟩ = some (.string y) → Calls Try.prog 18 #[.string p, .slice (some ⟨B, 0, none⟩) 2 2] w fun e w' => e = .returned (.tuple #[.string ⟨#[]⟩, .int .i64 20]) ∧ Below w.heap.size w w') := fun B w q0 q1 => by
      have h := Chain2_any p x y HP.out.1 HP.out.2.1 HP.out.2.2 B w q0 q1
      rw [show chn [x, y] p = none by simp [chn, h0]] at h
      exact h
    have H0 : Hid (tm x p = 0) := h0
    clear h0
    go_wp2_with fail
    refine Calls.mono (Shared_weak x p HP.out.2.1 HP.out.1 H0.out _) ?_
    rintro e w5 ⟨rfl, hb⟩
    have B5 : Hid (Below w.heap.size w w5) := chain B4.out hb
    clear hb
    go_wp2_with fail
    refine Calls.mono (C2.out w5.heap.size _ (by simp [go_sem]) (by simp [go_sem])) ?_
    rintro e w6 ⟨rfl, hb⟩
    have B6 : Hid (Below w.heap.size w w6) := chain (B5.out.alloc B5.out.size _) hb
    clear hb
    go_wp2_with fail
    refine Calls.mono (CN.out _) ?_
    rintro e w7 ⟨rfl, hb⟩
    have B7 : Hid (Below w.heap.size w w7) := chain B6.out hb
    clear hb
    go_wp2
    go_ret
    exact ⟨rfl, B7.out⟩
  · by_cases h1 : tm y (ek (tm x p)) = 0
    · have C2 : Hid (∀ (B : Nat) (w : World), w.cell? ⟨B, 0, none⟩ = some (.string x) → w.cell? ⟨B, 1, none⟩ = some (.string y) → Calls Try.prog 18 #[.string p, .slice (some ⟨B, 0, none⟩) 2 2] w fun e w' => e = .returned (.tuple #[.string ⟨#[]⟩, .int .i64 20]) ∧ Below w.heap.size w w') := fun B w q0 q1 => by
        have h := Chain2_any p x y HP.out.1 HP.out.2.1 HP.out.2.2 B w q0 q1
        rw [show chn [x, y] p = none by simp [chn, h0, h1]] at h
        exact h
      have H0 : Hid (tm x p ≠ 0 ∧ tm y (ek (tm x p)) = 0) := ⟨h0, h1⟩
      clear h0 h1
      go_wp2_with fail
      refine Calls.mono (Shared_ok x p HP.out.2.1 HP.out.1 H0.out.1 _) ?_
      rintro e w5 ⟨rfl, hb⟩
      have B5 : Hid (Below w.heap.size w w5) := chain B4.out hb
      clear hb
      go_wp2_with fail
      refine Calls.mono (Shared_weak y (ek (tm x p)) HP.out.2.2 (ek_size _) H0.out.2 _) ?_
      rintro e w5a ⟨rfl, hb⟩
      have B5a : Hid (Below w.heap.size w w5a) := chain B5.out hb
      clear hb
      go_wp2_with fail
      refine Calls.mono (C2.out w5a.heap.size _ (by simp [go_sem]) (by simp [go_sem])) ?_
      rintro e w6 ⟨rfl, hb⟩
      have B6 : Hid (Below w.heap.size w w6) := chain (B5a.out.alloc B5a.out.size _) hb
      clear hb
      go_wp2_with fail
      refine Calls.mono (CN.out _) ?_
      rintro e w7 ⟨rfl, hb⟩
      have B7 : Hid (Below w.heap.size w w7) := chain B6.out hb
      clear hb
      go_wp2
      go_ret
      exact ⟨rfl, B7.out⟩
    · have C2 : Hid (∀ (B : Nat) (w : World), w.cell? ⟨B, 0, none⟩ = some (.string x) → w.cell? ⟨B, 1, none⟩ = some (.string y) → Calls Try.prog 18 #[.string p, .slice (some ⟨B, 0, none⟩) 2 2] w fun e w' => e = .returned (.tuple #[.string (ek (tm y (ek (tm x p)))), .int .i64 0]) ∧ Below w.heap.size w w') := fun B w q0 q1 => by
        have h := Chain2_any p x y HP.out.1 HP.out.2.1 HP.out.2.2 B w q0 q1
        rw [show chn [x, y] p = some (ek (tm y (ek (tm x p)))) by simp [chn, h0, h1]] at h
        exact h
      have H0 : Hid (tm x p ≠ 0 ∧ tm y (ek (tm x p)) ≠ 0) := ⟨h0, h1⟩
      clear h0 h1
      go_wp2_with fail
      refine Calls.mono (Shared_ok x p HP.out.2.1 HP.out.1 H0.out.1 _) ?_
      rintro e w5 ⟨rfl, hb⟩
      have B5 : Hid (Below w.heap.size w w5) := chain B4.out hb
      clear hb
      go_wp2_with fail
      refine Calls.mono (Shared_ok y (ek (tm x p)) HP.out.2.2 (ek_size _) H0.out.2 _) ?_
      rintro e w5a ⟨rfl, hb⟩
      have B5a : Hid (Below w.heap.size w w5a) := chain B5.out hb
      clear hb
      go_wp2_with fail
      refine Calls.mono (C2.out w5a.heap.size _ (by simp [go_sem]) (by simp [go_sem])) ?_
      rintro e w6 ⟨rfl, hb⟩
      have B6 : Hid (Below w.heap.size w w6) := chain (B5a.out.alloc B5a.out.size _) hb
      clear hb
      go_wp2_with fail
      refine Calls.mono (CN.out _) ?_
      rintro e w7 ⟨rfl, hb⟩
      have B7 : Hid (Below w.heap.size w w7) := chain B6.out hb
      clear hb
      go_wp2
      go_ret
      exact ⟨rfl, B7.out⟩
end Go.Proofs.Ytdebfelgaiofeaa
