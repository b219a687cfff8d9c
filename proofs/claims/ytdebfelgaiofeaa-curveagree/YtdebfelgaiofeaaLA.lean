/- CurveAgree answers true: both sides agree. -/
import Derived.Test.YtdebfelgaiofeaaC8
import Derived.Test.YtdebfelgaiofeaaC11
namespace Go.Proofs.Ytdebfelgaiofeaa
open Go.RowKit Go.Proofs.Fd Go.Proofs.Ed

theorem tm_ek (k : ByteArray) (v : K) : tm k (ek v) = lad (clampN (num k.data.toList)) v := by unfold tm; rw [pt_ek]

/-- A chain of two scalars does not hang on which is first. -/
theorem chn_swap (x y p : ByteArray) : chn [x, y] p = chn [y, x] p := by
  simp only [chn, tm_ek]
  unfold tm
  generalize ptN (num p.data.toList) = u
  have hx := clampN_cl (num x.data.toList)
  have hy := clampN_cl (num y.data.toList)
  generalize clampN (num x.data.toList) = a at *
  generalize clampN (num y.data.toList) = b at *
  by_cases h1 : lad a u = 0
  · rw [if_pos h1]
    by_cases h2 : lad b u = 0
    · rw [if_pos h2]
    · rw [if_neg h2]
      rcases weak u a b hx.lt hy.lt hy.even h1 with h | h
      · exact absurd h h2
      · rw [if_pos h]
  · rw [if_neg h1]
    by_cases h2 : lad b u = 0
    · rw [if_pos h2]
      rcases weak u b a hy.lt hx.lt hx.even h2 with h | h
      · exact absurd h h1
      · rw [if_pos h]
    · rw [if_neg h2, agree u a b hx.lt hy.lt h1 h2]

theorem sh_ne (x y : ByteArray) : tm x (ek (pub y)) ≠ 0 := by
  rw [tm_ek]; exact base_twice _ _ (clampN_cl _) (clampN_cl _)
theorem sh_eq (x y : ByteArray) : tm x (ek (pub y)) = tm y (ek (pub x)) := by
  rw [tm_ek, tm_ek]
  exact agree 9 _ _ (clampN_cl _).lt (clampN_cl _).lt (base_ne _ (clampN_cl _)) (base_ne _ (clampN_cl _))

set_option maxHeartbeats 2000000 in
theorem CurveAgree_walk (a b u : ByteArray) (w : World) :
    Calls Try.prog 6 #[.string a, .string b, .string u] w fun e w' => e = .returned (.bool true) ∧ Below w.heap.size w w' := by
  have SA : Hid (∀ w, Calls Try.prog 20 #[.string a] w fun e w' => e = .returned (.string (sc a)) ∧ Below w.heap.size w w') := scalar_any a
  have SB : Hid (∀ w, Calls Try.prog 20 #[.string b] w fun e w' => e = .returned (.string (sc b)) ∧ Below w.heap.size w w') := scalar_any b
  have SU : Hid (∀ w, Calls Try.prog 20 #[.string u] w fun e w' => e = .returned (.string (sc u)) ∧ Below w.heap.size w w') := scalar_any u
  have ha := sc_size a
  have hb := sc_size b
  have hu := sc_size u
  generalize sc a = x at *
  generalize sc b = y at *
  generalize sc u = p at *
  have HP : Hid (p.size = 32 ∧ x.size = 32 ∧ y.size = 32) := ⟨hu, ha, hb⟩
  clear ha hb hu
  have SX : Hid (∀ w, Calls Try.prog 14 #[.string x, .string (ek (pub y))] w fun e w' => e = .returned (.tuple #[.string (ek (tm x (ek (pub y)))), .int .i64 0]) ∧ Below w.heap.size w w') := fun w => Shared_ok x (ek (pub y)) HP.out.2.1 (ek_size _) (sh_ne x y) w
  have SY : Hid (∀ w, Calls Try.prog 14 #[.string y, .string (ek (pub x))] w fun e w' => e = .returned (.tuple #[.string (ek (tm x (ek (pub y)))), .int .i64 0]) ∧ Below w.heap.size w w') := fun w => by
    have h := Shared_ok y (ek (pub x)) HP.out.2.2 (ek_size _) (sh_ne y x) w
    rw [← sh_eq x y] at h
    exact h
  have PX : Hid (∀ w, Calls Try.prog 16 #[.string x] w fun e w' => e = .returned (.tuple #[.string (ek (pub x)), .int .i64 0]) ∧ Below w.heap.size w w') := fun w => Public_ok x HP.out.2.1 w
  have PY : Hid (∀ w, Calls Try.prog 16 #[.string y] w fun e w' => e = .returned (.tuple #[.string (ek (pub y)), .int .i64 0]) ∧ Below w.heap.size w w') := fun w => Public_ok y HP.out.2.2 w
  generalize ek (tm x (ek (pub y))) = sh at *
  generalize ek (pub x) = px at *
  generalize ek (pub y) = py at *
  have key : ∃ (v : ByteArray) (i : Int), (i = 0 ∨ i = 20) ∧ (∀ (B : Nat) (w : World), w.cell? ⟨B, 0, none⟩ = some (.string x) → w.cell? ⟨B, 1, none⟩ = some (.string y) → Calls Try.prog 18 #[.string p, .slice (some ⟨B, 0, none⟩) 2 2] w fun e w' => e = .returned (.tuple #[.string v, .int .i64 i]) ∧ Below w.heap.size w w')
      ∧ (∀ (B : Nat) (w : World), w.cell? ⟨B, 0, none⟩ = some (.string y) → w.cell? ⟨B, 1, none⟩ = some (.string x) → Calls Try.prog 18 #[.string p, .slice (some ⟨B, 0, none⟩) 2 2] w fun e w' => e = .returned (.tuple #[.string v, .int .i64 i]) ∧ Below w.heap.size w w') := by
    cases hc : chn [x, y] p with
    | none =>
      refine ⟨⟨#[]⟩, 20, .inr rfl, fun B w q0 q1 => ?_, fun B w q0 q1 => ?_⟩
      · have h := Chain2_any p x y HP.out.1 HP.out.2.1 HP.out.2.2 B w q0 q1
        rw [hc] at h; exact h
      · have h := Chain2_any p y x HP.out.1 HP.out.2.2 HP.out.2.1 B w q0 q1
        rw [← chn_swap, hc] at h; exact h
    | some v =>
      refine ⟨v, 0, .inl rfl, fun B w q0 q1 => ?_, fun B w q0 q1 => ?_⟩
      · have h := Chain2_any p x y HP.out.1 HP.out.2.1 HP.out.2.2 B w q0 q1
        rw [hc] at h; exact h
      · have h := Chain2_any p y x HP.out.1 HP.out.2.2 HP.out.2.1 B w q0 q1
        rw [← chn_swap, hc] at h; exact h
  obtain ⟨v, i, hi, K1, K2⟩ := key
  have C1 : Hid (_) := K1
  have C2 : Hid (_) := K2
  clear K1 K2
  have HI : Hid (i = 0 ∨ i = 20) := hi
  clear hi
  go_enter Try.func6, Try.ntmps6
  go_wp2_with fail
  refine Calls.mono (works_any _) ?_
  rintro e w1 ⟨rfl, hb⟩
  have B1 : Hid (Below w.heap.size w w1) := hb
  clear hb
  go_wp2_with fail
  refine Calls.mono (SA.out _) ?_
  rintro e w2 ⟨rfl, hb⟩
  have B2 : Hid (Below w.heap.size w w2) := chain B1.out hb
  clear hb
  go_wp2_with fail
  refine Calls.mono (SB.out _) ?_
  rintro e w3 ⟨rfl, hb⟩
  have B3 : Hid (Below w.heap.size w w3) := chain B2.out hb
  clear hb
  go_wp2_with fail
  refine Calls.mono (SU.out _) ?_
  rintro e w4 ⟨rfl, hb⟩
  have B4 : Hid (Below w.heap.size w w4) := chain B3.out hb
  clear hb
  go_wp2_with fail
  refine Calls.mono (PX.out _) ?_
  rintro e w5 ⟨rfl, hb⟩
  have B5 : Hid (Below w.heap.size w w5) := chain B4.out hb
  clear hb
  go_wp2_with fail
  refine Calls.mono (PY.out _) ?_
  rintro e w6 ⟨rfl, hb⟩
  have B6 : Hid (Below w.heap.size w w6) := chain B5.out hb
  clear hb
  go_wp2_with fail
  refine Calls.mono (SX.out _) ?_
  rintro e w7 ⟨rfl, hb⟩
  have B7 : Hid (Below w.heap.size w w7) := chain B6.out hb
  clear hb
  go_wp2_with fail
  refine Calls.mono (SY.out _) ?_
  rintro e w8 ⟨rfl, hb⟩
  have B8 : Hid (Below w.heap.size w w8) := chain B7.out hb
  clear hb
  go_wp2_with fail
  refine Calls.mono (C1.out w8.heap.size _ (by simp [go_sem]) (by simp [go_sem])) ?_
  rintro e w9 ⟨rfl, hb⟩
  have B9 : Hid (Below w.heap.size w w9) := chain (B8.out.alloc B8.out.size _) hb
  clear hb
  go_wp2_with fail
  refine Calls.mono (C2.out w9.heap.size _ (by simp [go_sem]) (by simp [go_sem])) ?_
  rintro e w10 ⟨rfl, hb⟩
  have B10 : Hid (Below w.heap.size w w10) := chain (B9.out.alloc B9.out.size _) hb
  clear hb
  rcases HI.out with hi | hi
  · subst hi
    go_wp2
    go_ret
    exact ⟨rfl, B10.out⟩
  · subst hi
    go_wp2
    go_ret
    exact ⟨rfl, B10.out⟩
end Go.Proofs.Ytdebfelgaiofeaa
