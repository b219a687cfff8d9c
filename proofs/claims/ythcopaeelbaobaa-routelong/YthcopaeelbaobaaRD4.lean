/- The document's paths. -/
import Derived.Test.YthcopaeelbaobaaRD3
import Derived.Test.YthcopaeelbaobaaRM2
namespace Go.Proofs.Ythcopaeelbaobaa
open Go.RowKit Go.Proofs.Fd Go.Proofs.Rt
set_option maxRecDepth 20000

/-- A list of commands lies there. -/
def HopsAt (w : World) (a : Option Addr) (hs : List Hp) : Prop := ∀ i, i < hs.length → ∃ b o, a = some ⟨b, o, none⟩
    ∧ w.cell? ⟨b, o + i * 5, none⟩ = some (.int .i64 (hs.getD i zh).k) ∧ w.cell? ⟨b, o + i * 5 + 1, none⟩ = some (.int .i64 (hs.getD i zh).n) ∧ w.cell? ⟨b, o + i * 5 + 2, none⟩ = some (.int .i64 (hs.getD i zh).u)
    ∧ w.cell? ⟨b, o + i * 5 + 3, none⟩ = some (.int .i64 (hs.getD i zh).d) ∧ w.cell? ⟨b, o + i * 5 + 4, none⟩ = some (.string (hs.getD i zh).id)
theorem HopsAt.later {B : Nat} {w w' : World} {a : Option Addr} {hs : List Hp} (h : HopsAt w a hs) (hb : Below B w w') (hB : B = w.heap.size) : HopsAt w' a hs := fun i hi => by
  subst hB
  obtain ⟨b, o, ha, h0, h1, h2, h3, h4⟩ := h i hi
  exact ⟨b, o, ha, cell_later hb h0, cell_later hb h1, cell_later hb h2, cell_later hb h3, cell_later hb h4⟩

set_option maxHeartbeats 2000000 in
theorem rPath_any (a : Option Addr) (hs : List Hp) (n cap : Nat) (hn : Hid (hs.length = n)) (hn2 : n < 9223372036854775807) (w : World) (hc : Hid (HopsAt w a hs)) :
    Calls Try.prog 17 #[.slice a n cap] w fun e w' => e = .returned (.int .i64 (pth hs)) ∧ Below w.heap.size w w' := by
  have CK : Hid (∀ (k n u d : Int) (id : ByteArray) (w : World), Calls Try.prog 12 #[.agg #[.int .i64 k, .int .i64 n, .int .i64 u, .int .i64 d, .string id]] w fun e w' => e = .returned (.int .i64 (chk ⟨k, n, u, d, id⟩)) ∧ Below w.heap.size w w') := fun k n u d id w => rCheck_any ⟨k, n, u, d, id⟩ w
  go_enter Try.func17, Try.ntmps17
  go_wp2
  go_loopw [3] (fun iv wr => ∃ q : Nat, q ≤ n ∧ iv = .int .i64 (q : Int) ∧ Hid ((∀ j, j < q → ok (hs.getD j zh) = true) ∧ Below w.heap.size w wr)) (fun iv _ => n - (intOf iv).toNat)
  case atStart => exact ⟨0, Nat.zero_le _, rfl, fun j hj => absurd hj (Nat.not_lt_zero _), Below.refl _ _⟩
  case round =>
    obtain ⟨q, hq, rfl, I⟩ := hrel
    by_cases hlt : q < n
    · have g1 : (q : Int) < (n : Int) := by omega
      obtain ⟨b, o, rfl, c0, c1, c2, c3, c4⟩ := (hc.out.later I.out.2 rfl) q (by rw [hn.out]; exact hlt)
      have PN : Hid (¬ ok (hs.getD q zh) = true → pth hs = 70) := fun h => pth_no hs q (by rw [hn.out]; exact hlt) h
      have EX : Hid (ok (hs.getD q zh) = true → ∀ j, j < q + 1 → ok (hs.getD j zh) = true) := fun h j hj => by
        rcases Nat.lt_or_ge j q with g | g
        · exact I.out.1 j g
        · obtain rfl : j = q := by omega
          exact h
      generalize hs.getD q zh = h at *
      obtain ⟨k, nn, u, d, id⟩ := h
      simp only at c0 c1 c2 c3 c4
      have CK1 : Hid (∀ w, Calls Try.prog 12 #[.agg #[.int .i64 k, .int .i64 nn, .int .i64 u, .int .i64 d, .string id]] w fun e w' => e = .returned (.int .i64 (chk ⟨k, nn, u, d, id⟩)) ∧ Below w.heap.size w w') := fun w => CK.out _ _ _ _ _ w
      clear CK
      by_cases hk : ok ⟨k, nn, u, d, id⟩ = true
      · rw [chk_ok _ hk] at CK1
        have EY := EX.out hk
        have EZ : Hid (∀ j, j < q + 1 → ok (hs.getD j zh) = true) := EY
        clear EX PN EY hk
        go_wp2_with fail
        refine Calls.mono (CK1.out _) ?_
        rintro e w1 ⟨rfl, hb1⟩
        have B1 : Hid (Below w.heap.size w w1) := chain I.out.2 hb1
        clear hb1 CK1 I c0 c1 c2 c3 c4
        go_wp2
        exact ⟨⟨q + 1, by omega, by go_num, EZ.out, B1.out⟩, by simp [intOf]; omega⟩
      · rw [chk_no _ hk] at CK1
        have E : Hid (pth hs = 70) := PN.out hk
        clear EX PN hk
        go_wp2_with fail
        refine Calls.mono (CK1.out _) ?_
        rintro e w1 ⟨rfl, hb1⟩
        have B1 : Hid (Below w.heap.size w w1) := chain I.out.2 hb1
        clear hb1 CK1 I c0 c1 c2 c3 c4
        go_wp2
        go_ret
        exact ⟨by rw [E.out]; rfl, B1.out⟩
    · obtain rfl : q = n := by omega
      have g1 : ¬ (q : Int) < (q : Int) := by omega
      have AL : Hid (hs.all ok = true) := all_ok hs (by rw [hn.out]; exact I.out.1)
      have B1 : Hid (Below w.heap.size w wr) := I.out.2
      clear I CK
      by_cases hl : q = 0 ∨ 5 < q
      · have E : Hid (pth hs = 4) := pth_len hs AL.out (by rw [hn.out]; exact hl)
        clear AL
        rcases hl with hl | hl
        · have g2 : (q : Int) < 1 := by omega
          go_wp2
          go_ret
          exact ⟨by rw [E.out]; rfl, B1.out⟩
        · have g2 : ¬ (q : Int) < 1 := by omega
          have g3 : (5 : Int) < (q : Int) := by omega
          go_wp2
          go_ret
          exact ⟨by rw [E.out]; rfl, B1.out⟩
      · have g2 : ¬ (q : Int) < 1 := by omega
        have g3 : ¬ (5 : Int) < (q : Int) := by omega
        go_wp2
        have HL : Hid (¬ (hs.length = 0 ∨ 5 < hs.length)) := by rw [hn.out]; exact hl
        go_loopw [5] (fun iv wx => ∃ p : Nat, p ≤ q ∧ iv = .int .i64 (p : Int) ∧ Hid ((∀ j, j < p → ((hs.getD j zh).k = 1 ↔ j + 1 < q)) ∧ Below w.heap.size w wx)) (fun iv _ => q - (intOf iv).toNat)
        case atStart => exact ⟨0, Nat.zero_le _, rfl, fun j hj => absurd hj (Nat.not_lt_zero _), B1.out⟩
        case round =>
          obtain ⟨p, hp, rfl, I⟩ := hrel
          clear B1
          by_cases hpl : p < q
          · have x1 : (p : Int) < (q : Int) := by omega
            obtain ⟨b, o, rfl, c0, c1, c2, c3, c4⟩ := (hc.out.later I.out.2 rfl) p (by rw [hn.out]; exact hpl)
            have x2 : IntKind.i64.wrap ((q : Int) - 1) = (q : Int) - 1 := by rw [IntKind.wrap_i64]; omega
            have PN : Hid (¬ ((hs.getD p zh).k = 1 ↔ p + 1 < q) → pth hs = 4) := fun h => pth_shape hs AL.out HL.out p (by rw [hn.out]; exact hpl) (by rw [hn.out]; exact h)
            have EX : Hid (((hs.getD p zh).k = 1 ↔ p + 1 < q) → ∀ j, j < p + 1 → ((hs.getD j zh).k = 1 ↔ j + 1 < q)) := fun h j hj => by
              rcases Nat.lt_or_ge j p with g | g
              · exact I.out.1 j g
              · obtain rfl : j = p := by omega
                exact h
            generalize (hs.getD p zh).k = k at *
            by_cases k1 : k = 1
            · by_cases l1 : p + 1 < q
              · have x3 : (p : Int) < (q : Int) - 1 := by omega
                have EZ : Hid (∀ j, j < p + 1 → ((hs.getD j zh).k = 1 ↔ j + 1 < q)) := EX.out ⟨fun _ => l1, fun _ => k1⟩
                have BF : Hid (Below w.heap.size w wr) := I.out.2
                subst k1
                clear EX PN I
                go_wp2
                exact ⟨⟨p + 1, by omega, by go_num, EZ.out, BF.out⟩, by simp [intOf]; omega⟩
              · have x3 : ¬ (p : Int) < (q : Int) - 1 := by omega
                have E : Hid (pth hs = 4) := PN.out (fun h => l1 (h.1 k1))
                have BF : Hid (Below w.heap.size w wr) := I.out.2
                subst k1
                clear EX PN I
                go_wp2
                go_ret
                exact ⟨by rw [E.out]; rfl, BF.out⟩
            · have kb : (k == 1) = false := beq_eq_false_iff_ne.2 k1
              by_cases l1 : p + 1 < q
              · have x3 : (p : Int) < (q : Int) - 1 := by omega
                have E : Hid (pth hs = 4) := PN.out (fun h => k1 (h.2 l1))
                have BF : Hid (Below w.heap.size w wr) := I.out.2
                clear EX PN I
                go_wp2
                go_ret
                exact ⟨by rw [E.out]; rfl, BF.out⟩
              · have x3 : ¬ (p : Int) < (q : Int) - 1 := by omega
                have EZ : Hid (∀ j, j < p + 1 → ((hs.getD j zh).k = 1 ↔ j + 1 < q)) := EX.out ⟨fun h => absurd h k1, fun h => absurd h l1⟩
                have BF : Hid (Below w.heap.size w wr) := I.out.2
                clear EX PN I
                go_wp2
                exact ⟨⟨p + 1, by omega, by go_num, EZ.out, BF.out⟩, by simp [intOf]; omega⟩
          · obtain rfl : p = q := by omega
            have x1 : ¬ (p : Int) < (p : Int) := by omega
            have E : Hid (pth hs = 0) := pth_ok hs AL.out HL.out (by rw [hn.out]; exact I.out.1)
            have BF : Hid (Below w.heap.size w wr) := I.out.2
            clear I
            go_wp2
            go_ret
            exact ⟨by rw [E.out]; rfl, BF.out⟩
end Go.Proofs.Ythcopaeelbaobaa
