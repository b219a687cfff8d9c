/- The log's records: as sectors, and found again. -/
import Derived.Test.YtdcimnmebgkmjaaDoorLgP
namespace Go.Proofs.YtdcimnmebgkmjaaDoor
open Go.RowKit Go.Proofs.Fd Go.Proofs.Dk Go.Proofs.Lg
set_option maxRecDepth 20000

theorem keep2 {w0 : World} {B : Nat} {x y : Value} {wa wb : World} (hb : Below wa.heap.size wa wb) (h : wa.cell? ⟨B, 0, none⟩ = some x ∧ wa.cell? ⟨B, 1, none⟩ = some y ∧ Below w0.heap.size w0 wa) :
    wb.cell? ⟨B, 0, none⟩ = some x ∧ wb.cell? ⟨B, 1, none⟩ = some y ∧ Below w0.heap.size w0 wb := ⟨cell_later hb h.1, cell_later hb h.2.1, chain h.2.2 hb⟩
theorem chd {w W wz : World} (h1 : Below w.heap.size w W) (hb : Below W.drew.heap.size W.drew wz) : Below w.heap.size w wz := chain (chain h1 (Below.refl _ _).drew) hb
set_option maxHeartbeats 1000000 in
theorem lsectors_any (m t : Bs) (hm : m.length = 16) (ht : t.length ≤ 2000) (w : World) : Calls Tryd.prog 54 #[rv m t] w fun e w' => e = .returned (sv (pdd (ben t.length 2 ++ m ++ t))) ∧ Below w.heap.size w w' := by
  have NB : Hid (∀ w, Calls Tryd.prog 75 #[.int .i64 ((st t).size : Int), .int .i64 2] w fun e w' => e = .returned (sv (ben t.length 2)) ∧ Below w.heap.size w w') := by
    rw [st_size]
    exact lnumber_any t.length 2 (by decide)
  have PD : Hid (∀ w, Calls Tryd.prog 76 #[sv (ben t.length 2 ++ m ++ t)] w fun e w' => e = .returned (sv (pdd (ben t.length 2 ++ m ++ t))) ∧ Below w.heap.size w w') := lpadded_any _ (by rw [List.length_append, List.length_append, ben_len, hm]; omega)
  have e3 : st (ben t.length 2 ++ m ++ t) = st (ben t.length 2) ++ st m ++ st t := by rw [← st_app, ← st_app]
  obtain ⟨R, hR⟩ : ∃ R, st (pdd (ben t.length 2 ++ m ++ t)) = R := ⟨_, rfl⟩
  unfold rv
  unfold sv at *
  rw [hR] at PD ⊢
  rw [e3] at PD
  have hY2 : (st (ben t.length 2)).size = 2 := by rw [st_size, ben_len]
  have hM2 : (st m).size = 16 := by rw [st_size, hm]
  have hT2 : (st t).size ≤ 2000 := by rw [st_size]; exact ht
  obtain ⟨Y, hY⟩ : ∃ Y, st (ben t.length 2) = Y := ⟨_, rfl⟩
  obtain ⟨M, hM⟩ : ∃ M, st m = M := ⟨_, rfl⟩
  obtain ⟨T, hT⟩ : ∃ T, st t = T := ⟨_, rfl⟩
  rw [hY] at NB PD hY2
  rw [hM] at PD hM2 ⊢
  rw [hT] at NB PD hT2 ⊢
  have hT3 : ¬ 9223372036854775807 < 18 + T.size := by omega
  clear hY hM hT hR e3 hm ht
  have B0 : Hid (Below w.heap.size w (w.alloc (.cells #[.string M, .string T] 86))) := (Below.refl _ _).alloc (Nat.le_refl _) _
  obtain ⟨w0, hw0⟩ : ∃ w0, w.alloc (.cells #[.string M, .string T] 86) = w0 := ⟨_, rfl⟩
  have c0 : w0.cell? ⟨w.heap.size, 0, none⟩ = some (.string M) := by rw [← hw0, World.cell?_alloc_new]; rfl
  have c1 : w0.cell? ⟨w.heap.size, 1, none⟩ = some (.string T) := by rw [← hw0, World.cell?_alloc_new]; rfl
  rw [hw0] at B0
  go_enter Tryd.func54, Tryd.ntmps54
  go_wp2_with fail
  go_region_held3 (fun w' => w'.cell? ⟨w.heap.size, 0, none⟩ = some (.string M) ∧ w'.cell? ⟨w.heap.size, 1, none⟩ = some (.string T) ∧ Below w0.heap.size w0 w') (first | exact ⟨c0, c1, (Below.refl _ _).drew⟩ | assumption | exact keep2 (by assumption) (by assumption)) (first | (go_at_call 75; refine Calls.mono (NB.out _) ?_; rintro e w1 ⟨rfl, hb1⟩) | (go_at_call 76; refine Calls.mono (PD.out _) ?_; rintro e w2 ⟨rfl, hb2⟩))
  have FF : Hid (Below w.heap.size w w2) := chain (chd B0.out hb1) hb2
  go_wp2
  go_ret
  exact ⟨rfl, FF.out⟩
/-- strings.HasPrefix by the library's contract. -/
theorem lprefix_any (s p : ByteArray) (w : World) : Calls Tryd.prog 82 #[.string s, .string p] w fun e w' => e = .returned (.bool (p.data.toList.isPrefixOf s.data.toList)) ∧ w' = w := Any.strings_HasPrefix (ρ := repAt) { repLies with } s p w
/-- A number out of its bytes, one by one. -/
theorem nm_app (l : Bs) (b : UInt8) : nm (l ++ [b]) = nm l * 256 + b.toNat := by rw [nm, List.foldl_append]; rfl
theorem nm_fold : ∀ (l : Bs) (n m : Nat), n < 256 ^ m → l.foldl (fun n b => n * 256 + b.toNat) n < 256 ^ (m + l.length)
  | [], _, _, h => h
  | b :: l, n, m, h => by
    have hb := b.toNat_lt
    rw [List.foldl_cons, List.length_cons, show m + (l.length + 1) = (m + 1) + l.length by omega]
    refine nm_fold l _ (m + 1) ?_
    rw [Nat.pow_succ]
    omega
theorem nm_lt (l : Bs) : nm l < 256 ^ l.length := by
  have := nm_fold l 0 0 (by decide)
  rw [Nat.zero_add] at this
  exact this
theorem or_low (n : Nat) (b : UInt8) (hn : n < 16777216) : bits .or .i64 ((n : Int) * 256) (b.toNat : Int) = ((n * 256 + b.toNat : Nat) : Int) := by
  have h3 := b.toNat_lt
  rw [show (n : Int) * 256 = ((n * 256 : Nat) : Int) by omega, (bits_nat .i64 32 (by decide) (fun n _ _ => by rw [IntKind.wrap_i64]; omega) (n * 256) b.toNat (by omega) (by omega)).2]
  have := Nat.shiftLeft_add_eq_or_of_lt (show b.toNat < 2 ^ 8 from h3) n
  rw [Nat.shiftLeft_eq] at this
  rw [show n * 256 = n * 2 ^ 8 by omega, ← this]
set_option maxHeartbeats 1000000 in
theorem lgen_any (b : Bs) (h1 : 8 ≤ b.length) (w : World) (hk : Hid (Kh w)) : Calls Tryd.prog 65 #[sv b] w fun e w' => e = .returned (.int .i64 (gen b : Int)) ∧ Below w.heap.size w w' := by
  have HD : Hid (∀ (g : Nat) (w : World), Kh w → Calls Tryd.prog 68 #[.int .i64 (g : Int)] w fun e w' => e = .returned (sv (hd g)) ∧ Below w.heap.size w w') := fun g w h => lhead_any g w h
  have hs : (st b).size = b.length := st_size b
  obtain ⟨X, hX⟩ : ∃ X, st b = X := ⟨_, rfl⟩
  unfold sv
  rw [hX] at hs ⊢
  have HX : Hid (st b = X) := hX
  clear hX
  go_enter Tryd.func65, Tryd.ntmps65
  go_wp2
  go_loopw [3, 5] (fun x i wr => ∃ k : Nat, k ≤ 4 ∧ i = .int .i64 (k : Int) ∧ x = .int .i64 (nm ((b.drop 4).take k) : Int) ∧ wr = w) (fun _ i _ => 4 - (intOf i).toNat)
  case atStart => exact ⟨0, Nat.zero_le _, rfl, rfl, rfl⟩
  case round =>
    obtain ⟨k, hk4, rfl, rfl, rfl⟩ := hrel
    by_cases hk5 : k < 4
    · have g1 : (k : Int) < 4 := by omega
      have l0 : 4 + k < X.size := by omega
      have l1 : (4 : Int) + (k : Int) < (X.size : Int) := by omega
      have l2 : (0 : Int) ≤ 4 + (k : Int) := by omega
      have hlt := nm_lt ((b.drop 4).take k)
      have hpw : 256 ^ ((b.drop 4).take k).length ≤ 16777216 := by
        have : ((b.drop 4).take k).length ≤ 3 := by rw [List.length_take]; omega
        exact Nat.le_trans (Nat.pow_le_pow_right (by decide) this) (by decide)
      obtain ⟨c, hc⟩ : ∃ c, X[4 + k] = c := ⟨_, rfl⟩
      have hc2 : b[4 + k]'(by omega) = c := by
        have := HX.out
        subst this
        rw [← hc]
        rfl
      have hst : nm ((b.drop 4).take (k + 1)) = nm ((b.drop 4).take k) * 256 + c.toNat := by
        rw [List.take_succ_eq_append_getElem (by rw [List.length_drop]; omega), nm_app, List.getElem_drop, hc2]
      obtain ⟨n, hn⟩ : ∃ n, nm ((b.drop 4).take k) = n := ⟨_, rfl⟩
      rw [hn] at hst hlt ⊢
      have hcl := c.toNat_lt
      have t1 : IntKind.i64.wrap (c.toNat : Int) = (c.toNat : Int) := by rw [IntKind.wrap_i64]; omega
      have t2 : IntKind.i64.wrap ((n : Int) * 256) = (n : Int) * 256 := by rw [IntKind.wrap_i64]; omega
      have OW := or_low n c (by omega)
      have HST : Hid (nm ((b.drop 4).take (k + 1)) = n * 256 + c.toNat) := hst
      clear hst hn hc2 hlt hpw hcl
      go_wp2
      go_roundw
      case rel => exact ⟨k + 1, by omega, rfl, by rw [HST.out]; simp, by first | rfl | trivial⟩
      case measure => simp [intOf]; omega
    · obtain rfl : k = 4 := by omega
      have g0 : Hid (gen b = if nm ((b.drop 4).take 4) ≤ 2147483647 ∧ (hd (nm ((b.drop 4).take 4))).isPrefixOf b = true then nm ((b.drop 4).take 4) else 0) := rfl
      obtain ⟨n, hn⟩ : ∃ n, nm ((b.drop 4).take 4) = n := ⟨_, rfl⟩
      rw [hn] at g0 ⊢
      clear hn
      by_cases hbig : 2147483647 < n
      · have gb : 2147483647 < (n : Int) := by omega
        have E0 : Hid (gen b = 0) := by
          have := g0.out
          rw [if_neg (fun c => by have := c.1; omega)] at this
          exact this
        obtain ⟨z, hz⟩ : ∃ z : Int, (n : Int) = z := ⟨_, rfl⟩
        rw [hz] at gb ⊢
        clear hz g0 hbig HD
        go_wp2
        go_ret
        exact ⟨by rw [E0.out]; rfl, Below.refl _ _⟩
      have gb : ¬ 2147483647 < (n : Int) := by omega
      have hle : Hid (n ≤ 2147483647) := Nat.le_of_not_lt hbig
      clear hbig
      have PF : Hid (∀ w, Calls Tryd.prog 82 #[.string X, sv (hd n)] w fun e w' => e = .returned (.bool ((hd n).isPrefixOf b)) ∧ w' = w) := fun w => by
        have := HX.out
        subst this
        exact lprefix_any (st b) (st (hd n)) w
      obtain ⟨Y, hY⟩ : ∃ Y, st (hd n) = Y := ⟨_, rfl⟩
      unfold sv at HD PF
      have HD2 : Hid (Calls Tryd.prog 68 #[.int .i64 (n : Int)] wr fun e w' => e = .returned (.string (st (hd n))) ∧ Below wr.heap.size wr w') := HD.out n wr hk.out
      rw [hY] at PF HD2
      clear hY HD
      cases hp : (hd n).isPrefixOf b
      · rw [hp] at PF g0
        go_wp2_with fail
        refine Calls.mono HD2.out ?_
        rintro e w1 ⟨rfl, hb⟩
        have B1 : Hid _ := hb
        clear hb
        go_wp2_with fail
        refine Calls.mono (PF.out _) ?_
        rintro e w2 ⟨rfl, rfl⟩
        go_wp2
        go_ret
        exact ⟨by rw [g0.out, if_neg (fun c => by simp at c)]; rfl, B1.out⟩
      · rw [hp] at PF g0
        go_wp2_with fail
        refine Calls.mono HD2.out ?_
        rintro e w1 ⟨rfl, hb⟩
        have B1 : Hid _ := hb
        clear hb
        go_wp2_with fail
        refine Calls.mono (PF.out _) ?_
        rintro e w2 ⟨rfl, rfl⟩
        go_wp2
        go_ret
        exact ⟨by rw [g0.out, if_pos (by first | exact ⟨hle.out, rfl⟩ | exact ⟨hle.out, trivial⟩)]; rfl, B1.out⟩
end Go.Proofs.YtdcimnmebgkmjaaDoor
