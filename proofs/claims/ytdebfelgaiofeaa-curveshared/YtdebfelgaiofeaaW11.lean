/- What loadWide of package field does. -/
import Derived.Test.YtdebfelgaiofeaaW10
import Derived.Test.YtdebfelgaiofeaaMA
import Derived.Test.YtdebfelgaiofeaaH2
namespace Go.Proofs.Ytdebfelgaiofeaa
open Go.RowKit Go.Proofs.Fd
attribute [local go_sem ↓] Go.wp_at_zero Go.wp_at_succ

theorem or_word (x b r : Nat) (hx : x < 2 ^ (r * 8)) (hb : b < 256) (hr : r < 8) :
    bits .or .u64 (x : Int) (IntKind.u64.wrap (IntKind.u64.wrap (b : Int) * 2 ^ (r * 8))) = ((x + 2 ^ (r * 8) * b : Nat) : Int) := by
  have hlt : 2 ^ (r * 8) * 256 ≤ 18446744073709551616 := by
    have e : 2 ^ (r * 8) * 256 = 2 ^ (r * 8 + 8) := by rw [Nat.pow_add]
    rw [e]
    have : (2 : Nat) ^ (r * 8 + 8) ≤ 2 ^ 64 := Nat.pow_le_pow_right (by decide) (by omega)
    simpa using this
  exact or_step x b (r * 8) (2 ^ (r * 8)) _ (by simp) rfl hx hb hlt

set_option maxHeartbeats 1000000 in
theorem loadWide_any (s : ByteArray) (hs : s.size ≤ 64) (w : World) :
    Calls Try.prog 55 #[.string s] w fun e w' => ∃ c0 c1 c2 c3 c4 c5 c6 c7 : Nat, e = .returned (.agg #[.int .u64 c0, .int .u64 c1, .int .u64 c2, .int .u64 c3, .int .u64 c4, .int .u64 c5, .int .u64 c6, .int .u64 c7]) ∧ u4 c0 c1 c2 c3 ∧ u4 c4 c5 c6 c7 ∧ v4 c0 c1 c2 c3 + W256 * v4 c4 c5 c6 c7 = num s.data.toList ∧ Below w.heap.size w w' := by
  go_enter Try.func55, Try.ntmps55
  go_wp2
  go_loopw [7] (fun i wr => ∃ k : Nat, k ≤ s.size ∧ i = .int .i64 k ∧ (∀ j, j < 8 → wr.cell? ⟨w.heap.size + 1, j, none⟩ = some (.int .u64 (wd s.data.toList k j))) ∧ (∀ o, wr.frozen? ⟨w.heap.size + 1, o, none⟩ = false) ∧ At8 wr w.heap.size (.int .u64 0) (.int .u64 0) (.int .u64 0) (.int .u64 0) (.int .u64 0) (.int .u64 0) (.int .u64 0) (.int .u64 0) ∧ Below w.heap.size w wr) (fun i _ => s.size - (intOf i).toNat)
  case atStart =>
    refine ⟨0, Nat.zero_le _, rfl, ?_, ?_, ?_, ?_⟩
    · intro j hj
      have : j = 0 ∨ j = 1 ∨ j = 2 ∨ j = 3 ∨ j = 4 ∨ j = 5 ∨ j = 6 ∨ j = 7 := by omega
      rcases this with rfl | rfl | rfl | rfl | rfl | rfl | rfl | rfl <;> simp [go_sem, wd_zero]
    · intro o; simp [go_sem]
    · simp [At8, go_sem]
    · exact ((Below.refl _ _).alloc (Nat.le_refl _) _).alloc (by simp) _
  case round =>
    obtain ⟨k, hk, rfl, hc, hf, ha, hb⟩ := hrel
    have HA : Hid (At8 _ _ _ _ _ _ _ _ _ _) := ha
    have HB : Hid (Below _ _ _) := hb
    clear ha hb
    by_cases hlt : k < s.size
    · obtain ⟨j, hj⟩ : ∃ j, k / 8 = j := ⟨_, rfl⟩
      obtain ⟨r, hr⟩ : ∃ r, k % 8 = r := ⟨_, rfl⟩
      have hj8 : j < 8 := by omega
      have hr8 : r < 8 := by omega
      have cj := hc j hj8
      have HC : Hid (∀ j, j < 8 → wr.cell? ⟨w.heap.size + 1, j, none⟩ = some (.int .u64 (wd s.data.toList k j))) := hc
      have t1 : Int.tdiv (k : Int) 8 = (j : Int) := by rw [← hj]; exact (Int.ofNat_tdiv k 8).symm
      have t2 : Int.tmod (k : Int) 8 = (r : Int) := by rw [← hr]; exact (Int.ofNat_tmod k 8).symm
      have hl : s.data.toList.length = s.size := by simp
      have V1 : Hid (wd s.data.toList (k + 1) j = wd s.data.toList k j + 2 ^ (r * 8) * s[k].toNat) := wd_this s.data.toList k j r (by omega) hj hr
      have V2 : Hid (∀ i, i ≠ j → wd s.data.toList (k + 1) i = wd s.data.toList k i) := fun i hi => wd_other s.data.toList k i (by omega) (by omega)
      have t3 : bits .or .u64 ((wd s.data.toList k j : Nat) : Int) (IntKind.u64.wrap (IntKind.u64.wrap (s[k].toNat : Int) * 2 ^ (r * 8))) = ((wd s.data.toList (k + 1) j : Nat) : Int) := by
        rw [or_word _ _ _ (wd_small s.data.toList k j r (by omega) hj hr) s[k].toNat_lt hr8, V1.out]
      have b1 : (0 : Int) ≤ (j : Int) := by omega
      have b2 : (j : Int) < 8 := by omega
      have b3 : (0 : Int) ≤ (k : Int) := by omega
      have b4 : (k : Int) < (s.size : Int) := by omega
      clear hc hj hr hl
      go_wp2
      go_region
      go_wp2
      go_roundw
      case rel =>
        refine ⟨k + 1, by omega, by go_num, ?_, ?_, ?_, ?_⟩
        · intro i hi
          by_cases hij : i = j
          · subst hij; simp [go_sem, cj]
          · rw [V2.out i hij]
            have := HC.out i hi
            simp only [World.cell?_drew]
            rw [World.cell?_setCell_other _ _ _ _ (by simp; try omega)]
            exact this
        · intro o; simp [go_sem, hf]
        · exact (At8.set HA.out (by simp) _).drew
        · exact ((HB.out.setCell (by simp) _).drew)
      case measure => simp [intOf]; omega
    · have hks : k = s.size := by omega
      subst hks
      have c0 := hc 0 (by omega); have c1 := hc 1 (by omega); have c2 := hc 2 (by omega); have c3 := hc 3 (by omega)
      have c4 := hc 4 (by omega); have c5 := hc 5 (by omega); have c6 := hc 6 (by omega); have c7 := hc 7 (by omega)
      obtain ⟨rf, r0, r1, r2, r3, r4, r5, r6, r7⟩ := HA.out
      clear hc hf
      go_wp2
      have hl : s.data.toList.length = s.size := by simp
      have WA := wd_all s.data.toList (by omega)
      rw [hl] at WA
      refine bodyPost_ret (v := .agg #[.int .u64 (wd s.data.toList s.size 0), .int .u64 (wd s.data.toList s.size 1), .int .u64 (wd s.data.toList s.size 2), .int .u64 (wd s.data.toList s.size 3), .int .u64 (wd s.data.toList s.size 4), .int .u64 (wd s.data.toList s.size 5), .int .u64 (wd s.data.toList s.size 6), .int .u64 (wd s.data.toList s.size 7)]) (by simp [results, Try.results55, go_sem, *]) rfl ⟨_, _, _, _, _, _, _, _, rfl, ⟨wd_lt _ _ _, wd_lt _ _ _, wd_lt _ _ _, wd_lt _ _ _⟩, ⟨wd_lt _ _ _, wd_lt _ _ _, wd_lt _ _ _, wd_lt _ _ _⟩, WA, ?_⟩
      repeat (first | refine Below.setCell ?_ (by simp) _ | exact HB.out)

end Go.Proofs.Ytdebfelgaiofeaa
