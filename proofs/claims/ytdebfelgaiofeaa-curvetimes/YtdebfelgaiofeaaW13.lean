/- What Check, checkList, Small and Reduce of package field do. -/
import Derived.Test.YtdebfelgaiofeaaW8
import Derived.Test.YtdebfelgaiofeaaW11
import Derived.Test.YtdebfelgaiofeaaW12
import Derived.Test.YtdebfelgaiofeaaMA
namespace Go.Proofs.Ytdebfelgaiofeaa
open Go.RowKit Go.Proofs.Fd

theorem ret_i64 {a b : Int} (h : a = b) : Ending.returned (.int .i64 a) = .returned (.int .i64 b) := by rw [h]

set_option maxHeartbeats 1000000 in
theorem Check_any (s : ByteArray) (w : World) :
    Calls Try.prog 21 #[.string s] w fun e w' => e = .returned (.int .i64 (chk s)) ∧ Below w.heap.size w w' := by
  by_cases hs : s.size = 32
  · have hn : ((s.size : Int) != 32) = false := by simp [hs]
    have HS : Hid (s.size = 32) := hs
    clear hs
    go_enter Try.func21, Try.ntmps21
    go_wp2_with fail
    refine Calls.mono (load_any s HS.out _) ?_
    rintro e w1 ⟨c0, c1, c2, c3, rfl, uc, vc, hb1⟩
    have UC : Hid (u4 c0 c1 c2 c3) := uc
    have VC : Hid (v4 c0 c1 c2 c3 = num s.data.toList ∧ Below w.heap.size w w1) := ⟨vc, hb1⟩
    clear uc vc hb1
    go_wp2_with fail
    refine Calls.mono (below_any c0 c1 c2 c3 UC _) ?_
    rintro e w2 ⟨rfl, hb2⟩
    have HB : Hid (Below w.heap.size w w2) := chain VC.out.2 hb2
    clear hb2
    by_cases hlt : v4 c0 c1 c2 c3 < p
    · have hd : decide (v4 c0 c1 c2 c3 < p) = true := by simpa using hlt
      have fin : Hid (chk s = 0) := by show chk s = 0; unfold chk; rw [if_pos HS.out, if_pos (by rw [← VC.out.1]; exact hlt)]
      clear hlt
      go_wp2
      go_ret
      exact ⟨ret_i64 fin.out.symm, HB.out⟩
    · have hd : decide (v4 c0 c1 c2 c3 < p) = false := by simpa using hlt
      have fin : Hid (chk s = 1) := by show chk s = 1; unfold chk; rw [if_pos HS.out, if_neg (by rw [← VC.out.1]; exact hlt)]
      clear hlt
      go_wp2
      go_ret
      exact ⟨ret_i64 fin.out.symm, HB.out⟩
  · have hn : ((s.size : Int) != 32) = true := by simp; omega
    have fin : Hid (chk s = 3) := by show chk s = 3; unfold chk; rw [if_neg hs]
    clear hs
    go_enter Try.func21, Try.ntmps21
    go_wp2
    go_ret
    exact ⟨ret_i64 fin.out.symm, Below.refl _ _⟩

/-- The slice at a holds these strings. -/
def StrAt (w : World) (a : Option Addr) (ss : List ByteArray) : Prop := ∀ i (h : i < ss.length), ∃ b o, a = some ⟨b, o, none⟩ ∧ w.cell? ⟨b, o + i, none⟩ = some (.string ss[i])

theorem StrAt.later {W w1 : World} {a : Option Addr} {ss : List ByteArray} (h : StrAt W a ss) (hb : Below W.heap.size W w1) : StrAt w1 a ss := fun i hi => by
  obtain ⟨b, o, e, hc⟩ := h i hi
  exact ⟨b, o, e, cell_later hb hc⟩

set_option maxHeartbeats 1000000 in
theorem checkList_any (a : Option Addr) (ss : List ByteArray) (n cap : Nat) (hn : Hid (ss.length = n)) (hm : n ≤ 9223372036854775807) (w : World) (hc : Hid (StrAt w a ss)) :
    Calls Try.prog 67 #[.slice a n cap] w fun e w' => e = .returned (.int .i64 (chkList ss)) ∧ Below w.heap.size w w' := by
  go_enter Try.func67, Try.ntmps67
  go_wp2
  go_loopw [8] (fun i wr => ∃ k : Nat, k ≤ n ∧ i = .int .i64 k ∧ Hid (chkAll (ss.take k) = 0 ∧ Below w.heap.size w wr)) (fun i _ => n - (intOf i).toNat)
  case atStart => exact ⟨0, Nat.zero_le _, rfl, rfl, Below.refl _ _⟩
  case round =>
    obtain ⟨k, hk, rfl, I⟩ := hrel
    by_cases hlt : k < n
    · have hk' : k < ss.length := by have := hn.out; omega
      obtain ⟨b, o, rfl, hcell⟩ := StrAt.later hc.out I.out.2 k hk'
      have HI : Hid (∀ h : k < ss.length, chkAll (ss.take k) = 0 → ¬ chk ss[k] = 0 → chkAll ss = chk ss[k]) := fun h a b => chkAll_found ss k h a b
      have HT : Hid (chkAll (ss.take (k + 1)) = chk ss[k]) := chkAll_take_succ ss k hk' I.out.1
      obtain ⟨s, hs⟩ : ∃ s, ss[k] = s := ⟨_, rfl⟩
      rw [hs] at hcell
      have HS : Hid (ss[k] = s) := hs
      clear hs
      go_wp2_with fail
      refine Calls.mono (Check_any s _) ?_
      rintro e w1 ⟨rfl, hb1⟩
      have HB : Hid (Below w.heap.size w w1) := chain I.out.2 hb1
      clear hb1
      by_cases h0 : chk s = 0
      · have hz : (chk s != 0) = false := by simp [h0]
        have H0 : Hid (chk s = 0) := h0
        clear h0
        go_wp2
        go_roundw
        case rel => exact ⟨k + 1, by omega, by go_num, by rw [HT.out, HS.out]; exact H0.out, HB.out⟩
        case measure => simp [intOf]; omega
      · have hz : (chk s != 0) = true := by simp [h0]
        have fin : Hid (chkList ss = chk s) := by
          show chkList ss = chk s
          have q := HI.out hk' I.out.1 (by rw [HS.out]; exact h0)
          rw [HS.out] at q
          unfold chkList; rw [q, if_neg h0]
        clear h0
        go_wp2
        go_ret
        exact ⟨ret_i64 fin.out.symm, HB.out⟩
    · have hkn : k = n := by omega
      subst hkn
      have CA : Hid (chkAll ss = 0) := by
        have := I.out.1; rw [List.take_of_length_le (by have := hn.out; omega)] at this; exact this
      by_cases h1 : k ≤ 100
      · have hg : ¬ (100 : Int) < (k : Int) := by omega
        have fin : Hid (chkList ss = 0) := by show chkList ss = 0; unfold chkList; rw [if_pos CA.out, if_pos (by have := hn.out; omega)]
        go_wp2
        go_ret
        exact ⟨ret_i64 fin.out.symm, I.out.2⟩
      · have hg : (100 : Int) < (k : Int) := by omega
        have fin : Hid (chkList ss = 2) := by show chkList ss = 2; unfold chkList; rw [if_pos CA.out, if_neg (by have := hn.out; omega)]
        go_wp2
        go_ret
        exact ⟨ret_i64 fin.out.symm, I.out.2⟩

end Go.Proofs.Ytdebfelgaiofeaa
