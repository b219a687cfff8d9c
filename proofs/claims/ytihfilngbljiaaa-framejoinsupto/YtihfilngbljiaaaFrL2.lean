/- FrameJoins: the frames of two lists are those of the one, and behind them those of the other. -/
import Derived.Test.YtihfilngbljiaaaFrS
namespace Go.Proofs.Ytihfilngbljiaaa
open Go.RowKit Go.Proofs.Fd Go.Proofs.Fr
set_option maxRecDepth 20000

def fitB (ks : List ByteArray) : Bool := ks.all fun s => decide (s.size ≤ 4096)
theorem fitB_iff (ks : List ByteArray) : fitB ks = true ↔ fits ks := by
  unfold fitB fits
  rw [List.all_eq_true]
  exact ⟨fun h s hs => of_decide_eq_true (h s hs), fun h s hs => decide_eq_true (h s hs)⟩
theorem fitB_app (a b : List ByteArray) : fitB (a ++ b) = (fitB a && fitB b) := by unfold fitB; rw [List.all_append]
theorem frs_app (a b : List ByteArray) : frs (a ++ b) = frs a ++ frs b := by unfold frs; rw [List.flatMap_append]
def ofS (ks : List ByteArray) : ByteArray := if fitB ks = true then ⟨(frs ks).toArray⟩ else ⟨#[]⟩
def ofE (ks : List ByteArray) : Int := if fitB ks = true then 0 else 2
theorem of_yes {ks : List ByteArray} (h : fitB ks = true) : ofS ks = ⟨(frs ks).toArray⟩ ∧ ofE ks = 0 := ⟨if_pos h, if_pos h⟩
theorem of_not {ks : List ByteArray} (h : fitB ks = false) : ofS ks = ⟨#[]⟩ ∧ ofE ks = 2 := ⟨if_neg (by rw [h]; simp), if_neg (by rw [h]; simp)⟩
theorem Of_all (a : Option Addr) (ks : List ByteArray) (n cap : Nat) (hn : ks.length = n) (hn63 : n < 9223372036854775807) (hz : (frs ks).length ≤ 140737488355328) (w : World) (hc : StrAt w a ks) :
    Calls Try.prog 8 #[.slice a n cap] w fun e w' => e = .returned (.tuple #[.string (ofS ks), .int .i64 (ofE ks)]) ∧ Below w.heap.size w w' := by
  by_cases h : fitB ks = true
  · rw [(of_yes h).1, (of_yes h).2]
    exact Of_ok a ks n cap hn hn63 ((fitB_iff ks).1 h) hz w hc
  · have h' : fitB ks = false := by simpa using h
    rw [(of_not h').1, (of_not h').2]
    exact Of_no a ks n cap hn hn63 (fun z => h ((fitB_iff ks).2 z)) w hc
set_option maxHeartbeats 1000000 in
theorem FrameJoins_walk (a : Option Addr) (ks : List ByteArray) (n cap : Nat) (a2 : Option Addr) (ks2 : List ByteArray) (n2 cap2 : Nat) (hn : Hid (ks.length = n)) (ha : Hid (a = none → n = 0 ∧ cap = 0)) (hn2 : Hid (ks2.length = n2)) (ha2 : Hid (a2 = none → n2 = 0 ∧ cap2 = 0)) (hz : (frs ks).length + (frs ks2).length ≤ 10485760) (hm : n + n2 ≤ 1048576) (w : World) (hc : Hid (StrAt w a ks)) (hc2 : Hid (StrAt w a2 ks2)) :
    Calls Try.prog 7 #[.slice a n cap, .slice a2 n2 cap2] w fun e w' => e = .returned (.bool true) ∧ Below w.heap.size w w' := by
  have HZ : Hid ((frs ks).length ≤ 10485760 ∧ (frs ks2).length ≤ 10485760 ∧ (frs (ks ++ ks2)).length ≤ 10485760) := ⟨by omega, by omega, by rw [frs_app, List.length_append]; exact hz⟩
  clear hz
  go_enter Try.func7, Try.ntmps7
  go_wp2_with fail
  refine Calls.mono (works_any w) ?_
  rintro e w1 ⟨rfl, hb1⟩
  have B1 : Hid (Below w.heap.size w w1) := hb1
  clear hb1
  go_wp2_with fail
  refine Calls.mono (Of_all a ks n cap hn.out (by omega) (by have := HZ.out; omega) w1 (hc.out.later B1.out rfl)) ?_
  rintro e w2 ⟨rfl, hb2⟩
  have B2 : Hid (Below w.heap.size w w2) := chain B1.out hb2
  clear hb2 B1
  go_wp2_with fail
  refine Calls.mono (Of_all a2 ks2 n2 cap2 hn2.out (by omega) (by have := HZ.out; omega) w2 (hc2.out.later B2.out rfl)) ?_
  rintro e w3 ⟨rfl, hb3⟩
  have B3 : Hid (Below w.heap.size w w3) := chain B2.out hb3
  clear hb3 B2
  obtain ⟨v1, x1, v2, x2, a3, cap3, hr1, hr2, hb4, rfl, hs4, hl4⟩ := join_strs w3 22 22 a ks n cap hn.out ha.out (hc.out.later B3.out rfl) a2 ks2 n2 cap2 hn2.out ha2.out (hc2.out.later B3.out rfl) (by omega)
  have HR : Hid ((Builtin.append_ #[22, 22] 22 #[.slice (some ⟨w3.heap.size, 0, none⟩) 0 0, .slice a n cap]).run Try.prog (w3.alloc (.cells #[] 9)) = .ok v1 x1 ∧ (Builtin.append_ #[22, 22] 22 #[v1, .slice a2 n2 cap2]).run Try.prog x1 = .ok (.slice a3 (n + n2) cap3) x2) := ⟨hr1, hr2⟩
  have B4 : Hid (Below w.heap.size w x2 ∧ StrAt x2 a3 (ks ++ ks2) ∧ (ks ++ ks2).length = n + n2) := ⟨chain B3.out hb4, hs4, hl4⟩
  clear hr1 hr2 hb4 hs4 hl4
  go_wp2_with (first
    | (at_builtin; refine Go.Lib.wpList_append_run _ rfl _ _ _ _ rfl _ _ rfl rfl _ _ HR.out.1 ?_)
    | (at_builtin; refine Go.Lib.wpList_append_run _ rfl _ _ _ _ rfl _ _ rfl rfl _ _ HR.out.2 ?_))
  refine Calls.mono (Of_all a3 (ks ++ ks2) (n + n2) cap3 B4.out.2.2 (by omega) (by have := HZ.out; omega) x2 B4.out.2.1) ?_
  rintro e w5 ⟨rfl, hb5⟩
  have B5 : Hid (Below w.heap.size w w5) := chain B4.out.1 hb5
  clear hb5 B4 HR B3
  by_cases f1 : fitB ks = true
  · by_cases f2 : fitB ks2 = true
    · obtain ⟨s1, s2⟩ := of_yes f1
      obtain ⟨s3, s4⟩ := of_yes f2
      obtain ⟨s5, s6⟩ := of_yes (ks := ks ++ ks2) (by rw [fitB_app, f1, f2]; rfl)
      rw [s1, s2, s3, s4, s5, s6]
      clear s1 s2 s3 s4 s5 s6 f1 f2
      obtain ⟨v1, x1, v2, x2, a3, cap3, hr1, hr2, hb6, rfl, hs6, hl6⟩ := join_strs w5 22 22 a ks n cap hn.out ha.out (hc.out.later B5.out rfl) a2 ks2 n2 cap2 hn2.out ha2.out (hc2.out.later B5.out rfl) (by omega)
      have HR : Hid ((Builtin.append_ #[22, 22] 22 #[.slice (some ⟨w5.heap.size, 0, none⟩) 0 0, .slice a n cap]).run Try.prog (w5.alloc (.cells #[] 9)) = .ok v1 x1 ∧ (Builtin.append_ #[22, 22] 22 #[v1, .slice a2 n2 cap2]).run Try.prog x1 = .ok (.slice a3 (n + n2) cap3) x2) := ⟨hr1, hr2⟩
      obtain ⟨M, hM⟩ : ∃ M, n + n2 = M := ⟨_, rfl⟩
      obtain ⟨l, hl⟩ : ∃ l, ks ++ ks2 = l := ⟨_, rfl⟩
      have B6 : Hid (Below w.heap.size w x2 ∧ StrAt x2 a3 l ∧ l.length = M) := ⟨chain B5.out hb6, hl ▸ hs6, by rw [← hl, ← hM]; exact hl6⟩
      have HZ2 : Hid ((frs l).length ≤ 10485760 ∧ frs l = frs ks ++ frs ks2) := ⟨hl ▸ HZ.out.2.2, by rw [← hl]; exact frs_app ks ks2⟩
      rw [hM] at HR
      have hM2 : M ≤ 1048576 := by omega
      rw [hl]
      clear hr1 hr2 hb6 hs6 hl6 hM B5 hl HZ
      go_wp2_with (first
        | (at_builtin; refine Go.Lib.wpList_append_run _ rfl _ _ _ _ rfl _ _ rfl rfl _ _ HR.out.1 ?_)
        | (at_builtin; refine Go.Lib.wpList_append_run _ rfl _ _ _ _ rfl _ _ rfl rfl _ _ HR.out.2 ?_))
      clear HR
      go_loopw [11, 49] (fun L i wr => ∃ k : Nat, k ≤ M ∧ i = .int .i64 (k : Int) ∧ L = .int .i64 ((frs (l.take k)).length : Int) ∧ x2 = wr) (fun _ i _ => M - (intOf i).toNat)
      case atStart => exact ⟨0, Nat.zero_le _, rfl, rfl, rfl⟩
      case round =>
        obtain ⟨k, hk1, rfl, rfl, hw⟩ := hrel
        subst hw
        by_cases hlt : k < M
        · have hk' : k < l.length := by have := B6.out.2.2; omega
          obtain ⟨b, o, rfl, hcell⟩ := B6.out.2.1 k hk'
          obtain ⟨s, hs⟩ : ∃ s, l[k] = s := ⟨_, rfl⟩
          have HF : Hid ((frs (l.take (k + 1))).length = (frs (l.take k)).length + (4 + s.size)) := by
            show _ = _
            rw [frs_step l k hk', List.length_append, one_len, hs]; simp
          have HY : Hid ((frs (l.take (k + 1))).length ≤ 10485760) := Nat.le_trans (frs_le l _) HZ2.out.1
          rw [hs] at hcell
          obtain ⟨c, hcc⟩ : ∃ c, (frs (l.take k)).length = c := ⟨_, rfl⟩
          obtain ⟨c2, hcc2⟩ : ∃ c, (frs (l.take (k + 1))).length = c := ⟨_, rfl⟩
          rw [hcc, hcc2] at HF
          rw [hcc2] at HY
          have q0 := HF.out
          have q1 := HY.out
          have z1 : IntKind.i64.wrap (4 + (s.size : Int)) = 4 + (s.size : Int) := by rw [IntKind.wrap_i64]; omega
          have z2 : IntKind.i64.wrap ((c : Int) + (4 + (s.size : Int))) = (c2 : Int) := by rw [IntKind.wrap_i64]; omega
          have g1 : (k : Int) < (M : Int) := by omega
          have HC2 : Hid ((frs (l.take (k + 1))).length = c2) := hcc2
          rw [hcc]
          clear q0 q1 hcc hcc2 hs
          go_wp2
          go_roundw
          case rel => exact ⟨k + 1, by omega, by go_num, by rw [HC2.out], trivial⟩
          case measure => simp [intOf]; omega
        · obtain rfl : k = M := by omega
          have e0 : frs (l.take k) = frs l := by rw [List.take_of_length_le (by rw [B6.out.2.2]; exact Nat.le_refl _)]
          rw [e0]
          obtain ⟨xS, hX⟩ : ∃ s, (⟨(frs ks).toArray⟩ : ByteArray) = s := ⟨_, rfl⟩
          obtain ⟨yS, hY⟩ : ∃ s, (⟨(frs ks2).toArray⟩ : ByteArray) = s := ⟨_, rfl⟩
          obtain ⟨zS, hS⟩ : ∃ s, (⟨(frs l).toArray⟩ : ByteArray) = s := ⟨_, rfl⟩
          have l0 : zS.size = (frs l).length := by rw [← hS]; simp [ByteArray.size]
          have l1 : xS.size = (frs ks).length := by rw [← hX]; simp [ByteArray.size]
          have l2 : yS.size = (frs ks2).length := by rw [← hY]; simp [ByteArray.size]
          have l3 : (frs l).length = (frs ks).length + (frs ks2).length := by rw [HZ2.out.2, List.length_append]
          have l4 := HZ2.out.1
          have AD : xS ++ yS = zS := by
            rw [← hX, ← hY, ← hS, HZ2.out.2]
            apply ByteArray.ext
            simp
          have HA : ∀ w, (Op.stringOp .add xS yS).run Try.prog w = .ok (.string zS) w := fun w => by
            rw [run_string_add_sum (P := Try.prog) w xS yS (by omega), AD]
          have g1 : ((frs l).length : Int) = (zS.size : Int) := by omega
          rw [hX, hY, hS, g1]
          clear e0 hX hY hS l0 l1 l2 l3 l4 AD g1
          go_wp2
          go_ret
          exact ⟨by simp, B6.out.1⟩
    · have f2' : fitB ks2 = false := by simpa using f2
      obtain ⟨s1, s2⟩ := of_yes f1
      obtain ⟨s3, s4⟩ := of_not f2'
      obtain ⟨s5, s6⟩ := of_not (ks := ks ++ ks2) (by rw [fitB_app, f1, f2']; rfl)
      rw [s1, s2, s3, s4, s5, s6]
      clear s1 s2 s3 s4 s5 s6 f1 f2 f2'
      go_wp2
      go_ret
      exact ⟨rfl, B5.out⟩
  · have f1' : fitB ks = false := by simpa using f1
    obtain ⟨s1, s2⟩ := of_not f1'
    obtain ⟨s5, s6⟩ := of_not (ks := ks ++ ks2) (by rw [fitB_app, f1']; rfl)
    rw [s1, s2, s5, s6]
    clear s1 s2 s5 s6 f1 f1'
    go_wp2
    go_ret
    exact ⟨rfl, B5.out⟩
end Go.Proofs.Ytihfilngbljiaaa
