/- Chains of scalars: the program's and the document's answer at every list. -/
import Derived.Test.YtdebfelgaiofeaaD5
import Derived.Test.YtdebfelgaiofeaaC11
namespace Go.Proofs.Ytdebfelgaiofeaa
open Go.RowKit Go.Proofs.Fd Go.Proofs.Ed

/-- What a chain answers at whatever bytes. -/
def chA (u : ByteArray) (ks : List ByteArray) : Array Value :=
  if u.size = 32 ∧ wh ks = true then (if 16 < ks.length then #[.string ⟨#[]⟩, .int .i64 2] else och (chn ks u)) else #[.string ⟨#[]⟩, .int .i64 3]

set_option maxHeartbeats 1000000 in
theorem Chain_all (u : ByteArray) (a : Option Addr) (ks : List ByteArray) (n cap : Nat) (hn : Hid (ks.length = n)) (hn63 : n ≤ 9223372036854775807) (w : World) (hc : Hid (StrAt w a ks)) :
    Calls Try.prog 18 #[.string u, .slice a n cap] w fun e w' => e = .returned (.tuple (chA u ks)) ∧ Below w.heap.size w w' := by
  by_cases hu : u.size = 32
  · by_cases hw : wh ks = true
    · by_cases h16 : n ≤ 16
      · have e : chA u ks = och (chn ks u) := by unfold chA; rw [if_pos ⟨hu, hw⟩, if_neg (by have := hn.out; omega)]
        rw [e]
        exact Chain_walk u hu a ks n cap hn h16 hw w hc
      · have e : chA u ks = #[.string ⟨#[]⟩, .int .i64 2] := by unfold chA; rw [if_pos ⟨hu, hw⟩, if_pos (by have := hn.out; omega)]
        rw [e]
        have hd : decide (u.size = 32) = true := by simpa using hu
        have hg : (16 : Int) < (n : Int) := by omega
        go_enter Try.func18, Try.ntmps18
        go_wp2_with fail
        refine Calls.mono (whole1_any u w.heap.size _ (by simp [go_sem])) ?_
        rintro e w1 ⟨rfl, hb⟩
        rw [hd]
        have B1 : Hid (Below w.heap.size w w1) := chain ((Below.refl _ _).alloc (Nat.le_refl _) _) hb
        clear hb
        go_wp2_with fail
        refine Calls.mono (whole_any a ks n cap hn (by omega) _ (hc.out.later B1.out)) ?_
        rintro e w2 ⟨rfl, hb⟩
        rw [hw]
        have B2 : Hid (Below w.heap.size w w2) := chain B1.out hb
        clear hb
        go_wp2
        go_ret2
        exact ⟨rfl, B2.out⟩
    · have hw' : wh ks = false := by simpa using hw
      have e : chA u ks = #[.string ⟨#[]⟩, .int .i64 3] := by unfold chA; rw [if_neg (fun h => hw h.2)]
      rw [e]
      have hd : decide (u.size = 32) = true := by simpa using hu
      clear hw
      go_enter Try.func18, Try.ntmps18
      go_wp2_with fail
      refine Calls.mono (whole1_any u w.heap.size _ (by simp [go_sem])) ?_
      rintro e w1 ⟨rfl, hb⟩
      rw [hd]
      have B1 : Hid (Below w.heap.size w w1) := chain ((Below.refl _ _).alloc (Nat.le_refl _) _) hb
      clear hb
      go_wp2_with fail
      refine Calls.mono (whole_any a ks n cap hn (by omega) _ (hc.out.later B1.out)) ?_
      rintro e w2 ⟨rfl, hb⟩
      rw [hw']
      have B2 : Hid (Below w.heap.size w w2) := chain B1.out hb
      clear hb
      go_wp2
      go_ret2
      exact ⟨rfl, B2.out⟩
  · have e : chA u ks = #[.string ⟨#[]⟩, .int .i64 3] := by unfold chA; rw [if_neg (fun h => hu h.1)]
    rw [e]
    have hd : decide (u.size = 32) = false := by simpa using hu
    clear hu
    go_enter Try.func18, Try.ntmps18
    go_wp2_with fail
    refine Calls.mono (whole1_any u w.heap.size _ (by simp [go_sem])) ?_
    rintro e w1 ⟨rfl, hb⟩
    rw [hd]
    have B1 : Hid (Below w.heap.size w w1) := chain ((Below.refl _ _).alloc (Nat.le_refl _) _) hb
    clear hb
    go_wp2
    go_ret2
    exact ⟨rfl, B1.out⟩

set_option maxHeartbeats 1000000 in
theorem rChain_all (u : ByteArray) (a : Option Addr) (ks : List ByteArray) (n cap : Nat) (hn : Hid (ks.length = n)) (hn63 : n ≤ 9223372036854775807) (w : World) (hc : Hid (StrAt w a ks)) :
    Calls Try.prog 19 #[.string u, .slice a n cap] w fun e w' => e = .returned (.tuple (chA u ks)) ∧ Below w.heap.size w w' := by
  by_cases hu : u.size = 32
  · have hz1 : ((u.size : Int) != 32) = false := by simp [hu]
    go_enter Try.func19, Try.ntmps19
    go_wp2
    go_loopw [6] (fun i wr => ∃ k : Nat, k ≤ n ∧ i = .int .i64 (k : Int) ∧ Hid (wh (ks.take k) = true ∧ Below w.heap.size w wr)) (fun i _ => n - (intOf i).toNat)
    case atStart => exact ⟨0, Nat.zero_le _, rfl, rfl, Below.refl _ _⟩
    case round =>
      obtain ⟨k, hk, rfl, I⟩ := hrel
      by_cases hlt : k < n
      · have hk' : k < ks.length := by have := hn.out; omega
        obtain ⟨b, o, rfl, hcell⟩ := StrAt.later hc.out I.out.2 k hk'
        have HT : Hid (ks[k].size = 32 → wh (ks.take (k + 1)) = true) := fun h => wh_take hk' I.out.1 h
        have HN : Hid (¬ ks[k].size = 32 → wh ks = false) := fun h => wh_not hk' h
        generalize ks[k] = s at *
        by_cases h0 : s.size = 32
        · have hz : ((s.size : Int) != 32) = false := by simp [h0]
          have FIN : Hid (wh (ks.take (k + 1)) = true) := HT.out h0
          clear h0
          go_wp2
          go_roundw
          case rel => exact ⟨k + 1, by omega, by go_num, FIN.out, I.out.2⟩
          case measure => simp [intOf]; omega
        · have hz : ((s.size : Int) != 32) = true := by simp; omega
          have FIN : Hid (chA u ks = #[.string ⟨#[]⟩, .int .i64 3]) := by
            have h := HN.out h0
            show _ = _
            unfold chA
            rw [if_neg (fun q => by rw [h] at q; exact absurd q.2 (by decide))]
          clear h0
          go_wp2
          go_ret2
          exact ⟨by rw [FIN.out]; rfl, I.out.2⟩
      · have hkn : k = n := by omega
        subst hkn
        have CA : Hid (wh ks = true) := by
          have := I.out.1; rw [List.take_of_length_le (by have := hn.out; omega)] at this; exact this
        by_cases h16 : k ≤ 16
        · have E : Hid (chA u ks = och (chn ks u)) := by
            show _ = _
            unfold chA; rw [if_pos ⟨hu, CA.out⟩, if_neg (by have := hn.out; omega)]
          have hg : ¬ (16 : Int) < (k : Int) := by omega
          have UU : Hid (u.size = 32) := hu
          clear hu hz1
          go_wp2
          go_loopw [0, 7] (fun at_ i wx => ∃ (j : Nat) (v : ByteArray), j ≤ k ∧ i = .int .i64 (j : Int) ∧ at_ = .string v ∧ Hid (v.size = 32 ∧ chn (ks.take j) u = some v ∧ Below w.heap.size w wx)) (fun _ i _ => k - (intOf i).toNat)
          case atStart => exact ⟨0, u, Nat.zero_le _, rfl, rfl, UU.out, rfl, I.out.2⟩
          case round =>
            obtain ⟨j, v, hj, rfl, rfl, J⟩ := hrel
            by_cases hlt2 : j < k
            · have hk' : j < ks.length := by have := hn.out; omega
              obtain ⟨b, o, rfl, hcell⟩ := StrAt.later hc.out J.out.2.2 j hk'
              have HTT := chn_step ks u v j hk' J.out.2.1
              have HK : Hid (ks[j].size = 32) := wh_mem CA.out j hk'
              generalize ks[j] = x at *
              by_cases h0 : tm x v = 0
              · rw [if_pos h0] at HTT
                have FIN : Hid (chn ks u = none) := chn_none_le ks u (j + 1) HTT
                have H0 : Hid (tm x v = 0) := h0
                clear HTT h0
                go_wp2_with fail
                refine Calls.mono (rShared_weak x v HK.out J.out.1 H0.out _) ?_
                rintro e w5 ⟨rfl, hb⟩
                have B5 : Hid (Below w.heap.size w w5) := chain J.out.2.2 hb
                clear hb
                go_wp2
                go_ret2
                exact ⟨by rw [E.out, FIN.out]; rfl, B5.out⟩
              · rw [if_neg h0] at HTT
                have H0 : Hid (tm x v ≠ 0 ∧ chn (ks.take (j + 1)) u = some (ek (tm x v))) := ⟨h0, HTT⟩
                clear HTT h0
                go_wp2_with fail
                refine Calls.mono (rShared_ok x v HK.out J.out.1 H0.out.1 _) ?_
                rintro e w5 ⟨rfl, hb⟩
                have B5 : Hid (Below w.heap.size w w5) := chain J.out.2.2 hb
                clear hb
                go_wp2
                go_roundw
                case rel => exact ⟨j + 1, ek (tm x v), by omega, by go_num, rfl, ek_size _, H0.out.2, B5.out⟩
                case measure => simp [intOf]; omega
            · have hjn : j = k := by omega
              subst hjn
              have FIN : Hid (chn ks u = some v) := by
                have := J.out.2.1
                rw [List.take_of_length_le (by have := hn.out; omega)] at this
                exact this
              go_wp2
              go_ret2
              exact ⟨by rw [E.out, FIN.out]; rfl, J.out.2.2⟩
        · have E : Hid (chA u ks = #[.string ⟨#[]⟩, .int .i64 2]) := by
            show _ = _
            unfold chA; rw [if_pos ⟨hu, CA.out⟩, if_pos (by have := hn.out; omega)]
          have hg : (16 : Int) < (k : Int) := by omega
          go_wp2
          go_ret2
          exact ⟨by rw [E.out]; rfl, I.out.2⟩
  · have e : chA u ks = #[.string ⟨#[]⟩, .int .i64 3] := by unfold chA; rw [if_neg (fun h => hu h.1)]
    rw [e]
    have hz1 : ((u.size : Int) != 32) = true := by simp; omega
    clear hu e
    go_enter Try.func19, Try.ntmps19
    go_wp2
    go_ret2
    exact ⟨rfl, Below.refl _ _⟩
end Go.Proofs.Ytdebfelgaiofeaa
