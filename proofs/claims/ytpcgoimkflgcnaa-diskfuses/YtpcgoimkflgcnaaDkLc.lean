/- DiskFuses. -/
import Derived.Test.YtpcgoimkflgcnaaDkLb
namespace Go.Proofs.Ytpcgoimkflgcnaa
open Go.RowKit Go.Proofs.Fd Go.Proofs.Dk
set_option maxRecDepth 20000

/-- A disk of four sectors, whose fuse was N, behind i writes and syncs. -/
structure Fs (N i : Nat) (s : St) : Prop where
  n : s.n = 4
  fu : s.fuse = N - i
  dn : s.down = decide (N ≤ i)
  l : s.l.length ≤ i
def fsE (N i : Nat) : Int := if i + 1 < N then 0 else 150
theorem Fs.down {N i : Nat} {s : St} (h : Fs N i s) (hN : N ≤ i) : s.down = true := by rw [h.dn]; exact decide_eq_true hN
theorem Fs.up {N i : Nat} {s : St} (h : Fs N i s) (hN : i < N) : s.down = false := by rw [h.dn]; exact decide_eq_false (by omega)
theorem Fs.brn {N i : Nat} {s : St} (h : Fs N i s) (hN : i < N) : (brnS s).n = 4 ∧ (brnS s).fuse = N - (i + 1) ∧ (brnS s).down = decide (N ≤ i + 1) := by
  refine ⟨h.n, ?_, ?_⟩
  · show s.fuse - 1 = _
    rw [h.fu]
    omega
  · show decide (s.fuse = 1) = _
    rw [h.fu]
    by_cases c : N ≤ i + 1
    · rw [decide_eq_true c]
      exact decide_eq_true (by omega)
    · rw [decide_eq_false c]
      exact decide_eq_false (by omega)
theorem Fs.stay {N i : Nat} {s : St} (h : Fs N i s) (hN : N ≤ i) : Fs N (i + 1) s :=
  ⟨h.n, by rw [h.fu]; omega, by rw [h.down hN]; exact (decide_eq_true (by omega)).symm, by have := h.l; omega⟩
theorem Fs.sync {N i : Nat} {s : St} (h : Fs N i s) : syE s = fsE N i ∧ Fs N (i + 1) (syS s) := by
  unfold syE syS fsE
  by_cases hN : N ≤ i
  · rw [if_pos (h.down hN), if_pos (h.down hN), if_neg (by omega)]
    exact ⟨rfl, h.stay hN⟩
  · have hd : ¬ s.down = true := by rw [h.up (by omega)]; simp
    obtain ⟨b1, b2, b3⟩ := h.brn (by omega)
    rw [if_neg hd, if_neg hd]
    by_cases h1 : s.fuse = 1
    · rw [if_pos h1, if_pos h1, if_neg (by rw [h.fu] at h1; omega)]
      exact ⟨rfl, ⟨b1, b2, b3, by show s.l.length ≤ _; have := h.l; omega⟩⟩
    · rw [if_neg h1, if_neg h1, if_pos (by rw [h.fu] at h1; omega)]
      exact ⟨rfl, ⟨b1, b2, b3, Nat.zero_le _⟩⟩
theorem Fs.write {N i : Nat} {s : St} (h : Fs N i s) (k : Nat) (hk : k < 4) (t : Bs) (ht : t.length = 64) : wrE s (k : Int) t = fsE N i ∧ Fs N (i + 1) (wrS s (k : Int) t) := by
  by_cases hN : N ≤ i
  · have hr : rch s (k : Int) = 150 := if_pos (h.down hN)
    have hne : rch s (k : Int) ≠ 0 := by rw [hr]; decide
    rw [(wrE_reach hne).1, (wrE_reach hne).2, hr]
    unfold fsE
    rw [if_neg (by omega)]
    exact ⟨rfl, h.stay hN⟩
  · have hr : rch s (k : Int) = 0 := by
      unfold rch
      rw [if_neg (by rw [h.up (by omega)]; simp), if_neg (by rw [h.n]; omega)]
    obtain ⟨b1, b2, b3⟩ := h.brn (by omega)
    by_cases h1 : s.fuse = 1
    · rw [(wrE_fuse hr ht h1).1, (wrE_fuse hr ht h1).2]
      unfold fsE
      rw [if_neg (by rw [h.fu] at h1; omega)]
      exact ⟨rfl, ⟨b1, b2, b3, by show s.l.length ≤ _; have := h.l; omega⟩⟩
    · rw [(wrE_ok hr ht h1).1, (wrE_ok hr ht h1).2]
      unfold fsE
      rw [if_pos (by rw [h.fu] at h1; omega)]
      refine ⟨rfl, ⟨b1, b2, b3, ?_⟩⟩
      show (s.l ++ [_]).length ≤ _
      rw [List.length_append]
      have := h.l
      simp
      omega
theorem Fs.start (N : Nat) (h1 : 1 ≤ N) (h2 : N ≤ 30) : fuE (St.init 4) (N : Int) = 0 ∧ Fs N 0 (fuS (St.init 4) (N : Int)) := by
  have hd : ¬ (St.init 4).down = true := by decide
  have hc : ¬ ((N : Int) < 0 ∨ (1048576 : Int) < (N : Int)) := by omega
  unfold fuE fuS
  rw [if_neg hd, if_neg hd, if_neg hc, if_neg hc]
  exact ⟨rfl, ⟨rfl, by show (N : Int).toNat = _; omega, by rw [decide_eq_false (by omega)]; rfl, Nat.zero_le _⟩⟩
set_option maxHeartbeats 2000000 in
theorem DiskFuses_walk (n0 : Int) (a : Option Addr) (ks : List ByteArray) (len cap : Nat) (hn : ks.length = len) (w : World) (h : Hid (StrAt w a ks)) :
    Calls Try.prog 6 #[.int .i64 n0, .slice a len cap] w fun e w' => e = .returned (.bool true) ∧ Below w.heap.size w w' := by
  have HN : Hid (ks.length = len) := hn
  have NW : Hid _ := newL w w 4 (by decide) (by decide) (Below.refl _ _)
  have WK : Hid (∀ w, _) := works_any
  obtain ⟨m, hm30, -, AM'⟩ := among_is n0 30 (by decide) (by decide)
  have AM : Hid _ := AM'
  clear hn AM'
  obtain ⟨N, hN⟩ : ∃ N, 1 + m = N := ⟨_, rfl⟩
  have hN1 : 1 ≤ N := by omega
  have hN2 : N ≤ 30 := by omega
  have zN : (1 : Int) + (m : Int) = (N : Int) := by omega
  clear hN
  go_enter Try.func6, Try.ntmps6
  go_wp2_with fail
  refine Calls.mono NW.out ?_
  rintro e w1 ⟨p, F, rfl, I1, -, -⟩
  have J1 : Hid _ := I1
  clear NW I1
  go_wp2_with fail
  refine Calls.mono (WK.out _) ?_
  rintro e w2 ⟨rfl, hb⟩
  have J2 : Hid _ := J1.out.later hb
  clear J1 hb WK
  go_wp2_with fail
  refine Calls.mono (AM.out _) ?_
  rintro e w3 ⟨rfl, rfl⟩
  clear AM
  go_wp2_with fail
  refine Calls.mono (fuseL w w3 p F _ (N : Int) J2.out) ?_
  rintro e w4 ⟨rfl, F4, I4, -, -⟩
  have J4 : Hid (∃ s, Dl w w4 p F4 s ∧ Fs N 0 s) := ⟨_, I4, (Fs.start N hN1 hN2).2⟩
  rw [(Fs.start N hN1 hN2).1]
  clear J2 I4
  go_upto_block 0 with fail
  go_cut [7, 8, 9] (fun s7 s8 s9 wx => ∃ (k : Nat) (F : Nat → Prop) (s : St), k ≤ 60 ∧ s7 = .int .i64 (k : Int) ∧ Hid (Dl w wx p F s ∧ Fs N k s))
  case first =>
    go_wp2_with fail
    go_loopw [7, 8] (fun d i wr => ∃ (k : Nat) (F : Nat → Prop) (s : St), k ≤ len ∧ k ≤ 60 ∧ i = .int .i64 (k : Int) ∧ d = .int .i64 (k : Int) ∧ Hid (Dl w wr p F s ∧ Fs N k s)) (fun d i wr => 60 - (intOf i).toNat)
    case atStart =>
      obtain ⟨s, h1, h2⟩ := J4.out
      exact ⟨0, F4, s, Nat.zero_le _, Nat.zero_le _, rfl, rfl, h1, h2⟩
    case round =>
      obtain ⟨k, F, s, hk, hk60, rfl, rfl, I⟩ := hrel
      clear J4
      by_cases hl1 : k < len
      · by_cases hl2 : k < 60
        · have g1 : (k : Int) < (len : Int) := by omega
          have g2 : (k : Int) < 60 := by omega
          have hkl : k < ks.length := by have := HN.out; omega
          have HL : Hid (s.l.length ≤ 1000000) := by have := I.out.2.l; exact (show s.l.length ≤ 1000000 by omega)
          by_cases h3 : (k : Int) % 3 = 2
          · have CS : Hid _ := syncL w wr p F s HL.out I.out.1
            have FS := I.out.2.sync
            have E1 := FS.1
            rw [E1] at CS
            have FS2 : Hid _ := FS.2
            clear FS E1
            go_wp2_with fail
            refine Calls.mono CS.out ?_
            rintro e w5 ⟨rfl, F5, k1, -, -⟩
            have I5 : Hid (Dl w w5 p F5 (syS s) ∧ Fs N (k + 1) (syS s)) := ⟨k1, FS2.out⟩
            clear I CS k1 FS2
            by_cases hlt : k + 1 < N
            · have e1 : fsE N k = 0 := if_pos hlt
              have g4 : (k : Int) + 1 < (N : Int) := by omega
              rw [e1]
              clear e1
              go_wp2
              go_roundw
              case rel => exact ⟨k + 1, F5, _, by omega, by omega, by go_num, by go_num, I5.out⟩
              case measure => simp [intOf]; omega
            · have e1 : fsE N k = 150 := if_neg hlt
              have g4 : ¬ (k : Int) + 1 < (N : Int) := by omega
              rw [e1]
              clear e1
              go_wp2
              go_roundw
              case rel => exact ⟨k + 1, F5, _, by omega, by omega, by go_num, by go_num, I5.out⟩
              case measure => simp [intOf]; omega
          · obtain ⟨b, o, rfl, c0⟩ := (h.out.later I.out.1.below) k hkl
            obtain ⟨x, hx⟩ : ∃ x, ks[k] = x := ⟨_, rfl⟩
            rw [hx] at c0
            clear hx
            have SX : Hid (∀ w, _) := sector_any x
            have LS : Hid _ := sec_len x.data.toList
            obtain ⟨S, hS⟩ : ∃ S, sec x.data.toList = S := ⟨_, rfl⟩
            rw [hS] at SX LS
            clear hS
            have z8 : (k : Int) % 4 = ((k % 4 : Nat) : Int) := by omega
            obtain ⟨r, hr⟩ : ∃ r, k % 4 = r := ⟨_, rfl⟩
            have hr4 : r < 4 := by omega
            rw [hr] at z8
            clear hr
            have FS := I.out.2.write r hr4 S LS.out
            have E1 : Hid _ := FS.1
            have FS2 : Hid _ := FS.2
            clear FS
            go_wp2_with fail
            refine Calls.mono (SX.out _) ?_
            rintro e w4 ⟨rfl, hb⟩
            have I2 : Hid (Dl w w4 p F s) := I.out.1.later hb
            clear I hb SX
            go_wp2_with fail
            refine Calls.mono (writeL w w4 p F s (r : Int) (st S) HL.out I2.out) ?_
            rintro e w5 ⟨rfl, F5, k1, -, -⟩
            have I5 : Hid (Dl w w5 p F5 (wrS s (r : Int) S) ∧ Fs N (k + 1) (wrS s (r : Int) S)) := ⟨k1, FS2.out⟩
            rw [st_data, E1.out]
            clear I2 k1 FS2
            by_cases hlt : k + 1 < N
            · have e1 : fsE N k = 0 := if_pos hlt
              have g4 : (k : Int) + 1 < (N : Int) := by omega
              rw [e1]
              clear e1
              go_wp2
              go_roundw
              case rel => exact ⟨k + 1, F5, _, by omega, by omega, by go_num, by go_num, I5.out⟩
              case measure => simp [intOf]; omega
            · have e1 : fsE N k = 150 := if_neg hlt
              have g4 : ¬ (k : Int) + 1 < (N : Int) := by omega
              rw [e1]
              clear e1
              go_wp2
              go_roundw
              case rel => exact ⟨k + 1, F5, _, by omega, by omega, by go_num, by go_num, I5.out⟩
              case measure => simp [intOf]; omega
        · have g1 : (k : Int) < (len : Int) := by omega
          have g2 : ¬ (k : Int) < 60 := by omega
          go_wp2
          go_meet
          case rel => exact ⟨k, F, s, by omega, rfl, I.out⟩
      · have g1 : ¬ (k : Int) < (len : Int) := by omega
        go_wp2
        go_meet
        case rel => exact ⟨k, F, s, by omega, rfl, I.out⟩
  case rest =>
    obtain ⟨k, F, s, hk60, rfl, I⟩ := hcut
    clear J4
    by_cases hlt : k < N
    · have g4 : (k : Int) < (N : Int) := by omega
      have FF : Hid (Below w.heap.size w wc) := I.out.1.below
      clear I
      go_wp2
      go_ret
      exact ⟨rfl, FF.out⟩
    · have g4 : ¬ (k : Int) < (N : Int) := by omega
      have HD : Hid (s.down = true) := I.out.2.down (by omega)
      have HS : Hid (s.n = 4) := I.out.2.n
      have HL : Hid (s.l.length ≤ 1000000) := by have := I.out.2.l; exact (show s.l.length ≤ 1000000 by omega)
      have J : Hid (Dl w wc p F s) := I.out.1
      have e1 : rch s ((0 : Nat) : Int) = 150 := if_pos HD.out
      have e2 : syE s = 150 := if_pos HD.out
      have e3 : syS s = s := if_pos HD.out
      have e4 : fuE s ((0 : Nat) : Int) = 150 := if_pos HD.out
      have e5 : fuS s ((0 : Nat) : Int) = s := if_pos HD.out
      have RD := readL w wc p F s ((0 : Nat) : Int) J.out
      rw [e1] at RD
      have RD' : Hid _ := RD
      obtain ⟨v, hv⟩ : ∃ v, sv (rdV s ((0 : Nat) : Int)) = v := ⟨_, rfl⟩
      rw [hv] at RD'
      clear RD hv I
      go_wp2_with fail
      refine Calls.mono RD'.out ?_
      rintro e w5 ⟨rfl, rfl⟩
      clear RD'
      go_wp2_with fail
      refine Calls.mono (syncL w _ p F s HL.out J.out) ?_
      rintro e w6 ⟨rfl, F6, k1, -, -⟩
      rw [e3] at k1
      rw [e2]
      have J6 : Hid _ := k1
      clear J k1
      go_wp2_with fail
      refine Calls.mono (fuseL w w6 p F6 s ((0 : Nat) : Int) J6.out) ?_
      rintro e w7 ⟨rfl, F7, k1, -, -⟩
      rw [e5] at k1
      rw [e4]
      have J7 : Hid _ := k1
      clear J6 k1 e1 e2 e3 e4 e5
      go_wp2_with fail
      refine Calls.mono (crashL w w7 p F7 s none 0 0 [] rfl HL.out (fun i hi => absurd hi (Nat.not_lt_zero _)) (fun x e => by cases e) J7.out) ?_
      rintro e w8 ⟨rfl, F8, k1, -, -⟩
      have J8 : Hid (Dl w w8 p F8 (ups 4 (tear [] s.f s.l 0) [])) := by
        have e9 : crS s [] = ups 4 (tear [] s.f s.l 0) [] := by
          unfold crS
          rw [HS.out]
        rw [e9] at k1
        exact k1
      clear J7 k1
      have RD := readU w w8 p F8 4 _ [] 0 (by decide) J8.out
      obtain ⟨v2, hv2⟩ : ∃ v2, sv (lay (tear [] s.f s.l 0) [] 0) = v2 := ⟨_, rfl⟩
      rw [hv2] at RD
      have RD' : Hid _ := RD
      clear RD hv2
      go_wp2_with fail
      refine Calls.mono RD'.out ?_
      rintro e w9 ⟨rfl, rfl⟩
      clear RD'
      have FF : Hid (Below w.heap.size w w9) := J8.out.below
      go_wp2_with fail
      refine Calls.mono (waitsU w w9 p F8 _ J8.out) ?_
      rintro e w10 ⟨rfl, rfl⟩
      clear J8
      go_wp2
      go_ret
      exact ⟨rfl, FF.out⟩
end Go.Proofs.Ytpcgoimkflgcnaa
