/- The document's frames and reader. -/
import Derived.Test.YtihfilngbljiaaaFrL2
namespace Go.Proofs.Ytihfilngbljiaaa
open Go.RowKit Go.Proofs.Fd Go.Proofs.Fr
set_option maxRecDepth 20000

set_option maxHeartbeats 1000000 in
theorem rOne_any (s : ByteArray) (hs : s.size ≤ 4096) (w : World) :
    Calls Try.prog 20 #[.string s] w fun e w' => e = .returned (.string ⟨(one s.data.toList).toArray⟩) ∧ Below w.heap.size w w' := by
  have HBE : Hid (bcells (be4 s.size) = [.int .u8 ((s.size : Int) / 16777216), .int .u8 ((s.size : Int) / 65536), .int .u8 ((s.size : Int) / 256), .int .u8 ((s.size : Int) % 256)]) := be4_of s.size hs
  obtain ⟨h4, hh4⟩ : ∃ h4 : ByteArray, h4 = ⟨(be4 s.size).toArray⟩ := ⟨_, rfl⟩
  have CV : (convert 45 9 (.slice (some ⟨w.heap.size, 0, none⟩) 4 4)).run Try.prog (w.alloc (.cells #[.int .u8 ((s.size : Int) / 16777216), .int .u8 ((s.size : Int) / 65536), .int .u8 ((s.size : Int) / 256), .int .u8 ((s.size : Int) % 256)] 5)) = .ok (.string h4) (w.alloc (.cells #[.int .u8 ((s.size : Int) / 16777216), .int .u8 ((s.size : Int) / 65536), .int .u8 ((s.size : Int) / 256), .int .u8 ((s.size : Int) % 256)] 5)) := by
    rw [hh4]
    refine run_convert_bytes_back (P := Try.prog) _ 45 9 5 ⟨w.heap.size, 0, none⟩ 4 (be4 s.size) Try.underlying45 Try.underlying5 Try.underlying9 (fun j hj => ?_)
    refine cells_new w _ _ j _ ?_
    have q : (bcells (be4 s.size))[j]? = some (.int .u8 ((be4 s.size)[j].toNat : Int)) := by simp [bcells, hj]
    rw [HBE.out] at q
    exact q
  have l4 : h4.size = 4 := by rw [hh4]; rfl
  obtain ⟨z, hz⟩ : ∃ z, z = h4 ++ s := ⟨_, rfl⟩
  have HA : ∀ w, (Op.stringOp .add h4 s).run Try.prog w = .ok (.string z) w := fun w => by
    rw [run_string_add_sum (P := Try.prog) w h4 s (by omega), hz]
  have EQ : Hid (z = ⟨(one s.data.toList).toArray⟩) := by
    show _ = _
    rw [hz, hh4]
    apply ByteArray.ext
    unfold one
    simp
  clear hz hh4 l4
  go_enter Try.func20, Try.ntmps20
  go_wp2
  go_ret
  exact ⟨by rw [EQ.out]; rfl, (Below.refl _ _).alloc (Nat.le_refl _) _⟩
set_option maxHeartbeats 1000000 in
theorem rOf_ok (a : Option Addr) (ks : List ByteArray) (n cap : Nat) (hn : Hid (ks.length = n)) (hn63 : n < 9223372036854775807) (hf : Hid (fits ks)) (hz : Hid ((frs ks).length ≤ 140737488355328)) (w : World) (hc : Hid (StrAt w a ks)) :
    Calls Try.prog 9 #[.slice a n cap] w fun e w' => e = .returned (.tuple #[.string ⟨(frs ks).toArray⟩, .int .i64 0]) ∧ Below w.heap.size w w' := by
  obtain ⟨i0, hi, hz0, hz1, hz2⟩ := info_parts infoByte
  go_enter Try.func9, Try.ntmps9
  go_wp2
  go_loopw [4] (fun i wr => ∃ k : Nat, k ≤ n ∧ i = .int .i64 (k : Int) ∧ w = wr) (fun i _ => n - (intOf i).toNat)
  case atStart => exact ⟨0, Nat.zero_le _, rfl, rfl⟩
  case round =>
    obtain ⟨k, hk1, rfl, hw⟩ := hrel
    subst hw
    by_cases hlt : k < n
    · have hk' : k < ks.length := by have := hn.out; omega
      obtain ⟨b, o, rfl, hcell⟩ := hc.out k hk'
      obtain ⟨s, hs⟩ : ∃ s, ks[k] = s := ⟨_, rfl⟩
      have h4 : ¬ (4096 : Int) < (s.size : Int) := by have := hf.out ks[k] (List.getElem_mem hk'); rw [hs] at this; omega
      rw [hs] at hcell
      have g1 : (k : Int) < (n : Int) := by omega
      clear hs
      go_wp2
      go_roundw
      case rel => exact ⟨k + 1, by omega, by go_num, trivial⟩
      case measure => simp [intOf]; omega
    · obtain rfl : k = n := by omega
      have g1 : ¬ (k : Int) < (k : Int) := by omega
      clear hlt
      go_wp2
      go_loopw [5, 6] (fun sl i wr => ∃ k2 : Nat, k2 ≤ k ∧ i = .int .i64 (k2 : Int) ∧ Hid (wr.ownsRow w.heap.size 5 1 sl (frs (ks.take k2)).length (bcells (frs (ks.take k2))) ∧ Below w.heap.size w wr)) (fun _ i _ => k - (intOf i).toNat)
      case atStart => exact ⟨0, Nat.zero_le _, rfl, World.ownsRow_nil _ _ _ _, Below.refl _ _⟩
      case round =>
        obtain ⟨q, hq1, rfl, I⟩ := hrel
        clear g1
        by_cases hlt : q < k
        · have hk' : q < ks.length := by have := hn.out; omega
          obtain ⟨b, o, rfl, hcell⟩ := StrAt.later hc.out I.out.2 rfl q hk'
          obtain ⟨s, hs⟩ : ∃ s, ks[q] = s := ⟨_, rfl⟩
          obtain ⟨S, hS⟩ : ∃ S : ByteArray, S = ⟨(one s.data.toList).toArray⟩ := ⟨_, rfl⟩
          have hS2 : S.data.toList = one s.data.toList := by rw [hS]
          have HF : Hid (frs (ks.take (q + 1)) = frs (ks.take q) ++ S.data.toList) := by
            show _ = _
            rw [frs_step ks q hk', hs, hS2]
          have h4 : s.size ≤ 4096 := by have := hf.out ks[q] (List.getElem_mem hk'); rw [hs] at this; exact this
          have HZ : Hid ((frs (ks.take q)).length + S.size ≤ 140737488355328) := by
            have h1 := frs_le ks (q + 1)
            have h2 := hz.out
            have h5 := congrArg List.length HF.out
            rw [List.length_append] at h5
            have h6 : S.data.toList.length = S.size := by simp
            show _ ≤ _
            omega
          have ON : Hid (∀ w, Calls Try.prog 20 #[.string s] w fun e w' => e = .returned (.string S) ∧ Below w.heap.size w w') := fun w => by rw [hS]; exact rOne_any s h4 w
          rw [hs] at hcell
          have g1 : (q : Int) < (k : Int) := by omega
          obtain ⟨P0, hP0⟩ : ∃ P, frs (ks.take q) = P := ⟨_, rfl⟩
          rw [hP0] at I HF HZ
          clear hP0 hs hS hS2
          go_wp2_with fail
          refine Calls.mono (ON.out _) ?_
          rintro e w1 ⟨rfl, hb1⟩
          have I1 : Hid (w1.ownsRow w.heap.size 5 1 u5 P0.length (bcells P0) ∧ Below w.heap.size w w1) := ⟨own_later I.out.1 hb1, chain I.out.2 hb1⟩
          clear I hb1 ON
          go_wp2_with (first
            | (at_builtin; refine Go.Lib.wpList_append_own_string _ rfl _ _ 45 9 rfl w.heap.size 5 i0 Try.underlying45 Try.underlying9 hi hz0 hz1 hz2 _ _ _ rfl I1.out.1 S rfl (by have := HZ.out; unfold maxLen; omega) (by have := HZ.out; omega) I1.out.2.size ?_; intro v2 w2 hown2 hgrow2 hnil2))
          have FI : Hid (w2.ownsRow w.heap.size 5 1 v2 (P0.length + S.size) (bcells (P0 ++ S.data.toList)) ∧ Below w.heap.size w w2) := by
            refine ⟨?_, I1.out.2.grown hgrow2 I1.out.2.size (fun j hj => (I1.out.1.lt j hj).1)⟩
            rw [strCells_eq, ← bcells_app] at hown2
            exact hown2
          clear hown2 hgrow2 hnil2
          go_roundw
          case rel =>
            refine ⟨q + 1, by omega, by go_num, ?_, FI.out.2⟩
            rw [HF.out, List.length_append, show S.data.toList.length = S.size by simp]
            exact FI.out.1
          case measure => simp [intOf]; omega
        · obtain rfl : q = k := by omega
          have e0 : frs (ks.take q) = frs ks := by rw [List.take_of_length_le (by rw [hn.out]; exact Nat.le_refl _)]
          rw [e0] at I
          have CV := own_string I.out.1 wr (Below.refl _ _)
          have g1 : ¬ (q : Int) < (q : Int) := by omega
          clear e0
          go_wp2
          go_ret2
          exact ⟨rfl, I.out.2⟩
set_option maxHeartbeats 1000000 in
theorem rOf_no (a : Option Addr) (ks : List ByteArray) (n cap : Nat) (hn : Hid (ks.length = n)) (hn63 : n < 9223372036854775807) (hf : Hid (¬ fits ks)) (w : World) (hc : Hid (StrAt w a ks)) :
    Calls Try.prog 9 #[.slice a n cap] w fun e w' => e = .returned (.tuple #[.string ⟨#[]⟩, .int .i64 2]) ∧ Below w.heap.size w w' := by
  obtain ⟨m, hm, h1, h2⟩ := not_fits hf.out
  have H2 : Hid (∀ j (hj : j < m), ks[j].size ≤ 4096) := h2
  have H1 : Hid (4096 < ks[m].size) := h1
  clear h1 h2 hf
  go_enter Try.func9, Try.ntmps9
  go_wp2
  go_loopw [4] (fun i wr => ∃ (k : Nat), k ≤ m ∧ i = .int .i64 (k : Int) ∧ w = wr) (fun i _ => m + 1 - (intOf i).toNat)
  case atStart => exact ⟨0, Nat.zero_le _, rfl, rfl⟩
  case round =>
    obtain ⟨k, hk1, rfl, hw⟩ := hrel
    subst hw
    have hk' : k < ks.length := by omega
    obtain ⟨b, o, rfl, hcell⟩ := hc.out k hk'
    have g1 : (k : Int) < (n : Int) := by have := hn.out; omega
    by_cases hlt : k < m
    · have h4 : ¬ (4096 : Int) < (ks[k].size : Int) := by have := H2.out k hlt; omega
      obtain ⟨s, hs⟩ : ∃ s, ks[k] = s := ⟨_, rfl⟩
      rw [hs] at hcell h4
      clear hs
      go_wp2
      go_roundw
      case rel => exact ⟨k + 1, by omega, by go_num, trivial⟩
      case measure => simp [intOf]; omega
    · obtain rfl : k = m := by omega
      have h4 : (4096 : Int) < (ks[k].size : Int) := by have := H1.out; omega
      obtain ⟨s, hs⟩ : ∃ s, ks[k] = s := ⟨_, rfl⟩
      rw [hs] at hcell h4
      clear hs
      go_wp2
      go_ret2
      exact ⟨rfl, Below.refl _ _⟩
theorem rOf_all (a : Option Addr) (ks : List ByteArray) (n cap : Nat) (hn : ks.length = n) (hn63 : n < 9223372036854775807) (hz : (frs ks).length ≤ 140737488355328) (w : World) (hc : StrAt w a ks) :
    Calls Try.prog 9 #[.slice a n cap] w fun e w' => e = .returned (.tuple #[.string (ofS ks), .int .i64 (ofE ks)]) ∧ Below w.heap.size w w' := by
  by_cases h : fitB ks = true
  · rw [(of_yes h).1, (of_yes h).2]
    exact rOf_ok a ks n cap hn hn63 ((fitB_iff ks).1 h) hz w hc
  · have h' : fitB ks = false := by simpa using h
    rw [(of_not h').1, (of_not h').2]
    exact rOf_no a ks n cap hn hn63 (fun z => h ((fitB_iff ks).2 z)) w hc
set_option maxHeartbeats 1000000 in
theorem FrameMakes_walk (a : Option Addr) (ks : List ByteArray) (n cap : Nat) (hn : Hid (ks.length = n)) (ha : Hid (a = none → n = 0 ∧ cap = 0)) (hz : (frs ks).length ≤ 10485760) (hm : n ≤ 1048576) (w : World) (hc : Hid (StrAt w a ks)) :
    Calls Try.prog 3 #[.slice a n cap] w fun e w' => e = .returned (.bool true) ∧ Below w.heap.size w w' := by
  obtain ⟨v1, w1, hr1, ho1, hb1⟩ := copy_strs w 22 a ks n cap hn.out ha.out hc.out (by omega)
  obtain ⟨-, a3, cap3, rfl, hs3, -⟩ := own_strAt ho1
  have HR : Hid ((Builtin.append_ #[22, 22] 22 #[.slice (some ⟨w.heap.size, 0, none⟩) 0 0, .slice a n cap]).run Try.prog (w.alloc (.cells #[] 9)) = .ok (.slice a3 n cap3) w1) := hr1
  have B1 : Hid (Below w.heap.size w w1 ∧ StrAt w1 a3 ks) := ⟨hb1, hs3⟩
  clear hr1 ho1 hb1 hs3
  go_enter Try.func3, Try.ntmps3
  go_wp2_with (at_builtin; refine Go.Lib.wpList_append_run _ rfl _ _ _ _ rfl _ _ rfl rfl _ _ HR.out ?_)
  clear HR
  refine Calls.mono (Of_all a3 ks n cap3 hn.out (by omega) (by omega) w1 B1.out.2) ?_
  rintro e w2 ⟨rfl, hb2⟩
  have B2 : Hid (Below w.heap.size w w2) := chain B1.out.1 hb2
  clear hb2 B1
  go_wp2_with fail
  refine Calls.mono (rOf_all a ks n cap hn.out (by omega) (by omega) w2 (hc.out.later B2.out rfl)) ?_
  rintro e w3 ⟨rfl, hb3⟩
  have B3 : Hid (Below w.heap.size w w3) := chain B2.out hb3
  clear hb3 B2
  obtain ⟨S, hS⟩ : ∃ S, ofS ks = S := ⟨_, rfl⟩
  obtain ⟨E, hE⟩ : ∃ S, ofE ks = S := ⟨_, rfl⟩
  rw [hS, hE]
  clear hS hE
  go_wp2_with fail
  refine Calls.mono (works_any w3) ?_
  rintro e w4 ⟨rfl, hb4⟩
  have B4 : Hid (Below w.heap.size w w4) := chain B3.out hb4
  clear hb4 B3
  go_wp2
  go_ret
  exact ⟨by simp, B4.out⟩
end Go.Proofs.Ytihfilngbljiaaa
