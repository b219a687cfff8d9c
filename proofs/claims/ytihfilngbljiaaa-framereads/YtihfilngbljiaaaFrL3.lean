/- FrameChunks: texts that are framed, and come in any chunks, are told, each once, in order. -/
import Derived.Test.YtihfilngbljiaaaFrL2
namespace Go.Proofs.Fr
/-- A chunk more: what is told, what is left. -/
theorem chunk_go (T : List (List UInt8)) (hT : ∀ s ∈ T, s.length ≤ 4096) (h60 : T.length ≤ 60) (N : Nat) (hN : 60 ≤ N) (j : Nat) (hj : j ≤ T.length) (h c q : List UInt8) (e : h ++ (c ++ q) = ofl (T.drop j)) :
    ∃ (j' : Nat) (h' : List UInt8), j' ≤ T.length ∧ h' ++ q = ofl (T.drop j') ∧ ¬ has h' ∧ takeE ⟨h, false⟩ c = 0 ∧ takeR ⟨h, false⟩ c = ⟨h ++ c, false⟩ ∧ Good ⟨h ++ c, false⟩ ∧ T.take j ++ drain N ⟨h ++ c, false⟩ = T.take j' ∧ left N ⟨h ++ c, false⟩ = ⟨h', false⟩ ∧ h.length ≤ 1048576 := by
  have hl : ∀ s ∈ T.drop j, s.length ≤ 4096 := fun s hs => hT s (List.mem_of_mem_drop hs)
  rw [← List.append_assoc] at e
  obtain ⟨k, h', k1, k2, k3, k4, k5⟩ := chunk_step (T.drop j) hl h c q e
  have hb := ofl_bound (T.drop j) hl
  have hlen := congrArg List.length e
  rw [List.length_append, List.length_append] at hlen
  have hd : (T.drop j).length ≤ 60 := by rw [List.length_drop]; omega
  have hs : (ofl (T.drop j)).length ≤ 246000 := Nat.le_trans hb (Nat.le_trans (Nat.mul_le_mul_right _ hd) (by decide))
  obtain ⟨t1, t2⟩ := take_ok h c k4 (by omega)
  obtain ⟨d1, d2⟩ := k5 N (by omega)
  rw [List.length_drop] at k1
  refine ⟨j + k, h', by omega, by rw [← List.drop_drop]; exact k2, k3, t1, t2, ⟨k4, fun z => (by cases z), ?_⟩, ?_, d2, by omega⟩
  · show (h ++ c).length ≤ 1048576
    rw [List.length_append]; omega
  · rw [d1, List.take_add]
end Go.Proofs.Fr
namespace Go.Proofs.Ytihfilngbljiaaa
open Go.RowKit Go.Proofs.Fd Go.Proofs.Fr
set_option maxRecDepth 20000

theorem bas_tls (ks : List ByteArray) (j : Nat) : bas ((tls ks).take j) = ks.take j := by
  unfold bas tls
  rw [← List.map_take, List.map_map]
  conv => rhs; rw [← List.map_id (ks.take j)]
  apply List.map_congr_left
  intro s _
  simp
/-- Numbers that lie in a row. -/
def IntAt (w : World) (a : Option Addr) (cs : List Int) : Prop := ∀ i (hi : i < cs.length), ∃ b o, a = some ⟨b, o, none⟩ ∧ w.cell? ⟨b, o + i, none⟩ = some (.int .i64 cs[i])
theorem IntAt.later {W w1 : World} {a : Option Addr} {cs : List Int} (h : IntAt W a cs) (hb : Below W.heap.size W w1) : IntAt w1 a cs := fun i hi => by
  obtain ⟨b, o, e, hc⟩ := h i hi
  exact ⟨b, o, e, cell_later hb hc⟩
theorem ext_list (s : ByteArray) (a b : Nat) : (s.extract a b).data.toList = (s.data.toList.take b).drop a := by
  simp [ByteArray.data_extract, List.drop_take]
theorem cut_at (s : ByteArray) (m : Nat) : s.data.toList = (s.extract 0 m).data.toList ++ (s.extract m s.size).data.toList := by
  rw [ext_list, ext_list, List.drop_zero, List.take_of_length_le (i := s.size) (by simp), List.take_append_drop]
/-- What holds at each chunk: so many texts are told, these bytes are with the reader, those are still to come. -/
def Chk (ks : List ByteArray) (j : Nat) (h q : List UInt8) : Prop := j ≤ ks.length ∧ h ++ q = ofl ((tls ks).drop j) ∧ ¬ has h
theorem tls_len (ks : List ByteArray) : (tls ks).length = ks.length := by unfold tls; rw [List.length_map]
theorem tls_fit {ks : List ByteArray} (h : fits ks) : ∀ s ∈ tls ks, s.length ≤ 4096 := by
  intro s hs
  obtain ⟨x, hx, rfl⟩ := List.mem_map.1 hs
  have := h x hx
  simpa using this
theorem chk_step {ks : List ByteArray} (hf : fits ks) (h60 : ks.length ≤ 60) (N : Nat) (hN : 60 ≤ N) {j : Nat} {h : List UInt8} {s : ByteArray} (H : Chk ks j h s.data.toList) (m : Nat) :
    ∃ (j' : Nat) (h' : List UInt8), Chk ks j' h' (s.extract m s.size).data.toList ∧ takeE ⟨h, false⟩ (s.extract 0 m).data.toList = 0 ∧ takeR ⟨h, false⟩ (s.extract 0 m).data.toList = ⟨h ++ (s.extract 0 m).data.toList, false⟩ ∧ Fr.Good ⟨h ++ (s.extract 0 m).data.toList, false⟩ ∧ bas ((tls ks).take j) ++ bas (Fr.drain N ⟨h ++ (s.extract 0 m).data.toList, false⟩) = ks.take j' ∧ Fr.left N ⟨h ++ (s.extract 0 m).data.toList, false⟩ = ⟨h', false⟩ ∧ h.length ≤ 1048576 := by
  obtain ⟨h1, h2, h3⟩ := H
  rw [cut_at s m] at h2
  obtain ⟨j', h', q1, q2, q3, q4, q5, q6, q7, q8, q9⟩ := chunk_go (tls ks) (tls_fit hf) (by rw [tls_len]; exact h60) N hN j (by rw [tls_len]; exact h1) h _ _ h2
  exact ⟨j', h', ⟨by rw [tls_len] at q1; exact q1, q2, q3⟩, q4, q5, q6, by rw [← bas_app, q7, bas_tls], q8, q9⟩
theorem chk_end {ks : List ByteArray} (hf : fits ks) {j : Nat} {h : List UInt8} (H : Chk ks j h []) : j = ks.length ∧ h = [] := by
  obtain ⟨h1, h2, h3⟩ := H
  rw [List.append_nil] at h2
  have e := end_all _ (fun s hs => tls_fit hf s (List.mem_of_mem_drop hs)) h h2 h3
  refine ⟨?_, by rw [h2, e]; rfl⟩
  have := congrArg List.length e
  rw [List.length_drop, tls_len] at this
  simp at this
  omega
set_option maxHeartbeats 4000000 in
theorem FrameChunks_walk (a : Option Addr) (ks : List ByteArray) (n cap : Nat) (a2 : Option Addr) (cs : List Int) (n2 cap2 : Nat) (hn : Hid (ks.length = n)) (hn2 : Hid (cs.length = n2)) (hz : (frs ks).length ≤ 10485760) (hm : n ≤ 1048576) (w : World) (hc : Hid (StrAt w a ks)) (hc2 : Hid (IntAt w a2 cs)) :
    Calls Try.prog 5 #[.slice a n cap, .slice a2 n2 cap2] w fun e w' => e = .returned (.bool true) ∧ Below w.heap.size w w' := by
  obtain ⟨N, hN⟩ : ∃ N, N = 100000 := ⟨_, rfl⟩
  have HN : Hid (N = 100000) := hN
  clear hN
  go_enter Try.func5, Try.ntmps5
  go_wp2_with fail
  refine Calls.mono (works_any w) ?_
  rintro e w1 ⟨rfl, hb1⟩
  have B1 : Hid (Below w.heap.size w w1) := hb1
  clear hb1
  go_wp2_with fail
  refine Calls.mono (Of_all a ks n cap hn.out (by omega) (by omega) w1 (hc.out.later B1.out rfl)) ?_
  rintro e w2 ⟨rfl, hb2⟩
  have B2 : Hid (Below w.heap.size w w2) := chain B1.out hb2
  clear hb2 B1
  by_cases f1 : fitB ks = true
  rotate_left
  · have f1' : fitB ks = false := by simpa using f1
    obtain ⟨s1, s2⟩ := of_not f1'
    rw [s1, s2]
    clear s1 s2 f1 f1'
    go_wp2
    go_ret
    exact ⟨rfl, B2.out⟩
  obtain ⟨s1, s2⟩ := of_yes f1
  have HF : Hid (fits ks) := (fitB_iff ks).1 f1
  rw [s1, s2]
  clear s1 s2 f1
  by_cases h60 : n ≤ 60
  rotate_left
  · have g60 : (60 : Int) < (n : Int) := by omega
    obtain ⟨s0, hs0⟩ : ∃ s, (⟨(frs ks).toArray⟩ : ByteArray) = s := ⟨_, rfl⟩
    rw [hs0]
    clear hs0
    go_wp2
    go_ret
    exact ⟨rfl, B2.out⟩
  have g60 : ¬ (60 : Int) < (n : Int) := by omega
  obtain ⟨s0, hs0⟩ : ∃ s, (⟨(frs ks).toArray⟩ : ByteArray) = s := ⟨_, rfl⟩
  have C0 : Hid (Chk ks 0 [] s0.data.toList ∧ s0.size ≤ 10485760 ∧ ks.length ≤ 60) := by
    refine ⟨⟨Nat.zero_le _, ?_, not_has_nil⟩, ?_, by rw [hn.out]; exact h60⟩
    · rw [← hs0, List.nil_append, List.drop_zero, frs_ofl]
    · rw [← hs0]; simpa [ByteArray.size] using hz
  rw [hs0]
  clear hs0 h60
  go_wp2_with fail
  refine Calls.mono (new_any w2) ?_
  rintro e w3 ⟨rfl, hr3, hb3, -⟩
  obtain ⟨p, hp⟩ : ∃ p, w2.heap.size = p := ⟨_, rfl⟩
  rw [hp] at hr3 ⊢
  have I3 : Hid (RdAt w3 p p ⟨[], false⟩ ∧ w.heap.size ≤ p ∧ Below w.heap.size w w3) := ⟨hr3, by rw [← hp]; exact B2.out.size, chain B2.out hb3⟩
  clear hr3 hb3 B2 hp
  go_wp2_with fail
  go_loopw [1, 5, 8, 9] (fun cu s out i wr => ∃ (k j g : Nat) (ac : Option Addr) (nc cc : Nat) (ci : List Int) (sb : ByteArray) (h : List UInt8), i = .int .i64 (k : Int) ∧ cu = .slice ac nc cc ∧ s = .string sb ∧ sb.size ≤ 10485760 ∧ k ≤ 203 ∧ Hid (ci.length = nc ∧ IntAt w ac ci ∧ (k ≤ 201 ∨ nc = 0 ∧ k ≤ 202 ∨ sb.size = 0)) ∧ Hid (Chk ks j h sb.data.toList) ∧ Hid (RdAt wr p g ⟨h, false⟩ ∧ w.heap.size ≤ p ∧ w.heap.size ≤ g ∧ wr.ownsRow w.heap.size 9 1 out j (scells (ks.take j)) ∧ Below w.heap.size w wr)) (fun _ _ _ i _ => 300 - (intOf i).toNat)
  case atStart => exact ⟨0, 0, p, a2, n2, cap2, cs, s0, [], rfl, rfl, rfl, C0.out.2.1, by omega, ⟨hn2.out, hc2.out, .inl (by omega)⟩, C0.out.1, I3.out.1, I3.out.2.1, I3.out.2.1, World.ownsRow_nil _ _ _ _, I3.out.2.2⟩
  case round =>
    obtain ⟨k, j, g, ac, nc, cc, ci, sb, h, rfl, rfl, rfl, hsb, hk203, K, C, I⟩ := hrel
    clear I3 hc2 hn2
    by_cases hs0 : 0 < sb.size
    · have gs : (0 : Int) < (sb.size : Int) := by omega
      have hk : k ≤ 202 := by rcases K.out.2.2 with q | q | q <;> omega
      by_cases hcu : k < nc
      · have gk : (k : Int) < (nc : Int) := by omega
        have hk2 : k ≤ 201 := by rcases K.out.2.2 with q | q | q <;> omega
        have hk' : k < ci.length := by have := K.out.1; omega
        obtain ⟨b, o, rfl, hcell⟩ := IntAt.later K.out.2.1 I.out.2.2.2.2 k hk'
        generalize ci[k] = c at *
        obtain ⟨m, hmm⟩ : ∃ m : Nat, (c % 18446744073709551616).toNat % (sb.size + 1) = m := ⟨_, rfl⟩
        have hm2 : m ≤ sb.size := by rw [← hmm]; have := Nat.mod_lt (c % 18446744073709551616).toNat (show 0 < sb.size + 1 by omega); omega
        have e0 : IntKind.i64.wrap ((sb.size : Int) + 1) = (sb.size : Int) + 1 := by rw [IntKind.wrap_i64]; omega
        have e1 : IntKind.u64.wrap ((sb.size : Int) + 1) = (sb.size : Int) + 1 := by rw [IntKind.wrap_u64]; omega
        have e2 : (IntKind.u64.wrap c).tmod ((sb.size : Int) + 1) = (m : Int) := by
          rw [IntKind.wrap_u64, Int.tmod_eq_emod_of_nonneg (by omega), ← hmm]
          have h1 : c % 18446744073709551616 = (((c % 18446744073709551616).toNat : Nat) : Int) := by omega
          have h2 : (sb.size : Int) + 1 = ((sb.size + 1 : Nat) : Int) := by omega
          rw [h2, h1]
          exact (Int.natCast_emod _ _).symm
        have e3 : IntKind.i64.wrap (m : Int) = (m : Int) := by rw [IntKind.wrap_i64]; omega
        have e5 : (m : Int) ≤ (sb.size : Int) := by omega
        have e7 : ¬ ((sb.size : Int) + 1 = 0) := by omega
        clear hmm
        obtain ⟨j', h', Q1, Q2, Q3, Q4, Q5, Q6, Q7⟩ := chk_step HF.out C0.out.2.2 N (by have := HN.out; omega) C.out m
        have TK : Hid (Calls Try.prog 13 #[.pointer (some ⟨p, 0, none⟩), .string (sb.extract 0 m)] wr fun e w' => e = .returned (.int .i64 0) ∧ (∃ g', RdAt w' p g' ⟨h ++ (sb.extract 0 m).data.toList, false⟩ ∧ (g' = g ∨ g' = p ∨ wr.heap.size ≤ g')) ∧ But p g wr w') := by
          have q := take_any p g ⟨h, false⟩ (sb.extract 0 m) wr I.out.1 Q7
          rw [Q2, Q3] at q
          exact q
        obtain ⟨X, hX⟩ : ∃ X, h ++ (sb.extract 0 m).data.toList = X := ⟨_, rfl⟩
        rw [hX] at TK Q4 Q5 Q6
        have QQ : Hid (Chk ks j' h' (sb.extract m sb.size).data.toList ∧ Fr.Good ⟨X, false⟩ ∧ bas ((tls ks).take j) ++ bas (Fr.drain N ⟨X, false⟩) = ks.take j' ∧ Fr.left N ⟨X, false⟩ = ⟨h', false⟩) := ⟨Q1, Q4, Q5, Q6⟩
        clear Q1 Q2 Q3 Q4 Q5 Q6 Q7 hX C
        have KB : Hid (k ≤ 201) := hk2
        go_wp2_with fail
        refine Calls.mono TK.out ?_
        rintro e w4 ⟨rfl, ⟨g4, hr4, hg4⟩, hb4⟩
        have I4 : Hid (RdAt w4 p g4 ⟨X, false⟩ ∧ w.heap.size ≤ p ∧ w.heap.size ≤ g4 ∧ w4.ownsRow w.heap.size 9 1 u8 j (scells (ks.take j)) ∧ Below w.heap.size w w4) := by
          obtain ⟨i1, i2, i3, i4, i5⟩ := I.out
          exact ⟨hr4, i2, by rcases hg4 with rfl | rfl | z; (· exact i3); (· exact i2); exact Nat.le_trans i5.size z, own_but i4 i1 hb4 (by decide) (by decide), i5.trans (hb4.below i2 i3 i5.size)⟩
        clear hr4 hg4 hb4 I TK
        go_wp2_with fail
        refine Calls.mono (all_any N p g4 ⟨X, false⟩ w4 HN.out I4.out.1 QQ.out.2.1) ?_
        rintro e w5 ⟨v5, rfl, ho5, ⟨g5, hr5, hg5⟩, hb5⟩
        obtain ⟨D, hD⟩ : ∃ D, Fr.drain N ⟨X, false⟩ = D := ⟨_, rfl⟩
        rw [QQ.out.2.2.2] at hr5
        rw [hD] at ho5
        obtain ⟨l5, a5, c5, rfl, hs5, ha5⟩ := own_strAt ho5
        have I5 : RdAt w5 p g5 ⟨h', false⟩ ∧ w.heap.size ≤ p ∧ w.heap.size ≤ g5 ∧ w5.ownsRow w.heap.size 9 1 u8 j (scells (ks.take j)) ∧ Below w.heap.size w w5 := by
          obtain ⟨i1, i2, i3, i4, i5⟩ := I4.out
          exact ⟨hr5, i2, by rcases hg5 with rfl | rfl | z; (· exact i3); (· exact i2); exact Nat.le_trans i5.size z, own_but i4 i1 hb5 (by decide) (by decide), i5.trans (hb5.below i2 i3 i5.size)⟩
        have E5 : ks.take j ++ bas D = ks.take j' ∧ (ks.take j').length = j' ∧ j + D.length = j' := by
          have q1 := QQ.out.2.2.1
          rw [hD, bas_tls] at q1
          have q2 : (ks.take j').length = j' := by rw [List.length_take]; have := QQ.out.1.1; omega
          have q3 : (ks.take j).length = j := by have := I5.2.2.2.1.1; rw [scells_len] at this; omega
          refine ⟨q1, q2, ?_⟩
          rw [← q1, List.length_append, bas_len] at q2
          omega
        obtain ⟨v6, w6, hr6, ho6, hgr6⟩ := app_strs w5 22 w.heap.size u8 j (scells (ks.take j)) I5.2.2.2.1 a5 (bas D) D.length c5 (by rw [bas_len]) ha5 hs5 (by have := E5.2; have := QQ.out.1.1; have := C0.out.2.2; omega) I5.2.2.2.2.size
        rw [← scells_app, E5.1, E5.2.2] at ho6
        have I6 : Hid (RdAt w6 p g5 ⟨h', false⟩ ∧ w.heap.size ≤ p ∧ w.heap.size ≤ g5 ∧ w6.ownsRow w.heap.size 9 1 v6 j' (scells (ks.take j')) ∧ Below w.heap.size w w6) := by
          obtain ⟨i1, i2, i3, i4, i5⟩ := I5
          exact ⟨i1.grown i4 hgr6 (by decide) (by decide), i2, i3, ho6, i5.grown hgr6 i5.size (fun x hx => (i4.lt x hx).1)⟩
        have HR : Hid ((Builtin.append_ #[22, 22] 22 #[u8, .slice a5 D.length c5]).run Try.prog w5 = .ok v6 w6) := hr6
        have CK : Hid (Chk ks j' h' (sb.extract m sb.size).data.toList) := QQ.out.1
        have ZS : Hid ((sb.extract m sb.size).size = sb.size - m) := by show _ = _; rw [ByteArray.size_extract]; omega
        clear I5 I4 ho5 hr5 hg5 hb5 hD l5 hs5 ha5 E5 hr6 ho6 hgr6 QQ
        by_cases h200 : 200 < k
        · have g200 : (200 : Int) < (k : Int) := by omega
          go_wp2_with (at_builtin; refine Go.Lib.wpList_append_run _ rfl _ _ _ _ rfl _ _ rfl rfl _ _ HR.out ?_)
          go_roundw
          case rel => exact ⟨k + 1, j', g5, none, 0, 0, [], sb.extract m sb.size, h', by go_num, rfl, rfl, by rw [ZS.out]; omega, by omega, ⟨rfl, fun i hi => by simp at hi, .inr (.inl ⟨rfl, by have := KB.out; omega⟩)⟩, CK.out, I6.out⟩
          case measure => simp [intOf]; omega
        · have g200 : ¬ (200 : Int) < (k : Int) := by omega
          go_wp2_with (at_builtin; refine Go.Lib.wpList_append_run _ rfl _ _ _ _ rfl _ _ rfl rfl _ _ HR.out ?_)
          go_roundw
          case rel => exact ⟨k + 1, j', g5, _, nc, cc, ci, sb.extract m sb.size, h', by go_num, rfl, rfl, by rw [ZS.out]; omega, by omega, ⟨K.out.1, K.out.2.1, .inl (by omega)⟩, CK.out, I6.out⟩
          case measure => simp [intOf]; omega
      · have gk : ¬ (k : Int) < (nc : Int) := by omega
        obtain ⟨m, hmm⟩ : ∃ m : Nat, sb.size = m := ⟨_, rfl⟩
        have hm2 : m ≤ sb.size := by omega
        have HM : Hid (sb.size = m) := hmm
        obtain ⟨j', h', Q1, Q2, Q3, Q4, Q5, Q6, Q7⟩ := chk_step HF.out C0.out.2.2 N (by have := HN.out; omega) C.out m
        have TK : Hid (Calls Try.prog 13 #[.pointer (some ⟨p, 0, none⟩), .string (sb.extract 0 m)] wr fun e w' => e = .returned (.int .i64 0) ∧ (∃ g', RdAt w' p g' ⟨h ++ (sb.extract 0 m).data.toList, false⟩ ∧ (g' = g ∨ g' = p ∨ wr.heap.size ≤ g')) ∧ But p g wr w') := by
          have q := take_any p g ⟨h, false⟩ (sb.extract 0 m) wr I.out.1 Q7
          rw [Q2, Q3] at q
          exact q
        obtain ⟨X, hX⟩ : ∃ X, h ++ (sb.extract 0 m).data.toList = X := ⟨_, rfl⟩
        rw [hX] at TK Q4 Q5 Q6
        have QQ : Hid (Chk ks j' h' (sb.extract m sb.size).data.toList ∧ Fr.Good ⟨X, false⟩ ∧ bas ((tls ks).take j) ++ bas (Fr.drain N ⟨X, false⟩) = ks.take j' ∧ Fr.left N ⟨X, false⟩ = ⟨h', false⟩) := ⟨Q1, Q4, Q5, Q6⟩
        clear Q1 Q2 Q3 Q4 Q5 Q6 Q7 hX C
        have gm : (m : Int) = (sb.size : Int) := by omega
        go_wp2_with fail
        refine Calls.mono TK.out ?_
        rintro e w4 ⟨rfl, ⟨g4, hr4, hg4⟩, hb4⟩
        have I4 : Hid (RdAt w4 p g4 ⟨X, false⟩ ∧ w.heap.size ≤ p ∧ w.heap.size ≤ g4 ∧ w4.ownsRow w.heap.size 9 1 u8 j (scells (ks.take j)) ∧ Below w.heap.size w w4) := by
          obtain ⟨i1, i2, i3, i4, i5⟩ := I.out
          exact ⟨hr4, i2, by rcases hg4 with rfl | rfl | z; (· exact i3); (· exact i2); exact Nat.le_trans i5.size z, own_but i4 i1 hb4 (by decide) (by decide), i5.trans (hb4.below i2 i3 i5.size)⟩
        clear hr4 hg4 hb4 I TK
        go_wp2_with fail
        refine Calls.mono (all_any N p g4 ⟨X, false⟩ w4 HN.out I4.out.1 QQ.out.2.1) ?_
        rintro e w5 ⟨v5, rfl, ho5, ⟨g5, hr5, hg5⟩, hb5⟩
        obtain ⟨D, hD⟩ : ∃ D, Fr.drain N ⟨X, false⟩ = D := ⟨_, rfl⟩
        rw [QQ.out.2.2.2] at hr5
        rw [hD] at ho5
        obtain ⟨l5, a5, c5, rfl, hs5, ha5⟩ := own_strAt ho5
        have I5 : RdAt w5 p g5 ⟨h', false⟩ ∧ w.heap.size ≤ p ∧ w.heap.size ≤ g5 ∧ w5.ownsRow w.heap.size 9 1 u8 j (scells (ks.take j)) ∧ Below w.heap.size w w5 := by
          obtain ⟨i1, i2, i3, i4, i5⟩ := I4.out
          exact ⟨hr5, i2, by rcases hg5 with rfl | rfl | z; (· exact i3); (· exact i2); exact Nat.le_trans i5.size z, own_but i4 i1 hb5 (by decide) (by decide), i5.trans (hb5.below i2 i3 i5.size)⟩
        have E5 : ks.take j ++ bas D = ks.take j' ∧ (ks.take j').length = j' ∧ j + D.length = j' := by
          have q1 := QQ.out.2.2.1
          rw [hD, bas_tls] at q1
          have q2 : (ks.take j').length = j' := by rw [List.length_take]; have := QQ.out.1.1; omega
          have q3 : (ks.take j).length = j := by have := I5.2.2.2.1.1; rw [scells_len] at this; omega
          refine ⟨q1, q2, ?_⟩
          rw [← q1, List.length_append, bas_len] at q2
          omega
        obtain ⟨v6, w6, hr6, ho6, hgr6⟩ := app_strs w5 22 w.heap.size u8 j (scells (ks.take j)) I5.2.2.2.1 a5 (bas D) D.length c5 (by rw [bas_len]) ha5 hs5 (by have := E5.2; have := QQ.out.1.1; have := C0.out.2.2; omega) I5.2.2.2.2.size
        rw [← scells_app, E5.1, E5.2.2] at ho6
        have I6 : Hid (RdAt w6 p g5 ⟨h', false⟩ ∧ w.heap.size ≤ p ∧ w.heap.size ≤ g5 ∧ w6.ownsRow w.heap.size 9 1 v6 j' (scells (ks.take j')) ∧ Below w.heap.size w w6) := by
          obtain ⟨i1, i2, i3, i4, i5⟩ := I5
          exact ⟨i1.grown i4 hgr6 (by decide) (by decide), i2, i3, ho6, i5.grown hgr6 i5.size (fun x hx => (i4.lt x hx).1)⟩
        have HR : Hid ((Builtin.append_ #[22, 22] 22 #[u8, .slice a5 D.length c5]).run Try.prog w5 = .ok v6 w6) := hr6
        have CK : Hid (Chk ks j' h' (sb.extract m sb.size).data.toList) := QQ.out.1
        have EX : Hid (sb.extract m sb.size = ByteArray.empty) := by
          show _ = _
          apply ByteArray.ext
          apply Array.ext'
          rw [ext_list, List.drop_of_length_le]
          · rfl
          · rw [List.length_take]; have := HM.out; omega
        have ZS : Hid ((sb.extract m sb.size).size = sb.size - m) := by show _ = _; rw [ByteArray.size_extract]; omega
        clear I5 I4 ho5 hr5 hg5 hb5 hD l5 hs5 ha5 E5 hr6 ho6 hgr6 QQ
        by_cases h200 : 200 < k
        · have g200 : (200 : Int) < (k : Int) := by omega
          go_wp2_with (at_builtin; refine Go.Lib.wpList_append_run _ rfl _ _ _ _ rfl _ _ rfl rfl _ _ HR.out ?_)
          go_roundw
          case rel => exact ⟨k + 1, j', g5, none, 0, 0, [], ByteArray.empty, h', by go_num, rfl, rfl, Nat.zero_le _, by omega, ⟨rfl, fun i hi => by simp at hi, .inr (.inr rfl)⟩, by rw [← EX.out]; exact CK.out, I6.out⟩
          case measure => simp [intOf]; omega
        · have g200 : ¬ (200 : Int) < (k : Int) := by omega
          go_wp2_with (at_builtin; refine Go.Lib.wpList_append_run _ rfl _ _ _ _ rfl _ _ rfl rfl _ _ HR.out ?_)
          go_roundw
          case rel => exact ⟨k + 1, j', g5, _, nc, cc, ci, ByteArray.empty, h', by go_num, rfl, rfl, Nat.zero_le _, by omega, ⟨K.out.1, K.out.2.1, .inl (by omega)⟩, by rw [← EX.out]; exact CK.out, I6.out⟩
          case measure => simp [intOf]; omega
    · have gs : ¬ (0 : Int) < (sb.size : Int) := by omega
      have E0 : sb.data.toList = [] := List.length_eq_zero_iff.1 (by rw [show sb.data.toList.length = sb.size by simp]; omega)
      rw [E0] at C
      obtain ⟨E1, E2⟩ := chk_end HF.out C.out
      have J1 := I.out.2.2.2.1
      rw [E1, List.take_length, hn.out] at J1
      obtain ⟨l5, a5, c5, rfl, hs5, ha5⟩ := own_strAt J1
      have I5 : Hid (RdAt wr p g ⟨[], false⟩ ∧ Below w.heap.size w wr ∧ StrAt wr a5 ks) := ⟨by rw [← E2]; exact I.out.1, I.out.2.2.2.2, hs5⟩
      clear I C K J1 hs5 ha5 E0 E1 E2 l5
      go_wp2_with fail
      refine Calls.mono (waits_any p g ⟨[], false⟩ wr I5.out.1) ?_
      rintro e w4 ⟨rfl, hw4⟩
      have hw4 := hw4.symm
      subst hw4
      go_wp2_with fail
      obtain ⟨wa, hwa⟩ : ∃ wa, wa = wr := ⟨_, rfl⟩
      have JA : Hid (Below wa.heap.size wa wr) := by rw [hwa]; exact Below.refl _ _
      rw [← hwa] at I5
      clear hwa
      go_loopw [82] (fun i wx => ∃ k : Nat, k ≤ n ∧ i = .int .i64 (k : Int) ∧ Hid (Below wa.heap.size wa wx)) (fun i _ => n - (intOf i).toNat)
      case atStart => exact ⟨0, Nat.zero_le _, rfl, JA.out⟩
      case round =>
        obtain ⟨k, hk1, rfl, J⟩ := hrel
        by_cases hlt : k < n
        · have hk' : k < ks.length := by have := hn.out; omega
          obtain ⟨b1, o1, rfl, hcell1⟩ := StrAt.later hc.out (chain I5.out.2.1 J.out) rfl k hk'
          obtain ⟨b2, o2, rfl, hcell2⟩ := StrAt.later I5.out.2.2 J.out rfl k hk'
          generalize ks[k] = s at *
          have g1 : (k : Int) < (n : Int) := by omega
          go_wp2_with fail
          go_quiet (fail)
          have J2 : Hid (Below wa.heap.size wa (wr.drewN nq)) := below_drewN J.out nq
          go_wp2
          go_roundw
          case rel => exact ⟨k + 1, by omega, by go_num, J2.out⟩
          case measure => simp [intOf]; omega
        · have g1 : ¬ (k : Int) < (n : Int) := by omega
          go_wp2
          go_ret
          exact ⟨rfl, chain I5.out.2.1 J.out⟩
end Go.Proofs.Ytihfilngbljiaaa
