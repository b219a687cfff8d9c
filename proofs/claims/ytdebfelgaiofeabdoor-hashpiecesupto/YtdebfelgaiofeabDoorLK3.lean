/- HashCuts answers true. -/
import Derived.Test.YtdebfelgaiofeabDoorK9
import Derived.Test.YtdebfelgaiofeabDoorLK1
namespace Go.Proofs.YtdebfelgaiofeabDoor
open Go.RowKit Go.Proofs.Fd Go.Proofs.Hs

/-- Numbers that lie in a row. -/
def IntAt (w : World) (a : Option Addr) (cs : List Int) : Prop := ∀ i (hi : i < cs.length), ∃ b o, a = some ⟨b, o, none⟩ ∧ w.cell? ⟨b, o + i, none⟩ = some (.int .i64 cs[i])
theorem IntAt.later {W w1 : World} {a : Option Addr} {cs : List Int} (h : IntAt W a cs) (hb : Below W.heap.size W w1) : IntAt w1 a cs := fun i hi => by
  obtain ⟨b, o, e, hc⟩ := h i hi
  exact ⟨b, o, e, cell_later hb hc⟩

/-- Strings as cells. -/
def scells (l : List ByteArray) : List Value := l.map fun s => .string s
theorem infoStr : (Tryd.prog.info? 9).map (fun i => (i.zero, i.size, i.bytes)) = some (some (.string ⟨#[]⟩), 1, 16) := by kernel_rfl
theorem owns_strs {w : World} {base n : Nat} {v : Value} {l : List ByteArray} (h : w.ownsRow base 9 1 v n (scells l)) : l.length = n ∧ ((v = .slice none 0 0 ∧ n = 0) ∨ ∃ g cap, v = .slice (some ⟨g, 0, none⟩) n cap ∧ StrAt w (some ⟨g, 0, none⟩) l) := by
  obtain ⟨h1, h2⟩ := h
  have hl : l.length = n := by simpa [scells] using h1
  refine ⟨hl, ?_⟩
  rcases h2 with h2 | ⟨g, cap, cur, rfl, -, hh, -, -, -, ht⟩
  · exact .inl h2
  · refine .inr ⟨g, cap, rfl, fun j hj => ⟨g, 0, rfl, ?_⟩⟩
    have e : cur[j]? = (scells l)[j]? := by
      rw [← ht, List.getElem?_take_of_lt (by omega)]; simp
    rw [Nat.zero_add]
    unfold World.cell?
    rw [hh]
    simp only [Option.isSome_none]
    show cur[j]? = _
    rw [e]; simp [scells, hj]

theorem ext_list (s : ByteArray) (a b : Nat) : (s.extract a b).data.toList = (s.data.toList.take b).drop a := by
  simp [ByteArray.data_extract, List.drop_take]

set_option maxHeartbeats 1000000 in
theorem HashCuts_walk (s : ByteArray) (hs : s.size ≤ 140737488351232) (a : Option Addr) (cs : List Int) (n cap : Nat) (hn : Hid (cs.length = n)) (hn63 : n < 9223372036854775807) (w : World) (hk : Hid (Kh w)) (hc : Hid (IntAt w a cs)) :
    Calls Tryd.prog 6 #[.string s, .slice a n cap] w fun e w' => e = .returned (.bool true) ∧ Below w.heap.size w w' := by
  obtain ⟨i0, hi, hz0, hz1, hz2⟩ := info_parts infoStr
  have hl : Hid (s.data.toList.length = s.size) := by show s.data.toList.length = s.size; simp
  go_enter Tryd.func6, Tryd.ntmps6
  go_wp2_with fail
  refine Calls.mono (works_any _ hk.out) ?_
  rintro e w1 ⟨rfl, hb⟩
  have B1 : Hid (Below w.heap.size w w1 ∧ Kh w1) := ⟨hb, hk.out.later hb⟩
  clear hb
  go_wp2
  go_loopw [5, 6, 7] (fun sl at_ i wr => ∃ (j t : Nat) (ps : List ByteArray), j ≤ 20 ∧ j ≤ n ∧ t ≤ s.size ∧ at_ = .int .i64 (t : Int) ∧ i = .int .i64 (j : Int) ∧ Hid (wr.ownsRow w.heap.size 9 1 sl (2 * j) (scells ps) ∧ ps.flatMap (fun x => x.data.toList) = s.data.toList.take t ∧ (∀ x ∈ ps, x.size ≤ s.size) ∧ Below w.heap.size w wr)) (fun _ _ i _ => 20 - (intOf i).toNat)
  case atStart => exact ⟨0, 0, [], by omega, by omega, by omega, rfl, rfl, ⟨rfl, .inl ⟨rfl, rfl⟩⟩, by simp, by simp, B1.out.1⟩
  case round =>
    obtain ⟨j, t, ps, hj20, hjn, ht, rfl, rfl, J⟩ := hrel
    by_cases hgo : j < n ∧ j < 20
    · obtain ⟨g1, g2⟩ := hgo
      have hj' : j < cs.length := by have := hn.out; omega
      obtain ⟨b, o, rfl, hcell⟩ := IntAt.later hc.out J.out.2.2.2 j hj'
      generalize cs[j] = c at *
      obtain ⟨m, hm⟩ : ∃ m : Nat, (c % 18446744073709551616).toNat % (s.size - t + 1) = m := ⟨_, rfl⟩
      have hm2 : m ≤ s.size - t := by rw [← hm]; have := Nat.mod_lt (c % 18446744073709551616).toNat (show 0 < s.size - t + 1 by omega); omega
      have e1 : IntKind.u64.wrap ((s.size : Int) - (t : Int) + 1) = (s.size : Int) - (t : Int) + 1 := by rw [IntKind.wrap_u64]; omega
      have e2 : (IntKind.u64.wrap c).tmod ((s.size : Int) - (t : Int) + 1) = (m : Int) := by
        rw [IntKind.wrap_u64, Int.tmod_eq_emod_of_nonneg (by omega), ← hm]
        have h1 : c % 18446744073709551616 = (((c % 18446744073709551616).toNat : Nat) : Int) := by omega
        have h2 : (s.size : Int) - (t : Int) + 1 = ((s.size - t + 1 : Nat) : Int) := by omega
        rw [h2, h1]
        exact (Int.natCast_emod _ _).symm
      have d1 : (j : Int) < (n : Int) := by omega
      have d2 : (j : Int) < 20 := by omega
      have e3 : IntKind.i64.wrap (m : Int) = (m : Int) := by rw [IntKind.wrap_i64]; omega
      have e4 : IntKind.i64.wrap ((t : Int) + (m : Int)) = ((t + m : Nat) : Int) := by rw [IntKind.wrap_i64]; omega
      have e5 : ((t + m : Nat) : Int) ≤ (s.size : Int) := by omega
      have e6 : (t : Int) ≤ ((t + m : Nat) : Int) := by omega
      have e7 : ¬ ((s.size : Int) - (t : Int) + 1 = 0) := by omega
      have e8 : (s.size : Int) ≤ 140737488351232 := by omega
      clear hm
      have FL : Hid ((ps ++ [s.extract t (t + m), ⟨#[]⟩]).flatMap (fun x => x.data.toList) = s.data.toList.take (t + m)) := by
        show _ = _
        rw [List.flatMap_append, J.out.2.1]
        simp only [List.flatMap_cons, List.flatMap_nil, ext_list, List.append_nil]
        have h := List.take_append_drop t (s.data.toList.take (t + m))
        rw [List.take_take, Nat.min_eq_left (by omega)] at h
        simpa using h
      have SZ : Hid (∀ x ∈ ps ++ [s.extract t (t + m), ⟨#[]⟩], x.size ≤ s.size) := by
        intro x hx
        rcases List.mem_append.1 hx with hx | hx
        · exact J.out.2.2.1 x hx
        · simp only [List.mem_cons, List.not_mem_nil, or_false] at hx
          rcases hx with rfl | rfl
          · simp [ByteArray.size_extract]; omega
          · exact Nat.zero_le _
      go_wp2_with (first
        | (at_builtin; refine wpList_append_own _ rfl (.tmp 34) (.tmp 41) 26 rfl w.heap.size 9 i0 (.string ⟨#[]⟩) 1 16 Tryd.underlying26 hi hz0 hz1 hz2 rfl (by decide) _ _ _ rfl (J.out.1.alloc _) ⟨wr.heap.size, 0, none⟩ 2 2 [.string (s.extract t (t + m)), .string ⟨#[]⟩] rfl rfl (cells_new _ _ _) (by intro u hu; simp at hu; rcases hu with rfl | rfl <;> rfl) (by unfold maxLen; omega) (by omega) (by have := J.out.2.2.2.size; simp; omega) ?_; intro v1 w2 hown1 hgrow1 hnil1))
      go_roundw
      case rel =>
        refine ⟨j + 1, t + m, ps ++ [s.extract t (t + m), ⟨#[]⟩], by omega, by omega, by omega, by go_num, by go_num, ?_, FL.out, SZ.out, ?_⟩
        · unfold scells; rw [List.map_append, show 2 * (j + 1) = 2 * j + 2 by omega]; exact hown1
        · exact (J.out.2.2.2.alloc J.out.2.2.2.size _).grown hgrow1 (by have := J.out.2.2.2.size; simp; omega) (fun k hk => (J.out.1.lt k hk).1)
      case measure => simp [intOf]; omega
    · have FL : Hid ((ps ++ [s.extract t s.size]).flatMap (fun x => x.data.toList) = s.data.toList) := by
        show _ = _
        rw [List.flatMap_append, J.out.2.1]
        simp only [List.flatMap_cons, List.flatMap_nil, ext_list, List.append_nil]
        rw [List.take_of_length_le (i := s.size) (by rw [hl.out]; exact Nat.le_refl _), List.take_append_drop]
      have SZ : Hid (∀ x ∈ ps ++ [s.extract t s.size], x.size < 9223372036854775807) := by
        intro x hx
        rcases List.mem_append.1 hx with hx | hx
        · have := J.out.2.2.1 x hx; omega
        · simp only [List.mem_cons, List.not_mem_nil, or_false] at hx
          subst hx
          simp [ByteArray.size_extract]; omega
      have S1 : Hid (∀ (g c : Nat) (w : World), Kh w → StrAt w (some ⟨g, 0, none⟩) (ps ++ [s.extract t s.size]) → (ps ++ [s.extract t s.size]).length = 2 * j + 1 → Calls Tryd.prog 9 #[.slice (some ⟨g, 0, none⟩) (2 * j + 1) c] w fun e w' => e = .returned (.string ⟨(sha s.data.toList).toArray⟩) ∧ Below w.heap.size w w') := fun g c w h h0 hlen => by
        have h := Sum_any (some ⟨g, 0, none⟩) (ps ++ [s.extract t s.size]) (2 * j + 1) c hlen (by omega) w h.1 h.2 h0 SZ.out
        rw [FL.out] at h
        exact h
      have S2 : Hid (∀ (B : Nat) (w : World), Kh w → w.cell? ⟨B, 0, none⟩ = some (.string s) → Calls Tryd.prog 9 #[.slice (some ⟨B, 0, none⟩) 1 1] w fun e w' => e = .returned (.string ⟨(sha s.data.toList).toArray⟩) ∧ Below w.heap.size w w') := fun B w h h0 => by
        have h := Sum_any (some ⟨B, 0, none⟩) [s] 1 1 rfl (by decide) w h.1 h.2 (strAt1 h0) (fun x hx => by simp at hx; subst hx; omega)
        simp only [List.flatMap_cons, List.flatMap_nil, List.append_nil] at h
        exact h
      generalize (⟨(sha s.data.toList).toArray⟩ : ByteArray) = X at *
      clear FL
      have d3 : (t : Int) ≤ (s.size : Int) := by omega
      have d4 : (s.size : Int) ≤ 140737488351232 := by omega
      by_cases g1 : j < n
      · have g2 : ¬ (j : Int) < 20 := by omega
        have g3 : (j : Int) < (n : Int) := by omega
        have D1 : decide ((j : Int) < 20) = false := by simpa using g2
        clear hgo
        go_wp2_with (first
          | (at_builtin; refine wpList_append_own _ rfl (.tmp 46) (.tmp 50) 26 rfl w.heap.size 9 i0 (.string ⟨#[]⟩) 1 16 Tryd.underlying26 hi hz0 hz1 hz2 rfl (by decide) _ _ _ rfl (J.out.1.alloc _) ⟨wr.heap.size, 0, none⟩ 1 1 [.string (s.extract t s.size)] rfl rfl (cells_new _ _ _) (by intro u hu; simp at hu; subst hu; rfl) (by unfold maxLen; omega) (by omega) (by have := J.out.2.2.2.size; simp; omega) ?_; intro v1 w2 hown1 hgrow1 hnil1))
        have O2 : Hid (w2.ownsRow w.heap.size 9 1 v1 (2 * j + 1) (scells (ps ++ [s.extract t s.size])) ∧ Below w.heap.size w w2) := by
          refine ⟨?_, (J.out.2.2.2.alloc J.out.2.2.2.size _).grown hgrow1 (by have := J.out.2.2.2.size; simp; omega) (fun k hk => (J.out.1.lt k hk).1)⟩
          unfold scells; rw [List.map_append]; exact hown1
        clear hown1 hgrow1 hnil1
        obtain ⟨hlen, hor⟩ := owns_strs O2.out.1
        have HL : Hid ((ps ++ [s.extract t s.size]).length = 2 * j + 1) := hlen
        clear hlen
        rcases hor with ⟨-, h⟩ | ⟨g, c, rfl, hstr⟩
        · exact absurd h (by omega)
        · have HS : Hid (StrAt w2 (some ⟨g, 0, none⟩) (ps ++ [s.extract t s.size]) ∧ Kh w2) := ⟨hstr, hk.out.later O2.out.2⟩
          clear hstr
          go_wp2_with fail
          refine Calls.mono (S1.out g c _ HS.out.2 HS.out.1 HL.out) ?_
          rintro e w3 ⟨rfl, hb⟩
          have B3 : Hid (Below w.heap.size w w3 ∧ Kh w3) := ⟨chain O2.out.2 hb, HS.out.2.later hb⟩
          clear hb
          go_wp2_with fail
          refine Calls.mono (S2.out w3.heap.size _ (B3.out.2.alloc _) (by simp [go_sem])) ?_
          rintro e w4 ⟨rfl, hb⟩
          have B4 : Hid (Below w.heap.size w w4) := chain (B3.out.1.alloc B3.out.1.size _) hb
          clear hb
          go_wp2
          go_ret
          exact ⟨rfl, B4.out⟩
      · have g2 : ¬ (j : Int) < (n : Int) := by omega
        have D1 : decide ((j : Int) < (n : Int)) = false := by simpa using g2
        clear hgo
        go_wp2_with (first
          | (at_builtin; refine wpList_append_own _ rfl (.tmp 46) (.tmp 50) 26 rfl w.heap.size 9 i0 (.string ⟨#[]⟩) 1 16 Tryd.underlying26 hi hz0 hz1 hz2 rfl (by decide) _ _ _ rfl (J.out.1.alloc _) ⟨wr.heap.size, 0, none⟩ 1 1 [.string (s.extract t s.size)] rfl rfl (cells_new _ _ _) (by intro u hu; simp at hu; subst hu; rfl) (by unfold maxLen; omega) (by omega) (by have := J.out.2.2.2.size; simp; omega) ?_; intro v1 w2 hown1 hgrow1 hnil1))
        have O2 : Hid (w2.ownsRow w.heap.size 9 1 v1 (2 * j + 1) (scells (ps ++ [s.extract t s.size])) ∧ Below w.heap.size w w2) := by
          refine ⟨?_, (J.out.2.2.2.alloc J.out.2.2.2.size _).grown hgrow1 (by have := J.out.2.2.2.size; simp; omega) (fun k hk => (J.out.1.lt k hk).1)⟩
          unfold scells; rw [List.map_append]; exact hown1
        clear hown1 hgrow1 hnil1
        obtain ⟨hlen, hor⟩ := owns_strs O2.out.1
        have HL : Hid ((ps ++ [s.extract t s.size]).length = 2 * j + 1) := hlen
        clear hlen
        rcases hor with ⟨-, h⟩ | ⟨g, c, rfl, hstr⟩
        · exact absurd h (by omega)
        · have HS : Hid (StrAt w2 (some ⟨g, 0, none⟩) (ps ++ [s.extract t s.size]) ∧ Kh w2) := ⟨hstr, hk.out.later O2.out.2⟩
          clear hstr
          go_wp2_with fail
          refine Calls.mono (S1.out g c _ HS.out.2 HS.out.1 HL.out) ?_
          rintro e w3 ⟨rfl, hb⟩
          have B3 : Hid (Below w.heap.size w w3 ∧ Kh w3) := ⟨chain O2.out.2 hb, HS.out.2.later hb⟩
          clear hb
          go_wp2_with fail
          refine Calls.mono (S2.out w3.heap.size _ (B3.out.2.alloc _) (by simp [go_sem])) ?_
          rintro e w4 ⟨rfl, hb⟩
          have B4 : Hid (Below w.heap.size w w4) := chain (B3.out.1.alloc B3.out.1.size _) hb
          clear hb
          go_wp2
          go_ret
          exact ⟨rfl, B4.out⟩
end Go.Proofs.YtdebfelgaiofeabDoor
