/- Bytes that wait: appended to, copied. -/
import Derived.Test.YtbaajpefefedbaaFrQ
import Derived.Lib.AppendStr
import Derived.Shelf.Slices.Clone
namespace Go.Proofs.Ytbaajpefefedbaa
open Go.RowKit Go.Proofs.Fd Go.Proofs.Fr Go.Lib
set_option maxRecDepth 20000

theorem Buf.of_own {w : World} {base n : Nat} {v : Value} {h : List UInt8} (o : w.ownsRow base 5 1 v n (bcells h)) : ∃ g, base ≤ g ∧ Buf w g v h := by
  obtain ⟨h1, h2⟩ := o
  have hl : h.length = n := by simpa [bcells] using h1
  rcases h2 with ⟨rfl, e⟩ | ⟨g, cap, cur, rfl, hb, hg, hc, hm, hs, ht⟩
  · exact ⟨base, Nat.le_refl _, .inl ⟨rfl, List.length_eq_zero_iff.1 (by omega)⟩⟩
  · refine ⟨g, hb, .inr ⟨0, cap, cur, by rw [hl], hg, by omega, hm, by omega, ?_⟩⟩
    rw [List.drop_zero, hl]
    simpa using ht
theorem run_append_room_at {P : Program} (w : World) (t u ty e : TypeId) (i : TypeInfo) (ht : P.underlying t = some (.slice e)) (hu : P.underlying u = some .string) (hi : P.info? e = some i) (hs1 : i.size = 1)
    (g o sLen sCap : Nat) (cur : Array Value) (hg : w.heap[g]? = some (.cells cur e (0, 0))) (s : ByteArray)
    (hroom : sLen + s.size ≤ sCap) (hfit : o + sLen + s.size ≤ cur.size) :
    (Builtin.append_ #[t, u] ty #[.slice (some ⟨g, o, none⟩) sLen sCap, .string s]).run P w =
      .ok (.slice (some ⟨g, o, none⟩) (sLen + s.size) sCap) (w.setRow g (cur.toList.take (o + sLen) ++ strCells s ++ cur.toList.drop (o + sLen + s.size)).toArray) := by
  have hf := run_firstCells_string (P := P) w 1 s
  have hst := run_storeCells_at P g (o + sLen) e (strCells s) 0 cur w hg (by simpa [strCells_length] using hfit) (strCells_oneCell s)
  simp only [Nat.add_zero, strCells_length] at hst
  simp [Builtin.append_, run_underlying ht, run_underlying hu, sizeOf, typeInfo, hi, hs1, Builtin.lenOf, hroom, hf, add_at, hst]
/-- append of a string's bytes to the bytes that wait. -/
theorem buf_append (w : World) (ty g : Nat) (v : Value) (h : List UInt8) (s : ByteArray) (B : Buf w g v h) (hz : h.length + s.size ≤ 140737488355328) :
    ∃ v' w' g', (Builtin.append_ #[59, 9] ty #[v, .string s]).run Try.prog w = .ok v' w' ∧ Buf w' g' v' (h ++ s.data.toList) ∧ (g' = g ∧ v ≠ .slice none 0 0 ∨ w.heap.size ≤ g') ∧ (v' = .slice none 0 0 → v = .slice none 0 0) ∧ w.grownBy w' v.ownBlock := by
  obtain ⟨i, hi, hz0, hz1, hz2⟩ := info_parts infoByte
  have hlS : s.data.toList.length = s.size := by simp
  rcases B with ⟨rfl, rfl⟩ | ⟨o, cap, cur, rfl, hg, hc, hm, hs, ht⟩
  · obtain ⟨v', w', hr, ho, hgr, hn⟩ := run_append_own_string (P := Try.prog) w w.heap.size 59 9 ty 5 i Try.underlying59 Try.underlying9 hi hz0 hz1 hz2 (.slice none 0 0) 0 [] (World.ownsRow_nil _ _ _ _) s (by unfold maxLen; omega) (by simpa using hz) (Nat.le_refl _)
    rw [List.nil_append, strCells_eq] at ho
    obtain ⟨g', hg', hb⟩ := Buf.of_own ho
    exact ⟨v', w', g', hr, by simpa using hb, .inr hg', fun _ => rfl, hgr⟩
  · by_cases hroom : h.length + s.size ≤ cap
    · have hr := run_append_room_at (P := Try.prog) w 59 9 ty 5 i Try.underlying59 Try.underlying9 hi hz1 g o h.length cap cur hg s hroom (by omega)
      refine ⟨_, _, g, hr, .inr ⟨o, cap, _, by rw [List.length_append, hlS], setRow_heap w g cur _ _ _ hg, by rw [List.length_append, hlS]; exact hroom, hm, ?_, ?_⟩, .inl ⟨rfl, by simp⟩, fun z => (by cases z), ⟨rfl, rfl, rfl, by simp, fun k _ hk => setRow_other w g k _ (fun e => hk (by simp [Value.ownBlock, e]))⟩⟩
      · simp only [List.size_toArray, List.length_append, List.length_take, List.length_drop, Array.length_toList, strCells_length]
        omega
      · rw [strCells_eq, bcells_app, ← ht, List.length_append, hlS]
        have e1 : (cur.toList.take (o + h.length)) = cur.toList.take o ++ (cur.toList.drop o).take h.length := by rw [List.take_add]
        have l1 : (cur.toList.take o).length = o := by rw [List.length_take]; simp; omega
        have l2 : ((cur.toList.drop o).take h.length).length = h.length := by rw [List.length_take, List.length_drop]; simp; omega
        rw [e1]
        show List.take _ (List.drop o (cur.toList.take o ++ (cur.toList.drop o).take h.length ++ bcells s.data.toList ++ cur.toList.drop (o + h.length + s.size))) = _
        rw [List.append_assoc, List.append_assoc, List.drop_append_of_le_length (by omega), List.drop_of_length_le (by omega), List.nil_append, ← List.append_assoc, List.take_append_of_le_length (by rw [List.length_append, l2, bcells_len, hlS]; exact Nat.le_refl _), List.take_of_length_le (by rw [List.length_append, l2, bcells_len, hlS]; exact Nat.le_refl _)]
    · have holds : ∀ j u, (bcells h)[j]? = some u → w.cell? ((⟨g, o, none⟩ : Addr).add j) = some u := by
        intro j u hu
        have hj : j < h.length := by have := (List.getElem?_eq_some_iff.1 hu).1; rw [bcells_len] at this; exact this
        rw [add_at, buf_cell hg ht j hj hj, ← hu]
        simp [bcells, hj]
      have hr := run_append_grow_string (P := Try.prog) w 59 9 ty 5 i (.int .u8 0) Try.underlying59 Try.underlying9 hi hz0 ⟨g, o, none⟩ h.length cap (bcells h) (by rw [hz1, bcells_len]; omega) holds s (by omega) (by omega) (by rw [hz2]; exact growslice_fits (by omega) (by omega))
      have hge := grownCap_ge w (h.length + s.size) cap 5
      have hcm := grownCap_le_maxLen w (h.length + s.size) cap 5 (by unfold maxLen; omega)
      refine ⟨_, _, w.heap.size, hr, .inr ⟨0, _, _, by rw [List.length_append, hlS], heap_alloc_new w.drew _, by rw [List.length_append, hlS]; exact hge, hcm, ?_, ?_⟩, .inr (Nat.le_refl _), fun z => (by cases z), ⟨rfl, rfl, rfl, by simp, fun k hk _ => Below.heap_alloc w.drew _ k hk⟩⟩
      · have hz1' : (Value.int IntKind.u8 0).cells.size = 1 := rfl
        simp only [Array.size_append, List.size_toArray, size_zeroCells, hz1', bcells_len, strCells_length]
        omega
      · simp only [Array.toList_append, List.drop_zero]
        rw [strCells_eq, ← bcells_app, List.take_append_of_le_length (by rw [bcells_len]; exact Nat.le_refl _), List.take_of_length_le (by rw [bcells_len]; exact Nat.le_refl _)]
set_option maxHeartbeats 2000000 in
/-- bytes.Clone. -/
theorem clone_any (w : World) (g : Nat) (v : Value) (h : List UInt8) (B : Hid (Buf w g v h)) (hz : h.length ≤ 140737488355328) :
    Calls Try.prog 48 #[v] w fun e w' => ∃ v' g', e = .returned v' ∧ Buf w' g' v' h ∧ w.heap.size ≤ g' ∧ Below w.heap.size w w' := by
  obtain ⟨i0, hi, hz0, hz1, hz2⟩ := info_parts infoByte
  have q22 : ∀ (w : World) (a : Option Addr) (n c n' c' : Nat), (binOp .eql 59 (.slice a n c) (.slice none n' c')).run Try.prog w = .ok (.bool a.isNone) w := fun w a n c n' c' => Lib.run_eql_slice_nil w _ _ a n c n' c' Try.underlying59
  rcases B.out with ⟨rfl, rfl⟩ | ⟨o, cap, cur, rfl, hg, hc, hm, hs, ht⟩
  · clear B
    go_enter Try.func48, Try.ntmps48
    go_wp2
    go_ret
    exact ⟨_, w.heap.size, rfl, .inl ⟨rfl, rfl⟩, Nat.le_refl _, Below.refl _ _⟩
  · have A : Hid (∀ j u, (bcells h)[j]? = some u → w.cell? ((⟨g, o, none⟩ : Addr).add j) = some u) := by
      intro j u hu
      have hj : j < h.length := by have := (List.getElem?_eq_some_iff.1 hu).1; rw [bcells_len] at this; exact this
      rw [add_at, buf_cell hg ht j hj hj, ← hu]
      simp [bcells, hj]
    clear B hg ht hm hs hc
    go_enter Try.func48, Try.ntmps48
    go_wp2_with (at_builtin; refine wpList_append_own _ rfl _ _ 59 rfl w.heap.size 5 i0 (.int .u8 0) 1 1 Try.underlying59 hi hz0 hz1 hz2 rfl (by decide) _ _ _ rfl (World.ownsRow_made w #[] 0 (Nat.le_refl _) (Nat.zero_le _) rfl) ⟨g, o, none⟩ h.length cap (bcells h) rfl ?qc1 ?qc2 ?qc3 ?qc4 ?qc5 ?qc6 ?_)
    case qc1 => rw [bcells_len]; omega
    case qc2 => intro j u hj; exact Lib.cell?_alloc_some _ (A.out j u hj)
    case qc3 => exact bcells_one h
    case qc4 => unfold maxLen; omega
    case qc5 => omega
    case qc6 => simp
    intro v' w1 hown hgrow hnil
    obtain ⟨g', hg', hb⟩ := Buf.of_own hown
    have F : Hid (Buf w1 g' v' h ∧ w.heap.size ≤ g' ∧ Below w.heap.size w w1) := ⟨by simpa using hb, hg', ((Below.refl _ w).alloc (Nat.le_refl _) _).grown hgrow (by simp) (by intro k hk; simp [Value.ownBlock] at hk; omega)⟩
    clear hown hgrow hnil hb hg' A
    go_wp2
    go_ret
    exact ⟨v', g', rfl, F.out⟩
end Go.Proofs.Ytbaajpefefedbaa
