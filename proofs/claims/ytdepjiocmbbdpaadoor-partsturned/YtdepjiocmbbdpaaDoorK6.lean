/- The digests. -/
import Derived.Test.YtdepjiocmbbdpaaDoorK5
import Derived.Deep.MidRow
import Derived.Lib.LazyBuf
namespace Go.Proofs.YtdepjiocmbbdpaaDoor
open Go.RowKit Go.Proofs.Fd Go.Proofs.Hs

/-- The machine's cells at the start. -/
def c25 : List Value := [.int .u32 1779033703, .int .u32 3144134277, .int .u32 1013904242, .int .u32 2773480762, .int .u32 1359893119, .int .u32 2600822924, .int .u32 528734635, .int .u32 1541459225, .int .u32 0, .int .u32 0, .int .u32 0, .int .u32 0, .int .u32 0, .int .u32 0, .int .u32 0, .int .u32 0, .int .u32 0, .int .u32 0, .int .u32 0, .int .u32 0, .int .u32 0, .int .u32 0, .int .u32 0, .int .u32 0, .int .u64 0]
theorem build25 (w : World) : (Instr.build 120 #[(0, .agg #[.int .u32 1779033703, .int .u32 3144134277, .int .u32 1013904242, .int .u32 2773480762, .int .u32 1359893119, .int .u32 2600822924, .int .u32 528734635, .int .u32 1541459225])]).run Tryd.prog w = .ok (.agg c25.toArray) w := by kernel_rfl
theorem size25 : (Tryd.prog.info? 120).map (·.size) = some 25 := by kernel_rfl
theorem c25_one : ∀ v ∈ c25, v.oneCell' = true := by
  intro v hv
  simp only [c25, List.mem_cons, List.not_mem_nil, or_false] at hv
  rcases hv with rfl | rfl | rfl | rfl | rfl | rfl | rfl | rfl | rfl | rfl | rfl | rfl | rfl | rfl | rfl | rfl | rfl | rfl | rfl | rfl | rfl | rfl | rfl | rfl | rfl <;> rfl
theorem there25 (w : World) (t : TypeId) : (w.alloc (.cells #[.int .u32 0, .int .u32 0, .int .u32 0, .int .u32 0, .int .u32 0, .int .u32 0, .int .u32 0, .int .u32 0, .int .u32 0, .int .u32 0, .int .u32 0, .int .u32 0, .int .u32 0, .int .u32 0, .int .u32 0, .int .u32 0, .int .u32 0, .int .u32 0, .int .u32 0, .int .u32 0, .int .u32 0, .int .u32 0, .int .u32 0, .int .u32 0, .int .u64 0] t)).there w.heap.size 0 25 := fun j hj => by
  refine ⟨?_, by simp [go_sem]⟩
  rw [Nat.zero_add, World.cell?_alloc_new, Array.getElem?_eq_getElem (xs := (#[.int .u32 0, .int .u32 0, .int .u32 0, .int .u32 0, .int .u32 0, .int .u32 0, .int .u32 0, .int .u32 0, .int .u32 0, .int .u32 0, .int .u32 0, .int .u32 0, .int .u32 0, .int .u32 0, .int .u32 0, .int .u32 0, .int .u32 0, .int .u32 0, .int .u32 0, .int .u32 0, .int .u32 0, .int .u32 0, .int .u32 0, .int .u32 0, .int .u64 0] : Array Value)) hj]
  rfl

theorem res_one (tmps : Array Value) (w : World) (b : Nat) (x : Array Value) (h0 : tmps.getD 0 undef = .pointer (some ⟨b, 0, none⟩))
    (l1 : (loadVar 120 ⟨b, 0, none⟩).run Tryd.prog w = .ok (.agg x) w) :
    (results Tryd.f56 tmps).run Tryd.prog w = .ok (.agg x) w := by
  unfold results
  rw [Tryd.results56]
  have h0' : tmps[0]?.getD undef = .pointer (some ⟨b, 0, none⟩) := by simpa using h0
  simp [h0', l1, asAddr]

theorem oper_ok {P : Program} {o : Oper} {a : Act} {w w' : World} {K : Act → World → Prop} {Q : Exit → Act → World → Prop} {v : Value} (h : (execOp a.eval o).run P w = .ok (.value v) w') (hk : K (a.put o.dst v) w') : o.wp P a w K Q := by
  unfold Oper.wp
  rw [h]
  exact hk

set_option maxRecDepth 10000 in
set_option maxHeartbeats 1000000 in
theorem begin_any (w : World) :
    Calls Tryd.prog 56 #[] w fun e w' => e = .returned (.agg c25.toArray) ∧ Below w.heap.size w w' := by
  obtain ⟨W, hW⟩ : ∃ W, w.alloc (.cells #[.int .u32 0, .int .u32 0, .int .u32 0, .int .u32 0, .int .u32 0, .int .u32 0, .int .u32 0, .int .u32 0, .int .u32 0, .int .u32 0, .int .u32 0, .int .u32 0, .int .u32 0, .int .u32 0, .int .u32 0, .int .u32 0, .int .u32 0, .int .u32 0, .int .u32 0, .int .u32 0, .int .u32 0, .int .u32 0, .int .u32 0, .int .u32 0, .int .u64 0] 120) = W := ⟨_, rfl⟩
  have TH : Hid (W.there w.heap.size 0 25) := hW ▸ there25 w _
  obtain ⟨V, hV⟩ : ∃ V, W.setCells w.heap.size 0 c25.toArray.toList = V := ⟨_, rfl⟩
  have RV : Hid (V.rangeAt w.heap.size 0 c25 ∧ Below w.heap.size w V) := by
    rw [← hV]
    exact ⟨World.rangeAt_setCells_same W w.heap.size 0 c25 TH.out, below_setCells (Nat.le_refl _) _ _ _ (hW ▸ (Below.refl _ _).alloc (Nat.le_refl _) _)⟩
  go_enter Tryd.func56, Tryd.ntmps56
  refine wp_seq_k (fun K1 hK1 => ?_)
  refine wp_region_list (wpList_plain rfl (fun K hK => ?_))
  refine oper_ok (v := .pointer (some ⟨w.heap.size, 0, none⟩)) (w' := W) (by rw [← hW]; kernel_rfl) ?_
  refine hK _ _ (wpList_nil (hK1 _ _ ?_))
  clear hK hK1 K K1
  simp only [Act.put, List.setIfInBounds_toArray, List.set_cons_zero]
  refine wp_seq_k (fun K1 hK1 => ?_)
  refine wp_region_list (wpList_plain rfl (fun K hK => ?_))
  refine oper_ok (v := .agg #[.int .u32 1779033703, .int .u32 3144134277, .int .u32 1013904242, .int .u32 2773480762, .int .u32 1359893119, .int .u32 2600822924, .int .u32 528734635, .int .u32 1541459225]) (w' := W) (by kernel_rfl) ?_
  refine hK _ _ (wpList_plain rfl (fun K' hK' => ?_))
  clear hK K
  refine oper_ok (v := .agg c25.toArray) (w' := W) (by kernel_rfl) ?_
  refine hK' _ _ ?_
  clear hK' K'
  simp only [Act.put, List.setIfInBounds_toArray, List.set_cons_zero, List.set_cons_succ]
  refine wpList_store_mid rfl 120 (.tmp 0) (.tmp 2) rfl w.heap.size 0 c25.toArray (by kernel_rfl) (by kernel_rfl) TH.out size25 (all_oneCell_toArray c25_one) ?_
  rw [hV]
  refine wpList_nil (hK1 _ _ ?_)
  clear hK1 K1 hV hW TH
  simp only [Act.put]
  go_wp2
  refine bodyPost_ret (v := .agg c25.toArray) ?_ rfl ⟨rfl, RV.out.2⟩
  exact res_one _ V w.heap.size _ (by kernel_rfl) (run_loadVar_mid V w.heap.size 0 120 c25 _ RV.out.1 Tryd.underlying120 rfl size25)

theorem start_mc {w V : World} (hp : 0 < w.heap.size) (hk : KstAt w) (hb : Below w.heap.size w V) (hr : V.rangeAt w.heap.size 0 c25) (hz : ∀ o, V.frozen? ⟨w.heap.size, o, none⟩ = false) : Mc V w.heap.size Hs.start := by
  refine ⟨hp, hk.later hb hp, hr 0 _ rfl, hr 1 _ rfl, hr 2 _ rfl, hr 3 _ rfl, hr 4 _ rfl, hr 5 _ rfl, hr 6 _ rfl, hr 7 _ rfl, fun k hk => ?_, hr 24 _ rfl, hz, rfl, by decide⟩
  rcases (by omega : k = 0 ∨ k = 1 ∨ k = 2 ∨ k = 3 ∨ k = 4 ∨ k = 5 ∨ k = 6 ∨ k = 7 ∨ k = 8 ∨ k = 9 ∨ k = 10 ∨ k = 11 ∨ k = 12 ∨ k = 13 ∨ k = 14 ∨ k = 15) with rfl | rfl | rfl | rfl | rfl | rfl | rfl | rfl | rfl | rfl | rfl | rfl | rfl | rfl | rfl | rfl
  · exact hr 8 _ rfl
  · exact hr 9 _ rfl
  · exact hr 10 _ rfl
  · exact hr 11 _ rfl
  · exact hr 12 _ rfl
  · exact hr 13 _ rfl
  · exact hr 14 _ rfl
  · exact hr 15 _ rfl
  · exact hr 16 _ rfl
  · exact hr 17 _ rfl
  · exact hr 18 _ rfl
  · exact hr 19 _ rfl
  · exact hr 20 _ rfl
  · exact hr 21 _ rfl
  · exact hr 22 _ rfl
  · exact hr 23 _ rfl

/-- Strings that lie in a row. -/
def StrAt (w : World) (a : Option Addr) (ks : List ByteArray) : Prop := ∀ i (hi : i < ks.length), ∃ b o, a = some ⟨b, o, none⟩ ∧ w.cell? ⟨b, o + i, none⟩ = some (.string ks[i])

theorem StrAt.later {B : Nat} {W w1 : World} {a : Option Addr} {ks : List ByteArray} (h : StrAt W a ks) (hb : Below B W w1) (hB : W.heap.size = B) : StrAt w1 a ks := fun i hi => by
  subst hB
  obtain ⟨b, o, e, hc⟩ := h i hi
  exact ⟨b, o, e, cell_later hb hc⟩

theorem flat_step {β : Type} (f : ByteArray → List β) (ks : List ByteArray) (k : Nat) (hk : k < ks.length) : (ks.take (k + 1)).flatMap f = (ks.take k).flatMap f ++ f ks[k] := by
  rw [List.take_succ_eq_append_getElem hk, List.flatMap_append, List.flatMap_singleton]

set_option maxHeartbeats 1000000 in
theorem Sum_any (a : Option Addr) (ks : List ByteArray) (n cap : Nat) (hn : Hid (ks.length = n)) (hn63 : n < 9223372036854775807) (w : World) (hp : 0 < w.heap.size) (hk : Hid (KstAt w)) (hc : Hid (StrAt w a ks)) (hs : Hid (∀ s ∈ ks, s.size < 9223372036854775807)) :
    Calls Tryd.prog 46 #[.slice a n cap] w fun e w' => e = .returned (.string ⟨(sha (ks.flatMap fun s => s.data.toList)).toArray⟩) ∧ Below w.heap.size w w' := by
  go_enter Tryd.func46, Tryd.ntmps46
  go_wp2_with fail
  refine Calls.mono (begin_any _) ?_
  rintro e w1 ⟨rfl, hb1⟩
  obtain ⟨W, hW⟩ : ∃ W, w1.alloc (.cells #[.int .u32 0, .int .u32 0, .int .u32 0, .int .u32 0, .int .u32 0, .int .u32 0, .int .u32 0, .int .u32 0, .int .u32 0, .int .u32 0, .int .u32 0, .int .u32 0, .int .u32 0, .int .u32 0, .int .u32 0, .int .u32 0, .int .u32 0, .int .u32 0, .int .u32 0, .int .u32 0, .int .u32 0, .int .u32 0, .int .u32 0, .int .u32 0, .int .u64 0] 120) = W := ⟨_, rfl⟩
  have TH : Hid (W.there w1.heap.size 0 25) := hW ▸ there25 w1 _
  obtain ⟨V, hV⟩ : ∃ V, W.setCells w1.heap.size 0 c25.toArray.toList = V := ⟨_, rfl⟩
  have hS : (storeCells ⟨w1.heap.size, 0, none⟩ c25).run Tryd.prog W = .ok () V := by
    have := run_storeCells_cells (P := Tryd.prog) w1.heap.size 0 c25 0 W (fun j hj => by simpa using (TH.out j hj).1) (fun j hj => by simpa using (TH.out j hj).2) c25_one
    rw [← hV]
    simpa using this
  have hl25 : c25.length = 25 := rfl
  have K1 : Hid (0 < w1.heap.size ∧ KstAt w1 ∧ Below w.heap.size w w1) := ⟨Nat.lt_of_lt_of_le hp hb1.size, hk.out.later hb1 hp, hb1⟩
  have MV : Hid (Mc V w1.heap.size Hs.start ∧ Below w.heap.size w V) := by
    have hbV : Below w1.heap.size w1 V := by
      rw [← hV]
      exact below_setCells (Nat.le_refl _) _ _ _ (hW ▸ (Below.refl _ _).alloc (Nat.le_refl _) _)
    refine ⟨start_mc K1.out.1 K1.out.2.1 hbV (hV ▸ World.rangeAt_setCells_same W w1.heap.size 0 c25 TH.out)  (fun o => ?_), chain K1.out.2.2 hbV⟩
    rw [← hV, World.frozen?_setCells, ← hW]
    simp [go_sem]
  clear hb1 hV TH
  go_wp2
  obtain ⟨B, hB⟩ : ∃ B, w1.heap.size = B := ⟨_, rfl⟩
  rw [hB] at MV K1
  rw [hB]
  have HB : Hid (w.heap.size ≤ B) := by show w.heap.size ≤ B; rw [← hB]; exact K1.out.2.2.size
  clear hW hS hB hl25
  go_loopw [9] (fun i wr => ∃ k : Nat, k ≤ n ∧ i = .int .i64 (k : Int) ∧ Hid (Mc wr B (Hs.start.text ((ks.take k).flatMap (fun s => s.data.toList))) ∧ Below w.heap.size w wr)) (fun i _ => n - (intOf i).toNat)
  case atStart => exact ⟨0, Nat.zero_le _, rfl, MV.out⟩
  case round =>
    obtain ⟨k, hk1, rfl, I⟩ := hrel
    by_cases hlt : k < n
    · have hk' : k < ks.length := by have := hn.out; omega
      obtain ⟨b, o, rfl, hcell⟩ := StrAt.later hc.out I.out.2 rfl k hk'
      have FS := flat_step (fun s => s.data.toList) ks k hk'
      have HS : Hid (ks[k].size < 9223372036854775807) := hs.out _ (List.getElem_mem hk')
      generalize ks[k] = s at *
      have HF : Hid (_ = _) := FS
      clear FS
      go_wp2_with fail
      refine Calls.mono (text_any B _ s HS.out _ I.out.1) ?_
      rintro e w3 ⟨rfl, M2, hb2⟩
      have M3 : Hid (Mc w3 B (Hs.start.text ((ks.take (k + 1)).flatMap fun s => s.data.toList)) ∧ Below w.heap.size w w3) := by
        refine ⟨?_, I.out.2.trans (hb2.mono HB.out)⟩
        rw [HF.out, text_app]
        exact M2
      clear M2 hb2
      go_wp2
      go_roundw
      case rel => exact ⟨k + 1, by omega, by go_num, M3.out⟩
      case measure => simp [intOf]; omega
    · have hkn : k = n := by omega
      subst hkn
      have M3 : Hid (Mc wr B (Hs.start.text (ks.flatMap (fun s => s.data.toList))) ∧ Below w.heap.size w wr) := by
        have := I.out
        rw [List.take_of_length_le (by have := hn.out; omega)] at this
        exact this
      go_wp2_with fail
      refine Calls.mono (end_any B _ _ M3.out.1) ?_
      rintro e w5 ⟨rfl, hb5⟩
      have B5 : Hid (Below w.heap.size w w5) := M3.out.2.trans (hb5.mono HB.out)
      clear hb5
      go_wp2
      go_ret
      exact ⟨rfl, B5.out⟩

end Go.Proofs.YtdepjiocmbbdpaaDoor
