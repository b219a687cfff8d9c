/- Parts: K6, K7, K8, K9, KS, KT, KR1, KR2, KR3. -/
import Derived.Test.YtjpaodepnacimaaGreatDoorZbG04
import Derived.Deep.MidRow
import Derived.Lib.LazyBuf
import Derived.Laws.MakeOwn
import Derived.Test.YtjpaodepnacimaaGreatDoorZbG02
namespace Go.Proofs.YtjpaodepnacimaaGreatDoor
open Go.RowKit Go.Proofs.Fd Go.Proofs.Hs
def c25 : List Value := [.int .u32 1779033703, .int .u32 3144134277, .int .u32 1013904242, .int .u32 2773480762, .int .u32 1359893119, .int .u32 2600822924, .int .u32 528734635, .int .u32 1541459225, .int .u32 0, .int .u32 0, .int .u32 0, .int .u32 0, .int .u32 0, .int .u32 0, .int .u32 0, .int .u32 0, .int .u32 0, .int .u32 0, .int .u32 0, .int .u32 0, .int .u32 0, .int .u32 0, .int .u32 0, .int .u32 0, .int .u64 0]
theorem size25 : (Tryz.prog.info? 233).map (·.size) = some 25 := by kernel_rfl
theorem c25_one : ∀ v ∈ c25, v.oneCell' = true := by
  intro v hv
  simp only [c25, List.mem_cons, List.not_mem_nil, or_false] at hv
  rcases hv with rfl | rfl | rfl | rfl | rfl | rfl | rfl | rfl | rfl | rfl | rfl | rfl | rfl | rfl | rfl | rfl | rfl | rfl | rfl | rfl | rfl | rfl | rfl | rfl | rfl <;> rfl
theorem there25 (w : World) (t : TypeId) : (w.alloc (.cells #[.int .u32 0, .int .u32 0, .int .u32 0, .int .u32 0, .int .u32 0, .int .u32 0, .int .u32 0, .int .u32 0, .int .u32 0, .int .u32 0, .int .u32 0, .int .u32 0, .int .u32 0, .int .u32 0, .int .u32 0, .int .u32 0, .int .u32 0, .int .u32 0, .int .u32 0, .int .u32 0, .int .u32 0, .int .u32 0, .int .u32 0, .int .u32 0, .int .u64 0] t)).there w.heap.size 0 25 := fun j hj => by
  refine ⟨?_, by simp [go_sem]⟩
  rw [Nat.zero_add, World.cell?_alloc_new, Array.getElem?_eq_getElem (xs := (#[.int .u32 0, .int .u32 0, .int .u32 0, .int .u32 0, .int .u32 0, .int .u32 0, .int .u32 0, .int .u32 0, .int .u32 0, .int .u32 0, .int .u32 0, .int .u32 0, .int .u32 0, .int .u32 0, .int .u32 0, .int .u32 0, .int .u32 0, .int .u32 0, .int .u32 0, .int .u32 0, .int .u32 0, .int .u32 0, .int .u32 0, .int .u32 0, .int .u64 0] : Array Value)) hj]
  rfl
theorem res_one (tmps : Array Value) (w : World) (b : Nat) (x : Array Value) (h0 : tmps.getD 0 undef = .pointer (some ⟨b, 0, none⟩))
    (l1 : (loadVar 233 ⟨b, 0, none⟩).run Tryz.prog w = .ok (.agg x) w) :
    (results Tryz.f177 tmps).run Tryz.prog w = .ok (.agg x) w := by
  unfold results
  rw [Tryz.results177]
  have h0' : tmps[0]?.getD undef = .pointer (some ⟨b, 0, none⟩) := by simpa using h0
  simp [h0', l1, asAddr]
theorem oper_ok {P : Program} {o : Oper} {a : Act} {w w' : World} {K : Act → World → Prop} {Q : Exit → Act → World → Prop} {v : Value} (h : (execOp a.eval o).run P w = .ok (.value v) w') (hk : K (a.put o.dst v) w') : o.wp P a w K Q := by
  unfold Oper.wp
  rw [h]
  exact hk
set_option maxRecDepth 10000 in
set_option maxHeartbeats 1000000 in
theorem begin_any (w : World) :
    Calls Tryz.prog 177 #[] w fun e w' => e = .returned (.agg c25.toArray) ∧ Below w.heap.size w w' := by
  obtain ⟨W, hW⟩ : ∃ W, w.alloc (.cells #[.int .u32 0, .int .u32 0, .int .u32 0, .int .u32 0, .int .u32 0, .int .u32 0, .int .u32 0, .int .u32 0, .int .u32 0, .int .u32 0, .int .u32 0, .int .u32 0, .int .u32 0, .int .u32 0, .int .u32 0, .int .u32 0, .int .u32 0, .int .u32 0, .int .u32 0, .int .u32 0, .int .u32 0, .int .u32 0, .int .u32 0, .int .u32 0, .int .u64 0] 233) = W := ⟨_, rfl⟩
  have TH : Hid (W.there w.heap.size 0 25) := hW ▸ there25 w _
  obtain ⟨V, hV⟩ : ∃ V, W.setCells w.heap.size 0 c25.toArray.toList = V := ⟨_, rfl⟩
  have RV : Hid (V.rangeAt w.heap.size 0 c25 ∧ Below w.heap.size w V) := by
    rw [← hV]
    exact ⟨World.rangeAt_setCells_same W w.heap.size 0 c25 TH.out, below_setCells (Nat.le_refl _) _ _ _ (hW ▸ (Below.refl _ _).alloc (Nat.le_refl _) _)⟩
  go_enter Tryz.func177, Tryz.ntmps177
  refine wp_seq_k (fun K1 hK1 => ?_)
  refine wp_region_list (wpList_plain rfl (fun K hK => ?_))
  refine oper_ok (v := .pointer (some ⟨w.heap.size, 0, none⟩)) (w' := W) (by rw [← hW]; kernel_rfl) ?_
  refine hK _ _ (wpList_nil (hK1 _ _ ?_))
  clear hK hK1 K K1
  simp only [Act.put, List.setIfInBounds_toArray, List.set_cons_zero]
  refine wp_seq_k (fun K1 hK1 => ?_)
  refine wp_region_list (wpList_plain rfl (fun K hK => ?_))
  refine oper_ok (v := .agg #[.int .u32 1779033703, .int .u32 3144134277, .int .u32 1013904242, .int .u32 2773480762, .int .u32 1359893119, .int .u32 2600822924, .int .u32 528734635, .int .u32 1541459225]) (w' := W) (by kernel_rfl) ?_
  refine hK _ _ (wpList_plain rfl (fun K' hK' => ?_))
  clear hK K
  refine oper_ok (v := .agg c25.toArray) (w' := W) (by kernel_rfl) ?_
  refine hK' _ _ ?_
  clear hK' K'
  simp only [Act.put, List.setIfInBounds_toArray, List.set_cons_zero, List.set_cons_succ]
  refine wpList_store_mid rfl 233 (.tmp 0) (.tmp 2) rfl w.heap.size 0 c25.toArray (by kernel_rfl) (by kernel_rfl) TH.out size25 (all_oneCell_toArray c25_one) ?_
  rw [hV]
  refine wpList_nil (hK1 _ _ ?_)
  clear hK1 K1 hV hW TH
  simp only [Act.put]
  go_wp2
  refine bodyPost_ret (v := .agg c25.toArray) ?_ rfl ⟨rfl, RV.out.2⟩
  exact res_one _ V w.heap.size _ (by kernel_rfl) (run_loadVar_mid V w.heap.size 0 233 c25 _ RV.out.1 Tryz.underlying233 rfl size25)
theorem start_mc {w V : World} (hp : 3 < w.heap.size) (hk : KstAt w) (hb : Below w.heap.size w V) (hr : V.rangeAt w.heap.size 0 c25) (hz : ∀ o, V.frozen? ⟨w.heap.size, o, none⟩ = false) : Mc V w.heap.size Hs.start := by
  refine ⟨hp, hk.later hb hp, hr 0 _ rfl, hr 1 _ rfl, hr 2 _ rfl, hr 3 _ rfl, hr 4 _ rfl, hr 5 _ rfl, hr 6 _ rfl, hr 7 _ rfl, fun k hk => ?_, hr 24 _ rfl, hz, rfl, by decide⟩
  rcases (by omega : k = 0 ∨ k = 1 ∨ k = 2 ∨ k = 3 ∨ k = 4 ∨ k = 5 ∨ k = 6 ∨ k = 7 ∨ k = 8 ∨ k = 9 ∨ k = 10 ∨ k = 11 ∨ k = 12 ∨ k = 13 ∨ k = 14 ∨ k = 15) with rfl | rfl | rfl | rfl | rfl | rfl | rfl | rfl | rfl | rfl | rfl | rfl | rfl | rfl | rfl | rfl
  · exact hr 8 _ rfl
  · exact hr 9 _ rfl
  · exact hr 10 _ rfl
  · exact hr 11 _ rfl
  · exact hr 12 _ rfl
  · exact hr 13 _ rfl
  · exact hr 14 _ rfl
  · exact hr 15 _ rfl
  · exact hr 16 _ rfl
  · exact hr 17 _ rfl
  · exact hr 18 _ rfl
  · exact hr 19 _ rfl
  · exact hr 20 _ rfl
  · exact hr 21 _ rfl
  · exact hr 22 _ rfl
  · exact hr 23 _ rfl
def StrAt (w : World) (a : Option Addr) (ks : List ByteArray) : Prop := ∀ i (hi : i < ks.length), ∃ b o, a = some ⟨b, o, none⟩ ∧ w.cell? ⟨b, o + i, none⟩ = some (.string ks[i])
theorem StrAt.later {B : Nat} {W w1 : World} {a : Option Addr} {ks : List ByteArray} (h : StrAt W a ks) (hb : Below B W w1) (hB : W.heap.size = B) : StrAt w1 a ks := fun i hi => by
  subst hB
  obtain ⟨b, o, e, hc⟩ := h i hi
  exact ⟨b, o, e, cell_later hb hc⟩
theorem flat_step {β : Type} (f : ByteArray → List β) (ks : List ByteArray) (k : Nat) (hk : k < ks.length) : (ks.take (k + 1)).flatMap f = (ks.take k).flatMap f ++ f ks[k] := by
  rw [List.take_succ_eq_append_getElem hk, List.flatMap_append, List.flatMap_singleton]
set_option maxHeartbeats 1000000 in
theorem Sum_any (a : Option Addr) (ks : List ByteArray) (n cap : Nat) (hn : Hid (ks.length = n)) (hn63 : n < 9223372036854775807) (w : World) (hp : 3 < w.heap.size) (hk : Hid (KstAt w)) (hc : Hid (StrAt w a ks)) (hs : Hid (∀ s ∈ ks, s.size < 9223372036854775807)) :
    Calls Tryz.prog 174 #[.slice a n cap] w fun e w' => e = .returned (.string ⟨(sha (ks.flatMap fun s => s.data.toList)).toArray⟩) ∧ Below w.heap.size w w' := by
  go_enter Tryz.func174, Tryz.ntmps174
  go_wp2_with fail
  refine Calls.mono (begin_any _) ?_
  rintro e w1 ⟨rfl, hb1⟩
  obtain ⟨W, hW⟩ : ∃ W, w1.alloc (.cells #[.int .u32 0, .int .u32 0, .int .u32 0, .int .u32 0, .int .u32 0, .int .u32 0, .int .u32 0, .int .u32 0, .int .u32 0, .int .u32 0, .int .u32 0, .int .u32 0, .int .u32 0, .int .u32 0, .int .u32 0, .int .u32 0, .int .u32 0, .int .u32 0, .int .u32 0, .int .u32 0, .int .u32 0, .int .u32 0, .int .u32 0, .int .u32 0, .int .u64 0] 233) = W := ⟨_, rfl⟩
  have TH : Hid (W.there w1.heap.size 0 25) := hW ▸ there25 w1 _
  obtain ⟨V, hV⟩ : ∃ V, W.setCells w1.heap.size 0 c25.toArray.toList = V := ⟨_, rfl⟩
  have hS : (storeCells ⟨w1.heap.size, 0, none⟩ c25).run Tryz.prog W = .ok () V := by
    have := run_storeCells_cells (P := Tryz.prog) w1.heap.size 0 c25 0 W (fun j hj => by simpa using (TH.out j hj).1) (fun j hj => by simpa using (TH.out j hj).2) c25_one
    rw [← hV]
    simpa using this
  have hl25 : c25.length = 25 := rfl
  have K1 : Hid (3 < w1.heap.size ∧ KstAt w1 ∧ Below w.heap.size w w1) := ⟨Nat.lt_of_lt_of_le hp hb1.size, hk.out.later hb1 hp, hb1⟩
  have MV : Hid (Mc V w1.heap.size Hs.start ∧ Below w.heap.size w V) := by
    have hbV : Below w1.heap.size w1 V := by
      rw [← hV]
      exact below_setCells (Nat.le_refl _) _ _ _ (hW ▸ (Below.refl _ _).alloc (Nat.le_refl _) _)
    refine ⟨start_mc K1.out.1 K1.out.2.1 hbV (hV ▸ World.rangeAt_setCells_same W w1.heap.size 0 c25 TH.out)  (fun o => ?_), chain K1.out.2.2 hbV⟩
    rw [← hV, World.frozen?_setCells, ← hW]
    simp [go_sem]
  clear hb1 hV TH
  go_wp2
  obtain ⟨B, hB⟩ : ∃ B, w1.heap.size = B := ⟨_, rfl⟩
  rw [hB] at MV K1
  rw [hB]
  have HB : Hid (w.heap.size ≤ B) := by show w.heap.size ≤ B; rw [← hB]; exact K1.out.2.2.size
  clear hW hS hB hl25
  go_loopw [9] (fun i wr => ∃ k : Nat, k ≤ n ∧ i = .int .i64 (k : Int) ∧ Hid (Mc wr B (Hs.start.text ((ks.take k).flatMap (fun s => s.data.toList))) ∧ Below w.heap.size w wr)) (fun i _ => n - (intOf i).toNat)
  case atStart => exact ⟨0, Nat.zero_le _, rfl, MV.out⟩
  case round =>
    obtain ⟨k, hk1, rfl, I⟩ := hrel
    by_cases hlt : k < n
    · have hk' : k < ks.length := by have := hn.out; omega
      obtain ⟨b, o, rfl, hcell⟩ := StrAt.later hc.out I.out.2 rfl k hk'
      have FS := flat_step (fun s => s.data.toList) ks k hk'
      have HS : Hid (ks[k].size < 9223372036854775807) := hs.out _ (List.getElem_mem hk')
      generalize ks[k] = s at *
      have HF : Hid (_ = _) := FS
      clear FS
      go_wp2_with fail
      refine Calls.mono (text_any B _ s HS.out _ I.out.1) ?_
      rintro e w3 ⟨rfl, M2, hb2⟩
      have M3 : Hid (Mc w3 B (Hs.start.text ((ks.take (k + 1)).flatMap fun s => s.data.toList)) ∧ Below w.heap.size w w3) := by
        refine ⟨?_, I.out.2.trans (hb2.mono HB.out)⟩
        rw [HF.out, text_app]
        exact M2
      clear M2 hb2
      go_wp2
      go_roundw
      case rel => exact ⟨k + 1, by omega, by go_num, M3.out⟩
      case measure => simp [intOf]; omega
    · have hkn : k = n := by omega
      subst hkn
      have M3 : Hid (Mc wr B (Hs.start.text (ks.flatMap (fun s => s.data.toList))) ∧ Below w.heap.size w wr) := by
        have := I.out
        rw [List.take_of_length_le (by have := hn.out; omega)] at this
        exact this
      go_wp2_with fail
      refine Calls.mono (end_any B _ _ M3.out.1) ?_
      rintro e w5 ⟨rfl, hb5⟩
      have B5 : Hid (Below w.heap.size w w5) := M3.out.2.trans (hb5.mono HB.out)
      clear hb5
      go_wp2
      go_ret
      exact ⟨rfl, B5.out⟩
end Go.Proofs.YtjpaodepnacimaaGreatDoor
namespace Go.Proofs.YtjpaodepnacimaaGreatDoor
open Go.RowKit Go.Proofs.Fd Go.Proofs.Hs
def dgs : ByteArray := ⟨#[48, 49, 50, 51, 52, 53, 54, 55, 56, 57, 97, 98, 99, 100, 101, 102]⟩
def dg (n : Nat) : UInt8 := dgs.data.toList.getD n 0
def hx (c : UInt8) : List UInt8 := [dg (c.toNat / 16), dg (c.toNat % 16)]
end Go.Proofs.YtjpaodepnacimaaGreatDoor
namespace Go.Proofs.YtjpaodepnacimaaGreatDoor
open Go.RowKit Go.Proofs.Fd Go.Proofs.Hs
theorem bytes_ext {a b : ByteArray} (h : a.toList = b.toList) : a = b := by
  rw [ByteArray.toList_eq, ByteArray.toList_eq] at h
  cases a; cases b
  congr 1
  exact Array.ext' h
def Kh (w : World) : Prop := 3 < w.heap.size ∧ KstAt w
theorem Kh.later {w w' : World} (h : Kh w) (hb : Below w.heap.size w w') : Kh w' := ⟨Nat.lt_of_lt_of_le h.1 hb.size, h.2.later hb h.1⟩
theorem Kh.alloc {w : World} (h : Kh w) (o : Obj) : Kh (w.alloc o) := h.later ((Below.refl _ _).alloc (Nat.le_refl _) _)
end Go.Proofs.YtjpaodepnacimaaGreatDoor
namespace Go.Proofs.YtjpaodepnacimaaGreatDoor
open Go.RowKit Go.Proofs.Fd Go.Proofs.Hs
def shs (ks : List ByteArray) : ByteArray := ⟨(sha (ks.flatMap fun s => s.data.toList)).toArray⟩
theorem shs_size (ks : List ByteArray) : (shs ks).size = 32 := rfl
theorem strAt1 {w : World} {B : Nat} {x : ByteArray} (h0 : w.cell? ⟨B, 0, none⟩ = some (.string x)) : StrAt w (some ⟨B, 0, none⟩) [x] := fun i hi => by
  refine ⟨B, 0, rfl, ?_⟩
  obtain rfl : i = 0 := by simp at hi; omega
  exact h0
set_option maxHeartbeats 1000000 in
theorem Short_ok (m : Nat) (h1 : 1 ≤ m) (h2 : m ≤ 32) (a : Option Addr) (ks : List ByteArray) (n cap : Nat) (hn : Hid (ks.length = n)) (hn63 : n < 9223372036854775807) (w : World) (hk : Hid (Kh w)) (hc : Hid (StrAt w a ks)) (hs : Hid (∀ s ∈ ks, s.size < 9223372036854775807)) :
    Calls Tryz.prog 165 #[.int .i64 (m : Int), .slice a n cap] w fun e w' => e = .returned (.tuple #[.string ((shs ks).extract 0 m), .int .i64 0]) ∧ Below w.heap.size w w' := by
  have SM : Hid (∀ w, Kh w → StrAt w a ks → Calls Tryz.prog 174 #[.slice a n cap] w fun e w' => e = .returned (.string (shs ks)) ∧ Below w.heap.size w w') := fun w h h3 => Sum_any a ks n cap hn hn63 w h.1 h.2 h3 hs
  have hz := shs_size ks
  generalize shs ks = S at *
  have g1 : (1 : Int) ≤ (m : Int) := by omega
  have g2 : (m : Int) ≤ 32 := by omega
  have g3 : ¬ (m : Int) < 1 := by omega
  have g4 : ¬ (32 : Int) < (m : Int) := by omega
  have g5 : (m : Int) ≤ (S.size : Int) := by omega
  clear hn63 h1 h2
  go_enter Tryz.func165, Tryz.ntmps165
  go_wp2_with fail
  refine Calls.mono (SM.out _ hk.out hc.out) ?_
  rintro e w1 ⟨rfl, hb⟩
  have B1 : Hid (Below w.heap.size w w1) := hb
  clear hb
  go_wp2
  go_ret2
  exact ⟨rfl, B1.out⟩
end Go.Proofs.YtjpaodepnacimaaGreatDoor
namespace Go.Proofs.Hs
def grow (l : List UInt32) : List UInt32 := l ++ [l.getD (l.length - 16) 0 + (spread (l.getD (l.length - 15) 0) 7 18 3) + l.getD (l.length - 7) 0 + (spread (l.getD (l.length - 2) 0) 17 19 10)]
def word4 (a b c d : UInt8) : UInt32 := UInt32.ofNat (((a.toNat * 256 + b.toNat) * 256 + c.toNat) * 256 + d.toNat)
def words : List UInt8 → List UInt32
  | a :: b :: c :: d :: r => word4 a b c d :: words r
  | _ => []
theorem push4 (x : UInt32) (a b c d : UInt8) : UInt32.ofNat ((UInt32.ofNat ((UInt32.ofNat ((UInt32.ofNat (x.toNat * 256 + a.toNat)).toNat * 256 + b.toNat)).toNat * 256 + c.toNat)).toNat * 256 + d.toNat) = word4 a b c d := by
  unfold word4
  apply UInt32.toNat_inj.1
  simp only [UInt32.toNat_ofNat']
  have h1 := a.toNat_lt
  have h2 := b.toNat_lt
  have h3 := c.toNat_lt
  have h4 := d.toNat_lt
  omega
theorem four (m : Mach) (n0 j : Nat) (h0 : n0 % 64 = 0) (hlt : n0 < 2 ^ 64) (hj : j < 16) (hn : m.n = n0 + 4 * j) (hr : m.r.length = 16) (a b c d : UInt8) :
    (((m.push a).push b).push c).push d = ⟨m.v, m.r.set j (word4 a b c d), (n0 + 4 * (j + 1)) % 2 ^ 64⟩ := by
  have k0 : m.n / 4 % 16 = j := by omega
  have s1 : m.push a = ⟨m.v, m.r.set j (UInt32.ofNat ((m.r.getD j 0).toNat * 256 + a.toNat)), n0 + 4 * j + 1⟩ := by
    unfold Mach.push; rw [k0, hn, Nat.mod_eq_of_lt (by omega)]
  have g : ∀ x : UInt32, (m.r.set j x).getD j 0 = x := fun x => by
    rw [List.getD_eq_getElem?_getD, List.getElem?_set_self (by rw [hr]; exact hj)]; rfl
  have s2 : (m.push a).push b = ⟨m.v, m.r.set j (UInt32.ofNat ((UInt32.ofNat ((m.r.getD j 0).toNat * 256 + a.toNat)).toNat * 256 + b.toNat)), n0 + 4 * j + 2⟩ := by
    rw [s1]; unfold Mach.push
    simp only
    rw [show (n0 + 4 * j + 1) / 4 % 16 = j by omega, g, List.set_set, Nat.mod_eq_of_lt (by omega)]
  have s3 : ((m.push a).push b).push c = ⟨m.v, m.r.set j (UInt32.ofNat ((UInt32.ofNat ((UInt32.ofNat ((m.r.getD j 0).toNat * 256 + a.toNat)).toNat * 256 + b.toNat)).toNat * 256 + c.toNat)), n0 + 4 * j + 3⟩ := by
    rw [s2]; unfold Mach.push
    simp only
    rw [show (n0 + 4 * j + 2) / 4 % 16 = j by omega, g, List.set_set, Nat.mod_eq_of_lt (by omega)]
  rw [s3]; unfold Mach.push
  simp only
  rw [show (n0 + 4 * j + 3) / 4 % 16 = j by omega, g, List.set_set, push4]
  rw [show n0 + 4 * j + 3 + 1 = n0 + 4 * (j + 1) by omega]
end Go.Proofs.Hs
namespace Go.Proofs.Hs
end Go.Proofs.Hs
namespace Go.Proofs.YtjpaodepnacimaaGreatDoor
open Go.RowKit Go.Proofs.Fd Go.Proofs.Hs
attribute [local go_sem] and32 or32 xor32 add32 add32'
def WordsAt (w : World) (g : Nat) (l : List UInt32) : Prop := ∀ j (hj : j < l.length), w.cell? ⟨g, j, none⟩ = some (.int .u32 (tv l[j]))
theorem WordsAt.later {W w1 : World} {g : Nat} {l : List UInt32} (h : WordsAt W g l) (hb : Below W.heap.size W w1) : WordsAt w1 g l := fun j hj => cell_later hb (h j hj)
end Go.Proofs.YtjpaodepnacimaaGreatDoor
namespace Go.Proofs.YtjpaodepnacimaaGreatDoor
open Go.RowKit Go.Proofs.Fd Go.Proofs.Hs
end Go.Proofs.YtjpaodepnacimaaGreatDoor
namespace Go.Proofs.YtjpaodepnacimaaGreatDoor
open Go.RowKit Go.Proofs.Fd Go.Proofs.Hs
attribute [local go_sem] and32 or32 xor32 add32 add32'
end Go.Proofs.YtjpaodepnacimaaGreatDoor
