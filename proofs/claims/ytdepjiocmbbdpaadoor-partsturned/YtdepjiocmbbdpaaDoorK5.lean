/- The machine takes a number in. -/
import Derived.Test.YtdepjiocmbbdpaaDoorK4
namespace Go.Proofs.YtdepjiocmbbdpaaDoor
open Go.RowKit Go.Proofs.Fd Go.Proofs.Hs

theorem be8_len (n : Nat) : (be8 n).length = 8 := by simp [be8]
theorem be8_at (n j : Nat) (hj : j < 8) : (be8 n)[j]'(by rw [be8_len]; exact hj) = UInt8.ofNat (n / 2 ^ (8 * (7 - j))) := by simp [be8]

set_option maxHeartbeats 1000000 in
theorem number_any (b : Nat) (m : Mach) (n : Nat) (w : World) (hm : Hid (Mc w b m)) :
    Calls Tryd.prog 68 #[.pointer (some ⟨b, 0, none⟩), .int .u64 (n : Int)] w fun e w' => e = .returned (.tuple #[]) ∧ Mc w' b (m.text (be8 n)) ∧ Below b w w' := by
  go_enter Tryd.func68, Tryd.ntmps68
  go_wp2
  go_loopw [4] (fun i wr => ∃ j : Nat, j ≤ 8 ∧ i = .int .i64 (7 - (j : Int)) ∧ Hid (Mc wr b (m.text ((be8 n).take j)) ∧ Below b w wr)) (fun i _ => (intOf i + 1).toNat)
  case atStart => exact ⟨0, by omega, rfl, hm.out, Below.refl _ _⟩
  case round =>
    obtain ⟨j, hj, rfl, I⟩ := hrel
    by_cases hj8 : j = 8
    · subst hj8
      have M3 : Hid (Mc wr b (m.text (be8 n)) ∧ Below b w wr) := by
        have := I.out
        rw [List.take_of_length_le (by rw [be8_len]; exact Nat.le_refl _)] at this
        exact this
      rw [show (7 : Int) - ((8 : Nat) : Int) = -1 by decide]
      go_wp2
      refine bodyPost_end (results_none Tryd.results68 _ _ _) rfl ⟨rfl, M3.out⟩
    · obtain ⟨t, ht⟩ : ∃ t, 7 - j = t := ⟨_, rfl⟩
      have e0 : (7 : Int) - (j : Int) = (t : Int) := by omega
      have TS : Hid (m.text ((be8 n).take (j + 1)) = (m.text ((be8 n).take j)).put (UInt8.ofNat (n / 2 ^ (8 * t)))) := by
        have := text_snoc m (be8 n) j (by rw [be8_len]; omega)
        rw [be8_at n j (by omega), ht] at this
        exact this
      have t7 : (t : Int) ≤ 7 := by omega
      have e1 : IntKind.i64.wrap (8 * (t : Int)) = ((8 * t : Nat) : Int) := by rw [IntKind.wrap_i64]; omega
      have e2 : ((8 * t : Nat) : Int) ≤ 64 := by omega
      have e3 : IntKind.i64.wrap ((t : Int) - 1) = 7 - ((j + 1 : Nat) : Int) := by rw [IntKind.wrap_i64]; omega
      rw [e0]
      have BV : (n : Int) / 2 ^ (8 * t) % 256 = ((UInt8.ofNat (n / 2 ^ (8 * t))).toNat : Int) := by rw [UInt8.toNat_ofNat']; simp
      obtain ⟨c, hc⟩ : ∃ c, UInt8.ofNat (n / 2 ^ (8 * t)) = c := ⟨_, rfl⟩
      rw [hc] at BV TS
      clear hc
      go_wp2_with fail
      rw [BV]
      refine Calls.mono (put_any b _ c _ I.out.1) ?_
      rintro e w1 ⟨rfl, M2, hb2⟩
      have M3 : Hid (Mc w1 b (m.text ((be8 n).take (j + 1))) ∧ Below b w w1) := ⟨TS.out ▸ M2, I.out.2.trans hb2⟩
      clear M2 hb2
      go_wp2
      go_roundw
      case rel => exact ⟨j + 1, by omega, by first | rfl | (congr 1; omega), M3.out⟩
      case measure => simp [intOf]; omega

theorem put_n (m : Mach) (c : UInt8) : (m.put c).n = (m.n + 1) % 18446744073709551616 := by
  unfold Mach.put Mach.push Mach.mix
  simp only
  split <;> rfl
theorem text_app (m : Mach) (s t : List UInt8) : m.text (s ++ t) = (m.text s).text t := by unfold Mach.text; rw [List.foldl_append]
theorem text_nil (m : Mach) : m.text [] = m := rfl
theorem text_one (m : Mach) (c : UInt8) : m.text [c] = m.put c := rfl
theorem text_zeros (m : Mach) (k : Nat) : m.text (List.replicate (k + 1) 0) = (m.put 0).text (List.replicate k 0) := rfl
/-- Zeros taken in, up to the end. -/
theorem pad_put (m : Mach) (h : m.n % 64 ≠ 56) : (m.put 0).pad = m.pad ∧ padn (m.put 0).n < padn m.n := by
  have e : padn m.n = padn (m.put 0).n + 1 := by rw [put_n]; unfold padn; omega
  refine ⟨?_, by omega⟩
  unfold Mach.pad
  rw [e, text_zeros]
theorem pad_done (m : Mach) (h : m.n % 64 = 56) : m.pad = m := by
  unfold Mach.pad
  rw [show padn m.n = 0 by unfold padn; omega]
  rfl

/-- What is left of a machine's count, off its cell. -/
def toGo (b : Nat) (w : World) : Nat := padn (intOf ((w.cell? ⟨b, 24, none⟩).getD undef)).toNat
theorem toGo_mc {w : World} {b : Nat} {m : Mach} (h : Mc w b m) : toGo b w = padn m.n := by
  unfold toGo; rw [h.cn]; rfl

/-- The words that go out. -/
def V8.l (v : V8) : List UInt32 := [v.a, v.b, v.c, v.d, v.e, v.f, v.g, v.h]
def outs (v : V8) (k : Nat) : List UInt8 := ((V8.l v).take k).flatMap w4

theorem Mc.alloc {w : World} {b : Nat} {m : Mach} (h : Mc w b m) (o : Obj) : Mc (w.alloc o) b m := by
  have hl : b < w.heap.size := World.block_lt_of_cell? _ _ h.c0
  refine ⟨h.pos, h.kst.later ((Below.refl _ w).alloc (Nat.le_refl _) o) (by have := h.pos; omega), cell_alloc h.c0, cell_alloc h.c1, cell_alloc h.c2, cell_alloc h.c3, cell_alloc h.c4, cell_alloc h.c5, cell_alloc h.c6, cell_alloc h.c7, fun k hk => cell_alloc (h.ring k hk), cell_alloc h.cn, fun q => ?_, h.len, h.lt⟩
  rw [World.frozen?_alloc_past _ _ _ hl]; exact h.fz q
theorem Mc.below {w : World} {b : Nat} {m : Mach} (h : Mc w b m) : b < w.heap.size := World.block_lt_of_cell? _ _ h.c0

/-- Bytes as cells. -/
def bcells (l : List UInt8) : List Value := l.map fun b => .int .u8 b.toNat
theorem infoByte : (Tryd.prog.info? 5).map (fun i => (i.zero, i.size, i.bytes)) = some (some (.int .u8 0), 1, 1) := by kernel_rfl
theorem cells_new (w : World) (cs : Array Value) (t : TypeId) : ∀ j u, cs.toList[j]? = some u → (w.alloc (.cells cs t)).cell? (Addr.add ⟨w.heap.size, 0, none⟩ j) = some u := fun j u h => by
  have q : Addr.add ⟨w.heap.size, 0, none⟩ j = ⟨w.heap.size, j, none⟩ := by simp [Addr.add]; intro h; exact h.symm
  rw [q, World.cell?_alloc_new]
  simpa using h

theorem owns_bytes {w : World} {base n : Nat} {v : Value} {l : List UInt8} (h : w.ownsRow base 5 1 v n (bcells l)) : l.length = n ∧ ((v = .slice none 0 0 ∧ n = 0) ∨ ∃ g cap, v = .slice (some ⟨g, 0, none⟩) n cap ∧ ∀ j (hj : j < l.length), w.cell? ⟨g, j, none⟩ = some (.int .u8 (l[j].toNat : Int))) := by
  obtain ⟨h1, h2⟩ := h
  have hl : l.length = n := by simpa [bcells] using h1
  refine ⟨hl, ?_⟩
  rcases h2 with h2 | ⟨g, cap, cur, rfl, -, hh, -, -, -, ht⟩
  · exact .inl h2
  · refine .inr ⟨g, cap, rfl, fun j hj => ?_⟩
    have e : cur[j]? = (bcells l)[j]? := by
      rw [← ht, List.getElem?_take_of_lt (by omega)]; simp
    unfold World.cell?
    rw [hh]
    simp only [Option.isSome_none]
    show cur[j]? = _
    rw [e]; simp [bcells, hj]

theorem w4_cells (x : UInt32) : [Value.int .u8 (tv x / 16777216 % 256), .int .u8 (tv x / 65536 % 256), .int .u8 (tv x / 256 % 256), .int .u8 (tv x % 256)] = bcells (w4 x) := by
  unfold bcells w4 tv
  simp
theorem outs_all (v : V8) : outs v 8 = v.out := by simp [outs, V8.l, V8.out]
theorem heap_new (w : World) (o : Obj) : (w.alloc o).heap[w.heap.size]? = some o := by
  show (w.heap.push o)[w.heap.size]? = some o
  simp

set_option maxRecDepth 20000 in
set_option maxHeartbeats 1000000 in
theorem end_any (b : Nat) (m : Mach) (w : World) (hm : Hid (Mc w b m)) :
    Calls Tryd.prog 58 #[.pointer (some ⟨b, 0, none⟩)] w fun e w' => e = .returned (.string ⟨m.fin.toArray⟩) ∧ Below b w w' := by
  have HB : Hid (b < w.heap.size) := hm.out.below
  obtain ⟨i0, hi, hz0, hz1, hz2⟩ := info_parts infoByte
  have CN := hm.out.cn
  obtain ⟨n, hn⟩ : ∃ n, m.n = n := ⟨_, rfl⟩
  rw [hn] at CN
  obtain ⟨n8, hn8⟩ : ∃ k, 8 * n % 18446744073709551616 = k := ⟨_, rfl⟩
  have e1 : IntKind.u64.wrap (8 * (n : Int)) = (n8 : Int) := by rw [IntKind.wrap_u64]; omega
  have e2 : 8 * (n : Int) % 18446744073709551616 = (n8 : Int) := by omega
  have FIN : Hid (m.fin = (((m.put 128).pad).text (be8 n8)).v.out) := by
    show _ = _
    unfold Mach.fin
    rw [hn, show (2 : Nat) ^ 64 = 18446744073709551616 by decide, hn8]
  clear hn hn8
  go_enter Tryd.func58, Tryd.ntmps58
  go_wp2_with fail
  refine Calls.mono (put_any b m 128 _ hm.out) ?_
  rintro e w1 ⟨rfl, M1, hb1⟩
  have I1 : Hid (Mc w1 b (m.put 128) ∧ Below b w w1) := ⟨M1, hb1⟩
  clear M1 hb1 CN
  go_wp2
  go_loopw [] (fun wr => ∃ m2 : Mach, Hid (Mc wr b m2 ∧ m2.pad = (m.put 128).pad ∧ Below b w wr)) (fun wr => toGo b wr)
  case atStart => exact ⟨_, I1.out.1, rfl, I1.out.2⟩
  case round =>
    obtain ⟨m2, J⟩ := hrel
    have CN := J.out.1.cn
    obtain ⟨q, hq⟩ : ∃ n, m2.n = n := ⟨_, rfl⟩
    rw [hq] at CN
    by_cases h56 : q % 64 = 56
    · have h0 : (q : Int).tmod 64 = 56 := by rw [Int.tmod_eq_emod_of_nonneg (by omega)]; omega
      have h0' : (q : Int) % 64 = 56 := by omega
      have PD : Hid (Mc wr b (m.put 128).pad ∧ Below b w wr) := by
        refine ⟨?_, J.out.2.2⟩
        rw [← J.out.2.1, pad_done m2 (by rw [hq]; exact h56)]
        exact J.out.1
      clear hq J h56
      go_wp2_with fail
      refine Calls.mono (number_any b _ n8 _ PD.out.1) ?_
      rintro e w3 ⟨rfl, M3, hb3⟩
      have I3 : Hid (Mc w3 b (((m.put 128).pad).text (be8 n8)) ∧ Below b w w3) := ⟨M3, PD.out.2.trans hb3⟩
      clear M3 hb3 PD CN h0 h0'
      obtain ⟨M, hM⟩ : ∃ M, ((m.put 128).pad).text (be8 n8) = M := ⟨_, rfl⟩
      rw [hM] at I3 FIN
      clear hM
      obtain ⟨W, hW⟩ : ∃ W, w3.alloc (.cells (Array.replicate 32 (.int .u8 0)) 5) = W := ⟨_, rfl⟩
      have hmk : (Instr.makeSlice 54 (.int .i64 0) (.int .i64 32)).run Tryd.prog w3 = .ok (.slice (some ⟨w3.heap.size, 0, none⟩) 0 32) W := by rw [← hW]; kernel_rfl
      have IW : Hid (b ≤ w3.heap.size ∧ Mc W b M ∧ Below b w W ∧ w3.heap.size ≤ W.heap.size ∧ W.ownsRow w3.heap.size 5 1 (.slice (some ⟨w3.heap.size, 0, none⟩) 0 32) 0 (bcells (outs M.v 0))) := by
        have hb : b ≤ w3.heap.size := Nat.le_trans (Nat.le_of_lt HB.out) I3.out.2.size
        rw [← hW]
        refine ⟨hb, I3.out.1.alloc _, I3.out.2.alloc hb _, by simp, rfl, .inr ⟨_, 32, _, rfl, Nat.le_refl _, heap_new _ _, by decide, by decide, rfl, rfl⟩⟩
      have c0 := IW.out.2.1.c0
      have c1 := IW.out.2.1.c1
      have c2 := IW.out.2.1.c2
      have c3 := IW.out.2.1.c3
      have c4 := IW.out.2.1.c4
      have c5 := IW.out.2.1.c5
      have c6 := IW.out.2.1.c6
      have c7 := IW.out.2.1.c7
      obtain ⟨g, hg⟩ : ∃ g, w3.heap.size = g := ⟨_, rfl⟩
      rw [hg] at hmk IW
      clear hW hg I3
      obtain ⟨⟨v0, v1, v2, v3, v4, v5, v6, v7⟩, r, nn⟩ := M
      go_wp2
      go_loopw [4, 30] (fun sl i wx => ∃ k : Nat, k ≤ 8 ∧ i = .int .i64 (k : Int) ∧ Hid (wx.ownsRow g 5 1 sl (4 * k) (bcells (outs ⟨v0, v1, v2, v3, v4, v5, v6, v7⟩ k)) ∧ g ≤ wx.heap.size ∧ Below b w wx)) (fun _ i _ => 8 - (intOf i).toNat)
      case atStart => exact ⟨0, by omega, rfl, IW.out.2.2.2.2, IW.out.2.2.2.1, IW.out.2.2.1⟩
      case round =>
        obtain ⟨k, hk, rfl, J⟩ := hrel
        clear c0 c1 c2 c3 c4 c5 c6 c7 hmk
        by_cases hk8 : k = 8
        · subst hk8
          obtain ⟨hl, hor⟩ := owns_bytes J.out.1
          rcases hor with ⟨-, h⟩ | ⟨g2, cap, rfl, hcell⟩
          · exact absurd h (by decide)
          · rw [outs_all] at hl hcell
            have CV : (convert 54 9 (.slice (some ⟨g2, 0, none⟩) 32 cap)).run Tryd.prog wr = .ok (.string ⟨(V8.out ⟨v0, v1, v2, v3, v4, v5, v6, v7⟩).toArray⟩) wr := by
              have := run_convert_bytes_back (P := Tryd.prog) wr 54 9 5 ⟨g2, 0, none⟩ cap (V8.out ⟨v0, v1, v2, v3, v4, v5, v6, v7⟩) Tryd.underlying54 Tryd.underlying5 Tryd.underlying9 (fun j hj => by
                have q : Addr.add ⟨g2, 0, none⟩ j = ⟨g2, j, none⟩ := by simp [Addr.add]; intro h; exact h.symm
                rw [q]; exact hcell j hj)
              rw [hl] at this; exact this
            clear hcell
            go_wp2
            go_ret
            exact ⟨by rw [FIN.out]; rfl, J.out.2.2⟩
        · obtain ⟨x, hx⟩ : ∃ x, (V8.l ⟨v0, v1, v2, v3, v4, v5, v6, v7⟩)[k]? = some x := by
            rw [List.getElem?_eq_getElem (show k < (V8.l ⟨v0, v1, v2, v3, v4, v5, v6, v7⟩).length by simp [V8.l]; omega)]; exact ⟨_, rfl⟩
          have ix : (Instr.index 109 (.agg #[.int .u32 (tv v0), .int .u32 (tv v1), .int .u32 (tv v2), .int .u32 (tv v3), .int .u32 (tv v4), .int .u32 (tv v5), .int .u32 (tv v6), .int .u32 (tv v7)]) (.int .i64 (k : Int))).run Tryd.prog wr = .ok (.int .u32 (tv x)) wr := by
            rcases (by omega : k = 0 ∨ k = 1 ∨ k = 2 ∨ k = 3 ∨ k = 4 ∨ k = 5 ∨ k = 6 ∨ k = 7) with rfl | rfl | rfl | rfl | rfl | rfl | rfl | rfl <;> (simp [V8.l] at hx; subst hx; kernel_rfl)
          have OS : Hid (outs ⟨v0, v1, v2, v3, v4, v5, v6, v7⟩ (k + 1) = outs ⟨v0, v1, v2, v3, v4, v5, v6, v7⟩ k ++ w4 x) := by
            show _ = _
            unfold outs
            rw [List.take_add_one, hx]
            simp
          clear hx
          have WC : Hid (_ = _) := w4_cells x
          go_wp2_with (first
            | (at_builtin; refine wpList_append_own _ rfl (.tmp 33) (.tmp 45) 54 rfl g 5 i0 (.int .u8 0) 1 1 Tryd.underlying54 hi hz0 hz1 hz2 rfl (by decide) _ _ _ rfl (J.out.1.alloc _) ⟨wr.heap.size, 0, none⟩ 4 4 [.int .u8 (tv x / 16777216 % 256), .int .u8 (tv x / 65536 % 256), .int .u8 (tv x / 256 % 256), .int .u8 (tv x % 256)] rfl rfl (cells_new _ _ _) (by intro u hu; simp at hu; rcases hu with rfl | rfl | rfl | rfl <;> rfl) (by unfold maxLen; omega) (by omega) (by have := J.out.2.1; simp; omega) ?_; intro v1 w1 hown1 hgrow1 hnil1))
          go_roundw
          case rel =>
            refine ⟨k + 1, by omega, by go_num, ?_, ?_, ?_⟩
            · rw [OS.out]; unfold bcells; rw [List.map_append, show 4 * (k + 1) = 4 * k + 4 by omega]; rw [WC.out] at hown1; exact hown1
            · have h1 := hgrow1.size; have h2 := J.out.2.1; simp at h1; omega
            · exact (J.out.2.2.alloc (by have h1 := IW.out.1; have h2 := J.out.2.1; omega) _).grown hgrow1 (by have h1 := IW.out.1; have h2 := J.out.2.1; simp; omega) (fun j hj => Nat.le_trans IW.out.1 (J.out.1.lt j hj).1)
          case measure => simp [intOf]; omega
    · have h0 : ¬ (q : Int).tmod 64 = 56 := by rw [Int.tmod_eq_emod_of_nonneg (by omega)]; omega
      have h0' : ¬ (q : Int) % 64 = 56 := by omega
      have PD : Hid ((m2.put 0).pad = m2.pad ∧ padn (m2.put 0).n < padn m2.n) := pad_put m2 (by rw [hq]; exact h56)
      have TG : Hid (toGo b wr = padn m2.n) := toGo_mc J.out.1
      clear hq h56
      go_wp2_with fail
      refine Calls.mono (put_any b m2 0 _ J.out.1) ?_
      rintro e w3 ⟨rfl, M3, hb3⟩
      have I3 : Hid (Mc w3 b (m2.put 0) ∧ Below b w w3) := ⟨M3, J.out.2.2.trans hb3⟩
      clear M3 hb3
      go_wp2
      go_roundw
      case rel => exact ⟨_, I3.out.1, PD.out.1.trans J.out.2.1, I3.out.2⟩
      case measure => rw [TG.out, toGo_mc I3.out.1]; exact PD.out.2
end Go.Proofs.YtdepjiocmbbdpaaDoor
