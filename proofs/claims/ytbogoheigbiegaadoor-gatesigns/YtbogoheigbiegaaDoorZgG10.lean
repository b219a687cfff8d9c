/- Parts: LK4, KR5, KR6, KR7. -/
import Derived.Test.YtbogoheigbiegaaDoorZgG07
import Derived.Lib.AppendStr
import Derived.Test.YtbogoheigbiegaaDoorZgG09
import Derived.Laws.OwnMore
import Derived.Test.YtbogoheigbiegaaDoorZgG05
namespace Go.Proofs.YtbogoheigbiegaaDoor
open Go.RowKit Go.Proofs.Fd Go.Proofs.Hs
set_option maxRecDepth 20000
theorem flat_le {f : ByteArray → List UInt8} (ks : List ByteArray) (k : Nat) : ((ks.take k).flatMap f).length ≤ (ks.flatMap f).length := by
  have h : (ks.take k).flatMap f ++ (ks.drop k).flatMap f = ks.flatMap f := by rw [← List.flatMap_append, List.take_append_drop]
  rw [← h, List.length_append]
  omega
theorem own_string {V : World} {base n : Nat} {v : Value} {l : List UInt8} (h : V.ownsRow base 5 1 v n (bcells l)) : ∀ w', Below V.heap.size V w' → (convert 60 9 v).run Tryd.prog w' = .ok (.string ⟨l.toArray⟩) w' := by
  intro w' hb
  obtain ⟨hlen, hor⟩ := owns_bytes h
  rcases hor with ⟨rfl, h0⟩ | ⟨g, cap, rfl, hcell⟩
  · obtain rfl : l = [] := List.length_eq_zero_iff.1 (by omega)
    kernel_rfl
  · have := run_convert_bytes_back (P := Tryd.prog) w' 60 9 5 ⟨g, 0, none⟩ cap l Tryd.underlying60 Tryd.underlying5 Tryd.underlying9 (fun j hj => by
      have q : Addr.add ⟨g, 0, none⟩ j = ⟨g, j, none⟩ := by simp [Addr.add]; intro h; exact h.symm
      rw [q]; exact cell_later hb (hcell j hj))
    rw [hlen] at this; exact this
end Go.Proofs.YtbogoheigbiegaaDoor
namespace Go.Proofs.YtbogoheigbiegaaDoor
open Go.RowKit Go.Proofs.Fd Go.Proofs.Hs
set_option maxRecDepth 20000
theorem made_zero (n : Nat) : (madeCells (Value.cells (.int .u8 0)) (n * 1)).toList = bcells (List.replicate n 0) := by
  rw [Nat.mul_one]
  apply List.ext_getElem?
  intro j
  simp [madeCells, bcells, Value.cells]
  by_cases h : j < n
  · simp [h, Nat.mod_one]
  · simp [h]
def bs (X : Nat) : Nat → List UInt8
  | 0 => List.replicate 8 0
  | i + 1 => (bs X i).set (7 - i) (UInt8.ofNat (X / 2 ^ (8 * i)))
theorem bs_len (X i : Nat) : (bs X i).length = 8 := by
  induction i with
  | zero => rfl
  | succ i ih => simpa [bs] using ih
theorem bs_all (X : Nat) : bs X 8 = be8 X := by rfl
theorem bcells_set (l : List UInt8) (j : Nat) (x : UInt8) : (bcells l).set j (.int .u8 (x.toNat : Int)) = bcells (l.set j x) := by
  unfold bcells; rw [List.map_set]
set_option maxHeartbeats 1000000 in
theorem rwhole_any (s : ByteArray) (hs : s.size ≤ 140737488355328) (w : World) :
    Calls Tryd.prog 72 #[.string s] w fun e w' => e = .returned (.string ⟨(pd s.data.toList).toArray⟩) ∧ Below w.heap.size w w' := by
  obtain ⟨i0, hi, hz0, hz1, hz2⟩ := info_parts infoByte
  have hl : Hid (s.data.toList.length = s.size) := by show s.data.toList.length = s.size; simp
  obtain ⟨n, hn⟩ : ∃ n, (119 - s.size % 64) % 64 = n := ⟨_, rfl⟩
  have n64 : n < 64 := by omega
  have a1 : (s.size : Int).tmod 64 = ((s.size % 64 : Nat) : Int) := by rw [Int.tmod_eq_emod_of_nonneg (by omega)]; omega
  obtain ⟨r, hr⟩ : ∃ r, s.size % 64 = r := ⟨_, rfl⟩
  rw [hr] at a1
  have a1' : (s.size : Int) % 64 = (r : Int) := by omega
  have a2 : IntKind.i64.wrap (119 - (r : Int)) = 119 - (r : Int) := by rw [IntKind.wrap_i64]; omega
  have a3 : (119 - (r : Int)).tmod 64 = (n : Int) := by rw [Int.tmod_eq_emod_of_nonneg (by omega)]; omega
  have a3' : (119 - (r : Int)) % 64 = (n : Int) := by omega
  have a0 : (0 : Int) ≤ 119 - (r : Int) := by omega
  obtain ⟨c, hc⟩ : ∃ c, n + 9 = c := ⟨_, rfl⟩
  have a4 : IntKind.i64.wrap ((n : Int) + 9) = (c : Int) := by rw [IntKind.wrap_i64]; omega
  have a4' : (n : Int) + 9 = (c : Int) := by omega
  obtain ⟨X, hX⟩ : ∃ X, 8 * s.size % 2 ^ 64 = X := ⟨_, rfl⟩
  obtain ⟨W, hmk, hown0, hgrown⟩ := run_make_full (P := Tryd.prog) w w.heap.size 60 5 i0 (.int .u8 0) 1 Tryd.underlying60 hi hz0 hz1 .i64 .i64 c (by rw [hz2]; omega) (by unfold maxLen; omega) (Nat.le_refl _)
  have OW : Hid (W.ownsRow w.heap.size 5 1 (.slice (some ⟨w.heap.size, 0, none⟩) c c) c (bcells (List.replicate c 0)) ∧ Below w.heap.size w W) := ⟨by rw [← made_zero]; exact hown0, (Below.refl _ _).grown hgrown (Nat.le_refl _) (fun k h => by cases h)⟩
  have c0 : W.cell? ⟨w.heap.size, 0, none⟩ = some (.int .u8 0) := by
    rw [OW.out.1.cellAt 0 (by omega)]
    simp [bcells, show 0 < c by omega]
  have f0 := OW.out.1.frozenAt 0
  have cpos : (0 : Int) < (c : Int) := by omega
  have ST : Hid ((W.setCell ⟨w.heap.size, 0, none⟩ (.int .u8 128)).ownsRow w.heap.size 5 1 (.slice (some ⟨w.heap.size, 0, none⟩) c c) c (bcells ((128 :: List.replicate n 0) ++ bs X 0)) ∧ Below w.heap.size w (W.setCell ⟨w.heap.size, 0, none⟩ (.int .u8 128))) := by
    refine ⟨?_, OW.out.2.setCell (p := ⟨w.heap.size, 0, none⟩) (Nat.le_refl _) _⟩
    have h := (OW.out.1.stored 0 (.int .u8 (((128 : UInt8).toNat : Nat) : Int))).1
    rw [bcells_set] at h
    have e : (List.replicate c (0 : UInt8)).set 0 128 = (128 :: List.replicate n 0) ++ bs X 0 := by
      rw [← hc]
      show (List.replicate (n + 8 + 1) (0 : UInt8)).set 0 128 = 128 :: (List.replicate n 0 ++ List.replicate 8 0)
      rw [List.replicate_succ, List.set_cons_zero, List.replicate_append_replicate]
    rw [e] at h
    exact h
  have FIN : Hid ((⟨(pd s.data.toList).toArray⟩ : ByteArray) = s ++ ⟨((128 :: List.replicate n 0) ++ bs X 8).toArray⟩) := by
    show _ = _
    apply ByteArray.ext
    unfold pd
    rw [hl.out, hn, hX, bs_all]
    simp
  have HN : Hid (n + 9 = c ∧ n < 64 ∧ s.size % 64 = r) := ⟨hc, n64, hr⟩
  have HX : Hid (8 * s.size = X) := by show 8 * s.size = X; omega
  clear hn hr hc hX hown0 hgrown
  go_enter Tryd.func72, Tryd.ntmps72
  go_wp2
  go_loopw [5] (fun i wr => ∃ j : Nat, j ≤ 8 ∧ i = .int .i64 (j : Int) ∧ Hid (wr.ownsRow w.heap.size 5 1 (.slice (some ⟨w.heap.size, 0, none⟩) c c) c (bcells ((128 :: List.replicate n 0) ++ bs X j)) ∧ Below w.heap.size w wr)) (fun i _ => 8 - (intOf i).toNat)
  case atStart => exact ⟨0, by omega, rfl, ST.out⟩
  case round =>
    obtain ⟨j, hj, rfl, J⟩ := hrel
    clear hmk c0 f0 ST
    by_cases hj8 : j = 8
    · subst hj8
      have CV := own_string J.out.1 wr (Below.refl _ _)
      have SZ : Hid (((128 :: List.replicate n 0) ++ bs X 8).length = c) := by
        show _ = _
        rw [List.length_append, List.length_cons, List.length_replicate, bs_len]
        have := HN.out; omega
      have fs : s.size + (⟨((128 :: List.replicate n 0) ++ bs X 8).toArray⟩ : ByteArray).size ≤ 9223372036854775807 := by
        have h1 : (⟨((128 :: List.replicate n 0) ++ bs X 8).toArray⟩ : ByteArray).size = c := by
          show ((128 :: List.replicate n 0) ++ bs X 8).toArray.size = c
          rw [List.size_toArray]; exact SZ.out
        rw [h1]
        have := HN.out; omega
      generalize (⟨((128 :: List.replicate n 0) ++ bs X 8).toArray⟩ : ByteArray) = Y at *
      go_wp2
      go_ret
      exact ⟨by rw [FIN.out]; rfl, J.out.2⟩
    · obtain ⟨p, hp⟩ : ∃ p, n + 8 - j = p := ⟨_, rfl⟩
      have hpc : p < c := by have := HN.out; omega
      have CP : wr.cell? ⟨w.heap.size, p, none⟩ = (bcells ((128 :: List.replicate n 0) ++ bs X j))[p]? := J.out.1.cellAt p (by omega)
      obtain ⟨y, hy⟩ : ∃ y, (bcells ((128 :: List.replicate n 0) ++ bs X j))[p]? = some y := by
        have hl2 : (bcells ((128 :: List.replicate n 0) ++ bs X j)).length = c := by
          unfold bcells
          rw [List.length_map, List.length_append, List.length_cons, List.length_replicate, bs_len]
          have := HN.out; omega
        exact ⟨_, List.getElem?_eq_getElem (by omega)⟩
      rw [hy] at CP
      have FP := J.out.1.frozenAt p
      have e1 : IntKind.i64.wrap ((n : Int) + 8) = (n : Int) + 8 := by rw [IntKind.wrap_i64]; omega
      have e2 : IntKind.i64.wrap ((n : Int) + 8 - (j : Int)) = (p : Int) := by rw [IntKind.wrap_i64]; omega
      have e2' : (n : Int) + 8 - (j : Int) = (p : Int) := by omega
      have e3 : (p : Int) < (c : Int) := by omega
      have e4 : IntKind.u64.wrap ((s.size : Nat) : Int) = ((s.size : Nat) : Int) := by rw [IntKind.wrap_u64]; omega
      have e4' : ((s.size : Nat) : Int) % 18446744073709551616 = ((s.size : Nat) : Int) := by omega
      have e5 : IntKind.u64.wrap ((s.size : Int) * 8) = (X : Int) := by rw [IntKind.wrap_u64]; have := HX.out; omega
      have e5' : (s.size : Int) * 8 % 18446744073709551616 = (X : Int) := by have := HX.out; omega
      have e6 : IntKind.i64.wrap (8 * (j : Int)) = ((8 * j : Nat) : Int) := by rw [IntKind.wrap_i64]; omega
      have e7 : ((8 * j : Nat) : Int) ≤ 64 := by omega
      have BV : (X : Int) / 2 ^ (8 * j) % 256 = ((UInt8.ofNat (X / 2 ^ (8 * j))).toNat : Int) := by rw [UInt8.toNat_ofNat']; simp
      have NX : Hid ((wr.setCell ⟨w.heap.size, p, none⟩ (.int .u8 ((UInt8.ofNat (X / 2 ^ (8 * j))).toNat : Int))).ownsRow w.heap.size 5 1 (.slice (some ⟨w.heap.size, 0, none⟩) c c) c (bcells ((128 :: List.replicate n 0) ++ bs X (j + 1))) ∧ Below w.heap.size w (wr.setCell ⟨w.heap.size, p, none⟩ (.int .u8 ((UInt8.ofNat (X / 2 ^ (8 * j))).toNat : Int)))) := by
        refine ⟨?_, J.out.2.setCell (p := ⟨w.heap.size, p, none⟩) (Nat.le_refl _) _⟩
        have h := (J.out.1.stored p (.int .u8 ((UInt8.ofNat (X / 2 ^ (8 * j))).toNat : Int))).1
        rw [bcells_set, List.set_append_right _ _ (by rw [List.length_cons, List.length_replicate]; omega)] at h
        rw [show p - (128 :: List.replicate n (0 : UInt8)).length = 7 - j by rw [List.length_cons, List.length_replicate]; omega] at h
        exact h
      obtain ⟨x, hx⟩ : ∃ x, UInt8.ofNat (X / 2 ^ (8 * j)) = x := ⟨_, rfl⟩
      rw [hx] at BV NX
      clear hx hy hp
      go_wp2
      go_roundw
      case rel => exact ⟨j + 1, by omega, by go_num, NX.out⟩
      case measure => simp [intOf]; omega
end Go.Proofs.YtbogoheigbiegaaDoor
namespace Go.Proofs.YtbogoheigbiegaaDoor
open Go.RowKit Go.Proofs.Fd Go.Proofs.Hs
set_option maxRecDepth 20000
theorem at8_at {w : World} {b : Nat} {v : V8} (h : At8 w b (.int .u32 (tv v.a)) (.int .u32 (tv v.b)) (.int .u32 (tv v.c)) (.int .u32 (tv v.d)) (.int .u32 (tv v.e)) (.int .u32 (tv v.f)) (.int .u32 (tv v.g)) (.int .u32 (tv v.h))) (j : Nat) (hj : j < 8) : w.cell? ⟨b, j, none⟩ = some (.int .u32 (tv ((V8.l v).getD j 0))) := by
  obtain ⟨f, h0, h1, h2, h3, h4, h5, h6, h7⟩ := h
  rcases (by omega : j = 0 ∨ j = 1 ∨ j = 2 ∨ j = 3 ∨ j = 4 ∨ j = 5 ∨ j = 6 ∨ j = 7) with rfl | rfl | rfl | rfl | rfl | rfl | rfl | rfl
  · exact h0
  · exact h1
  · exact h2
  · exact h3
  · exact h4
  · exact h5
  · exact h6
  · exact h7
theorem w4_at (x : UInt32) (t : Nat) (ht : t < 4) : (w4 x).take (t + 1) = (w4 x).take t ++ [UInt8.ofNat (x.toNat / 2 ^ (8 * (3 - t)))] := by
  rcases (by omega : t = 0 ∨ t = 1 ∨ t = 2 ∨ t = 3) with rfl | rfl | rfl | rfl
  · rfl
  · rfl
  · rfl
  · simp [w4]
theorem outs_step (v : V8) (q : Nat) (hq : q < 8) : outs v (q + 1) = outs v q ++ w4 ((V8.l v).getD q 0) := by
  unfold outs
  have hl : (V8.l v).length = 8 := rfl
  rw [List.take_succ_eq_append_getElem (by omega), List.flatMap_append, List.flatMap_singleton, List.getD_eq_getElem?_getD, List.getElem?_eq_getElem (by omega)]
  rfl
set_option maxRecDepth 10000 in
set_option maxHeartbeats 2000000 in
theorem rDigest_any (s : ByteArray) (hs : s.size ≤ 140737488355328) (w : World) :
    Calls Tryd.prog 60 #[.string s] w fun e w' => e = .returned (.string ⟨(sha s.data.toList).toArray⟩) ∧ Below w.heap.size w w' := by
  obtain ⟨i0, hi, hz0, hz1, hz2⟩ := info_parts infoByte
  have hl : s.data.toList.length = s.size := by simp
  obtain ⟨K, hK⟩ : ∃ K, (pd s.data.toList).length / 64 = K := ⟨_, rfl⟩
  have hlen : (pd s.data.toList).length = 64 * K := by
    have := pd_len s.data.toList
    rw [hl] at this
    omega
  have HF : Hid (sha s.data.toList = (cmpN Hs.start.v (pd s.data.toList) K).out) := by
    show _ = _
    rw [← hK]
    exact sha_pd _ (by rw [hl]; omega)
  have WH : Hid (∀ w, Calls Tryd.prog 72 #[.string s] w fun e w' => e = .returned (.string ⟨(pd s.data.toList).toArray⟩) ∧ Below w.heap.size w w') := rwhole_any s hs
  have hK63 : K ≤ 281474976710656 := by
    have := pd_len s.data.toList
    rw [hl] at this
    omega
  obtain ⟨P, hP⟩ : ∃ P : ByteArray, ⟨(pd s.data.toList).toArray⟩ = P := ⟨_, rfl⟩
  have hPs : P.size = 64 * K := by
    rw [← hP]
    show (pd s.data.toList).toArray.size = _
    rw [List.size_toArray]; exact hlen
  obtain ⟨L, hL⟩ : ∃ L, pd s.data.toList = L := ⟨_, rfl⟩
  have hPd : Hid (P.data.toList = L) := by show _ = _; rw [← hP, ← hL]
  rw [hP] at WH
  rw [hL] at HF
  have HPs : Hid (P.size = 64 * K) := hPs
  clear hP hL hlen hK hPs
  go_enter Tryd.func60, Tryd.ntmps60
  go_wp2_with fail
  refine Calls.mono (WH.out _) ?_
  rintro e w1 ⟨rfl, hb1⟩
  obtain ⟨V, hV⟩ : ∃ V, w.heap.size = V := ⟨_, rfl⟩
  have A1 : Hid (At8 w1 V (.int .u32 (tv (cmpN Hs.start.v L 0).a)) (.int .u32 (tv (cmpN Hs.start.v L 0).b)) (.int .u32 (tv (cmpN Hs.start.v L 0).c)) (.int .u32 (tv (cmpN Hs.start.v L 0).d)) (.int .u32 (tv (cmpN Hs.start.v L 0).e)) (.int .u32 (tv (cmpN Hs.start.v L 0).f)) (.int .u32 (tv (cmpN Hs.start.v L 0).g)) (.int .u32 (tv (cmpN Hs.start.v L 0).h)) ∧ Below w.heap.size w w1 ∧ V < w1.heap.size) := by
    have a0 : At8 (w.alloc (.cells #[.int .u32 1779033703, .int .u32 3144134277, .int .u32 1013904242, .int .u32 2773480762, .int .u32 1359893119, .int .u32 2600822924, .int .u32 528734635, .int .u32 1541459225] 103)) w.heap.size (.int .u32 (tv Hs.start.v.a)) (.int .u32 (tv Hs.start.v.b)) (.int .u32 (tv Hs.start.v.c)) (.int .u32 (tv Hs.start.v.d)) (.int .u32 (tv Hs.start.v.e)) (.int .u32 (tv Hs.start.v.f)) (.int .u32 (tv Hs.start.v.g)) (.int .u32 (tv Hs.start.v.h)) := by
      refine ⟨fun o => by simp [go_sem], ?_, ?_, ?_, ?_, ?_, ?_, ?_, ?_⟩ <;> (rw [World.cell?_alloc_new]; rfl)
    have a1 := a0.later hb1
    rw [hV] at a1
    exact ⟨a1, chain ((Below.refl _ _).alloc (Nat.le_refl _) _) hb1, a1.lt⟩
  rw [hV]
  clear hb1 WH
  go_wp2
  go_loopw [5] (fun i wr => ∃ k : Nat, k ≤ K ∧ i = .int .i64 ((64 * k : Nat) : Int) ∧ Hid (At8 wr V (.int .u32 (tv (cmpN Hs.start.v L k).a)) (.int .u32 (tv (cmpN Hs.start.v L k).b)) (.int .u32 (tv (cmpN Hs.start.v L k).c)) (.int .u32 (tv (cmpN Hs.start.v L k).d)) (.int .u32 (tv (cmpN Hs.start.v L k).e)) (.int .u32 (tv (cmpN Hs.start.v L k).f)) (.int .u32 (tv (cmpN Hs.start.v L k).g)) (.int .u32 (tv (cmpN Hs.start.v L k).h)) ∧ Below w.heap.size w wr ∧ V < wr.heap.size)) (fun i _ => 64 * K - (intOf i).toNat)
  case atStart => exact ⟨0, Nat.zero_le _, rfl, A1.out⟩
  case round =>
    obtain ⟨k, hk, rfl, I⟩ := hrel
    by_cases hkK : k = K
    · subst hkK
      obtain ⟨v, hv⟩ : ∃ v, cmpN Hs.start.v L k = v := ⟨_, rfl⟩
      rw [hv] at I HF
      have g1 : ((64 * k : Nat) : Int) = (P.size : Int) := by have := HPs.out; omega
      rw [g1]
      clear hv g1 A1
      go_wp2
      obtain ⟨wb, rfl⟩ : ∃ W, W = wr := ⟨_, rfl⟩
      go_loopw [6, 7] (fun sl i wx => ∃ q : Nat, q ≤ 8 ∧ i = .int .i64 (q : Int) ∧ Hid (wx.ownsRow wb.heap.size 5 1 sl (4 * q) (bcells (outs v q)) ∧ Below wb.heap.size wb wx)) (fun _ i _ => 8 - (intOf i).toNat)
      case atStart => exact ⟨0, by omega, rfl, ⟨rfl, .inl ⟨rfl, rfl⟩⟩, Below.refl _ _⟩
      case round =>
        obtain ⟨q, hq, rfl, J⟩ := hrel
        by_cases hq8 : q = 8
        · subst hq8
          have CV := own_string J.out.1 wr (Below.refl _ _)
          rw [outs_all] at CV
          go_wp2
          go_ret
          exact ⟨by rw [HF.out]; rfl, chain I.out.2.1 J.out.2⟩
        · have CX := at8_at I.out.1 q (by omega)
          have OS : Hid (outs v (q + 1) = _) := outs_step v q (by omega)
          obtain ⟨x, hx⟩ : ∃ x, (V8.l v).getD q 0 = x := ⟨_, rfl⟩
          rw [hx] at CX OS
          have CX' : Hid (wb.cell? ⟨V, q, none⟩ = some (.int .u32 (tv x))) := CX
          clear hx CX
          have q8 : (q : Int) < 8 := by omega
          go_wp2
          go_loopw [6, 8] (fun sl i wy => ∃ t : Nat, t ≤ 4 ∧ i = .int .i64 (3 - (t : Int)) ∧ Hid (wy.ownsRow wb.heap.size 5 1 sl (4 * q + t) (bcells (outs v q ++ (w4 x).take t)) ∧ Below wb.heap.size wb wy)) (fun _ i _ => (intOf i + 1).toNat)
          case atStart => exact ⟨0, by omega, rfl, by have := J.out; rw [List.take_zero, List.append_nil]; exact this⟩
          case round =>
            obtain ⟨t, ht, rfl, M⟩ := hrel
            by_cases ht4 : t = 4
            · subst ht4
              rw [show (3 : Int) - ((4 : Nat) : Int) = -1 from rfl]
              go_wp2
              go_roundw
              case rel => exact ⟨q + 1, by omega, by go_num, by rw [OS.out]; exact M.out⟩
              case measure => simp [intOf]; omega
            · obtain ⟨r, hr⟩ : ∃ r, 3 - t = r := ⟨_, rfl⟩
              have WX := w4_at x t (by omega)
              rw [hr] at WX
              have hr2 : (3 : Int) - (t : Int) = (r : Int) := by omega
              rw [hr2]
              have CX := (M.out.2.cell (p := ⟨V, q, none⟩) I.out.2.2).trans CX'.out
              have e6 : IntKind.i64.wrap (8 * (r : Int)) = ((8 * r : Nat) : Int) := by rw [IntKind.wrap_i64]; omega
              have e7 : ((8 * r : Nat) : Int) ≤ 32 := by omega
              have BV : tv x / 2 ^ (8 * r) % 256 = ((UInt8.ofNat (x.toNat / 2 ^ (8 * r))).toNat : Int) := by unfold tv; rw [UInt8.toNat_ofNat']; simp
              obtain ⟨y, hy⟩ : ∃ y, UInt8.ofNat (x.toNat / 2 ^ (8 * r)) = y := ⟨_, rfl⟩
              rw [hy] at BV WX
              clear hy hr2
              have WY : Hid ((w4 x).take (t + 1) = (w4 x).take t ++ [y]) := WX
              clear WX
              go_wp2_with (first
                | (at_builtin; refine wpList_append_own _ rfl (.tmp 33) (.tmp 41) 60 rfl wb.heap.size 5 i0 (.int .u8 0) 1 1 Tryd.underlying60 hi hz0 hz1 hz2 rfl (by decide) _ _ _ rfl (M.out.1.alloc _) ⟨wr.heap.size, 0, none⟩ 1 1 [.int .u8 (y.toNat : Int)] rfl rfl (cell_one_new _ _ _) (by intro u hu; simp at hu; subst hu; rfl) (by unfold maxLen; omega) (by omega) (by have := M.out.2.size; simp; omega) ?_; intro v1 w2 hown1 hgrow1 hnil1))
              go_roundw
              case rel =>
                refine ⟨t + 1, by omega, ?_, ?_, ?_⟩
                · congr 1; omega
                · rw [WY.out, ← List.append_assoc]
                  unfold bcells at *
                  rw [List.map_append]
                  exact hown1
                · exact (M.out.2.alloc M.out.2.size _).grown hgrow1 (by have := M.out.2.size; simp; omega) (fun j hj => (M.out.1.lt j hj).1)
              case measure => simp [intOf]
    · obtain ⟨q, hq⟩ : ∃ q, 64 * k = q := ⟨_, rfl⟩
      rw [hq]
      obtain ⟨qq, hqq⟩ : ∃ qq, q + 64 = qq := ⟨_, rfl⟩
      have g1 : (q : Int) < (P.size : Int) := by have := HPs.out; omega
      have g2 : IntKind.i64.wrap ((q : Int) + 64) = (qq : Int) := by rw [IntKind.wrap_i64]; omega
      have g2' : (q : Int) + 64 = (qq : Int) := by omega
      have g3 : (qq : Int) ≤ (P.size : Int) := by have := HPs.out; omega
      have g4 : (q : Int) ≤ (qq : Int) := by omega
      have g2w : IntKind.i64.wrap (qq : Int) = (qq : Int) := by rw [IntKind.wrap_i64]; have := HPs.out; omega
      have g3n : qq ≤ P.size := by have := HPs.out; omega
      have g4n : q ≤ qq := by omega
      have g1n : q ≤ P.size := by omega
      have g1i : (q : Int) ≤ (P.size : Int) := by omega
      have es : (P.extract q qq).size = 64 := by rw [ByteArray.size_extract]; have := HPs.out; omega
      have el : (P.extract q qq).data.toList = (L.drop (64 * k)).take 64 := by
        rw [ext_list, hPd.out, List.drop_take, hq, show qq - q = 64 by omega]
      obtain ⟨cv, hcv⟩ : ∃ cv, cmpN Hs.start.v L k = cv := ⟨_, rfl⟩
      have CN : Hid (cmpN Hs.start.v L (k + 1) = comp cv (P.extract q qq).data.toList) := by
        show comp (cmpN Hs.start.v L k) ((L.drop (64 * k)).take 64) = _
        rw [el, hcv]
      have MX : Hid (∀ w, Calls Tryd.prog 73 #[.agg #[.int .u32 (tv cv.a), .int .u32 (tv cv.b), .int .u32 (tv cv.c), .int .u32 (tv cv.d), .int .u32 (tv cv.e), .int .u32 (tv cv.f), .int .u32 (tv cv.g), .int .u32 (tv cv.h)], .string (P.extract q qq)] w fun e w' => e = .returned (.agg #[.int .u32 (tv (comp cv (P.extract q qq).data.toList).a), .int .u32 (tv (comp cv (P.extract q qq).data.toList).b), .int .u32 (tv (comp cv (P.extract q qq).data.toList).c), .int .u32 (tv (comp cv (P.extract q qq).data.toList).d), .int .u32 (tv (comp cv (P.extract q qq).data.toList).e), .int .u32 (tv (comp cv (P.extract q qq).data.toList).f), .int .u32 (tv (comp cv (P.extract q qq).data.toList).g), .int .u32 (tv (comp cv (P.extract q qq).data.toList).h)]) ∧ Below w.heap.size w w') := rmixed_any cv _ es
      have I1 : Hid (At8 wr V (.int .u32 (tv cv.a)) (.int .u32 (tv cv.b)) (.int .u32 (tv cv.c)) (.int .u32 (tv cv.d)) (.int .u32 (tv cv.e)) (.int .u32 (tv cv.f)) (.int .u32 (tv cv.g)) (.int .u32 (tv cv.h)) ∧ Below w.heap.size w wr ∧ V < wr.heap.size) := by rw [← hcv]; exact I.out
      obtain ⟨nv, hnv⟩ : ∃ x, comp cv (P.extract q qq).data.toList = x := ⟨_, rfl⟩
      rw [hnv] at MX CN
      have HQ : Hid (64 * k = q ∧ q + 64 = qq) := ⟨hq, hqq⟩
      obtain ⟨fz, q0, q1, q2, q3, q4, q5, q6, q7⟩ := I1.out.1
      clear hqq hq es el hcv hnv I
      go_wp2
      go_region_with (go_at_call 73; refine Calls.mono (MX.out _) ?_; rintro e w3 ⟨rfl, hb3⟩; have A3 := I1.out.1.drew.later hb3; obtain ⟨f3, r0, r1, r2, r3, r4, r5, r6, r7⟩ := A3; have f30 := f3 0; have f31 := f3 1; have f32 := f3 2; have f33 := f3 3; have f34 := f3 4; have f35 := f3 5; have f36 := f3 6; have f37 := f3 7)
      clear f30 f31 f32 f33 f34 f35 f36 f37 r0 r1 r2 r3 r4 r5 r6 r7 q0 q1 q2 q3 q4 q5 q6 q7 f3 fz
      have NX : Hid (At8 ((((((((w3.setCell ⟨V, 0, none⟩ (.int .u32 (tv nv.a))).setCell ⟨V, 1, none⟩ (.int .u32 (tv nv.b))).setCell ⟨V, 2, none⟩ (.int .u32 (tv nv.c))).setCell ⟨V, 3, none⟩ (.int .u32 (tv nv.d))).setCell ⟨V, 4, none⟩ (.int .u32 (tv nv.e))).setCell ⟨V, 5, none⟩ (.int .u32 (tv nv.f))).setCell ⟨V, 6, none⟩ (.int .u32 (tv nv.g))).setCell ⟨V, 7, none⟩ (.int .u32 (tv nv.h))) V (.int .u32 (tv nv.a)) (.int .u32 (tv nv.b)) (.int .u32 (tv nv.c)) (.int .u32 (tv nv.d)) (.int .u32 (tv nv.e)) (.int .u32 (tv nv.f)) (.int .u32 (tv nv.g)) (.int .u32 (tv nv.h)) ∧ Below w.heap.size w ((((((((w3.setCell ⟨V, 0, none⟩ (.int .u32 (tv nv.a))).setCell ⟨V, 1, none⟩ (.int .u32 (tv nv.b))).setCell ⟨V, 2, none⟩ (.int .u32 (tv nv.c))).setCell ⟨V, 3, none⟩ (.int .u32 (tv nv.d))).setCell ⟨V, 4, none⟩ (.int .u32 (tv nv.e))).setCell ⟨V, 5, none⟩ (.int .u32 (tv nv.f))).setCell ⟨V, 6, none⟩ (.int .u32 (tv nv.g))).setCell ⟨V, 7, none⟩ (.int .u32 (tv nv.h)))) :=
        ⟨at8_whole (I1.out.1.drew.later hb3) _ _ _ _ _ _ _ _, below_put8 (chain I1.out.2.1.drew hb3) (Nat.le_of_eq hV) _ _ _ _ _ _ _ _⟩
      go_wp2
      go_roundw
      case rel =>
        refine ⟨k + 1, by omega, ?_, ?_⟩
        · have := HQ.out; congr 1; omega
        · rw [CN.out]; exact ⟨NX.out.1, NX.out.2, NX.out.1.lt⟩
      case measure => have := HQ.out; have := HPs.out; simp [intOf]; omega
end Go.Proofs.YtbogoheigbiegaaDoor
namespace Go.Proofs.YtbogoheigbiegaaDoor
open Go.RowKit Go.Proofs.Fd Go.Proofs.Hs
set_option maxRecDepth 20000
theorem own_later {w w' : World} {base : Nat} {e : TypeId} {size : Nat} {v : Value} {n : Nat} {xs : List Value} (h : w.ownsRow base e size v n xs) (hb : Below w.heap.size w w') : w'.ownsRow base e size v n xs := by
  refine ⟨h.1, ?_⟩
  rcases h.2 with hn | ⟨g, cap, cur, rfl, hbg, hgg, rest⟩
  · exact .inl hn
  · refine .inr ⟨g, cap, cur, rfl, hbg, ?_, rest⟩
    rw [hb.block g (Array.getElem?_eq_some_iff.1 hgg).1]
    exact hgg
def jnd (ks : List ByteArray) : List UInt8 := ks.flatMap fun s => s.data.toList
end Go.Proofs.YtbogoheigbiegaaDoor
