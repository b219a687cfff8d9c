/- The log's bytes: numbers, zeros, marks, heads, records. -/
import Derived.Test.YtdcimnmebgkmjaaDoorLgB
namespace Go.Proofs.YtdcimnmebgkmjaaDoor
open Go.RowKit Go.Proofs.Fd Go.Proofs.Dk Go.Proofs.Lg
set_option maxRecDepth 20000

theorem lzeros_any (n : Nat) (hn : n ≤ 1000) (w : World) : Calls Tryd.prog 51 #[.int .i64 (n : Int)] w fun e w' => e = .returned (sv (zr n)) ∧ Below w.heap.size w w' := by
  have RP : Hid (∀ w, Calls Tryd.prog 72 #[.string ⟨#[0]⟩, .int .i64 (n : Int)] w fun e w' => e = .returned (sv (zr n)) ∧ Below w.heap.size w w') := rep_any 0 n hn
  clear hn
  obtain ⟨x, hx⟩ : ∃ x : Int, (n : Int) = x := ⟨_, rfl⟩
  rw [hx] at RP ⊢
  clear hx
  go_enter Tryd.func51, Tryd.ntmps51
  go_wp2_with fail
  refine Calls.mono (RP.out _) ?_
  rintro e w1 ⟨rfl, hb⟩
  have B1 : Hid _ := hb
  clear hb
  go_wp2
  go_ret
  exact ⟨rfl, B1.out⟩
theorem made_zr (n : Nat) : madeCells (Value.int .u8 0).cells n = Array.replicate n (.int .u8 0) := by
  apply Array.ext
  · simp [madeCells]
  · intro i h1 h2
    rw [Array.getElem_replicate]
    simp [madeCells, Value.cells, Nat.mod_one]
/-- n bytes 0, laid anew. -/
theorem lmake_n (n : Nat) (hn : n ≤ 1000) (w : World) : ∃ W : World, (Instr.makeSlice 70 (.int .i64 (n : Int)) (.int .i64 (n : Int))).run Tryd.prog w = .ok (.slice (some ⟨w.heap.size, 0, none⟩) n n) W
    ∧ BytesAt W w.heap.size (zr n) ∧ Below w.heap.size w W := by
  obtain ⟨i0, hi, hz0, hz1, hz2⟩ := info_parts infoU8
  have h := run_make (P := Tryd.prog) w 70 5 i0 (.int .u8 0) Tryd.underlying70 hi hz0 .i64 .i64 (n : Int) (n : Int) (by omega) (Int.le_refl _) (by rw [hz2]; omega) (by omega)
  rw [Int.toNat_natCast, hz1, Nat.mul_one, made_zr] at h
  refine ⟨_, h, fun j hj => ?_, (Below.refl _ _).alloc (Nat.le_refl _) _⟩
  have hj' : j < n := by rw [zr_len] at hj; exact hj
  refine ⟨?_, by simp [go_sem]⟩
  rw [World.cell?_alloc_new, Array.getElem?_replicate, if_pos hj']
  simp [zr]
theorem ben_step (n m k : Nat) (hk : k < m) : ((ben n m).take k ++ zr (m - k)).set k (UInt8.ofNat (n / 2 ^ (8 * (m - 1 - k)))) = (ben n m).take (k + 1) ++ zr (m - (k + 1)) := by
  have hl : ((ben n m).take k).length = k := by rw [List.length_take, ben_len]; omega
  rw [List.set_append_right _ _ (by omega), hl, Nat.sub_self, List.take_succ_eq_append_getElem (by rw [ben_len]; exact hk), List.append_assoc]
  congr 1
  obtain ⟨d, hd⟩ : ∃ d, m - k = d + 1 := ⟨m - k - 1, by omega⟩
  rw [hd, show m - (k + 1) = d by omega]
  simp [zr, List.replicate_succ, ben]
set_option maxHeartbeats 1000000 in
theorem lnumber_any (n m : Nat) (hm : m ≤ 8) (w : World) : Calls Tryd.prog 75 #[.int .i64 (n : Int), .int .i64 (m : Int)] w fun e w' => e = .returned (sv (ben n m)) ∧ Below w.heap.size w w' := by
  obtain ⟨W, MK, BM, BB⟩ := lmake_n m (by omega) w
  have HB : Hid (Below w.heap.size w W) := BB
  have HM : Hid (BytesAt W w.heap.size (zr m)) := BM
  have hm0 : (0 : Int) ≤ (m : Int) := by omega
  clear BB BM
  obtain ⟨B, hB⟩ : ∃ B, w.heap.size = B := ⟨_, rfl⟩
  rw [hB] at MK HM HB ⊢
  clear hB
  go_enter Tryd.func75, Tryd.ntmps75
  go_wp2
  go_loopw [11] (fun i wr => ∃ k : Nat, k ≤ m ∧ i = .int .i64 (k : Int) ∧ Hid (BytesAt wr B ((ben n m).take k ++ zr (m - k)) ∧ Below B w wr)) (fun i _ => m - (intOf i).toNat)
  case atStart => exact ⟨0, Nat.zero_le _, rfl, HM.out, HB.out⟩
  case round =>
    obtain ⟨k, hk, rfl, J⟩ := hrel
    clear HB HM MK
    by_cases hkm : k < m
    · have g1 : (k : Int) < (m : Int) := by omega
      have hlen : ((ben n m).take k ++ zr (m - k)).length = m := by
        rw [List.length_append, List.length_take, ben_len, zr_len]
        omega
      obtain ⟨c0, f0⟩ := J.out.1 k (by rw [hlen]; exact hkm)
      obtain ⟨t, ht⟩ : ∃ t, m - 1 - k = t := ⟨_, rfl⟩
      have e0 : (m : Int) - 1 - (k : Int) = (t : Int) := by omega
      have e6 : IntKind.i64.wrap (8 * (t : Int)) = ((8 * t : Nat) : Int) := by rw [IntKind.wrap_i64]; omega
      have e7 : ((8 * t : Nat) : Int) ≤ 64 := by omega
      have BV : (n : Int) / 2 ^ (8 * t) % 256 = ((UInt8.ofNat (n / 2 ^ (8 * t))).toNat : Int) := by rw [UInt8.toNat_ofNat']; simp
      have ST := J.out.1.set k (UInt8.ofNat (n / 2 ^ (8 * t))) _ rfl
      rw [← ht, ben_step n m k hkm, ht] at ST
      have HS : Hid _ := ST
      have HC : Hid (Below B w (wr.setCell ⟨B, k, none⟩ (.int .u8 ((UInt8.ofNat (n / 2 ^ (8 * t))).toNat : Int)))) := J.out.2.setCell (p := ⟨B, k, none⟩) (Nat.le_refl _) _
      obtain ⟨c, hc⟩ : ∃ c, UInt8.ofNat (n / 2 ^ (8 * t)) = c := ⟨_, rfl⟩
      rw [hc] at BV HS HC
      obtain ⟨v, hv⟩ : ∃ v, Value.int .u8 (((ben n m).take k ++ zr (m - k))[k]'(by rw [hlen]; exact hkm)).toNat = v := ⟨_, rfl⟩
      rw [hv] at c0
      clear ST hc hv hlen J
      go_wp2
      go_roundw
      case rel => exact ⟨k + 1, by omega, rfl, HS.out, HC.out⟩
      case measure => simp [intOf]; omega
    · obtain rfl : k = m := by omega
      have J2 : Hid (BytesAt wr B (ben n k) ∧ Below B w wr) := by
        have := J.out
        rw [List.take_of_length_le (by rw [ben_len]; exact Nat.le_refl _), Nat.sub_self] at this
        have e : ben n k ++ zr 0 = ben n k := List.append_nil _
        rw [e] at this
        exact this
      have CV := J2.out.1.string (cap := k) (ben_len n k)
      clear J
      go_wp2
      go_ret
      exact ⟨rfl, J2.out.2⟩
theorem lpadded_any (x : Bs) (hx : x.length ≤ 4096) (w : World) : Calls Tryd.prog 76 #[sv x] w fun e w' => e = .returned (sv (pdd x)) ∧ Below w.heap.size w w' := by
  have hs : (st x).size = x.length := st_size x
  obtain ⟨z, hz⟩ : ∃ z, (64 - x.length % 64) % 64 = z := ⟨_, rfl⟩
  have ZR : Hid (∀ w, _) := lzeros_any z (by omega)
  have HP : Hid (st x ++ st (zr z) = st (pdd x)) := by
    show st x ++ st (zr z) = st (pdd x)
    rw [st_app, pdd, hz]
  obtain ⟨X, hX⟩ : ∃ X, st x = X := ⟨_, rfl⟩
  obtain ⟨Y, hY⟩ : ∃ Y, st (zr z) = Y := ⟨_, rfl⟩
  have hy : Y.size = z := by rw [← hY, st_size, zr_len]
  have e1 : (64 - (X.size : Int) % 64) % 64 = (z : Int) := by rw [← hX, hs]; omega
  have hl : X.size ≤ 4096 := by rw [← hX, hs]; exact hx
  have hz2 : z < 64 := by omega
  unfold sv at ZR ⊢
  rw [hX] at HP ⊢
  rw [hY] at ZR HP
  clear hX hY hs hz hx
  go_enter Tryd.func76, Tryd.ntmps76
  go_wp2_with fail
  refine Calls.mono (ZR.out _) ?_
  rintro e w1 ⟨rfl, hb⟩
  have B1 : Hid _ := hb
  clear hb
  go_wp2
  go_ret
  exact ⟨by rw [← HP.out]; rfl, B1.out⟩
/-- The mark of pieces. -/
theorem lmark_any (a : Option Addr) (ks : List ByteArray) (n cap : Nat) (hn : Hid (ks.length = n)) (hn63 : n < 9223372036854775807) (w : World) (hk : Hid (Kh w)) (hc : Hid (StrAt w a ks)) (hs : Hid (∀ s ∈ ks, s.size < 9223372036854775807)) :
    Calls Tryd.prog 74 #[.slice a n cap] w fun e w' => e = .returned (sv (Lg.mk (ks.flatMap fun s => s.data.toList))) ∧ Below w.heap.size w w' := by
  have SH : Hid _ := Short_ok 16 (by decide) (by decide) a ks n cap hn hn63 w hk hc hs
  have e1 : (shs ks).extract 0 16 = st (Lg.mk (ks.flatMap fun s => s.data.toList)) := by
    have : shs ks = st (Hs.sha (ks.flatMap fun s => s.data.toList)) := rfl
    rw [this, st_cut, Lg.mk, List.drop_zero]
  rw [e1] at SH
  clear e1 hc hs hk hn
  obtain ⟨X, hX⟩ : ∃ X, st (Lg.mk (ks.flatMap fun s => s.data.toList)) = X := ⟨_, rfl⟩
  unfold sv
  rw [hX] at SH ⊢
  clear hX hn63
  go_enter Tryd.func74, Tryd.ntmps74
  go_wp2_with fail
  refine Calls.mono SH.out ?_
  rintro e w1 ⟨rfl, hb⟩
  have B1 : Hid _ := hb
  clear hb
  go_wp2
  go_ret
  exact ⟨rfl, B1.out⟩
theorem lfront_any (g : Nat) (w : World) : Calls Tryd.prog 84 #[.int .i64 (g : Int)] w fun e w' => e = .returned (sv (hf g)) ∧ Below w.heap.size w w' := by
  have NB : Hid (∀ w, Calls Tryd.prog 75 #[.int .i64 (g : Int), .int .i64 4] w fun e w' => e = .returned (sv (ben g 4)) ∧ Below w.heap.size w w') := lnumber_any g 4 (by decide)
  have HP : Hid ((⟨#[76, 79, 71, 0]⟩ : ByteArray) ++ st (ben g 4) = st (hf g)) := st_app [76, 79, 71, 0] (ben g 4)
  have hy : (st (ben g 4)).size = 4 := by rw [st_size, ben_len]
  obtain ⟨Y, hY⟩ : ∃ Y, st (ben g 4) = Y := ⟨_, rfl⟩
  unfold sv at NB ⊢
  rw [hY] at NB HP hy
  clear hY
  go_enter Tryd.func84, Tryd.ntmps84
  go_wp2_with fail
  refine Calls.mono (NB.out _) ?_
  rintro e w1 ⟨rfl, hb⟩
  have B1 : Hid _ := hb
  clear hb
  go_wp2
  go_ret
  exact ⟨by rw [← HP.out]; rfl, B1.out⟩
theorem lhm_any (g : Nat) (w : World) (hk : Hid (Kh w)) : Calls Tryd.prog 83 #[.int .i64 (g : Int)] w fun e w' => e = .returned (sv (hm g)) ∧ Below w.heap.size w w' := by
  have FR : Hid (∀ w, _) := lfront_any g
  have MK : Hid (∀ (B : Nat) (w : World), Kh w → w.cell? ⟨B, 0, none⟩ = some (sv (hf g)) → Calls Tryd.prog 74 #[.slice (some ⟨B, 0, none⟩) 1 1] w fun e w' => e = .returned (sv (hm g)) ∧ Below w.heap.size w w') := fun B w h h0 => by
    have := lmark_any (some ⟨B, 0, none⟩) [st (hf g)] 1 1 rfl (by decide) w h (strAt1 h0) (fun s hs => by rw [List.mem_singleton] at hs; subst hs; rw [st_size, hf_len]; decide)
    have e : ([st (hf g)].flatMap fun s => s.data.toList) = hf g := by simp [st_data]
    rw [e] at this
    exact this
  obtain ⟨Y, hY⟩ : ∃ Y, st (hf g) = Y := ⟨_, rfl⟩
  unfold sv at FR MK ⊢
  rw [hY] at FR MK
  clear hY
  go_enter Tryd.func83, Tryd.ntmps83
  go_wp2_with fail
  refine Calls.mono (FR.out _) ?_
  rintro e w1 ⟨rfl, hb⟩
  have B1 : Hid _ := hb
  clear hb
  go_wp2_with fail
  refine Calls.mono (MK.out w1.heap.size _ ((hk.out.later B1.out).alloc _) (by simp [go_sem])) ?_
  rintro e w2 ⟨rfl, hb⟩
  have B2 : Hid _ := chain (B1.out.alloc B1.out.size _) hb
  clear hb
  go_wp2
  go_ret
  exact ⟨rfl, B2.out⟩
theorem lhead_any (g : Nat) (w : World) (hk : Hid (Kh w)) : Calls Tryd.prog 68 #[.int .i64 (g : Int)] w fun e w' => e = .returned (sv (hd g)) ∧ Below w.heap.size w w' := by
  have FR : Hid (∀ w, _) := lfront_any g
  have HM : Hid (∀ w, _) := lhm_any g
  have PD : Hid (∀ w, Calls Tryd.prog 76 #[sv (hf g ++ hm g)] w fun e w' => e = .returned (sv (hd g)) ∧ Below w.heap.size w w') := lpadded_any (hf g ++ hm g) (by rw [List.length_append, hf_len, hm, mk_len]; decide)
  have h1 : (st (hf g)).size = 8 := by rw [st_size, hf_len]
  have h2 : (st (hm g)).size = 16 := by rw [st_size, hm, mk_len]
  have e3 : st (hf g ++ hm g) = st (hf g) ++ st (hm g) := (st_app _ _).symm
  unfold sv at *
  rw [e3] at PD
  clear e3
  obtain ⟨X, hX⟩ : ∃ X, st (hf g) = X := ⟨_, rfl⟩
  obtain ⟨Y, hY⟩ : ∃ Y, st (hm g) = Y := ⟨_, rfl⟩
  rw [hX] at FR PD h1
  rw [hY] at HM PD h2
  clear hX hY
  go_enter Tryd.func68, Tryd.ntmps68
  go_wp2_with fail
  refine Calls.mono (FR.out _) ?_
  rintro e w1 ⟨rfl, hb⟩
  have B1 : Hid _ := hb
  clear hb
  go_wp2_with fail
  refine Calls.mono (HM.out _ (hk.out.later B1.out)) ?_
  rintro e w2 ⟨rfl, hb⟩
  have B2 : Hid _ := chain B1.out hb
  clear hb
  go_wp2_with fail
  refine Calls.mono (PD.out _) ?_
  rintro e w3 ⟨rfl, hb⟩
  have B3 : Hid _ := chain B2.out hb
  clear hb
  go_wp2
  go_ret
  exact ⟨rfl, B3.out⟩
theorem lsectorsOf_any (x : Bs) (hx : x.length ≤ 1000000) (w : World) : Calls Tryd.prog 34 #[sv x] w fun e w' => e = .returned (.int .i64 (sn x : Int)) ∧ w' = w := by
  have hs : (st x).size = x.length := st_size x
  have e1 : (18 + ((st x).size : Int) + 64 - 1) / 64 = (sn x : Int) := by rw [hs]; unfold sn; omega
  have hl : (st x).size ≤ 1000000 := by omega
  obtain ⟨X, hX⟩ : ∃ X, st x = X := ⟨_, rfl⟩
  unfold sv
  rw [hX] at e1 hl ⊢
  obtain ⟨m, hm⟩ : ∃ m, sn x = m := ⟨_, rfl⟩
  rw [hm] at e1 ⊢
  clear hX hs hx hm
  go_enter Tryd.func34, Tryd.ntmps34
  go_wp2
  go_ret
  exact ⟨by rw [← e1]; rfl, rfl⟩
theorem lcheck_any (s : ByteArray) (w : World) : Calls Tryd.prog 33 #[.string s] w fun e w' => e = .returned (.int .i64 (may s.data.toList)) ∧ w' = w := by
  have hs : s.data.toList.length = s.size := by simp
  unfold may
  rw [hs]
  by_cases h1 : s.size < 1
  · rw [if_pos h1]
    have g1 : (s.size : Int) < 1 := by omega
    go_enter Tryd.func33, Tryd.ntmps33
    go_wp2
    go_ret
    exact ⟨rfl, rfl⟩
  · rw [if_neg h1]
    have g1 : ¬ (s.size : Int) < 1 := by omega
    by_cases h2 : 2000 < s.size
    · rw [if_pos h2]
      have g2 : (2000 : Int) < (s.size : Int) := by omega
      go_enter Tryd.func33, Tryd.ntmps33
      go_wp2
      go_ret
      exact ⟨rfl, rfl⟩
    · rw [if_neg h2]
      have g2 : ¬ (2000 : Int) < (s.size : Int) := by omega
      go_enter Tryd.func33, Tryd.ntmps33
      go_wp2
      go_ret
      exact ⟨rfl, rfl⟩
/-- A record as a value: its mark, its text. -/
abbrev rv (m t : Bs) : Value := .agg #[sv m, sv t]
theorem strAt3 {w : World} {B : Nat} {x y z : ByteArray} (h0 : w.cell? ⟨B, 0, none⟩ = some (.string x)) (h1 : w.cell? ⟨B, 1, none⟩ = some (.string y)) (h2 : w.cell? ⟨B, 2, none⟩ = some (.string z)) : StrAt w (some ⟨B, 0, none⟩) [x, y, z] := fun i hi => by
  refine ⟨B, 0, rfl, ?_⟩
  rcases (by simp at hi; omega : i = 0 ∨ i = 1 ∨ i = 2) with rfl | rfl | rfl
  · exact h0
  · exact h1
  · exact h2
theorem lnext_any (a t : Bs) (ha : a.length = 16) (ht : t.length ≤ 2000) (w : World) (hk : Hid (Kh w)) : Calls Tryd.prog 53 #[sv a, sv t] w fun e w' => e = .returned (rv (rmk a t) t) ∧ Below w.heap.size w w' := by
  have NB : Hid (∀ w, Calls Tryd.prog 75 #[.int .i64 ((st t).size : Int), .int .i64 2] w fun e w' => e = .returned (sv (ben t.length 2)) ∧ Below w.heap.size w w') := by
    rw [st_size]
    exact lnumber_any t.length 2 (by decide)
  have MK : Hid (∀ (B : Nat) (w : World), Kh w → w.cell? ⟨B, 0, none⟩ = some (sv a) → w.cell? ⟨B, 1, none⟩ = some (sv (ben t.length 2)) → w.cell? ⟨B, 2, none⟩ = some (sv t) → Calls Tryd.prog 74 #[.slice (some ⟨B, 0, none⟩) 3 3] w fun e w' => e = .returned (sv (rmk a t)) ∧ Below w.heap.size w w') := fun B w h h0 h1 h2 => by
    have := lmark_any (some ⟨B, 0, none⟩) [st a, st (ben t.length 2), st t] 3 3 rfl (by decide) w h (strAt3 h0 h1 h2) (fun s hs => by
      simp only [List.mem_cons, List.not_mem_nil, or_false] at hs
      rcases hs with rfl | rfl | rfl
      · rw [st_size, ha]; decide
      · rw [st_size, ben_len]; decide
      · rw [st_size]; omega)
    have e : ([st a, st (ben t.length 2), st t].flatMap fun s => s.data.toList) = a ++ ben t.length 2 ++ t := by simp [st_data]
    rw [e] at this
    exact this
  obtain ⟨Y, hY⟩ : ∃ Y, st (ben t.length 2) = Y := ⟨_, rfl⟩
  obtain ⟨A, hA⟩ : ∃ A, st a = A := ⟨_, rfl⟩
  obtain ⟨T, hT⟩ : ∃ T, st t = T := ⟨_, rfl⟩
  obtain ⟨R, hR⟩ : ∃ R, st (rmk a t) = R := ⟨_, rfl⟩
  unfold rv
  unfold sv at *
  rw [hY] at NB MK
  rw [hA] at MK ⊢
  rw [hT] at NB MK ⊢
  rw [hR] at MK ⊢
  have hTs : T.size ≤ 2000 := by rw [← hT, st_size]; exact ht
  clear hY hA hT hR ha ht
  have BK0 : Blk (w.alloc (.cells #[.string ⟨#[]⟩, .string ⟨#[]⟩] 86)) w.heap.size [.string ⟨#[]⟩, .string ⟨#[]⟩] := Blk.new w _ _ (by simp)
  have B0 : Below w.heap.size w (w.alloc (.cells #[.string ⟨#[]⟩, .string ⟨#[]⟩] 86)) := (Below.refl _ _).alloc (Nat.le_refl _) _
  have I0 : Hid (_ ∧ _) := And.intro BK0 B0
  clear BK0 B0
  go_enter Tryd.func53, Tryd.ntmps53
  go_wp2_with fail
  refine Calls.mono (NB.out _) ?_
  rintro e w1 ⟨rfl, hb⟩
  have I1 : Hid (_ ∧ _) := And.intro (I0.out.1.later hb) (chain I0.out.2 hb)
  clear hb I0
  go_wp2_with fail
  refine Calls.mono (MK.out w1.heap.size _ ((hk.out.later I1.out.2).alloc _) (by simp [go_sem]) (by simp [go_sem]) (by simp [go_sem])) ?_
  rintro e w2 ⟨rfl, hb⟩
  have hb' := ((Below.refl _ w1).alloc (Nat.le_refl _) _).trans (hb.mono (by simp))
  have I2 : Hid (_ ∧ _) := And.intro (I1.out.1.later hb') (chain I1.out.2 hb')
  clear hb hb' I1
  have k0 := I2.out.1.c 0 _ rfl
  have k1 := I2.out.1.c 1 _ rfl
  have k2 := I2.out.1.f
  have FI : Hid (_ ∧ _) := And.intro (I2.out.1.put [.string R, .string T] rfl) (below_sets (Nat.le_refl _) [.string R, .string T] 0 I2.out.2)
  clear I2
  go_wp2
  refine bodyPost_ret (v := .agg #[.string R, .string T]) ?_ rfl ⟨rfl, FI.out.2⟩
  exact res_c1 Tryd.results53 _ _ w.heap.size _ (by kernel_rfl) (run_loadVar_mid _ w.heap.size 0 86 [.string R, .string T] _ FI.out.1.r Tryd.underlying86 rfl (by kernel_rfl))
end Go.Proofs.YtdcimnmebgkmjaaDoor
