/- Parts: LgP, LgR, LgS. -/
import Derived.Test.YtdcimnmebgkmjaaGreatDoorZlG15
namespace Go.Proofs.YtdcimnmebgkmjaaGreatDoor
open Go.RowKit Go.Proofs.Fd Go.Proofs.Dk Go.Proofs.Lg
set_option maxRecDepth 20000
theorem lzeros_any (n : Nat) (hn : n ≤ 1000) (w : World) : Calls Tryz.prog 95 #[.int .i64 (n : Int)] w fun e w' => e = .returned (sv (zr n)) ∧ Below w.heap.size w w' := by
  have RP : Hid (∀ w, Calls Tryz.prog 120 #[.string ⟨#[0]⟩, .int .i64 (n : Int)] w fun e w' => e = .returned (sv (zr n)) ∧ Below w.heap.size w w') := rep_any 0 n hn
  clear hn
  obtain ⟨x, hx⟩ : ∃ x : Int, (n : Int) = x := ⟨_, rfl⟩
  rw [hx] at RP ⊢
  clear hx
  go_enter Tryz.func95, Tryz.ntmps95
  go_wp2_with fail
  refine Calls.mono (RP.out _) ?_
  rintro e w1 ⟨rfl, hb⟩
  have B1 : Hid _ := hb
  clear hb
  go_wp2
  go_ret
  exact ⟨rfl, B1.out⟩
theorem made_zr (n : Nat) : madeCells (Value.int .u8 0).cells n = Array.replicate n (.int .u8 0) := by
  apply Array.ext
  · simp [madeCells]
  · intro i h1 h2
    rw [Array.getElem_replicate]
    simp [madeCells, Value.cells, Nat.mod_one]
theorem lmake_n (n : Nat) (hn : n ≤ 1000) (w : World) : ∃ W : World, (Instr.makeSlice 68 (.int .i64 (n : Int)) (.int .i64 (n : Int))).run Tryz.prog w = .ok (.slice (some ⟨w.heap.size, 0, none⟩) n n) W
    ∧ BytesAt W w.heap.size (zr n) ∧ Below w.heap.size w W := by
  obtain ⟨i0, hi, hz0, hz1, hz2⟩ := info_parts infoU8
  have h := run_make (P := Tryz.prog) w 68 5 i0 (.int .u8 0) Tryz.underlying68 hi hz0 .i64 .i64 (n : Int) (n : Int) (by omega) (Int.le_refl _) (by rw [hz2]; omega) (by omega)
  rw [Int.toNat_natCast, hz1, Nat.mul_one, made_zr] at h
  refine ⟨_, h, fun j hj => ?_, (Below.refl _ _).alloc (Nat.le_refl _) _⟩
  have hj' : j < n := by rw [zr_len] at hj; exact hj
  refine ⟨?_, by simp [go_sem]⟩
  rw [World.cell?_alloc_new, Array.getElem?_replicate, if_pos hj']
  simp [zr]
theorem ben_step (n m k : Nat) (hk : k < m) : ((ben n m).take k ++ zr (m - k)).set k (UInt8.ofNat (n / 2 ^ (8 * (m - 1 - k)))) = (ben n m).take (k + 1) ++ zr (m - (k + 1)) := by
  have hl : ((ben n m).take k).length = k := by rw [List.length_take, ben_len]; omega
  rw [List.set_append_right _ _ (by omega), hl, Nat.sub_self, List.take_succ_eq_append_getElem (by rw [ben_len]; exact hk), List.append_assoc]
  congr 1
  obtain ⟨d, hd⟩ : ∃ d, m - k = d + 1 := ⟨m - k - 1, by omega⟩
  rw [hd, show m - (k + 1) = d by omega]
  simp [zr, List.replicate_succ, ben]
set_option maxHeartbeats 1000000 in
theorem lnumber_any (n m : Nat) (hm : m ≤ 8) (w : World) : Calls Tryz.prog 122 #[.int .i64 (n : Int), .int .i64 (m : Int)] w fun e w' => e = .returned (sv (ben n m)) ∧ Below w.heap.size w w' := by
  obtain ⟨W, MK, BM, BB⟩ := lmake_n m (by omega) w
  have HB : Hid (Below w.heap.size w W) := BB
  have HM : Hid (BytesAt W w.heap.size (zr m)) := BM
  have hm0 : (0 : Int) ≤ (m : Int) := by omega
  clear BB BM
  obtain ⟨B, hB⟩ : ∃ B, w.heap.size = B := ⟨_, rfl⟩
  rw [hB] at MK HM HB ⊢
  clear hB
  go_enter Tryz.func122, Tryz.ntmps122
  go_wp2
  go_loopw [11] (fun i wr => ∃ k : Nat, k ≤ m ∧ i = .int .i64 (k : Int) ∧ Hid (BytesAt wr B ((ben n m).take k ++ zr (m - k)) ∧ Below B w wr)) (fun i _ => m - (intOf i).toNat)
  case atStart => exact ⟨0, Nat.zero_le _, rfl, HM.out, HB.out⟩
  case round =>
    obtain ⟨k, hk, rfl, J⟩ := hrel
    clear HB HM MK
    by_cases hkm : k < m
    · have g1 : (k : Int) < (m : Int) := by omega
      have hlen : ((ben n m).take k ++ zr (m - k)).length = m := by
        rw [List.length_append, List.length_take, ben_len, zr_len]
        omega
      obtain ⟨c0, f0⟩ := J.out.1 k (by rw [hlen]; exact hkm)
      obtain ⟨t, ht⟩ : ∃ t, m - 1 - k = t := ⟨_, rfl⟩
      have e0 : (m : Int) - 1 - (k : Int) = (t : Int) := by omega
      have e6 : IntKind.i64.wrap (8 * (t : Int)) = ((8 * t : Nat) : Int) := by rw [IntKind.wrap_i64]; omega
      have e7 : ((8 * t : Nat) : Int) ≤ 64 := by omega
      have BV : (n : Int) / 2 ^ (8 * t) % 256 = ((UInt8.ofNat (n / 2 ^ (8 * t))).toNat : Int) := by rw [UInt8.toNat_ofNat']; simp
      have ST := J.out.1.set k (UInt8.ofNat (n / 2 ^ (8 * t))) _ rfl
      rw [← ht, ben_step n m k hkm, ht] at ST
      have HS : Hid _ := ST
      have HC : Hid (Below B w (wr.setCell ⟨B, k, none⟩ (.int .u8 ((UInt8.ofNat (n / 2 ^ (8 * t))).toNat : Int)))) := J.out.2.setCell (p := ⟨B, k, none⟩) (Nat.le_refl _) _
      obtain ⟨c, hc⟩ : ∃ c, UInt8.ofNat (n / 2 ^ (8 * t)) = c := ⟨_, rfl⟩
      rw [hc] at BV HS HC
      obtain ⟨v, hv⟩ : ∃ v, Value.int .u8 (((ben n m).take k ++ zr (m - k))[k]'(by rw [hlen]; exact hkm)).toNat = v := ⟨_, rfl⟩
      rw [hv] at c0
      clear ST hc hv hlen J
      go_wp2
      go_roundw
      case rel => exact ⟨k + 1, by omega, rfl, HS.out, HC.out⟩
      case measure => simp [intOf]; omega
    · obtain rfl : k = m := by omega
      have J2 : Hid (BytesAt wr B (ben n k) ∧ Below B w wr) := by
        have := J.out
        rw [List.take_of_length_le (by rw [ben_len]; exact Nat.le_refl _), Nat.sub_self] at this
        have e : ben n k ++ zr 0 = ben n k := List.append_nil _
        rw [e] at this
        exact this
      have CV := J2.out.1.string (cap := k) (ben_len n k)
      clear J
      go_wp2
      go_ret
      exact ⟨rfl, J2.out.2⟩
theorem lpadded_any (x : Bs) (hx : x.length ≤ 4096) (w : World) : Calls Tryz.prog 123 #[sv x] w fun e w' => e = .returned (sv (pdd x)) ∧ Below w.heap.size w w' := by
  have hs : (st x).size = x.length := st_size x
  obtain ⟨z, hz⟩ : ∃ z, (64 - x.length % 64) % 64 = z := ⟨_, rfl⟩
  have ZR : Hid (∀ w, _) := lzeros_any z (by omega)
  have HP : Hid (st x ++ st (zr z) = st (pdd x)) := by
    show st x ++ st (zr z) = st (pdd x)
    rw [st_app, pdd, hz]
  obtain ⟨X, hX⟩ : ∃ X, st x = X := ⟨_, rfl⟩
  obtain ⟨Y, hY⟩ : ∃ Y, st (zr z) = Y := ⟨_, rfl⟩
  have hy : Y.size = z := by rw [← hY, st_size, zr_len]
  have e1 : (64 - (X.size : Int) % 64) % 64 = (z : Int) := by rw [← hX, hs]; omega
  have hl : X.size ≤ 4096 := by rw [← hX, hs]; exact hx
  have hz2 : z < 64 := by omega
  unfold sv at ZR ⊢
  rw [hX] at HP ⊢
  rw [hY] at ZR HP
  clear hX hY hs hz hx
  go_enter Tryz.func123, Tryz.ntmps123
  go_wp2_with fail
  refine Calls.mono (ZR.out _) ?_
  rintro e w1 ⟨rfl, hb⟩
  have B1 : Hid _ := hb
  clear hb
  go_wp2
  go_ret
  exact ⟨by rw [← HP.out]; rfl, B1.out⟩
theorem lmark_any (a : Option Addr) (ks : List ByteArray) (n cap : Nat) (hn : Hid (ks.length = n)) (hn63 : n < 9223372036854775807) (w : World) (hk : Hid (Kh w)) (hc : Hid (StrAt w a ks)) (hs : Hid (∀ s ∈ ks, s.size < 9223372036854775807)) :
    Calls Tryz.prog 121 #[.slice a n cap] w fun e w' => e = .returned (sv (Lg.mk (ks.flatMap fun s => s.data.toList))) ∧ Below w.heap.size w w' := by
  have SH : Hid _ := Short_ok 16 (by decide) (by decide) a ks n cap hn hn63 w hk hc hs
  have e1 : (shs ks).extract 0 16 = st (Lg.mk (ks.flatMap fun s => s.data.toList)) := by
    have : shs ks = st (Hs.sha (ks.flatMap fun s => s.data.toList)) := rfl
    rw [this, st_cut, Lg.mk, List.drop_zero]
  rw [e1] at SH
  clear e1 hc hs hk hn
  obtain ⟨X, hX⟩ : ∃ X, st (Lg.mk (ks.flatMap fun s => s.data.toList)) = X := ⟨_, rfl⟩
  unfold sv
  rw [hX] at SH ⊢
  clear hX hn63
  go_enter Tryz.func121, Tryz.ntmps121
  go_wp2_with fail
  refine Calls.mono SH.out ?_
  rintro e w1 ⟨rfl, hb⟩
  have B1 : Hid _ := hb
  clear hb
  go_wp2
  go_ret
  exact ⟨rfl, B1.out⟩
theorem lfront_any (g : Nat) (w : World) : Calls Tryz.prog 132 #[.int .i64 (g : Int)] w fun e w' => e = .returned (sv (hf g)) ∧ Below w.heap.size w w' := by
  have NB : Hid (∀ w, Calls Tryz.prog 122 #[.int .i64 (g : Int), .int .i64 4] w fun e w' => e = .returned (sv (ben g 4)) ∧ Below w.heap.size w w') := lnumber_any g 4 (by decide)
  have HP : Hid ((⟨#[76, 79, 71, 0]⟩ : ByteArray) ++ st (ben g 4) = st (hf g)) := st_app [76, 79, 71, 0] (ben g 4)
  have hy : (st (ben g 4)).size = 4 := by rw [st_size, ben_len]
  obtain ⟨Y, hY⟩ : ∃ Y, st (ben g 4) = Y := ⟨_, rfl⟩
  unfold sv at NB ⊢
  rw [hY] at NB HP hy
  clear hY
  go_enter Tryz.func132, Tryz.ntmps132
  go_wp2_with fail
  refine Calls.mono (NB.out _) ?_
  rintro e w1 ⟨rfl, hb⟩
  have B1 : Hid _ := hb
  clear hb
  go_wp2
  go_ret
  exact ⟨by rw [← HP.out]; rfl, B1.out⟩
theorem lhm_any (g : Nat) (w : World) (hk : Hid (Kh w)) : Calls Tryz.prog 131 #[.int .i64 (g : Int)] w fun e w' => e = .returned (sv (hm g)) ∧ Below w.heap.size w w' := by
  have FR : Hid (∀ w, _) := lfront_any g
  have MK : Hid (∀ (B : Nat) (w : World), Kh w → w.cell? ⟨B, 0, none⟩ = some (sv (hf g)) → Calls Tryz.prog 121 #[.slice (some ⟨B, 0, none⟩) 1 1] w fun e w' => e = .returned (sv (hm g)) ∧ Below w.heap.size w w') := fun B w h h0 => by
    have := lmark_any (some ⟨B, 0, none⟩) [st (hf g)] 1 1 rfl (by decide) w h (strAt1 h0) (fun s hs => by rw [List.mem_singleton] at hs; subst hs; rw [st_size, hf_len]; decide)
    have e : ([st (hf g)].flatMap fun s => s.data.toList) = hf g := by simp [st_data]
    rw [e] at this
    exact this
  obtain ⟨Y, hY⟩ : ∃ Y, st (hf g) = Y := ⟨_, rfl⟩
  unfold sv at FR MK ⊢
  rw [hY] at FR MK
  clear hY
  go_enter Tryz.func131, Tryz.ntmps131
  go_wp2_with fail
  refine Calls.mono (FR.out _) ?_
  rintro e w1 ⟨rfl, hb⟩
  have B1 : Hid _ := hb
  clear hb
  go_wp2_with fail
  refine Calls.mono (MK.out w1.heap.size _ ((hk.out.later B1.out).alloc _) (by simp [go_sem])) ?_
  rintro e w2 ⟨rfl, hb⟩
  have B2 : Hid _ := chain (B1.out.alloc B1.out.size _) hb
  clear hb
  go_wp2
  go_ret
  exact ⟨rfl, B2.out⟩
theorem lhead_any (g : Nat) (w : World) (hk : Hid (Kh w)) : Calls Tryz.prog 117 #[.int .i64 (g : Int)] w fun e w' => e = .returned (sv (hd g)) ∧ Below w.heap.size w w' := by
  have FR : Hid (∀ w, _) := lfront_any g
  have HM : Hid (∀ w, _) := lhm_any g
  have PD : Hid (∀ w, Calls Tryz.prog 123 #[sv (hf g ++ hm g)] w fun e w' => e = .returned (sv (hd g)) ∧ Below w.heap.size w w') := lpadded_any (hf g ++ hm g) (by rw [List.length_append, hf_len, hm, mk_len]; decide)
  have h1 : (st (hf g)).size = 8 := by rw [st_size, hf_len]
  have h2 : (st (hm g)).size = 16 := by rw [st_size, hm, mk_len]
  have e3 : st (hf g ++ hm g) = st (hf g) ++ st (hm g) := (st_app _ _).symm
  unfold sv at *
  rw [e3] at PD
  clear e3
  obtain ⟨X, hX⟩ : ∃ X, st (hf g) = X := ⟨_, rfl⟩
  obtain ⟨Y, hY⟩ : ∃ Y, st (hm g) = Y := ⟨_, rfl⟩
  rw [hX] at FR PD h1
  rw [hY] at HM PD h2
  clear hX hY
  go_enter Tryz.func117, Tryz.ntmps117
  go_wp2_with fail
  refine Calls.mono (FR.out _) ?_
  rintro e w1 ⟨rfl, hb⟩
  have B1 : Hid _ := hb
  clear hb
  go_wp2_with fail
  refine Calls.mono (HM.out _ (hk.out.later B1.out)) ?_
  rintro e w2 ⟨rfl, hb⟩
  have B2 : Hid _ := chain B1.out hb
  clear hb
  go_wp2_with fail
  refine Calls.mono (PD.out _) ?_
  rintro e w3 ⟨rfl, hb⟩
  have B3 : Hid _ := chain B2.out hb
  clear hb
  go_wp2
  go_ret
  exact ⟨rfl, B3.out⟩
theorem lsectorsOf_any (x : Bs) (hx : x.length ≤ 1000000) (w : World) : Calls Tryz.prog 59 #[sv x] w fun e w' => e = .returned (.int .i64 (sn x : Int)) ∧ w' = w := by
  have hs : (st x).size = x.length := st_size x
  have e1 : (18 + ((st x).size : Int) + 64 - 1) / 64 = (sn x : Int) := by rw [hs]; unfold sn; omega
  have hl : (st x).size ≤ 1000000 := by omega
  obtain ⟨X, hX⟩ : ∃ X, st x = X := ⟨_, rfl⟩
  unfold sv
  rw [hX] at e1 hl ⊢
  obtain ⟨m, hm⟩ : ∃ m, sn x = m := ⟨_, rfl⟩
  rw [hm] at e1 ⊢
  clear hX hs hx hm
  go_enter Tryz.func59, Tryz.ntmps59
  go_wp2
  go_ret
  exact ⟨by rw [← e1]; rfl, rfl⟩
theorem lcheck_any (s : ByteArray) (w : World) : Calls Tryz.prog 58 #[.string s] w fun e w' => e = .returned (.int .i64 (may s.data.toList)) ∧ w' = w := by
  have hs : s.data.toList.length = s.size := by simp
  unfold may
  rw [hs]
  by_cases h1 : s.size < 1
  · rw [if_pos h1]
    have g1 : (s.size : Int) < 1 := by omega
    go_enter Tryz.func58, Tryz.ntmps58
    go_wp2
    go_ret
    exact ⟨rfl, rfl⟩
  · rw [if_neg h1]
    have g1 : ¬ (s.size : Int) < 1 := by omega
    by_cases h2 : 2000 < s.size
    · rw [if_pos h2]
      have g2 : (2000 : Int) < (s.size : Int) := by omega
      go_enter Tryz.func58, Tryz.ntmps58
      go_wp2
      go_ret
      exact ⟨rfl, rfl⟩
    · rw [if_neg h2]
      have g2 : ¬ (2000 : Int) < (s.size : Int) := by omega
      go_enter Tryz.func58, Tryz.ntmps58
      go_wp2
      go_ret
      exact ⟨rfl, rfl⟩
abbrev rv (m t : Bs) : Value := .agg #[sv m, sv t]
theorem strAt3 {w : World} {B : Nat} {x y z : ByteArray} (h0 : w.cell? ⟨B, 0, none⟩ = some (.string x)) (h1 : w.cell? ⟨B, 1, none⟩ = some (.string y)) (h2 : w.cell? ⟨B, 2, none⟩ = some (.string z)) : StrAt w (some ⟨B, 0, none⟩) [x, y, z] := fun i hi => by
  refine ⟨B, 0, rfl, ?_⟩
  rcases (by simp at hi; omega : i = 0 ∨ i = 1 ∨ i = 2) with rfl | rfl | rfl
  · exact h0
  · exact h1
  · exact h2
theorem lnext_any (a t : Bs) (ha : a.length = 16) (ht : t.length ≤ 2000) (w : World) (hk : Hid (Kh w)) : Calls Tryz.prog 97 #[sv a, sv t] w fun e w' => e = .returned (rv (rmk a t) t) ∧ Below w.heap.size w w' := by
  have NB : Hid (∀ w, Calls Tryz.prog 122 #[.int .i64 ((st t).size : Int), .int .i64 2] w fun e w' => e = .returned (sv (ben t.length 2)) ∧ Below w.heap.size w w') := by
    rw [st_size]
    exact lnumber_any t.length 2 (by decide)
  have MK : Hid (∀ (B : Nat) (w : World), Kh w → w.cell? ⟨B, 0, none⟩ = some (sv a) → w.cell? ⟨B, 1, none⟩ = some (sv (ben t.length 2)) → w.cell? ⟨B, 2, none⟩ = some (sv t) → Calls Tryz.prog 121 #[.slice (some ⟨B, 0, none⟩) 3 3] w fun e w' => e = .returned (sv (rmk a t)) ∧ Below w.heap.size w w') := fun B w h h0 h1 h2 => by
    have := lmark_any (some ⟨B, 0, none⟩) [st a, st (ben t.length 2), st t] 3 3 rfl (by decide) w h (strAt3 h0 h1 h2) (fun s hs => by
      simp only [List.mem_cons, List.not_mem_nil, or_false] at hs
      rcases hs with rfl | rfl | rfl
      · rw [st_size, ha]; decide
      · rw [st_size, ben_len]; decide
      · rw [st_size]; omega)
    have e : ([st a, st (ben t.length 2), st t].flatMap fun s => s.data.toList) = a ++ ben t.length 2 ++ t := by simp [st_data]
    rw [e] at this
    exact this
  obtain ⟨Y, hY⟩ : ∃ Y, st (ben t.length 2) = Y := ⟨_, rfl⟩
  obtain ⟨A, hA⟩ : ∃ A, st a = A := ⟨_, rfl⟩
  obtain ⟨T, hT⟩ : ∃ T, st t = T := ⟨_, rfl⟩
  obtain ⟨R, hR⟩ : ∃ R, st (rmk a t) = R := ⟨_, rfl⟩
  unfold rv
  unfold sv at *
  rw [hY] at NB MK
  rw [hA] at MK ⊢
  rw [hT] at NB MK ⊢
  rw [hR] at MK ⊢
  have hTs : T.size ≤ 2000 := by rw [← hT, st_size]; exact ht
  clear hY hA hT hR ha ht
  have BK0 : Blk (w.alloc (.cells #[.string ⟨#[]⟩, .string ⟨#[]⟩] 137)) w.heap.size [.string ⟨#[]⟩, .string ⟨#[]⟩] := Blk.new w _ _ (by simp)
  have B0 : Below w.heap.size w (w.alloc (.cells #[.string ⟨#[]⟩, .string ⟨#[]⟩] 137)) := (Below.refl _ _).alloc (Nat.le_refl _) _
  have I0 : Hid (_ ∧ _) := And.intro BK0 B0
  clear BK0 B0
  go_enter Tryz.func97, Tryz.ntmps97
  go_wp2_with fail
  refine Calls.mono (NB.out _) ?_
  rintro e w1 ⟨rfl, hb⟩
  have I1 : Hid (_ ∧ _) := And.intro (I0.out.1.later hb) (chain I0.out.2 hb)
  clear hb I0
  go_wp2_with fail
  refine Calls.mono (MK.out w1.heap.size _ ((hk.out.later I1.out.2).alloc _) (by simp [go_sem]) (by simp [go_sem]) (by simp [go_sem])) ?_
  rintro e w2 ⟨rfl, hb⟩
  have hb' := ((Below.refl _ w1).alloc (Nat.le_refl _) _).trans (hb.mono (by simp))
  have I2 : Hid (_ ∧ _) := And.intro (I1.out.1.later hb') (chain I1.out.2 hb')
  clear hb hb' I1
  have k0 := I2.out.1.c 0 _ rfl
  have k1 := I2.out.1.c 1 _ rfl
  have k2 := I2.out.1.f
  have FI : Hid (_ ∧ _) := And.intro (I2.out.1.put [.string R, .string T] rfl) (below_sets (Nat.le_refl _) [.string R, .string T] 0 I2.out.2)
  clear I2
  go_wp2
  refine bodyPost_ret (v := .agg #[.string R, .string T]) ?_ rfl ⟨rfl, FI.out.2⟩
  exact res_c1 Tryz.results97 _ _ w.heap.size _ (by kernel_rfl) (run_loadVar_mid _ w.heap.size 0 137 [.string R, .string T] _ FI.out.1.r Tryz.underlying137 rfl (by kernel_rfl))
end Go.Proofs.YtdcimnmebgkmjaaGreatDoor
namespace Go.Proofs.YtdcimnmebgkmjaaGreatDoor
open Go.RowKit Go.Proofs.Fd Go.Proofs.Dk Go.Proofs.Lg
set_option maxRecDepth 20000
theorem keep2 {w0 : World} {B : Nat} {x y : Value} {wa wb : World} (hb : Below wa.heap.size wa wb) (h : wa.cell? ⟨B, 0, none⟩ = some x ∧ wa.cell? ⟨B, 1, none⟩ = some y ∧ Below w0.heap.size w0 wa) :
    wb.cell? ⟨B, 0, none⟩ = some x ∧ wb.cell? ⟨B, 1, none⟩ = some y ∧ Below w0.heap.size w0 wb := ⟨cell_later hb h.1, cell_later hb h.2.1, chain h.2.2 hb⟩
theorem chd {w W wz : World} (h1 : Below w.heap.size w W) (hb : Below W.drew.heap.size W.drew wz) : Below w.heap.size w wz := chain (chain h1 (Below.refl _ _).drew) hb
set_option maxHeartbeats 1000000 in
theorem lsectors_any (m t : Bs) (hm : m.length = 16) (ht : t.length ≤ 2000) (w : World) : Calls Tryz.prog 98 #[rv m t] w fun e w' => e = .returned (sv (pdd (ben t.length 2 ++ m ++ t))) ∧ Below w.heap.size w w' := by
  have NB : Hid (∀ w, Calls Tryz.prog 122 #[.int .i64 ((st t).size : Int), .int .i64 2] w fun e w' => e = .returned (sv (ben t.length 2)) ∧ Below w.heap.size w w') := by
    rw [st_size]
    exact lnumber_any t.length 2 (by decide)
  have PD : Hid (∀ w, Calls Tryz.prog 123 #[sv (ben t.length 2 ++ m ++ t)] w fun e w' => e = .returned (sv (pdd (ben t.length 2 ++ m ++ t))) ∧ Below w.heap.size w w') := lpadded_any _ (by rw [List.length_append, List.length_append, ben_len, hm]; omega)
  have e3 : st (ben t.length 2 ++ m ++ t) = st (ben t.length 2) ++ st m ++ st t := by rw [← st_app, ← st_app]
  obtain ⟨R, hR⟩ : ∃ R, st (pdd (ben t.length 2 ++ m ++ t)) = R := ⟨_, rfl⟩
  unfold rv
  unfold sv at *
  rw [hR] at PD ⊢
  rw [e3] at PD
  have hY2 : (st (ben t.length 2)).size = 2 := by rw [st_size, ben_len]
  have hM2 : (st m).size = 16 := by rw [st_size, hm]
  have hT2 : (st t).size ≤ 2000 := by rw [st_size]; exact ht
  obtain ⟨Y, hY⟩ : ∃ Y, st (ben t.length 2) = Y := ⟨_, rfl⟩
  obtain ⟨M, hM⟩ : ∃ M, st m = M := ⟨_, rfl⟩
  obtain ⟨T, hT⟩ : ∃ T, st t = T := ⟨_, rfl⟩
  rw [hY] at NB PD hY2
  rw [hM] at PD hM2 ⊢
  rw [hT] at NB PD hT2 ⊢
  have hT3 : ¬ 9223372036854775807 < 18 + T.size := by omega
  clear hY hM hT hR e3 hm ht
  have B0 : Hid (Below w.heap.size w (w.alloc (.cells #[.string M, .string T] 137))) := (Below.refl _ _).alloc (Nat.le_refl _) _
  obtain ⟨w0, hw0⟩ : ∃ w0, w.alloc (.cells #[.string M, .string T] 137) = w0 := ⟨_, rfl⟩
  have c0 : w0.cell? ⟨w.heap.size, 0, none⟩ = some (.string M) := by rw [← hw0, World.cell?_alloc_new]; rfl
  have c1 : w0.cell? ⟨w.heap.size, 1, none⟩ = some (.string T) := by rw [← hw0, World.cell?_alloc_new]; rfl
  rw [hw0] at B0
  go_enter Tryz.func98, Tryz.ntmps98
  go_wp2_with fail
  go_region_held3 (fun w' => w'.cell? ⟨w.heap.size, 0, none⟩ = some (.string M) ∧ w'.cell? ⟨w.heap.size, 1, none⟩ = some (.string T) ∧ Below w0.heap.size w0 w') (first | exact ⟨c0, c1, (Below.refl _ _).drew⟩ | assumption | exact keep2 (by assumption) (by assumption)) (first | (go_at_call 122; refine Calls.mono (NB.out _) ?_; rintro e w1 ⟨rfl, hb1⟩) | (go_at_call 123; refine Calls.mono (PD.out _) ?_; rintro e w2 ⟨rfl, hb2⟩))
  have FF : Hid (Below w.heap.size w w2) := chain (chd B0.out hb1) hb2
  go_wp2
  go_ret
  exact ⟨rfl, FF.out⟩
theorem lprefix_any (s p : ByteArray) (w : World) : Calls Tryz.prog 130 #[.string s, .string p] w fun e w' => e = .returned (.bool (p.data.toList.isPrefixOf s.data.toList)) ∧ w' = w := Any.strings_HasPrefix (ρ := repAt) { repLies with } s p w
theorem nm_app (l : Bs) (b : UInt8) : nm (l ++ [b]) = nm l * 256 + b.toNat := by rw [nm, List.foldl_append]; rfl
theorem nm_fold : ∀ (l : Bs) (n m : Nat), n < 256 ^ m → l.foldl (fun n b => n * 256 + b.toNat) n < 256 ^ (m + l.length)
  | [], _, _, h => h
  | b :: l, n, m, h => by
    have hb := b.toNat_lt
    rw [List.foldl_cons, List.length_cons, show m + (l.length + 1) = (m + 1) + l.length by omega]
    refine nm_fold l _ (m + 1) ?_
    rw [Nat.pow_succ]
    omega
theorem nm_lt (l : Bs) : nm l < 256 ^ l.length := by
  have := nm_fold l 0 0 (by decide)
  rw [Nat.zero_add] at this
  exact this
theorem or_low (n : Nat) (b : UInt8) (hn : n < 16777216) : bits .or .i64 ((n : Int) * 256) (b.toNat : Int) = ((n * 256 + b.toNat : Nat) : Int) := by
  have h3 := b.toNat_lt
  rw [show (n : Int) * 256 = ((n * 256 : Nat) : Int) by omega, (bits_nat .i64 32 (by decide) (fun n _ _ => by rw [IntKind.wrap_i64]; omega) (n * 256) b.toNat (by omega) (by omega)).2]
  have := Nat.shiftLeft_add_eq_or_of_lt (show b.toNat < 2 ^ 8 from h3) n
  rw [Nat.shiftLeft_eq] at this
  rw [show n * 256 = n * 2 ^ 8 by omega, ← this]
set_option maxHeartbeats 1000000 in
theorem lgen_any (b : Bs) (h1 : 8 ≤ b.length) (w : World) (hk : Hid (Kh w)) : Calls Tryz.prog 114 #[sv b] w fun e w' => e = .returned (.int .i64 (gen b : Int)) ∧ Below w.heap.size w w' := by
  have HD : Hid (∀ (g : Nat) (w : World), Kh w → Calls Tryz.prog 117 #[.int .i64 (g : Int)] w fun e w' => e = .returned (sv (hd g)) ∧ Below w.heap.size w w') := fun g w h => lhead_any g w h
  have hs : (st b).size = b.length := st_size b
  obtain ⟨X, hX⟩ : ∃ X, st b = X := ⟨_, rfl⟩
  unfold sv
  rw [hX] at hs ⊢
  have HX : Hid (st b = X) := hX
  clear hX
  go_enter Tryz.func114, Tryz.ntmps114
  go_wp2
  go_loopw [3, 5] (fun x i wr => ∃ k : Nat, k ≤ 4 ∧ i = .int .i64 (k : Int) ∧ x = .int .i64 (nm ((b.drop 4).take k) : Int) ∧ wr = w) (fun _ i _ => 4 - (intOf i).toNat)
  case atStart => exact ⟨0, Nat.zero_le _, rfl, rfl, rfl⟩
  case round =>
    obtain ⟨k, hk4, rfl, rfl, rfl⟩ := hrel
    by_cases hk5 : k < 4
    · have g1 : (k : Int) < 4 := by omega
      have l0 : 4 + k < X.size := by omega
      have l1 : (4 : Int) + (k : Int) < (X.size : Int) := by omega
      have l2 : (0 : Int) ≤ 4 + (k : Int) := by omega
      have hlt := nm_lt ((b.drop 4).take k)
      have hpw : 256 ^ ((b.drop 4).take k).length ≤ 16777216 := by
        have : ((b.drop 4).take k).length ≤ 3 := by rw [List.length_take]; omega
        exact Nat.le_trans (Nat.pow_le_pow_right (by decide) this) (by decide)
      obtain ⟨c, hc⟩ : ∃ c, X[4 + k] = c := ⟨_, rfl⟩
      have hc2 : b[4 + k]'(by omega) = c := by
        have := HX.out
        subst this
        rw [← hc]
        rfl
      have hst : nm ((b.drop 4).take (k + 1)) = nm ((b.drop 4).take k) * 256 + c.toNat := by
        rw [List.take_succ_eq_append_getElem (by rw [List.length_drop]; omega), nm_app, List.getElem_drop, hc2]
      obtain ⟨n, hn⟩ : ∃ n, nm ((b.drop 4).take k) = n := ⟨_, rfl⟩
      rw [hn] at hst hlt ⊢
      have hcl := c.toNat_lt
      have t1 : IntKind.i64.wrap (c.toNat : Int) = (c.toNat : Int) := by rw [IntKind.wrap_i64]; omega
      have t2 : IntKind.i64.wrap ((n : Int) * 256) = (n : Int) * 256 := by rw [IntKind.wrap_i64]; omega
      have OW := or_low n c (by omega)
      have HST : Hid (nm ((b.drop 4).take (k + 1)) = n * 256 + c.toNat) := hst
      clear hst hn hc2 hlt hpw hcl
      go_wp2
      go_roundw
      case rel => exact ⟨k + 1, by omega, rfl, by rw [HST.out]; simp, by first | rfl | trivial⟩
      case measure => simp [intOf]; omega
    · obtain rfl : k = 4 := by omega
      have g0 : Hid (gen b = if nm ((b.drop 4).take 4) ≤ 2147483647 ∧ (hd (nm ((b.drop 4).take 4))).isPrefixOf b = true then nm ((b.drop 4).take 4) else 0) := rfl
      obtain ⟨n, hn⟩ : ∃ n, nm ((b.drop 4).take 4) = n := ⟨_, rfl⟩
      rw [hn] at g0 ⊢
      clear hn
      by_cases hbig : 2147483647 < n
      · have gb : 2147483647 < (n : Int) := by omega
        have E0 : Hid (gen b = 0) := by
          have := g0.out
          rw [if_neg (fun c => by have := c.1; omega)] at this
          exact this
        obtain ⟨z, hz⟩ : ∃ z : Int, (n : Int) = z := ⟨_, rfl⟩
        rw [hz] at gb ⊢
        clear hz g0 hbig HD
        go_wp2
        go_ret
        exact ⟨by rw [E0.out]; rfl, Below.refl _ _⟩
      have gb : ¬ 2147483647 < (n : Int) := by omega
      have hle : Hid (n ≤ 2147483647) := Nat.le_of_not_lt hbig
      clear hbig
      have PF : Hid (∀ w, Calls Tryz.prog 130 #[.string X, sv (hd n)] w fun e w' => e = .returned (.bool ((hd n).isPrefixOf b)) ∧ w' = w) := fun w => by
        have := HX.out
        subst this
        exact lprefix_any (st b) (st (hd n)) w
      obtain ⟨Y, hY⟩ : ∃ Y, st (hd n) = Y := ⟨_, rfl⟩
      unfold sv at HD PF
      have HD2 : Hid (Calls Tryz.prog 117 #[.int .i64 (n : Int)] wr fun e w' => e = .returned (.string (st (hd n))) ∧ Below wr.heap.size wr w') := HD.out n wr hk.out
      rw [hY] at PF HD2
      clear hY HD
      cases hp : (hd n).isPrefixOf b
      · rw [hp] at PF g0
        go_wp2_with fail
        refine Calls.mono HD2.out ?_
        rintro e w1 ⟨rfl, hb⟩
        have B1 : Hid _ := hb
        clear hb
        go_wp2_with fail
        refine Calls.mono (PF.out _) ?_
        rintro e w2 ⟨rfl, rfl⟩
        go_wp2
        go_ret
        exact ⟨by rw [g0.out, if_neg (fun c => by simp at c)]; rfl, B1.out⟩
      · rw [hp] at PF g0
        go_wp2_with fail
        refine Calls.mono HD2.out ?_
        rintro e w1 ⟨rfl, hb⟩
        have B1 : Hid _ := hb
        clear hb
        go_wp2_with fail
        refine Calls.mono (PF.out _) ?_
        rintro e w2 ⟨rfl, rfl⟩
        go_wp2
        go_ret
        exact ⟨by rw [g0.out, if_pos (by first | exact ⟨hle.out, rfl⟩ | exact ⟨hle.out, trivial⟩)]; rfl, B1.out⟩
end Go.Proofs.YtdcimnmebgkmjaaGreatDoor
namespace Go.Proofs.YtdcimnmebgkmjaaGreatDoor
open Go.RowKit Go.Proofs.Fd Go.Proofs.Dk Go.Proofs.Lg
set_option maxRecDepth 20000
def rofV (b a : Bs) : Value := match rof b a with
  | none => .tuple #[rv [] [], .bool false]
  | some t => .tuple #[rv (rmk a t) t, .bool true]
theorem blk_rec (w : World) : Hid (Blk (w.alloc (.cells #[.string ⟨#[]⟩, .string ⟨#[]⟩] 137)) w.heap.size [.string ⟨#[]⟩, .string ⟨#[]⟩] ∧ Below w.heap.size w (w.alloc (.cells #[.string ⟨#[]⟩, .string ⟨#[]⟩] 137))) := ⟨Blk.new w _ _ (by simp), (Below.refl _ _).alloc (Nat.le_refl _) _⟩
set_option maxHeartbeats 1000000 in
theorem lrecordOf_no (X A : ByteArray) (w : World) (h : X.size < 64) : Calls Tryz.prog 116 #[.string X, .string A] w fun e w' => e = .returned (.tuple #[rv [] [], .bool false]) ∧ Below w.heap.size w w' := by
  have g1 : (X.size : Int) < 64 := by omega
  have I0 := blk_rec w
  clear h
  go_enter Tryz.func116, Tryz.ntmps116
  go_wp2
  refine bodyPost_ret (v := .tuple #[.agg #[.string ⟨#[]⟩, .string ⟨#[]⟩], .bool false]) ?_ rfl ⟨rfl, I0.out.2⟩
  exact res_c2 Tryz.results116 _ _ w.heap.size _ _ (by kernel_rfl) (by kernel_rfl) (run_loadVar_mid _ w.heap.size 0 137 [.string ⟨#[]⟩, .string ⟨#[]⟩] _ I0.out.1.r Tryz.underlying137 rfl (by kernel_rfl))
set_option maxHeartbeats 2000000 in
theorem lrecordOf_bad (X A : ByteArray) (w : World) (h : ¬ X.size < 64) (c0 c1 : UInt8) (l0 : 0 < X.size) (l1 : 1 < X.size) (hc0 : X[0] = c0) (hc1 : X[1] = c1) (n : Nat) (hn : c0.toNat * 256 + c1.toNat = n) (hb : n < 1 ∨ 2000 < n ∨ X.size < 18 + n) : Calls Tryz.prog 116 #[.string X, .string A] w fun e w' => e = .returned (.tuple #[rv [] [], .bool false]) ∧ Below w.heap.size w w' := by
  have g1 : ¬ (X.size : Int) < 64 := by omega
  have z0 : (0 : Int) < (X.size : Int) := by omega
  have z1 : (1 : Int) < (X.size : Int) := by omega
  have q0 := c0.toNat_lt
  have q1 := c1.toNat_lt
  have t0 : IntKind.i64.wrap (c0.toNat : Int) = (c0.toNat : Int) := by rw [IntKind.wrap_i64]; omega
  have t1 : IntKind.i64.wrap (c1.toNat : Int) = (c1.toNat : Int) := by rw [IntKind.wrap_i64]; omega
  have t2 : IntKind.i64.wrap ((c0.toNat : Int) * 256) = (c0.toNat : Int) * 256 := by rw [IntKind.wrap_i64]; omega
  have OW : bits .or .i64 ((c0.toNat : Int) * 256) (c1.toNat : Int) = (n : Int) := by rw [← hn]; exact or_low c0.toNat c1 (by omega)
  have hn2 : n < 65536 := by omega
  have I0 := blk_rec w
  clear q0 q1 hn
  by_cases h1 : n < 1
  · have g2 : (n : Int) < 1 := by omega
    clear hb
    go_enter Tryz.func116, Tryz.ntmps116
    go_wp2_with fail
    go_region_with fail
    all_goals go_wp2
    all_goals (refine bodyPost_ret (v := .tuple #[.agg #[.string ⟨#[]⟩, .string ⟨#[]⟩], .bool false]) ?_ rfl ⟨rfl, I0.out.2.drew⟩)
    all_goals (exact res_c2 Tryz.results116 _ _ w.heap.size _ _ (by kernel_rfl) (by kernel_rfl) (run_loadVar_mid _ w.heap.size 0 137 [.string ⟨#[]⟩, .string ⟨#[]⟩] _ I0.out.1.drew.r Tryz.underlying137 rfl (by kernel_rfl)))
  · have g2 : ¬ (n : Int) < 1 := by omega
    by_cases h2 : 2000 < n
    · have g3 : (2000 : Int) < (n : Int) := by omega
      clear hb
      go_enter Tryz.func116, Tryz.ntmps116
      go_wp2_with fail
      go_region_with fail
      all_goals go_wp2
      all_goals (refine bodyPost_ret (v := .tuple #[.agg #[.string ⟨#[]⟩, .string ⟨#[]⟩], .bool false]) ?_ rfl ⟨rfl, I0.out.2.drew⟩)
      all_goals (exact res_c2 Tryz.results116 _ _ w.heap.size _ _ (by kernel_rfl) (by kernel_rfl) (run_loadVar_mid _ w.heap.size 0 137 [.string ⟨#[]⟩, .string ⟨#[]⟩] _ I0.out.1.drew.r Tryz.underlying137 rfl (by kernel_rfl)))
    · have g3 : ¬ (2000 : Int) < (n : Int) := by omega
      have g4 : (X.size : Int) < 18 + (n : Int) := by omega
      clear hb
      go_enter Tryz.func116, Tryz.ntmps116
      go_wp2_with fail
      go_region_with fail
      all_goals go_wp2
      all_goals (refine bodyPost_ret (v := .tuple #[.agg #[.string ⟨#[]⟩, .string ⟨#[]⟩], .bool false]) ?_ rfl ⟨rfl, I0.out.2.drew⟩)
      all_goals (exact res_c2 Tryz.results116 _ _ w.heap.size _ _ (by kernel_rfl) (by kernel_rfl) (run_loadVar_mid _ w.heap.size 0 137 [.string ⟨#[]⟩, .string ⟨#[]⟩] _ I0.out.1.drew.r Tryz.underlying137 rfl (by kernel_rfl)))
set_option maxHeartbeats 4000000 in
theorem lrecordOf_ok (X A T M R : ByteArray) (w : World) (hk : Hid (Kh w)) (h : ¬ X.size < 64) (c0 c1 : UInt8) (l0 : 0 < X.size) (l1 : 1 < X.size) (hc0 : X[0] = c0) (hc1 : X[1] = c1) (n : Nat) (hn : c0.toNat * 256 + c1.toNat = n) (h1 : 1 ≤ n) (h2 : n ≤ 2000) (h3 : 18 + n ≤ X.size) (hT : X.extract 18 (18 + n) = T)
    (NX : Hid (∀ w, Kh w → Calls Tryz.prog 97 #[.string A, .string T] w fun e w' => e = .returned (.agg #[.string M, .string T]) ∧ Below w.heap.size w w'))
    (SC : Hid (∀ w, Calls Tryz.prog 98 #[.agg #[.string M, .string T]] w fun e w' => e = .returned (.string R) ∧ Below w.heap.size w w'))
    (v : Bool) (PF : Hid (∀ w, Calls Tryz.prog 130 #[.string X, .string R] w fun e w' => e = .returned (.bool v) ∧ w' = w)) :
    Calls Tryz.prog 116 #[.string X, .string A] w fun e w' => e = .returned (if v = true then .tuple #[.agg #[.string M, .string T], .bool true] else .tuple #[.agg #[.string ⟨#[]⟩, .string ⟨#[]⟩], .bool false]) ∧ Below w.heap.size w w' := by
  have g1 : ¬ (X.size : Int) < 64 := by omega
  have z0 : (0 : Int) < (X.size : Int) := by omega
  have z1 : (1 : Int) < (X.size : Int) := by omega
  have q0 := c0.toNat_lt
  have q1 := c1.toNat_lt
  have t0 : IntKind.i64.wrap (c0.toNat : Int) = (c0.toNat : Int) := by rw [IntKind.wrap_i64]; omega
  have t1 : IntKind.i64.wrap (c1.toNat : Int) = (c1.toNat : Int) := by rw [IntKind.wrap_i64]; omega
  have t2 : IntKind.i64.wrap ((c0.toNat : Int) * 256) = (c0.toNat : Int) * 256 := by rw [IntKind.wrap_i64]; omega
  have OW : bits .or .i64 ((c0.toNat : Int) * 256) (c1.toNat : Int) = (n : Int) := by rw [← hn]; exact or_low c0.toNat c1 (by omega)
  have hn2 : n < 65536 := by omega
  have g2 : ¬ (n : Int) < 1 := by omega
  have g3 : ¬ (2000 : Int) < (n : Int) := by omega
  have g4 : ¬ (X.size : Int) < 18 + (n : Int) := by omega
  have g5 : (18 : Int) ≤ 18 + (n : Int) := by omega
  have g6 : 18 + (n : Int) ≤ (X.size : Int) := by omega
  have I0 := blk_rec w
  have B0 := I0.out.2.drew
  have K0 : Hid (Kh (w.alloc (.cells #[.string ⟨#[]⟩, .string ⟨#[]⟩] 137)).drew) := hk.out.later B0
  have I1 : Hid (_ ∧ _) := And.intro I0.out.1.drew B0
  clear q0 q1 hn h1 h2 h3 I0 B0
  go_enter Tryz.func116, Tryz.ntmps116
  go_wp2_with fail
  go_region_with fail
  all_goals go_wp2_with fail
  all_goals
    refine Calls.mono (NX.out _ K0.out) ?_
    rintro e w1 ⟨rfl, hb⟩
    have I2 : Hid (_ ∧ _) := And.intro (I1.out.1.later hb) (chain I1.out.2 hb)
    clear hb K0 I1
    have J2 : Hid (_ ∧ _ ∧ _) := ⟨I2.out.1.later ((Below.refl _ w1).alloc (Nat.le_refl _) (.cells #[.string M, .string T] 137)), Blk.new w1 [.string M, .string T] 137 (by simp), chain I2.out.2 ((Below.refl _ w1).alloc (Nat.le_refl _) (.cells #[.string M, .string T] 137))⟩
    clear I2
    go_wp2_with fail
    refine Calls.mono (SC.out _) ?_
    rintro e w2 ⟨rfl, hb⟩
    have I3 : Hid (_ ∧ _ ∧ _) := ⟨J2.out.1.later hb, J2.out.2.1.later hb, chain J2.out.2.2 hb⟩
    clear hb J2
    have k0 := I3.out.1.c 0 _ rfl
    have k1 := I3.out.1.c 1 _ rfl
    have k2 := I3.out.1.f
    have r0 := I3.out.2.1.c 0 _ rfl
    have r1 := I3.out.2.1.c 1 _ rfl
    go_wp2_with fail
    refine Calls.mono (PF.out _) ?_
    rintro e w3 ⟨rfl, rfl⟩
    cases v
    · have FI : Hid (_ ∧ _) := And.intro (I3.out.1.put [.string ⟨#[]⟩, .string ⟨#[]⟩] rfl) (below_sets (Nat.le_refl _) [.string ⟨#[]⟩, .string ⟨#[]⟩] 0 I3.out.2.2)
      clear I3
      go_wp2
      refine bodyPost_ret (v := .tuple #[.agg #[.string ⟨#[]⟩, .string ⟨#[]⟩], .bool false]) ?_ rfl ⟨by simp, FI.out.2⟩
      exact res_c2 Tryz.results116 _ _ w.heap.size _ _ (by kernel_rfl) (by kernel_rfl) (run_loadVar_mid _ w.heap.size 0 137 [.string ⟨#[]⟩, .string ⟨#[]⟩] _ FI.out.1.r Tryz.underlying137 rfl (by kernel_rfl))
    · have FI : Hid (_ ∧ _) := And.intro (I3.out.1.put [.string M, .string T] rfl) (below_sets (Nat.le_refl _) [.string M, .string T] 0 I3.out.2.2)
      clear I3
      go_wp2
      refine bodyPost_ret (v := .tuple #[.agg #[.string M, .string T], .bool true]) ?_ rfl ⟨by simp, FI.out.2⟩
      exact res_c2 Tryz.results116 _ _ w.heap.size _ _ (by kernel_rfl) (by kernel_rfl) (run_loadVar_mid _ w.heap.size 0 137 [.string M, .string T] _ FI.out.1.r Tryz.underlying137 rfl (by kernel_rfl))
theorem lrecordOf_any (b a : Bs) (ha : a.length = 16) (w : World) (hk : Hid (Kh w)) : Calls Tryz.prog 116 #[sv b, sv a] w fun e w' => e = .returned (rofV b a) ∧ Below w.heap.size w w' := by
  have hs : (st b).size = b.length := st_size b
  unfold rofV rof
  by_cases h : b.length < 64
  · rw [if_pos h]
    exact lrecordOf_no (st b) (st a) w (by omega)
  · rw [if_neg h]
    obtain ⟨c0, c1, r, rfl⟩ : ∃ c0 c1 r, b = c0 :: c1 :: r := by
      match b, h with
      | c0 :: c1 :: r, _ => exact ⟨c0, c1, r, rfl⟩
      | [_], h => simp at h
      | [], h => simp at h
    have en : nm ((c0 :: c1 :: r).take 2) = c0.toNat * 256 + c1.toNat := by simp [nm]
    rw [en]
    obtain ⟨n, hn⟩ : ∃ n, c0.toNat * 256 + c1.toNat = n := ⟨_, rfl⟩
    rw [hn]
    by_cases hb : n < 1 ∨ 2000 < n ∨ (c0 :: c1 :: r).length < 18 + n
    · rw [if_pos hb]
      exact lrecordOf_bad (st (c0 :: c1 :: r)) (st a) w (by omega) c0 c1 (by omega) (by omega) rfl rfl n hn (by rw [hs]; exact hb)
    · rw [if_neg hb]
      obtain ⟨t, ht⟩ : ∃ t, ((c0 :: c1 :: r).drop 18).take n = t := ⟨_, rfl⟩
      rw [ht]
      have hl : t.length ≤ 2000 := by rw [← ht, List.length_take]; omega
      have eT : (st (c0 :: c1 :: r)).extract 18 (18 + n) = st t := by
        rw [st_cut, ← ht, List.drop_take, show 18 + n - 18 = n by omega]
      have := lrecordOf_ok (st (c0 :: c1 :: r)) (st a) (st t) (st (rmk a t)) (st (rcd a t)) w hk (by omega) c0 c1 (by omega) (by omega) rfl rfl n hn (by omega) (by omega) (by omega) eT
        (fun w h => lnext_any a t ha hl w h) (fun w => lsectors_any (rmk a t) t rfl hl w) _ (fun w => lprefix_any _ _ w)
      refine this.mono fun e w' ⟨he, hb⟩ => ⟨?_, hb⟩
      rw [he]
      have e2 : (st (rcd a t)).data.toList.isPrefixOf (st (c0 :: c1 :: r)).data.toList = (rcd a t).isPrefixOf (c0 :: c1 :: r) := rfl
      rw [e2]
      split <;> rfl
end Go.Proofs.YtdcimnmebgkmjaaGreatDoor
