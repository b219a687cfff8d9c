/- The program's stream: its three calls, where nothing is wrong. -/
import Derived.Test.YtpnpllklmdjbaaaST6
import Derived.Laws.MakeOwn
namespace Go.Proofs.Ytpnpllklmdjbaaa
open Go.RowKit Go.Proofs.Fd Go.Proofs.Hs Go.Proofs.Cc

/-- A string's bytes, laid anew: their room, too. -/
theorem bytes_of2 (s : ByteArray) (hs : s.size ≤ 140737488355328) (w : World) : ∃ (cap : Nat) (W : World), (convert 9 35 (.string s)).run Try.prog w = .ok (.slice (some ⟨w.heap.size, 0, none⟩) s.size cap) W
    ∧ BytesAt W w.heap.size s.data.toList ∧ Below w.heap.size w W ∧ s.size ≤ cap ∧ cap ≤ 9223372036854775807 ∧ w.heap.size < W.heap.size := by
  have hm : grownCap w s.size 0 5 ≤ 9223372036854775807 := by
    have := grownCap_le_maxLen w s.size 0 5 (by unfold maxLen; omega)
    unfold maxLen at this
    omega
  refine ⟨_, _, run_bytes_of_string (P := Try.prog) w 9 35 5 s Try.underlying9 Try.underlying35 Try.underlying5, ?_, ?_, ?_, hm, ?_⟩
  · intro j hj
    have hj' : j < s.data.size := by simpa using hj
    generalize grownCap w s.size 0 5 = cap
    have hc := bytesRow_at s cap j hj'
    have hlt : j < (bytesRow s cap).size := by
      obtain ⟨h, _⟩ := Array.getElem?_eq_some_iff.1 hc
      exact h
    refine ⟨?_, ?_⟩
    · show (w.drew.alloc _).cell? ⟨w.drew.heap.size, j, none⟩ = _
      rw [World.cell?_alloc_mark, hc]
      simp
    · show (w.drew.alloc _).frozen? ⟨w.drew.heap.size, j, none⟩ = false
      rw [World.frozen?_alloc_mark]
      have : ¬ (bytesRow s cap).size ≤ j := by omega
      simp [this]
  · exact (Below.refl _ w).drew.alloc (Nat.le_refl _) _
  · exact grownCap_ge _ _ _ _
  · show w.heap.size < (w.drew.alloc _).heap.size
    simp
theorem wrap_tv (c : UInt32) : IntKind.u32.wrap (tv c) = tv c := wr32 _ (tv_nn c) (tv_lt c)
theorem tv_mod (c : UInt32) : tv c % 4294967296 = tv c := by have := tv_nn c; have := tv_lt c; omega
theorem wrong_ok (k n : ByteArray) (c : UInt32) (hk : k.size = 32) (hn : n.size = 12) (w : World) :
    Calls Try.prog 17 #[.string k, .string n, .int .i64 (tv c)] w fun e w' => e = .returned (.int .i64 0) ∧ w' = w := by
  have := swrong_any k n (tv c) w
  rw [merr_ok k n (tv c) hk hn (tv_nn c) (by have := tv_lt c; omega)] at this
  exact this

set_option maxRecDepth 20000 in
set_option maxHeartbeats 1000000 in
theorem sBlock_ok (k n : ByteArray) (c : UInt32) (hk : Hid (k.size = 32)) (hn : Hid (n.size = 12)) (w : World) :
    Calls Try.prog 9 #[.string k, .string n, .int .i64 (tv c)] w fun e w' => e = .returned (.tuple #[.string ⟨(blk k.data.toList n.data.toList c).toArray⟩, .int .i64 0]) ∧ Below w.heap.size w w' := by
  have WR : Hid (∀ w, Calls Try.prog 17 #[.string k, .string n, .int .i64 (tv c)] w fun e w' => e = .returned (.int .i64 0) ∧ w' = w) := wrong_ok k n c hk.out hn.out
  obtain ⟨cs, hcs⟩ : ∃ cs, wcl (fstw k.data.toList n.data.toList c) = cs := ⟨_, rfl⟩
  obtain ⟨B, hB⟩ : ∃ B, blk k.data.toList n.data.toList c = B := ⟨_, rfl⟩
  obtain ⟨bs, hbs⟩ : ∃ bs, bcells B = bs := ⟨_, rfl⟩
  have BG : Hid (∀ w, Calls Try.prog 18 #[.string k, .string n, .int .u32 (tv c)] w fun e w' => e = .returned (.agg cs.toArray) ∧ Below w.heap.size w w') := fun w => by
    rw [← hcs]; exact sbegin_any k n c hk hn w
  have BY : Hid (∀ w, Calls Try.prog 19 #[.agg cs.toArray] w fun e w' => e = .returned (.agg bs.toArray) ∧ Below w.heap.size w w') := fun w => by
    rw [← hcs, ← hbs, ← hB, ← wbn_blk]; exact sbytes_any _ (fstw_len _ _ _) w
  rw [hB]
  have HB : Hid (bcells B = bs ∧ B.length = 64) := ⟨hbs, by rw [← hB, blk_len]⟩
  have W1 := wrap_tv c
  have W2 := tv_mod c
  clear hcs hB hbs
  go_enter Try.func9, Try.ntmps9
  go_wp2_with fail
  refine Calls.mono (WR.out _) ?_
  rintro e w1 ⟨rfl, hw1⟩
  have hw2 := hw1.symm
  subst hw2
  go_wp2_with fail
  refine Calls.mono (BG.out _) ?_
  rintro e w2 ⟨rfl, hb2⟩
  clear BG
  go_wp2_with fail
  refine Calls.mono (BY.out _) ?_
  rintro e w3 ⟨rfl, hb3⟩
  clear BY
  obtain ⟨D, hD⟩ : ∃ D, w3.alloc (.cells (Value.int .u8 0 :: Value.int .u8 0 :: Value.int .u8 0 :: Value.int .u8 0 :: Value.int .u8 0 :: Value.int .u8 0 :: Value.int .u8 0 :: Value.int .u8 0 :: Value.int .u8 0 :: Value.int .u8 0 :: Value.int .u8 0 :: Value.int .u8 0 :: Value.int .u8 0 :: Value.int .u8 0 :: Value.int .u8 0 :: Value.int .u8 0 :: Value.int .u8 0 :: Value.int .u8 0 :: Value.int .u8 0 :: Value.int .u8 0 :: Value.int .u8 0 :: Value.int .u8 0 :: Value.int .u8 0 :: Value.int .u8 0 :: Value.int .u8 0 :: Value.int .u8 0 :: Value.int .u8 0 :: Value.int .u8 0 :: Value.int .u8 0 :: Value.int .u8 0 :: Value.int .u8 0 :: Value.int .u8 0 :: Value.int .u8 0 :: Value.int .u8 0 :: Value.int .u8 0 :: Value.int .u8 0 :: Value.int .u8 0 :: Value.int .u8 0 :: Value.int .u8 0 :: Value.int .u8 0 :: Value.int .u8 0 :: Value.int .u8 0 :: Value.int .u8 0 :: Value.int .u8 0 :: Value.int .u8 0 :: Value.int .u8 0 :: Value.int .u8 0 :: Value.int .u8 0 :: Value.int .u8 0 :: Value.int .u8 0 :: Value.int .u8 0 :: Value.int .u8 0 :: Value.int .u8 0 :: Value.int .u8 0 :: Value.int .u8 0 :: Value.int .u8 0 :: Value.int .u8 0 :: Value.int .u8 0 :: Value.int .u8 0 :: Value.int .u8 0 :: Value.int .u8 0 :: Value.int .u8 0 :: Value.int .u8 0 :: Value.int .u8 0 :: []).toArray 39) = D := ⟨_, rfl⟩
  obtain ⟨gB, hgB⟩ : ∃ g, w3.heap.size = g := ⟨_, rfl⟩
  have ZD := bz64 w3 39
  rw [hD, hgB] at ZD
  have TH : Hid (D.there gB 0 64) := ZD.bthere 64 (by simp)
  have HL : Hid (bs.length = 64 ∧ bs.toArray.all (·.oneCell') = true) := by rw [← HB.out.1]; exact ⟨by rw [bcells_len]; exact HB.out.2, all_oneCell_toArray (bcells_one _)⟩
  obtain ⟨V, hV⟩ : ∃ V, D.setCells gB 0 bs.toArray.toList = V := ⟨_, rfl⟩
  have HV : Hid (_ = _) := hV
  have IV : BytesAt V gB B := by
    have := ZD.stored (l := B) (by rw [HB.out.2]; simp)
    rw [HB.out.1] at this
    rw [← hV]; exact this
  have BV : Hid (Below w.heap.size w V) := by
    have bD : Below w3.heap.size w3 D := hD ▸ (Below.refl _ _).alloc (Nat.le_refl _) _
    have bV : Below w3.heap.size w3 V := by rw [← hV]; exact below_setCells (by omega) _ _ _ bD
    exact chain hb2 (chain hb3 bV)
  have CV := IV.string (cap := 64) HB.out.2
  clear hV ZD hb2 hb3 IV
  go_wp2_with (first
    | (refine wpList_store_mid rfl 39 (.tmp 9) (.tmp 22) rfl gB 0 bs.toArray rfl rfl (by rw [List.size_toArray, HL.out.1]; exact TH.out) (by rw [List.size_toArray, HL.out.1]; exact bsize64) HL.out.2 ?_; rw [HV.out]))
  go_ret2
  exact ⟨rfl, BV.out⟩

set_option maxRecDepth 20000 in
set_option maxHeartbeats 1000000 in
theorem sXor_ok (k n : ByteArray) (c : UInt32) (t : ByteArray) (hk : Hid (k.size = 32)) (hn : Hid (n.size = 12)) (ht : t.size ≤ 65536) (w : World) :
    Calls Try.prog 12 #[.string k, .string n, .int .i64 (tv c), .string t] w fun e w' => e = .returned (.tuple #[.string ⟨(xorl t.data.toList (strm k.data.toList n.data.toList c t.size)).toArray⟩, .int .i64 0]) ∧ Below w.heap.size w w' := by
  have WR : Hid (∀ w, Calls Try.prog 17 #[.string k, .string n, .int .i64 (tv c)] w fun e w' => e = .returned (.int .i64 0) ∧ w' = w) := wrong_ok k n c hk.out hn.out
  obtain ⟨X, hX⟩ : ∃ X, xorl t.data.toList (strm k.data.toList n.data.toList c t.size) = X := ⟨_, rfl⟩
  have LX : Hid (X.length = t.size) := by
    show _ = _
    rw [← hX, xorl_len _ _ (by rw [strm_len]; simp)]; simp
  rw [hX]
  have HX : Hid (_ = _) := hX
  have BG : Hid (∀ w, Calls Try.prog 18 #[.string k, .string n, .int .u32 (tv c)] w fun e w' => e = .returned (.agg (wcl (fstw k.data.toList n.data.toList c)).toArray) ∧ Below w.heap.size w w') := fun w => sbegin_any k n c hk hn w
  have W1 := wrap_tv c
  have W2 := tv_mod c
  have ht' : (t.size : Int) ≤ 65536 := by omega
  obtain ⟨cap, A, CA, BA, bA, hcap, CB, sA⟩ := bytes_of2 t (by omega) w
  have IA : Hid (BytesAt A w.heap.size t.data.toList ∧ Below w.heap.size w A ∧ w.heap.size < A.heap.size) := ⟨BA, bA, sA⟩
  clear hX BA bA sA
  go_enter Try.func12, Try.ntmps12
  go_wp2_with fail
  refine Calls.mono (WR.out _) ?_
  rintro e w1 ⟨rfl, hw1⟩
  have hw2 := hw1.symm
  subst hw2
  go_wp2_with fail
  refine Calls.mono (BG.out _) ?_
  rintro e w2 ⟨rfl, hb2⟩
  have I2 : Hid (BytesAt w2 w.heap.size t.data.toList ∧ Below w.heap.size w w2 ∧ w.heap.size < w2.heap.size) := by
    obtain ⟨h1, h2, h3⟩ := IA.out
    exact ⟨h1.later hb2, chain h2 hb2, by have := hb2.size; omega⟩
  clear hb2 IA BG CA
  go_wp2_with fail
  refine Calls.mono (sxor_any _ _ c w.heap.size cap t.size t.data.toList (by show _ = _; simp) hcap CB _ I2.out.1 I2.out.2.2) ?_
  rintro e w3 ⟨rfl, h31, h32⟩
  rw [HX.out] at h31
  have B3 : Hid (Below w.heap.size w w3) := I2.out.2.1.trans h32
  have CV := h31.string (cap := cap) LX.out
  clear h31 h32 I2
  go_wp2
  go_ret2
  exact ⟨rfl, B3.out⟩

theorem made_zeros (n : Nat) : madeCells (Value.int .u8 0).cells (n * 1) = Array.replicate n (.int .u8 0) := by
  apply Array.ext
  · rw [size_madeCells, Array.size_replicate, Nat.mul_one]
  · intro i h1 h2
    rw [Array.getElem_replicate]
    simp [madeCells, Value.cells, Nat.mod_one]
/-- n bytes 0, laid anew. -/
theorem make_n (n : Nat) (hn : n ≤ 140737488355328) (w : World) : ∃ W : World, (Instr.makeSlice 35 (.int .i64 (n : Int)) (.int .i64 (n : Int))).run Try.prog w = .ok (.slice (some ⟨w.heap.size, 0, none⟩) n n) W
    ∧ BytesAt W w.heap.size (List.replicate n 0) ∧ Below w.heap.size w W ∧ w.heap.size < W.heap.size := by
  obtain ⟨i0, hi, hz0, hz1, hz2⟩ := info_parts infoByte
  have h := run_make (P := Try.prog) w 35 5 i0 (.int .u8 0) Try.underlying35 hi hz0 .i64 .i64 (n : Int) (n : Int) (by omega) (Int.le_refl _) (by rw [hz2]; omega) (by omega)
  rw [Int.toNat_natCast, hz1, made_zeros] at h
  refine ⟨_, h, fun j hj => ?_, (Below.refl _ _).alloc (Nat.le_refl _) _, by simp⟩
  have hj' : j < n := by simpa using hj
  refine ⟨?_, by simp [go_sem]⟩
  rw [World.cell?_alloc_new, List.getElem_replicate, Array.getElem?_replicate, if_pos hj']
  rfl

set_option maxRecDepth 20000 in
set_option maxHeartbeats 1000000 in
theorem sBytes_ok (k n : ByteArray) (m : Nat) (hk : Hid (k.size = 32)) (hn : Hid (n.size = 12)) (hm : m ≤ 65536) (w : World) :
    Calls Try.prog 14 #[.string k, .string n, .int .i64 (m : Int)] w fun e w' => e = .returned (.tuple #[.string ⟨(strm k.data.toList n.data.toList 0 m).toArray⟩, .int .i64 0]) ∧ Below w.heap.size w w' := by
  have WR : Hid (∀ w, Calls Try.prog 17 #[.string k, .string n, .int .i64 0] w fun e w' => e = .returned (.int .i64 0) ∧ w' = w) := wrong_ok k n 0 hk.out hn.out
  obtain ⟨X, hX⟩ : ∃ X, strm k.data.toList n.data.toList 0 m = X := ⟨_, rfl⟩
  have LX : Hid (X.length = m) := by show _ = _; rw [← hX, strm_len]
  rw [hX]
  have HX : Hid (xorl (List.replicate m 0) (strm k.data.toList n.data.toList 0 m) = X) := by
    show _ = _
    rw [hX, ← LX.out, xorl_zeros]
  have BG : Hid (∀ w, Calls Try.prog 18 #[.string k, .string n, .int .u32 0] w fun e w' => e = .returned (.agg (wcl (fstw k.data.toList n.data.toList 0)).toArray) ∧ Below w.heap.size w w') := fun w => sbegin_any k n 0 hk hn w
  have hm1 : (m : Int) ≤ 65536 := by omega
  have hm2 : ¬ (65536 : Int) < (m : Int) := by omega
  obtain ⟨A, CA, BA, bA, sA⟩ := make_n m (by omega) w
  have IA : Hid (BytesAt A w.heap.size (List.replicate m 0) ∧ Below w.heap.size w A ∧ w.heap.size < A.heap.size) := ⟨BA, bA, sA⟩
  clear hX BA bA sA
  go_enter Try.func14, Try.ntmps14
  go_wp2_with fail
  refine Calls.mono (WR.out _) ?_
  rintro e w1 ⟨rfl, hw1⟩
  have hw2 := hw1.symm
  subst hw2
  go_wp2_with fail
  refine Calls.mono (BG.out _) ?_
  rintro e w2 ⟨rfl, hb2⟩
  have I2 : Hid (BytesAt w2 w.heap.size (List.replicate m 0) ∧ Below w.heap.size w w2 ∧ w.heap.size < w2.heap.size) := by
    obtain ⟨h1, h2, h3⟩ := IA.out
    exact ⟨h1.later hb2, chain h2 hb2, by have := hb2.size; omega⟩
  clear hb2 IA BG CA
  go_wp2_with fail
  refine Calls.mono (sxor_any _ _ 0 w.heap.size m m (List.replicate m 0) (by show _ = _; simp) (Nat.le_refl _) (by omega) _ I2.out.1 I2.out.2.2) ?_
  rintro e w3 ⟨rfl, h31, h32⟩
  rw [HX.out] at h31
  have B3 : Hid (Below w.heap.size w w3) := I2.out.2.1.trans h32
  have CV := h31.string (cap := m) LX.out
  clear h31 h32 I2
  go_wp2
  go_ret2
  exact ⟨rfl, B3.out⟩
end Go.Proofs.Ytpnpllklmdjbaaa
