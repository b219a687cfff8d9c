/- Parts: ST3, ST4. -/
import Derived.Test.YtgnkkjknngblbaaGreatDoorZpG21
namespace Go.Proofs.YtgnkkjknngblbaaGreatDoor
open Go.RowKit Go.Proofs.Fd Go.Proofs.Hs Go.Proofs.Cc
set_option maxRecDepth 20000
theorem index16 (M : List UInt32) (hM : M.length = 16) (k : Nat) (hk : k < 16) (w : World) :
    (Instr.index 126 (.agg (wcl M).toArray) (.int .i64 (k : Int))).run Tryz.prog w = .ok (.int .u32 (tv (M.getD k 0))) w := by
  have hi : ∃ i0, Tryz.prog.info? 123 = some i0 ∧ i0.size = 1 := by
    have : (Tryz.prog.info? 123).map (·.size) = some 1 := by kernel_rfl
    cases h : Tryz.prog.info? 123 with
    | none => simp [h] at this
    | some i => simp [h] at this; exact ⟨i, rfl, this⟩
  obtain ⟨i0, hi, hs⟩ := hi
  have hg : (wcl M)[k]? = some (.int .u32 (tv (M.getD k 0))) := by
    unfold wcl
    rw [List.getElem?_map, List.getElem?_eq_getElem (by omega), List.getD_eq_getElem?_getD, List.getElem?_eq_getElem (by omega)]
    rfl
  simp [Instr.index, run_underlying Tryz.underlying126, run_underlying Tryz.underlying123, asIntOf, hk, sizeOf, typeInfo, hi, hs, part, isAgg, hg]
theorem bz64 (w : World) (t : TypeId) : BytesAt (w.alloc (.cells (Value.int .u8 0 :: Value.int .u8 0 :: Value.int .u8 0 :: Value.int .u8 0 :: Value.int .u8 0 :: Value.int .u8 0 :: Value.int .u8 0 :: Value.int .u8 0 :: Value.int .u8 0 :: Value.int .u8 0 :: Value.int .u8 0 :: Value.int .u8 0 :: Value.int .u8 0 :: Value.int .u8 0 :: Value.int .u8 0 :: Value.int .u8 0 :: Value.int .u8 0 :: Value.int .u8 0 :: Value.int .u8 0 :: Value.int .u8 0 :: Value.int .u8 0 :: Value.int .u8 0 :: Value.int .u8 0 :: Value.int .u8 0 :: Value.int .u8 0 :: Value.int .u8 0 :: Value.int .u8 0 :: Value.int .u8 0 :: Value.int .u8 0 :: Value.int .u8 0 :: Value.int .u8 0 :: Value.int .u8 0 :: Value.int .u8 0 :: Value.int .u8 0 :: Value.int .u8 0 :: Value.int .u8 0 :: Value.int .u8 0 :: Value.int .u8 0 :: Value.int .u8 0 :: Value.int .u8 0 :: Value.int .u8 0 :: Value.int .u8 0 :: Value.int .u8 0 :: Value.int .u8 0 :: Value.int .u8 0 :: Value.int .u8 0 :: Value.int .u8 0 :: Value.int .u8 0 :: Value.int .u8 0 :: Value.int .u8 0 :: Value.int .u8 0 :: Value.int .u8 0 :: Value.int .u8 0 :: Value.int .u8 0 :: Value.int .u8 0 :: Value.int .u8 0 :: Value.int .u8 0 :: Value.int .u8 0 :: Value.int .u8 0 :: Value.int .u8 0 :: Value.int .u8 0 :: Value.int .u8 0 :: Value.int .u8 0 :: Value.int .u8 0 :: []).toArray t)) w.heap.size (List.replicate 64 0) := fun j hj => by
  have hj' : j < 64 := by simpa using hj
  refine ⟨?_, by simp [go_sem]⟩
  rw [World.cell?_alloc_new, List.getElem_replicate, show ((Value.int .u8 0 :: Value.int .u8 0 :: Value.int .u8 0 :: Value.int .u8 0 :: Value.int .u8 0 :: Value.int .u8 0 :: Value.int .u8 0 :: Value.int .u8 0 :: Value.int .u8 0 :: Value.int .u8 0 :: Value.int .u8 0 :: Value.int .u8 0 :: Value.int .u8 0 :: Value.int .u8 0 :: Value.int .u8 0 :: Value.int .u8 0 :: Value.int .u8 0 :: Value.int .u8 0 :: Value.int .u8 0 :: Value.int .u8 0 :: Value.int .u8 0 :: Value.int .u8 0 :: Value.int .u8 0 :: Value.int .u8 0 :: Value.int .u8 0 :: Value.int .u8 0 :: Value.int .u8 0 :: Value.int .u8 0 :: Value.int .u8 0 :: Value.int .u8 0 :: Value.int .u8 0 :: Value.int .u8 0 :: Value.int .u8 0 :: Value.int .u8 0 :: Value.int .u8 0 :: Value.int .u8 0 :: Value.int .u8 0 :: Value.int .u8 0 :: Value.int .u8 0 :: Value.int .u8 0 :: Value.int .u8 0 :: Value.int .u8 0 :: Value.int .u8 0 :: Value.int .u8 0 :: Value.int .u8 0 :: Value.int .u8 0 :: Value.int .u8 0 :: Value.int .u8 0 :: Value.int .u8 0 :: Value.int .u8 0 :: Value.int .u8 0 :: Value.int .u8 0 :: Value.int .u8 0 :: Value.int .u8 0 :: Value.int .u8 0 :: Value.int .u8 0 :: Value.int .u8 0 :: Value.int .u8 0 :: Value.int .u8 0 :: Value.int .u8 0 :: Value.int .u8 0 :: Value.int .u8 0 :: Value.int .u8 0 :: Value.int .u8 0 :: []).toArray : Array Value) = Array.replicate 64 (.int .u8 0) from rfl, Array.getElem?_replicate, if_pos hj']
  rfl
theorem BytesAt.brange {w : World} {b : Nat} {l : List UInt8} (h : BytesAt w b l) : w.rangeAt b 0 (bcells l) := fun j v hv => by
  unfold bcells at hv
  rw [List.getElem?_map] at hv
  by_cases hj : j < l.length
  · rw [List.getElem?_eq_getElem hj] at hv
    rw [Nat.zero_add, (h j hj).1]; exact hv
  · rw [List.getElem?_eq_none (by omega)] at hv; cases hv
theorem BytesAt.bthere {w : World} {b : Nat} {l : List UInt8} (h : BytesAt w b l) (n : Nat) (hn : l.length = n) : w.there b 0 n := fun j hj => by
  obtain ⟨h0, h1⟩ := h j (by omega)
  exact ⟨by rw [Nat.zero_add, h0]; rfl, by rw [Nat.zero_add]; exact h1⟩
theorem BytesAt.some {w : World} {b : Nat} {l : List UInt8} (h : BytesAt w b l) (j : Nat) (hj : j < l.length) : ∃ v, w.cell? ⟨b, j, none⟩ = .some v ∧ w.frozen? ⟨b, j, none⟩ = false := ⟨_, h j hj⟩
theorem bcells_len (l : List UInt8) : (bcells l).length = l.length := by simp [bcells]
theorem bcells_one (l : List UInt8) : ∀ v ∈ bcells l, v.oneCell' = true := fun v hv => by
  obtain ⟨x, _, rfl⟩ := List.mem_map.1 hv; rfl
theorem bsize64 : (Tryz.prog.info? 156).map (·.size) = some 64 := by kernel_rfl
theorem set4b (l : List UInt8) (n p : Nat) (hl : l.length = p) (a b c d : UInt8) : ((((l ++ List.replicate (n + 4) 0).set p a).set (p + 1) b).set (p + 2) c).set (p + 3) d = l ++ [a, b, c, d] ++ List.replicate n 0 := by
  subst hl
  simp [List.replicate_succ]
def part64 (L : List UInt32) (k : Nat) : List UInt8 := wbn L k ++ List.replicate (64 - 4 * k) 0
theorem part64_len (L : List UInt32) (k : Nat) (h : k ≤ 16) : (part64 L k).length = 64 := by unfold part64; rw [List.length_append, wbn_len, List.length_replicate]; omega
theorem part64_succ (L : List UInt32) (k : Nat) (h : k < 16) (x : UInt32) (hx : x = (Cc.rounds L 10).getD k 0 + L.getD k 0) : (((((part64 L k).set (4 * k) (UInt8.ofNat x.toNat)).set (4 * k + 1) (UInt8.ofNat (x.toNat / 256))).set (4 * k + 2) (UInt8.ofNat (x.toNat / 65536))).set (4 * k + 3) (UInt8.ofNat (x.toNat / 16777216))) = part64 L (k + 1) := by
  unfold part64
  rw [show 64 - 4 * k = (64 - 4 * (k + 1)) + 4 by omega, set4b _ _ _ (wbn_len L k), wbn_succ, ← hx]
  rfl
theorem part64_all (L : List UInt32) : part64 L 16 = wbn L 16 := by simp [part64]
theorem byte_tv (x : UInt32) (n : Nat) : tv x / (n : Int) % 256 = ((UInt8.ofNat (x.toNat / n)).toNat : Int) := by
  unfold tv; rw [UInt8.toNat_ofNat']; simp
theorem byte_tv1 (x : UInt32) : tv x % 256 = ((UInt8.ofNat x.toNat).toNat : Int) := by
  unfold tv; rw [UInt8.toNat_ofNat']; simp
theorem byte_tv3 (x : UInt32) : tv x / 16777216 = ((UInt8.ofNat (x.toNat / 16777216)).toNat : Int) := by
  have := x.toNat_lt
  unfold tv; rw [UInt8.toNat_ofNat']; omega
theorem res_bytes (tmps : Array Value) (w : World) (b : Nat) (x : Array Value) (h0 : tmps.getD 2 undef = .pointer (some ⟨b, 0, none⟩))
    (l1 : (loadVar 156 ⟨b, 0, none⟩).run Tryz.prog w = .ok (.agg x) w) :
    (results Tryz.f137 tmps).run Tryz.prog w = .ok (.agg x) w := by
  unfold results
  rw [Tryz.results137]
  have h0' : tmps[2]?.getD undef = .pointer (some ⟨b, 0, none⟩) := by simpa using h0
  simp [h0', l1, asAddr]
attribute [local go_sem] and32 or32 xor32 add32 add32'
set_option maxRecDepth 20000 in
set_option maxHeartbeats 1000000 in
theorem sbytes_any (L : List UInt32) (hL : Hid (L.length = 16)) (w : World) :
    Calls Tryz.prog 137 #[.agg (wcl L).toArray] w fun e w' => e = .returned (.agg (bcells (wbn L 16)).toArray) ∧ Below w.heap.size w w' := by
  obtain ⟨M, hM⟩ : ∃ M, Cc.rounds L 10 = M := ⟨_, rfl⟩
  obtain ⟨cs, hcs⟩ : ∃ cs, bcells (wbn L 16) = cs := ⟨_, rfl⟩
  rw [hcs]
  have HC : Hid (bcells (wbn L 16) = cs ∧ Cc.rounds L 10 = M) := ⟨hcs, hM⟩
  have LM : Hid (M.length = 16) := by show M.length = 16; rw [← hM, rounds_len]; exact hL.out
  obtain ⟨A, hA⟩ : ∃ A, w.alloc (.cells (wcl L).toArray 126) = A := ⟨_, rfl⟩
  obtain ⟨D, hD⟩ : ∃ D, A.alloc (.cells (Value.int .u8 0 :: Value.int .u8 0 :: Value.int .u8 0 :: Value.int .u8 0 :: Value.int .u8 0 :: Value.int .u8 0 :: Value.int .u8 0 :: Value.int .u8 0 :: Value.int .u8 0 :: Value.int .u8 0 :: Value.int .u8 0 :: Value.int .u8 0 :: Value.int .u8 0 :: Value.int .u8 0 :: Value.int .u8 0 :: Value.int .u8 0 :: Value.int .u8 0 :: Value.int .u8 0 :: Value.int .u8 0 :: Value.int .u8 0 :: Value.int .u8 0 :: Value.int .u8 0 :: Value.int .u8 0 :: Value.int .u8 0 :: Value.int .u8 0 :: Value.int .u8 0 :: Value.int .u8 0 :: Value.int .u8 0 :: Value.int .u8 0 :: Value.int .u8 0 :: Value.int .u8 0 :: Value.int .u8 0 :: Value.int .u8 0 :: Value.int .u8 0 :: Value.int .u8 0 :: Value.int .u8 0 :: Value.int .u8 0 :: Value.int .u8 0 :: Value.int .u8 0 :: Value.int .u8 0 :: Value.int .u8 0 :: Value.int .u8 0 :: Value.int .u8 0 :: Value.int .u8 0 :: Value.int .u8 0 :: Value.int .u8 0 :: Value.int .u8 0 :: Value.int .u8 0 :: Value.int .u8 0 :: Value.int .u8 0 :: Value.int .u8 0 :: Value.int .u8 0 :: Value.int .u8 0 :: Value.int .u8 0 :: Value.int .u8 0 :: Value.int .u8 0 :: Value.int .u8 0 :: Value.int .u8 0 :: Value.int .u8 0 :: Value.int .u8 0 :: Value.int .u8 0 :: Value.int .u8 0 :: Value.int .u8 0 :: Value.int .u8 0 :: []).toArray 156) = D := ⟨_, rfl⟩
  obtain ⟨E, hE⟩ : ∃ E, D.alloc (.cells (Value.int .u8 0 :: Value.int .u8 0 :: Value.int .u8 0 :: Value.int .u8 0 :: Value.int .u8 0 :: Value.int .u8 0 :: Value.int .u8 0 :: Value.int .u8 0 :: Value.int .u8 0 :: Value.int .u8 0 :: Value.int .u8 0 :: Value.int .u8 0 :: Value.int .u8 0 :: Value.int .u8 0 :: Value.int .u8 0 :: Value.int .u8 0 :: Value.int .u8 0 :: Value.int .u8 0 :: Value.int .u8 0 :: Value.int .u8 0 :: Value.int .u8 0 :: Value.int .u8 0 :: Value.int .u8 0 :: Value.int .u8 0 :: Value.int .u8 0 :: Value.int .u8 0 :: Value.int .u8 0 :: Value.int .u8 0 :: Value.int .u8 0 :: Value.int .u8 0 :: Value.int .u8 0 :: Value.int .u8 0 :: Value.int .u8 0 :: Value.int .u8 0 :: Value.int .u8 0 :: Value.int .u8 0 :: Value.int .u8 0 :: Value.int .u8 0 :: Value.int .u8 0 :: Value.int .u8 0 :: Value.int .u8 0 :: Value.int .u8 0 :: Value.int .u8 0 :: Value.int .u8 0 :: Value.int .u8 0 :: Value.int .u8 0 :: Value.int .u8 0 :: Value.int .u8 0 :: Value.int .u8 0 :: Value.int .u8 0 :: Value.int .u8 0 :: Value.int .u8 0 :: Value.int .u8 0 :: Value.int .u8 0 :: Value.int .u8 0 :: Value.int .u8 0 :: Value.int .u8 0 :: Value.int .u8 0 :: Value.int .u8 0 :: Value.int .u8 0 :: Value.int .u8 0 :: Value.int .u8 0 :: Value.int .u8 0 :: Value.int .u8 0 :: []).toArray 156) = E := ⟨_, rfl⟩
  have sA : A.heap.size = w.heap.size + 1 := by rw [← hA]; simp
  have sD : D.heap.size = w.heap.size + 2 := by rw [← hD]; simp [sA]
  have sE : E.heap.size = w.heap.size + 3 := by rw [← hE]; simp [sD]
  obtain ⟨g, hg⟩ : ∃ g, w.heap.size = g := ⟨_, rfl⟩
  have IE : Hid (QAt E g L ∧ BytesAt E (g + 1) (List.replicate 64 0) ∧ BytesAt E (g + 2) (List.replicate 64 0) ∧ Below g w E) := by
    have q1 := QAt.new w L 126
    rw [hA, hg] at q1
    have q2 := bz64 A 156
    rw [hD, sA, hg] at q2
    have q3 := bz64 D 156
    rw [hE, sD, hg] at q3
    have bE : Below D.heap.size D E := hE ▸ (Below.refl _ _).alloc (Nat.le_refl _) _
    have bD : Below A.heap.size A D := hD ▸ (Below.refl _ _).alloc (Nat.le_refl _) _
    have bA : Below w.heap.size w A := hA ▸ (Below.refl _ _).alloc (Nat.le_refl _) _
    exact ⟨(q1.later bD).later bE, q2.later bE, q3, hg ▸ chain bA (chain bD bE)⟩
  have RG : Hid (E.rangeAt g 0 (wcl L) ∧ (wcl L).length = 16) := ⟨IE.out.1.range, by rw [wcl_len]; exact hL.out⟩
  have MX : Hid (∀ w, Calls Tryz.prog 163 #[.agg (wcl L).toArray] w fun e w' => e = .returned (.agg (wcl M).toArray) ∧ Below w.heap.size w w') := fun w => by
    rw [← hM]; exact smixed_any L hL w
  clear hcs hM
  go_enter Tryz.func137, Tryz.ntmps137
  go_wp2_with (first
    | (refine wpList_load_mid rfl 126 (.tmp 1) rfl g 0 rfl (wcl L) _ RG.out.1 Tryz.underlying126 rfl (by rw [RG.out.2]; exact size16) ?_))
  refine Calls.mono (MX.out _) ?_
  rintro e w1 ⟨rfl, hb1⟩
  have I1 : Hid (QAt w1 g L ∧ BytesAt w1 (g + 1) (List.replicate 64 0) ∧ BytesAt w1 (g + 2) (part64 L 0) ∧ Below g w w1) := by
    obtain ⟨h1, h2, h3, h4⟩ := IE.out
    refine ⟨h1.later hb1, h2.later hb1, ?_, h4.trans (hb1.mono (by omega))⟩
    have : part64 L 0 = List.replicate 64 0 := by simp [part64, wbn]
    rw [this]; exact h3.later hb1
  have HG : Hid (w.heap.size = g) := hg
  obtain ⟨g2, hg2⟩ : ∃ g2, g + 1 = g2 := ⟨_, rfl⟩
  obtain ⟨g3, hg3⟩ : ∃ g3, g + 2 = g3 := ⟨_, rfl⟩
  have HN : Hid (g ≤ g2 ∧ g ≤ g3 ∧ g3 ≠ g ∧ g3 ≠ g2) := by show _ ∧ _; omega
  rw [hg2, hg3] at I1
  rw [hg2, hg3]
  clear hA hD hE sA sD sE hg hb1 IE RG MX hg2 hg3
  go_wp2
  go_loopw [8] (fun i wr => ∃ q : Nat, q ≤ 16 ∧ i = .int .i64 (q : Int) ∧ Hid (QAt wr g L ∧ BytesAt wr g2 (List.replicate 64 0) ∧ BytesAt wr g3 (part64 L q) ∧ Below g w wr)) (fun i _ => 16 - (intOf i).toNat)
  case atStart => exact ⟨0, by omega, rfl, I1.out⟩
  case round =>
    obtain ⟨q, hq, rfl, I⟩ := hrel
    clear I1
    by_cases hq16 : q = 16
    · subst hq16
      have J := I.out
      rw [part64_all] at J
      have RG : Hid (wr.rangeAt g3 0 cs) := by show wr.rangeAt g3 0 cs; rw [← HC.out.1]; exact J.2.2.1.brange
      have TH : Hid (wr.there g2 0 64) := J.2.1.bthere 64 (by simp)
      have HL : Hid (cs.length = 64 ∧ cs.toArray.all (·.oneCell') = true) := by rw [← HC.out.1]; exact ⟨by rw [bcells_len, wbn_len], all_oneCell_toArray (bcells_one _)⟩
      obtain ⟨V, hV⟩ : ∃ V, wr.setCells g2 0 cs.toArray.toList = V := ⟨_, rfl⟩
      have RV : Hid (V.rangeAt g2 0 cs ∧ Below g w V) := by
        rw [← hV]
        exact ⟨World.rangeAt_setCells_same wr g2 0 _ (by show wr.there g2 0 cs.length; rw [HL.out.1]; exact TH.out), below_setCells HN.out.1 _ _ _ J.2.2.2⟩
      have HV : Hid (_ = _) := hV
      clear hV I J HC
      go_wp2_with (first
        | (refine wpList_load_mid rfl 156 (.tmp 3) rfl g3 0 rfl cs _ RG.out Tryz.underlying156 rfl (by rw [HL.out.1]; exact bsize64) ?_)
        | (refine wpList_store_mid rfl 156 (.tmp 2) (.tmp 44) rfl g2 0 cs.toArray rfl rfl (by rw [List.size_toArray, HL.out.1]; exact TH.out) (by rw [List.size_toArray, HL.out.1]; exact bsize64) HL.out.2 ?_; rw [HV.out]))
      refine bodyPost_ret (v := .agg cs.toArray) ?_ rfl ⟨rfl, by rw [HG.out]; exact RV.out.2⟩
      exact res_bytes _ V g2 _ (by kernel_rfl) (run_loadVar_mid V g2 0 156 cs _ RV.out.1 Tryz.underlying156 rfl (by rw [HL.out.1]; exact bsize64))
    · have q16 : q < 16 := by omega
      have z16 : (q : Int) < 16 := by omega
      have ix := index16 M LM.out q q16 wr
      obtain ⟨cq, -⟩ := I.out.1.at q (by rw [hL.out]; exact q16)
      obtain ⟨p0, h0⟩ : ∃ p, 4 * q = p := ⟨_, rfl⟩
      obtain ⟨p1, h1⟩ : ∃ p, 4 * q + 1 = p := ⟨_, rfl⟩
      obtain ⟨p2, h2⟩ : ∃ p, 4 * q + 2 = p := ⟨_, rfl⟩
      obtain ⟨p3, h3⟩ : ∃ p, 4 * q + 3 = p := ⟨_, rfl⟩
      obtain ⟨x, hx⟩ : ∃ x, M.getD q 0 + L.getD q 0 = x := ⟨_, rfl⟩
      have PS : Hid (_ = _) := part64_succ L q q16 x (by rw [HC.out.2]; exact hx.symm)
      rw [h1, h2, h3, h0] at PS
      have hm := add32 (M.getD q 0) (L.getD q 0)
      rw [hx] at hm
      have hm' := add32' (M.getD q 0) (L.getD q 0)
      rw [hx] at hm'
      clear hx
      generalize M.getD q 0 = m0 at *
      generalize L.getD q 0 = l0 at *
      have LP : Hid ((part64 L q).length = 64) := part64_len L q hq
      have y0 : (0 : Int) ≤ (p0 : Int) := by omega
      have y1 : (0 : Int) ≤ (p1 : Int) := by omega
      have y2 : (0 : Int) ≤ (p2 : Int) := by omega
      have y3 : (0 : Int) ≤ (p3 : Int) := by omega
      have z0 : (p0 : Int) < 64 := by omega
      have z1 : (p1 : Int) < 64 := by omega
      have z2 : (p2 : Int) < 64 := by omega
      have z3 : (p3 : Int) < 64 := by omega
      have n01 : p0 ≠ p1 := by omega
      have n02 : p0 ≠ p2 := by omega
      have n03 : p0 ≠ p3 := by omega
      have n12 : p1 ≠ p2 := by omega
      have n13 : p1 ≠ p3 := by omega
      have n23 : p2 ≠ p3 := by omega
      obtain ⟨v0, b0, f0⟩ := I.out.2.2.1.some p0 (by rw [LP.out]; omega)
      obtain ⟨v1, b1, f1⟩ := I.out.2.2.1.some p1 (by rw [LP.out]; omega)
      obtain ⟨v2, b2, f2⟩ := I.out.2.2.1.some p2 (by rw [LP.out]; omega)
      obtain ⟨v3, b3, f3⟩ := I.out.2.2.1.some p3 (by rw [LP.out]; omega)
      have a0 : IntKind.i64.wrap (4 * (q : Int)) = (p0 : Int) := by rw [IntKind.wrap_i64]; omega
      have a1 : IntKind.i64.wrap ((p0 : Int) + 1) = (p1 : Int) := by rw [IntKind.wrap_i64]; omega
      have a2 : IntKind.i64.wrap ((p0 : Int) + 2) = (p2 : Int) := by rw [IntKind.wrap_i64]; omega
      have a3 : IntKind.i64.wrap ((p0 : Int) + 3) = (p3 : Int) := by rw [IntKind.wrap_i64]; omega
      have e0 : 4 * (q : Int) = (p0 : Int) := by omega
      have e1 : (p0 : Int) + 1 = (p1 : Int) := by omega
      have e2 : (p0 : Int) + 2 = (p2 : Int) := by omega
      have e3 : (p0 : Int) + 3 = (p3 : Int) := by omega
      have d0 : IntKind.i64.wrap (p0 : Int) = (p0 : Int) := by rw [IntKind.wrap_i64]; omega
      have d1 : IntKind.i64.wrap (p1 : Int) = (p1 : Int) := by rw [IntKind.wrap_i64]; omega
      have d2 : IntKind.i64.wrap (p2 : Int) = (p2 : Int) := by rw [IntKind.wrap_i64]; omega
      have d3 : IntKind.i64.wrap (p3 : Int) = (p3 : Int) := by rw [IntKind.wrap_i64]; omega
      have n10 := n01.symm
      have n20 := n02.symm
      have n30 := n03.symm
      have n21 := n12.symm
      have n31 := n13.symm
      have n32 := n23.symm
      have NX : Hid (QAt ((((wr.setCell ⟨g3, p0, none⟩ (.int .u8 (tv x % 256))).setCell ⟨g3, p1, none⟩ (.int .u8 (tv x / 256 % 256))).setCell ⟨g3, p2, none⟩ (.int .u8 (tv x / 65536 % 256))).setCell ⟨g3, p3, none⟩ (.int .u8 (tv x / 16777216))) g L
        ∧ BytesAt ((((wr.setCell ⟨g3, p0, none⟩ (.int .u8 (tv x % 256))).setCell ⟨g3, p1, none⟩ (.int .u8 (tv x / 256 % 256))).setCell ⟨g3, p2, none⟩ (.int .u8 (tv x / 65536 % 256))).setCell ⟨g3, p3, none⟩ (.int .u8 (tv x / 16777216))) g2 (List.replicate 64 0)
        ∧ BytesAt ((((wr.setCell ⟨g3, p0, none⟩ (.int .u8 (tv x % 256))).setCell ⟨g3, p1, none⟩ (.int .u8 (tv x / 256 % 256))).setCell ⟨g3, p2, none⟩ (.int .u8 (tv x / 65536 % 256))).setCell ⟨g3, p3, none⟩ (.int .u8 (tv x / 16777216))) g3 (part64 L (q + 1))
        ∧ Below g w ((((wr.setCell ⟨g3, p0, none⟩ (.int .u8 (tv x % 256))).setCell ⟨g3, p1, none⟩ (.int .u8 (tv x / 256 % 256))).setCell ⟨g3, p2, none⟩ (.int .u8 (tv x / 65536 % 256))).setCell ⟨g3, p3, none⟩ (.int .u8 (tv x / 16777216)))) := by
        obtain ⟨h1, h2, h3, h4⟩ := I.out
        obtain ⟨-, m1, m2, m3⟩ := HN.out
        refine ⟨(((h1.other (a := ⟨g3, p0, none⟩) m2 _).other (a := ⟨g3, p1, none⟩) m2 _).other (a := ⟨g3, p2, none⟩) m2 _).other (a := ⟨g3, p3, none⟩) m2 _,
          (((h2.other (a := ⟨g3, p0, none⟩) m3 _).other (a := ⟨g3, p1, none⟩) m3 _).other (a := ⟨g3, p2, none⟩) m3 _).other (a := ⟨g3, p3, none⟩) m3 _, ?_,
          (((h4.setCell (p := ⟨g3, p0, none⟩) m1 _).setCell (p := ⟨g3, p1, none⟩) m1 _).setCell (p := ⟨g3, p2, none⟩) m1 _).setCell (p := ⟨g3, p3, none⟩) m1 _⟩
        rw [← PS.out]
        exact (((h3.set p0 _ _ (byte_tv1 x)).set p1 _ _ (byte_tv x 256)).set p2 _ _ (byte_tv x 65536)).set p3 _ _ (byte_tv3 x)
      clear PS LP h0 h1 h2 h3
      go_wp2
      go_roundw
      case rel => exact ⟨q + 1, by omega, by go_num, NX.out⟩
      case measure => simp [intOf]; omega
end Go.Proofs.YtgnkkjknngblbaaGreatDoor
namespace Go.Proofs.YtgnkkjknngblbaaGreatDoor
open Go.RowKit Go.Proofs.Fd Go.Proofs.Hs Go.Proofs.Cc
set_option maxRecDepth 20000
theorem set_next (l : List UInt32) (n p : Nat) (hl : l.length = p) (x : UInt32) : (l ++ List.replicate (n + 1) 0).set p x = l ++ [x] ++ List.replicate n 0 := by
  subst hl
  simp [List.replicate_succ]
def bg1 (k : List UInt8) (q : Nat) : List UInt32 := [1634760805, 857760878, 2036477234, 1797285236] ++ rd k q ++ List.replicate (12 - q) 0
def bg2 (k n : List UInt8) (c : UInt32) (q : Nat) : List UInt32 := [1634760805, 857760878, 2036477234, 1797285236] ++ rd k 8 ++ [c] ++ rd n q ++ List.replicate (3 - q) 0
theorem bg1_len (k : List UInt8) (q : Nat) (h : q ≤ 12) : (bg1 k q).length = 16 := by simp [bg1, rd_len]; omega
theorem bg2_len (k n : List UInt8) (c : UInt32) (q : Nat) (h : q ≤ 3) : (bg2 k n c q).length = 16 := by simp [bg2, rd_len]; omega
theorem bg1_succ (k : List UInt8) (q : Nat) (h : q < 12) : (bg1 k q).set (4 + q) (rdw k q) = bg1 k (q + 1) := by
  unfold bg1
  rw [show 12 - q = (12 - (q + 1)) + 1 by omega, set_next _ _ _ (by simp [rd_len]; omega), rd_succ]
  simp
theorem bg1_c (k n : List UInt8) (c : UInt32) : (bg1 k 8).set 12 c = bg2 k n c 0 := by
  unfold bg1
  rw [show 12 - 8 = 3 + 1 by omega, set_next _ _ _ (by simp [rd_len])]
  simp [bg2, rd]
theorem bg2_succ (k n : List UInt8) (c : UInt32) (q : Nat) (h : q < 3) : (bg2 k n c q).set (13 + q) (rdw n q) = bg2 k n c (q + 1) := by
  unfold bg2
  rw [show 3 - q = (3 - (q + 1)) + 1 by omega, set_next _ _ _ (by simp [rd_len]; omega), rd_succ n q]
  simp
theorem bg2_all (k n : List UInt8) (c : UInt32) : bg2 k n c 3 = fstw k n c := by simp [bg2, fstw]
theorem res_begin (tmps : Array Value) (w : World) (b : Nat) (x : Array Value) (h0 : tmps.getD 6 undef = .pointer (some ⟨b, 0, none⟩))
    (l1 : (loadVar 126 ⟨b, 0, none⟩).run Tryz.prog w = .ok (.agg x) w) :
    (results Tryz.f108 tmps).run Tryz.prog w = .ok (.agg x) w := by
  unfold results
  rw [Tryz.results108]
  have h0' : tmps[6]?.getD undef = .pointer (some ⟨b, 0, none⟩) := by simpa using h0
  simp [h0', l1, asAddr]
theorem rdw_cut (s : ByteArray) (k : Nat) (h : 4 * k + 4 ≤ s.size) : rdw (s.extract (4 * k) s.size).data.toList 0 = rdw s.data.toList k := by
  unfold rdw
  simp only [List.getD_eq_getElem?_getD, ByteArray.data_extract, Array.toList_extract, List.extract_eq_take_drop, List.getElem?_take, List.getElem?_drop]
  have hl : s.data.size = s.size := rfl
  simp only [Nat.mul_zero, Nat.zero_add, Nat.add_zero]
  rw [if_pos (by omega), if_pos (by omega), if_pos (by omega), if_pos (by omega)]
theorem QAt.stored {w : World} {b : Nat} {l0 l : List UInt32} (h : QAt w b l0) (hl : l.length = l0.length) : QAt (w.setCells b 0 (wcl l)) b l := fun j hj => by
  have h1 := World.rangeAt_setCells_same w b 0 (wcl l) (by rw [wcl_len, hl]; exact h.there _ rfl) j (.int .u32 (tv l[j])) (by simp [wcl, hj])
  rw [Nat.zero_add] at h1
  exact ⟨h1, by rw [World.frozen?_setCells]; exact (h j (by omega)).2⟩
theorem QAt.apart {w : World} {b c : Nat} {l : List UInt32} (h : QAt w b l) (hne : b ≠ c) (o : Nat) (vs : List Value) : QAt (w.setCells c o vs) b l := fun j hj =>
  ⟨by rw [World.cell?_setCells_out c vs o w _ (fun hh => absurd hh hne)]; exact (h j hj).1, by rw [World.frozen?_setCells]; exact (h j hj).2⟩
theorem QAt.some {w : World} {b : Nat} {l : List UInt32} (h : QAt w b l) (j : Nat) (hj : j < l.length) : ∃ v, w.cell? ⟨b, j, none⟩ = .some v ∧ w.frozen? ⟨b, j, none⟩ = false := ⟨_, h j hj⟩
set_option maxRecDepth 20000 in
set_option maxHeartbeats 1000000 in
theorem sbegin_any (k n : ByteArray) (c : UInt32) (hk : Hid (k.size = 32)) (hn : Hid (n.size = 12)) (w : World) :
    Calls Tryz.prog 108 #[.string k, .string n, .int .u32 (tv c)] w fun e w' => e = .returned (.agg (wcl (fstw k.data.toList n.data.toList c)).toArray) ∧ Below w.heap.size w w' := by
  obtain ⟨cs, hcs⟩ : ∃ cs, wcl (fstw k.data.toList n.data.toList c) = cs := ⟨_, rfl⟩
  rw [hcs]
  have HC : Hid (wcl (bg2 k.data.toList n.data.toList c 3) = cs) := by rw [bg2_all]; exact hcs
  clear hcs
  obtain ⟨A, hA⟩ : ∃ A, w.alloc (.cells #[.int .u32 0, .int .u32 0, .int .u32 0, .int .u32 0, .int .u32 0, .int .u32 0, .int .u32 0, .int .u32 0, .int .u32 0, .int .u32 0, .int .u32 0, .int .u32 0, .int .u32 0, .int .u32 0, .int .u32 0, .int .u32 0] 126) = A := ⟨_, rfl⟩
  obtain ⟨D, hD⟩ : ∃ D, A.alloc (.cells #[.int .u32 0, .int .u32 0, .int .u32 0, .int .u32 0, .int .u32 0, .int .u32 0, .int .u32 0, .int .u32 0, .int .u32 0, .int .u32 0, .int .u32 0, .int .u32 0, .int .u32 0, .int .u32 0, .int .u32 0, .int .u32 0] 126) = D := ⟨_, rfl⟩
  have sA : A.heap.size = w.heap.size + 1 := by rw [← hA]; simp
  obtain ⟨g, hg⟩ : ∃ g, w.heap.size = g := ⟨_, rfl⟩
  obtain ⟨g2, hg2⟩ : ∃ g2, g + 1 = g2 := ⟨_, rfl⟩
  have BL : Hid (bg1 [] 0 = bg1 k.data.toList 0) := by show _ = _; simp [bg1, rd]
  have ID : Hid (QAt D g (List.replicate 16 0) ∧ QAt D g2 (List.replicate 16 0) ∧ Below g w D) := by
    have q1 := QAt.zeros w 126
    rw [hA, hg] at q1
    have q2 := QAt.zeros A 126
    rw [hD, sA, hg, hg2] at q2
    have bD : Below A.heap.size A D := hD ▸ (Below.refl _ _).alloc (Nat.le_refl _) _
    have bA : Below w.heap.size w A := hA ▸ (Below.refl _ _).alloc (Nat.le_refl _) _
    exact ⟨q1.later bD, q2, hg ▸ chain bA bD⟩
  obtain ⟨V, hV⟩ : ∃ V, D.setCells g2 0 (wcl (bg1 [] 0)).toArray.toList = V := ⟨_, rfl⟩
  have TH : Hid (D.there g2 0 16) := ID.out.2.1.there 16 rfl
  have HL : Hid ((wcl (bg1 [] 0)).length = 16 ∧ (wcl (bg1 [] 0)).toArray.all (·.oneCell') = true) := ⟨rfl, all_oneCell_toArray (wcl_one _)⟩
  have HV : Hid (_ = _) := hV
  go_enter Tryz.func108, Tryz.ntmps108
  go_wp2_with (first
    | (refine wpList_store_mid rfl 126 (.tmp 7) (.tmp 10) rfl g2 0 (wcl (bg1 [] 0)).toArray rfl (by kernel_rfl) (by rw [List.size_toArray, HL.out.1]; exact TH.out) (by rw [List.size_toArray, HL.out.1]; exact size16) HL.out.2 ?_; rw [HV.out]))
  have IV : Hid (QAt V g (List.replicate 16 0) ∧ QAt V g2 (bg1 k.data.toList 0) ∧ Below g w V) := by
    obtain ⟨h1, h2, h3⟩ := ID.out
    rw [← BL.out, ← hV]
    exact ⟨h1.apart (by omega) _ _, h2.stored rfl, below_setCells (by omega) _ _ _ h3⟩
  have HG : Hid (w.heap.size = g) := hg
  have HN : Hid (g ≤ g2 ∧ g2 ≠ g) := by show _ ∧ _; omega
  clear hA hD sA hg hg2 ID hV TH HL HV BL
  go_loopw [11] (fun i wr => ∃ q : Nat, q ≤ 8 ∧ i = .int .i64 (q : Int) ∧ Hid (QAt wr g (List.replicate 16 0) ∧ QAt wr g2 (bg1 k.data.toList q) ∧ Below g w wr)) (fun i _ => 8 - (intOf i).toNat)
  case atStart => exact ⟨0, by omega, rfl, IV.out⟩
  case round =>
    obtain ⟨q, hq, rfl, I⟩ := hrel
    clear IV
    by_cases hq8 : q = 8
    · subst hq8
      rw [show ((8 : Nat) : Int) = 8 from rfl]
      obtain ⟨v0, c12, f12⟩ := I.out.2.1.some 12 (by rw [bg1_len _ _ (by decide)]; decide)
      go_wp2
      obtain ⟨X, hX⟩ : ∃ X, wr.setCell ⟨g2, 12, none⟩ (.int .u32 (tv c)) = X := ⟨_, rfl⟩
      have IX : Hid (QAt X g (List.replicate 16 0) ∧ QAt X g2 (bg2 k.data.toList n.data.toList c 0) ∧ Below g w X) := by
        obtain ⟨h1, h2, h3⟩ := I.out
        obtain ⟨m1, m2⟩ := HN.out
        rw [← hX, ← bg1_c]
        exact ⟨h1.other (a := ⟨g2, 12, none⟩) m2 _, h2.set 12 c, h3.setCell (p := ⟨g2, 12, none⟩) m1 _⟩
      rw [hX]
      clear hX c12 f12 I
      go_loopw [25] (fun i wx => ∃ q : Nat, q ≤ 3 ∧ i = .int .i64 (q : Int) ∧ Hid (QAt wx g (List.replicate 16 0) ∧ QAt wx g2 (bg2 k.data.toList n.data.toList c q) ∧ Below g w wx)) (fun i _ => 3 - (intOf i).toNat)
      case atStart => exact ⟨0, by omega, rfl, IX.out⟩
      case round =>
        obtain ⟨q, hq, rfl, I⟩ := hrel
        clear IX
        by_cases hq3 : q = 3
        · subst hq3
          have J := I.out
          have RG : Hid (wr.rangeAt g2 0 cs) := by show wr.rangeAt g2 0 cs; rw [← HC.out]; exact J.2.1.range
          have TH : Hid (wr.there g 0 16) := J.1.there 16 rfl
          have HL : Hid (cs.length = 16 ∧ cs.toArray.all (·.oneCell') = true) := by rw [← HC.out]; exact ⟨by rw [wcl_len, bg2_len _ _ _ _ (by decide)], all_oneCell_toArray (wcl_one _)⟩
          obtain ⟨V, hV⟩ : ∃ V, wr.setCells g 0 cs.toArray.toList = V := ⟨_, rfl⟩
          have RV : Hid (V.rangeAt g 0 cs ∧ Below g w V) := by
            rw [← hV]
            exact ⟨World.rangeAt_setCells_same wr g 0 _ (by show wr.there g 0 cs.length; rw [HL.out.1]; exact TH.out), below_setCells (Nat.le_refl _) _ _ _ J.2.2⟩
          have HV : Hid (_ = _) := hV
          clear hV I J HC
          go_wp2_with (first
            | (refine wpList_load_mid rfl 126 (.tmp 7) rfl g2 0 rfl cs _ RG.out Tryz.underlying126 rfl (by rw [HL.out.1]; exact size16) ?_)
            | (refine wpList_store_mid rfl 126 (.tmp 6) (.tmp 37) rfl g 0 cs.toArray rfl rfl (by rw [List.size_toArray, HL.out.1]; exact TH.out) (by rw [List.size_toArray, HL.out.1]; exact size16) HL.out.2 ?_; rw [HV.out]))
          refine bodyPost_ret (v := .agg cs.toArray) ?_ rfl ⟨rfl, by rw [HG.out]; exact RV.out.2⟩
          exact res_begin _ V g _ (by kernel_rfl) (run_loadVar_mid V g 0 126 cs _ RV.out.1 Tryz.underlying126 rfl (by rw [HL.out.1]; exact size16))
        · obtain ⟨p, hp⟩ : ∃ p, 13 + q = p := ⟨_, rfl⟩
          obtain ⟨r, hr⟩ : ∃ r, 4 * q = r := ⟨_, rfl⟩
          have z3 : (q : Int) < 3 := by omega
          have a0 : IntKind.i64.wrap (13 + (q : Int)) = (p : Int) := by rw [IntKind.wrap_i64]; omega
          have a1 : IntKind.i64.wrap (4 * (q : Int)) = (r : Int) := by rw [IntKind.wrap_i64]; omega
          have e0 : 13 + (q : Int) = (p : Int) := by omega
          have e1 : 4 * (q : Int) = (r : Int) := by omega
          have p16 : (p : Int) < 16 := by omega
          have r12 : (r : Int) ≤ (n.size : Int) := by have := hn.out; omega
          obtain ⟨v0, cp, fp⟩ := I.out.2.1.some p (by rw [bg2_len _ _ _ _ (by omega)]; omega)
          have RC : Hid (rdw (n.extract r n.size).data.toList 0 = rdw n.data.toList q ∧ 4 ≤ (n.extract r n.size).size) := by
            have hn' := hn.out
            refine ⟨by rw [← hr]; exact rdw_cut n q (by omega), by rw [ByteArray.size_extract]; omega⟩
          have BS : Hid (_ = _) := bg2_succ k.data.toList n.data.toList c q (by omega)
          rw [hp] at BS
          have HR : Hid (4 * q = r ∧ 13 + q = p) := ⟨hr, hp⟩
          clear hr hp
          go_wp2_with fail
          refine Calls.mono (sword_any _ RC.out.2 _) ?_
          rintro e w2 ⟨rfl, m, rfl⟩
          rw [RC.out.1]
          have NX : Hid (QAt ((wr.drewN m).setCell ⟨g2, p, none⟩ (.int .u32 (tv (rdw n.data.toList q)))) g (List.replicate 16 0) ∧ QAt ((wr.drewN m).setCell ⟨g2, p, none⟩ (.int .u32 (tv (rdw n.data.toList q)))) g2 (bg2 k.data.toList n.data.toList c (q + 1)) ∧ Below g w ((wr.drewN m).setCell ⟨g2, p, none⟩ (.int .u32 (tv (rdw n.data.toList q))))) := by
            obtain ⟨h1, h2, h3⟩ := I.out
            obtain ⟨m1, m2⟩ := HN.out
            rw [← BS.out]
            exact ⟨QAt.other (w := wr.drewN m) h1 (a := ⟨g2, p, none⟩) m2 _, QAt.set (w := wr.drewN m) h2 p _, (below_drewN h3 m).setCell (p := ⟨g2, p, none⟩) m1 _⟩
          clear BS RC I
          go_wp2
          go_roundw
          case rel => exact ⟨q + 1, by omega, by go_num, NX.out⟩
          case measure => simp [intOf]; omega
    · obtain ⟨p, hp⟩ : ∃ p, 4 + q = p := ⟨_, rfl⟩
      obtain ⟨r, hr⟩ : ∃ r, 4 * q = r := ⟨_, rfl⟩
      have z3 : (q : Int) < 8 := by omega
      have a0 : IntKind.i64.wrap (4 + (q : Int)) = (p : Int) := by rw [IntKind.wrap_i64]; omega
      have a1 : IntKind.i64.wrap (4 * (q : Int)) = (r : Int) := by rw [IntKind.wrap_i64]; omega
      have e0 : 4 + (q : Int) = (p : Int) := by omega
      have e1 : 4 * (q : Int) = (r : Int) := by omega
      have p16 : (p : Int) < 16 := by omega
      have r12 : (r : Int) ≤ (k.size : Int) := by have := hk.out; omega
      obtain ⟨v0, cp, fp⟩ := I.out.2.1.some p (by rw [bg1_len _ _ (by omega)]; omega)
      have RC : Hid (rdw (k.extract r k.size).data.toList 0 = rdw k.data.toList q ∧ 4 ≤ (k.extract r k.size).size) := by
        have hk' := hk.out
        refine ⟨by rw [← hr]; exact rdw_cut k q (by omega), by rw [ByteArray.size_extract]; omega⟩
      have BS : Hid (_ = _) := bg1_succ k.data.toList q (by omega)
      rw [hp] at BS
      have HR : Hid (4 * q = r ∧ 4 + q = p) := ⟨hr, hp⟩
      clear hr hp
      go_wp2_with fail
      refine Calls.mono (sword_any _ RC.out.2 _) ?_
      rintro e w2 ⟨rfl, m, rfl⟩
      rw [RC.out.1]
      have NX : Hid (QAt ((wr.drewN m).setCell ⟨g2, p, none⟩ (.int .u32 (tv (rdw k.data.toList q)))) g (List.replicate 16 0) ∧ QAt ((wr.drewN m).setCell ⟨g2, p, none⟩ (.int .u32 (tv (rdw k.data.toList q)))) g2 (bg1 k.data.toList (q + 1)) ∧ Below g w ((wr.drewN m).setCell ⟨g2, p, none⟩ (.int .u32 (tv (rdw k.data.toList q))))) := by
        obtain ⟨h1, h2, h3⟩ := I.out
        obtain ⟨m1, m2⟩ := HN.out
        rw [← BS.out]
        exact ⟨QAt.other (w := wr.drewN m) h1 (a := ⟨g2, p, none⟩) m2 _, QAt.set (w := wr.drewN m) h2 p _, (below_drewN h3 m).setCell (p := ⟨g2, p, none⟩) m1 _⟩
      clear BS RC I
      go_wp2
      go_roundw
      case rel => exact ⟨q + 1, by omega, by go_num, NX.out⟩
      case measure => simp [intOf]; omega
end Go.Proofs.YtgnkkjknngblbaaGreatDoor
