/- Parts: GtS, GtT, GtU. -/
import Derived.Test.YtbogoheigbiegaaDoorZgG28
import Derived.Lib.AppendZerosOnto
import Derived.Lib.LazyBuf
namespace Go.Proofs.YtbogoheigbiegaaDoor.Gat
open Go.RowKit Go.Proofs.Fd Go.Proofs.Ml Go.Proofs.Gt Go.Lib
set_option maxRecDepth 20000
theorem sxor8 (a b : UInt8) : bits .xor .u8 (a.toNat : Int) (b.toNat : Int) = ((a ^^^ b).toNat : Int) := by
  have h1 : a.toNat < 2 ^ 8 := a.toNat_lt
  have h2 : b.toNat < 2 ^ 8 := b.toNat_lt
  have h3 : a.toNat ^^^ b.toNat < 2 ^ 8 := Nat.xor_lt_two_pow h1 h2
  rw [UInt8.toNat_xor]
  have e1 : a.toNat % 2 ^ IntKind.u8.bits = a.toNat := Nat.mod_eq_of_lt h1
  have e2 : b.toNat % 2 ^ IntKind.u8.bits = b.toNat := Nat.mod_eq_of_lt h2
  simp only [bits, BitVec.ofInt_natCast, BitVec.toNat_xor, BitVec.toNat_ofNat, e1, e2]
  rw [IntKind.wrap_u8]
  omega
theorem bytes_of2 (s : ByteArray) (hs : s.size ≤ 140737488355328) (w : World) : ∃ (cap : Nat) (W : World), (convert 9 60 (.string s)).run Tryd.prog w = .ok (.slice (some ⟨w.heap.size, 0, none⟩) s.size cap) W
    ∧ BytesAt W w.heap.size s.data.toList ∧ Below w.heap.size w W ∧ s.size ≤ cap ∧ cap ≤ 9223372036854775807 ∧ w.heap.size < W.heap.size := by
  have hm : grownCap w s.size 0 5 ≤ 9223372036854775807 := by
    have := grownCap_le_maxLen w s.size 0 5 (by unfold maxLen; omega)
    unfold maxLen at this
    omega
  refine ⟨_, _, run_bytes_of_string (P := Tryd.prog) w 9 60 5 s Tryd.underlying9 Tryd.underlying60 Tryd.underlying5, ?_, ?_, ?_, hm, ?_⟩
  · intro j hj
    have hj' : j < s.data.size := by simpa using hj
    generalize grownCap w s.size 0 5 = cap
    have hc := bytesRow_at s cap j hj'
    have hlt : j < (bytesRow s cap).size := by
      obtain ⟨h, _⟩ := Array.getElem?_eq_some_iff.1 hc
      exact h
    refine ⟨?_, ?_⟩
    · show (w.drew.alloc _).cell? ⟨w.drew.heap.size, j, none⟩ = _
      rw [World.cell?_alloc_mark, hc]
      simp
    · show (w.drew.alloc _).frozen? ⟨w.drew.heap.size, j, none⟩ = false
      rw [World.frozen?_alloc_mark]
      have : ¬ (bytesRow s cap).size ≤ j := by omega
      simp [this]
  · exact (Below.refl _ w).drew.alloc (Nat.le_refl _) _
  · exact grownCap_ge _ _ _ _
  · show w.heap.size < (w.drew.alloc _).heap.size
    simp
theorem bc_get (l : List UInt8) (j : Nat) (hj : j < l.length) : (bcells l)[j]? = some (.int .u8 (l[j].toNat : Int)) := by
  unfold bcells; simp [hj]
theorem own_bytesAt {w : World} {base n : Nat} {v : Value} {l : List UInt8} (h : w.ownsRow base 5 1 v n (bcells l)) (h0 : 0 < n) : ∃ r cap, v = .slice (some ⟨r, 0, none⟩) n cap ∧ base ≤ r ∧ BytesAt w r l := by
  obtain ⟨h1, h2⟩ := h
  have hl : l.length = n := by simpa [bcells] using h1
  rcases h2 with ⟨-, e⟩ | ⟨g, cap, cur, rfl, hb, hg, hc, hm, hs, ht⟩
  · omega
  · refine ⟨g, cap, rfl, hb, fun j hj => ⟨?_, ?_⟩⟩
    · have e : cur[j]? = (bcells l)[j]? := by
        rw [← ht, List.getElem?_take_of_lt (by omega)]; simp
      unfold World.cell?
      rw [hg]
      simp only [Option.isSome_none]
      show cur[j]? = _
      rw [e, bc_get l j hj]
    · unfold World.frozen?
      rw [hg]
      rfl
theorem cut_bytes (w : World) (ty : Nat) (gb cap n : Nat) (l : List UInt8) (hb : BytesAt w gb l) (hn : n ≤ l.length) (h0 : 0 < n) (hz : n ≤ 1000000) :
    ∃ r c w', (Builtin.append_ #[60, 60] ty #[.slice (some ⟨w.heap.size, 0, none⟩) 0 0, .slice (some ⟨gb, 0, none⟩) n cap]).run Tryd.prog (w.alloc (.cells #[] 5)) = .ok (.slice (some ⟨r, 0, none⟩) n c) w' ∧ w'.ownsRow w.heap.size 5 1 (.slice (some ⟨r, 0, none⟩) n c) n (bcells (l.take n)) ∧ Below w.heap.size w w' := by
  obtain ⟨i0, hi, hz0, hz1, hz2⟩ := info_parts infoByte
  have ba : Below w.heap.size w (w.alloc (.cells #[] 5)) := (Below.refl _ _).alloc (Nat.le_refl _) _
  have o0 := World.ownsRow_made (base := w.heap.size) (e := 5) (size := 1) w #[] 0 (Nat.le_refl _) (Nat.zero_le _) rfl
  have hl : (l.take n).length = n := by rw [List.length_take]; omega
  obtain ⟨v', w', h1, h2, h3, -⟩ := run_append_own (P := Tryd.prog) _ w.heap.size 60 ty 5 i0 (.int .u8 0) 1 1 Tryd.underlying60 hi hz0 hz1 hz2 rfl (by decide) _ 0 [] o0 ⟨gb, 0, none⟩ n cap (bcells (l.take n)) (by unfold bcells; rw [List.length_map, hl, Nat.mul_one]) (fun j u hu => by
    have hj : j < (l.take n).length := by have := (List.getElem?_eq_some_iff.1 hu).1; simpa [bcells] using this
    rw [bc_get _ j hj] at hu
    have hj' : j < l.length := by omega
    have q : Addr.add ⟨gb, 0, none⟩ j = ⟨gb, j, none⟩ := by simp [Addr.add]; intro h; exact h.symm
    rw [q, cell_alloc (hb j hj').1, ← hu, List.getElem_take]) (fun u hu => by
    unfold bcells at hu
    obtain ⟨x, -, rfl⟩ := List.mem_map.1 hu
    rfl) (by unfold maxLen; omega) (by omega) (by simp)
  have h2' : w'.ownsRow w.heap.size 5 1 v' n (bcells (l.take n)) := by simpa using h2
  obtain ⟨r, c, rfl, -, -⟩ := own_bytesAt h2' h0
  exact ⟨r, c, w', h1, h2', ba.grown h3 (by simp) (fun k hk => (o0.lt k hk).1)⟩
theorem app_zeros (w : World) (ty : Nat) (base r cap n k : Nat) (l : List UInt8) (hl : l.length = n) (hk : 0 < k) (hz : n + k ≤ 1000000) (h : w.ownsRow base 5 1 (.slice (some ⟨r, 0, none⟩) n cap) n (bcells l)) (hB : base ≤ w.heap.size) (h0 : 0 < n) :
    ∃ r' c' w', (Builtin.append_ #[60, 3] ty #[.slice (some ⟨r, 0, none⟩) n cap, .int .i64 (k : Int)]).run Tryd.prog w = .ok (.slice (some ⟨r', 0, none⟩) (n + k) c') w' ∧ BytesAt w' r' (l ++ zr k) ∧ base ≤ r' ∧ Below base w w' := by
  obtain ⟨i, hi, hz0, hz1, hz2⟩ := info_parts infoByte
  obtain ⟨r2, cap2, e2, hbr, hB0⟩ := own_bytesAt h h0
  obtain ⟨rfl, rfl⟩ : r = r2 ∧ cap = cap2 := by
    have := Value.slice.inj e2
    exact ⟨congrArg (fun (x : Addr) => x.block) (Option.some.inj this.1), this.2.2⟩
  obtain ⟨-, h2⟩ := h
  rcases h2 with ⟨q, -⟩ | ⟨g, cap', cur, e, hb, hg, hc, hm, hs, ht⟩
  · cases q
  obtain ⟨rfl, rfl⟩ : r = g ∧ cap = cap' := by
    have := Value.slice.inj e
    exact ⟨congrArg (fun (x : Addr) => x.block) (Option.some.inj this.1), this.2.2⟩
  have hw : IntKind.i64.wrap (k : Int) = k := by rw [IntKind.wrap_i64]; omega
  have hneg : ¬ ((k : Int) < 0) := by omega
  have hk0 : k ≠ 0 := by omega
  by_cases hroom : n + k ≤ cap
  · have hst := run_storeCells_cells (P := Tryd.prog) r n ((List.replicate k (Value.int .u8 0))) 0 w
      (by intro j hj
          have hj' : j < k := by simpa using hj
          have hlt : n + 0 + j < cur.size := by omega
          unfold World.cell?
          rw [hg]
          simp only [Option.isSome_none]
          show (cur[n + 0 + j]?).isSome = true
          rw [Array.getElem?_eq_getElem hlt]; rfl)
      (by intro j hj
          unfold World.frozen?
          rw [hg]
          rfl)
      (by intro v hv; rw [List.eq_of_mem_replicate hv]; rfl)
    have zc : (Builtin.zeroCells (Value.int .u8 0).cells k).toList = List.replicate k (Value.int .u8 0) := by
      unfold Builtin.zeroCells
      apply List.ext_getElem
      · simp [Value.cells]
      · intro j h1 h2
        simp [Value.cells, Nat.mod_one]
    refine ⟨r, cap, w.setCells r (n + 0) (List.replicate k (Value.int .u8 0)), ?_, ?_, hbr, ?_⟩
    · have qa : Addr.add ⟨r, 0, none⟩ n = ⟨r, n, none⟩ := by unfold Addr.add; split <;> simp_all
      have h48i : ¬ (281474976710656 < (k : Int) * (i.bytes : Int)) := by rw [hz2]; omega
      simp [Builtin.append_, run_underlying Tryd.underlying60, run_underlying Tryd.underlying3, sizeOf, typeInfo, zeroValue, hi, hz0, hz1, asInt, asIntOf, hw, hneg, hroom, h48i, hk0, qa, zc, hst]
    · intro j hj
      have hj' : j < n + k := by rw [List.length_append, hl] at hj; simpa using hj
      refine ⟨?_, ?_⟩
      · by_cases hlo : j < n
        · rw [World.cell?_setCells_out r _ (n + 0) w _ (fun _ _ => .inl (by show j < n + 0; omega)), (hB0 j (by omega)).1, List.getElem_append_left (by omega)]
        · have := World.cell?_setCells_in r (List.replicate k (Value.int .u8 0)) (n + 0) w (fun x hx => by
            have hx' : x < k := by simpa using hx
            have hlt : n + 0 + x < cur.size := by omega
            unfold World.cell?
            rw [hg]
            simp only [Option.isSome_none]
            show (cur[n + 0 + x]?).isSome = true
            rw [Array.getElem?_eq_getElem hlt]; rfl) (j - n) (by simp; omega)
          rw [show n + 0 + (j - n) = j by omega] at this
          rw [this, List.getElem_replicate, List.getElem_append_right (by omega), List.getElem_replicate]; rfl
      · rw [World.frozen?_setCells]
        unfold World.frozen?
        rw [hg]
        rfl
    · exact Mai.below_cells hbr _ _ (Below.refl _ _)
  · have holds : ∀ j u, (bcells l)[j]? = some u → w.drew.cell? ((⟨r, 0, none⟩ : Addr).add j) = some u := by
      intro j u hu
      have hj : j < l.length := by have := (List.getElem?_eq_some_iff.1 hu).1; simpa [bcells] using this
      have q : Addr.add ⟨r, 0, none⟩ j = ⟨r, j, none⟩ := by simp [Addr.add]; intro h; exact h.symm
      rw [q, ← hu, bc_get l j hj]
      exact (hB0 j hj).1
    have hr := run_append_grow_zeros (P := Tryd.prog) w 60 3 ty 5 i (.int .u8 0) .i64 .i64 Tryd.underlying60 Tryd.underlying3 hi hz0 (some ⟨r, 0, none⟩) n cap (bcells l) (by refine run_firstCells_some _ _ _ _ _ _ _ ?_ holds; rw [hz1]; unfold bcells; rw [List.length_map, hl, Nat.mul_one]) k hk (by rw [hz1]; decide) (by omega) (by omega) (by rw [hz2]; omega) (by rw [hz2]; exact growslice_fits (by omega) (by omega))
    refine ⟨w.heap.size, _, _, hr, ?_, hB, ?_⟩
    · intro j hj
      have hj' : j < n + k := by rw [List.length_append, hl] at hj; simpa using hj
      have hlb : (bcells l).length = n := by simp [bcells, hl]
      refine ⟨?_, by simp [go_sem]⟩
      have hd : w.heap.size = w.drew.heap.size := rfl
      rw [hd, World.cell?_alloc_new]
      have zc : (Builtin.zeroCells (Value.int .u8 0).cells k) = (List.replicate k (Value.int .u8 0)).toArray := by
        unfold Builtin.zeroCells
        apply Array.ext
        · simp [Value.cells]
        · intro j h1 h2
          simp [Value.cells, Nat.mod_one]
      rw [zc, Array.getElem?_append_left (by simp [hlb]; omega)]
      by_cases hlo : j < n
      · rw [Array.getElem?_append_left (by simp [hlb]; omega), List.getElem?_toArray, bc_get l j (by omega), List.getElem_append_left (by omega)]
      · rw [Array.getElem?_append_right (by simp [hlb]; omega), List.getElem?_toArray, List.getElem_append_right (by omega), List.getElem_replicate, List.getElem?_replicate, if_pos (by simp [hlb]; omega)]
        rfl
    · exact (Below.drew (Below.refl _ _)).alloc (by simpa using hB) _
end Go.Proofs.YtbogoheigbiegaaDoor.Gat
namespace Go.Proofs.Gt
open Go.Proofs.Ml Go.Proofs.Hs
theorem turned_ok {L : List UInt8} (hl : L.length = 38) (hd : decB L = true) : ∃ (u q : Int) (g : ByteArray), dm L = ⟨2, u, q, e0, g, [], []⟩ ∧ g.size = 32 ∧ txt (bare (dm L)) = L.take 6 ++ zr 32 := by
  have hd' := hd
  unfold decB at hd
  simp only [Bool.and_eq_true, decide_eq_true_eq] at hd
  obtain ⟨-, h2, h3⟩ := hd
  have e : dm L = rd L := by unfold dm; rw [hd', if_pos rfl]
  rw [e]
  obtain ⟨m, hm⟩ : ∃ m, rd L = m := ⟨_, rfl⟩
  rw [hm] at h2 h3 ⊢
  have hk := txt_len h2
  rw [h3, hl] at hk
  have k2 : m.k = 2 ∧ m.t = e0 ∧ m.g.size = 32 ∧ m.sl = [] ∧ m.ids = [] := by
    rcases ok_cases h2 with ⟨k, -⟩ | ⟨-, -, t, ⟨k, g, s, i⟩ | ⟨k, -⟩ | ⟨k, -⟩⟩
    · rw [k] at hk; exact absurd hk (by decide)
    · exact ⟨k, t, g, s, i⟩
    · rw [k] at hk; exact absurd hk (by decide)
    · rw [k] at hk; exact absurd hk (by decide)
  obtain ⟨k, u, q, t, g, sl, ids⟩ := m
  obtain ⟨k2, t2, g2, s2, i2⟩ := k2
  simp only at k2 t2 g2 s2 i2
  subst k2 t2 s2 i2
  refine ⟨u, q, g, rfl, g2, ?_⟩
  have tx : ∀ g' : ByteArray, g'.size = 32 → txt ⟨2, u, q, e0, g', [], []⟩ = lead ⟨2, u, q, e0, g', [], []⟩ ++ by' g' := fun g' hg => by
    unfold txt pad body
    rw [lead_six (show ¬ (2 : Int) = 1 by decide)]
    have e1 : by' e0 ++ (by' g' ++ (flat [] ++ slots [])) = by' g' := by show [] ++ (by' g' ++ ([] ++ [])) = by' g'; simp
    simp only [e1]
    rw [List.length_append, by_len, hg]
    show _ ++ zr (38 - (6 + 32)) = _
    simp
  have l6 : ∀ g' : ByteArray, (lead ⟨2, u, q, e0, g', [], []⟩).length = 6 := fun g' => by rw [lead_six (show ¬ (2 : Int) = 1 by decide)]; rfl
  have same : lead ⟨2, u, q, e0, g, [], []⟩ = lead ⟨2, u, q, e0, mk (zr 32), [], []⟩ := rfl
  rw [← h3, tx g g2]
  show txt ⟨2, u, q, e0, mk (zr 32), [], []⟩ = _
  rw [tx _ rfl, List.take_append_of_le_length (by rw [l6]; exact Nat.le_refl _), List.take_of_length_le (by rw [l6]; exact Nat.le_refl _), same]
  rfl
theorem at_k (q u : Int) : at' [(⟨3, kk, q⟩ : Si)] u = if 3 = u then 0 else 1 := by
  by_cases z : (3 : Int) = u
  · rw [if_pos z]; exact if_pos z
  · rw [if_neg z]; exact if_neg z
theorem ad_tag {q : Int} {m : Ml} (h : adE [⟨3, kk, q⟩] m = 0) : m.g = tgM kk m := by
  by_cases hm : mayB m = true
  · by_cases hu : (3 : Int) = m.u
    · have a : at' [(⟨3, kk, q⟩ : Si)] m.u = 0 := by rw [at_k, if_pos hu]
      by_cases hg : m.g = tgM kk m
      · exact hg
      · have := (ad_other (l := [⟨3, kk, q⟩]) hm (by rw [a]; exact Nat.zero_lt_succ _) (by simp only [a, List.getElem_cons_zero]; exact hg)).1
        rw [this] at h; cases h
    · have a : at' [(⟨3, kk, q⟩ : Si)] m.u = 1 := by rw [at_k, if_neg hu]
      have := (ad_none (l := [⟨3, kk, q⟩]) hm (by rw [a]; exact Nat.lt_irrefl 1)).1
      rw [this] at h; cases h
  · have := (ad_no (l := [⟨3, kk, q⟩]) (m := m) (by simpa using hm)).1
    rw [this] at h; cases h
theorem ad_stay (q : Int) (m : Ml) : ∃ q', adS [⟨3, kk, q⟩] m = [⟨3, kk, q'⟩] := by
  by_cases h : adE [⟨3, kk, q⟩] m = 0
  · unfold adS
    rw [if_pos h]
    by_cases hu : (3 : Int) = m.u
    · have a : at' [(⟨3, kk, q⟩ : Si)] m.u = 0 := by rw [at_k, if_pos hu]
      rw [dif_pos (by rw [a]; exact Nat.zero_lt_succ _)]
      simp only [a]
      exact ⟨m.q, rfl⟩
    · have a : at' [(⟨3, kk, q⟩ : Si)] m.u = 1 := by rw [at_k, if_neg hu]
      rw [dif_neg (by rw [a]; exact Nat.lt_irrefl 1)]
      exact ⟨q, rfl⟩
  · unfold adS
    rw [if_neg h]
    exact ⟨q, rfl⟩
end Go.Proofs.Gt
namespace Go.Proofs.YtbogoheigbiegaaDoor.Gat
open Go.RowKit Go.Proofs.Fd Go.Proofs.Ml Go.Proofs.Hs Go.Proofs.Gt
open Go.Proofs.YtbogoheigbiegaaDoor.Mai (mv MlAt Lists MlV SlAt enS chkE z32 decode_any)
set_option maxRecDepth 20000
theorem mod_lt_of (x : Int) (N : Nat) (h0 : 0 < N) (h1 : N ≤ 1000000) : ∃ (r : Nat), (IntKind.u64.wrap x).tmod (N : Int) = (r : Int) ∧ r < N ∧ IntKind.u64.wrap (r : Int) = (r : Int) ∧ IntKind.i64.wrap (r : Int) = (r : Int) ∧ wrap64 (r : Int) = (r : Int) := by
  have h : IntKind.u64.wrap x = x % 18446744073709551616 := by rw [IntKind.wrap_u64]
  have a := Int.emod_nonneg x (show (18446744073709551616 : Int) ≠ 0 by decide)
  have b := Int.emod_nonneg (x % 18446744073709551616) (show (N : Int) ≠ 0 by omega)
  have c := Int.emod_lt_of_pos (x % 18446744073709551616) (show (0 : Int) < (N : Int) by omega)
  rw [h, Int.tmod_eq_emod_of_nonneg a]
  obtain ⟨z, hz⟩ : ∃ z, x % 18446744073709551616 % (N : Int) = z := ⟨_, rfl⟩
  rw [hz] at b c ⊢
  refine ⟨z.toNat, by omega, by omega, ?_, ?_, ?_⟩
  · rw [IntKind.wrap_u64]; omega
  · rw [IntKind.wrap_i64]; omega
  · unfold wrap64; omega
theorem admitQ (w0 w : World) (p g : Nat) (q : Int) (m : Ml) (v : Value) (ht : m.g.size ≤ 140737488355328) (O : Ow w0 w p g [⟨3, kk, q⟩]) (V : MlV w v m) :
    Calls Tryd.prog 14 #[.pointer (some ⟨p, 0, none⟩), v] w fun e w' => e = .returned (.int .i64 (adE [⟨3, kk, q⟩] m)) ∧ (∃ q', Ow w0 w' p g [⟨3, kk, q'⟩]) ∧ Bf (fun x => x = g) w w' := by
  refine Calls.mono (admitV p g [⟨3, kk, q⟩] v m ht w O.a V O.k) ?_
  rintro e w' ⟨rfl, ha, hb⟩
  obtain ⟨q', hq⟩ := ad_stay q m
  rw [hq] at ha
  exact ⟨rfl, ⟨q', O.step ha hb⟩, hb⟩
theorem field_tag (k u q : Int) (t g : ByteArray) (a : Option Addr) (n c : Nat) (a2 : Option Addr) (n2 c2 : Nat) (w : World) : (Instr.field 38 (.agg #[.int .i64 k, .int .i64 u, .int .i64 q, .string t, .string g, .slice a n c, .slice a2 n2 c2]) 4).run Tryd.prog w = .ok (.string g) w := by kernel_rfl
def opgt0 : Oper := { dst := some 76, op := Go.Op.move (Go.Operand.tmp 14), type := 24, pos := "theorems.go:77", after := #[], guard := none }
def opgt1 : Oper := { dst := some 77, op := Go.Op.binOp Go.BinOp.eql 24 (Go.Operand.tmp 76) (Go.Operand.const (Go.Value.int Go.IntKind.i64 0)) 24, type := 4, pos := "theorems.go:77", after := #[{ on := 0, ground := Go.Ground.data }], guard := none }
def opgt2 : Oper := { dst := some 78, op := Go.Op.move (Go.Operand.tmp 77), type := 4, pos := "theorems.go:77", after := #[{ on := 1, ground := Go.Ground.data }], guard := none }
def opgt3 : Oper := { dst := some 79, op := Go.Op.move (Go.Operand.tmp 13), type := 60, pos := "theorems.go:77", after := #[{ on := 2, ground := Go.Ground.guard }], guard := some (2, true) }
def opgt4 : Oper := { dst := some 80, op := Go.Op.convert 60 9 (Go.Operand.tmp 79), type := 9, pos := "theorems.go:77", after := #[{ on := 3, ground := Go.Ground.data }, { on := 2, ground := Go.Ground.guard }], guard := some (2, true) }
def opgt5 : Oper := { dst := some 81, op := Go.Op.buildSlice 36 2 #[(0, Go.Operand.const (Go.Value.string { data := #[103, 97, 116, 101] })), (1, Go.Operand.tmp 80)], type := 36, pos := "theorems.go:77", after := #[{ on := 4, ground := Go.Ground.data }, { on := 2, ground := Go.Ground.guard }], guard := some (2, true) }
def opgt6 : Oper := { dst := some 82, op := Go.Op.call { callee := Go.Callee.value (Go.Operand.func 25), args := #[Go.Operand.const (Go.Value.string { data := #[116, 104, 105, 114, 116, 121, 45, 116, 119, 111, 32, 98, 121, 116, 101, 115, 32, 97, 114, 101, 32, 106, 117, 115, 116, 32, 97, 32, 107, 101, 121, 46] }), Go.Operand.tmp 81], argTypes := #[9, 36] }, type := 9, pos := "theorems.go:77", after := #[{ on := 5, ground := Go.Ground.data }, { on := 2, ground := Go.Ground.chain }, { on := 2, ground := Go.Ground.guard }], guard := some (2, true) }
def opgt7 : Oper := { dst := some 83, op := Go.Op.fieldAddr 38 (Go.Operand.tmp 11) 4, type := 0, pos := "theorems.go:77", after := #[{ on := 2, ground := Go.Ground.guard }], guard := some (2, true) }
def opgt8 : Oper := { dst := some 84, op := Go.Op.load 9 (Go.Operand.tmp 83), type := 9, pos := "theorems.go:77", after := #[{ on := 7, ground := Go.Ground.data }, { on := 2, ground := Go.Ground.guard }], guard := some (2, true) }
def opgt9 : Oper := { dst := some 85, op := Go.Op.binOp Go.BinOp.neq 9 (Go.Operand.tmp 82) (Go.Operand.tmp 84) 9, type := 4, pos := "theorems.go:77", after := #[{ on := 6, ground := Go.Ground.data }, { on := 8, ground := Go.Ground.data }, { on := 2, ground := Go.Ground.guard }], guard := some (2, true) }
def opgt10 : Oper := { dst := some 86, op := Go.Op.pick (Go.Operand.tmp 78) (Go.Operand.tmp 85) (Go.Operand.const (Go.Value.bool false)), type := 4, pos := "theorems.go:77", after := #[{ on := 2, ground := Go.Ground.data }, { on := 9, ground := Go.Ground.data }], guard := none }
def opgu0 : Oper := { dst := some 96, op := Go.Op.move (Go.Operand.tmp 7), type := 27, pos := "theorems.go:82", after := #[], guard := none }
def opgu1 : Oper := { dst := some 97, op := Go.Op.load 38 (Go.Operand.tmp 15), type := 38, pos := "theorems.go:82", after := #[], guard := none }
def opgu2 : Oper := { dst := some 98, op := Go.Op.call { callee := Go.Callee.value (Go.Operand.func 14), args := #[Go.Operand.tmp 96, Go.Operand.tmp 97], argTypes := #[27, 38] }, type := 24, pos := "theorems.go:82", after := #[{ on := 0, ground := Go.Ground.data }, { on := 1, ground := Go.Ground.data }], guard := none }
def opgu3 : Oper := { dst := some 99, op := Go.Op.binOp Go.BinOp.eql 24 (Go.Operand.tmp 98) (Go.Operand.const (Go.Value.int Go.IntKind.i64 0)) 24, type := 4, pos := "theorems.go:82", after := #[{ on := 2, ground := Go.Ground.data }], guard := none }
def opgu4 : Oper := { dst := some 100, op := Go.Op.move (Go.Operand.tmp 99), type := 4, pos := "theorems.go:82", after := #[{ on := 3, ground := Go.Ground.data }, { on := 2, ground := Go.Ground.chain }], guard := none }
def opgu5 : Oper := { dst := some 101, op := Go.Op.call { callee := Go.Callee.value (Go.Operand.func 22), args := #[Go.Operand.const (Go.Value.string { data := #[116, 104, 105, 114, 116, 121, 45, 116, 119, 111, 32, 98, 121, 116, 101, 115, 32, 97, 114, 101, 32, 106, 117, 115, 116, 32, 97, 32, 107, 101, 121, 46] }), Go.Operand.const (Go.Value.int Go.IntKind.i64 9)], argTypes := #[9, 3] }, type := 38, pos := "theorems.go:82", after := #[{ on := 4, ground := Go.Ground.chain }, { on := 4, ground := Go.Ground.guard }], guard := some (4, true) }
def opgu6 : Oper := { dst := some 102, op := Go.Op.field 38 (Go.Operand.tmp 101) 4, type := 9, pos := "theorems.go:82", after := #[{ on := 5, ground := Go.Ground.data }, { on := 4, ground := Go.Ground.guard }], guard := some (4, true) }
def opgu7 : Oper := { dst := some 103, op := Go.Op.fieldAddr 38 (Go.Operand.tmp 15) 4, type := 0, pos := "theorems.go:82", after := #[{ on := 4, ground := Go.Ground.guard }], guard := some (4, true) }
def opgu8 : Oper := { dst := some 104, op := Go.Op.load 9 (Go.Operand.tmp 103), type := 9, pos := "theorems.go:82", after := #[{ on := 7, ground := Go.Ground.data }, { on := 4, ground := Go.Ground.guard }], guard := some (4, true) }
def opgu9 : Oper := { dst := some 105, op := Go.Op.binOp Go.BinOp.neq 9 (Go.Operand.tmp 102) (Go.Operand.tmp 104) 9, type := 4, pos := "theorems.go:82", after := #[{ on := 6, ground := Go.Ground.data }, { on := 8, ground := Go.Ground.data }, { on := 4, ground := Go.Ground.guard }], guard := some (4, true) }
def opgu10 : Oper := { dst := some 106, op := Go.Op.pick (Go.Operand.tmp 100) (Go.Operand.tmp 105) (Go.Operand.const (Go.Value.bool false)), type := 4, pos := "theorems.go:82", after := #[{ on := 4, ground := Go.Ground.data }, { on := 9, ground := Go.Ground.data }], guard := none }
set_option maxHeartbeats 8000000 in
theorem GateTurned_walk (at_ : Int) (y0 y : UInt8) (hy : (y0 = 0 ∧ y = 1) ∨ (y0 ≠ 0 ∧ y = y0)) (other : ByteArray) (ho : other.size ≤ 140737488351232) (w : World) (K : Hid (Kh w)) :
    Calls Tryd.prog 6 #[.int .i64 at_, .int .u8 (y0.toNat : Int), .string other] w fun e w' => e = .returned (.bool true) ∧ Below w.heap.size w w' := by
  have PU : Hid (∀ (s : Int) (w2 : World), 1 ≤ s → s ≤ 2147483647 → Kh w2 → Calls Tryd.prog 22 #[.string ⟨#[116, 104, 105, 114, 116, 121, 45, 116, 119, 111, 32, 98, 121, 116, 101, 115, 32, 97, 114, 101, 32, 106, 117, 115, 116, 32, 97, 32, 107, 101, 121, 46]⟩, .int .i64 s] w2 fun e w' => ∃ v, e = .returned v ∧ MlV w' v (pl kk 3 s) ∧ Below w2.heap.size w2 w') := fun s w2 h2 h3 hk => pull_any kk s kk_size h2 h3 w2 hk
  have PO : Hid (∀ (w2 : World), other.size = 32 → Kh w2 → Calls Tryd.prog 22 #[.string other, .int .i64 9] w2 fun e w' => ∃ v, e = .returned v ∧ MlV w' v (pl other 3 9) ∧ Below w2.heap.size w2 w') := fun w2 h hk => pull_any other 9 h (by decide) (by decide) w2 hk
  have NK : Hid (∀ (b : Nat) (w2 : World), w2.cell? ⟨b, 0, none⟩ = some (.int .i64 3) → w2.cell? ⟨b, 1, none⟩ = some (.string ⟨#[116, 104, 105, 114, 116, 121, 45, 116, 119, 111, 32, 98, 121, 116, 101, 115, 32, 97, 114, 101, 32, 106, 117, 115, 116, 32, 97, 32, 107, 101, 121, 46]⟩) → Below w.heap.size w w2 → Calls Tryd.prog 10 #[.slice (some ⟨b, 0, none⟩) 1 1] w2 fun e w' => ∃ p g, e = .returned (.tuple #[.pointer (some ⟨p, 0, none⟩), .int .i64 0]) ∧ Ow w w' p g [⟨3, kk, 0⟩]) := fun b w2 h0 h1 hb => newK 3 (by decide) (by decide) b w2 h0 h1 w hb K.out
  have WK : Hid (∀ w2, Kh w2 → Calls Tryd.prog 20 #[] w2 fun e w' => e = .returned (.bool true) ∧ Below w2.heap.size w2 w') := fun w2 h => gworks_any w2 h
  have ok7 : okB (pl kk 3 7) = true := by
    have := pl_ok (key := kk) (u := 3) (s := 7) (by decide) (by decide) (by decide) (by decide)
    unfold mayB at this
    rw [Bool.and_eq_true] at this
    exact this.1
  have z7 : (enS (pl kk 3 7)).size = 38 := by
    rw [show enS (pl kk 3 7) = mk (txt (pl kk 3 7)) from if_pos ok7, mk_size, txt_len ok7]; rfl
  have EN : Hid (∀ (v : Value) (w2 : World), MlV w2 v (pl kk 3 7) → Calls Tryd.prog 23 #[v] w2 fun e w' => e = .returned (.tuple #[.string (enS (pl kk 3 7)), .int .i64 0]) ∧ Below w2.heap.size w2 w') := fun v w2 hv => by
    obtain ⟨a, n, c, a2, n2, c2, rfl, LL⟩ := hv
    have q := Mai.encode_any (pl kk 3 7).k (pl kk 3 7).u (pl kk 3 7).q (pl kk 3 7).t (pl kk 3 7).g a n c a2 n2 c2 (pl kk 3 7).sl (pl kk 3 7).ids w2 LL
    rw [show okB ⟨(pl kk 3 7).k, (pl kk 3 7).u, (pl kk 3 7).q, (pl kk 3 7).t, (pl kk 3 7).g, (pl kk 3 7).sl, (pl kk 3 7).ids⟩ = true from ok7, show chkE true = 0 from rfl] at q
    exact q
  have HY : Hid _ := hy
  clear hy ok7
  generalize enS (pl kk 3 7) = S at EN z7
  have zs : Hid (S.size = 38 ∧ S.data.toList.length = 38) := ⟨z7, by rw [← z7]; simp⟩
  have z7i : (S.size : Int) = 38 := by omega
  clear z7
  go_enter Tryd.func6, Tryd.ntmps6
  go_wp2_with fail
  refine Calls.mono (NK.out _ _ (by simp [go_sem]) (by simp [go_sem]) ((Below.refl _ _).alloc (Nat.le_refl _) _)) ?_
  rintro e w1 ⟨p, g, rfl, h1⟩
  have O1 : Hid (Ow w w1 p g [⟨3, kk, 0⟩]) := h1
  clear h1 NK
  go_wp2_with fail
  refine Calls.mono (WK.out _ O1.out.k) ?_
  rintro e w2 ⟨rfl, hb⟩
  have O2 : Hid (Ow w w2 p g [⟨3, kk, 0⟩]) := O1.out.later hb
  clear hb WK O1
  go_wp2_with fail
  refine Calls.mono (PU.out 7 _ (by decide) (by decide) O2.out.k) ?_
  rintro e w3 ⟨v, rfl, hv, hb⟩
  have O3 : Hid (Ow w w3 p g [⟨3, kk, 0⟩]) := O2.out.later hb
  have V3 : Hid (MlV w3 v (pl kk 3 7)) := hv
  clear hb hv O2
  go_wp2_with fail
  refine Calls.mono (EN.out v _ V3.out) ?_
  rintro e w4 ⟨rfl, hb⟩
  have O4 : Hid (Ow w w4 p g [⟨3, kk, 0⟩]) := O3.out.later hb
  clear hb V3 O3 EN
  go_upto_if 46 with fail
  go_cut [1] (fun s1 wx => s1 = .int .u8 (y.toNat : Int) ∧ w4 = wx)
  case first =>
    rcases HY.out with ⟨h0, h1⟩ | ⟨h0, h1⟩
    · subst h0 h1
      go_wp2
      go_meet
      case rel => exact ⟨rfl, rfl⟩
    · subst h1
      have hn : ¬ (y.toNat : Int) = 0 := fun e => h0 (UInt8.toNat_inj.1 (show y.toNat = 0 by omega))
      go_wp2
      go_meet
      case rel => exact ⟨rfl, rfl⟩
  case rest =>
  obtain ⟨rfl, hwx⟩ := hcut
  subst hwx
  clear HY
  obtain ⟨cap, W6, CV, BY, bW, hcap, hcapm, hlt6⟩ := bytes_of2 S (by have := zs.out.1; omega) w4
  rw [zs.out.1] at CV hcap
  have O6 : Hid (Ow w W6 p g [⟨3, kk, 0⟩]) := O4.out.later bW
  have GB : Hid (w.heap.size ≤ w4.heap.size ∧ w4.heap.size ≠ g ∧ w4.heap.size ≠ p) := by
    have lp := O4.out.a.lt
    have lg := World.block_lt_of_cell? _ _ (O4.out.a.s 0 (by simp)).1
    simp only at lg
    exact ⟨O4.out.b.size, by omega, by omega⟩
  have HCAP : Hid (38 ≤ cap) := hcap
  have hc6 : (6 : Int) ≤ (cap : Int) := by omega
  clear bW hcap hlt6
  generalize w4.heap.size = gb at *
  obtain ⟨r, hr, hr2, z1, z2, z3⟩ := mod_lt_of at_ 38 (by omega) (by omega)
  have hr' : (IntKind.u64.wrap at_).tmod 38 = (r : Int) := hr
  have hrl : (r : Int) < 38 := by omega
  have hr0 : (0 : Int) ≤ (r : Int) := by omega
  have hpl : r < S.data.toList.length := by rw [zs.out.2]; exact hr2
  have BY' : Hid (BytesAt W6 gb S.data.toList) := BY
  obtain ⟨cx, fx⟩ := BY r hpl
  obtain ⟨x, hx⟩ : ∃ x, S.data.toList[r] = x := ⟨_, rfl⟩
  rw [hx] at cx
  have XY := sxor8 x y
  have B7 : Hid (BytesAt (W6.setCell ⟨gb, r, none⟩ (.int .u8 ((x ^^^ y).toNat : Int))) gb (S.data.toList.set r (x ^^^ y)) ∧ Ow w (W6.setCell ⟨gb, r, none⟩ (.int .u8 ((x ^^^ y).toNat : Int))) p g [⟨3, kk, 0⟩]) := by
    refine ⟨BY'.out.set r (x ^^^ y) _ rfl, O6.out.apart (F := fun z => z = gb) ?_ (fun z e => by rw [e]; exact GB.out.1) (fun e => GB.out.2.2 e.symm) (fun e => GB.out.2.1 e.symm)⟩
    exact Bf.setCell (F := fun z => z = gb) (Bf.refl _ _) (p := ⟨gb, r, none⟩) rfl _
  clear hx hr hr2 BY
  generalize x ^^^ y = z at *
  have lBL : (S.data.toList.set r z).length = 38 := by rw [List.length_set]; exact zs.out.2
  have CVT : Hid (∀ w', BytesAt w' gb (S.data.toList.set r z) → (convert 60 9 (.slice (some ⟨gb, 0, none⟩) 38 cap)).run Tryd.prog w' = .ok (.string ⟨(S.data.toList.set r z).toArray⟩) w') := fun w' h => h.string lBL
  have LBL : Hid ((S.data.toList.set r z).length = 38) := lBL
  clear hpl lBL
  generalize S.data.toList.set r z = BL at *
  have cvt := CVT.out _ B7.out.1
  go_wp2_with fail
  obtain ⟨X0, hX0⟩ : ∃ X, W6.setCell ⟨gb, r, none⟩ (.int .u8 (z.toNat : Int)) = X := ⟨_, rfl⟩
  rw [hX0] at B7 ⊢
  clear hX0 cx fx XY BY' O6 O4 cvt CV z1 z2 z3 hr' hrl hr0 zs z7i
  have DC : Hid _ := decode_any ⟨BL.toArray⟩ (by show BL.toArray.size ≤ _; rw [List.size_toArray, LBL.out]; omega) X0
  rw [show by' (⟨BL.toArray⟩ : ByteArray) = BL from rfl] at DC
  obtain ⟨XS, hXS⟩ : ∃ XS : ByteArray, ⟨BL.toArray⟩ = XS := ⟨_, rfl⟩
  rw [hXS] at DC CVT ⊢
  clear hXS
  refine Calls.mono DC.out ?_
  rintro e w7 ⟨v7, rfl, ⟨a, n, c, a2, n2, c2, rfl, LL⟩, hb⟩
  have O7 : Hid (Ow w w7 p g [⟨3, kk, 0⟩]) := B7.out.2.later hb
  have Y7 : Hid (BytesAt w7 gb BL) := B7.out.1.later hb
  have V7 : Hid (MlV w7 (mv (dm BL).k (dm BL).u (dm BL).q (dm BL).t (dm BL).g a n c a2 n2 c2) (dm BL)) := ⟨a, n, c, a2, n2, c2, rfl, LL⟩
  have HD : Hid ((de BL = 0 ∧ (dm BL).g.size = 32 ∧ tgT kk (BL.take 6 ++ zr 32) = tgM kk (dm BL)) ∨ de BL = 110) := by
    by_cases hd : decB BL = true
    · obtain ⟨u, q, g, e1, e2, e3⟩ := turned_ok LBL.out hd
      refine .inl ⟨if_pos hd, by rw [e1]; exact e2, ?_⟩
      unfold tgM
      rw [e3]
    · exact .inr (if_neg hd)
  obtain ⟨D, hD⟩ : ∃ D, de BL = D := ⟨_, rfl⟩
  rw [hD] at HD ⊢
  obtain ⟨PL, hPL⟩ : ∃ PL, BL.take 6 = PL := ⟨_, rfl⟩
  have HPL : Hid (PL.length = 6) := by rw [← hPL]; show _ = _; rw [List.length_take, LBL.out]; rfl
  clear hb LL DC B7 hD
  generalize dm BL = m at *
  obtain ⟨mk', mu, mq, mt, mg, ms, mi⟩ := m
  simp only at V7 HD ⊢
  unfold mv
  unfold mv at V7
  rw [hPL] at HD
  go_upto_if 66 with fail
  have W8o : Hid (∀ W8, w7.alloc (.cells #[.int .i64 mk', .int .i64 mu, .int .i64 mq, .string mt, .string mg, .slice a n c, .slice a2 n2 c2] 38) = W8 → Ow w W8 p g [⟨3, kk, 0⟩] ∧ BytesAt W8 gb BL ∧ MlV W8 (.agg #[.int .i64 mk', .int .i64 mu, .int .i64 mq, .string mt, .string mg, .slice a n c, .slice a2 n2 c2]) ⟨mk', mu, mq, mt, mg, ms, mi⟩ ∧ Sev W8 w7.heap.size mk' mu mq mt mg a n c a2 n2 c2 ∧ w7.heap.size < W8.heap.size) := fun W8 e => by
    subst e
    have hb := (Below.refl w7.heap.size w7).alloc (Nat.le_refl _) (.cells #[.int .i64 mk', .int .i64 mu, .int .i64 mq, .string mt, .string mg, .slice a n c, .slice a2 n2 c2] 38)
    exact ⟨O7.out.later hb, Y7.out.later hb, Mai.MlV.later V7.out hb, ⟨by simp [go_sem], by simp [go_sem], by simp [go_sem], by simp [go_sem], by simp [go_sem], by simp [go_sem], by simp [go_sem]⟩, by simp⟩
  obtain ⟨W8, hW8⟩ : ∃ W8, w7.alloc (.cells #[.int .i64 mk', .int .i64 mu, .int .i64 mq, .string mt, .string mg, .slice a n c, .slice a2 n2 c2] 38) = W8 := ⟨_, rfl⟩
  have X8 : Hid _ := W8o.out W8 hW8
  have NEg : Hid (w7.heap.size ≠ g) := by
    have lg := World.block_lt_of_cell? _ _ (O7.out.a.s 0 (by simp)).1
    simp only at lg
    show _ ≠ _
    omega
  rw [hW8]
  clear hW8 W8o O7 Y7 V7
  generalize w7.heap.size = M at *
  go_cut [13] (fun s13 wx => ∃ q, Hid (Ow w wx p g [⟨3, kk, q⟩]))
  case first =>
    rcases HD.out with ⟨rfl, hg32, htg⟩ | rfl
    · have G32 : Hid (mg.size = 32 ∧ tgT kk (PL ++ zr 32) = tgM kk ⟨mk', mu, mq, mt, mg, ms, mi⟩) := ⟨hg32, htg⟩
      clear HD hg32 htg
      obtain ⟨r1, c1, W9, hr1, own1, b1⟩ := cut_bytes W8 60 gb cap 6 BL X8.out.2.1 (by rw [LBL.out]; omega) (by omega) (by omega)
      rw [hPL] at own1
      obtain ⟨r2, c2', W10, hr2, Y10, hle, b2⟩ := app_zeros W9 60 W8.heap.size r1 c1 6 32 PL HPL.out (by omega) (by omega) own1 b1.size (by omega)
      have B10 : Below W8.heap.size W8 W10 := b1.trans b2
      have S10 := Sev.apart (F := fun _ => False) X8.out.2.2.2.1 (Bf.of B10) (fun x => x)
      have X10 : Hid (Ow w W10 p g [⟨3, kk, 0⟩] ∧ BytesAt W10 r2 (PL ++ zr 32) ∧ MlV W10 (.agg #[.int .i64 mk', .int .i64 mu, .int .i64 mq, .string mt, .string mg, .slice a n c, .slice a2 n2 c2]) ⟨mk', mu, mq, mt, mg, ms, mi⟩ ∧ Sev W10 M mk' mu mq mt mg a n c a2 n2 c2 ∧ r2 ≠ g) := by
        refine ⟨X8.out.1.later B10, Y10, Mai.MlV.later X8.out.2.2.1 B10, S10, ?_⟩
        have lg := World.block_lt_of_cell? _ _ (X8.out.1.a.s 0 (by simp)).1
        simp only at lg
        omega
      have hr2' : (Builtin.append_ #[60, 3] 60 #[.slice (some ⟨r1, 0, none⟩) 6 c1, .int .i64 32]).run Tryd.prog W9 = .ok (.slice (some ⟨r2, 0, none⟩) 38 c2') W10 := hr2
      have AQ : Hid _ := admitQ w W10 p g 0 ⟨mk', mu, mq, mt, mg, ms, mi⟩ _ (by show mg.size ≤ _; rw [G32.out.1]; omega) X10.out.1 X10.out.2.2.1
      obtain ⟨s0, s1, s2, s3, s4, s5, s6⟩ := S10
      have HPL2 : Hid (PL.length = 6) := HPL
      clear own1 b1 b2 hle Y10 B10 hr2 hPL HPL X8 LBL
      go_wp2_with (first | (revert hr1; intro hr1; at_builtin; refine Go.Lib.wpList_append_run _ rfl _ _ _ _ rfl _ _ rfl rfl _ _ hr1 ?_; clear hr1) | (at_builtin; refine Go.Lib.wpList_append_run _ rfl _ _ _ _ rfl _ _ rfl rfl _ _ hr2' ?_; clear hr2'))
      refine Calls.mono AQ.out ?_
      rintro e w11 ⟨rfl, ⟨q1, h11⟩, b11⟩
      have O11 : Hid (Ow w w11 p g [⟨3, kk, q1⟩]) := h11
      have X11 : Hid (BytesAt w11 r2 (PL ++ zr 32) ∧ w11.cell? ⟨M, 4, none⟩ = some (.string mg)) := by
        refine ⟨fun j hj => ?_, b11.cell X10.out.2.2.2.1.2.2.2.2.1 NEg.out⟩
        obtain ⟨y1, y2⟩ := X10.out.2.1 j hj
        exact ⟨b11.cell y1 X10.out.2.2.2.2, (World.frozen?_of_block (a := ⟨r2, j, none⟩) (b11.block r2 (World.block_lt_of_cell? _ _ y1) X10.out.2.2.2.2)).trans y2⟩
      clear h11 b11 AQ X10 s0 s1 s2 s3 s4 s5 s6
      go_wp2_with fail
      obtain ⟨Z, hZ⟩ : ∃ Z, w11.drew = Z := ⟨_, rfl⟩
      have OZ : Hid (Ow w Z p g [⟨3, kk, q1⟩]) := by rw [← hZ]; exact O11.out.drew
      have SZ : BytesAt Z r2 (PL ++ zr 32) ∧ Z.cell? ⟨M, 4, none⟩ = some (.string mg) := by rw [← hZ]; exact X11.out
      have HH : Hid (∀ w', Below Z.heap.size Z w' → BytesAt w' r2 (PL ++ zr 32) ∧ w'.cell? ⟨M, 4, none⟩ = some (.string mg)) := fun w' hb => ⟨SZ.1.later hb, cell_later hb SZ.2⟩
      have KZ : Hid (Kh Z) := OZ.out.k
      have YY : (mg.toList == mg.toList) = true := by simp
      clear O11 X11
      by_cases hE : adE [⟨3, kk, 0⟩] ⟨mk', mu, mq, mt, mg, ms, mi⟩ = 0
      · have etag : tgT kk (PL ++ zr 32) = mg := G32.out.2.trans (ad_tag hE).symm
        rw [hE]
        have lPZ : (PL ++ zr 32).length = 38 := by rw [List.length_append, HPL2.out]; simp
        have CVB : Hid (∀ w', BytesAt w' r2 (PL ++ zr 32) → (convert 60 9 (.slice (some ⟨r2, 0, none⟩) 38 c2')).run Tryd.prog w' = .ok (.string ⟨(PL ++ zr 32).toArray⟩) w') := fun w' h => h.string lPZ
        have zPB : (⟨(PL ++ zr 32).toArray⟩ : ByteArray).size = 38 := by show (PL ++ zr 32).toArray.size = 38; rw [List.size_toArray]; exact lPZ
        have TG0 : ∀ (B : Nat) (w2 : World), Kh w2 → w2.cell? ⟨B, 0, none⟩ = some (.string ⟨#[103, 97, 116, 101]⟩) → w2.cell? ⟨B, 1, none⟩ = some (.string ⟨(PL ++ zr 32).toArray⟩) → Calls Tryd.prog 25 #[.string ⟨#[116, 104, 105, 114, 116, 121, 45, 116, 119, 111, 32, 98, 121, 116, 101, 115, 32, 97, 114, 101, 32, 106, 117, 115, 116, 32, 97, 32, 107, 101, 121, 46]⟩, .slice (some ⟨B, 0, none⟩) 2 2] w2 fun e w' => e = .returned (.string mg) ∧ Below w2.heap.size w2 w' := fun B w2 h h0 h1 => by
          have q := tag_c kk (some ⟨B, 0, none⟩) [⟨#[103, 97, 116, 101]⟩, ⟨(PL ++ zr 32).toArray⟩] 2 2 w2 rfl (by show _ ≤ _; decide) (by show kk.size ≤ _; rw [kk_size]; decide) (fun s hs => by
            rcases List.mem_cons.1 hs with rfl | hs
            · decide
            · rcases List.mem_cons.1 hs with rfl | hs
              · rw [zPB]; decide
              · cases hs) h (strAt2 h0 h1)
          rw [jnd_two] at q
          have e2 : (⟨(hmac kk.data.toList ((⟨#[103, 97, 116, 101]⟩ : ByteArray).data.toList ++ (⟨(PL ++ zr 32).toArray⟩ : ByteArray).data.toList)).toArray⟩ : ByteArray) = mg := etag
          rw [e2] at q
          exact q
        obtain ⟨PB, hPB⟩ : ∃ PB : ByteArray, ⟨(PL ++ zr 32).toArray⟩ = PB := ⟨_, rfl⟩
        rw [hPB] at CVB TG0
        have TG : Hid _ := TG0
        clear TG0 hPB zPB lPZ etag hE G32
        generalize PL ++ zr 32 = PZ at *
        refine wp_region_noPanic ?_
        refine wp_region_held_drew (S := fun w' => BytesAt w' r2 PZ ∧ w'.cell? ⟨M, 4, none⟩ = some (.string mg)) (by kernel_rfl) (by rw [hZ]; exact SZ) (fun hHeld => ?_)
        rw [hZ] at hHeld
        rw [hZ]
        clear hZ
        refine wpAnyH_take (i := 0) (oi := opgt0) (v := ?_) rfl (by kernel_rfl) (by kernel_rfl) (by kernel_rfl) (fun _ _ _ h => h) (Or.inl ⟨by rfl, ?_⟩) (by assumption) ?_
        rotate_left
        · intro w' hSw
          clear hSw
          unfold opgt0
          first
          | (go_simp; done)
          | (go_simp; with_reducible rfl)
        simp only [opgt0, Act.put, List.setIfInBounds_toArray, List.set_cons_zero, List.set_cons_succ]
        refine wpAnyH_take (i := 1) (oi := opgt1) (v := ?_) rfl (by kernel_rfl) (by kernel_rfl) (by kernel_rfl) (fun _ _ _ h => h) (Or.inl ⟨by rfl, ?_⟩) (by assumption) ?_
        rotate_left
        · intro w' hSw
          clear hSw
          unfold opgt1
          first
          | (go_simp; done)
          | (go_simp; with_reducible rfl)
        simp only [opgt1, Act.put, List.setIfInBounds_toArray, List.set_cons_zero, List.set_cons_succ]
        refine wpAnyH_take (i := 2) (oi := opgt2) (v := ?_) rfl (by kernel_rfl) (by kernel_rfl) (by kernel_rfl) (fun _ _ _ h => h) (Or.inl ⟨by rfl, ?_⟩) (by assumption) ?_
        rotate_left
        · intro w' hSw
          clear hSw
          unfold opgt2
          first
          | (go_simp; done)
          | (go_simp; with_reducible rfl)
        simp only [opgt2, Act.put, List.setIfInBounds_toArray, List.set_cons_zero, List.set_cons_succ]
        refine wpAnyH_take (i := 3) (oi := opgt3) (v := ?_) rfl (by kernel_rfl) (by kernel_rfl) (by kernel_rfl) (fun _ _ _ h => h) (Or.inl ⟨by rfl, ?_⟩) (by assumption) ?_
        rotate_left
        · intro w' hSw
          clear hSw
          unfold opgt3
          first
          | (go_simp; done)
          | (go_simp; with_reducible rfl)
        simp only [opgt3, Act.put, List.setIfInBounds_toArray, List.set_cons_zero, List.set_cons_succ]
        refine wpAnyH_take (i := 4) (oi := opgt4) (v := ?_) rfl (by kernel_rfl) (by kernel_rfl) (by kernel_rfl) (fun _ _ _ h => h) (Or.inl ⟨by rfl, ?_⟩) (by assumption) ?_
        rotate_left
        · intro w' hSw
          have cvt := CVB.out w' hSw.1; clear hSw
          unfold opgt4
          first
          | (go_simp; done)
          | (go_simp; with_reducible rfl)
        simp only [opgt4, Act.put, List.setIfInBounds_toArray, List.set_cons_zero, List.set_cons_succ]
        refine wpAnyH_take (i := 7) (oi := opgt7) (v := ?_) rfl (by kernel_rfl) (by kernel_rfl) (by kernel_rfl) (fun _ _ _ h => h) (Or.inl ⟨by rfl, ?_⟩) (by assumption) ?_
        rotate_left
        · intro w' hSw
          clear hSw
          unfold opgt7
          first
          | (go_simp; done)
          | (go_simp; with_reducible rfl)
        simp only [opgt7, Act.put, List.setIfInBounds_toArray, List.set_cons_zero, List.set_cons_succ]
        refine wpAnyH_take (i := 8) (oi := opgt8) (v := ?_) rfl (by kernel_rfl) (by kernel_rfl) (by kernel_rfl) (fun _ _ _ h => h) (Or.inl ⟨by rfl, ?_⟩) (by assumption) ?_
        rotate_left
        · intro w' hSw
          have lc := hSw.2; clear hSw
          unfold opgt8
          first
          | (go_simp; done)
          | (go_simp; with_reducible rfl)
        simp only [opgt8, Act.put, List.setIfInBounds_toArray, List.set_cons_zero, List.set_cons_succ]
        refine wpAnyH_ready (rs := [5]) (by kernel_rfl) (by simp) ?_
        refine AllReadyH.cons (o := opgt5) rfl (fun KK hKK => ?_) AllReadyH.nil
        unfold opgt5
        go_simp
        refine hKK.out _ _ (HH.out _ ((Below.refl _ _).alloc (Nat.le_refl _) _)) (fun hH5 => ?_)
        clear hKK KK
        try simp only [opgt5, Act.put, List.setIfInBounds_toArray, List.set_cons_zero, List.set_cons_succ]
        refine wpAnyH_ready (rs := [6]) (by kernel_rfl) (by simp) ?_
        refine AllReadyH.cons (o := opgt6) rfl (fun KK hKK => ?_) AllReadyH.nil
        unfold opgt6
        go_simp
        refine Calls.mono (TG.out _ _ (KZ.out.alloc _) (by simp [go_sem]) (by simp [go_sem])) ?_
        rintro e w8 ⟨rfl, hb⟩
        have B8 : Hid (Below Z.heap.size Z w8) := chain ((Below.refl _ _).alloc (Nat.le_refl _) _) hb
        clear hb
        refine hKK.out _ _ (HH.out _ B8.out) (fun hH6 => ?_)
        clear hKK KK
        try simp only [opgt6, Act.put, List.setIfInBounds_toArray, List.set_cons_zero, List.set_cons_succ]
        refine wpAnyH_take (i := 9) (oi := opgt9) (v := ?_) rfl (by kernel_rfl) (by kernel_rfl) (by kernel_rfl) (fun _ _ _ h => h) (Or.inl ⟨by rfl, ?_⟩) (by assumption) ?_
        rotate_left
        · intro w' hSw
          clear hSw
          unfold opgt9
          first
          | (go_simp; done)
          | (go_simp; with_reducible rfl)
        simp only [opgt9, Act.put, List.setIfInBounds_toArray, List.set_cons_zero, List.set_cons_succ]
        refine wpAnyH_take (i := 10) (oi := opgt10) (v := ?_) rfl (by kernel_rfl) (by kernel_rfl) (by kernel_rfl) (fun _ _ _ h => h) (Or.inl ⟨by rfl, ?_⟩) (by assumption) ?_
        rotate_left
        · intro w' hSw
          clear hSw
          unfold opgt10
          first
          | (go_simp; done)
          | (go_simp; with_reducible rfl)
        simp only [opgt10, Act.put, List.setIfInBounds_toArray, List.set_cons_zero, List.set_cons_succ]
        refine wpAnyH_done (by kernel_rfl) ?_ _
        refine NoPanic.normal ?_
        clear TG HH KZ CVB SZ
        go_wp2
        go_meet
        case rel => exact ⟨q1, OZ.out.later B8.out⟩
      · obtain ⟨E, hE2⟩ : ∃ E, adE [⟨3, kk, 0⟩] ⟨mk', mu, mq, mt, mg, ms, mi⟩ = E := ⟨_, rfl⟩
        rw [hE2] at hE ⊢
        clear hE2 G32
        generalize PL ++ zr 32 = PZ at *
        refine wp_region_noPanic ?_
        refine wp_region_held_drew (S := fun w' => BytesAt w' r2 PZ ∧ w'.cell? ⟨M, 4, none⟩ = some (.string mg)) (by kernel_rfl) (by rw [hZ]; exact SZ) (fun hHeld => ?_)
        rw [hZ] at hHeld
        rw [hZ]
        clear hZ
        refine wpAnyH_take (i := 0) (oi := opgt0) (v := ?_) rfl (by kernel_rfl) (by kernel_rfl) (by kernel_rfl) (fun _ _ _ h => h) (Or.inl ⟨by rfl, ?_⟩) (by assumption) ?_
        rotate_left
        · intro w' hSw
          clear hSw
          unfold opgt0
          first
          | (go_simp; done)
          | (go_simp; with_reducible rfl)
        simp only [opgt0, Act.put, List.setIfInBounds_toArray, List.set_cons_zero, List.set_cons_succ]
        refine wpAnyH_take (i := 1) (oi := opgt1) (v := (.bool false)) rfl (by kernel_rfl) (by kernel_rfl) (by kernel_rfl) (fun _ _ _ h => h) (Or.inl ⟨by rfl, ?_⟩) (by assumption) ?_
        · intro w' hSw
          have hEd := decide_eq_false hE; clear hSw
          unfold opgt1
          first
          | (go_simp; done)
          | (go_simp; with_reducible rfl)
        simp only [opgt1, Act.put, List.setIfInBounds_toArray, List.set_cons_zero, List.set_cons_succ]
        refine wpAnyH_take (i := 2) (oi := opgt2) (v := ?_) rfl (by kernel_rfl) (by kernel_rfl) (by kernel_rfl) (fun _ _ _ h => h) (Or.inl ⟨by rfl, ?_⟩) (by assumption) ?_
        rotate_left
        · intro w' hSw
          clear hSw
          unfold opgt2
          first
          | (go_simp; done)
          | (go_simp; with_reducible rfl)
        simp only [opgt2, Act.put, List.setIfInBounds_toArray, List.set_cons_zero, List.set_cons_succ]
        refine wpAnyH_take (i := 3) (oi := opgt3) (v := undef) rfl (by kernel_rfl) (by kernel_rfl) (by kernel_rfl) (fun _ _ _ h => h) (Or.inr ⟨by rfl, rfl⟩) (by assumption) ?_
        simp only [opgt3, Act.put, List.setIfInBounds_toArray, List.set_cons_zero, List.set_cons_succ]
        refine wpAnyH_take (i := 4) (oi := opgt4) (v := undef) rfl (by kernel_rfl) (by kernel_rfl) (by kernel_rfl) (fun _ _ _ h => h) (Or.inr ⟨by rfl, rfl⟩) (by assumption) ?_
        simp only [opgt4, Act.put, List.setIfInBounds_toArray, List.set_cons_zero, List.set_cons_succ]
        refine wpAnyH_take (i := 5) (oi := opgt5) (v := undef) rfl (by kernel_rfl) (by kernel_rfl) (by kernel_rfl) (fun _ _ _ h => h) (Or.inr ⟨by rfl, rfl⟩) (by assumption) ?_
        simp only [opgt5, Act.put, List.setIfInBounds_toArray, List.set_cons_zero, List.set_cons_succ]
        refine wpAnyH_take (i := 6) (oi := opgt6) (v := undef) rfl (by kernel_rfl) (by kernel_rfl) (by kernel_rfl) (fun _ _ _ h => h) (Or.inr ⟨by rfl, rfl⟩) (by assumption) ?_
        simp only [opgt6, Act.put, List.setIfInBounds_toArray, List.set_cons_zero, List.set_cons_succ]
        refine wpAnyH_take (i := 7) (oi := opgt7) (v := undef) rfl (by kernel_rfl) (by kernel_rfl) (by kernel_rfl) (fun _ _ _ h => h) (Or.inr ⟨by rfl, rfl⟩) (by assumption) ?_
        simp only [opgt7, Act.put, List.setIfInBounds_toArray, List.set_cons_zero, List.set_cons_succ]
        refine wpAnyH_take (i := 8) (oi := opgt8) (v := undef) rfl (by kernel_rfl) (by kernel_rfl) (by kernel_rfl) (fun _ _ _ h => h) (Or.inr ⟨by rfl, rfl⟩) (by assumption) ?_
        simp only [opgt8, Act.put, List.setIfInBounds_toArray, List.set_cons_zero, List.set_cons_succ]
        refine wpAnyH_take (i := 9) (oi := opgt9) (v := undef) rfl (by kernel_rfl) (by kernel_rfl) (by kernel_rfl) (fun _ _ _ h => h) (Or.inr ⟨by rfl, rfl⟩) (by assumption) ?_
        simp only [opgt9, Act.put, List.setIfInBounds_toArray, List.set_cons_zero, List.set_cons_succ]
        refine wpAnyH_take (i := 10) (oi := opgt10) (v := ?_) rfl (by kernel_rfl) (by kernel_rfl) (by kernel_rfl) (fun _ _ _ h => h) (Or.inl ⟨by rfl, ?_⟩) (by assumption) ?_
        rotate_left
        · intro w' hSw
          clear hSw
          unfold opgt10
          first
          | (go_simp; done)
          | (go_simp; with_reducible rfl)
        simp only [opgt10, Act.put, List.setIfInBounds_toArray, List.set_cons_zero, List.set_cons_succ]
        refine wpAnyH_done (by kernel_rfl) ?_ _
        refine NoPanic.normal ?_
        clear HH KZ SZ
        go_wp2
        go_meet
        case rel => exact ⟨q1, OZ.out⟩
    · clear HD
      go_wp2
      go_meet
      case rel => exact ⟨0, X8.out.1⟩
  case rest =>
  obtain ⟨q, O⟩ := hcut
  clear X8 HD NEg HPL hPL LBL CVT HCAP hc6 hcapm
  go_upto_region 18 with fail
  go_cut [93] (fun s93 wx => ∃ d : Bool, s93 = .bool d ∧ Hid (d = true → other.size = 32) ∧ wc = wx)
  case first =>
    by_cases h32 : other.size = 32
    · have g32 : (other.size : Int) = 32 := by omega
      by_cases hk : other = ⟨#[116, 104, 105, 114, 116, 121, 45, 116, 119, 111, 32, 98, 121, 116, 101, 115, 32, 97, 114, 101, 32, 106, 117, 115, 116, 32, 97, 32, 107, 101, 121, 46]⟩
      · subst hk
        go_wp2
        go_meet
        case rel => exact ⟨_, rfl, fun _ => rfl, rfl⟩
      · have z : (other.toList == (⟨#[116, 104, 105, 114, 116, 121, 45, 116, 119, 111, 32, 98, 121, 116, 101, 115, 32, 97, 114, 101, 32, 106, 117, 115, 116, 32, 97, 32, 107, 101, 121, 46]⟩ : ByteArray).toList) = false := by rw [same_dec, decide_eq_false hk]
        go_wp2
        go_meet
        case rel => exact ⟨_, rfl, fun _ => h32, rfl⟩
    · have g32 : ¬ (other.size : Int) = 32 := by omega
      go_wp2
      go_meet
      case rel => exact ⟨false, rfl, fun e => (by cases e), rfl⟩
  case rest =>
  obtain ⟨d, rfl, HO, hwx⟩ := hcut
  subst hwx
  go_upto_if 93 with fail
  go_cut [15] (fun s15 wx => ∃ q, Hid (Ow w wx p g [⟨3, kk, q⟩]))
  case first =>
    cases d with
    | false =>
      go_wp2
      go_meet
      case rel => exact ⟨q, O⟩
    | true =>
      go_wp2_with fail
      refine Calls.mono (PO.out _ (HO.out trivial) O.out.k) ?_
      rintro e w12 ⟨v12, rfl, ⟨a3, n3, c3, a4, n4, c4, rfl, LL⟩, hb⟩
      have O12 : Hid (Ow w w12 p g [⟨3, kk, q⟩]) := O.out.later hb
      have V12 : Hid (MlV w12 (mv (pl other 3 9).k (pl other 3 9).u (pl other 3 9).q (pl other 3 9).t (pl other 3 9).g a3 n3 c3 a4 n4 c4) (pl other 3 9)) := ⟨a3, n3, c3, a4, n4, c4, rfl, LL⟩
      have HG : Hid ((pl other 3 9).g.size = 32 ∧ (∀ q, adE [⟨3, kk, q⟩] (pl other 3 9) = 0 → (pl kk 3 9).g = (pl other 3 9).g)) := ⟨tgM_size _ _, fun q h => (ad_tag h).symm⟩
      clear hb LL PO HO
      generalize pl other 3 9 = m at *
      obtain ⟨fk, fu, fq, ft, fg, fs, fi⟩ := m
      simp only at V12 HG ⊢
      unfold mv
      unfold mv at V12
      go_wp2_with fail
      obtain ⟨W, hW⟩ : ∃ W, w12.alloc (.cells #[.int .i64 fk, .int .i64 fu, .int .i64 fq, .string ft, .string fg, .slice a3 n3 c3, .slice a4 n4 c4] 38) = W := ⟨_, rfl⟩
      have bW := (Below.refl w12.heap.size w12).alloc (Nat.le_refl _) (.cells #[.int .i64 fk, .int .i64 fu, .int .i64 fq, .string ft, .string fg, .slice a3 n3 c3, .slice a4 n4 c4] 38)
      have S0 : W.cell? ⟨w12.heap.size, 0, none⟩ = some (.int .i64 fk) ∧ W.cell? ⟨w12.heap.size, 1, none⟩ = some (.int .i64 fu) ∧ W.cell? ⟨w12.heap.size, 2, none⟩ = some (.int .i64 fq) ∧ W.cell? ⟨w12.heap.size, 3, none⟩ = some (.string ft) ∧ W.cell? ⟨w12.heap.size, 4, none⟩ = some (.string fg) ∧ W.cell? ⟨w12.heap.size, 5, none⟩ = some (.slice a3 n3 c3) ∧ W.cell? ⟨w12.heap.size, 6, none⟩ = some (.slice a4 n4 c4) := by rw [← hW]; exact ⟨by simp [go_sem], by simp [go_sem], by simp [go_sem], by simp [go_sem], by simp [go_sem], by simp [go_sem], by simp [go_sem]⟩
      rw [hW] at bW ⊢
      have NE2 : Hid (¬ w12.heap.size = g) := by
        have lg := World.block_lt_of_cell? _ _ (O12.out.a.s 0 (by simp)).1
        simp only at lg
        show ¬ _
        omega
      obtain ⟨Z, hZ⟩ : ∃ Z, W.drew = Z := ⟨_, rfl⟩
      have OZ : Hid (Ow w Z p g [⟨3, kk, q⟩]) := by rw [← hZ]; exact (O12.out.later bW).drew
      have SZ : Z.cell? ⟨w12.heap.size, 0, none⟩ = some (.int .i64 fk) ∧ Z.cell? ⟨w12.heap.size, 1, none⟩ = some (.int .i64 fu) ∧ Z.cell? ⟨w12.heap.size, 2, none⟩ = some (.int .i64 fq) ∧ Z.cell? ⟨w12.heap.size, 3, none⟩ = some (.string ft) ∧ Z.cell? ⟨w12.heap.size, 4, none⟩ = some (.string fg) ∧ Z.cell? ⟨w12.heap.size, 5, none⟩ = some (.slice a3 n3 c3) ∧ Z.cell? ⟨w12.heap.size, 6, none⟩ = some (.slice a4 n4 c4) := by rw [← hZ]; exact S0
      have AQ : Hid _ := admitQ w Z p g q ⟨fk, fu, fq, ft, fg, fs, fi⟩ (.agg #[.int .i64 fk, .int .i64 fu, .int .i64 fq, .string ft, .string fg, .slice a3 n3 c3, .slice a4 n4 c4]) (by show fg.size ≤ _; rw [HG.out.1]; omega) OZ.out (by rw [← hZ]; exact Mai.MlV.later V12.out (bW.trans (Below.drew (Below.refl _ _))))
      have YY : (fg.toList == fg.toList) = true := by simp
      clear hW bW S0 V12 O12 OZ
      generalize w12.heap.size = M2 at *
      by_cases hE : adE [⟨3, kk, q⟩] ⟨fk, fu, fq, ft, fg, fs, fi⟩ = 0
      · have GEQ := HG.out.2 q hE
        rw [hE] at AQ
        have PK : Hid (∀ w2, Kh w2 → Calls Tryd.prog 22 #[.string ⟨#[116, 104, 105, 114, 116, 121, 45, 116, 119, 111, 32, 98, 121, 116, 101, 115, 32, 97, 114, 101, 32, 106, 117, 115, 116, 32, 97, 32, 107, 101, 121, 46]⟩, .int .i64 9] w2 fun e w' => ∃ k u q t a n c a2 n2 c2, e = .returned (.agg #[.int .i64 k, .int .i64 u, .int .i64 q, .string t, .string fg, .slice a n c, .slice a2 n2 c2]) ∧ Below w2.heap.size w2 w') := fun w2 hk => by
          refine Calls.mono (PU.out 9 w2 (by decide) (by decide) hk) ?_
          rintro e w' ⟨v, rfl, ⟨a, n, c, a2, n2, c2, rfl, -⟩, hb⟩
          rw [GEQ]
          exact ⟨_, _, _, _, a, n, c, a2, n2, c2, rfl, hb⟩
        clear GEQ hE HG
        refine wp_region_noPanic ?_
        refine wp_region_held_drew (S := fun w' => w'.cell? ⟨M2, 0, none⟩ = some (.int .i64 fk) ∧ w'.cell? ⟨M2, 1, none⟩ = some (.int .i64 fu) ∧ w'.cell? ⟨M2, 2, none⟩ = some (.int .i64 fq) ∧ w'.cell? ⟨M2, 3, none⟩ = some (.string ft) ∧ w'.cell? ⟨M2, 4, none⟩ = some (.string fg) ∧ w'.cell? ⟨M2, 5, none⟩ = some (.slice a3 n3 c3) ∧ w'.cell? ⟨M2, 6, none⟩ = some (.slice a4 n4 c4)) (by kernel_rfl) (by rw [hZ]; exact SZ) (fun hHeld => ?_)
        rw [hZ] at hHeld
        rw [hZ]
        clear hZ
        refine wpAnyH_take (i := 0) (oi := opgu0) (v := ?_) rfl (by kernel_rfl) (by kernel_rfl) (by kernel_rfl) (fun _ _ _ h => h) (Or.inl ⟨by rfl, ?_⟩) (by assumption) ?_
        rotate_left
        · intro w' hSw
          clear hSw
          unfold opgu0
          first
          | (go_simp; done)
          | (go_simp; with_reducible rfl)
        simp only [opgu0, Act.put, List.setIfInBounds_toArray, List.set_cons_zero, List.set_cons_succ]
        refine wpAnyH_take (i := 1) (oi := opgu1) (v := ?_) rfl (by kernel_rfl) (by kernel_rfl) (by kernel_rfl) (fun _ _ _ h => h) (Or.inl ⟨by rfl, ?_⟩) (by assumption) ?_
        rotate_left
        · intro w' hSw
          obtain ⟨l0, l1, l2, l3, l4, l5, l6⟩ := hSw
          unfold opgu1
          first
          | (go_simp; done)
          | (go_simp; with_reducible rfl)
        simp only [opgu1, Act.put, List.setIfInBounds_toArray, List.set_cons_zero, List.set_cons_succ]
        refine wpAnyH_ready (rs := [2]) (by kernel_rfl) (by simp) ?_
        refine AllReadyH.cons (o := opgu2) rfl (fun KK hKK => ?_) AllReadyH.nil
        unfold opgu2
        go_simp
        refine Calls.mono AQ.out ?_
        rintro e w13 ⟨rfl, ⟨q1, h13⟩, b13⟩
        have O13 : Hid (Ow w w13 p g [⟨3, kk, q1⟩]) := h13
        have S13 : w13.cell? ⟨M2, 0, none⟩ = some (.int .i64 fk) ∧ w13.cell? ⟨M2, 1, none⟩ = some (.int .i64 fu) ∧ w13.cell? ⟨M2, 2, none⟩ = some (.int .i64 fq) ∧ w13.cell? ⟨M2, 3, none⟩ = some (.string ft) ∧ w13.cell? ⟨M2, 4, none⟩ = some (.string fg) ∧ w13.cell? ⟨M2, 5, none⟩ = some (.slice a3 n3 c3) ∧ w13.cell? ⟨M2, 6, none⟩ = some (.slice a4 n4 c4) := Sev.apart SZ b13 NE2.out
        clear h13 b13
        refine hKK.out _ _ S13 (fun hH2 => ?_)
        clear hKK KK
        try simp only [opgu2, Act.put, List.setIfInBounds_toArray, List.set_cons_zero, List.set_cons_succ]
        refine wpAnyH_take (i := 3) (oi := opgu3) (v := ?_) rfl (by kernel_rfl) (by kernel_rfl) (by kernel_rfl) (fun _ _ _ h => h) (Or.inl ⟨by rfl, ?_⟩) (by assumption) ?_
        rotate_left
        · intro w' hSw
          clear hSw
          unfold opgu3
          first
          | (go_simp; done)
          | (go_simp; with_reducible rfl)
        simp only [opgu3, Act.put, List.setIfInBounds_toArray, List.set_cons_zero, List.set_cons_succ]
        refine wpAnyH_take (i := 4) (oi := opgu4) (v := ?_) rfl (by kernel_rfl) (by kernel_rfl) (by kernel_rfl) (fun _ _ _ h => h) (Or.inl ⟨by rfl, ?_⟩) (by assumption) ?_
        rotate_left
        · intro w' hSw
          clear hSw
          unfold opgu4
          first
          | (go_simp; done)
          | (go_simp; with_reducible rfl)
        simp only [opgu4, Act.put, List.setIfInBounds_toArray, List.set_cons_zero, List.set_cons_succ]
        refine wpAnyH_take (i := 7) (oi := opgu7) (v := ?_) rfl (by kernel_rfl) (by kernel_rfl) (by kernel_rfl) (fun _ _ _ h => h) (Or.inl ⟨by rfl, ?_⟩) (by assumption) ?_
        rotate_left
        · intro w' hSw
          clear hSw
          unfold opgu7
          first
          | (go_simp; done)
          | (go_simp; with_reducible rfl)
        simp only [opgu7, Act.put, List.setIfInBounds_toArray, List.set_cons_zero, List.set_cons_succ]
        refine wpAnyH_take (i := 8) (oi := opgu8) (v := ?_) rfl (by kernel_rfl) (by kernel_rfl) (by kernel_rfl) (fun _ _ _ h => h) (Or.inl ⟨by rfl, ?_⟩) (by assumption) ?_
        rotate_left
        · intro w' hSw
          obtain ⟨l0, l1, l2, l3, l4, l5, l6⟩ := hSw
          unfold opgu8
          first
          | (go_simp; done)
          | (go_simp; with_reducible rfl)
        simp only [opgu8, Act.put, List.setIfInBounds_toArray, List.set_cons_zero, List.set_cons_succ]
        refine wpAnyH_ready (rs := [5]) (by kernel_rfl) (by simp) ?_
        refine AllReadyH.cons (o := opgu5) rfl (fun KK hKK => ?_) AllReadyH.nil
        unfold opgu5
        go_simp
        refine Calls.mono (PK.out _ O13.out.k) ?_
        rintro e w14 ⟨hk, hu, hq, ht, ha, hn, hc, ha2, hn2, hc2, rfl, hb⟩
        have O14 : Hid (Ow w w14 p g [⟨3, kk, q1⟩]) := O13.out.later hb
        have S14 : w14.cell? ⟨M2, 0, none⟩ = some (.int .i64 fk) ∧ w14.cell? ⟨M2, 1, none⟩ = some (.int .i64 fu) ∧ w14.cell? ⟨M2, 2, none⟩ = some (.int .i64 fq) ∧ w14.cell? ⟨M2, 3, none⟩ = some (.string ft) ∧ w14.cell? ⟨M2, 4, none⟩ = some (.string fg) ∧ w14.cell? ⟨M2, 5, none⟩ = some (.slice a3 n3 c3) ∧ w14.cell? ⟨M2, 6, none⟩ = some (.slice a4 n4 c4) := Sev.apart (F := fun _ => False) S13 (Bf.of hb) (fun x => x)
        clear hb
        refine hKK.out _ _ S14 (fun hH5 => ?_)
        clear hKK KK
        try simp only [opgu5, Act.put, List.setIfInBounds_toArray, List.set_cons_zero, List.set_cons_succ]
        refine wpAnyH_take (i := 6) (oi := opgu6) (v := ?_) rfl (by kernel_rfl) (by kernel_rfl) (by kernel_rfl) (fun _ _ _ h => h) (Or.inl ⟨by rfl, ?_⟩) (by assumption) ?_
        rotate_left
        · intro w' hSw
          have fl := field_tag hk hu hq ht fg ha hn hc ha2 hn2 hc2 w'; clear hSw
          unfold opgu6
          first
          | (go_simp; done)
          | (go_simp; with_reducible rfl)
        simp only [opgu6, Act.put, List.setIfInBounds_toArray, List.set_cons_zero, List.set_cons_succ]
        refine wpAnyH_take (i := 9) (oi := opgu9) (v := ?_) rfl (by kernel_rfl) (by kernel_rfl) (by kernel_rfl) (fun _ _ _ h => h) (Or.inl ⟨by rfl, ?_⟩) (by assumption) ?_
        rotate_left
        · intro w' hSw
          clear hSw
          unfold opgu9
          first
          | (go_simp; done)
          | (go_simp; with_reducible rfl)
        simp only [opgu9, Act.put, List.setIfInBounds_toArray, List.set_cons_zero, List.set_cons_succ]
        refine wpAnyH_take (i := 10) (oi := opgu10) (v := ?_) rfl (by kernel_rfl) (by kernel_rfl) (by kernel_rfl) (fun _ _ _ h => h) (Or.inl ⟨by rfl, ?_⟩) (by assumption) ?_
        rotate_left
        · intro w' hSw
          clear hSw
          unfold opgu10
          first
          | (go_simp; done)
          | (go_simp; with_reducible rfl)
        simp only [opgu10, Act.put, List.setIfInBounds_toArray, List.set_cons_zero, List.set_cons_succ]
        refine wpAnyH_done (by kernel_rfl) ?_ _
        refine NoPanic.normal ?_
        clear AQ PK S13 S14 SZ
        go_wp2
        go_meet
        case rel => exact ⟨q1, O14⟩
      · obtain ⟨E, hE2⟩ : ∃ E, adE [⟨3, kk, q⟩] ⟨fk, fu, fq, ft, fg, fs, fi⟩ = E := ⟨_, rfl⟩
        rw [hE2] at hE AQ
        clear hE2 HG
        refine wp_region_noPanic ?_
        refine wp_region_held_drew (S := fun w' => w'.cell? ⟨M2, 0, none⟩ = some (.int .i64 fk) ∧ w'.cell? ⟨M2, 1, none⟩ = some (.int .i64 fu) ∧ w'.cell? ⟨M2, 2, none⟩ = some (.int .i64 fq) ∧ w'.cell? ⟨M2, 3, none⟩ = some (.string ft) ∧ w'.cell? ⟨M2, 4, none⟩ = some (.string fg) ∧ w'.cell? ⟨M2, 5, none⟩ = some (.slice a3 n3 c3) ∧ w'.cell? ⟨M2, 6, none⟩ = some (.slice a4 n4 c4)) (by kernel_rfl) (by rw [hZ]; exact SZ) (fun hHeld => ?_)
        rw [hZ] at hHeld
        rw [hZ]
        clear hZ
        refine wpAnyH_take (i := 0) (oi := opgu0) (v := ?_) rfl (by kernel_rfl) (by kernel_rfl) (by kernel_rfl) (fun _ _ _ h => h) (Or.inl ⟨by rfl, ?_⟩) (by assumption) ?_
        rotate_left
        · intro w' hSw
          clear hSw
          unfold opgu0
          first
          | (go_simp; done)
          | (go_simp; with_reducible rfl)
        simp only [opgu0, Act.put, List.setIfInBounds_toArray, List.set_cons_zero, List.set_cons_succ]
        refine wpAnyH_take (i := 1) (oi := opgu1) (v := ?_) rfl (by kernel_rfl) (by kernel_rfl) (by kernel_rfl) (fun _ _ _ h => h) (Or.inl ⟨by rfl, ?_⟩) (by assumption) ?_
        rotate_left
        · intro w' hSw
          obtain ⟨l0, l1, l2, l3, l4, l5, l6⟩ := hSw
          unfold opgu1
          first
          | (go_simp; done)
          | (go_simp; with_reducible rfl)
        simp only [opgu1, Act.put, List.setIfInBounds_toArray, List.set_cons_zero, List.set_cons_succ]
        refine wpAnyH_ready (rs := [2]) (by kernel_rfl) (by simp) ?_
        refine AllReadyH.cons (o := opgu2) rfl (fun KK hKK => ?_) AllReadyH.nil
        unfold opgu2
        go_simp
        refine Calls.mono AQ.out ?_
        rintro e w13 ⟨rfl, ⟨q1, h13⟩, b13⟩
        have O13 : Hid (Ow w w13 p g [⟨3, kk, q1⟩]) := h13
        have S13 : w13.cell? ⟨M2, 0, none⟩ = some (.int .i64 fk) ∧ w13.cell? ⟨M2, 1, none⟩ = some (.int .i64 fu) ∧ w13.cell? ⟨M2, 2, none⟩ = some (.int .i64 fq) ∧ w13.cell? ⟨M2, 3, none⟩ = some (.string ft) ∧ w13.cell? ⟨M2, 4, none⟩ = some (.string fg) ∧ w13.cell? ⟨M2, 5, none⟩ = some (.slice a3 n3 c3) ∧ w13.cell? ⟨M2, 6, none⟩ = some (.slice a4 n4 c4) := Sev.apart SZ b13 NE2.out
        clear h13 b13
        refine hKK.out _ _ S13 (fun hH2 => ?_)
        clear hKK KK
        try simp only [opgu2, Act.put, List.setIfInBounds_toArray, List.set_cons_zero, List.set_cons_succ]
        refine wpAnyH_take (i := 3) (oi := opgu3) (v := (.bool false)) rfl (by kernel_rfl) (by kernel_rfl) (by kernel_rfl) (fun _ _ _ h => h) (Or.inl ⟨by rfl, ?_⟩) (by assumption) ?_
        · intro w' hSw
          have hEd := decide_eq_false hE; clear hSw
          unfold opgu3
          first
          | (go_simp; done)
          | (go_simp; with_reducible rfl)
        simp only [opgu3, Act.put, List.setIfInBounds_toArray, List.set_cons_zero, List.set_cons_succ]
        refine wpAnyH_take (i := 4) (oi := opgu4) (v := ?_) rfl (by kernel_rfl) (by kernel_rfl) (by kernel_rfl) (fun _ _ _ h => h) (Or.inl ⟨by rfl, ?_⟩) (by assumption) ?_
        rotate_left
        · intro w' hSw
          clear hSw
          unfold opgu4
          first
          | (go_simp; done)
          | (go_simp; with_reducible rfl)
        simp only [opgu4, Act.put, List.setIfInBounds_toArray, List.set_cons_zero, List.set_cons_succ]
        refine wpAnyH_take (i := 5) (oi := opgu5) (v := undef) rfl (by kernel_rfl) (by kernel_rfl) (by kernel_rfl) (fun _ _ _ h => h) (Or.inr ⟨by rfl, rfl⟩) (by assumption) ?_
        simp only [opgu5, Act.put, List.setIfInBounds_toArray, List.set_cons_zero, List.set_cons_succ]
        refine wpAnyH_take (i := 6) (oi := opgu6) (v := undef) rfl (by kernel_rfl) (by kernel_rfl) (by kernel_rfl) (fun _ _ _ h => h) (Or.inr ⟨by rfl, rfl⟩) (by assumption) ?_
        simp only [opgu6, Act.put, List.setIfInBounds_toArray, List.set_cons_zero, List.set_cons_succ]
        refine wpAnyH_take (i := 7) (oi := opgu7) (v := undef) rfl (by kernel_rfl) (by kernel_rfl) (by kernel_rfl) (fun _ _ _ h => h) (Or.inr ⟨by rfl, rfl⟩) (by assumption) ?_
        simp only [opgu7, Act.put, List.setIfInBounds_toArray, List.set_cons_zero, List.set_cons_succ]
        refine wpAnyH_take (i := 8) (oi := opgu8) (v := undef) rfl (by kernel_rfl) (by kernel_rfl) (by kernel_rfl) (fun _ _ _ h => h) (Or.inr ⟨by rfl, rfl⟩) (by assumption) ?_
        simp only [opgu8, Act.put, List.setIfInBounds_toArray, List.set_cons_zero, List.set_cons_succ]
        refine wpAnyH_take (i := 9) (oi := opgu9) (v := undef) rfl (by kernel_rfl) (by kernel_rfl) (by kernel_rfl) (fun _ _ _ h => h) (Or.inr ⟨by rfl, rfl⟩) (by assumption) ?_
        simp only [opgu9, Act.put, List.setIfInBounds_toArray, List.set_cons_zero, List.set_cons_succ]
        refine wpAnyH_take (i := 10) (oi := opgu10) (v := ?_) rfl (by kernel_rfl) (by kernel_rfl) (by kernel_rfl) (fun _ _ _ h => h) (Or.inl ⟨by rfl, ?_⟩) (by assumption) ?_
        rotate_left
        · intro w' hSw
          clear hSw
          unfold opgu10
          first
          | (go_simp; done)
          | (go_simp; with_reducible rfl)
        simp only [opgu10, Act.put, List.setIfInBounds_toArray, List.set_cons_zero, List.set_cons_succ]
        refine wpAnyH_done (by kernel_rfl) ?_ _
        refine NoPanic.normal ?_
        clear AQ S13 SZ
        go_wp2
        go_meet
        case rel => exact ⟨q1, O13⟩
  case rest =>
  clear O q
  obtain ⟨q, O⟩ := hcut
  go_wp2_with fail
  refine Calls.mono (PU.out 2147483647 _ (by omega) (by omega) O.out.k) ?_
  rintro e w15 ⟨v15, rfl, hv, hb⟩
  have O15 : Hid (Ow w w15 p g [⟨3, kk, q⟩]) := O.out.later hb
  have AD : Hid _ := admitP w w15 p g q 2147483647 v15 (by omega) (by omega) O15.out hv
  clear hv hb O
  by_cases hq : (2147483647 : Int) ≤ q
  · rw [if_pos hq, if_pos hq] at AD
    clear hq
    go_wp2_with fail
    refine Calls.mono AD.out ?_
    rintro e w16 ⟨rfl, h16, -⟩
    have O16 : Hid (Ow w w16 p g [⟨3, kk, q⟩]) := h16
    clear h16 AD
    go_wp2
    go_ret
    exact ⟨rfl, O16.out.b⟩
  · rw [if_neg hq, if_neg hq] at AD
    clear hq
    go_wp2_with fail
    refine Calls.mono AD.out ?_
    rintro e w16 ⟨rfl, h16, -⟩
    have O16 : Hid (Ow w w16 p g [⟨3, kk, 2147483647⟩]) := h16
    clear h16 AD
    go_wp2
    go_ret
    exact ⟨rfl, O16.out.b⟩
end Go.Proofs.YtbogoheigbiegaaDoor.Gat
namespace Go.Proofs.YtbogoheigbiegaaDoor.Gat
open Go.RowKit Go.Proofs.Fd
set_option maxRecDepth 20000
theorem GateTurned_int (at_ by_ : Int) (hb : 0 ≤ by_ ∧ by_ < 256) (other : ByteArray) (ho : other.size ≤ 140737488351232) (w : World) (K : Hid (Kh w)) :
    Calls Tryd.prog 6 #[.int .i64 at_, .int .u8 by_, .string other] w fun e w' => e = .returned (.bool true) ∧ Below w.heap.size w w' := by
  obtain ⟨y0, rfl⟩ : ∃ y : UInt8, by_ = (y.toNat : Int) := ⟨UInt8.ofNat by_.toNat, by rw [UInt8.toNat_ofNat']; omega⟩
  by_cases h : y0 = 0
  · exact GateTurned_walk at_ y0 1 (.inl ⟨h, rfl⟩) other ho w K
  · exact GateTurned_walk at_ y0 y0 (.inr ⟨h, rfl⟩) other ho w K
end Go.Proofs.YtbogoheigbiegaaDoor.Gat
