/- The program's keyed layer: its contracts hold. -/
import Derived.Test.YtbkefhfbbhdpcaaDoorKB
import Derived.Test.YtbkefhfbbhdpcaaDoorGL
import Derived.Test.YtbkefhfbbhdpcaaDoorHM
import Derived.Lib.AppendZerosOnto
import Derived.Laws.OwnMore
import Derived.Test.YtbkefhfbbhdpcaaDoorGD

/- The program's keyed layer: whether two texts are the same bytes. -/
namespace Go.Proofs.YtbkefhfbbhdpcaaDoor
open Go.RowKit Go.Proofs.Fd

theorem pxor8 (x y : UInt8) : bits BinOp.xor IntKind.u8 (x.toNat : Int) (y.toNat : Int) = ((x ^^^ y).toNat : Int) := by
  have h1 : x.toNat < 2 ^ 8 := x.toNat_lt
  have h2 : y.toNat < 2 ^ 8 := y.toNat_lt
  have h3 : x.toNat ^^^ y.toNat < 2 ^ 8 := Nat.xor_lt_two_pow h1 h2
  rw [UInt8.toNat_xor]
  have e1 : x.toNat % 2 ^ IntKind.u8.bits = x.toNat := Nat.mod_eq_of_lt h1
  have e2 : y.toNat % 2 ^ IntKind.u8.bits = y.toNat := Nat.mod_eq_of_lt h2
  simp only [bits, BitVec.ofInt_natCast, BitVec.toNat_xor, BitVec.toNat_ofNat, e1, e2]
  rw [IntKind.wrap_u8]
  omega
theorem por8 (x y : UInt8) : bits BinOp.or IntKind.u8 (x.toNat : Int) (y.toNat : Int) = ((x ||| y).toNat : Int) := by
  have h1 : x.toNat < 2 ^ 8 := x.toNat_lt
  have h2 : y.toNat < 2 ^ 8 := y.toNat_lt
  have h3 : x.toNat ||| y.toNat < 2 ^ 8 := Nat.or_lt_two_pow h1 h2
  rw [UInt8.toNat_or]
  have e1 : x.toNat % 2 ^ IntKind.u8.bits = x.toNat := Nat.mod_eq_of_lt h1
  have e2 : y.toNat % 2 ^ IntKind.u8.bits = y.toNat := Nat.mod_eq_of_lt h2
  simp only [bits, BitVec.ofInt_natCast, BitVec.toNat_or, BitVec.toNat_ofNat, e1, e2]
  rw [IntKind.wrap_u8]
  omega

/-- What is unlike in the first bytes. -/
def unl (a b : List UInt8) : Nat → UInt8
  | 0 => 0
  | k + 1 => unl a b k ||| (a.getD k 0 ^^^ b.getD k 0)
theorem unl_zero (a b : List UInt8) (k : Nat) : unl a b k = 0 ↔ ∀ j, j < k → a.getD j 0 = b.getD j 0 := by
  induction k with
  | zero => exact ⟨fun _ j h => absurd h (Nat.not_lt_zero _), fun _ => rfl⟩
  | succ k ih =>
    show unl a b k ||| (a.getD k 0 ^^^ b.getD k 0) = 0 ↔ _
    rw [UInt8.or_eq_zero_iff, ih, UInt8.xor_eq_zero_iff]
    constructor
    · rintro ⟨h1, h2⟩ j hj
      rcases Nat.lt_or_ge j k with h | h
      · exact h1 j h
      · obtain rfl : j = k := by omega
        exact h2
    · intro h
      exact ⟨fun j hj => h j (by omega), h k (by omega)⟩
theorem unl_same (a b : ByteArray) (h : a.size = b.size) : (unl a.data.toList b.data.toList a.size = 0) ↔ a.toList = b.toList := by
  rw [unl_zero, ByteArray.toList_eq, ByteArray.toList_eq]
  have h1 : a.data.toList.length = a.size := by simp
  have h2 : b.data.toList.length = b.size := by simp
  constructor
  · intro g
    apply List.ext_getElem (by omega)
    intro i h3 h4
    have := g i (by omega)
    rw [List.getD_eq_getElem?_getD, List.getD_eq_getElem?_getD, List.getElem?_eq_getElem h3, List.getElem?_eq_getElem h4] at this
    exact this
  · intro g j _
    rw [g]

end Go.Proofs.YtbkefhfbbhdpcaaDoor

/- The program's keyed layer: a key made ready. -/
namespace Go.Proofs.YtbkefhfbbhdpcaaDoor
open Go.RowKit Go.Proofs.Fd Go.Proofs.Hs
set_option maxRecDepth 20000

/-- copy(b, s): the first bytes, as many as fit. -/
theorem pcopy_at (w : World) (b n cap : Nat) (s : ByteArray) (m : Nat) (hm : Nat.min s.size n = m)
    (hc : ∀ j, j < n → (w.cell? ⟨b, j, none⟩).isSome = true) (hf : ∀ j, j < n → w.frozen? ⟨b, j, none⟩ = false) :
    (Builtin.copy_ #[30, 9] 3 #[.slice (some ⟨b, 0, none⟩) n cap, .string s]).run Tryd.prog w = .ok (.int .i64 (m : Int)) (w.setCells b 0 ((s.data.toList.take m).map fun x => Value.int .u8 (x.toNat : Int))) := by
  have hmn : m ≤ n := by rw [← hm]; exact Nat.min_le_right _ _
  have hms : m ≤ s.size := by rw [← hm]; exact Nat.min_le_left _ _
  have hl : ((s.data.toList.take m).map fun x => Value.int .u8 (x.toNat : Int)).length = m := by
    rw [List.length_map, List.length_take]
    have : s.data.toList.length = s.size := by simp
    omega
  have hst := run_storeCells_cells (P := Tryd.prog) b 0 ((s.data.toList.take m).map fun x => Value.int .u8 (x.toNat : Int)) 0 w
    (by rw [hl]; intro j hj; simpa using hc j (by omega)) (by rw [hl]; intro j hj; simpa using hf j (by omega))
    (by intro v hv; obtain ⟨x, _, rfl⟩ := List.mem_map.1 hv; rfl)
  simp [Builtin.copy_, run_underlying Tryd.underlying30, Builtin.lenOf, Builtin.firstCells, hm]
  rw [← List.map_take, hst]
  rfl

theorem BytesAt.pcopied {w : World} {b : Nat} {l : List UInt8} (h : BytesAt w b l) (xs : List UInt8) (hx : xs.length ≤ l.length) :
    BytesAt (w.setCells b 0 (xs.map fun x => Value.int .u8 (x.toNat : Int))) b (xs ++ l.drop xs.length) := fun j hj => by
  have hj' : j < l.length := by rw [List.length_append, List.length_drop] at hj; omega
  obtain ⟨h0, h1⟩ := h j hj'
  refine ⟨?_, by rw [World.frozen?_setCells]; exact h1⟩
  by_cases hlt : j < xs.length
  · have := World.cell?_setCells_in b (xs.map fun x => Value.int .u8 (x.toNat : Int)) 0 w (fun i hi => by
      rw [List.length_map] at hi
      rw [Nat.zero_add, (h i (by omega)).1]; rfl) j (by simpa using hlt)
    rw [Nat.zero_add] at this
    rw [this, List.getElem_map, List.getElem_append_left hlt]
  · rw [World.cell?_setCells_out b _ 0 w _ (fun _ _ => .inr (by simp; omega)), h0, List.getElem_append_right (by omega), List.getElem_drop]
    congr 3
    have : xs.length + (j - xs.length) = j := by omega
    simp only [this]
theorem BytesAt.range {w : World} {b : Nat} {l : List UInt8} (h : BytesAt w b l) : w.rangeAt b 0 (l.map fun x => Value.int .u8 (x.toNat : Int)) := fun j v hv => by
  rw [List.getElem?_map] at hv
  by_cases hj : j < l.length
  · rw [List.getElem?_eq_getElem hj] at hv
    rw [Nat.zero_add, (h j hj).1]; exact hv
  · rw [List.getElem?_eq_none (by omega)] at hv; cases hv
theorem BytesAt.apart {w : World} {b c : Nat} {l : List UInt8} (h : BytesAt w b l) (hne : c ≠ b) (o : Nat) (vs : List Value) : BytesAt (w.setCells c o vs) b l := fun j hj =>
  ⟨by rw [World.cell?_setCells_out c vs o w _ (fun hh => absurd hh (fun e => hne e.symm))]; exact (h j hj).1, by rw [World.frozen?_setCells]; exact (h j hj).2⟩

theorem psize (b : Nat) (vs : List Value) (o : Nat) (w : World) : (w.setCells b o vs).heap.size = w.heap.size := by
  induction vs generalizing o w with
  | nil => rfl
  | cons v vs ih => show ((w.setCell ⟨b, o, none⟩ v).setCells b (o + 1) vs).heap.size = _; rw [ih]; simp [go_sem]
/-- A key's bytes, the first of them xored. -/
def xm (c : UInt8) (l : List UInt8) (q : Nat) : List UInt8 := (l.take q).map (fun b => b ^^^ c) ++ l.drop q
theorem xm_zero (c : UInt8) (l : List UInt8) : xm c l 0 = l := by simp [xm]
theorem xm_len (c : UInt8) (l : List UInt8) (q : Nat) (h : q ≤ l.length) : (xm c l q).length = l.length := by
  unfold xm; rw [List.length_append, List.length_map, List.length_take, List.length_drop]; omega
theorem xm_all (c : UInt8) (l : List UInt8) (h : l.length = 64) : xm c l 64 = l.map fun b => b ^^^ c := by
  unfold xm
  rw [List.take_of_length_le (by omega), List.drop_of_length_le (by omega), List.append_nil]
theorem xm_get (c : UInt8) (l : List UInt8) (q : Nat) (h : q < l.length) : (xm c l q)[q]? = some l[q] := by
  unfold xm
  rw [List.getElem?_append_right (by rw [List.length_map, List.length_take]; omega), List.getElem?_drop, List.length_map, List.length_take]
  rw [show q + (q - min q l.length) = q by omega, List.getElem?_eq_getElem h]
theorem xm_step (c : UInt8) (l : List UInt8) (q : Nat) (h : q < l.length) : (xm c l q).set q (l[q] ^^^ c) = xm c l (q + 1) := by
  unfold xm
  have e : ((l.take q).map fun b => b ^^^ c).length = q := by rw [List.length_map, List.length_take]; omega
  rw [List.set_append_right _ _ (by rw [e]; exact Nat.le_refl _), e, Nat.sub_self, List.drop_eq_getElem_cons h, List.set_cons_zero, List.take_succ_eq_append_getElem h, List.map_append, List.append_assoc]
  rfl
theorem k64_pad (k : List UInt8) (h : k.length ≤ 64) : k ++ (List.replicate 64 (0 : UInt8)).drop k.length = k64 k := by
  apply List.ext_getElem?
  intro i
  unfold k64
  by_cases h64 : i < 64
  · rw [List.getElem?_map, List.getElem?_range h64, Option.map_some, List.getD_eq_getElem?_getD]
    by_cases h1 : i < k.length
    · rw [List.getElem?_append_left h1, List.getElem?_eq_getElem h1]; rfl
    · rw [List.getElem?_append_right (by omega), List.getElem?_eq_none (by omega : k.length ≤ i), List.getElem?_drop, show k.length + (i - k.length) = i by omega, List.getElem?_replicate, if_pos h64]; rfl
  · rw [List.getElem?_eq_none (by rw [List.length_append, List.length_drop, List.length_replicate]; omega), List.getElem?_eq_none (by simp; omega)]

theorem z64_at (w : World) : BytesAt (w.alloc (.cells (Value.int .u8 0 :: Value.int .u8 0 :: Value.int .u8 0 :: Value.int .u8 0 :: Value.int .u8 0 :: Value.int .u8 0 :: Value.int .u8 0 :: Value.int .u8 0 :: Value.int .u8 0 :: Value.int .u8 0 :: Value.int .u8 0 :: Value.int .u8 0 :: Value.int .u8 0 :: Value.int .u8 0 :: Value.int .u8 0 :: Value.int .u8 0 :: Value.int .u8 0 :: Value.int .u8 0 :: Value.int .u8 0 :: Value.int .u8 0 :: Value.int .u8 0 :: Value.int .u8 0 :: Value.int .u8 0 :: Value.int .u8 0 :: Value.int .u8 0 :: Value.int .u8 0 :: Value.int .u8 0 :: Value.int .u8 0 :: Value.int .u8 0 :: Value.int .u8 0 :: Value.int .u8 0 :: Value.int .u8 0 :: Value.int .u8 0 :: Value.int .u8 0 :: Value.int .u8 0 :: Value.int .u8 0 :: Value.int .u8 0 :: Value.int .u8 0 :: Value.int .u8 0 :: Value.int .u8 0 :: Value.int .u8 0 :: Value.int .u8 0 :: Value.int .u8 0 :: Value.int .u8 0 :: Value.int .u8 0 :: Value.int .u8 0 :: Value.int .u8 0 :: Value.int .u8 0 :: Value.int .u8 0 :: Value.int .u8 0 :: Value.int .u8 0 :: Value.int .u8 0 :: Value.int .u8 0 :: Value.int .u8 0 :: Value.int .u8 0 :: Value.int .u8 0 :: Value.int .u8 0 :: Value.int .u8 0 :: Value.int .u8 0 :: Value.int .u8 0 :: Value.int .u8 0 :: Value.int .u8 0 :: Value.int .u8 0 :: Value.int .u8 0 :: []).toArray 84)) w.heap.size (List.replicate 64 0) := fun j hj => by
  have hj' : j < 64 := by simpa using hj
  refine ⟨?_, by simp [go_sem]⟩
  rw [World.cell?_alloc_new, List.getElem_replicate, show ((Value.int .u8 0 :: Value.int .u8 0 :: Value.int .u8 0 :: Value.int .u8 0 :: Value.int .u8 0 :: Value.int .u8 0 :: Value.int .u8 0 :: Value.int .u8 0 :: Value.int .u8 0 :: Value.int .u8 0 :: Value.int .u8 0 :: Value.int .u8 0 :: Value.int .u8 0 :: Value.int .u8 0 :: Value.int .u8 0 :: Value.int .u8 0 :: Value.int .u8 0 :: Value.int .u8 0 :: Value.int .u8 0 :: Value.int .u8 0 :: Value.int .u8 0 :: Value.int .u8 0 :: Value.int .u8 0 :: Value.int .u8 0 :: Value.int .u8 0 :: Value.int .u8 0 :: Value.int .u8 0 :: Value.int .u8 0 :: Value.int .u8 0 :: Value.int .u8 0 :: Value.int .u8 0 :: Value.int .u8 0 :: Value.int .u8 0 :: Value.int .u8 0 :: Value.int .u8 0 :: Value.int .u8 0 :: Value.int .u8 0 :: Value.int .u8 0 :: Value.int .u8 0 :: Value.int .u8 0 :: Value.int .u8 0 :: Value.int .u8 0 :: Value.int .u8 0 :: Value.int .u8 0 :: Value.int .u8 0 :: Value.int .u8 0 :: Value.int .u8 0 :: Value.int .u8 0 :: Value.int .u8 0 :: Value.int .u8 0 :: Value.int .u8 0 :: Value.int .u8 0 :: Value.int .u8 0 :: Value.int .u8 0 :: Value.int .u8 0 :: Value.int .u8 0 :: Value.int .u8 0 :: Value.int .u8 0 :: Value.int .u8 0 :: Value.int .u8 0 :: Value.int .u8 0 :: Value.int .u8 0 :: Value.int .u8 0 :: Value.int .u8 0 :: []).toArray : Array Value) = Array.replicate 64 (.int .u8 0) from rfl, Array.getElem?_replicate, if_pos hj']
  rfl
theorem res_pads (tmps : Array Value) (w : World) (b : Nat) (x : Array Value) (h0 : tmps.getD 2 undef = .pointer (some ⟨b, 0, none⟩))
    (l1 : (loadVar 75 ⟨b, 0, none⟩).run Tryd.prog w = .ok (.agg x) w) :
    (results Tryd.f55 tmps).run Tryd.prog w = .ok (.agg x) w := by
  unfold results
  rw [Tryd.results55]
  have h0' : tmps[2]?.getD undef = .pointer (some ⟨b, 0, none⟩) := by simpa using h0
  simp [h0', l1, asAddr]
theorem size64 : (Tryd.prog.info? 84).map (·.size) = some 64 := by kernel_rfl

set_option maxRecDepth 20000 in
set_option maxHeartbeats 2000000 in
theorem padded_any (key : ByteArray) (w : World) (hk : Hid (key.size ≤ 140737488355328)) (hK : Hid (Kh w)) :
    Calls Tryd.prog 55 #[.string key] w fun e w' => e = .returned (.agg #[.string ⟨(xk 54 key.data.toList).toArray⟩, .string ⟨(xk 92 key.data.toList).toArray⟩]) ∧ Below w.heap.size w w' := by
  have hl : Hid (key.data.toList.length = key.size) := by show _ = _; simp
  by_cases h64 : 64 < key.size
  · have g0 : (64 : Int) < (key.size : Int) := by omega
    obtain ⟨K, hKK⟩ : ∃ K : ByteArray, ⟨(sha key.data.toList).toArray⟩ = K := ⟨_, rfl⟩
    have FK : Hid (short key.data.toList = K.data.toList) := by
      show _ = _
      rw [← hKK, short_gt _ (by rw [hl.out]; omega)]
    have hlK : Hid (K.data.toList.length = K.size) := by show _ = _; simp
    have zK : ¬ 64 < K.size := by rw [← hKK]; show ¬ 64 < (32 : Nat); decide
    have ZK : Hid (K.data.toList.length ≤ 64) := by have := hlK.out; show _ ≤ _; omega
    have SM : Hid (∀ (B : Nat) (w : World), Kh w → w.cell? ⟨B, 0, none⟩ = some (.string key) → Calls Tryd.prog 69 #[.slice (some ⟨B, 0, none⟩) 1 1] w fun e w' => e = .returned (.string K) ∧ Below w.heap.size w w') := fun B w h h0 => by
      have := Sum_any (some ⟨B, 0, none⟩) [key] 1 1 rfl (by omega) w h.1 h.2 (strAt1 h0) (fun s hs => by simp at hs; subst hs; have := hk.out; omega)
      rw [← hKK]
      simpa using this
    have FI : Hid (xk 54 key.data.toList = xm 54 (k64 K.data.toList) 64 ∧ xk 92 key.data.toList = xm 92 (k64 K.data.toList) 64) := by
      unfold xk
      rw [FK.out, xm_all _ _ (k64_len _), xm_all _ _ (k64_len _)]
      exact ⟨rfl, rfl⟩
    rw [FI.out.1, FI.out.2]
    obtain ⟨L, hL⟩ : ∃ L, k64 K.data.toList = L := ⟨_, rfl⟩
    rw [hL]
    have LL : Hid (L.length = 64) := by show L.length = 64; rw [← hL]; exact k64_len _
    clear hKK FI
    go_enter Tryd.func55, Tryd.ntmps55
    go_wp2_with fail
    refine Calls.mono (SM.out (w.heap.size + 1) _ ((hK.out.alloc _).alloc _) (by simp [go_sem])) ?_
    rintro e A ⟨rfl, hbA⟩
    have RA : Hid (A.cell? ⟨w.heap.size, 0, none⟩ = some (.string ⟨#[]⟩) ∧ A.cell? ⟨w.heap.size, 1, none⟩ = some (.string ⟨#[]⟩) ∧ (∀ o, A.frozen? ⟨w.heap.size, o, none⟩ = false) ∧ Below w.heap.size w A) := by
      refine ⟨cell_later hbA (by simp [go_sem]), cell_later hbA (by simp [go_sem]), fun o => (frozen_kept hbA (by simp; omega)).trans (by simp [go_sem]), ?_⟩
      exact chain (((Below.refl _ _).alloc (Nat.le_refl _) _).alloc (by simp) _) hbA
    have HSP : w.heap.size < A.heap.size := by have := hbA.size; simp at this; omega
    clear hbA SM
    have HS : w.heap.size < A.heap.size := HSP
    have SZ : ∀ (b : Nat) (vs : List Value) (o : Nat) (w : World), (w.setCells b o vs).heap.size = w.heap.size := psize
    obtain ⟨W, hW⟩ : ∃ W, A.alloc (.cells (Value.int .u8 0 :: Value.int .u8 0 :: Value.int .u8 0 :: Value.int .u8 0 :: Value.int .u8 0 :: Value.int .u8 0 :: Value.int .u8 0 :: Value.int .u8 0 :: Value.int .u8 0 :: Value.int .u8 0 :: Value.int .u8 0 :: Value.int .u8 0 :: Value.int .u8 0 :: Value.int .u8 0 :: Value.int .u8 0 :: Value.int .u8 0 :: Value.int .u8 0 :: Value.int .u8 0 :: Value.int .u8 0 :: Value.int .u8 0 :: Value.int .u8 0 :: Value.int .u8 0 :: Value.int .u8 0 :: Value.int .u8 0 :: Value.int .u8 0 :: Value.int .u8 0 :: Value.int .u8 0 :: Value.int .u8 0 :: Value.int .u8 0 :: Value.int .u8 0 :: Value.int .u8 0 :: Value.int .u8 0 :: Value.int .u8 0 :: Value.int .u8 0 :: Value.int .u8 0 :: Value.int .u8 0 :: Value.int .u8 0 :: Value.int .u8 0 :: Value.int .u8 0 :: Value.int .u8 0 :: Value.int .u8 0 :: Value.int .u8 0 :: Value.int .u8 0 :: Value.int .u8 0 :: Value.int .u8 0 :: Value.int .u8 0 :: Value.int .u8 0 :: Value.int .u8 0 :: Value.int .u8 0 :: Value.int .u8 0 :: Value.int .u8 0 :: Value.int .u8 0 :: Value.int .u8 0 :: Value.int .u8 0 :: Value.int .u8 0 :: Value.int .u8 0 :: Value.int .u8 0 :: Value.int .u8 0 :: Value.int .u8 0 :: Value.int .u8 0 :: Value.int .u8 0 :: Value.int .u8 0 :: Value.int .u8 0 :: Value.int .u8 0 :: []).toArray 84) = W := ⟨_, rfl⟩
    have Z := z64_at A
    rw [hW] at Z
    obtain ⟨m, hm⟩ : ∃ m, Nat.min K.size 64 = m := ⟨_, rfl⟩
    obtain ⟨C, hC⟩ : ∃ C, W.setCells A.heap.size 0 ((K.data.toList.take m).map fun x => Value.int .u8 (x.toNat : Int)) = C := ⟨_, rfl⟩
    have CP := pcopy_at W A.heap.size 64 64 K m hm (fun j hj => by rw [(Z j (by simpa using hj)).1]; rfl) (fun j hj => (Z j (by simpa using hj)).2)
    rw [hC] at CP
    have ZC : BytesAt C A.heap.size (k64 K.data.toList) := by
      have hm' : m = K.data.toList.length := by rw [← hm, hlK.out]; exact Nat.min_eq_left (by omega)
      have := Z.pcopied (K.data.toList.take m) (by rw [List.length_take, List.length_replicate]; have := hlK.out; omega)
      rw [hC, hm', List.take_length, k64_pad _ ZK.out] at this
      exact this
    have BC : Below A.heap.size A C := by
      rw [← hC, ← hW]
      exact below_setCells (Nat.le_refl _) _ _ _ ((Below.refl _ _).alloc (Nat.le_refl _) _)
    have HC : C.heap.size = A.heap.size + 1 := by rw [← hC, ← hW]; show (World.setCells _ _ _ _).heap.size = _; rw [SZ]; simp
    obtain ⟨cs, hcs⟩ : ∃ cs, ((k64 K.data.toList).map fun x => Value.int .u8 (x.toNat : Int)) = cs := ⟨_, rfl⟩
    have hcl : cs.length = 64 := by rw [← hcs, List.length_map, k64_len]
    have RC : Hid (C.rangeAt A.heap.size 0 cs) := by show C.rangeAt _ _ _; rw [← hcs]; exact ZC.range
    have HL : Hid (cs.length = 64 ∧ cs.toArray.all (·.oneCell') = true) := ⟨hcl, all_oneCell_toArray (by intro v hv; rw [← hcs] at hv; obtain ⟨x, _, rfl⟩ := List.mem_map.1 hv; rfl)⟩
    obtain ⟨D, hD⟩ : ∃ D, C.alloc (.cells ((Value.int .u8 0 :: Value.int .u8 0 :: Value.int .u8 0 :: Value.int .u8 0 :: Value.int .u8 0 :: Value.int .u8 0 :: Value.int .u8 0 :: Value.int .u8 0 :: Value.int .u8 0 :: Value.int .u8 0 :: Value.int .u8 0 :: Value.int .u8 0 :: Value.int .u8 0 :: Value.int .u8 0 :: Value.int .u8 0 :: Value.int .u8 0 :: Value.int .u8 0 :: Value.int .u8 0 :: Value.int .u8 0 :: Value.int .u8 0 :: Value.int .u8 0 :: Value.int .u8 0 :: Value.int .u8 0 :: Value.int .u8 0 :: Value.int .u8 0 :: Value.int .u8 0 :: Value.int .u8 0 :: Value.int .u8 0 :: Value.int .u8 0 :: Value.int .u8 0 :: Value.int .u8 0 :: Value.int .u8 0 :: Value.int .u8 0 :: Value.int .u8 0 :: Value.int .u8 0 :: Value.int .u8 0 :: Value.int .u8 0 :: Value.int .u8 0 :: Value.int .u8 0 :: Value.int .u8 0 :: Value.int .u8 0 :: Value.int .u8 0 :: Value.int .u8 0 :: Value.int .u8 0 :: Value.int .u8 0 :: Value.int .u8 0 :: Value.int .u8 0 :: Value.int .u8 0 :: Value.int .u8 0 :: Value.int .u8 0 :: Value.int .u8 0 :: Value.int .u8 0 :: Value.int .u8 0 :: Value.int .u8 0 :: Value.int .u8 0 :: Value.int .u8 0 :: Value.int .u8 0 :: Value.int .u8 0 :: Value.int .u8 0 :: Value.int .u8 0 :: Value.int .u8 0 :: Value.int .u8 0 :: Value.int .u8 0 :: Value.int .u8 0 :: []).toArray) 84) = D := ⟨_, rfl⟩
    have ZD := z64_at C
    rw [hD] at ZD
    obtain ⟨V, hV⟩ : ∃ V, D.setCells C.heap.size 0 cs = V := ⟨_, rfl⟩
    have TH : Hid (D.there C.heap.size 0 64) := fun j hj => by
      obtain ⟨h0, h1⟩ := ZD j (by simpa using hj)
      exact ⟨by rw [Nat.zero_add, h0]; rfl, by rw [Nat.zero_add]; exact h1⟩
    have HV : Hid (D.setCells C.heap.size 0 cs.toArray.toList = V) := hV
    have d12 : A.heap.size ≠ C.heap.size := by omega
    have IV : Hid (BytesAt V A.heap.size (xm 54 (k64 K.data.toList) 0) ∧ BytesAt V C.heap.size (xm 92 (k64 K.data.toList) 0) ∧ (V.cell? ⟨w.heap.size, 0, none⟩ = some (.string ⟨#[]⟩) ∧ V.cell? ⟨w.heap.size, 1, none⟩ = some (.string ⟨#[]⟩) ∧ (∀ o, V.frozen? ⟨w.heap.size, o, none⟩ = false)) ∧ Below w.heap.size w V) := by
      have BD : Below C.heap.size C V := by
        rw [← hV, ← hD]
        exact below_setCells (Nat.le_refl _) _ _ _ ((Below.refl _ _).alloc (Nat.le_refl _) _)
      have BA : Below A.heap.size A V := BC.trans (BD.mono (by omega))
      rw [xm_zero, xm_zero]
      refine ⟨ZC.later BD, ?_, ⟨cell_later BA RA.out.1, cell_later BA RA.out.2.1, fun o => (frozen_kept BA (by omega)).trans (RA.out.2.2.1 o)⟩, chain RA.out.2.2.2 BA⟩
      have := ZD.pcopied (k64 K.data.toList) (by rw [k64_len]; simp)
      rw [k64_len, List.drop_of_length_le (by simp), List.append_nil, hcs, hV] at this
      exact this
    obtain ⟨gi, hgi⟩ : ∃ g, A.heap.size = g := ⟨_, rfl⟩
    obtain ⟨go_, hgo⟩ : ∃ g, C.heap.size = g := ⟨_, rfl⟩
    rw [hgo] at IV TH HV
    rw [hgi] at IV CP RC
    have HG : Hid (w.heap.size ≤ gi ∧ w.heap.size ≤ go_ ∧ w.heap.size ≠ gi ∧ w.heap.size ≠ go_) := by show _ ∧ _; omega
    have d1 : gi ≠ go_ := by omega
    have d2 : go_ ≠ gi := by omega
    rw [hL] at IV
    clear hcs
    clear Z ZC BC ZD hC hV SZ HS HC d12 hcl
    go_wp2_with (first
      | (refine wpList_load_mid rfl 84 (.tmp 3) rfl gi 0 rfl cs _ RC.out Tryd.underlying84 rfl (by rw [HL.out.1]; exact size64) ?_)
      | (refine wpList_store_mid rfl 84 (.tmp 4) (.tmp 15) rfl go_ 0 cs.toArray rfl rfl (by rw [List.size_toArray, HL.out.1]; exact TH.out) (by rw [List.size_toArray, HL.out.1]; exact size64) HL.out.2 ?_; rw [HV.out]))
    go_loopw [16] (fun i wr => ∃ q : Nat, q ≤ 64 ∧ i = .int .i64 (q : Int) ∧ Hid (BytesAt wr gi (xm 54 L q) ∧ BytesAt wr go_ (xm 92 L q) ∧ (wr.cell? ⟨w.heap.size, 0, none⟩ = some (.string ⟨#[]⟩) ∧ wr.cell? ⟨w.heap.size, 1, none⟩ = some (.string ⟨#[]⟩) ∧ (∀ o, wr.frozen? ⟨w.heap.size, o, none⟩ = false)) ∧ Below w.heap.size w wr)) (fun i _ => 64 - (intOf i).toNat)
    case atStart => exact ⟨0, by omega, rfl, IV.out⟩
    case round =>
      obtain ⟨q, hq, rfl, I⟩ := hrel
      clear IV RC HL TH HV hW hD CP 
      by_cases hq64 : q = 64
      · subst hq64
        have CVI := (BytesAt.later I.out.1 (Below.refl _ _).drew).string (cap := 64) (n := 64) ((xm_len _ _ _ (by rw [LL.out]; decide)).trans LL.out)
        have CVO := (BytesAt.later I.out.2.1 (Below.refl _ _).drew).string (cap := 64) (n := 64) ((xm_len _ _ _ (by rw [LL.out]; decide)).trans LL.out)
        obtain ⟨XI, hXI⟩ : ∃ X : ByteArray, ⟨(xm 54 L 64).toArray⟩ = X := ⟨_, rfl⟩
        obtain ⟨XO, hXO⟩ : ∃ X : ByteArray, ⟨(xm 92 L 64).toArray⟩ = X := ⟨_, rfl⟩
        have HX : Hid (_ = _ ∧ _ = _) := ⟨hXI, hXO⟩
        rw [hXI] at CVI
        rw [hXO] at CVO
        clear hXI hXO
        have c0 := I.out.2.2.1.1
        have c1 := I.out.2.2.1.2.1
        have f0 := I.out.2.2.1.2.2
        go_wp2
        go_region
        all_goals
          go_wp2
          obtain ⟨X, hX⟩ : ∃ X, ((wr.setCell ⟨w.heap.size, 0, none⟩ (.string XI)).setCell ⟨w.heap.size, 1, none⟩ (.string XO)).drew = X := ⟨_, rfl⟩
          have RX : X.rangeAt w.heap.size 0 [.string XI, .string XO] := by
            rw [← hX]
            intro j v hv
            rcases (by have := (List.getElem?_eq_some_iff.1 hv).1; simp at this; omega : j = 0 ∨ j = 1) with rfl | rfl
            · simp at hv; subst hv; simp [go_sem, c0]
            · simp at hv; subst hv; simp [go_sem, c1]
          have BX : Below w.heap.size w X := by rw [← hX]; exact ((I.out.2.2.2.setCell (p := ⟨w.heap.size, 0, none⟩) (Nat.le_refl _) _).setCell (p := ⟨w.heap.size, 1, none⟩) (Nat.le_refl _) _).drew
          rw [hX]
          rw [HX.out.1, HX.out.2]
          refine bodyPost_ret (v := .agg #[.string XI, .string XO]) ?_ rfl ⟨rfl, BX⟩
          exact res_pads _ X w.heap.size _ (by kernel_rfl) (run_loadVar_mid X w.heap.size 0 75 [.string XI, .string XO] _ RX Tryd.underlying75 rfl (by kernel_rfl))
      · have q64 : (q : Int) < 64 := by omega
        have qL : q < L.length := by rw [LL.out]; omega
        obtain ⟨ci, fi⟩ := I.out.1 q (by rw [xm_len _ _ _ (by omega)]; exact qL)
        obtain ⟨co, fo⟩ := I.out.2.1 q (by rw [xm_len _ _ _ (by omega)]; exact qL)
        have ei : (xm 54 L q)[q]'(by rw [xm_len _ _ _ (by omega)]; exact qL) = L[q] := by
          have := xm_get 54 L q qL
          rw [List.getElem?_eq_getElem (by rw [xm_len _ _ _ (by omega)]; exact qL)] at this
          exact Option.some.inj this
        have eo : (xm 92 L q)[q]'(by rw [xm_len _ _ _ (by omega)]; exact qL) = L[q] := by
          have := xm_get 92 L q qL
          rw [List.getElem?_eq_getElem (by rw [xm_len _ _ _ (by omega)]; exact qL)] at this
          exact Option.some.inj this
        rw [ei] at ci
        rw [eo] at co
        have S1 : Hid ((xm 54 L q).set q (L[q] ^^^ 54) = xm 54 L (q + 1) ∧ (xm 92 L q).set q (L[q] ^^^ 92) = xm 92 L (q + 1)) := ⟨xm_step _ _ _ qL, xm_step _ _ _ qL⟩
        generalize L[q] = c at *
        have NX : Hid (BytesAt ((wr.setCell ⟨gi, q, none⟩ (.int .u8 (bits BinOp.xor IntKind.u8 (c.toNat : Int) 54))).setCell ⟨go_, q, none⟩ (.int .u8 (bits BinOp.xor IntKind.u8 (c.toNat : Int) 92))) gi (xm 54 L (q + 1)) ∧ BytesAt ((wr.setCell ⟨gi, q, none⟩ (.int .u8 (bits BinOp.xor IntKind.u8 (c.toNat : Int) 54))).setCell ⟨go_, q, none⟩ (.int .u8 (bits BinOp.xor IntKind.u8 (c.toNat : Int) 92))) go_ (xm 92 L (q + 1)) ∧ ((((wr.setCell ⟨gi, q, none⟩ (.int .u8 (bits BinOp.xor IntKind.u8 (c.toNat : Int) 54))).setCell ⟨go_, q, none⟩ (.int .u8 (bits BinOp.xor IntKind.u8 (c.toNat : Int) 92)))).cell? ⟨w.heap.size, 0, none⟩ = some (.string ⟨#[]⟩) ∧ ((wr.setCell ⟨gi, q, none⟩ (.int .u8 (bits BinOp.xor IntKind.u8 (c.toNat : Int) 54))).setCell ⟨go_, q, none⟩ (.int .u8 (bits BinOp.xor IntKind.u8 (c.toNat : Int) 92))).cell? ⟨w.heap.size, 1, none⟩ = some (.string ⟨#[]⟩) ∧ (∀ o, ((wr.setCell ⟨gi, q, none⟩ (.int .u8 (bits BinOp.xor IntKind.u8 (c.toNat : Int) 54))).setCell ⟨go_, q, none⟩ (.int .u8 (bits BinOp.xor IntKind.u8 (c.toNat : Int) 92))).frozen? ⟨w.heap.size, o, none⟩ = false)) ∧ Below w.heap.size w ((wr.setCell ⟨gi, q, none⟩ (.int .u8 (bits BinOp.xor IntKind.u8 (c.toNat : Int) 54))).setCell ⟨go_, q, none⟩ (.int .u8 (bits BinOp.xor IntKind.u8 (c.toNat : Int) 92)))) := by
          rw [← S1.out.1, ← S1.out.2]
          obtain ⟨G1, G2, G3, G4⟩ := HG.out
          exact ⟨(I.out.1.set q _ _ (pxor8 c 54)).other (a := ⟨go_, q, none⟩) d2 _, (I.out.2.1.other (a := ⟨gi, q, none⟩) d1 _).set q _ _ (pxor8 c 92), ⟨cell_setCell (cell_setCell I.out.2.2.1.1 (Ne.symm G3)) (Ne.symm G4), cell_setCell (cell_setCell I.out.2.2.1.2.1 (Ne.symm G3)) (Ne.symm G4), fun o => (frozen_setCell (Ne.symm G4)).trans ((frozen_setCell (Ne.symm G3)).trans (I.out.2.2.1.2.2 o))⟩, (I.out.2.2.2.setCell (p := ⟨gi, q, none⟩) G1 _).setCell (p := ⟨go_, q, none⟩) G2 _⟩
        clear S1 ei eo
        go_wp2
        exact ⟨⟨q + 1, by omega, by go_num, NX.out⟩, by simp [intOf]; omega⟩
  · have g0 : ¬ (64 : Int) < (key.size : Int) := by omega
    obtain ⟨A, hA⟩ : ∃ A, w.alloc (.cells #[.string ⟨#[]⟩, .string ⟨#[]⟩] 75) = A := ⟨_, rfl⟩
    have FK : Hid (short key.data.toList = key.data.toList) := short_le _ (by rw [hl.out]; omega)
    have ZK : Hid (key.data.toList.length ≤ 64) := by have := hl.out; show _ ≤ _; omega
    have RA : Hid (A.cell? ⟨w.heap.size, 0, none⟩ = some (.string ⟨#[]⟩) ∧ A.cell? ⟨w.heap.size, 1, none⟩ = some (.string ⟨#[]⟩) ∧ (∀ o, A.frozen? ⟨w.heap.size, o, none⟩ = false) ∧ Below w.heap.size w A) := by
      rw [← hA]
      exact ⟨by simp [go_sem], by simp [go_sem], fun o => by simp [go_sem], (Below.refl _ _).alloc (Nat.le_refl _) _⟩
    have HSP : w.heap.size < A.heap.size := by rw [← hA]; simp
    have HS : w.heap.size < A.heap.size := HSP
    have SZ : ∀ (b : Nat) (vs : List Value) (o : Nat) (w : World), (w.setCells b o vs).heap.size = w.heap.size := psize
    obtain ⟨W, hW⟩ : ∃ W, A.alloc (.cells (Value.int .u8 0 :: Value.int .u8 0 :: Value.int .u8 0 :: Value.int .u8 0 :: Value.int .u8 0 :: Value.int .u8 0 :: Value.int .u8 0 :: Value.int .u8 0 :: Value.int .u8 0 :: Value.int .u8 0 :: Value.int .u8 0 :: Value.int .u8 0 :: Value.int .u8 0 :: Value.int .u8 0 :: Value.int .u8 0 :: Value.int .u8 0 :: Value.int .u8 0 :: Value.int .u8 0 :: Value.int .u8 0 :: Value.int .u8 0 :: Value.int .u8 0 :: Value.int .u8 0 :: Value.int .u8 0 :: Value.int .u8 0 :: Value.int .u8 0 :: Value.int .u8 0 :: Value.int .u8 0 :: Value.int .u8 0 :: Value.int .u8 0 :: Value.int .u8 0 :: Value.int .u8 0 :: Value.int .u8 0 :: Value.int .u8 0 :: Value.int .u8 0 :: Value.int .u8 0 :: Value.int .u8 0 :: Value.int .u8 0 :: Value.int .u8 0 :: Value.int .u8 0 :: Value.int .u8 0 :: Value.int .u8 0 :: Value.int .u8 0 :: Value.int .u8 0 :: Value.int .u8 0 :: Value.int .u8 0 :: Value.int .u8 0 :: Value.int .u8 0 :: Value.int .u8 0 :: Value.int .u8 0 :: Value.int .u8 0 :: Value.int .u8 0 :: Value.int .u8 0 :: Value.int .u8 0 :: Value.int .u8 0 :: Value.int .u8 0 :: Value.int .u8 0 :: Value.int .u8 0 :: Value.int .u8 0 :: Value.int .u8 0 :: Value.int .u8 0 :: Value.int .u8 0 :: Value.int .u8 0 :: Value.int .u8 0 :: Value.int .u8 0 :: []).toArray 84) = W := ⟨_, rfl⟩
    have Z := z64_at A
    rw [hW] at Z
    obtain ⟨m, hm⟩ : ∃ m, Nat.min key.size 64 = m := ⟨_, rfl⟩
    obtain ⟨C, hC⟩ : ∃ C, W.setCells A.heap.size 0 ((key.data.toList.take m).map fun x => Value.int .u8 (x.toNat : Int)) = C := ⟨_, rfl⟩
    have CP := pcopy_at W A.heap.size 64 64 key m hm (fun j hj => by rw [(Z j (by simpa using hj)).1]; rfl) (fun j hj => (Z j (by simpa using hj)).2)
    rw [hC] at CP
    have ZC : BytesAt C A.heap.size (k64 key.data.toList) := by
      have hm' : m = key.data.toList.length := by rw [← hm, hl.out]; exact Nat.min_eq_left (by omega)
      have := Z.pcopied (key.data.toList.take m) (by rw [List.length_take, List.length_replicate]; have := hl.out; omega)
      rw [hC, hm', List.take_length, k64_pad _ ZK.out] at this
      exact this
    have BC : Below A.heap.size A C := by
      rw [← hC, ← hW]
      exact below_setCells (Nat.le_refl _) _ _ _ ((Below.refl _ _).alloc (Nat.le_refl _) _)
    have HC : C.heap.size = A.heap.size + 1 := by rw [← hC, ← hW]; show (World.setCells _ _ _ _).heap.size = _; rw [SZ]; simp
    obtain ⟨cs, hcs⟩ : ∃ cs, ((k64 key.data.toList).map fun x => Value.int .u8 (x.toNat : Int)) = cs := ⟨_, rfl⟩
    have hcl : cs.length = 64 := by rw [← hcs, List.length_map, k64_len]
    have RC : Hid (C.rangeAt A.heap.size 0 cs) := by show C.rangeAt _ _ _; rw [← hcs]; exact ZC.range
    have HL : Hid (cs.length = 64 ∧ cs.toArray.all (·.oneCell') = true) := ⟨hcl, all_oneCell_toArray (by intro v hv; rw [← hcs] at hv; obtain ⟨x, _, rfl⟩ := List.mem_map.1 hv; rfl)⟩
    obtain ⟨D, hD⟩ : ∃ D, C.alloc (.cells ((Value.int .u8 0 :: Value.int .u8 0 :: Value.int .u8 0 :: Value.int .u8 0 :: Value.int .u8 0 :: Value.int .u8 0 :: Value.int .u8 0 :: Value.int .u8 0 :: Value.int .u8 0 :: Value.int .u8 0 :: Value.int .u8 0 :: Value.int .u8 0 :: Value.int .u8 0 :: Value.int .u8 0 :: Value.int .u8 0 :: Value.int .u8 0 :: Value.int .u8 0 :: Value.int .u8 0 :: Value.int .u8 0 :: Value.int .u8 0 :: Value.int .u8 0 :: Value.int .u8 0 :: Value.int .u8 0 :: Value.int .u8 0 :: Value.int .u8 0 :: Value.int .u8 0 :: Value.int .u8 0 :: Value.int .u8 0 :: Value.int .u8 0 :: Value.int .u8 0 :: Value.int .u8 0 :: Value.int .u8 0 :: Value.int .u8 0 :: Value.int .u8 0 :: Value.int .u8 0 :: Value.int .u8 0 :: Value.int .u8 0 :: Value.int .u8 0 :: Value.int .u8 0 :: Value.int .u8 0 :: Value.int .u8 0 :: Value.int .u8 0 :: Value.int .u8 0 :: Value.int .u8 0 :: Value.int .u8 0 :: Value.int .u8 0 :: Value.int .u8 0 :: Value.int .u8 0 :: Value.int .u8 0 :: Value.int .u8 0 :: Value.int .u8 0 :: Value.int .u8 0 :: Value.int .u8 0 :: Value.int .u8 0 :: Value.int .u8 0 :: Value.int .u8 0 :: Value.int .u8 0 :: Value.int .u8 0 :: Value.int .u8 0 :: Value.int .u8 0 :: Value.int .u8 0 :: Value.int .u8 0 :: Value.int .u8 0 :: Value.int .u8 0 :: []).toArray) 84) = D := ⟨_, rfl⟩
    have ZD := z64_at C
    rw [hD] at ZD
    obtain ⟨V, hV⟩ : ∃ V, D.setCells C.heap.size 0 cs = V := ⟨_, rfl⟩
    have TH : Hid (D.there C.heap.size 0 64) := fun j hj => by
      obtain ⟨h0, h1⟩ := ZD j (by simpa using hj)
      exact ⟨by rw [Nat.zero_add, h0]; rfl, by rw [Nat.zero_add]; exact h1⟩
    have HV : Hid (D.setCells C.heap.size 0 cs.toArray.toList = V) := hV
    have d12 : A.heap.size ≠ C.heap.size := by omega
    have IV : Hid (BytesAt V A.heap.size (xm 54 (k64 key.data.toList) 0) ∧ BytesAt V C.heap.size (xm 92 (k64 key.data.toList) 0) ∧ (V.cell? ⟨w.heap.size, 0, none⟩ = some (.string ⟨#[]⟩) ∧ V.cell? ⟨w.heap.size, 1, none⟩ = some (.string ⟨#[]⟩) ∧ (∀ o, V.frozen? ⟨w.heap.size, o, none⟩ = false)) ∧ Below w.heap.size w V) := by
      have BD : Below C.heap.size C V := by
        rw [← hV, ← hD]
        exact below_setCells (Nat.le_refl _) _ _ _ ((Below.refl _ _).alloc (Nat.le_refl _) _)
      have BA : Below A.heap.size A V := BC.trans (BD.mono (by omega))
      rw [xm_zero, xm_zero]
      refine ⟨ZC.later BD, ?_, ⟨cell_later BA RA.out.1, cell_later BA RA.out.2.1, fun o => (frozen_kept BA (by omega)).trans (RA.out.2.2.1 o)⟩, chain RA.out.2.2.2 BA⟩
      have := ZD.pcopied (k64 key.data.toList) (by rw [k64_len]; simp)
      rw [k64_len, List.drop_of_length_le (by simp), List.append_nil, hcs, hV] at this
      exact this
    obtain ⟨gi, hgi⟩ : ∃ g, A.heap.size = g := ⟨_, rfl⟩
    obtain ⟨go_, hgo⟩ : ∃ g, C.heap.size = g := ⟨_, rfl⟩
    rw [hgo] at IV TH HV
    rw [hgi] at IV CP RC
    have HG : Hid (w.heap.size ≤ gi ∧ w.heap.size ≤ go_ ∧ w.heap.size ≠ gi ∧ w.heap.size ≠ go_) := by show _ ∧ _; omega
    have d1 : gi ≠ go_ := by omega
    have d2 : go_ ≠ gi := by omega
    have FI : Hid (xk 54 key.data.toList = xm 54 (k64 key.data.toList) 64 ∧ xk 92 key.data.toList = xm 92 (k64 key.data.toList) 64) := by
      unfold xk
      rw [FK.out, xm_all _ _ (k64_len _), xm_all _ _ (k64_len _)]
      exact ⟨rfl, rfl⟩
    rw [FI.out.1, FI.out.2]
    have LL : Hid ((k64 key.data.toList).length = 64) := k64_len _
    clear FI hcs
    generalize k64 key.data.toList = L at *
    clear Z ZC BC ZD hC hV SZ HS HC d12 hcl
    go_enter Tryd.func55, Tryd.ntmps55
    go_wp2_with (first
      | (refine wpList_load_mid rfl 84 (.tmp 3) rfl gi 0 rfl cs _ RC.out Tryd.underlying84 rfl (by rw [HL.out.1]; exact size64) ?_)
      | (refine wpList_store_mid rfl 84 (.tmp 4) (.tmp 15) rfl go_ 0 cs.toArray rfl rfl (by rw [List.size_toArray, HL.out.1]; exact TH.out) (by rw [List.size_toArray, HL.out.1]; exact size64) HL.out.2 ?_; rw [HV.out]))
    go_loopw [16] (fun i wr => ∃ q : Nat, q ≤ 64 ∧ i = .int .i64 (q : Int) ∧ Hid (BytesAt wr gi (xm 54 L q) ∧ BytesAt wr go_ (xm 92 L q) ∧ (wr.cell? ⟨w.heap.size, 0, none⟩ = some (.string ⟨#[]⟩) ∧ wr.cell? ⟨w.heap.size, 1, none⟩ = some (.string ⟨#[]⟩) ∧ (∀ o, wr.frozen? ⟨w.heap.size, o, none⟩ = false)) ∧ Below w.heap.size w wr)) (fun i _ => 64 - (intOf i).toNat)
    case atStart => exact ⟨0, by omega, rfl, IV.out⟩
    case round =>
      obtain ⟨q, hq, rfl, I⟩ := hrel
      clear IV RC HL TH HV hW hD CP hA
      by_cases hq64 : q = 64
      · subst hq64
        have CVI := (BytesAt.later I.out.1 (Below.refl _ _).drew).string (cap := 64) (n := 64) ((xm_len _ _ _ (by rw [LL.out]; decide)).trans LL.out)
        have CVO := (BytesAt.later I.out.2.1 (Below.refl _ _).drew).string (cap := 64) (n := 64) ((xm_len _ _ _ (by rw [LL.out]; decide)).trans LL.out)
        obtain ⟨XI, hXI⟩ : ∃ X : ByteArray, ⟨(xm 54 L 64).toArray⟩ = X := ⟨_, rfl⟩
        obtain ⟨XO, hXO⟩ : ∃ X : ByteArray, ⟨(xm 92 L 64).toArray⟩ = X := ⟨_, rfl⟩
        have HX : Hid (_ = _ ∧ _ = _) := ⟨hXI, hXO⟩
        rw [hXI] at CVI
        rw [hXO] at CVO
        clear hXI hXO
        have c0 := I.out.2.2.1.1
        have c1 := I.out.2.2.1.2.1
        have f0 := I.out.2.2.1.2.2
        go_wp2
        go_region
        all_goals
          go_wp2
          obtain ⟨X, hX⟩ : ∃ X, ((wr.setCell ⟨w.heap.size, 0, none⟩ (.string XI)).setCell ⟨w.heap.size, 1, none⟩ (.string XO)).drew = X := ⟨_, rfl⟩
          have RX : X.rangeAt w.heap.size 0 [.string XI, .string XO] := by
            rw [← hX]
            intro j v hv
            rcases (by have := (List.getElem?_eq_some_iff.1 hv).1; simp at this; omega : j = 0 ∨ j = 1) with rfl | rfl
            · simp at hv; subst hv; simp [go_sem, c0]
            · simp at hv; subst hv; simp [go_sem, c1]
          have BX : Below w.heap.size w X := by rw [← hX]; exact ((I.out.2.2.2.setCell (p := ⟨w.heap.size, 0, none⟩) (Nat.le_refl _) _).setCell (p := ⟨w.heap.size, 1, none⟩) (Nat.le_refl _) _).drew
          rw [hX]
          rw [HX.out.1, HX.out.2]
          refine bodyPost_ret (v := .agg #[.string XI, .string XO]) ?_ rfl ⟨rfl, BX⟩
          exact res_pads _ X w.heap.size _ (by kernel_rfl) (run_loadVar_mid X w.heap.size 0 75 [.string XI, .string XO] _ RX Tryd.underlying75 rfl (by kernel_rfl))
      · have q64 : (q : Int) < 64 := by omega
        have qL : q < L.length := by rw [LL.out]; omega
        obtain ⟨ci, fi⟩ := I.out.1 q (by rw [xm_len _ _ _ (by omega)]; exact qL)
        obtain ⟨co, fo⟩ := I.out.2.1 q (by rw [xm_len _ _ _ (by omega)]; exact qL)
        have ei : (xm 54 L q)[q]'(by rw [xm_len _ _ _ (by omega)]; exact qL) = L[q] := by
          have := xm_get 54 L q qL
          rw [List.getElem?_eq_getElem (by rw [xm_len _ _ _ (by omega)]; exact qL)] at this
          exact Option.some.inj this
        have eo : (xm 92 L q)[q]'(by rw [xm_len _ _ _ (by omega)]; exact qL) = L[q] := by
          have := xm_get 92 L q qL
          rw [List.getElem?_eq_getElem (by rw [xm_len _ _ _ (by omega)]; exact qL)] at this
          exact Option.some.inj this
        rw [ei] at ci
        rw [eo] at co
        have S1 : Hid ((xm 54 L q).set q (L[q] ^^^ 54) = xm 54 L (q + 1) ∧ (xm 92 L q).set q (L[q] ^^^ 92) = xm 92 L (q + 1)) := ⟨xm_step _ _ _ qL, xm_step _ _ _ qL⟩
        generalize L[q] = c at *
        have NX : Hid (BytesAt ((wr.setCell ⟨gi, q, none⟩ (.int .u8 (bits BinOp.xor IntKind.u8 (c.toNat : Int) 54))).setCell ⟨go_, q, none⟩ (.int .u8 (bits BinOp.xor IntKind.u8 (c.toNat : Int) 92))) gi (xm 54 L (q + 1)) ∧ BytesAt ((wr.setCell ⟨gi, q, none⟩ (.int .u8 (bits BinOp.xor IntKind.u8 (c.toNat : Int) 54))).setCell ⟨go_, q, none⟩ (.int .u8 (bits BinOp.xor IntKind.u8 (c.toNat : Int) 92))) go_ (xm 92 L (q + 1)) ∧ ((((wr.setCell ⟨gi, q, none⟩ (.int .u8 (bits BinOp.xor IntKind.u8 (c.toNat : Int) 54))).setCell ⟨go_, q, none⟩ (.int .u8 (bits BinOp.xor IntKind.u8 (c.toNat : Int) 92)))).cell? ⟨w.heap.size, 0, none⟩ = some (.string ⟨#[]⟩) ∧ ((wr.setCell ⟨gi, q, none⟩ (.int .u8 (bits BinOp.xor IntKind.u8 (c.toNat : Int) 54))).setCell ⟨go_, q, none⟩ (.int .u8 (bits BinOp.xor IntKind.u8 (c.toNat : Int) 92))).cell? ⟨w.heap.size, 1, none⟩ = some (.string ⟨#[]⟩) ∧ (∀ o, ((wr.setCell ⟨gi, q, none⟩ (.int .u8 (bits BinOp.xor IntKind.u8 (c.toNat : Int) 54))).setCell ⟨go_, q, none⟩ (.int .u8 (bits BinOp.xor IntKind.u8 (c.toNat : Int) 92))).frozen? ⟨w.heap.size, o, none⟩ = false)) ∧ Below w.heap.size w ((wr.setCell ⟨gi, q, none⟩ (.int .u8 (bits BinOp.xor IntKind.u8 (c.toNat : Int) 54))).setCell ⟨go_, q, none⟩ (.int .u8 (bits BinOp.xor IntKind.u8 (c.toNat : Int) 92)))) := by
          rw [← S1.out.1, ← S1.out.2]
          obtain ⟨G1, G2, G3, G4⟩ := HG.out
          exact ⟨(I.out.1.set q _ _ (pxor8 c 54)).other (a := ⟨go_, q, none⟩) d2 _, (I.out.2.1.other (a := ⟨gi, q, none⟩) d1 _).set q _ _ (pxor8 c 92), ⟨cell_setCell (cell_setCell I.out.2.2.1.1 (Ne.symm G3)) (Ne.symm G4), cell_setCell (cell_setCell I.out.2.2.1.2.1 (Ne.symm G3)) (Ne.symm G4), fun o => (frozen_setCell (Ne.symm G4)).trans ((frozen_setCell (Ne.symm G3)).trans (I.out.2.2.1.2.2 o))⟩, (I.out.2.2.2.setCell (p := ⟨gi, q, none⟩) G1 _).setCell (p := ⟨go_, q, none⟩) G2 _⟩
        clear S1 ei eo
        go_wp2
        exact ⟨⟨q + 1, by omega, by go_num, NX.out⟩, by simp [intOf]; omega⟩
end Go.Proofs.YtbkefhfbbhdpcaaDoor

/- The program's keyed layer: lists put together by the library's Concat. -/
namespace Go.Proofs.YtbkefhfbbhdpcaaDoor
open Go.RowKit Go.Proofs.Fd Go.Proofs.Hs
set_option maxRecDepth 20000

set_option maxHeartbeats 1000000 in
theorem Grow_nil (n : Nat) (h0 : 0 < n) (hb : n * 16 ≤ 140737488355328) (w : World) :
    Calls Tryd.prog 81 #[.slice none 0 0, .int .i64 (n : Int)] w fun e w' => ∃ cap, e = .returned (.slice (some ⟨w.heap.size, 0, none⟩) 0 cap) ∧ w'.ownsRow w.heap.size 9 1 (.slice (some ⟨w.heap.size, 0, none⟩) 0 cap) 0 [] ∧ Below w.heap.size w w' := by
  obtain ⟨i0, hi, hz0, hz1, hz2⟩ := info_parts infoStr
  have hr : ∀ ty, (Builtin.append_ #[73, 3] ty #[.slice none 0 0, .int .i64 (n : Int)]).run Tryd.prog w = .ok (.slice (some ⟨w.heap.size, 0, none⟩) n (grownCap w n 0 9)) (w.drew.alloc (.cells (([] : List Value).toArray ++ Builtin.zeroCells (Value.string ⟨#[]⟩).cells n ++ Builtin.zeroCells (Value.string ⟨#[]⟩).cells (grownCap w n 0 9 - n)) 9)) := fun ty => by
    have h := Go.Lib.run_append_grow_zeros w 73 3 ty 9 i0 (.string ⟨#[]⟩) .i64 .i64 Tryd.underlying73 Tryd.underlying3 hi hz0 none 0 0 [] (run_firstCells_none w.drew _ 0 0 0) n h0 (by rw [hz1]; decide) (by omega) (by omega) (by rw [hz2]; omega) (by rw [hz2, Nat.zero_add]; exact growslice_fits h0 hb)
    rw [Nat.zero_add] at h
    exact h
  have OW : Hid ((w.drew.alloc (.cells (([] : List Value).toArray ++ Builtin.zeroCells (Value.string ⟨#[]⟩).cells n ++ Builtin.zeroCells (Value.string ⟨#[]⟩).cells (grownCap w n 0 9 - n)) 9)).ownsRow w.heap.size 9 1 (.slice (some ⟨w.heap.size, 0, none⟩) 0 (grownCap w n 0 9)) 0 [] ∧ Below w.heap.size w (w.drew.alloc (.cells (([] : List Value).toArray ++ Builtin.zeroCells (Value.string ⟨#[]⟩).cells n ++ Builtin.zeroCells (Value.string ⟨#[]⟩).cells (grownCap w n 0 9 - n)) 9))) := by
    refine ⟨World.ownsRow_made w.drew _ _ (Nat.le_refl _) (grownCap_le_maxLen w n 0 _ (by unfold maxLen; omega)) ?_, (Below.refl _ _).drew.alloc (Nat.le_refl _) _⟩
    have := grownCap_ge w n 0 9
    rw [Array.size_append, Array.size_append, size_zeroCells, size_zeroCells]
    show 0 + n * 1 + (grownCap w n 0 9 - n) * 1 = grownCap w n 0 9 * 1
    omega
  have hG : n ≤ grownCap w n 0 9 := grownCap_ge w _ _ _
  have hG63 : grownCap w n 0 9 ≤ 9223372036854775807 := by
    have := grownCap_le_maxLen w n 0 9 (by unfold maxLen; omega)
    unfold maxLen at this
    omega
  generalize grownCap w n 0 9 = G at *
  generalize w.drew.alloc (.cells (([] : List Value).toArray ++ Builtin.zeroCells (Value.string ⟨#[]⟩).cells n ++ Builtin.zeroCells (Value.string ⟨#[]⟩).cells (G - n)) 9) = W at *
  have g1 : ¬ ((n : Int) < 0) := by omega
  have g2 : (0 : Int) < (n : Int) := by omega
  go_enter Tryd.func81, Tryd.ntmps81
  go_wp2_with (at_builtin; refine Go.Lib.wpList_append_run _ rfl _ _ _ _ rfl _ _ rfl rfl _ _ (hr _) ?_)
  all_goals
    go_ret
    exact ⟨G, rfl, OW.out⟩

theorem append_none (base : Nat) (ty : TypeId) (w : World) (v : Value) (n cap : Nat) (xs : List Value) (hown : w.ownsRow base 9 1 v n xs) :
    (Builtin.append_ #[73, 73] ty #[v, .slice none 0 cap]).run Tryd.prog w = .ok v w := by
  obtain ⟨i0, hi, hz0, hz1, hz2⟩ := info_parts infoStr
  rcases hown.2 with ⟨rfl, rfl⟩ | ⟨g, c, cur, rfl, _, _, hnc, _⟩
  · simp [Builtin.append_, run_underlying Tryd.underlying73, sizeOf, typeInfo, hi, Builtin.lenOf, Builtin.firstCells]
  · simp [Builtin.append_, run_underlying Tryd.underlying73, sizeOf, typeInfo, hi, Builtin.lenOf, Builtin.firstCells, hnc, storeCells]

set_option maxHeartbeats 1000000 in
theorem Concat_two (B b1 : Nat) (x : ByteArray) (a : Option Addr) (ks : List ByteArray) (n cap : Nat) (hn : Hid (ks.length = n)) (hb : Hid (n * 16 + 1024 ≤ 140737488355328)) (w : World)
    (c0 : Hid (w.cell? ⟨B, 0, none⟩ = some (.slice (some ⟨b1, 0, none⟩) 1 1))) (c1 : Hid (w.cell? ⟨B, 1, none⟩ = some (.slice a n cap))) (cx : Hid (w.cell? ⟨b1, 0, none⟩ = some (.string x))) (hs : Hid (StrAt w a ks)) :
    Calls Tryd.prog 70 #[.slice (some ⟨B, 0, none⟩) 2 2] w fun e w' => ∃ g cap', e = .returned (.slice (some ⟨g, 0, none⟩) (n + 1) cap') ∧ StrAt w' (some ⟨g, 0, none⟩) (x :: ks) ∧ Below w.heap.size w w' := by
  have hb47 : n ≤ 9000000000000 := by have := hb.out; omega
  obtain ⟨i0, hi, hz0, hz1, hz2⟩ := info_parts infoStr
  go_enter Tryd.func70, Tryd.ntmps70
  go_wp2
  go_loopw [3, 11] (fun sz i wr => ∃ k : Nat, (k = 0 ∧ sz = .int .i64 0 ∨ k = 1 ∧ sz = .int .i64 1 ∨ k = 2 ∧ sz = .int .i64 ((n + 1 : Nat) : Int)) ∧ i = .int .i64 (k : Int) ∧ w = wr) (fun _ i _ => 2 - (intOf i).toNat)
  case atStart => exact ⟨0, .inl ⟨rfl, rfl⟩, rfl, rfl⟩
  case round =>
    obtain ⟨k, hk, rfl, rfl⟩ := hrel
    rcases hk with ⟨rfl, rfl⟩ | ⟨rfl, rfl⟩ | ⟨rfl, rfl⟩
    · have cc := c0.out
      go_wp2
      go_roundw
      case rel => exact ⟨1, .inr (.inl ⟨rfl, by go_num⟩), by go_num, trivial⟩
      case measure => simp [intOf]
    · have cc := c1.out
      have e1 : IntKind.i64.wrap (1 + (n : Int)) = (n : Int) + 1 := by rw [IntKind.wrap_i64]; omega
      have g1 : ¬ ((n : Int) + 1 < 0) := by omega
      go_wp2
      go_roundw
      case rel => exact ⟨2, .inr (.inr ⟨rfl, by go_num⟩), by go_num, trivial⟩
      case measure => simp [intOf]
    · go_wp2_with fail
      refine Calls.mono (Grow_nil (n + 1) (by omega) (by have := hb.out; omega) _) ?_
      rintro e w1 ⟨cp, rfl, ow, hb1⟩
      have OW : Hid (w1.ownsRow w.heap.size 9 1 (.slice (some ⟨w.heap.size, 0, none⟩) 0 cp) 0 [] ∧ Below w.heap.size w w1) := ⟨ow, hb1⟩
      clear ow hb1
      go_wp2
      go_loopw [6, 27] (fun sl i wx => ∃ k : Nat, k ≤ 2 ∧ i = .int .i64 (k : Int) ∧ Hid ((k = 0 ∧ wx.ownsRow w.heap.size 9 1 sl 0 [] ∨ k = 1 ∧ wx.ownsRow w.heap.size 9 1 sl 1 [.string x] ∨ k = 2 ∧ wx.ownsRow w.heap.size 9 1 sl (n + 1) (scells (x :: ks))) ∧ Below w.heap.size w wx)) (fun _ i _ => 2 - (intOf i).toNat)
      case atStart => exact ⟨0, by omega, rfl, .inl ⟨rfl, OW.out.1⟩, OW.out.2⟩
      case round =>
        obtain ⟨k, hk2, rfl, J⟩ := hrel
        clear OW
        obtain ⟨J1, J2⟩ := J.out
        clear J
        rcases J1 with ⟨rfl, ow⟩ | ⟨rfl, ow⟩ | ⟨rfl, ow⟩
        · have cc := cell_later J2 c0.out
          have cn : ∀ (j : Nat) (u : Value), ([Value.string x] : List Value)[j]? = some u → wr.cell? ((⟨b1, 0, none⟩ : Addr).add j) = some u := fun j u hj => by
            obtain ⟨rfl, rfl⟩ : j = 0 ∧ u = .string x := by
              cases j with
              | zero => simp at hj; exact ⟨rfl, hj.symm⟩
              | succ j => simp at hj
            rw [Addr.add_mid]
            exact cell_later J2 cx.out
          have I : Hid (wr.ownsRow w.heap.size 9 1 _ 0 [] ∧ Below w.heap.size w wr) := ⟨ow, J2⟩
          have CN : Hid (∀ (j : Nat) (u : Value), ([Value.string x] : List Value)[j]? = some u → wr.cell? ((⟨b1, 0, none⟩ : Addr).add j) = some u) := cn
          clear ow J2 cn
          go_wp2_with (first
            | (at_builtin; refine wpList_append_own _ rfl _ _ 73 rfl w.heap.size 9 i0 (.string ⟨#[]⟩) 1 16 Tryd.underlying73 hi hz0 hz1 hz2 rfl (by decide) _ _ _ rfl I.out.1 ⟨b1, 0, none⟩ 1 1 [.string x] rfl rfl CN.out (by intro v hv; simp at hv; subst hv; rfl) (by unfold maxLen; omega) (by omega) I.out.2.size ?_; intro v1 w2 hown1 hgrow1 hnil1; simp only [Nat.zero_add, List.nil_append] at hown1))
          go_roundw
          case rel => exact ⟨1, by omega, by go_num, .inr (.inl ⟨rfl, hown1⟩), I.out.2.grown hgrow1 I.out.2.size (fun q hq => (I.out.1.lt q hq).1)⟩
          case measure => simp [intOf]
        · have cc := cell_later J2 c1.out
          have I : Hid (wr.ownsRow w.heap.size 9 1 _ 1 [.string x] ∧ Below w.heap.size w wr) := ⟨ow, J2⟩
          have SA := StrAt.later hs.out J2 rfl
          clear ow J2
          cases a with
          | none =>
            have hn0 : ks = [] := by
              cases ks with
              | nil => rfl
              | cons k r => obtain ⟨b, o, e, -⟩ := SA 0 (by simp); cases e
            subst hn0
            have HN : Hid (n = 0) := by have := hn.out; show n = 0; simpa using this.symm
            have AN : Hid (∀ ty cap, (Builtin.append_ #[73, 73] ty #[_, .slice none n cap]).run Tryd.prog wr = .ok _ wr) := fun ty cap => by rw [HN.out]; exact append_none _ ty wr _ 1 cap _ I.out.1
            go_wp2_with (first | (at_builtin; refine Go.Lib.wpList_append_run _ rfl _ _ _ _ rfl _ _ rfl rfl _ _ (AN.out _ _) ?_))
            go_roundw
            case rel => exact ⟨2, by omega, by go_num, .inr (.inr ⟨rfl, by rw [HN.out]; exact I.out.1⟩), I.out.2⟩
            case measure => simp [intOf]
          | some ad =>
            have CN : Hid (∀ (j : Nat) (u : Value), (scells ks)[j]? = some u → wr.cell? (ad.add j) = some u) := fun j u hj => by
              have hj' : j < ks.length := by
                have := (List.getElem?_eq_some_iff.1 hj).1
                simpa [scells] using this
              obtain ⟨b, o, e, hc⟩ := SA j hj'
              obtain rfl := Option.some.inj e
              rw [Addr.add_mid, hc]
              simp [scells, hj'] at hj
              rw [hj]
            clear SA
            go_wp2_with (first
              | (at_builtin; refine wpList_append_own _ rfl _ _ 73 rfl w.heap.size 9 i0 (.string ⟨#[]⟩) 1 16 Tryd.underlying73 hi hz0 hz1 hz2 rfl (by decide) _ _ _ rfl I.out.1 ad n cap (scells ks) rfl (by rw [Nat.mul_one]; simpa [scells] using hn.out) CN.out (by intro v hv; simp only [scells, List.mem_map] at hv; obtain ⟨x, -, rfl⟩ := hv; rfl) (by unfold maxLen; omega) (by have := hb.out; omega) I.out.2.size ?_; intro v1 w2 hown1 hgrow1 hnil1))
            go_roundw
            case rel => exact ⟨2, by omega, by go_num, .inr (.inr ⟨rfl, by rw [Nat.add_comm 1 n] at hown1; exact hown1⟩), I.out.2.grown hgrow1 I.out.2.size (fun q hq => (I.out.1.lt q hq).1)⟩
            case measure => simp [intOf]
        · obtain ⟨hl1, h2⟩ := owns_strs ow
          rcases h2 with ⟨rfl, h3⟩ | ⟨g, cap', rfl, h3⟩
          · omega
          · have J3 : Hid (StrAt wr (some ⟨g, 0, none⟩) (x :: ks) ∧ Below w.heap.size w wr) := ⟨h3, J2⟩
            clear ow J2 h3
            go_wp2
            go_ret
            exact ⟨g, cap', rfl, J3.out⟩
end Go.Proofs.YtbkefhfbbhdpcaaDoor

/- The program's keyed layer: tags. -/
namespace Go.Proofs.YtbkefhfbbhdpcaaDoor
open Go.RowKit Go.Proofs.Fd Go.Proofs.Hs
set_option maxRecDepth 20000

set_option maxHeartbeats 1000000 in
theorem tag_any (xi xo : ByteArray) (a : Option Addr) (ks : List ByteArray) (n cap : Nat) (w : World) (hn : Hid (ks.length = n)) (hb : Hid (n * 16 + 1024 ≤ 140737488355328)) (hx : Hid (xi.size ≤ 140737488355328 ∧ xo.size ≤ 140737488355328)) (hs : Hid (∀ s ∈ ks, s.size ≤ 140737488355328)) (hK : Hid (Kh w)) (hc : Hid (StrAt w a ks)) :
    Calls Tryd.prog 56 #[.agg #[.string xi, .string xo], .slice a n cap] w fun e w' => e = .returned (.string ⟨(sha (xo.data.toList ++ sha (xi.data.toList ++ jnd ks))).toArray⟩) ∧ Below w.heap.size w w' := by
  obtain ⟨D, hD⟩ : ∃ D : ByteArray, ⟨(sha (xi.data.toList ++ jnd ks)).toArray⟩ = D := ⟨_, rfl⟩
  have DL : Hid (D.size = 32 ∧ sha (xi.data.toList ++ jnd ks) = D.data.toList) := by rw [← hD]; exact ⟨rfl, rfl⟩
  rw [DL.out.2]
  obtain ⟨R, hR⟩ : ∃ R : ByteArray, ⟨(sha (xo.data.toList ++ D.data.toList)).toArray⟩ = R := ⟨_, rfl⟩
  rw [hR]
  have C2 : Hid (∀ (B b1 : Nat) (w' : World), Below w.heap.size w w' → w'.cell? ⟨B, 0, none⟩ = some (.slice (some ⟨b1, 0, none⟩) 1 1) → w'.cell? ⟨B, 1, none⟩ = some (.slice a n cap) → w'.cell? ⟨b1, 0, none⟩ = some (.string xi) → Calls Tryd.prog 70 #[.slice (some ⟨B, 0, none⟩) 2 2] w' fun e w'' => ∃ g cap', e = .returned (.slice (some ⟨g, 0, none⟩) (n + 1) cap') ∧ StrAt w'' (some ⟨g, 0, none⟩) (xi :: ks) ∧ Below w'.heap.size w' w'') := fun B b1 w' h0 h1 h2 h3 =>
    Concat_two B b1 xi a ks n cap hn hb w' h1 h2 h3 (StrAt.later hc.out h0 rfl)
  have SM1 : Hid (∀ (g cp : Nat) (w' : World), Below w.heap.size w w' → StrAt w' (some ⟨g, 0, none⟩) (xi :: ks) → Calls Tryd.prog 69 #[.slice (some ⟨g, 0, none⟩) (n + 1) cp] w' fun e w'' => e = .returned (.string D) ∧ Below w'.heap.size w' w'') := fun g cp w' h0 h1 => by
    have k := hK.out.later h0
    have h := Sum_any (some ⟨g, 0, none⟩) (xi :: ks) (n + 1) cp (by show (xi :: ks).length = n + 1; rw [List.length_cons, hn.out]) (by have := hb.out; omega) w' k.1 k.2 h1 (fun s hs' => by
      rcases List.mem_cons.1 hs' with rfl | h
      · have := hx.out.1; omega
      · have := hs.out s h; omega)
    rw [← hD]
    exact h
  have SM2 : Hid (∀ (B : Nat) (w' : World), Below w.heap.size w w' → w'.cell? ⟨B, 0, none⟩ = some (.string xo) → w'.cell? ⟨B, 1, none⟩ = some (.string D) → Calls Tryd.prog 69 #[.slice (some ⟨B, 0, none⟩) 2 2] w' fun e w'' => e = .returned (.string R) ∧ Below w'.heap.size w' w'') := fun B w' h0 h1 h2 => by
    have k := hK.out.later h0
    have h := Sum_any (some ⟨B, 0, none⟩) [xo, D] 2 2 rfl (by omega) w' k.1 k.2 (strAt2 h1 h2) (fun s hs' => by
      simp at hs'
      rcases hs' with rfl | rfl
      · have := hx.out.2; omega
      · have := DL.out.1; omega)
    rw [← hR]
    simpa using h
  clear hD hR
  obtain ⟨W, hW⟩ : ∃ W, w.alloc (.cells #[.string xi, .string xo] 75) = W := ⟨_, rfl⟩
  have BW : Hid (Below w.heap.size w W ∧ W.cell? ⟨w.heap.size, 0, none⟩ = some (.string xi) ∧ W.cell? ⟨w.heap.size, 1, none⟩ = some (.string xo)) := by
    rw [← hW]
    exact ⟨(Below.refl _ _).alloc (Nat.le_refl _) _, by simp [go_sem], by simp [go_sem]⟩
  have KP : Hid (∀ w', Below W.heap.size W w' → Below W.heap.size W w' ∧ w'.cell? ⟨w.heap.size, 0, none⟩ = some (.string xi) ∧ w'.cell? ⟨w.heap.size, 1, none⟩ = some (.string xo)) := fun w' h => ⟨h, cell_later h BW.out.2.1, cell_later h BW.out.2.2⟩
  have BB : Hid (∀ w', Below W.heap.size W w' → Below w.heap.size w w') := fun w' h => chain BW.out.1 h
  go_enter Tryd.func56, Tryd.ntmps56
  go_wp2
  go_region_held3 (fun w' => Below W.heap.size W w' ∧ w'.cell? ⟨w.heap.size, 0, none⟩ = some (.string xi) ∧ w'.cell? ⟨w.heap.size, 1, none⟩ = some (.string xo)) (first | exact KP.out _ (Below.refl _ _).drew | exact KP.out _ (chain (And.left (by assumption)) hb3) | exact KP.out _ (chain (And.left (by assumption)) hb2) | exact KP.out _ (chain (And.left (by assumption)) hb1) | exact KP.out _ (Below.alloc (And.left (by assumption)) (Below.size (And.left (by assumption))) _) | assumption) (first | (go_at_call 70; refine Calls.mono (C2.out (W.heap.size + 1) W.heap.size _ (BB.out _ (And.left (by assumption))) ?_ ?_ ?_) ?_; (focus first | (simp [go_sem]; done)); (focus first | (simp [go_sem]; done)); (focus first | (simp [go_sem]; done)); rintro e w3 ⟨g, cp, rfl, SA, hb1⟩) | (go_at_call 69; revert SA; intro SA; refine Calls.mono (SM1.out _ _ _ (BB.out _ (And.left (by assumption))) SA) ?_; clear SA; rintro e w4 ⟨rfl, hb2⟩) | (go_at_call 69; refine Calls.mono (SM2.out _ _ (BB.out _ (And.left (by assumption))) ?_ ?_) ?_; (focus first | (simp [go_sem]; done)); (focus first | (simp [go_sem]; done)); rintro e w5 ⟨rfl, hb3⟩))
  all_goals
    rename_i hH
    have BF : Hid (Below w.heap.size w w5) := BB.out _ hH.1
    clear hH
    go_wp2
    go_ret
    exact ⟨rfl, BF.out⟩
end Go.Proofs.YtbkefhfbbhdpcaaDoor

/- The program's keyed layer: the contracts of tags, and of what is extracted, hold. -/
namespace Go.Proofs.YtbkefhfbbhdpcaaDoor
open Go.RowKit Go.Proofs.Fd Go.Proofs.Hs
set_option maxRecDepth 20000

set_option maxHeartbeats 1000000 in
theorem tag_c : TagC := fun key a ks n cap w hn hb hk hs hK hc => by
  obtain ⟨XI, hXI⟩ : ∃ X : ByteArray, ⟨(xk 54 key.data.toList).toArray⟩ = X := ⟨_, rfl⟩
  obtain ⟨XO, hXO⟩ : ∃ X : ByteArray, ⟨(xk 92 key.data.toList).toArray⟩ = X := ⟨_, rfl⟩
  have PA : Hid (∀ w', Kh w' → Calls Tryd.prog 55 #[.string key] w' fun e w'' => e = .returned (.agg #[.string XI, .string XO]) ∧ Below w'.heap.size w' w'') := fun w' h => by
    rw [← hXI, ← hXO]; exact padded_any key w' hk h
  have TG : Hid (∀ w', Below w.heap.size w w' → Calls Tryd.prog 56 #[.agg #[.string XI, .string XO], .slice a n cap] w' fun e w'' => e = .returned (.string ⟨(hmac key.data.toList (jnd ks)).toArray⟩) ∧ Below w'.heap.size w' w'') := fun w' h => by
    have h := tag_any XI XO a ks n cap w' hn hb ⟨by rw [← hXI, ba_size, xk_len]; decide, by rw [← hXO, ba_size, xk_len]; decide⟩ hs (hK.out.later h) (StrAt.later hc.out h rfl)
    rw [← hXI, ← hXO] at h ⊢
    exact h
  clear hXI hXO
  generalize (⟨(hmac key.data.toList (jnd ks)).toArray⟩ : ByteArray) = R at *
  have BB : Hid (Kh w) := hK
  go_enter Tryd.func40, Tryd.ntmps40
  go_wp2_with fail
  refine Calls.mono (PA.out _ BB.out) ?_
  rintro e w1 ⟨rfl, hb1⟩
  have B1 : Hid (Below w.heap.size w w1) := hb1
  clear hb1 PA
  go_wp2_with fail
  refine Calls.mono (TG.out _ B1.out) ?_
  rintro e w2 ⟨rfl, hb2⟩
  have B2 : Hid (Below w.heap.size w w2) := chain B1.out hb2
  clear hb2 TG
  go_wp2
  go_ret
  exact ⟨rfl, B2.out⟩

set_option maxHeartbeats 1000000 in
theorem extract_c : ExtractC := fun a b w ha hb hK => by
  have TG : Hid (∀ (B : Nat) (w : World), Kh w → w.cell? ⟨B, 0, none⟩ = some (.string b) → Calls Tryd.prog 40 #[.string a, .slice (some ⟨B, 0, none⟩) 1 1] w fun e w' => e = .returned (.string ⟨(hmac a.data.toList b.data.toList).toArray⟩) ∧ Below w.heap.size w w') := fun B w h h0 => by
    have h := tag_c a (some ⟨B, 0, none⟩) [b] 1 1 w rfl (by show _ ≤ _; decide) ha (fun s hs => by simp at hs; subst hs; exact hb.out) h (strAt1 h0)
    rw [jnd_one] at h
    exact h
  generalize (⟨(hmac a.data.toList b.data.toList).toArray⟩ : ByteArray) = R at *
  go_enter Tryd.func45, Tryd.ntmps45
  go_wp2_with fail
  refine Calls.mono (TG.out w.heap.size _ (hK.out.alloc _) (by simp [go_sem])) ?_
  rintro e w1 ⟨rfl, hb1⟩
  have B1 : Hid (Below w.heap.size w w1) := chain ((Below.refl _ _).alloc (Nat.le_refl _) _) hb1
  clear hb1 TG
  go_wp2
  go_ret
  exact ⟨rfl, B1.out⟩

theorem Expand_no (key info : ByteArray) (n : Int) (h : n < 0 ∨ 8160 < n) (w : World) :
    Calls Tryd.prog 44 #[.string key, .string info, .int .i64 n] w fun e w' => e = .returned (.tuple #[.string ⟨#[]⟩, .int .i64 1]) ∧ Below w.heap.size w w' := by
  by_cases h1 : n < 0
  · go_enter Tryd.func44, Tryd.ntmps44
    go_wp2
    go_ret2
    exact ⟨rfl, Below.refl _ _⟩
  · have h2 : 8160 < n := by omega
    clear h
    go_enter Tryd.func44, Tryd.ntmps44
    go_wp2
    go_ret2
    exact ⟨rfl, Below.refl _ _⟩
end Go.Proofs.YtbkefhfbbhdpcaaDoor

/- The program's keyed layer: what is expanded and derived. -/
namespace Go.Proofs.YtbkefhfbbhdpcaaDoor
open Go.RowKit Go.Proofs.Fd Go.Proofs.Hs
set_option maxRecDepth 20000

theorem own_bytesAt {w : World} {base g n cap : Nat} {l : List UInt8} (h : w.ownsRow base 5 1 (.slice (some ⟨g, 0, none⟩) n cap) n (bcells l)) : BytesAt w g l := fun i hi => by
  have hl : l.length = n := by have := h.1; simpa [bcells] using this
  refine ⟨?_, h.frozenAt i⟩
  rw [h.cellAt i (by omega)]
  simp [bcells, hi]
theorem BytesAt.part {w : World} {b : Nat} {l : List UInt8} (h : BytesAt w b l) (n : Nat) : BytesAt w b (l.take n) := fun j hj => by
  have hj' : j < l.length := by rw [List.length_take] at hj; omega
  rw [List.getElem_take]
  exact h j hj'

set_option maxHeartbeats 2000000 in
theorem Expand_ok (key info : ByteArray) (n : Nat) (hn : n ≤ 8160) (hk : Hid (key.size ≤ 140737488355328)) (hi : Hid (info.size + 97 ≤ 140737488355328)) (w : World) (hK : Hid (Kh w)) :
    Calls Tryd.prog 44 #[.string key, .string info, .int .i64 (n : Int)] w fun e w' => e = .returned (.tuple #[.string ⟨(xpn key.data.toList info.data.toList n).toArray⟩, .int .i64 0]) ∧ Below w.heap.size w w' := by
  obtain ⟨XI, hXI⟩ : ∃ X : ByteArray, ⟨(xk 54 key.data.toList).toArray⟩ = X := ⟨_, rfl⟩
  obtain ⟨XO, hXO⟩ : ∃ X : ByteArray, ⟨(xk 92 key.data.toList).toArray⟩ = X := ⟨_, rfl⟩
  have PA : Hid (∀ w', Kh w' → Calls Tryd.prog 55 #[.string key] w' fun e w'' => e = .returned (.agg #[.string XI, .string XO]) ∧ Below w'.heap.size w' w'') := fun w' h => by
    rw [← hXI, ← hXO]; exact padded_any key w' hk h
  have g1 : ¬ (n : Int) < 0 := by omega
  have g2 : ¬ (8160 : Int) < (n : Int) := by omega
  have g3 : (n : Int) ≤ 8160 := by omega
  go_enter Tryd.func44, Tryd.ntmps44
  go_wp2_with fail
  refine Calls.mono (PA.out _ hK.out) ?_
  rintro e w1 ⟨rfl, hb1⟩
  have B1 : Hid (Below w.heap.size w w1 ∧ Kh w1) := ⟨hb1, hK.out.later hb1⟩
  clear hb1 PA
  obtain ⟨i0, hii, hz0, hz1, hz2⟩ := info_parts infoByte
  obtain ⟨A, hA⟩ : ∃ A, w1.alloc (.cells #[.string XI, .string XO] 75) = A := ⟨_, rfl⟩
  have CA : Hid (A.cell? ⟨w1.heap.size, 0, none⟩ = some (.string XI) ∧ A.cell? ⟨w1.heap.size, 1, none⟩ = some (.string XO) ∧ Below w.heap.size w A ∧ w1.heap.size < A.heap.size) := by
    rw [← hA]
    exact ⟨by simp [go_sem], by simp [go_sem], chain B1.out.1 ((Below.refl _ _).alloc (Nat.le_refl _) _), by simp⟩
  have hm := run_make_own (P := Tryd.prog) A A.heap.size 30 5 i0 (.int .u8 0) 1 Tryd.underlying30 hii hz0 hz1 .i64 .i64 (n + 32) (by rw [hz2]; omega) (by unfold maxLen; omega) (Nat.le_refl _)
  obtain ⟨W, hmk, hown, hgrown⟩ := hm
  have OW : Hid (W.ownsRow A.heap.size 5 1 (.slice (some ⟨A.heap.size, 0, none⟩) 0 (n + 32)) 0 [] ∧ Below A.heap.size A W) := ⟨hown, (Below.refl _ _).grown hgrown (Nat.le_refl _) (fun k h => by cases h)⟩
  have e2 : ((n + 32 : Nat) : Int) = (n : Int) + 32 := by omega
  rw [e2] at hmk
  have e3 : IntKind.i64.wrap ((n : Int) + 32) = (n : Int) + 32 := by rw [IntKind.wrap_i64]; omega
  clear hown hgrown e2
  have TG : Hid (∀ (j B : Nat) (L Bb : ByteArray) (w' : World), L.data.toList = tg key.data.toList info.data.toList j → Bb.data.toList = [UInt8.ofNat (j + 1)] → L.size ≤ 140737488355328 → Bb.size ≤ 140737488355328 → Below w.heap.size w w' → w'.cell? ⟨B, 0, none⟩ = some (.string L) → w'.cell? ⟨B, 1, none⟩ = some (.string info) → w'.cell? ⟨B, 2, none⟩ = some (.string Bb) → Calls Tryd.prog 56 #[.agg #[.string XI, .string XO], .slice (some ⟨B, 0, none⟩) 3 3] w' fun e w'' => e = .returned (.string ⟨(tg key.data.toList info.data.toList (j + 1)).toArray⟩) ∧ Below w'.heap.size w' w'') := fun j B L Bb w' hL hB zL zB hw h0 h1 h2 => by
    have h := tag_any XI XO (some ⟨B, 0, none⟩) [L, info, Bb] 3 3 w' rfl (by show _ ≤ _; decide) ⟨by rw [← hXI, ba_size, xk_len]; decide, by rw [← hXO, ba_size, xk_len]; decide⟩ (fun s hs => by
      simp at hs
      rcases hs with rfl | rfl | rfl
      · exact zL
      · have := hi.out; omega
      · exact zB) (hK.out.later hw) (strAt3 h0 h1 h2)
    have e : sha (XO.data.toList ++ sha (XI.data.toList ++ jnd [L, info, Bb])) = tg key.data.toList info.data.toList (j + 1) := by
      show _ = hmac key.data.toList (tg key.data.toList info.data.toList j ++ info.data.toList ++ [UInt8.ofNat (j + 1)])
      unfold hmac
      rw [← hXI, ← hXO, ← hL, ← hB]
      simp [jnd]
    rw [e] at h
    exact h
  clear hXI hXO
  go_wp2
  go_loopw [9, 10, 11] (fun ah sl nu wr => ∃ j g cap : Nat, 32 * j < n + 32 ∧ ah = .string ⟨(tg key.data.toList info.data.toList j).toArray⟩ ∧ sl = .slice (some ⟨g, 0, none⟩) (32 * j) cap ∧ nu = .int .u8 ((UInt8.ofNat (j + 1)).toNat : Int) ∧ Hid (wr.ownsRow A.heap.size 5 1 (.slice (some ⟨g, 0, none⟩) (32 * j) cap) (32 * j) (bcells (tgs key.data.toList info.data.toList j)) ∧ Below A.heap.size A wr)) (fun _ sl _ _ => 8192 - (match sl with | .slice _ n _ => n | _ => 0))
  case atStart => exact ⟨0, A.heap.size, n + 32, by omega, rfl, rfl, rfl, OW.out⟩
  case round =>
    obtain ⟨j, g, cap, hj, rfl, rfl, rfl, I⟩ := hrel
    clear OW hmk e3
    by_cases hlt : 32 * j < n
    · have c0 := cell_later I.out.2 CA.out.1
      have c1 := cell_later I.out.2 CA.out.2.1
      have g4 : 32 * (j : Int) < (n : Int) := by omega
      obtain ⟨b, hbb⟩ : ∃ b, UInt8.ofNat (j + 1) = b := ⟨_, rfl⟩
      have NB : Hid (IntKind.u8.wrap ((b.toNat : Int) + 1) = ((UInt8.ofNat (j + 1 + 1)).toNat : Int)) := by
        show _ = _
        rw [IntKind.wrap_u8, ← hbb, UInt8.toNat_ofNat', UInt8.toNat_ofNat']; omega
      have CB : (convert 30 9 (.slice (some ⟨wr.heap.size, 0, none⟩) 1 1)).run Tryd.prog (wr.alloc (.cells #[.int .u8 (b.toNat : Int)] 5)) = .ok (.string ⟨[b].toArray⟩) (wr.alloc (.cells #[.int .u8 (b.toNat : Int)] 5)) := by
        have h : BytesAt (wr.alloc (.cells #[.int .u8 (b.toNat : Int)] 5)) wr.heap.size [b] := fun i hi => by
          obtain rfl : i = 0 := by simp at hi; omega
          exact ⟨by rw [World.cell?_alloc_new]; rfl, by simp [go_sem]⟩
        exact h.string rfl
      obtain ⟨L, hL⟩ : ∃ X : ByteArray, ⟨(tg key.data.toList info.data.toList j).toArray⟩ = X := ⟨_, rfl⟩
      obtain ⟨Bb, hB⟩ : ∃ X : ByteArray, ⟨[b].toArray⟩ = X := ⟨_, rfl⟩
      obtain ⟨N, hN⟩ : ∃ X : ByteArray, ⟨(tg key.data.toList info.data.toList (j + 1)).toArray⟩ = X := ⟨_, rfl⟩
      have zL : L.size ≤ 140737488355328 := by
        rw [← hL, ba_size]
        cases j with
        | zero => exact Nat.zero_le _
        | succ j => rw [tg_len]; decide
      have T1 : Hid (∀ (B : Nat) (w' : World), Below w.heap.size w w' → w'.cell? ⟨B, 0, none⟩ = some (.string L) → w'.cell? ⟨B, 1, none⟩ = some (.string info) → w'.cell? ⟨B, 2, none⟩ = some (.string Bb) → Calls Tryd.prog 56 #[.agg #[.string XI, .string XO], .slice (some ⟨B, 0, none⟩) 3 3] w' fun e w'' => e = .returned (.string N) ∧ Below w'.heap.size w' w'') := fun B w' hw h0 h1 h2 => by
        rw [← hN]
        exact TG.out j B L Bb w' (by rw [← hL]) (by rw [← hB, hbb]) zL (by rw [← hB]; show (1 : Nat) ≤ _; decide) hw h0 h1 h2
      have NN : Hid (N.size = 32 ∧ bcells (tgs key.data.toList info.data.toList (j + 1)) = bcells (tgs key.data.toList info.data.toList j) ++ Go.Lib.strCells N ∧ N = ⟨(tg key.data.toList info.data.toList (j + 1)).toArray⟩) := by
        refine ⟨by rw [← hN, ba_size, tg_len], ?_, hN.symm⟩
        rw [strCells_eq, tgs_succ, ← hN]
        simp [bcells]
      rw [hB] at CB
      rw [hbb, hL]
      clear hL hB hN zL TG
      go_wp2_with fail
      refine Calls.mono (T1.out (wr.heap.size + 1) _ (chain CA.out.2.2.1 ((I.out.2.alloc I.out.2.size _).alloc (by have := I.out.2.size; simp; omega) _)) (by simp [go_sem]) (by simp [go_sem]) (by simp [go_sem])) ?_
      rintro e w3 ⟨rfl, hb3⟩
      have I3 : Hid (w3.ownsRow A.heap.size 5 1 (.slice (some ⟨g, 0, none⟩) (32 * j) cap) (32 * j) (bcells (tgs key.data.toList info.data.toList j)) ∧ Below A.heap.size A w3) := by
        have hb' : Below wr.heap.size wr w3 := chain (((Below.refl _ _).alloc (Nat.le_refl _) _).alloc (by simp) _) hb3
        exact ⟨own_later I.out.1 hb', chain I.out.2 hb'⟩
      clear hb3 T1 CB c0 c1
      go_wp2_with (first
        | (at_builtin; refine Go.Lib.wpList_append_own_string _ rfl _ _ 30 9 rfl A.heap.size 5 i0 Tryd.underlying30 Tryd.underlying9 hii hz0 hz1 hz2 _ _ _ rfl I3.out.1 N rfl (by have := NN.out.1; unfold maxLen; omega) (by have := NN.out.1; omega) I3.out.2.size ?_; intro v1 w4 hown1 hgrow1 hnil1))
      rcases hown1.2 with ⟨h, -⟩ | ⟨g', cap', cur, hv, -, -, -⟩
      · exact absurd (hnil1.1 h).1 (by intro q; cases q)
      · subst hv
        rw [← NN.out.2.1, NN.out.1, show 32 * j + 32 = 32 * (j + 1) by omega] at hown1
        rw [NN.out.1, show 32 * j + 32 = 32 * (j + 1) by omega]
        refine ⟨⟨j + 1, g', cap', by omega, by rw [NN.out.2.2], rfl, by rw [← NB.out, IntKind.wrap_u8], hown1, I3.out.2.grown hgrow1 I3.out.2.size (fun q hq => (I3.out.1.lt q hq).1)⟩, ?_⟩
        show 8192 - 32 * (j + 1) < 8192 - 32 * j
        omega
    · have g4 : ¬ 32 * (j : Int) < (n : Int) := by omega
      have OB := own_bytesAt I.out.1
      have XP := xpn_of key.data.toList info.data.toList n j (by omega)
      have CV := (OB.part n).string (cap := cap) (n := n) (by rw [XP, xpn_len])
      rw [XP] at CV
      have gc : 32 * j ≤ cap := by
        rcases I.out.1.2 with ⟨h, -⟩ | ⟨g', cap', cur, h, -, -, h2, -⟩
        · cases h
        · injection h with q1 q2 q3; omega
      have g5 : (n : Int) ≤ (cap : Int) := by omega
      obtain ⟨R, hR⟩ : ∃ X : ByteArray, ⟨(xpn key.data.toList info.data.toList n).toArray⟩ = X := ⟨_, rfl⟩
      have HR : Hid (_ = _) := hR
      rw [hR] at CV
      clear hR OB XP
      have BF : Hid (Below w.heap.size w wr) := chain CA.out.2.2.1 I.out.2
      go_wp2
      rw [HR.out]
      go_ret2
      exact ⟨rfl, BF.out⟩

theorem expand_c : ExpandC := fun k i n w hk hi hK => by
  unfold xpV
  by_cases h : n < 0 ∨ 8160 < n
  · rw [if_pos h]; exact Expand_no k i n h w
  · rw [if_neg h]
    obtain ⟨m, rfl⟩ : ∃ m : Nat, n = (m : Int) := ⟨n.toNat, by omega⟩
    exact Expand_ok k i m (by omega) hk hi w hK

set_option maxHeartbeats 1000000 in
theorem derive_c : DeriveC := fun k i n w hk hi hK => by
  have EX : Hid (∀ w', Kh w' → Calls Tryd.prog 45 #[.string ⟨#[100, 111, 118, 101, 99, 111, 116, 101]⟩, .string k] w' fun e w'' => e = .returned (.string ⟨(hmac [100, 111, 118, 101, 99, 111, 116, 101] k.data.toList).toArray⟩) ∧ Below w'.heap.size w' w'') := fun w' h => extract_c ⟨#[100, 111, 118, 101, 99, 111, 116, 101]⟩ k w' (by show (8 : Nat) ≤ _; decide) (by have := hk.out; show _ ≤ _; omega) h
  have XE : Hid (∀ w', Kh w' → Calls Tryd.prog 44 #[.string ⟨(hmac [100, 111, 118, 101, 99, 111, 116, 101] k.data.toList).toArray⟩, .string i, .int .i64 n] w' fun e w'' => e = .returned (.tuple (drV k i n)) ∧ Below w'.heap.size w' w'') := fun w' h => by
    have h := expand_c ⟨(hmac [100, 111, 118, 101, 99, 111, 116, 101] k.data.toList).toArray⟩ i n w' (by rw [ba_size, hmac_len]; show (32 : Nat) ≤ _; decide) hi h
    exact h
  obtain ⟨X, e, hX⟩ := drV_form k i n
  rw [hX] at XE ⊢
  generalize (⟨(hmac [100, 111, 118, 101, 99, 111, 116, 101] k.data.toList).toArray⟩ : ByteArray) = S at *
  clear hX
  go_enter Tryd.func35, Tryd.ntmps35
  go_wp2_with fail
  refine Calls.mono (EX.out _ hK.out) ?_
  rintro e w1 ⟨rfl, hb1⟩
  have B1 : Hid (Below w.heap.size w w1 ∧ Kh w1) := ⟨hb1, hK.out.later hb1⟩
  clear hb1 EX
  go_wp2_with fail
  refine Calls.mono (XE.out _ B1.out.2) ?_
  rintro e w2 ⟨rfl, hb2⟩
  have B2 : Hid (Below w.heap.size w w2) := chain B1.out.1 hb2
  clear hb2 XE
  go_wp2
  go_ret2
  exact ⟨rfl, B2.out⟩
end Go.Proofs.YtbkefhfbbhdpcaaDoor
