/- The document's texts. -/
import Derived.Test.YtbogoheigbiegaaDoorZgG31
namespace Go.Proofs.Ml
def slotR (s : Sl) : List UInt8 := pad 16 (by' s.id) ++ ([UInt8.ofNat s.tx.size] ++ pad 222 (by' s.tx))
theorem slotR_eq {s : Sl} (h : emB s = true ∨ okS s = true) : slotR s = slot s := by
  rcases h with h | h
  · rw [em_of h]
    show zr 16 ++ ((0 : UInt8) :: zr 222) = (0 : UInt8) :: zr 238
    rw [← List.replicate_succ (n := 222), List.replicate_append_replicate, ← List.replicate_succ (n := 238)]
  · obtain ⟨⟨a, -⟩, c⟩ := okS_of h
    unfold slotR slot pad
    have e1 : 239 - (by' s.id ++ ([UInt8.ofNat s.tx.size] ++ by' s.tx)).length = 222 - (by' s.tx).length := by
      rw [List.length_append, List.length_append, by_len, by_len, a, List.length_singleton]; omega
    have e2 : 16 - (by' s.id).length = 0 := by rw [by_len, a]
    rw [e1, e2]
    simp
def accI (is : List ByteArray) (i : Nat) : List UInt8 := (List.range i).flatMap fun j => if j < is.length then by' (is.getD j e0) else zr 16
theorem accI_zero (is : List ByteArray) : accI is 0 = [] := rfl
theorem accI_yes (is : List ByteArray) (i : Nat) (h : i < is.length) : accI is (i + 1) = accI is i ++ by' is[i] := by
  unfold accI
  rw [List.range_succ, List.flatMap_append, List.flatMap_singleton, if_pos h, List.getD_eq_getElem?_getD, List.getElem?_eq_getElem h]; rfl
theorem accI_no (is : List ByteArray) (i : Nat) (h : ¬ i < is.length) : accI is (i + 1) = accI is i ++ zr 16 := by
  unfold accI
  rw [List.range_succ, List.flatMap_append, List.flatMap_singleton, if_neg h]
theorem accI_pre (is : List ByteArray) : ∀ i, i ≤ is.length → accI is i = flat (is.take i) := by
  intro i
  induction i with
  | zero => intro _; rfl
  | succ i ih =>
    intro h
    rw [accI_yes is i h, ih (by omega), List.take_succ_eq_append_getElem h]
    unfold flat
    rw [List.flatMap_append, List.flatMap_singleton]
theorem accI_post (is : List ByteArray) : ∀ d, accI is (is.length + d) = flat is ++ zr (16 * d) := by
  intro d
  induction d with
  | zero =>
    rw [Nat.add_zero, accI_pre is _ (Nat.le_refl _), List.take_of_length_le (Nat.le_refl _)]; simp
  | succ d ih =>
    rw [← Nat.add_assoc, accI_no is _ (by omega), ih, List.append_assoc]
    show _ ++ (zr _ ++ zr 16) = _
    rw [List.replicate_append_replicate, show 16 * d + 16 = 16 * (d + 1) by omega]
theorem accI_end (is : List ByteArray) (h : is.length ≤ 4) : accI is 4 = flat is ++ zr (16 * (4 - is.length)) := by
  have := accI_post is (4 - is.length)
  rw [show is.length + (4 - is.length) = 4 by omega] at this
  exact this
theorem accI_len (is : List ByteArray) (h : ∀ s ∈ is, s.size = 16) : ∀ i, (accI is i).length = 16 * i := by
  intro i
  induction i with
  | zero => rfl
  | succ i ih =>
    by_cases q : i < is.length
    · rw [accI_yes is i q, List.length_append, ih, by_len, h _ (List.getElem_mem q)]; omega
    · rw [accI_no is i q, List.length_append, ih, List.length_replicate]; omega
theorem slotR_b8 (id tx : ByteArray) : slotR ⟨id, tx⟩ = (pad 16 (by' id) ++ [b8 (tx.size : Int)]) ++ pad 222 (by' tx) := by
  have e : b8 (tx.size : Int) = UInt8.ofNat tx.size := by
    apply UInt8.toNat.inj
    rw [b8_nat, UInt8.toNat_ofNat']
    omega
  unfold slotR
  rw [e]
  simp
def slotsR (l : List Sl) : List UInt8 := l.flatMap slotR
theorem slotsR_eq : ∀ (l : List Sl), (∀ s ∈ l, emB s = true ∨ okS s = true) → slotsR l = slots l := by
  intro l
  induction l with
  | nil => intro _; rfl
  | cons x r ih =>
    intro h
    unfold slotsR at *
    rw [List.flatMap_cons, slots_cons, slotR_eq (h x List.mem_cons_self), ih (fun s hs => h s (List.mem_cons_of_mem _ hs))]
theorem slotsR_take (l : List Sl) (i : Nat) (h : i < l.length) : slotsR (l.take (i + 1)) = slotsR (l.take i) ++ slotR l[i] := by
  unfold slotsR
  rw [List.take_succ_eq_append_getElem h, List.flatMap_append, List.flatMap_singleton]
theorem txt_one {m : Ml} (h : okB m = true) (k : m.k = 1) : txt m = [1] ++ by' m.t := by
  have o := ok_cases h
  rcases o with ⟨-, -, -, t, g, s, i⟩ | ⟨hk, -⟩
  · have hb : body m = [1] ++ by' m.t := by
      unfold body
      rw [lead_one k, g, s, i]
      show [1] ++ (by' m.t ++ ([] ++ ([] ++ []))) = _
      simp
    unfold txt pad
    rw [hb, k, List.length_append, by_len, t]
    show _ ++ zr 0 = _
    simp
  · omega
theorem txt_ref {m : Ml} (h : okB m = true) (k1 : ¬ m.k = 1) : txt m = ([b8 m.k, b8 m.u, b8 (m.q / 16777216), b8 (m.q / 65536), b8 (m.q / 256), b8 m.q] ++ by' m.g) ++ (if m.k = 4 then accI m.ids 4 else []) ++ slotsR m.sl := by
  have lb := body_len h
  rcases ok_cases h with ⟨k, -⟩ | ⟨hk, -, t, hc⟩
  · exact absurd k k1
  have hb : body m = [b8 m.k, b8 m.u, b8 (m.q / 16777216), b8 (m.q / 65536), b8 (m.q / 256), b8 m.q] ++ (by' m.g ++ (flat m.ids ++ slots m.sl)) := by
    unfold body
    rw [lead_six k1, t, by_e0, List.nil_append]
  rcases hc with ⟨k, g, s, i⟩ | ⟨k, g, s, i, b⟩ | ⟨k, g, s, i, b⟩
  · rw [if_neg (by omega), s]
    unfold txt pad
    rw [hb, s, i, k, flat_nil, slots_nil]
    have e : long 2 - ([b8 2, b8 m.u, b8 (m.q / 16777216), b8 (m.q / 65536), b8 (m.q / 256), b8 m.q] ++ (by' m.g ++ ([] ++ []))).length = 0 := by
      rw [List.length_append, List.length_append, by_len, g]; rfl
    rw [e]
    show _ ++ (_ ++ ([] ++ [])) ++ [] = _ ++ [] ++ []
    simp
  · rw [if_neg (by omega), slotsR_eq _ (slB_each _ _ b)]
    have sl := slots_len _ (slB_each _ _ b)
    unfold txt pad
    rw [hb, i, k, g, flat_nil, by_e0]
    have e : long 3 - ([b8 3, b8 m.u, b8 (m.q / 16777216), b8 (m.q / 65536), b8 (m.q / 256), b8 m.q] ++ ([] ++ ([] ++ slots m.sl))).length = 0 := by
      rw [List.length_append, List.length_append, List.length_append, sl, s]
      show 962 - (6 + (0 + (0 + 239 * 4))) = 0
      omega
    rw [e]
    show _ ++ ([] ++ ([] ++ _)) ++ [] = _ ++ [] ++ [] ++ _
    simp
  · rw [if_pos k, accI_end _ i, s]
    have hs := ids_each b
    have fl := flat_len _ (fun x hx => (id_of (hs x hx)).1)
    unfold txt pad
    rw [hb, s, slots_nil]
    show [b8 m.k, b8 m.u, b8 (m.q / 16777216), b8 (m.q / 65536), b8 (m.q / 256), b8 m.q] ++ (by' m.g ++ (flat m.ids ++ [])) ++ zr (long m.k - _) = _ ++ (flat m.ids ++ zr (16 * (4 - m.ids.length))) ++ []
    rw [k]
    have e : 102 - ([b8 4, b8 m.u, b8 (m.q / 16777216), b8 (m.q / 65536), b8 (m.q / 256), b8 m.q] ++ (by' m.g ++ (flat m.ids ++ []))).length = 16 * (4 - m.ids.length) := by
      rw [List.length_append, List.length_append, List.append_nil, by_len, g, fl]
      show 102 - (6 + (32 + 16 * m.ids.length)) = _
      omega
    show _ ++ zr (102 - _) = _
    rw [e]
    simp
end Go.Proofs.Ml
namespace Go.Proofs.YtbogoheigbiegaaDoor.Mai
open Go.RowKit Go.Proofs.Fd Go.Proofs.Ml
set_option maxRecDepth 20000
theorem add_mk (l r : List UInt8) (x y z : ByteArray) (hx : mk l = x) (hy : mk r = y) (hz : mk (l ++ r) = z) (h : l.length + r.length ≤ 1000000) (w : World) : (Op.stringOp .add x y).run Tryd.prog w = .ok (.string z) w := by
  have sz : x.size + y.size ≤ 9223372036854775807 := by rw [← hx, ← hy, mk_size, mk_size]; omega
  rw [run_string_add_sum (P := Tryd.prog) w _ _ sz]
  have : x ++ y = z := by
    rw [← hx, ← hy, ← hz]
    apply ByteArray.ext
    unfold mk
    simp
  rw [this]
theorem bytesAt6 {w : World} {B : Nat} {x0 x1 x2 x3 x4 x5 : Int} (h0 : w.cell? ⟨B, 0, none⟩ = some (.int .u8 (x0 % 256)) ∧ w.frozen? ⟨B, 0, none⟩ = false) (h1 : w.cell? ⟨B, 1, none⟩ = some (.int .u8 (x1 % 256)) ∧ w.frozen? ⟨B, 1, none⟩ = false) (h2 : w.cell? ⟨B, 2, none⟩ = some (.int .u8 (x2 % 256)) ∧ w.frozen? ⟨B, 2, none⟩ = false) (h3 : w.cell? ⟨B, 3, none⟩ = some (.int .u8 (x3 % 256)) ∧ w.frozen? ⟨B, 3, none⟩ = false) (h4 : w.cell? ⟨B, 4, none⟩ = some (.int .u8 (x4 % 256)) ∧ w.frozen? ⟨B, 4, none⟩ = false) (h5 : w.cell? ⟨B, 5, none⟩ = some (.int .u8 (x5 % 256)) ∧ w.frozen? ⟨B, 5, none⟩ = false) : BytesAt w B [b8 x0, b8 x1, b8 x2, b8 x3, b8 x4, b8 x5] := by
  have e : ∀ x : Int, ((b8 x).toNat : Int) = x % 256 := fun x => by rw [b8_nat]; omega
  intro j hj
  rcases (by simp at hj; omega : j = 0 ∨ j = 1 ∨ j = 2 ∨ j = 3 ∨ j = 4 ∨ j = 5) with rfl | rfl | rfl | rfl | rfl | rfl
  · exact ⟨h0.1.trans (by show some (Value.int .u8 (x0 % 256)) = some (Value.int .u8 ((b8 x0).toNat : Int)); rw [e]), h0.2⟩
  · exact ⟨h1.1.trans (by show some (Value.int .u8 (x1 % 256)) = some (Value.int .u8 ((b8 x1).toNat : Int)); rw [e]), h1.2⟩
  · exact ⟨h2.1.trans (by show some (Value.int .u8 (x2 % 256)) = some (Value.int .u8 ((b8 x2).toNat : Int)); rw [e]), h2.2⟩
  · exact ⟨h3.1.trans (by show some (Value.int .u8 (x3 % 256)) = some (Value.int .u8 ((b8 x3).toNat : Int)); rw [e]), h3.2⟩
  · exact ⟨h4.1.trans (by show some (Value.int .u8 (x4 % 256)) = some (Value.int .u8 ((b8 x4).toNat : Int)); rw [e]), h4.2⟩
  · exact ⟨h5.1.trans (by show some (Value.int .u8 (x5 % 256)) = some (Value.int .u8 ((b8 x5).toNat : Int)); rw [e]), h5.2⟩
set_option maxHeartbeats 1000000 in
theorem rtext_one (u q : Int) (t g : ByteArray) (a : Option Addr) (n c : Nat) (a2 : Option Addr) (n2 c2 : Nat) (ss : List Sl) (is : List ByteArray) (h : okB ⟨1, u, q, t, g, ss, is⟩ = true) (w : World) :
    Calls Tryd.prog 49 #[mv 1 u q t g a n c a2 n2 c2] w fun e w' => e = .returned (.string (mk (txt ⟨1, u, q, t, g, ss, is⟩))) ∧ Below w.heap.size w w' := by
  have e := txt_one h rfl
  have o := ok_facts h
  simp only at o
  obtain ⟨R, hR⟩ : ∃ R, mk (txt ⟨1, u, q, t, g, ss, is⟩) = R := ⟨_, rfl⟩
  have AD := add_mk [1] (by' t) ⟨#[1]⟩ t R rfl rfl (by rw [← hR, e]) (by rw [by_len]; show 1 + t.size ≤ _; omega)
  rw [hR]
  clear hR e o h
  go_enter Tryd.func49, Tryd.ntmps49
  go_wp2
  go_ret
  exact ⟨rfl, (Below.refl _ _).alloc (Nat.le_refl _) _⟩
def opu0 : Oper := { dst := some 75, op := Go.Op.move (Go.Operand.tmp 3), type := 9, pos := "ref.go:89", after := #[], guard := none }
def opu1 : Oper := { dst := some 76, op := Go.Op.fieldAddr 83 (Go.Operand.tmp 6) 0, type := 0, pos := "ref.go:89", after := #[], guard := none }
def opu2 : Oper := { dst := some 77, op := Go.Op.load 9 (Go.Operand.tmp 76), type := 9, pos := "ref.go:89", after := #[{ on := 1, ground := Go.Ground.data }], guard := none }
def opu3 : Oper := { dst := some 78, op := Go.Op.call { callee := Go.Callee.value (Go.Operand.func 61), args := #[Go.Operand.tmp 77, Go.Operand.const (Go.Value.int Go.IntKind.i64 16)], argTypes := #[9, 3] }, type := 9, pos := "ref.go:89", after := #[{ on := 2, ground := Go.Ground.data }], guard := none }
def opu4 : Oper := { dst := some 79, op := Go.Op.fieldAddr 83 (Go.Operand.tmp 6) 1, type := 0, pos := "ref.go:89", after := #[], guard := none }
def opu5 : Oper := { dst := some 80, op := Go.Op.load 9 (Go.Operand.tmp 79), type := 9, pos := "ref.go:89", after := #[{ on := 4, ground := Go.Ground.data }], guard := none }
def opu6 : Oper := { dst := some 81, op := Go.Op.call { callee := Go.Callee.builtin Go.Builtin.len, args := #[Go.Operand.tmp 80], argTypes := #[9] }, type := 3, pos := "ref.go:89", after := #[{ on := 5, ground := Go.Ground.data }], guard := none }
def opu7 : Oper := { dst := some 82, op := Go.Op.convert 3 5 (Go.Operand.tmp 81), type := 5, pos := "ref.go:89", after := #[{ on := 6, ground := Go.Ground.data }], guard := none }
def opu8 : Oper := { dst := some 83, op := Go.Op.buildSlice 60 1 #[(0, Go.Operand.tmp 82)], type := 60, pos := "ref.go:89", after := #[{ on := 7, ground := Go.Ground.data }], guard := none }
def opu9 : Oper := { dst := some 84, op := Go.Op.convert 60 9 (Go.Operand.tmp 83), type := 9, pos := "ref.go:89", after := #[{ on := 8, ground := Go.Ground.data }], guard := none }
def opu10 : Oper := { dst := some 85, op := Go.Op.binOp Go.BinOp.add 9 (Go.Operand.tmp 78) (Go.Operand.tmp 84) 9, type := 9, pos := "ref.go:89", after := #[{ on := 3, ground := Go.Ground.data }, { on := 9, ground := Go.Ground.data }], guard := none }
def opu11 : Oper := { dst := some 86, op := Go.Op.fieldAddr 83 (Go.Operand.tmp 6) 1, type := 0, pos := "ref.go:89", after := #[], guard := none }
def opu12 : Oper := { dst := some 87, op := Go.Op.load 9 (Go.Operand.tmp 86), type := 9, pos := "ref.go:89", after := #[{ on := 11, ground := Go.Ground.data }], guard := none }
def opu13 : Oper := { dst := some 88, op := Go.Op.call { callee := Go.Callee.value (Go.Operand.func 61), args := #[Go.Operand.tmp 87, Go.Operand.const (Go.Value.int Go.IntKind.i64 222)], argTypes := #[9, 3] }, type := 9, pos := "ref.go:89", after := #[{ on := 12, ground := Go.Ground.data }, { on := 3, ground := Go.Ground.chain }], guard := none }
def opu14 : Oper := { dst := some 89, op := Go.Op.binOp Go.BinOp.add 9 (Go.Operand.tmp 85) (Go.Operand.tmp 88) 9, type := 9, pos := "ref.go:89", after := #[{ on := 10, ground := Go.Ground.data }, { on := 13, ground := Go.Ground.data }], guard := none }
def opu15 : Oper := { dst := some 90, op := Go.Op.binOp Go.BinOp.add 9 (Go.Operand.tmp 75) (Go.Operand.tmp 89) 9, type := 9, pos := "ref.go:89", after := #[{ on := 0, ground := Go.Ground.data }, { on := 14, ground := Go.Ground.data }], guard := none }
def opu16 : Oper := { dst := some 3, op := Go.Op.assign (Go.Operand.tmp 90), type := 9, pos := "ref.go:89", after := #[{ on := 15, ground := Go.Ground.data }, { on := 13, ground := Go.Ground.chain }, { on := 0, ground := Go.Ground.phase }, { on := 1, ground := Go.Ground.phase }, { on := 2, ground := Go.Ground.phase }, { on := 3, ground := Go.Ground.phase }, { on := 4, ground := Go.Ground.phase }, { on := 5, ground := Go.Ground.phase }, { on := 6, ground := Go.Ground.phase }, { on := 7, ground := Go.Ground.phase }, { on := 8, ground := Go.Ground.phase }, { on := 9, ground := Go.Ground.phase }, { on := 10, ground := Go.Ground.phase }, { on := 11, ground := Go.Ground.phase }, { on := 12, ground := Go.Ground.phase }, { on := 13, ground := Go.Ground.phase }, { on := 14, ground := Go.Ground.phase }, { on := 15, ground := Go.Ground.phase }], guard := none }
set_option maxHeartbeats 4000000 in
theorem rtext_4 (k u q : Int) (t g : ByteArray) (a : Option Addr) (n c : Nat) (a2 : Option Addr) (n2 c2 : Nat) (ss : List Sl) (is : List ByteArray) (h : okB ⟨k, u, q, t, g, ss, is⟩ = true) (k1 : ¬ k = 1) (k4 : Hid (k = 4)) (w : World) (L : Hid (Lists w a n c a2 n2 c2 ss is)) :
    Calls Tryd.prog 49 #[mv k u q t g a n c a2 n2 c2] w fun e w' => e = .returned (.string (mk (txt ⟨k, u, q, t, g, ss, is⟩))) ∧ Below w.heap.size w w' := by
  have tr := txt_ref h k1
  have of := ok_facts h
  simp only at tr of
  rw [L.out.ls, L.out.li] at of
  obtain ⟨l6, hl6⟩ : ∃ l, [b8 k, b8 u, b8 (q / 16777216), b8 (q / 65536), b8 (q / 256), b8 q] = l := ⟨_, rfl⟩
  rw [hl6] at tr
  have l6l : l6.length = 6 := by rw [← hl6]; rfl
  have hids : ∀ s ∈ is, s.size = 16 := by
    intro s hs
    rcases ok_cases h with ⟨-, -, -, -, -, -, i⟩ | ⟨-, -, -, ⟨-, -, -, i⟩ | ⟨-, -, -, i, -⟩ | ⟨-, -, -, -, b⟩⟩
    · simp only at i; rw [i] at hs; cases hs
    · simp only at i; rw [i] at hs; cases hs
    · simp only at i; rw [i] at hs; cases hs
    · exact (id_of (ids_each b s hs)).1
  have hsl := slots_ok h
  simp only at hsl
  obtain ⟨R, hR⟩ : ∃ R, mk (txt ⟨k, u, q, t, g, ss, is⟩) = R := ⟨_, rfl⟩
  have HR : Hid (mk ((l6 ++ by' g) ++ (if k = 4 then accI is 4 else []) ++ slotsR ss) = R) := by show _ = _; rw [← hR, tr]
  rw [hR]
  clear hR tr h
  obtain ⟨S6, hS6⟩ : ∃ S, mk l6 = S := ⟨_, rfl⟩
  obtain ⟨S0, hS0⟩ : ∃ S, mk (l6 ++ by' g) = S := ⟨_, rfl⟩
  have AD0 := add_mk l6 (by' g) S6 g S0 hS6 rfl hS0 (by rw [l6l, by_len]; omega)
  have G : Hid (n ≤ 4 ∧ n2 ≤ 4 ∧ g.size ≤ 32 ∧ l6.length = 6 ∧ (∀ s ∈ is, s.size = 16) ∧ (∀ s ∈ ss, emB s = true ∨ okS s = true) ∧ mk (l6 ++ by' g) = S0) := ⟨by omega, by omega, by omega, l6l, hids, hsl, hS0⟩
  have kk : Hid (k = 2 ∨ k = 3 ∨ k = 4) := by show _ ∨ _; omega
  have n0' : Hid (n = 0) := by show _ = _; have := k4.out; omega
  clear of hids hsl hS0 l6l
  have CVS : Hid (∀ (V : World) (B : Nat), BytesAt V B l6 → (convert 60 9 (.slice (some ⟨B, 0, none⟩) 6 6)).run Tryd.prog V = .ok (.string S6) V) := fun V B hB => by
    have := hB.string (cap := 6) (n := 6) G.out.2.2.2.1
    rw [show (⟨l6.toArray⟩ : ByteArray) = S6 from hS6] at this
    exact this
  obtain ⟨X, hX, HX⟩ : ∃ X, (w.alloc (.cells #[.int .i64 k, .int .i64 u, .int .i64 q, .string t, .string g, .slice a n c, .slice a2 n2 c2] 38)).alloc (.cells #[.int .u8 (k % 256), .int .u8 (u % 256), .int .u8 (q / 16777216 % 256), .int .u8 (q / 65536 % 256), .int .u8 (q / 256 % 256), .int .u8 (q % 256)] 5) = X ∧ Hid (Below w.heap.size w X ∧ MlAt X w.heap.size k u q t g a n c a2 n2 c2 ∧ (convert 60 9 (.slice (some ⟨w.heap.size + 1, 0, none⟩) 6 6)).run Tryd.prog X = .ok (.string S6) X) := by
    refine ⟨_, rfl, ((Below.refl _ w).alloc (Nat.le_refl _) _).alloc (by simp) _, (MlAt.new w _ _ _ _ _ _ _ _ _ _ _ _).later ((Below.refl _ _).alloc (Nat.le_refl _) _), CVS.out _ _ ?_⟩
    rw [← hl6]
    exact bytesAt6 ⟨by simp [go_sem], by simp [go_sem]⟩ ⟨by simp [go_sem], by simp [go_sem]⟩ ⟨by simp [go_sem], by simp [go_sem]⟩ ⟨by simp [go_sem], by simp [go_sem]⟩ ⟨by simp [go_sem], by simp [go_sem]⟩ ⟨by simp [go_sem], by simp [go_sem]⟩
  clear CVS hS6 hl6
  obtain ⟨-, p0, p1, p2, p3, p4, p5, p6⟩ := HX.out.2.1
  have CV := HX.out.2.2
  have kb1 : (k == 1) = false := beq_eq_false_iff_ne.2 k1
  go_enter Tryd.func49, Tryd.ntmps49
  go_wp2_with fail
  clear hX CV p0 p1 p2 p3 p4 p5 p6
  have k4 := k4.out
  subst k4
  clear AD0 kb1
  rw [show (4 : Int) % 256 = 4 from rfl]
  go_loopw [3, 4] (fun sv iv wr => ∃ (i : Nat) (S : ByteArray), i ≤ 4 ∧ iv = .int .i64 (i : Int) ∧ sv = .string S ∧ Hid (mk ((l6 ++ by' g) ++ accI is i) = S ∧ Below w.heap.size w wr ∧ MlAt wr w.heap.size 4 u q t g a n c a2 n2 c2)) (fun _ iv _ => 4 - (intOf iv).toNat)
  case atStart => exact ⟨0, S0, Nat.zero_le _, rfl, rfl, by rw [accI_zero, List.append_nil]; exact G.out.2.2.2.2.2.2, HX.out.1, HX.out.2.1⟩
  case round =>
    obtain ⟨i, S, hi, rfl, rfl, I⟩ := hrel
    obtain ⟨-, p0, p1, p2, p3, p4, p5, p6⟩ := I.out.2.2
    by_cases hlt : i < 4
    · have g1 : (i : Int) < 4 := by omega
      have al := accI_len is G.out.2.2.2.2.1 i
      have gl := G.out.2.2.1
      have g6 := G.out.2.2.2.1
      by_cases hin : i < n2
      · have g2 : (i : Int) < (n2 : Int) := by omega
        have hi' : i < is.length := by rw [L.out.li]; exact hin
        obtain ⟨b, o, rfl, cx⟩ := (L.out.later I.out.2.1).i i hi'
        obtain ⟨x, hx⟩ : ∃ x, is[i] = x := ⟨_, rfl⟩
        have xs : x.size = 16 := by rw [← hx]; exact G.out.2.2.2.2.1 _ (List.getElem_mem hi')
        obtain ⟨T, hT⟩ : ∃ T, mk ((l6 ++ by' g) ++ accI is (i + 1)) = T := ⟨_, rfl⟩
        have AD := add_mk ((l6 ++ by' g) ++ accI is i) (by' x) S x T I.out.1 rfl (by rw [← hT, accI_yes is i hi', hx]; simp) (by rw [List.length_append, List.length_append, by_len, by_len, al, xs, g6]; omega)
        rw [hx] at cx
        have I2 : Hid (mk ((l6 ++ by' g) ++ accI is (i + 1)) = T ∧ Below w.heap.size w wr ∧ MlAt wr w.heap.size 4 u q t g a n c (some ⟨b, o, none⟩) n2 c2) := ⟨hT, I.out.2⟩
        clear I hT hx xs al gl g6
        go_wp2
        go_roundw
        case rel => exact ⟨i + 1, T, by omega, by go_num, rfl, I2.out⟩
        case measure => simp [intOf]; omega
      · have g2 : ¬ (i : Int) < (n2 : Int) := by omega
        obtain ⟨Z, hZ⟩ : ∃ Z, mk (pad 16 (by' e0)) = Z := ⟨_, rfl⟩
        obtain ⟨T, hT⟩ : ∃ T, mk ((l6 ++ by' g) ++ accI is (i + 1)) = T := ⟨_, rfl⟩
        have PD := rpadded_any e0 16 (by decide) (by decide) wr
        rw [hZ] at PD
        have AD := add_mk ((l6 ++ by' g) ++ accI is i) (zr 16) S Z T I.out.1 (by rw [← hZ]; rfl) (by rw [← hT, accI_no is i (by rw [L.out.li]; exact hin)]; simp) (by rw [List.length_append, List.length_append, by_len, al, g6, List.length_replicate]; omega)
        clear al gl g6 hZ
        unfold e0 at PD
        go_wp2_with fail
        refine Calls.mono PD ?_
        rintro e w1 ⟨rfl, hb1⟩
        have I2 : Hid (mk ((l6 ++ by' g) ++ accI is (i + 1)) = T ∧ Below w.heap.size w w1 ∧ MlAt w1 w.heap.size 4 u q t g a n c a2 n2 c2) := ⟨hT, chain I.out.2.1 hb1, I.out.2.2.later hb1⟩
        clear I hT hb1 PD p0 p1 p2 p3 p4 p5 p6
        go_wp2
        go_roundw
        case rel => exact ⟨i + 1, T, by omega, by go_num, rfl, I2.out⟩
        case measure => simp [intOf]; omega
    · obtain rfl : i = 4 := by omega
      have n0 : n = 0 := n0'.out
      subst n0
      have E : Hid (S = R ∧ Below w.heap.size w wr ∧ MlAt wr w.heap.size 4 u q t g a 0 c a2 n2 c2) := by
        refine ⟨?_, I.out.2⟩
        rw [← I.out.1, ← HR.out, if_pos rfl, show ss = [] from List.length_eq_zero_iff.1 L.out.ls]
        show _ = mk (_ ++ [])
        rw [List.append_nil]
      clear I
      rw [show ((4 : Nat) : Int) = 4 from rfl]
      go_wp2
      go_loopw [3, 5] (fun sv iv wr => sv = .string S ∧ iv = .int .i64 0 ∧ Hid (Below w.heap.size w wr ∧ MlAt wr w.heap.size 4 u q t g a 0 c a2 n2 c2)) (fun _ _ _ => 0)
      case atStart => exact ⟨rfl, rfl, E.out.2⟩
      case round =>
        obtain ⟨rfl, rfl, I⟩ := hrel
        clear p0 p1 p2 p3 p4 p5 p6
        obtain ⟨-, p0, p1, p2, p3, p4, p5, p6⟩ := I.out.2
        go_wp2
        go_ret
        exact ⟨by rw [E.out.1]; rfl, I.out.1⟩
set_option maxHeartbeats 4000000 in
theorem rtext_23 (k u q : Int) (t g : ByteArray) (a : Option Addr) (n c : Nat) (a2 : Option Addr) (n2 c2 : Nat) (ss : List Sl) (is : List ByteArray) (h : okB ⟨k, u, q, t, g, ss, is⟩ = true) (k1 : ¬ k = 1) (k4 : ¬ k = 4) (w : World) (L : Hid (Lists w a n c a2 n2 c2 ss is)) :
    Calls Tryd.prog 49 #[mv k u q t g a n c a2 n2 c2] w fun e w' => e = .returned (.string (mk (txt ⟨k, u, q, t, g, ss, is⟩))) ∧ Below w.heap.size w w' := by
  have tr := txt_ref h k1
  have of := ok_facts h
  simp only at tr of
  rw [L.out.ls, L.out.li] at of
  obtain ⟨l6, hl6⟩ : ∃ l, [b8 k, b8 u, b8 (q / 16777216), b8 (q / 65536), b8 (q / 256), b8 q] = l := ⟨_, rfl⟩
  rw [hl6] at tr
  have l6l : l6.length = 6 := by rw [← hl6]; rfl
  have hids : ∀ s ∈ is, s.size = 16 := by
    intro s hs
    rcases ok_cases h with ⟨-, -, -, -, -, -, i⟩ | ⟨-, -, -, ⟨-, -, -, i⟩ | ⟨-, -, -, i, -⟩ | ⟨-, -, -, -, b⟩⟩
    · simp only at i; rw [i] at hs; cases hs
    · simp only at i; rw [i] at hs; cases hs
    · simp only at i; rw [i] at hs; cases hs
    · exact (id_of (ids_each b s hs)).1
  have hsl := slots_ok h
  simp only at hsl
  obtain ⟨R, hR⟩ : ∃ R, mk (txt ⟨k, u, q, t, g, ss, is⟩) = R := ⟨_, rfl⟩
  have HR : Hid (mk ((l6 ++ by' g) ++ (if k = 4 then accI is 4 else []) ++ slotsR ss) = R) := by show _ = _; rw [← hR, tr]
  rw [hR]
  clear hR tr h
  obtain ⟨S6, hS6⟩ : ∃ S, mk l6 = S := ⟨_, rfl⟩
  obtain ⟨S0, hS0⟩ : ∃ S, mk (l6 ++ by' g) = S := ⟨_, rfl⟩
  have AD0 := add_mk l6 (by' g) S6 g S0 hS6 rfl hS0 (by rw [l6l, by_len]; omega)
  have G : Hid (n ≤ 4 ∧ n2 ≤ 4 ∧ g.size ≤ 32 ∧ l6.length = 6 ∧ (∀ s ∈ is, s.size = 16) ∧ (∀ s ∈ ss, emB s = true ∨ okS s = true) ∧ mk (l6 ++ by' g) = S0) := ⟨by omega, by omega, by omega, l6l, hids, hsl, hS0⟩
  have kk : Hid (k = 2 ∨ k = 3 ∨ k = 4) := by show _ ∨ _; omega
  clear of hids hsl hS0 l6l
  have CVS : Hid (∀ (V : World) (B : Nat), BytesAt V B l6 → (convert 60 9 (.slice (some ⟨B, 0, none⟩) 6 6)).run Tryd.prog V = .ok (.string S6) V) := fun V B hB => by
    have := hB.string (cap := 6) (n := 6) G.out.2.2.2.1
    rw [show (⟨l6.toArray⟩ : ByteArray) = S6 from hS6] at this
    exact this
  obtain ⟨X, hX, HX⟩ : ∃ X, (w.alloc (.cells #[.int .i64 k, .int .i64 u, .int .i64 q, .string t, .string g, .slice a n c, .slice a2 n2 c2] 38)).alloc (.cells #[.int .u8 (k % 256), .int .u8 (u % 256), .int .u8 (q / 16777216 % 256), .int .u8 (q / 65536 % 256), .int .u8 (q / 256 % 256), .int .u8 (q % 256)] 5) = X ∧ Hid (Below w.heap.size w X ∧ MlAt X w.heap.size k u q t g a n c a2 n2 c2 ∧ (convert 60 9 (.slice (some ⟨w.heap.size + 1, 0, none⟩) 6 6)).run Tryd.prog X = .ok (.string S6) X) := by
    refine ⟨_, rfl, ((Below.refl _ w).alloc (Nat.le_refl _) _).alloc (by simp) _, (MlAt.new w _ _ _ _ _ _ _ _ _ _ _ _).later ((Below.refl _ _).alloc (Nat.le_refl _) _), CVS.out _ _ ?_⟩
    rw [← hl6]
    exact bytesAt6 ⟨by simp [go_sem], by simp [go_sem]⟩ ⟨by simp [go_sem], by simp [go_sem]⟩ ⟨by simp [go_sem], by simp [go_sem]⟩ ⟨by simp [go_sem], by simp [go_sem]⟩ ⟨by simp [go_sem], by simp [go_sem]⟩ ⟨by simp [go_sem], by simp [go_sem]⟩
  clear CVS hS6 hl6
  obtain ⟨-, p0, p1, p2, p3, p4, p5, p6⟩ := HX.out.2.1
  have CV := HX.out.2.2
  have kb1 : (k == 1) = false := beq_eq_false_iff_ne.2 k1
  go_enter Tryd.func49, Tryd.ntmps49
  go_wp2_with fail
  clear hX CV p0 p1 p2 p3 p4 p5 p6
  clear AD0
  have kb : (k == 4) = false := beq_eq_false_iff_ne.2 k4
  have HR2 : Hid (mk ((l6 ++ by' g) ++ slotsR ss) = R) := by
    have := HR.out
    rw [if_neg k4, List.append_nil] at this
    exact this
  clear HR
  have n4 : n ≤ 4 := G.out.1
  go_loopw [3, 4] (fun sv iv wr => sv = .string S0 ∧ iv = .int .i64 0 ∧ Hid (Below w.heap.size w wr ∧ MlAt wr w.heap.size k u q t g a n c a2 n2 c2)) (fun _ _ _ => 0)
  case atStart => exact ⟨rfl, rfl, HX.out.1, HX.out.2.1⟩
  case round =>
    obtain ⟨rfl, rfl, I0⟩ := hrel
    obtain ⟨-, p0, p1, p2, p3, p4, p5, p6⟩ := I0.out.2
    go_wp2
    clear p0 p1 p2 p3 p4 p5 p6
    go_loopw [3, 5] (fun sv iv wr => ∃ (i : Nat) (S : ByteArray), i ≤ n ∧ iv = .int .i64 (i : Int) ∧ sv = .string S ∧ Hid (mk ((l6 ++ by' g) ++ slotsR (ss.take i)) = S ∧ Below w.heap.size w wr ∧ MlAt wr w.heap.size k u q t g a n c a2 n2 c2)) (fun _ iv _ => n - (intOf iv).toNat)
    case atStart => exact ⟨0, S0, Nat.zero_le _, rfl, rfl, by show mk ((l6 ++ by' g) ++ []) = S0; rw [List.append_nil]; exact G.out.2.2.2.2.2.2, I0.out⟩
    case round =>
      obtain ⟨i, S, hi, rfl, rfl, I⟩ := hrel
      clear I0
      obtain ⟨-, p0, p1, p2, p3, p4, p5, p6⟩ := I.out.2.2
      by_cases hlt : i < n
      · have g1 : (i : Int) < (n : Int) := by omega
        have hi' : i < ss.length := by rw [L.out.ls]; exact hlt
        obtain ⟨b, o, rfl, c0, c1⟩ := (L.out.later I.out.2.1).s i hi'
        have hsx := G.out.2.2.2.2.2.1 _ (List.getElem_mem hi')
        have tk := slotsR_take ss i hi'
        have sl16 : (slotsR (ss.take i)).length ≤ 10000 := by
          rw [slotsR_eq _ (fun s hs => G.out.2.2.2.2.2.1 s (List.mem_of_mem_take hs)), slots_len _ (fun s hs => G.out.2.2.2.2.2.1 s (List.mem_of_mem_take hs)), List.length_take]
          have := G.out.1
          omega
        generalize ss[i] = s at c0 c1 hsx tk
        obtain ⟨id, tx⟩ := s
        simp only at c0 c1
        have zz : id.size ≤ 16 ∧ tx.size ≤ 222 := by
          rcases hsx with hq | hq
          · cases em_of hq; exact ⟨by decide, by decide⟩
          · have := okS_of hq; simp only at this; omega
        obtain ⟨PI, hPI⟩ : ∃ P, mk (pad 16 (by' id)) = P := ⟨_, rfl⟩
        obtain ⟨PT, hPT⟩ : ∃ P, mk (pad 222 (by' tx)) = P := ⟨_, rfl⟩
        obtain ⟨Y, hY⟩ : ∃ P, mk [b8 (tx.size : Int)] = P := ⟨_, rfl⟩
        obtain ⟨A1, hA1⟩ : ∃ P, mk (pad 16 (by' id) ++ [b8 (tx.size : Int)]) = P := ⟨_, rfl⟩
        obtain ⟨A2, hA2⟩ : ∃ P, mk ((pad 16 (by' id) ++ [b8 (tx.size : Int)]) ++ pad 222 (by' tx)) = P := ⟨_, rfl⟩
        obtain ⟨T, hT⟩ : ∃ T, mk ((l6 ++ by' g) ++ slotsR (ss.take (i + 1))) = T := ⟨_, rfl⟩
        have lp1 := pad_len 16 (by' id) (by rw [by_len]; omega)
        have lp2 := pad_len 222 (by' tx) (by rw [by_len]; omega)
        have gl := G.out.2.2.1
        have g6 := G.out.2.2.2.1
        have D1 := add_mk (pad 16 (by' id)) [b8 (tx.size : Int)] PI Y A1 hPI hY hA1 (by rw [lp1]; show 16 + 1 ≤ _; omega)
        have D2 := add_mk (pad 16 (by' id) ++ [b8 (tx.size : Int)]) (pad 222 (by' tx)) A1 PT A2 hA1 hPT hA2 (by rw [List.length_append, lp1, lp2]; show 16 + 1 + 222 ≤ _; omega)
        have D3 := add_mk ((l6 ++ by' g) ++ slotsR (ss.take i)) ((pad 16 (by' id) ++ [b8 (tx.size : Int)]) ++ pad 222 (by' tx)) S A2 T I.out.1 hA2 (by
          rw [← hT, tk, slotR_b8]; simp) (by rw [List.length_append, List.length_append, List.length_append, List.length_append, lp1, lp2, by_len, g6]; show 6 + g.size + _ + (16 + 1 + 222) ≤ _; omega)
        have PD1 : Hid (∀ w, Calls Tryd.prog 61 #[.string id, .int .i64 16] w fun e w' => e = .returned (.string PI) ∧ Below w.heap.size w w') := fun w => by
          rw [← hPI]; exact rpadded_any id 16 zz.1 (by decide) w
        have PD2 : Hid (∀ w, Calls Tryd.prog 61 #[.string tx, .int .i64 222] w fun e w' => e = .returned (.string PT) ∧ Below w.heap.size w w') := fun w => by
          rw [← hPT]; exact rpadded_any tx 222 zz.2 (by decide) w
        have CVB : Hid (∀ (V : World) (B : Nat), V.cell? ⟨B, 0, none⟩ = some (.int .u8 ((tx.size : Int) % 256)) → V.frozen? ⟨B, 0, none⟩ = false → (convert 60 9 (.slice (some ⟨B, 0, none⟩) 1 1)).run Tryd.prog V = .ok (.string Y) V) := fun V B h0 h1 => by
          have hB : BytesAt V B [b8 (tx.size : Int)] := by
            intro j hj
            obtain rfl : j = 0 := by simp at hj; omega
            refine ⟨h0.trans ?_, h1⟩
            show some (Value.int .u8 ((tx.size : Int) % 256)) = some (Value.int .u8 ((b8 (tx.size : Int)).toNat : Int))
            rw [b8_nat]
            congr 2
          have := hB.string (cap := 1) (n := 1) rfl
          rw [show (⟨[b8 (tx.size : Int)].toArray⟩ : ByteArray) = Y from hY] at this
          exact this
        have HT : Hid (mk ((l6 ++ by' g) ++ slotsR (ss.take (i + 1))) = T) := hT
        have lw : IntKind.u8.wrap (tx.size : Int) = (tx.size : Int) % 256 := by rw [IntKind.wrap_u8]
        clear hPI hPT hY hA1 hA2 hT lp1 lp2 gl g6 tk hsx sl16
        go_wp2_with fail
        obtain ⟨X2, hX2⟩ : ∃ X, wr.alloc (.cells #[.string id, .string tx] 83) = X := ⟨_, rfl⟩
        rw [hX2]
        have H0 : Hid (X2.cell? ⟨wr.heap.size, 0, none⟩ = some (.string id) ∧ X2.cell? ⟨wr.heap.size, 1, none⟩ = some (.string tx) ∧ Below w.heap.size w X2 ∧ MlAt X2 w.heap.size k u q t g (some ⟨b, o, none⟩) n c a2 n2 c2) := by
          have hb : Below wr.heap.size wr (wr.alloc (.cells #[.string id, .string tx] 83)) := (Below.refl _ _).alloc (Nat.le_refl _) _
          rw [← hX2]
          exact ⟨by simp [go_sem], by simp [go_sem], chain I.out.2.1 hb, I.out.2.2.later hb⟩
        clear hX2 c0 c1 I p0 p1 p2 p3 p4 p5 p6
        obtain ⟨s0, s1, -⟩ := H0.out
        have KP : Hid (∀ w', Below X2.heap.size X2 w' → w'.cell? ⟨wr.heap.size, 0, none⟩ = some (.string id) ∧ w'.cell? ⟨wr.heap.size, 1, none⟩ = some (.string tx)) := fun w' h => ⟨cell_later h s0, cell_later h s1⟩
        refine wp_region_noPanic ?_
        refine wp_region_held_drew (S := fun w' => w'.cell? ⟨wr.heap.size, 0, none⟩ = some (.string id) ∧ w'.cell? ⟨wr.heap.size, 1, none⟩ = some (.string tx)) (by kernel_rfl) (⟨s0, s1⟩) (fun hHeld => ?_)
        have hb0 : Below X2.heap.size X2 X2.drew := (Below.refl _ _).drew
        refine wpAnyH_take (i := 0) (oi := opu0) (v := ?_) rfl (by kernel_rfl) (by kernel_rfl) (by kernel_rfl) (fun _ _ _ h => h) (Or.inl ⟨by rfl, ?_⟩) (by assumption) ?_
        rotate_left
        · intro w' hSw
          clear hSw
          unfold opu0
          first
          | (go_simp; done)
          | (go_simp; with_reducible rfl)
        simp only [opu0, Act.put, List.setIfInBounds_toArray, List.set_cons_zero, List.set_cons_succ]
        refine wpAnyH_take (i := 1) (oi := opu1) (v := ?_) rfl (by kernel_rfl) (by kernel_rfl) (by kernel_rfl) (fun _ _ _ h => h) (Or.inl ⟨by rfl, ?_⟩) (by assumption) ?_
        rotate_left
        · intro w' hSw
          clear hSw
          unfold opu1
          first
          | (go_simp; done)
          | (go_simp; with_reducible rfl)
        simp only [opu1, Act.put, List.setIfInBounds_toArray, List.set_cons_zero, List.set_cons_succ]
        refine wpAnyH_take (i := 2) (oi := opu2) (v := ?_) rfl (by kernel_rfl) (by kernel_rfl) (by kernel_rfl) (fun _ _ _ h => h) (Or.inl ⟨by rfl, ?_⟩) (by assumption) ?_
        rotate_left
        · intro w' hSw
          obtain ⟨y0, y1⟩ := hSw
          unfold opu2
          first
          | (go_simp; done)
          | (go_simp; with_reducible rfl)
        simp only [opu2, Act.put, List.setIfInBounds_toArray, List.set_cons_zero, List.set_cons_succ]
        refine wpAnyH_take (i := 4) (oi := opu4) (v := ?_) rfl (by kernel_rfl) (by kernel_rfl) (by kernel_rfl) (fun _ _ _ h => h) (Or.inl ⟨by rfl, ?_⟩) (by assumption) ?_
        rotate_left
        · intro w' hSw
          clear hSw
          unfold opu4
          first
          | (go_simp; done)
          | (go_simp; with_reducible rfl)
        simp only [opu4, Act.put, List.setIfInBounds_toArray, List.set_cons_zero, List.set_cons_succ]
        refine wpAnyH_take (i := 5) (oi := opu5) (v := ?_) rfl (by kernel_rfl) (by kernel_rfl) (by kernel_rfl) (fun _ _ _ h => h) (Or.inl ⟨by rfl, ?_⟩) (by assumption) ?_
        rotate_left
        · intro w' hSw
          obtain ⟨y0, y1⟩ := hSw
          unfold opu5
          first
          | (go_simp; done)
          | (go_simp; with_reducible rfl)
        simp only [opu5, Act.put, List.setIfInBounds_toArray, List.set_cons_zero, List.set_cons_succ]
        refine wpAnyH_take (i := 6) (oi := opu6) (v := ?_) rfl (by kernel_rfl) (by kernel_rfl) (by kernel_rfl) (fun _ _ _ h => h) (Or.inl ⟨by rfl, ?_⟩) (by assumption) ?_
        rotate_left
        · intro w' hSw
          clear hSw
          unfold opu6
          first
          | (go_simp; done)
          | (go_simp; with_reducible rfl)
        simp only [opu6, Act.put, List.setIfInBounds_toArray, List.set_cons_zero, List.set_cons_succ]
        refine wpAnyH_take (i := 7) (oi := opu7) (v := ?_) rfl (by kernel_rfl) (by kernel_rfl) (by kernel_rfl) (fun _ _ _ h => h) (Or.inl ⟨by rfl, ?_⟩) (by assumption) ?_
        rotate_left
        · intro w' hSw
          clear hSw
          unfold opu7
          first
          | (go_simp; done)
          | (go_simp; with_reducible rfl)
        simp only [opu7, Act.put, List.setIfInBounds_toArray, List.set_cons_zero, List.set_cons_succ]
        refine wpAnyH_take (i := 11) (oi := opu11) (v := ?_) rfl (by kernel_rfl) (by kernel_rfl) (by kernel_rfl) (fun _ _ _ h => h) (Or.inl ⟨by rfl, ?_⟩) (by assumption) ?_
        rotate_left
        · intro w' hSw
          clear hSw
          unfold opu11
          first
          | (go_simp; done)
          | (go_simp; with_reducible rfl)
        simp only [opu11, Act.put, List.setIfInBounds_toArray, List.set_cons_zero, List.set_cons_succ]
        refine wpAnyH_take (i := 12) (oi := opu12) (v := ?_) rfl (by kernel_rfl) (by kernel_rfl) (by kernel_rfl) (fun _ _ _ h => h) (Or.inl ⟨by rfl, ?_⟩) (by assumption) ?_
        rotate_left
        · intro w' hSw
          obtain ⟨y0, y1⟩ := hSw
          unfold opu12
          first
          | (go_simp; done)
          | (go_simp; with_reducible rfl)
        simp only [opu12, Act.put, List.setIfInBounds_toArray, List.set_cons_zero, List.set_cons_succ]
        refine wpAnyH_ready (rs := [3, 8]) (by kernel_rfl) (by simp) ?_
        refine AllReadyH.cons (o := opu3) rfl (fun KK hKK => ?_) (AllReadyH.cons (o := opu8) rfl (fun KK hKK => ?_) AllReadyH.nil)
        · unfold opu3
          go_simp
          refine Calls.mono (PD1.out _) ?_
          rintro e v1 ⟨rfl, hc⟩
          have hb1 : Below X2.heap.size X2 v1 := chain hb0 hc
          clear hc
          refine hKK.out _ _ (KP.out _ hb1) (fun hHeld1 => ?_)
          clear hKK KK
          refine wpAnyH_ready (rs := [8, 13]) (by kernel_rfl) (by simp) ?_
          refine AllReadyH.cons (o := opu8) rfl (fun KK hKK => ?_) (AllReadyH.cons (o := opu13) rfl (fun KK hKK => ?_) AllReadyH.nil)
          · unfold opu8
            go_simp
            obtain ⟨v2, hv2⟩ : ∃ V, v1.alloc (.cells #[.int .u8 ((tx.size : Int) % 256)] 5) = V := ⟨_, rfl⟩
            have hb2 : Below X2.heap.size X2 v2 := by rw [← hv2]; exact Below.alloc hb1 (Below.size hb1) _
            have c0_2 : v2.cell? ⟨v1.heap.size, 0, none⟩ = some (.int .u8 ((tx.size : Int) % 256)) := by rw [← hv2]; simp [go_sem]
            have f0_2 : v2.frozen? ⟨v1.heap.size, 0, none⟩ = false := by rw [← hv2]; simp [go_sem]
            rw [hv2]
            clear hv2
            refine hKK.out _ _ (KP.out _ hb2) (fun hHeld2 => ?_)
            clear hKK KK
            refine wpAnyH_ready (rs := [9, 13]) (by kernel_rfl) (by simp) ?_
            refine AllReadyH.cons (o := opu9) rfl (fun KK hKK => ?_) (AllReadyH.cons (o := opu13) rfl (fun KK hKK => ?_) AllReadyH.nil)
            · have CV := CVB.out _ _ c0_2 f0_2
              unfold opu9
              go_simp
              refine hKK.out _ _ (KP.out _ hb2) (fun hHeld3 => ?_)
              clear hKK KK CV
              refine wpAnyH_take (i := 10) (oi := opu10) (v := ?_) rfl (by kernel_rfl) (by kernel_rfl) (by kernel_rfl) (fun _ _ _ h => h) (Or.inl ⟨by rfl, ?_⟩) (by assumption) ?_
              rotate_left
              · intro w' hSw
                clear hSw
                unfold opu10
                first
                | (go_simp; done)
                | (go_simp; with_reducible rfl)
              simp only [opu10, Act.put, List.setIfInBounds_toArray, List.set_cons_zero, List.set_cons_succ]
              refine wpAnyH_ready (rs := [13]) (by kernel_rfl) (by simp) ?_
              refine AllReadyH.cons (o := opu13) rfl (fun KK hKK => ?_) AllReadyH.nil
              unfold opu13
              go_simp
              refine Calls.mono (PD2.out _) ?_
              rintro e v4 ⟨rfl, hc⟩
              have hb4 : Below X2.heap.size X2 v4 := chain hb2 hc
              clear hc
              refine hKK.out _ _ (KP.out _ hb4) (fun hHeld4 => ?_)
              clear hKK KK
              refine wpAnyH_take (i := 14) (oi := opu14) (v := ?_) rfl (by kernel_rfl) (by kernel_rfl) (by kernel_rfl) (fun _ _ _ h => h) (Or.inl ⟨by rfl, ?_⟩) (by assumption) ?_
              rotate_left
              · intro w' hSw
                clear hSw
                unfold opu14
                first
                | (go_simp; done)
                | (go_simp; with_reducible rfl)
              simp only [opu14, Act.put, List.setIfInBounds_toArray, List.set_cons_zero, List.set_cons_succ]
              refine wpAnyH_take (i := 15) (oi := opu15) (v := ?_) rfl (by kernel_rfl) (by kernel_rfl) (by kernel_rfl) (fun _ _ _ h => h) (Or.inl ⟨by rfl, ?_⟩) (by assumption) ?_
              rotate_left
              · intro w' hSw
                clear hSw
                unfold opu15
                first
                | (go_simp; done)
                | (go_simp; with_reducible rfl)
              simp only [opu15, Act.put, List.setIfInBounds_toArray, List.set_cons_zero, List.set_cons_succ]
              refine wpAnyH_take (i := 16) (oi := opu16) (v := ?_) rfl (by kernel_rfl) (by kernel_rfl) (by kernel_rfl) (fun _ _ _ h => h) (Or.inl ⟨by rfl, ?_⟩) (by assumption) ?_
              rotate_left
              · intro w' hSw
                clear hSw
                unfold opu16
                first
                | (go_simp; done)
                | (go_simp; with_reducible rfl)
              simp only [opu16, Act.put, List.setIfInBounds_toArray, List.set_cons_zero, List.set_cons_succ]
              refine wpAnyH_done (by kernel_rfl) ?_ _
              refine NoPanic.normal ?_
              have I2 : Hid (mk ((l6 ++ by' g) ++ slotsR (ss.take (i + 1))) = T ∧ Below w.heap.size w v4 ∧ MlAt v4 w.heap.size k u q t g (some ⟨b, o, none⟩) n c a2 n2 c2) := ⟨HT.out, chain H0.out.2.2.1 hb4, H0.out.2.2.2.later hb4⟩
              go_wp2
              go_roundw
              case rel => exact ⟨i + 1, T, by omega, by go_num, rfl, I2.out⟩
              case measure => simp [intOf]; omega
            · unfold opu13
              go_simp
              refine Calls.mono (PD2.out _) ?_
              rintro e v3 ⟨rfl, hc⟩
              have hb3 : Below X2.heap.size X2 v3 := chain hb2 hc
              have c0_3 := cell_later hc c0_2
              have f0_3 := (frozen_kept hc (World.block_lt_of_cell? _ _ c0_2)).trans f0_2
              clear hc
              refine hKK.out _ _ (KP.out _ hb3) (fun hHeld3 => ?_)
              clear hKK KK
              refine wpAnyH_ready (rs := [9]) (by kernel_rfl) (by simp) ?_
              refine AllReadyH.cons (o := opu9) rfl (fun KK hKK => ?_) AllReadyH.nil
              have CV := CVB.out _ _ c0_3 f0_3
              unfold opu9
              go_simp
              refine hKK.out _ _ (KP.out _ hb3) (fun hHeld4 => ?_)
              clear hKK KK CV
              refine wpAnyH_take (i := 10) (oi := opu10) (v := ?_) rfl (by kernel_rfl) (by kernel_rfl) (by kernel_rfl) (fun _ _ _ h => h) (Or.inl ⟨by rfl, ?_⟩) (by assumption) ?_
              rotate_left
              · intro w' hSw
                clear hSw
                unfold opu10
                first
                | (go_simp; done)
                | (go_simp; with_reducible rfl)
              simp only [opu10, Act.put, List.setIfInBounds_toArray, List.set_cons_zero, List.set_cons_succ]
              refine wpAnyH_take (i := 14) (oi := opu14) (v := ?_) rfl (by kernel_rfl) (by kernel_rfl) (by kernel_rfl) (fun _ _ _ h => h) (Or.inl ⟨by rfl, ?_⟩) (by assumption) ?_
              rotate_left
              · intro w' hSw
                clear hSw
                unfold opu14
                first
                | (go_simp; done)
                | (go_simp; with_reducible rfl)
              simp only [opu14, Act.put, List.setIfInBounds_toArray, List.set_cons_zero, List.set_cons_succ]
              refine wpAnyH_take (i := 15) (oi := opu15) (v := ?_) rfl (by kernel_rfl) (by kernel_rfl) (by kernel_rfl) (fun _ _ _ h => h) (Or.inl ⟨by rfl, ?_⟩) (by assumption) ?_
              rotate_left
              · intro w' hSw
                clear hSw
                unfold opu15
                first
                | (go_simp; done)
                | (go_simp; with_reducible rfl)
              simp only [opu15, Act.put, List.setIfInBounds_toArray, List.set_cons_zero, List.set_cons_succ]
              refine wpAnyH_take (i := 16) (oi := opu16) (v := ?_) rfl (by kernel_rfl) (by kernel_rfl) (by kernel_rfl) (fun _ _ _ h => h) (Or.inl ⟨by rfl, ?_⟩) (by assumption) ?_
              rotate_left
              · intro w' hSw
                clear hSw
                unfold opu16
                first
                | (go_simp; done)
                | (go_simp; with_reducible rfl)
              simp only [opu16, Act.put, List.setIfInBounds_toArray, List.set_cons_zero, List.set_cons_succ]
              refine wpAnyH_done (by kernel_rfl) ?_ _
              refine NoPanic.normal ?_
              have I2 : Hid (mk ((l6 ++ by' g) ++ slotsR (ss.take (i + 1))) = T ∧ Below w.heap.size w v3 ∧ MlAt v3 w.heap.size k u q t g (some ⟨b, o, none⟩) n c a2 n2 c2) := ⟨HT.out, chain H0.out.2.2.1 hb3, H0.out.2.2.2.later hb3⟩
              go_wp2
              go_roundw
              case rel => exact ⟨i + 1, T, by omega, by go_num, rfl, I2.out⟩
              case measure => simp [intOf]; omega
          · unfold opu13
            go_simp
            refine Calls.mono (PD2.out _) ?_
            rintro e v2 ⟨rfl, hc⟩
            have hb2 : Below X2.heap.size X2 v2 := chain hb1 hc
            clear hc
            refine hKK.out _ _ (KP.out _ hb2) (fun hHeld2 => ?_)
            clear hKK KK
            refine wpAnyH_ready (rs := [8]) (by kernel_rfl) (by simp) ?_
            refine AllReadyH.cons (o := opu8) rfl (fun KK hKK => ?_) AllReadyH.nil
            unfold opu8
            go_simp
            obtain ⟨v3, hv3⟩ : ∃ V, v2.alloc (.cells #[.int .u8 ((tx.size : Int) % 256)] 5) = V := ⟨_, rfl⟩
            have hb3 : Below X2.heap.size X2 v3 := by rw [← hv3]; exact Below.alloc hb2 (Below.size hb2) _
            have c0_3 : v3.cell? ⟨v2.heap.size, 0, none⟩ = some (.int .u8 ((tx.size : Int) % 256)) := by rw [← hv3]; simp [go_sem]
            have f0_3 : v3.frozen? ⟨v2.heap.size, 0, none⟩ = false := by rw [← hv3]; simp [go_sem]
            rw [hv3]
            clear hv3
            refine hKK.out _ _ (KP.out _ hb3) (fun hHeld3 => ?_)
            clear hKK KK
            refine wpAnyH_ready (rs := [9]) (by kernel_rfl) (by simp) ?_
            refine AllReadyH.cons (o := opu9) rfl (fun KK hKK => ?_) AllReadyH.nil
            have CV := CVB.out _ _ c0_3 f0_3
            unfold opu9
            go_simp
            refine hKK.out _ _ (KP.out _ hb3) (fun hHeld4 => ?_)
            clear hKK KK CV
            refine wpAnyH_take (i := 10) (oi := opu10) (v := ?_) rfl (by kernel_rfl) (by kernel_rfl) (by kernel_rfl) (fun _ _ _ h => h) (Or.inl ⟨by rfl, ?_⟩) (by assumption) ?_
            rotate_left
            · intro w' hSw
              clear hSw
              unfold opu10
              first
              | (go_simp; done)
              | (go_simp; with_reducible rfl)
            simp only [opu10, Act.put, List.setIfInBounds_toArray, List.set_cons_zero, List.set_cons_succ]
            refine wpAnyH_take (i := 14) (oi := opu14) (v := ?_) rfl (by kernel_rfl) (by kernel_rfl) (by kernel_rfl) (fun _ _ _ h => h) (Or.inl ⟨by rfl, ?_⟩) (by assumption) ?_
            rotate_left
            · intro w' hSw
              clear hSw
              unfold opu14
              first
              | (go_simp; done)
              | (go_simp; with_reducible rfl)
            simp only [opu14, Act.put, List.setIfInBounds_toArray, List.set_cons_zero, List.set_cons_succ]
            refine wpAnyH_take (i := 15) (oi := opu15) (v := ?_) rfl (by kernel_rfl) (by kernel_rfl) (by kernel_rfl) (fun _ _ _ h => h) (Or.inl ⟨by rfl, ?_⟩) (by assumption) ?_
            rotate_left
            · intro w' hSw
              clear hSw
              unfold opu15
              first
              | (go_simp; done)
              | (go_simp; with_reducible rfl)
            simp only [opu15, Act.put, List.setIfInBounds_toArray, List.set_cons_zero, List.set_cons_succ]
            refine wpAnyH_take (i := 16) (oi := opu16) (v := ?_) rfl (by kernel_rfl) (by kernel_rfl) (by kernel_rfl) (fun _ _ _ h => h) (Or.inl ⟨by rfl, ?_⟩) (by assumption) ?_
            rotate_left
            · intro w' hSw
              clear hSw
              unfold opu16
              first
              | (go_simp; done)
              | (go_simp; with_reducible rfl)
            simp only [opu16, Act.put, List.setIfInBounds_toArray, List.set_cons_zero, List.set_cons_succ]
            refine wpAnyH_done (by kernel_rfl) ?_ _
            refine NoPanic.normal ?_
            have I2 : Hid (mk ((l6 ++ by' g) ++ slotsR (ss.take (i + 1))) = T ∧ Below w.heap.size w v3 ∧ MlAt v3 w.heap.size k u q t g (some ⟨b, o, none⟩) n c a2 n2 c2) := ⟨HT.out, chain H0.out.2.2.1 hb3, H0.out.2.2.2.later hb3⟩
            go_wp2
            go_roundw
            case rel => exact ⟨i + 1, T, by omega, by go_num, rfl, I2.out⟩
            case measure => simp [intOf]; omega
        · unfold opu8
          go_simp
          obtain ⟨v1, hv1⟩ : ∃ V, (X2.alloc (.cells #[.int .u8 ((tx.size : Int) % 256)] 5)).drew = V := ⟨_, rfl⟩
          have hb1 : Below X2.heap.size X2 v1 := by rw [← hv1]; exact ((Below.refl _ _).alloc (Nat.le_refl _) _).drew
          have c0_1 : v1.cell? ⟨X2.heap.size, 0, none⟩ = some (.int .u8 ((tx.size : Int) % 256)) := by rw [← hv1]; simp [go_sem]
          have f0_1 : v1.frozen? ⟨X2.heap.size, 0, none⟩ = false := by rw [← hv1]; simp [go_sem]
          rw [hv1]
          clear hv1
          refine hKK.out _ _ (KP.out _ hb1) (fun hHeld1 => ?_)
          clear hKK KK
          refine wpAnyH_ready (rs := [3, 9]) (by kernel_rfl) (by simp) ?_
          refine AllReadyH.cons (o := opu3) rfl (fun KK hKK => ?_) (AllReadyH.cons (o := opu9) rfl (fun KK hKK => ?_) AllReadyH.nil)
          · unfold opu3
            go_simp
            refine Calls.mono (PD1.out _) ?_
            rintro e v2 ⟨rfl, hc⟩
            have hb2 : Below X2.heap.size X2 v2 := chain hb1 hc
            have c0_2 := cell_later hc c0_1
            have f0_2 := (frozen_kept hc (World.block_lt_of_cell? _ _ c0_1)).trans f0_1
            clear hc
            refine hKK.out _ _ (KP.out _ hb2) (fun hHeld2 => ?_)
            clear hKK KK
            refine wpAnyH_ready (rs := [9, 13]) (by kernel_rfl) (by simp) ?_
            refine AllReadyH.cons (o := opu9) rfl (fun KK hKK => ?_) (AllReadyH.cons (o := opu13) rfl (fun KK hKK => ?_) AllReadyH.nil)
            · have CV := CVB.out _ _ c0_2 f0_2
              unfold opu9
              go_simp
              refine hKK.out _ _ (KP.out _ hb2) (fun hHeld3 => ?_)
              clear hKK KK CV
              refine wpAnyH_take (i := 10) (oi := opu10) (v := ?_) rfl (by kernel_rfl) (by kernel_rfl) (by kernel_rfl) (fun _ _ _ h => h) (Or.inl ⟨by rfl, ?_⟩) (by assumption) ?_
              rotate_left
              · intro w' hSw
                clear hSw
                unfold opu10
                first
                | (go_simp; done)
                | (go_simp; with_reducible rfl)
              simp only [opu10, Act.put, List.setIfInBounds_toArray, List.set_cons_zero, List.set_cons_succ]
              refine wpAnyH_ready (rs := [13]) (by kernel_rfl) (by simp) ?_
              refine AllReadyH.cons (o := opu13) rfl (fun KK hKK => ?_) AllReadyH.nil
              unfold opu13
              go_simp
              refine Calls.mono (PD2.out _) ?_
              rintro e v4 ⟨rfl, hc⟩
              have hb4 : Below X2.heap.size X2 v4 := chain hb2 hc
              clear hc
              refine hKK.out _ _ (KP.out _ hb4) (fun hHeld4 => ?_)
              clear hKK KK
              refine wpAnyH_take (i := 14) (oi := opu14) (v := ?_) rfl (by kernel_rfl) (by kernel_rfl) (by kernel_rfl) (fun _ _ _ h => h) (Or.inl ⟨by rfl, ?_⟩) (by assumption) ?_
              rotate_left
              · intro w' hSw
                clear hSw
                unfold opu14
                first
                | (go_simp; done)
                | (go_simp; with_reducible rfl)
              simp only [opu14, Act.put, List.setIfInBounds_toArray, List.set_cons_zero, List.set_cons_succ]
              refine wpAnyH_take (i := 15) (oi := opu15) (v := ?_) rfl (by kernel_rfl) (by kernel_rfl) (by kernel_rfl) (fun _ _ _ h => h) (Or.inl ⟨by rfl, ?_⟩) (by assumption) ?_
              rotate_left
              · intro w' hSw
                clear hSw
                unfold opu15
                first
                | (go_simp; done)
                | (go_simp; with_reducible rfl)
              simp only [opu15, Act.put, List.setIfInBounds_toArray, List.set_cons_zero, List.set_cons_succ]
              refine wpAnyH_take (i := 16) (oi := opu16) (v := ?_) rfl (by kernel_rfl) (by kernel_rfl) (by kernel_rfl) (fun _ _ _ h => h) (Or.inl ⟨by rfl, ?_⟩) (by assumption) ?_
              rotate_left
              · intro w' hSw
                clear hSw
                unfold opu16
                first
                | (go_simp; done)
                | (go_simp; with_reducible rfl)
              simp only [opu16, Act.put, List.setIfInBounds_toArray, List.set_cons_zero, List.set_cons_succ]
              refine wpAnyH_done (by kernel_rfl) ?_ _
              refine NoPanic.normal ?_
              have I2 : Hid (mk ((l6 ++ by' g) ++ slotsR (ss.take (i + 1))) = T ∧ Below w.heap.size w v4 ∧ MlAt v4 w.heap.size k u q t g (some ⟨b, o, none⟩) n c a2 n2 c2) := ⟨HT.out, chain H0.out.2.2.1 hb4, H0.out.2.2.2.later hb4⟩
              go_wp2
              go_roundw
              case rel => exact ⟨i + 1, T, by omega, by go_num, rfl, I2.out⟩
              case measure => simp [intOf]; omega
            · unfold opu13
              go_simp
              refine Calls.mono (PD2.out _) ?_
              rintro e v3 ⟨rfl, hc⟩
              have hb3 : Below X2.heap.size X2 v3 := chain hb2 hc
              have c0_3 := cell_later hc c0_2
              have f0_3 := (frozen_kept hc (World.block_lt_of_cell? _ _ c0_2)).trans f0_2
              clear hc
              refine hKK.out _ _ (KP.out _ hb3) (fun hHeld3 => ?_)
              clear hKK KK
              refine wpAnyH_ready (rs := [9]) (by kernel_rfl) (by simp) ?_
              refine AllReadyH.cons (o := opu9) rfl (fun KK hKK => ?_) AllReadyH.nil
              have CV := CVB.out _ _ c0_3 f0_3
              unfold opu9
              go_simp
              refine hKK.out _ _ (KP.out _ hb3) (fun hHeld4 => ?_)
              clear hKK KK CV
              refine wpAnyH_take (i := 10) (oi := opu10) (v := ?_) rfl (by kernel_rfl) (by kernel_rfl) (by kernel_rfl) (fun _ _ _ h => h) (Or.inl ⟨by rfl, ?_⟩) (by assumption) ?_
              rotate_left
              · intro w' hSw
                clear hSw
                unfold opu10
                first
                | (go_simp; done)
                | (go_simp; with_reducible rfl)
              simp only [opu10, Act.put, List.setIfInBounds_toArray, List.set_cons_zero, List.set_cons_succ]
              refine wpAnyH_take (i := 14) (oi := opu14) (v := ?_) rfl (by kernel_rfl) (by kernel_rfl) (by kernel_rfl) (fun _ _ _ h => h) (Or.inl ⟨by rfl, ?_⟩) (by assumption) ?_
              rotate_left
              · intro w' hSw
                clear hSw
                unfold opu14
                first
                | (go_simp; done)
                | (go_simp; with_reducible rfl)
              simp only [opu14, Act.put, List.setIfInBounds_toArray, List.set_cons_zero, List.set_cons_succ]
              refine wpAnyH_take (i := 15) (oi := opu15) (v := ?_) rfl (by kernel_rfl) (by kernel_rfl) (by kernel_rfl) (fun _ _ _ h => h) (Or.inl ⟨by rfl, ?_⟩) (by assumption) ?_
              rotate_left
              · intro w' hSw
                clear hSw
                unfold opu15
                first
                | (go_simp; done)
                | (go_simp; with_reducible rfl)
              simp only [opu15, Act.put, List.setIfInBounds_toArray, List.set_cons_zero, List.set_cons_succ]
              refine wpAnyH_take (i := 16) (oi := opu16) (v := ?_) rfl (by kernel_rfl) (by kernel_rfl) (by kernel_rfl) (fun _ _ _ h => h) (Or.inl ⟨by rfl, ?_⟩) (by assumption) ?_
              rotate_left
              · intro w' hSw
                clear hSw
                unfold opu16
                first
                | (go_simp; done)
                | (go_simp; with_reducible rfl)
              simp only [opu16, Act.put, List.setIfInBounds_toArray, List.set_cons_zero, List.set_cons_succ]
              refine wpAnyH_done (by kernel_rfl) ?_ _
              refine NoPanic.normal ?_
              have I2 : Hid (mk ((l6 ++ by' g) ++ slotsR (ss.take (i + 1))) = T ∧ Below w.heap.size w v3 ∧ MlAt v3 w.heap.size k u q t g (some ⟨b, o, none⟩) n c a2 n2 c2) := ⟨HT.out, chain H0.out.2.2.1 hb3, H0.out.2.2.2.later hb3⟩
              go_wp2
              go_roundw
              case rel => exact ⟨i + 1, T, by omega, by go_num, rfl, I2.out⟩
              case measure => simp [intOf]; omega
          · have CV := CVB.out _ _ c0_1 f0_1
            unfold opu9
            go_simp
            refine hKK.out _ _ (KP.out _ hb1) (fun hHeld2 => ?_)
            clear hKK KK CV
            refine wpAnyH_ready (rs := [3]) (by kernel_rfl) (by simp) ?_
            refine AllReadyH.cons (o := opu3) rfl (fun KK hKK => ?_) AllReadyH.nil
            unfold opu3
            go_simp
            refine Calls.mono (PD1.out _) ?_
            rintro e v3 ⟨rfl, hc⟩
            have hb3 : Below X2.heap.size X2 v3 := chain hb1 hc
            clear hc
            refine hKK.out _ _ (KP.out _ hb3) (fun hHeld3 => ?_)
            clear hKK KK
            refine wpAnyH_take (i := 10) (oi := opu10) (v := ?_) rfl (by kernel_rfl) (by kernel_rfl) (by kernel_rfl) (fun _ _ _ h => h) (Or.inl ⟨by rfl, ?_⟩) (by assumption) ?_
            rotate_left
            · intro w' hSw
              clear hSw
              unfold opu10
              first
              | (go_simp; done)
              | (go_simp; with_reducible rfl)
            simp only [opu10, Act.put, List.setIfInBounds_toArray, List.set_cons_zero, List.set_cons_succ]
            refine wpAnyH_ready (rs := [13]) (by kernel_rfl) (by simp) ?_
            refine AllReadyH.cons (o := opu13) rfl (fun KK hKK => ?_) AllReadyH.nil
            unfold opu13
            go_simp
            refine Calls.mono (PD2.out _) ?_
            rintro e v4 ⟨rfl, hc⟩
            have hb4 : Below X2.heap.size X2 v4 := chain hb3 hc
            clear hc
            refine hKK.out _ _ (KP.out _ hb4) (fun hHeld4 => ?_)
            clear hKK KK
            refine wpAnyH_take (i := 14) (oi := opu14) (v := ?_) rfl (by kernel_rfl) (by kernel_rfl) (by kernel_rfl) (fun _ _ _ h => h) (Or.inl ⟨by rfl, ?_⟩) (by assumption) ?_
            rotate_left
            · intro w' hSw
              clear hSw
              unfold opu14
              first
              | (go_simp; done)
              | (go_simp; with_reducible rfl)
            simp only [opu14, Act.put, List.setIfInBounds_toArray, List.set_cons_zero, List.set_cons_succ]
            refine wpAnyH_take (i := 15) (oi := opu15) (v := ?_) rfl (by kernel_rfl) (by kernel_rfl) (by kernel_rfl) (fun _ _ _ h => h) (Or.inl ⟨by rfl, ?_⟩) (by assumption) ?_
            rotate_left
            · intro w' hSw
              clear hSw
              unfold opu15
              first
              | (go_simp; done)
              | (go_simp; with_reducible rfl)
            simp only [opu15, Act.put, List.setIfInBounds_toArray, List.set_cons_zero, List.set_cons_succ]
            refine wpAnyH_take (i := 16) (oi := opu16) (v := ?_) rfl (by kernel_rfl) (by kernel_rfl) (by kernel_rfl) (fun _ _ _ h => h) (Or.inl ⟨by rfl, ?_⟩) (by assumption) ?_
            rotate_left
            · intro w' hSw
              clear hSw
              unfold opu16
              first
              | (go_simp; done)
              | (go_simp; with_reducible rfl)
            simp only [opu16, Act.put, List.setIfInBounds_toArray, List.set_cons_zero, List.set_cons_succ]
            refine wpAnyH_done (by kernel_rfl) ?_ _
            refine NoPanic.normal ?_
            have I2 : Hid (mk ((l6 ++ by' g) ++ slotsR (ss.take (i + 1))) = T ∧ Below w.heap.size w v4 ∧ MlAt v4 w.heap.size k u q t g (some ⟨b, o, none⟩) n c a2 n2 c2) := ⟨HT.out, chain H0.out.2.2.1 hb4, H0.out.2.2.2.later hb4⟩
            go_wp2
            go_roundw
            case rel => exact ⟨i + 1, T, by omega, by go_num, rfl, I2.out⟩
            case measure => simp [intOf]; omega
      · obtain rfl : i = n := by omega
        have E : Hid (S = R) := by
          show _ = _
          rw [← I.out.1, ← HR2.out, List.take_of_length_le (Nat.le_of_eq L.out.ls)]
        go_wp2
        go_ret
        exact ⟨by rw [E.out]; rfl, I.out.2.1⟩
theorem rtext_any (k u q : Int) (t g : ByteArray) (a : Option Addr) (n c : Nat) (a2 : Option Addr) (n2 c2 : Nat) (ss : List Sl) (is : List ByteArray) (h : okB ⟨k, u, q, t, g, ss, is⟩ = true) (w : World) (L : Hid (Lists w a n c a2 n2 c2 ss is)) :
    Calls Tryd.prog 49 #[mv k u q t g a n c a2 n2 c2] w fun e w' => e = .returned (.string (mk (txt ⟨k, u, q, t, g, ss, is⟩))) ∧ Below w.heap.size w w' := by
  by_cases h1 : k = 1
  · subst h1
    exact rtext_one u q t g a n c a2 n2 c2 ss is h w
  by_cases h4 : k = 4
  · exact rtext_4 k u q t g a n c a2 n2 c2 ss is h h1 h4 w L
  · exact rtext_23 k u q t g a n c a2 n2 c2 ss is h h1 h4 w L
end Go.Proofs.YtbogoheigbiegaaDoor.Mai
