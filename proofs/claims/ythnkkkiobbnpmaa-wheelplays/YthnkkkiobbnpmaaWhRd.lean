/- The document's Cancel. -/
import Derived.Test.YthnkkkiobbnpmaaWhRc
namespace Go.Proofs.Ythnkkkiobbnpmaa
open Go.RowKit Go.Proofs.Fd Go.Proofs.Wh
set_option maxRecDepth 20000

theorem rcan_runs {W : World} {d : Nat} {v : Value} {s : St} (h : DAt W d v s) (hl : s.l.length ≤ 4096) {i : Nat} (hi : i < s.l.length) :
    ∃ x1 x2 a1 n1 c1 w2 a3 n3 c3 w4, (∀ W', (Instr.slice 26 v none (some (.int .i64 (i : Int))) none).run Try.prog W' = .ok x1 W')
      ∧ (∀ W', (Instr.slice 26 v (some (.int .i64 ((i + 1 : Nat) : Int))) none none).run Try.prog W' = .ok x2 W')
      ∧ (Builtin.append_ #[26, 26] 26 #[.slice (some ⟨W.heap.size, 0, none⟩) 0 0, x1]).run Try.prog (W.alloc (.cells #[] 61)) = .ok (.slice a1 n1 c1) w2
      ∧ w2.cell? ⟨d, 0, none⟩ = some v
      ∧ (Builtin.append_ #[26, 26] 26 #[.slice a1 n1 c1, x2]).run Try.prog w2 = .ok (.slice a3 n3 c3) w4
      ∧ w4.cell? ⟨d, 0, none⟩ = some v ∧ w4.frozen? ⟨d, 0, none⟩ = false
      ∧ DSt W d v ⟨s.now, s.many, s.l.take i ++ s.l.drop (i + 1)⟩ (w4.setCell ⟨d, 0, none⟩ (.slice a3 n3 c3)) := by
  have hdW := h.lt
  obtain ⟨x1, s1, s2⟩ := sub_head W v s.l h.row i (by omega)
  obtain ⟨x2, t1, t2⟩ := sub_tail W v s.l h.row (i + 1) (by omega)
  have b0 : Below W.heap.size W (W.alloc (.cells #[] 61)) := (Below.refl _ _).alloc (Nat.le_refl _) _
  have o0 : OwnsR (W.alloc (.cells #[] 61)) (.slice (some ⟨W.heap.size, 0, none⟩) 0 0) [] := World.ownsRow_made (base := 0) (e := 61) (size := 3) W #[] 0 (Nat.zero_le _) (Nat.zero_le _) rfl
  obtain ⟨a1, n1, c1, w2, p1, p2, p3, p4⟩ := app_src _ 26 _ x1 [] _ o0 (s2.later b0) (by rw [List.length_take]; simp; omega)
  have B1 : Below W.heap.size W w2 := b0.grown p3 (by simp) (fun k hk => by injection hk with hk; simp only at hk; omega)
  have N1 : ∀ g, (Value.slice a1 n1 c1).ownBlock = some g → W.heap.size ≤ g := fun g e => by
    rcases p4 with c | c
    · rw [c] at e
      injection e with e
      simp only at e
      omega
    · rw [c] at e
      injection e with e
      simp at e
      omega
  obtain ⟨a3, n3, c3, w4, r1, r2, r3, r4⟩ := app_src w2 26 _ x2 _ _ p2 (t2.later B1) (by rw [List.length_append, List.length_take, List.length_drop]; simp; omega)
  have B4 : Below W.heap.size W w4 := B1.grown r3 B1.size (fun k hk => N1 k hk)
  have N3 : ∀ g, (Value.slice a3 n3 c3).ownBlock = some g → W.heap.size ≤ g := fun g e => by
    rcases r4 with c | c
    · exact N1 g (by rw [← c]; exact e)
    · rw [c] at e
      injection e with e
      have := B1.size
      omega
  have D4 := h.later B4
  have D5 := D4.put rfl r2 (fun c => by have := N3 d c; omega)
  refine ⟨x1, x2, a1, n1, c1, w2, a3, n3, c3, w4, s1, t1, p1, (h.later B1).c0, r1, D4.c0, D4.fr _, ⟨.slice a3 n3 c3, ?_, fun g e => .inr (N3 g e), ?_⟩⟩
  · rw [List.nil_append] at D5
    exact D5
  · exact (Bf.of B4).trans (Nx.refl _ _) ⟨rfl, rfl, rfl, by simp, fun g _ hg => Below.heap_setCell w4 ⟨d, 0, none⟩ _ g hg⟩
theorem DSt.front {w w1 : World} {d : Nat} {v : Value} {s : St} {w' : World} (hb : Below w.heap.size w w1) (h : DSt w1 d v s w') : DSt w d v s w' := by
  obtain ⟨u, h1, h2, h3⟩ := h
  exact ⟨u, h1, fun g e => (h2 g e).imp id (fun q => Nat.le_trans hb.size q), (Bf.of hb).trans (Nx.refl _ _) h3⟩
theorem can_found {s : St} (ho : Ok s) {n : Int} {i : Nat} (hi : i < s.l.length) (h : (s.l[i].n : Int) = n) : canE s n = 0 ∧ canS s n = ⟨s.now, s.many, s.l.take i ++ s.l.drop (i + 1)⟩ := by
  refine ⟨?_, ?_⟩
  · unfold canE has
    rw [if_pos]
    rw [List.any_eq_true]
    exact ⟨s.l[i], List.getElem_mem hi, by simpa using h⟩
  · unfold canS
    rw [← erase_filter hi h (fun j hj hne c => ?_), List.eraseIdx_eq_take_drop_succ]
    have hp := List.pairwise_iff_getElem.1 ho.apart
    rcases Nat.lt_or_gt_of_ne hne with q | q
    · have := hp j i hj hi q
      omega
    · have := hp i j hi hj q
      omega
theorem can_none {s : St} {n : Int} (h : ∀ t ∈ s.l, ¬ (t.n : Int) = n) : canE s n = 5 ∧ canS s n = s := by
  refine ⟨?_, ?_⟩
  · unfold canE has
    rw [if_neg]
    rw [List.any_eq_true]
    rintro ⟨t, ht, c⟩
    exact h t ht (by simpa using c)
  · unfold canS
    rw [List.filter_eq_self.2 (fun t ht => by simpa using h t ht)]
def oprc0 : Oper := { dst := some 25, op := Go.Op.move (Go.Operand.tmp 0), type := 25, pos := "ref.go:51", after := #[], guard := none }
def oprc1 : Oper := { dst := some 26, op := Go.Op.buildSlice 26 0 #[], type := 26, pos := "ref.go:51", after := #[], guard := none }
def oprc2 : Oper := { dst := some 27, op := Go.Op.move (Go.Operand.tmp 0), type := 25, pos := "ref.go:51", after := #[], guard := none }
def oprc3 : Oper := { dst := some 28, op := Go.Op.nilCheck (Go.Operand.tmp 27), type := 0, pos := "ref.go:51", after := #[{ on := 2, ground := Go.Ground.data }], guard := none }
def oprc4 : Oper := { dst := some 29, op := Go.Op.fieldAddr 28 (Go.Operand.tmp 28) 0, type := 0, pos := "ref.go:51", after := #[{ on := 3, ground := Go.Ground.data }], guard := none }
def oprc5 : Oper := { dst := some 30, op := Go.Op.load 26 (Go.Operand.tmp 29), type := 26, pos := "ref.go:51", after := #[{ on := 4, ground := Go.Ground.data }], guard := none }
def oprc6 : Oper := { dst := some 31, op := Go.Op.move (Go.Operand.tmp 5), type := 3, pos := "ref.go:51", after := #[], guard := none }
def oprc7 : Oper := { dst := some 32, op := Go.Op.slice 26 (Go.Operand.tmp 30) none (some (Go.Operand.tmp 31)) none, type := 26, pos := "ref.go:51", after := #[{ on := 5, ground := Go.Ground.data }, { on := 6, ground := Go.Ground.data }], guard := none }
def oprc8 : Oper := { dst := some 33, op := Go.Op.call { callee := Go.Callee.builtin Go.Builtin.append, args := #[Go.Operand.tmp 26, Go.Operand.tmp 32], argTypes := #[26, 26] }, type := 26, pos := "ref.go:51", after := #[{ on := 1, ground := Go.Ground.data }, { on := 7, ground := Go.Ground.data }], guard := none }
def oprc9 : Oper := { dst := some 34, op := Go.Op.move (Go.Operand.tmp 0), type := 25, pos := "ref.go:51", after := #[], guard := none }
def oprc10 : Oper := { dst := some 35, op := Go.Op.nilCheck (Go.Operand.tmp 34), type := 0, pos := "ref.go:51", after := #[{ on := 9, ground := Go.Ground.data }], guard := none }
def oprc11 : Oper := { dst := some 36, op := Go.Op.fieldAddr 28 (Go.Operand.tmp 35) 0, type := 0, pos := "ref.go:51", after := #[{ on := 10, ground := Go.Ground.data }], guard := none }
def oprc12 : Oper := { dst := some 37, op := Go.Op.load 26 (Go.Operand.tmp 36), type := 26, pos := "ref.go:51", after := #[{ on := 11, ground := Go.Ground.data }], guard := none }
def oprc13 : Oper := { dst := some 38, op := Go.Op.move (Go.Operand.tmp 5), type := 3, pos := "ref.go:51", after := #[], guard := none }
def oprc14 : Oper := { dst := some 39, op := Go.Op.binOp Go.BinOp.add 3 (Go.Operand.tmp 38) (Go.Operand.const (Go.Value.int Go.IntKind.i64 1)) 3, type := 3, pos := "ref.go:51", after := #[{ on := 13, ground := Go.Ground.data }], guard := none }
def oprc15 : Oper := { dst := some 40, op := Go.Op.slice 26 (Go.Operand.tmp 37) (some (Go.Operand.tmp 39)) none none, type := 26, pos := "ref.go:51", after := #[{ on := 12, ground := Go.Ground.data }, { on := 14, ground := Go.Ground.data }], guard := none }
def oprc16 : Oper := { dst := some 41, op := Go.Op.call { callee := Go.Callee.builtin Go.Builtin.append, args := #[Go.Operand.tmp 33, Go.Operand.tmp 40], argTypes := #[26, 26] }, type := 26, pos := "ref.go:51", after := #[{ on := 8, ground := Go.Ground.data }, { on := 15, ground := Go.Ground.data }, { on := 8, ground := Go.Ground.chain }], guard := none }
def oprc17 : Oper := { dst := some 42, op := Go.Op.nilCheck (Go.Operand.tmp 25), type := 0, pos := "ref.go:51", after := #[{ on := 0, ground := Go.Ground.data }, { on := 0, ground := Go.Ground.phase }, { on := 1, ground := Go.Ground.phase }, { on := 2, ground := Go.Ground.phase }, { on := 3, ground := Go.Ground.phase }, { on := 4, ground := Go.Ground.phase }, { on := 5, ground := Go.Ground.phase }, { on := 6, ground := Go.Ground.phase }, { on := 7, ground := Go.Ground.phase }, { on := 8, ground := Go.Ground.phase }, { on := 9, ground := Go.Ground.phase }, { on := 10, ground := Go.Ground.phase }, { on := 11, ground := Go.Ground.phase }, { on := 12, ground := Go.Ground.phase }, { on := 13, ground := Go.Ground.phase }, { on := 14, ground := Go.Ground.phase }, { on := 15, ground := Go.Ground.phase }, { on := 16, ground := Go.Ground.phase }], guard := none }
def oprc18 : Oper := { dst := some 43, op := Go.Op.fieldAddr 28 (Go.Operand.tmp 42) 0, type := 0, pos := "ref.go:51", after := #[{ on := 17, ground := Go.Ground.data }, { on := 0, ground := Go.Ground.phase }, { on := 1, ground := Go.Ground.phase }, { on := 2, ground := Go.Ground.phase }, { on := 3, ground := Go.Ground.phase }, { on := 4, ground := Go.Ground.phase }, { on := 5, ground := Go.Ground.phase }, { on := 6, ground := Go.Ground.phase }, { on := 7, ground := Go.Ground.phase }, { on := 8, ground := Go.Ground.phase }, { on := 9, ground := Go.Ground.phase }, { on := 10, ground := Go.Ground.phase }, { on := 11, ground := Go.Ground.phase }, { on := 12, ground := Go.Ground.phase }, { on := 13, ground := Go.Ground.phase }, { on := 14, ground := Go.Ground.phase }, { on := 15, ground := Go.Ground.phase }, { on := 16, ground := Go.Ground.phase }], guard := none }
def oprc19 : Oper := { dst := none, op := Go.Op.store 26 (Go.Operand.tmp 43) (Go.Operand.tmp 41), type := 0, pos := "ref.go:51", after := #[{ on := 18, ground := Go.Ground.data }, { on := 16, ground := Go.Ground.data }, { on := 16, ground := Go.Ground.chain }, { on := 0, ground := Go.Ground.phase }, { on := 1, ground := Go.Ground.phase }, { on := 2, ground := Go.Ground.phase }, { on := 3, ground := Go.Ground.phase }, { on := 4, ground := Go.Ground.phase }, { on := 5, ground := Go.Ground.phase }, { on := 6, ground := Go.Ground.phase }, { on := 7, ground := Go.Ground.phase }, { on := 8, ground := Go.Ground.phase }, { on := 9, ground := Go.Ground.phase }, { on := 10, ground := Go.Ground.phase }, { on := 11, ground := Go.Ground.phase }, { on := 12, ground := Go.Ground.phase }, { on := 13, ground := Go.Ground.phase }, { on := 14, ground := Go.Ground.phase }, { on := 15, ground := Go.Ground.phase }, { on := 16, ground := Go.Ground.phase }], guard := none }
set_option maxHeartbeats 4000000 in
theorem rcan_region (Q : Exit → Act → World → Prop) (d k : Nat) (hk : k ≤ 4096) (V : Value) (df : _) (u1 u2 u3 u4 u6 u7 u8 u9 u10 u11 u12 u13 u14 u15 u16 u17 u18 u19 u20 u21 u22 u23 u24 u25 u26 u27 u28 u29 u30 u31 u32 u33 u34 u35 u36 u37 u38 u39 u40 u41 u42 u43 : Value) (w : World) (x1 x2 : Value) (a1 : Option Addr) (n1 c1 : Nat) (w2 : World) (a3 : Option Addr) (n3 c3 : Nat) (w4 : World) (c0 : w.cell? ⟨d, 0, none⟩ = some V)
    (RR : Hid ((∀ W', (Instr.slice 26 V none (some (.int .i64 (k : Int))) none).run Try.prog W' = .ok x1 W')
      ∧ (∀ W', (Instr.slice 26 V (some (.int .i64 ((k + 1 : Nat) : Int))) none none).run Try.prog W' = .ok x2 W')
      ∧ (Builtin.append_ #[26, 26] 26 #[.slice (some ⟨w.drew.heap.size, 0, none⟩) 0 0, x1]).run Try.prog (w.drew.alloc (.cells #[] 61)) = .ok (.slice a1 n1 c1) w2
      ∧ w2.cell? ⟨d, 0, none⟩ = some V ∧ (Builtin.append_ #[26, 26] 26 #[.slice a1 n1 c1, x2]).run Try.prog w2 = .ok (.slice a3 n3 c3) w4
      ∧ w4.cell? ⟨d, 0, none⟩ = some V ∧ w4.frozen? ⟨d, 0, none⟩ = false))
    (hQ : Hid (∀ e25 e26 e27 e28 e29 e30 e31 e32 e33 e34 e35 e36 e37 e38 e39 e40 e41 e42 e43 : Value, Q .normal ⟨#[(.pointer (some ⟨d, 0, none⟩)), u1, u2, u3, u4, (.int .i64 (k : Int)), u6, u7, u8, u9, u10, u11, u12, u13, u14, u15, u16, u17, u18, u19, u20, u21, u22, u23, u24, e25, e26, e27, e28, e29, e30, e31, e32, e33, e34, e35, e36, e37, e38, e39, e40, e41, e42, e43], df⟩ (w4.setCell ⟨d, 0, none⟩ (.slice a3 n3 c3)))) :
    (Code.region 5 #[oprc0, oprc1, oprc2, oprc3, oprc4, oprc5, oprc6, oprc7, oprc8, oprc9, oprc10, oprc11, oprc12, oprc13, oprc14, oprc15, oprc16, oprc17, oprc18, oprc19] true).wp Try.prog Q ⟨#[(.pointer (some ⟨d, 0, none⟩)), u1, u2, u3, u4, (.int .i64 (k : Int)), u6, u7, u8, u9, u10, u11, u12, u13, u14, u15, u16, u17, u18, u19, u20, u21, u22, u23, u24, u25, u26, u27, u28, u29, u30, u31, u32, u33, u34, u35, u36, u37, u38, u39, u40, u41, u42, u43], df⟩ w := by
  have z2 : Hid (IntKind.i64.wrap ((k : Int) + 1) = ((k + 1 : Nat) : Int)) := by show _ = _; rw [IntKind.wrap_i64]; omega
  obtain ⟨Z, hZ⟩ : ∃ Z, w.drew = Z := ⟨_, rfl⟩
  have ckZ : Hid (Z.cell? ⟨d, 0, none⟩ = some V) := by rw [← hZ]; exact c0
  rw [hZ] at RR
  obtain ⟨K, hK⟩ : ∃ K, k + 1 = K := ⟨_, rfl⟩
  rw [hK] at RR z2
  clear c0 hK
  refine wp_region_noPanic ?_
  refine wp_region_held_drew (S := fun _ => True) (by kernel_rfl) (trivial) (fun hHeld => ?_)
  rw [hZ]
  clear hZ
  refine wpAnyH_take (i := 0) (oi := oprc0) (v := ?_) rfl (by kernel_rfl) (by kernel_rfl) (by kernel_rfl) (fun _ _ _ h => h) (Or.inl ⟨by rfl, ?_⟩) (by assumption) ?_
  rotate_left
  · intro w' hSw
    clear hSw
    unfold oprc0
    first
    | (go_simp; done)
    | (go_simp; with_reducible rfl)
  simp only [oprc0, Act.put, List.setIfInBounds_toArray, List.set_cons_zero, List.set_cons_succ]
  refine wpAnyH_take (i := 2) (oi := oprc2) (v := ?_) rfl (by kernel_rfl) (by kernel_rfl) (by kernel_rfl) (fun _ _ _ h => h) (Or.inl ⟨by rfl, ?_⟩) (by assumption) ?_
  rotate_left
  · intro w' hSw
    clear hSw
    unfold oprc2
    first
    | (go_simp; done)
    | (go_simp; with_reducible rfl)
  simp only [oprc2, Act.put, List.setIfInBounds_toArray, List.set_cons_zero, List.set_cons_succ]
  refine wpAnyH_take (i := 3) (oi := oprc3) (v := ?_) rfl (by kernel_rfl) (by kernel_rfl) (by kernel_rfl) (fun _ _ _ h => h) (Or.inl ⟨by rfl, ?_⟩) (by assumption) ?_
  rotate_left
  · intro w' hSw
    clear hSw
    unfold oprc3
    first
    | (go_simp; done)
    | (go_simp; with_reducible rfl)
  simp only [oprc3, Act.put, List.setIfInBounds_toArray, List.set_cons_zero, List.set_cons_succ]
  refine wpAnyH_take (i := 4) (oi := oprc4) (v := ?_) rfl (by kernel_rfl) (by kernel_rfl) (by kernel_rfl) (fun _ _ _ h => h) (Or.inl ⟨by rfl, ?_⟩) (by assumption) ?_
  rotate_left
  · intro w' hSw
    clear hSw
    unfold oprc4
    first
    | (go_simp; done)
    | (go_simp; with_reducible rfl)
  simp only [oprc4, Act.put, List.setIfInBounds_toArray, List.set_cons_zero, List.set_cons_succ]
  refine wpAnyH_take (i := 6) (oi := oprc6) (v := ?_) rfl (by kernel_rfl) (by kernel_rfl) (by kernel_rfl) (fun _ _ _ h => h) (Or.inl ⟨by rfl, ?_⟩) (by assumption) ?_
  rotate_left
  · intro w' hSw
    clear hSw
    unfold oprc6
    first
    | (go_simp; done)
    | (go_simp; with_reducible rfl)
  simp only [oprc6, Act.put, List.setIfInBounds_toArray, List.set_cons_zero, List.set_cons_succ]
  refine wpAnyH_take (i := 9) (oi := oprc9) (v := ?_) rfl (by kernel_rfl) (by kernel_rfl) (by kernel_rfl) (fun _ _ _ h => h) (Or.inl ⟨by rfl, ?_⟩) (by assumption) ?_
  rotate_left
  · intro w' hSw
    clear hSw
    unfold oprc9
    first
    | (go_simp; done)
    | (go_simp; with_reducible rfl)
  simp only [oprc9, Act.put, List.setIfInBounds_toArray, List.set_cons_zero, List.set_cons_succ]
  refine wpAnyH_take (i := 10) (oi := oprc10) (v := ?_) rfl (by kernel_rfl) (by kernel_rfl) (by kernel_rfl) (fun _ _ _ h => h) (Or.inl ⟨by rfl, ?_⟩) (by assumption) ?_
  rotate_left
  · intro w' hSw
    clear hSw
    unfold oprc10
    first
    | (go_simp; done)
    | (go_simp; with_reducible rfl)
  simp only [oprc10, Act.put, List.setIfInBounds_toArray, List.set_cons_zero, List.set_cons_succ]
  refine wpAnyH_take (i := 11) (oi := oprc11) (v := ?_) rfl (by kernel_rfl) (by kernel_rfl) (by kernel_rfl) (fun _ _ _ h => h) (Or.inl ⟨by rfl, ?_⟩) (by assumption) ?_
  rotate_left
  · intro w' hSw
    clear hSw
    unfold oprc11
    first
    | (go_simp; done)
    | (go_simp; with_reducible rfl)
  simp only [oprc11, Act.put, List.setIfInBounds_toArray, List.set_cons_zero, List.set_cons_succ]
  refine wpAnyH_take (i := 13) (oi := oprc13) (v := ?_) rfl (by kernel_rfl) (by kernel_rfl) (by kernel_rfl) (fun _ _ _ h => h) (Or.inl ⟨by rfl, ?_⟩) (by assumption) ?_
  rotate_left
  · intro w' hSw
    clear hSw
    unfold oprc13
    first
    | (go_simp; done)
    | (go_simp; with_reducible rfl)
  simp only [oprc13, Act.put, List.setIfInBounds_toArray, List.set_cons_zero, List.set_cons_succ]
  refine wpAnyH_take (i := 14) (oi := oprc14) (v := .int .i64 (K : Int)) rfl (by kernel_rfl) (by kernel_rfl) (by kernel_rfl) (fun _ _ _ h => h) (Or.inl ⟨by rfl, ?_⟩) (by assumption) ?_
  · intro w' hSw
    (clear hSw; have zz := z2.out; unfold oprc14; go_simp; first | done | rw [zz])
  simp only [oprc14, Act.put, List.setIfInBounds_toArray, List.set_cons_zero, List.set_cons_succ]
  refine wpAnyH_ready (rs := [1, 5, 12]) (by kernel_rfl) (by simp) ?_
  refine AllReadyH.cons (o := oprc1) rfl (fun KK hKK => ?_) (AllReadyH.cons (o := oprc5) rfl (fun KK hKK => ?_) (AllReadyH.cons (o := oprc12) rfl (fun KK hKK => ?_) AllReadyH.nil))
  · unfold oprc1
    go_simp
    refine hKK.out _ _ trivial (fun hHeld => ?_)
    clear hKK KK
    refine wpAnyH_ready (rs := [5, 12]) (by kernel_rfl) (by simp) ?_
    refine AllReadyH.cons (o := oprc5) rfl (fun KK hKK => ?_) (AllReadyH.cons (o := oprc12) rfl (fun KK hKK => ?_) AllReadyH.nil)
    · have lc := cell_alloc (o := (.cells #[] 61)) ckZ.out
      unfold oprc5
      go_simp
      refine hKK.out _ _ trivial (fun hHeld => ?_)
      clear hKK KK lc
      refine wpAnyH_take (i := 7) (oi := oprc7) (v := x1) rfl (by kernel_rfl) (by kernel_rfl) (by kernel_rfl) (fun _ _ _ h => h) (Or.inl ⟨by rfl, ?_⟩) (by assumption) ?_
      · intro w' hSw
        (clear hSw; have hs := RR.out.1; unfold oprc7; go_simp; first | done | (rw [hs]; done) | (rw [hs]; rfl) | exact hs _)
      simp only [oprc7, Act.put, List.setIfInBounds_toArray, List.set_cons_zero, List.set_cons_succ]
      refine wpAnyH_ready (rs := [8, 12]) (by kernel_rfl) (by simp) ?_
      refine AllReadyH.cons (o := oprc8) rfl (fun KK hKK => ?_) (AllReadyH.cons (o := oprc12) rfl (fun KK hKK => ?_) AllReadyH.nil)
      · have hr := RR.out.2.2.1
        rw [if_pos (by kernel_rfl)]
        refine Go.Lib.wp_append_run _ _ _ _ _ rfl _ _ rfl rfl _ _ hr ?_
        refine hKK.out _ _ trivial (fun hHeld => ?_)
        clear hKK KK hr
        simp only [oprc8, Act.put, List.setIfInBounds_toArray, List.set_cons_zero, List.set_cons_succ]
        refine wpAnyH_ready (rs := [12]) (by kernel_rfl) (by simp) ?_
        refine AllReadyH.cons (o := oprc12) rfl (fun KK hKK => ?_) AllReadyH.nil
        have lc := RR.out.2.2.2.1
        unfold oprc12
        go_simp
        refine hKK.out _ _ trivial (fun hHeld => ?_)
        clear hKK KK lc
        refine wpAnyH_take (i := 15) (oi := oprc15) (v := x2) rfl (by kernel_rfl) (by kernel_rfl) (by kernel_rfl) (fun _ _ _ h => h) (Or.inl ⟨by rfl, ?_⟩) (by assumption) ?_
        · intro w' hSw
          (clear hSw; have hs := RR.out.2.1; unfold oprc15; go_simp; first | done | (rw [hs]; done) | (rw [hs]; rfl) | exact hs _)
        simp only [oprc15, Act.put, List.setIfInBounds_toArray, List.set_cons_zero, List.set_cons_succ]
        refine wpAnyH_ready (rs := [16]) (by kernel_rfl) (by simp) ?_
        refine AllReadyH.cons (o := oprc16) rfl (fun KK hKK => ?_) AllReadyH.nil
        have hr := RR.out.2.2.2.2.1
        rw [if_pos (by kernel_rfl)]
        refine Go.Lib.wp_append_run _ _ _ _ _ rfl _ _ rfl rfl _ _ hr ?_
        refine hKK.out _ _ trivial (fun hHeld => ?_)
        clear hKK KK hr
        simp only [oprc16, Act.put, List.setIfInBounds_toArray, List.set_cons_zero, List.set_cons_succ]
        refine wpAnyH_take (i := 17) (oi := oprc17) (v := ?_) rfl (by kernel_rfl) (by kernel_rfl) (by kernel_rfl) (fun _ _ _ h => h) (Or.inl ⟨by rfl, ?_⟩) (by assumption) ?_
        rotate_left
        · intro w' hSw
          clear hSw
          unfold oprc17
          first
          | (go_simp; done)
          | (go_simp; with_reducible rfl)
        simp only [oprc17, Act.put, List.setIfInBounds_toArray, List.set_cons_zero, List.set_cons_succ]
        refine wpAnyH_take (i := 18) (oi := oprc18) (v := ?_) rfl (by kernel_rfl) (by kernel_rfl) (by kernel_rfl) (fun _ _ _ h => h) (Or.inl ⟨by rfl, ?_⟩) (by assumption) ?_
        rotate_left
        · intro w' hSw
          clear hSw
          unfold oprc18
          first
          | (go_simp; done)
          | (go_simp; with_reducible rfl)
        simp only [oprc18, Act.put, List.setIfInBounds_toArray, List.set_cons_zero, List.set_cons_succ]
        refine wpAnyH_ready (rs := [19]) (by kernel_rfl) (by simp) ?_
        refine AllReadyH.cons (o := oprc19) rfl (fun KK hKK => ?_) AllReadyH.nil
        have sc := RR.out.2.2.2.2.2.1
        have sf := RR.out.2.2.2.2.2.2
        unfold oprc19
        go_simp
        refine hKK.out _ _ trivial (fun hHeld => ?_)
        clear hKK KK sc sf
        refine wpAnyH_done (by kernel_rfl) ?_ _
        refine NoPanic.normal ?_
        exact hQ.out _ _ _ _ _ _ _ _ _ _ _ _ _ _ _ _ _ _ _
      · have lc := cell_alloc (o := (.cells #[] 61)) ckZ.out
        unfold oprc12
        go_simp
        refine hKK.out _ _ trivial (fun hHeld => ?_)
        clear hKK KK lc
        refine wpAnyH_take (i := 15) (oi := oprc15) (v := x2) rfl (by kernel_rfl) (by kernel_rfl) (by kernel_rfl) (fun _ _ _ h => h) (Or.inl ⟨by rfl, ?_⟩) (by assumption) ?_
        · intro w' hSw
          (clear hSw; have hs := RR.out.2.1; unfold oprc15; go_simp; first | done | (rw [hs]; done) | (rw [hs]; rfl) | exact hs _)
        simp only [oprc15, Act.put, List.setIfInBounds_toArray, List.set_cons_zero, List.set_cons_succ]
        refine wpAnyH_ready (rs := [8]) (by kernel_rfl) (by simp) ?_
        refine AllReadyH.cons (o := oprc8) rfl (fun KK hKK => ?_) AllReadyH.nil
        have hr := RR.out.2.2.1
        rw [if_pos (by kernel_rfl)]
        refine Go.Lib.wp_append_run _ _ _ _ _ rfl _ _ rfl rfl _ _ hr ?_
        refine hKK.out _ _ trivial (fun hHeld => ?_)
        clear hKK KK hr
        simp only [oprc8, Act.put, List.setIfInBounds_toArray, List.set_cons_zero, List.set_cons_succ]
        refine wpAnyH_ready (rs := [16]) (by kernel_rfl) (by simp) ?_
        refine AllReadyH.cons (o := oprc16) rfl (fun KK hKK => ?_) AllReadyH.nil
        have hr := RR.out.2.2.2.2.1
        rw [if_pos (by kernel_rfl)]
        refine Go.Lib.wp_append_run _ _ _ _ _ rfl _ _ rfl rfl _ _ hr ?_
        refine hKK.out _ _ trivial (fun hHeld => ?_)
        clear hKK KK hr
        simp only [oprc16, Act.put, List.setIfInBounds_toArray, List.set_cons_zero, List.set_cons_succ]
        refine wpAnyH_take (i := 17) (oi := oprc17) (v := ?_) rfl (by kernel_rfl) (by kernel_rfl) (by kernel_rfl) (fun _ _ _ h => h) (Or.inl ⟨by rfl, ?_⟩) (by assumption) ?_
        rotate_left
        · intro w' hSw
          clear hSw
          unfold oprc17
          first
          | (go_simp; done)
          | (go_simp; with_reducible rfl)
        simp only [oprc17, Act.put, List.setIfInBounds_toArray, List.set_cons_zero, List.set_cons_succ]
        refine wpAnyH_take (i := 18) (oi := oprc18) (v := ?_) rfl (by kernel_rfl) (by kernel_rfl) (by kernel_rfl) (fun _ _ _ h => h) (Or.inl ⟨by rfl, ?_⟩) (by assumption) ?_
        rotate_left
        · intro w' hSw
          clear hSw
          unfold oprc18
          first
          | (go_simp; done)
          | (go_simp; with_reducible rfl)
        simp only [oprc18, Act.put, List.setIfInBounds_toArray, List.set_cons_zero, List.set_cons_succ]
        refine wpAnyH_ready (rs := [19]) (by kernel_rfl) (by simp) ?_
        refine AllReadyH.cons (o := oprc19) rfl (fun KK hKK => ?_) AllReadyH.nil
        have sc := RR.out.2.2.2.2.2.1
        have sf := RR.out.2.2.2.2.2.2
        unfold oprc19
        go_simp
        refine hKK.out _ _ trivial (fun hHeld => ?_)
        clear hKK KK sc sf
        refine wpAnyH_done (by kernel_rfl) ?_ _
        refine NoPanic.normal ?_
        exact hQ.out _ _ _ _ _ _ _ _ _ _ _ _ _ _ _ _ _ _ _
    · have lc := cell_alloc (o := (.cells #[] 61)) ckZ.out
      unfold oprc12
      go_simp
      refine hKK.out _ _ trivial (fun hHeld => ?_)
      clear hKK KK lc
      refine wpAnyH_take (i := 15) (oi := oprc15) (v := x2) rfl (by kernel_rfl) (by kernel_rfl) (by kernel_rfl) (fun _ _ _ h => h) (Or.inl ⟨by rfl, ?_⟩) (by assumption) ?_
      · intro w' hSw
        (clear hSw; have hs := RR.out.2.1; unfold oprc15; go_simp; first | done | (rw [hs]; done) | (rw [hs]; rfl) | exact hs _)
      simp only [oprc15, Act.put, List.setIfInBounds_toArray, List.set_cons_zero, List.set_cons_succ]
      refine wpAnyH_ready (rs := [5]) (by kernel_rfl) (by simp) ?_
      refine AllReadyH.cons (o := oprc5) rfl (fun KK hKK => ?_) AllReadyH.nil
      have lc := cell_alloc (o := (.cells #[] 61)) ckZ.out
      unfold oprc5
      go_simp
      refine hKK.out _ _ trivial (fun hHeld => ?_)
      clear hKK KK lc
      refine wpAnyH_take (i := 7) (oi := oprc7) (v := x1) rfl (by kernel_rfl) (by kernel_rfl) (by kernel_rfl) (fun _ _ _ h => h) (Or.inl ⟨by rfl, ?_⟩) (by assumption) ?_
      · intro w' hSw
        (clear hSw; have hs := RR.out.1; unfold oprc7; go_simp; first | done | (rw [hs]; done) | (rw [hs]; rfl) | exact hs _)
      simp only [oprc7, Act.put, List.setIfInBounds_toArray, List.set_cons_zero, List.set_cons_succ]
      refine wpAnyH_ready (rs := [8]) (by kernel_rfl) (by simp) ?_
      refine AllReadyH.cons (o := oprc8) rfl (fun KK hKK => ?_) AllReadyH.nil
      have hr := RR.out.2.2.1
      rw [if_pos (by kernel_rfl)]
      refine Go.Lib.wp_append_run _ _ _ _ _ rfl _ _ rfl rfl _ _ hr ?_
      refine hKK.out _ _ trivial (fun hHeld => ?_)
      clear hKK KK hr
      simp only [oprc8, Act.put, List.setIfInBounds_toArray, List.set_cons_zero, List.set_cons_succ]
      refine wpAnyH_ready (rs := [16]) (by kernel_rfl) (by simp) ?_
      refine AllReadyH.cons (o := oprc16) rfl (fun KK hKK => ?_) AllReadyH.nil
      have hr := RR.out.2.2.2.2.1
      rw [if_pos (by kernel_rfl)]
      refine Go.Lib.wp_append_run _ _ _ _ _ rfl _ _ rfl rfl _ _ hr ?_
      refine hKK.out _ _ trivial (fun hHeld => ?_)
      clear hKK KK hr
      simp only [oprc16, Act.put, List.setIfInBounds_toArray, List.set_cons_zero, List.set_cons_succ]
      refine wpAnyH_take (i := 17) (oi := oprc17) (v := ?_) rfl (by kernel_rfl) (by kernel_rfl) (by kernel_rfl) (fun _ _ _ h => h) (Or.inl ⟨by rfl, ?_⟩) (by assumption) ?_
      rotate_left
      · intro w' hSw
        clear hSw
        unfold oprc17
        first
        | (go_simp; done)
        | (go_simp; with_reducible rfl)
      simp only [oprc17, Act.put, List.setIfInBounds_toArray, List.set_cons_zero, List.set_cons_succ]
      refine wpAnyH_take (i := 18) (oi := oprc18) (v := ?_) rfl (by kernel_rfl) (by kernel_rfl) (by kernel_rfl) (fun _ _ _ h => h) (Or.inl ⟨by rfl, ?_⟩) (by assumption) ?_
      rotate_left
      · intro w' hSw
        clear hSw
        unfold oprc18
        first
        | (go_simp; done)
        | (go_simp; with_reducible rfl)
      simp only [oprc18, Act.put, List.setIfInBounds_toArray, List.set_cons_zero, List.set_cons_succ]
      refine wpAnyH_ready (rs := [19]) (by kernel_rfl) (by simp) ?_
      refine AllReadyH.cons (o := oprc19) rfl (fun KK hKK => ?_) AllReadyH.nil
      have sc := RR.out.2.2.2.2.2.1
      have sf := RR.out.2.2.2.2.2.2
      unfold oprc19
      go_simp
      refine hKK.out _ _ trivial (fun hHeld => ?_)
      clear hKK KK sc sf
      refine wpAnyH_done (by kernel_rfl) ?_ _
      refine NoPanic.normal ?_
      exact hQ.out _ _ _ _ _ _ _ _ _ _ _ _ _ _ _ _ _ _ _
  · have lc := ckZ.out
    unfold oprc5
    go_simp
    refine hKK.out _ _ trivial (fun hHeld => ?_)
    clear hKK KK lc
    refine wpAnyH_take (i := 7) (oi := oprc7) (v := x1) rfl (by kernel_rfl) (by kernel_rfl) (by kernel_rfl) (fun _ _ _ h => h) (Or.inl ⟨by rfl, ?_⟩) (by assumption) ?_
    · intro w' hSw
      (clear hSw; have hs := RR.out.1; unfold oprc7; go_simp; first | done | (rw [hs]; done) | (rw [hs]; rfl) | exact hs _)
    simp only [oprc7, Act.put, List.setIfInBounds_toArray, List.set_cons_zero, List.set_cons_succ]
    refine wpAnyH_ready (rs := [1, 12]) (by kernel_rfl) (by simp) ?_
    refine AllReadyH.cons (o := oprc1) rfl (fun KK hKK => ?_) (AllReadyH.cons (o := oprc12) rfl (fun KK hKK => ?_) AllReadyH.nil)
    · unfold oprc1
      go_simp
      refine hKK.out _ _ trivial (fun hHeld => ?_)
      clear hKK KK
      refine wpAnyH_ready (rs := [8, 12]) (by kernel_rfl) (by simp) ?_
      refine AllReadyH.cons (o := oprc8) rfl (fun KK hKK => ?_) (AllReadyH.cons (o := oprc12) rfl (fun KK hKK => ?_) AllReadyH.nil)
      · have hr := RR.out.2.2.1
        rw [if_pos (by kernel_rfl)]
        refine Go.Lib.wp_append_run _ _ _ _ _ rfl _ _ rfl rfl _ _ hr ?_
        refine hKK.out _ _ trivial (fun hHeld => ?_)
        clear hKK KK hr
        simp only [oprc8, Act.put, List.setIfInBounds_toArray, List.set_cons_zero, List.set_cons_succ]
        refine wpAnyH_ready (rs := [12]) (by kernel_rfl) (by simp) ?_
        refine AllReadyH.cons (o := oprc12) rfl (fun KK hKK => ?_) AllReadyH.nil
        have lc := RR.out.2.2.2.1
        unfold oprc12
        go_simp
        refine hKK.out _ _ trivial (fun hHeld => ?_)
        clear hKK KK lc
        refine wpAnyH_take (i := 15) (oi := oprc15) (v := x2) rfl (by kernel_rfl) (by kernel_rfl) (by kernel_rfl) (fun _ _ _ h => h) (Or.inl ⟨by rfl, ?_⟩) (by assumption) ?_
        · intro w' hSw
          (clear hSw; have hs := RR.out.2.1; unfold oprc15; go_simp; first | done | (rw [hs]; done) | (rw [hs]; rfl) | exact hs _)
        simp only [oprc15, Act.put, List.setIfInBounds_toArray, List.set_cons_zero, List.set_cons_succ]
        refine wpAnyH_ready (rs := [16]) (by kernel_rfl) (by simp) ?_
        refine AllReadyH.cons (o := oprc16) rfl (fun KK hKK => ?_) AllReadyH.nil
        have hr := RR.out.2.2.2.2.1
        rw [if_pos (by kernel_rfl)]
        refine Go.Lib.wp_append_run _ _ _ _ _ rfl _ _ rfl rfl _ _ hr ?_
        refine hKK.out _ _ trivial (fun hHeld => ?_)
        clear hKK KK hr
        simp only [oprc16, Act.put, List.setIfInBounds_toArray, List.set_cons_zero, List.set_cons_succ]
        refine wpAnyH_take (i := 17) (oi := oprc17) (v := ?_) rfl (by kernel_rfl) (by kernel_rfl) (by kernel_rfl) (fun _ _ _ h => h) (Or.inl ⟨by rfl, ?_⟩) (by assumption) ?_
        rotate_left
        · intro w' hSw
          clear hSw
          unfold oprc17
          first
          | (go_simp; done)
          | (go_simp; with_reducible rfl)
        simp only [oprc17, Act.put, List.setIfInBounds_toArray, List.set_cons_zero, List.set_cons_succ]
        refine wpAnyH_take (i := 18) (oi := oprc18) (v := ?_) rfl (by kernel_rfl) (by kernel_rfl) (by kernel_rfl) (fun _ _ _ h => h) (Or.inl ⟨by rfl, ?_⟩) (by assumption) ?_
        rotate_left
        · intro w' hSw
          clear hSw
          unfold oprc18
          first
          | (go_simp; done)
          | (go_simp; with_reducible rfl)
        simp only [oprc18, Act.put, List.setIfInBounds_toArray, List.set_cons_zero, List.set_cons_succ]
        refine wpAnyH_ready (rs := [19]) (by kernel_rfl) (by simp) ?_
        refine AllReadyH.cons (o := oprc19) rfl (fun KK hKK => ?_) AllReadyH.nil
        have sc := RR.out.2.2.2.2.2.1
        have sf := RR.out.2.2.2.2.2.2
        unfold oprc19
        go_simp
        refine hKK.out _ _ trivial (fun hHeld => ?_)
        clear hKK KK sc sf
        refine wpAnyH_done (by kernel_rfl) ?_ _
        refine NoPanic.normal ?_
        exact hQ.out _ _ _ _ _ _ _ _ _ _ _ _ _ _ _ _ _ _ _
      · have lc := cell_alloc (o := (.cells #[] 61)) ckZ.out
        unfold oprc12
        go_simp
        refine hKK.out _ _ trivial (fun hHeld => ?_)
        clear hKK KK lc
        refine wpAnyH_take (i := 15) (oi := oprc15) (v := x2) rfl (by kernel_rfl) (by kernel_rfl) (by kernel_rfl) (fun _ _ _ h => h) (Or.inl ⟨by rfl, ?_⟩) (by assumption) ?_
        · intro w' hSw
          (clear hSw; have hs := RR.out.2.1; unfold oprc15; go_simp; first | done | (rw [hs]; done) | (rw [hs]; rfl) | exact hs _)
        simp only [oprc15, Act.put, List.setIfInBounds_toArray, List.set_cons_zero, List.set_cons_succ]
        refine wpAnyH_ready (rs := [8]) (by kernel_rfl) (by simp) ?_
        refine AllReadyH.cons (o := oprc8) rfl (fun KK hKK => ?_) AllReadyH.nil
        have hr := RR.out.2.2.1
        rw [if_pos (by kernel_rfl)]
        refine Go.Lib.wp_append_run _ _ _ _ _ rfl _ _ rfl rfl _ _ hr ?_
        refine hKK.out _ _ trivial (fun hHeld => ?_)
        clear hKK KK hr
        simp only [oprc8, Act.put, List.setIfInBounds_toArray, List.set_cons_zero, List.set_cons_succ]
        refine wpAnyH_ready (rs := [16]) (by kernel_rfl) (by simp) ?_
        refine AllReadyH.cons (o := oprc16) rfl (fun KK hKK => ?_) AllReadyH.nil
        have hr := RR.out.2.2.2.2.1
        rw [if_pos (by kernel_rfl)]
        refine Go.Lib.wp_append_run _ _ _ _ _ rfl _ _ rfl rfl _ _ hr ?_
        refine hKK.out _ _ trivial (fun hHeld => ?_)
        clear hKK KK hr
        simp only [oprc16, Act.put, List.setIfInBounds_toArray, List.set_cons_zero, List.set_cons_succ]
        refine wpAnyH_take (i := 17) (oi := oprc17) (v := ?_) rfl (by kernel_rfl) (by kernel_rfl) (by kernel_rfl) (fun _ _ _ h => h) (Or.inl ⟨by rfl, ?_⟩) (by assumption) ?_
        rotate_left
        · intro w' hSw
          clear hSw
          unfold oprc17
          first
          | (go_simp; done)
          | (go_simp; with_reducible rfl)
        simp only [oprc17, Act.put, List.setIfInBounds_toArray, List.set_cons_zero, List.set_cons_succ]
        refine wpAnyH_take (i := 18) (oi := oprc18) (v := ?_) rfl (by kernel_rfl) (by kernel_rfl) (by kernel_rfl) (fun _ _ _ h => h) (Or.inl ⟨by rfl, ?_⟩) (by assumption) ?_
        rotate_left
        · intro w' hSw
          clear hSw
          unfold oprc18
          first
          | (go_simp; done)
          | (go_simp; with_reducible rfl)
        simp only [oprc18, Act.put, List.setIfInBounds_toArray, List.set_cons_zero, List.set_cons_succ]
        refine wpAnyH_ready (rs := [19]) (by kernel_rfl) (by simp) ?_
        refine AllReadyH.cons (o := oprc19) rfl (fun KK hKK => ?_) AllReadyH.nil
        have sc := RR.out.2.2.2.2.2.1
        have sf := RR.out.2.2.2.2.2.2
        unfold oprc19
        go_simp
        refine hKK.out _ _ trivial (fun hHeld => ?_)
        clear hKK KK sc sf
        refine wpAnyH_done (by kernel_rfl) ?_ _
        refine NoPanic.normal ?_
        exact hQ.out _ _ _ _ _ _ _ _ _ _ _ _ _ _ _ _ _ _ _
    · have lc := ckZ.out
      unfold oprc12
      go_simp
      refine hKK.out _ _ trivial (fun hHeld => ?_)
      clear hKK KK lc
      refine wpAnyH_take (i := 15) (oi := oprc15) (v := x2) rfl (by kernel_rfl) (by kernel_rfl) (by kernel_rfl) (fun _ _ _ h => h) (Or.inl ⟨by rfl, ?_⟩) (by assumption) ?_
      · intro w' hSw
        (clear hSw; have hs := RR.out.2.1; unfold oprc15; go_simp; first | done | (rw [hs]; done) | (rw [hs]; rfl) | exact hs _)
      simp only [oprc15, Act.put, List.setIfInBounds_toArray, List.set_cons_zero, List.set_cons_succ]
      refine wpAnyH_ready (rs := [1]) (by kernel_rfl) (by simp) ?_
      refine AllReadyH.cons (o := oprc1) rfl (fun KK hKK => ?_) AllReadyH.nil
      unfold oprc1
      go_simp
      refine hKK.out _ _ trivial (fun hHeld => ?_)
      clear hKK KK
      refine wpAnyH_ready (rs := [8]) (by kernel_rfl) (by simp) ?_
      refine AllReadyH.cons (o := oprc8) rfl (fun KK hKK => ?_) AllReadyH.nil
      have hr := RR.out.2.2.1
      rw [if_pos (by kernel_rfl)]
      refine Go.Lib.wp_append_run _ _ _ _ _ rfl _ _ rfl rfl _ _ hr ?_
      refine hKK.out _ _ trivial (fun hHeld => ?_)
      clear hKK KK hr
      simp only [oprc8, Act.put, List.setIfInBounds_toArray, List.set_cons_zero, List.set_cons_succ]
      refine wpAnyH_ready (rs := [16]) (by kernel_rfl) (by simp) ?_
      refine AllReadyH.cons (o := oprc16) rfl (fun KK hKK => ?_) AllReadyH.nil
      have hr := RR.out.2.2.2.2.1
      rw [if_pos (by kernel_rfl)]
      refine Go.Lib.wp_append_run _ _ _ _ _ rfl _ _ rfl rfl _ _ hr ?_
      refine hKK.out _ _ trivial (fun hHeld => ?_)
      clear hKK KK hr
      simp only [oprc16, Act.put, List.setIfInBounds_toArray, List.set_cons_zero, List.set_cons_succ]
      refine wpAnyH_take (i := 17) (oi := oprc17) (v := ?_) rfl (by kernel_rfl) (by kernel_rfl) (by kernel_rfl) (fun _ _ _ h => h) (Or.inl ⟨by rfl, ?_⟩) (by assumption) ?_
      rotate_left
      · intro w' hSw
        clear hSw
        unfold oprc17
        first
        | (go_simp; done)
        | (go_simp; with_reducible rfl)
      simp only [oprc17, Act.put, List.setIfInBounds_toArray, List.set_cons_zero, List.set_cons_succ]
      refine wpAnyH_take (i := 18) (oi := oprc18) (v := ?_) rfl (by kernel_rfl) (by kernel_rfl) (by kernel_rfl) (fun _ _ _ h => h) (Or.inl ⟨by rfl, ?_⟩) (by assumption) ?_
      rotate_left
      · intro w' hSw
        clear hSw
        unfold oprc18
        first
        | (go_simp; done)
        | (go_simp; with_reducible rfl)
      simp only [oprc18, Act.put, List.setIfInBounds_toArray, List.set_cons_zero, List.set_cons_succ]
      refine wpAnyH_ready (rs := [19]) (by kernel_rfl) (by simp) ?_
      refine AllReadyH.cons (o := oprc19) rfl (fun KK hKK => ?_) AllReadyH.nil
      have sc := RR.out.2.2.2.2.2.1
      have sf := RR.out.2.2.2.2.2.2
      unfold oprc19
      go_simp
      refine hKK.out _ _ trivial (fun hHeld => ?_)
      clear hKK KK sc sf
      refine wpAnyH_done (by kernel_rfl) ?_ _
      refine NoPanic.normal ?_
      exact hQ.out _ _ _ _ _ _ _ _ _ _ _ _ _ _ _ _ _ _ _
  · have lc := ckZ.out
    unfold oprc12
    go_simp
    refine hKK.out _ _ trivial (fun hHeld => ?_)
    clear hKK KK lc
    refine wpAnyH_take (i := 15) (oi := oprc15) (v := x2) rfl (by kernel_rfl) (by kernel_rfl) (by kernel_rfl) (fun _ _ _ h => h) (Or.inl ⟨by rfl, ?_⟩) (by assumption) ?_
    · intro w' hSw
      (clear hSw; have hs := RR.out.2.1; unfold oprc15; go_simp; first | done | (rw [hs]; done) | (rw [hs]; rfl) | exact hs _)
    simp only [oprc15, Act.put, List.setIfInBounds_toArray, List.set_cons_zero, List.set_cons_succ]
    refine wpAnyH_ready (rs := [1, 5]) (by kernel_rfl) (by simp) ?_
    refine AllReadyH.cons (o := oprc1) rfl (fun KK hKK => ?_) (AllReadyH.cons (o := oprc5) rfl (fun KK hKK => ?_) AllReadyH.nil)
    · unfold oprc1
      go_simp
      refine hKK.out _ _ trivial (fun hHeld => ?_)
      clear hKK KK
      refine wpAnyH_ready (rs := [5]) (by kernel_rfl) (by simp) ?_
      refine AllReadyH.cons (o := oprc5) rfl (fun KK hKK => ?_) AllReadyH.nil
      have lc := cell_alloc (o := (.cells #[] 61)) ckZ.out
      unfold oprc5
      go_simp
      refine hKK.out _ _ trivial (fun hHeld => ?_)
      clear hKK KK lc
      refine wpAnyH_take (i := 7) (oi := oprc7) (v := x1) rfl (by kernel_rfl) (by kernel_rfl) (by kernel_rfl) (fun _ _ _ h => h) (Or.inl ⟨by rfl, ?_⟩) (by assumption) ?_
      · intro w' hSw
        (clear hSw; have hs := RR.out.1; unfold oprc7; go_simp; first | done | (rw [hs]; done) | (rw [hs]; rfl) | exact hs _)
      simp only [oprc7, Act.put, List.setIfInBounds_toArray, List.set_cons_zero, List.set_cons_succ]
      refine wpAnyH_ready (rs := [8]) (by kernel_rfl) (by simp) ?_
      refine AllReadyH.cons (o := oprc8) rfl (fun KK hKK => ?_) AllReadyH.nil
      have hr := RR.out.2.2.1
      rw [if_pos (by kernel_rfl)]
      refine Go.Lib.wp_append_run _ _ _ _ _ rfl _ _ rfl rfl _ _ hr ?_
      refine hKK.out _ _ trivial (fun hHeld => ?_)
      clear hKK KK hr
      simp only [oprc8, Act.put, List.setIfInBounds_toArray, List.set_cons_zero, List.set_cons_succ]
      refine wpAnyH_ready (rs := [16]) (by kernel_rfl) (by simp) ?_
      refine AllReadyH.cons (o := oprc16) rfl (fun KK hKK => ?_) AllReadyH.nil
      have hr := RR.out.2.2.2.2.1
      rw [if_pos (by kernel_rfl)]
      refine Go.Lib.wp_append_run _ _ _ _ _ rfl _ _ rfl rfl _ _ hr ?_
      refine hKK.out _ _ trivial (fun hHeld => ?_)
      clear hKK KK hr
      simp only [oprc16, Act.put, List.setIfInBounds_toArray, List.set_cons_zero, List.set_cons_succ]
      refine wpAnyH_take (i := 17) (oi := oprc17) (v := ?_) rfl (by kernel_rfl) (by kernel_rfl) (by kernel_rfl) (fun _ _ _ h => h) (Or.inl ⟨by rfl, ?_⟩) (by assumption) ?_
      rotate_left
      · intro w' hSw
        clear hSw
        unfold oprc17
        first
        | (go_simp; done)
        | (go_simp; with_reducible rfl)
      simp only [oprc17, Act.put, List.setIfInBounds_toArray, List.set_cons_zero, List.set_cons_succ]
      refine wpAnyH_take (i := 18) (oi := oprc18) (v := ?_) rfl (by kernel_rfl) (by kernel_rfl) (by kernel_rfl) (fun _ _ _ h => h) (Or.inl ⟨by rfl, ?_⟩) (by assumption) ?_
      rotate_left
      · intro w' hSw
        clear hSw
        unfold oprc18
        first
        | (go_simp; done)
        | (go_simp; with_reducible rfl)
      simp only [oprc18, Act.put, List.setIfInBounds_toArray, List.set_cons_zero, List.set_cons_succ]
      refine wpAnyH_ready (rs := [19]) (by kernel_rfl) (by simp) ?_
      refine AllReadyH.cons (o := oprc19) rfl (fun KK hKK => ?_) AllReadyH.nil
      have sc := RR.out.2.2.2.2.2.1
      have sf := RR.out.2.2.2.2.2.2
      unfold oprc19
      go_simp
      refine hKK.out _ _ trivial (fun hHeld => ?_)
      clear hKK KK sc sf
      refine wpAnyH_done (by kernel_rfl) ?_ _
      refine NoPanic.normal ?_
      exact hQ.out _ _ _ _ _ _ _ _ _ _ _ _ _ _ _ _ _ _ _
    · have lc := ckZ.out
      unfold oprc5
      go_simp
      refine hKK.out _ _ trivial (fun hHeld => ?_)
      clear hKK KK lc
      refine wpAnyH_take (i := 7) (oi := oprc7) (v := x1) rfl (by kernel_rfl) (by kernel_rfl) (by kernel_rfl) (fun _ _ _ h => h) (Or.inl ⟨by rfl, ?_⟩) (by assumption) ?_
      · intro w' hSw
        (clear hSw; have hs := RR.out.1; unfold oprc7; go_simp; first | done | (rw [hs]; done) | (rw [hs]; rfl) | exact hs _)
      simp only [oprc7, Act.put, List.setIfInBounds_toArray, List.set_cons_zero, List.set_cons_succ]
      refine wpAnyH_ready (rs := [1]) (by kernel_rfl) (by simp) ?_
      refine AllReadyH.cons (o := oprc1) rfl (fun KK hKK => ?_) AllReadyH.nil
      unfold oprc1
      go_simp
      refine hKK.out _ _ trivial (fun hHeld => ?_)
      clear hKK KK
      refine wpAnyH_ready (rs := [8]) (by kernel_rfl) (by simp) ?_
      refine AllReadyH.cons (o := oprc8) rfl (fun KK hKK => ?_) AllReadyH.nil
      have hr := RR.out.2.2.1
      rw [if_pos (by kernel_rfl)]
      refine Go.Lib.wp_append_run _ _ _ _ _ rfl _ _ rfl rfl _ _ hr ?_
      refine hKK.out _ _ trivial (fun hHeld => ?_)
      clear hKK KK hr
      simp only [oprc8, Act.put, List.setIfInBounds_toArray, List.set_cons_zero, List.set_cons_succ]
      refine wpAnyH_ready (rs := [16]) (by kernel_rfl) (by simp) ?_
      refine AllReadyH.cons (o := oprc16) rfl (fun KK hKK => ?_) AllReadyH.nil
      have hr := RR.out.2.2.2.2.1
      rw [if_pos (by kernel_rfl)]
      refine Go.Lib.wp_append_run _ _ _ _ _ rfl _ _ rfl rfl _ _ hr ?_
      refine hKK.out _ _ trivial (fun hHeld => ?_)
      clear hKK KK hr
      simp only [oprc16, Act.put, List.setIfInBounds_toArray, List.set_cons_zero, List.set_cons_succ]
      refine wpAnyH_take (i := 17) (oi := oprc17) (v := ?_) rfl (by kernel_rfl) (by kernel_rfl) (by kernel_rfl) (fun _ _ _ h => h) (Or.inl ⟨by rfl, ?_⟩) (by assumption) ?_
      rotate_left
      · intro w' hSw
        clear hSw
        unfold oprc17
        first
        | (go_simp; done)
        | (go_simp; with_reducible rfl)
      simp only [oprc17, Act.put, List.setIfInBounds_toArray, List.set_cons_zero, List.set_cons_succ]
      refine wpAnyH_take (i := 18) (oi := oprc18) (v := ?_) rfl (by kernel_rfl) (by kernel_rfl) (by kernel_rfl) (fun _ _ _ h => h) (Or.inl ⟨by rfl, ?_⟩) (by assumption) ?_
      rotate_left
      · intro w' hSw
        clear hSw
        unfold oprc18
        first
        | (go_simp; done)
        | (go_simp; with_reducible rfl)
      simp only [oprc18, Act.put, List.setIfInBounds_toArray, List.set_cons_zero, List.set_cons_succ]
      refine wpAnyH_ready (rs := [19]) (by kernel_rfl) (by simp) ?_
      refine AllReadyH.cons (o := oprc19) rfl (fun KK hKK => ?_) AllReadyH.nil
      have sc := RR.out.2.2.2.2.2.1
      have sf := RR.out.2.2.2.2.2.2
      unfold oprc19
      go_simp
      refine hKK.out _ _ trivial (fun hHeld => ?_)
      clear hKK KK sc sf
      refine wpAnyH_done (by kernel_rfl) ?_ _
      refine NoPanic.normal ?_
      exact hQ.out _ _ _ _ _ _ _ _ _ _ _ _ _ _ _ _ _ _ _
end Go.Proofs.Ythnkkkiobbnpmaa
