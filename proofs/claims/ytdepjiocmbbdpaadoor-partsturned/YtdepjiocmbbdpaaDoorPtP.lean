/- One more behind a queue; a message struck. -/
import Derived.Test.YtdepjiocmbbdpaaDoorPtO
namespace Go.Proofs.YtdepjiocmbbdpaaDoor
open Go.RowKit Go.Proofs.Fd Go.Proofs.Pt
set_option maxRecDepth 20000

def oppu0 : Oper := { dst := some 4, op := Go.Op.move (Go.Operand.tmp 0), type := 112, pos := "queue.go:12", after := #[], guard := none }
def oppu1 : Oper := { dst := some 5, op := Go.Op.nilCheck (Go.Operand.tmp 4), type := 0, pos := "queue.go:12", after := #[{ on := 0, ground := Go.Ground.data }], guard := none }
def oppu2 : Oper := { dst := some 6, op := Go.Op.fieldAddr 70 (Go.Operand.tmp 5) 1, type := 0, pos := "queue.go:12", after := #[{ on := 1, ground := Go.Ground.data }], guard := none }
def oppu3 : Oper := { dst := some 7, op := Go.Op.load 68 (Go.Operand.tmp 6), type := 68, pos := "queue.go:12", after := #[{ on := 2, ground := Go.Ground.data }], guard := none }
def oppu4 : Oper := { dst := some 8, op := Go.Op.call { callee := Go.Callee.builtin Go.Builtin.len, args := #[Go.Operand.tmp 7], argTypes := #[68] }, type := 3, pos := "queue.go:12", after := #[{ on := 3, ground := Go.Ground.data }], guard := none }
def oppu5 : Oper := { dst := some 9, op := Go.Op.move (Go.Operand.tmp 0), type := 112, pos := "queue.go:12", after := #[], guard := none }
def oppu6 : Oper := { dst := some 10, op := Go.Op.nilCheck (Go.Operand.tmp 9), type := 0, pos := "queue.go:12", after := #[{ on := 5, ground := Go.Ground.data }], guard := none }
def oppu7 : Oper := { dst := some 11, op := Go.Op.fieldAddr 70 (Go.Operand.tmp 10) 0, type := 0, pos := "queue.go:12", after := #[{ on := 6, ground := Go.Ground.data }], guard := none }
def oppu8 : Oper := { dst := some 12, op := Go.Op.load 3 (Go.Operand.tmp 11), type := 3, pos := "queue.go:12", after := #[{ on := 7, ground := Go.Ground.data }], guard := none }
def oppu9 : Oper := { dst := some 13, op := Go.Op.binOp Go.BinOp.eql 3 (Go.Operand.tmp 8) (Go.Operand.tmp 12) 3, type := 4, pos := "queue.go:12", after := #[{ on := 4, ground := Go.Ground.data }, { on := 8, ground := Go.Ground.data }], guard := none }
def opnu0 : Oper := { dst := some 4, op := Go.Op.move (Go.Operand.tmp 0), type := 100, pos := "queue.go:12", after := #[], guard := none }
def opnu1 : Oper := { dst := some 5, op := Go.Op.nilCheck (Go.Operand.tmp 4), type := 0, pos := "queue.go:12", after := #[{ on := 0, ground := Go.Ground.data }], guard := none }
def opnu2 : Oper := { dst := some 6, op := Go.Op.fieldAddr 73 (Go.Operand.tmp 5) 1, type := 0, pos := "queue.go:12", after := #[{ on := 1, ground := Go.Ground.data }], guard := none }
def opnu3 : Oper := { dst := some 7, op := Go.Op.load 71 (Go.Operand.tmp 6), type := 71, pos := "queue.go:12", after := #[{ on := 2, ground := Go.Ground.data }], guard := none }
def opnu4 : Oper := { dst := some 8, op := Go.Op.call { callee := Go.Callee.builtin Go.Builtin.len, args := #[Go.Operand.tmp 7], argTypes := #[71] }, type := 3, pos := "queue.go:12", after := #[{ on := 3, ground := Go.Ground.data }], guard := none }
def opnu5 : Oper := { dst := some 9, op := Go.Op.move (Go.Operand.tmp 0), type := 100, pos := "queue.go:12", after := #[], guard := none }
def opnu6 : Oper := { dst := some 10, op := Go.Op.nilCheck (Go.Operand.tmp 9), type := 0, pos := "queue.go:12", after := #[{ on := 5, ground := Go.Ground.data }], guard := none }
def opnu7 : Oper := { dst := some 11, op := Go.Op.fieldAddr 73 (Go.Operand.tmp 10) 0, type := 0, pos := "queue.go:12", after := #[{ on := 6, ground := Go.Ground.data }], guard := none }
def opnu8 : Oper := { dst := some 12, op := Go.Op.load 3 (Go.Operand.tmp 11), type := 3, pos := "queue.go:12", after := #[{ on := 7, ground := Go.Ground.data }], guard := none }
def opnu9 : Oper := { dst := some 13, op := Go.Op.binOp Go.BinOp.eql 3 (Go.Operand.tmp 8) (Go.Operand.tmp 12) 3, type := 4, pos := "queue.go:12", after := #[{ on := 4, ground := Go.Ground.data }, { on := 8, ground := Go.Ground.data }], guard := none }
def opnv0 : Oper := { dst := some 22, op := Go.Op.move (Go.Operand.tmp 0), type := 100, pos := "queue.go:15", after := #[], guard := none }
def opnv1 : Oper := { dst := some 23, op := Go.Op.move (Go.Operand.tmp 0), type := 100, pos := "queue.go:15", after := #[], guard := none }
def opnv2 : Oper := { dst := some 24, op := Go.Op.nilCheck (Go.Operand.tmp 23), type := 0, pos := "queue.go:15", after := #[{ on := 1, ground := Go.Ground.data }], guard := none }
def opnv3 : Oper := { dst := some 25, op := Go.Op.fieldAddr 73 (Go.Operand.tmp 24) 1, type := 0, pos := "queue.go:15", after := #[{ on := 2, ground := Go.Ground.data }], guard := none }
def opnv4 : Oper := { dst := some 26, op := Go.Op.load 71 (Go.Operand.tmp 25), type := 71, pos := "queue.go:15", after := #[{ on := 3, ground := Go.Ground.data }], guard := none }
def opnv5 : Oper := { dst := some 27, op := Go.Op.load 57 (Go.Operand.tmp 3), type := 57, pos := "queue.go:15", after := #[], guard := none }
def opnv6 : Oper := { dst := some 28, op := Go.Op.buildSlice 71 1 #[(0, Go.Operand.tmp 27)], type := 71, pos := "queue.go:15", after := #[{ on := 5, ground := Go.Ground.data }], guard := none }
def opnv7 : Oper := { dst := some 29, op := Go.Op.call { callee := Go.Callee.builtin Go.Builtin.append, args := #[Go.Operand.tmp 26, Go.Operand.tmp 28], argTypes := #[71, 71] }, type := 71, pos := "queue.go:15", after := #[{ on := 4, ground := Go.Ground.data }, { on := 6, ground := Go.Ground.data }], guard := none }
def opnv8 : Oper := { dst := some 30, op := Go.Op.nilCheck (Go.Operand.tmp 22), type := 0, pos := "queue.go:15", after := #[{ on := 0, ground := Go.Ground.data }, { on := 0, ground := Go.Ground.phase }, { on := 1, ground := Go.Ground.phase }, { on := 2, ground := Go.Ground.phase }, { on := 3, ground := Go.Ground.phase }, { on := 4, ground := Go.Ground.phase }, { on := 5, ground := Go.Ground.phase }, { on := 6, ground := Go.Ground.phase }, { on := 7, ground := Go.Ground.phase }], guard := none }
def opnv9 : Oper := { dst := some 31, op := Go.Op.fieldAddr 73 (Go.Operand.tmp 30) 1, type := 0, pos := "queue.go:15", after := #[{ on := 8, ground := Go.Ground.data }, { on := 0, ground := Go.Ground.phase }, { on := 1, ground := Go.Ground.phase }, { on := 2, ground := Go.Ground.phase }, { on := 3, ground := Go.Ground.phase }, { on := 4, ground := Go.Ground.phase }, { on := 5, ground := Go.Ground.phase }, { on := 6, ground := Go.Ground.phase }, { on := 7, ground := Go.Ground.phase }], guard := none }
def opnv10 : Oper := { dst := none, op := Go.Op.store 71 (Go.Operand.tmp 31) (Go.Operand.tmp 29), type := 0, pos := "queue.go:15", after := #[{ on := 9, ground := Go.Ground.data }, { on := 7, ground := Go.Ground.data }, { on := 7, ground := Go.Ground.chain }, { on := 0, ground := Go.Ground.phase }, { on := 1, ground := Go.Ground.phase }, { on := 2, ground := Go.Ground.phase }, { on := 3, ground := Go.Ground.phase }, { on := 4, ground := Go.Ground.phase }, { on := 5, ground := Go.Ground.phase }, { on := 6, ground := Go.Ground.phase }, { on := 7, ground := Go.Ground.phase }], guard := none }
theorem infoPtr : (Tryd.prog.info? 79).map (fun i => (i.zero, i.size, i.bytes)) = some (some (.pointer none), 1, 8) := by kernel_rfl
theorem infoName : (Tryd.prog.info? 57).map (fun i => (i.zero, i.size, i.bytes)) = some (some (.agg (bc (zb 8)).toArray), 8, 8) := by kernel_rfl
/-- Of two slices the block, or a new one. -/
def NewOwn (w : World) (v v' : Value) : Prop := v'.ownBlock = v.ownBlock ∨ ∃ g, v'.ownBlock = some g ∧ w.heap.size ≤ g
theorem app_row {w : World} {ST E : TypeId} {z : Value} {sz by_ : Nat} (hu : Tryd.prog.underlying ST = some (.slice E)) (hi : (Tryd.prog.info? E).map (fun i => (i.zero, i.size, i.bytes)) = some (some z, sz, by_)) (hz : z.cells.size = sz) (h0 : 0 < sz) (hb : by_ ≤ 64) (v : Value) (n : Nat) (xs : List Value) (h : w.ownsRow 0 E sz v n xs) (hn : n ≤ 1024) (ty : TypeId) (b : Nat) (news : List Value) (hl : news.length = sz) (hr : w.rangeAt b 0 news) (h1 : ∀ u ∈ news, u.oneCell' = true) :
    ∃ v' w', (Builtin.append_ #[ST, ST] ty #[v, .slice (some ⟨b, 0, none⟩) 1 1]).run Tryd.prog w = .ok v' w' ∧ w'.ownsRow 0 E sz v' (n + 1) (xs ++ news) ∧ Bf (fun q => v.ownBlock = some q) w w' ∧ NewOwn w v v' := by
  obtain ⟨i0, hi0, hz0, hz1, hz2⟩ := info3 hi
  obtain ⟨v', w', r1, r2, r3, -, r5⟩ := run_append_own_at (P := Tryd.prog) w 0 ST ty E i0 z sz by_ hu hi0 hz0 hz1 hz2 hz h0 v n xs h ⟨b, 0, none⟩ 1 1 news (by rw [hl, Nat.one_mul]) (fun j u hj => by rw [add_off]; exact hr j u hj) h1 (by unfold maxLen; omega) (by
    have : (n + 1) * by_ ≤ 1025 * 64 := Nat.mul_le_mul (by omega) hb
    omega) (Nat.zero_le _)
  refine ⟨v', w', r1, r2, ⟨r3.os, r3.tape, r3.output, r3.size, fun k hk hF => r3.block k hk (fun e => hF e.symm)⟩, ?_⟩
  rcases r5 with e | e
  · exact .inl e
  · exact .inr ⟨_, e, Nat.le_refl _⟩
theorem fold8 (l : List Value) (h : l.length = 8) (z0 z1 z2 z3 z4 z5 z6 z7 : Value) : List.foldl (fun cs x => cs.setIfInBounds x.snd x.fst) #[z0, z1, z2, z3, z4, z5, z6, z7] l.zipIdx = l.toArray := by
  obtain ⟨a0, a1, a2, a3, a4, a5, a6, a7, rfl⟩ := list8 h
  simp [List.zipIdx]
set_option maxHeartbeats 4000000 in
theorem qput_any (j mo no : Nat) (vS vD : Value) (l : List Nat) (b : Nat) (w : World) (hj : Blk w j [.int .i64 (mo : Int), vS, .int .i64 (no : Int), vD]) (hs : PRow w vS l) (hne : l.length ≠ mo) (hl : l.length ≤ 1024) (jS : vS.ownBlock ≠ some j) :
    Calls Tryd.prog 41 #[.pointer (some ⟨j, 0, none⟩), .pointer (some ⟨b, 0, none⟩)] w fun e w' => ∃ vS', e = .returned (.tuple #[]) ∧ Blk w' j [.int .i64 (mo : Int), vS', .int .i64 (no : Int), vD] ∧ PRow w' vS' (l ++ [b]) ∧ NewOwn w vS vS' ∧ Bf (fun z => z = j ∨ vS.ownBlock = some z) w w' := by
  obtain ⟨a, c, hv⟩ : ∃ a c, vS = .slice a l.length c := by
    rcases row_shape hs with ⟨rfl, hn⟩ | ⟨g, c, rfl, -⟩
    · exact ⟨none, 0, by rw [hn]⟩
    · exact ⟨_, _, rfl⟩
  have hd := hj.drew
  have sd : PRow w.drew vS l := hs
  obtain ⟨W2, hW2⟩ : ∃ W, w.drew.alloc (.cells #[.pointer (some ⟨b, 0, none⟩)] 79) = W := ⟨_, rfl⟩
  have n2 : Below w.heap.size w W2 := by rw [← hW2]; exact (Below.refl _ w).drew.alloc (Nat.le_refl _) _
  have z2 : Blk W2 w.heap.size [.pointer (some ⟨b, 0, none⟩)] := hW2 ▸ Blk.new w.drew [.pointer (some ⟨b, 0, none⟩)] _ (by simp)
  have s2 : PRow W2 vS l := ownsRow_same hs fun g e => n2.block g (hs.lt g e).2
  obtain ⟨v', W3, r3, o3, b3, w3⟩ := app_row (z := .pointer none) Tryd.underlying68 infoPtr rfl (by decide) (by decide) vS l.length (pcl l) s2 hl 68 w.heap.size [.pointer (some ⟨b, 0, none⟩)] rfl z2.r (by intro u hu; simp at hu; subst hu; rfl)
  obtain ⟨g', c', hv'⟩ : ∃ g' c', v' = .slice (some ⟨g', 0, none⟩) (l.length + 1) c' := by
    rcases row_shape o3 with ⟨-, hn⟩ | ⟨g, c, hv, -⟩
    · cases hn
    · exact ⟨g, c, hv⟩
  have j2 := hj.later n2
  have j3 : Blk W3 j [.int .i64 (mo : Int), vS, .int .i64 (no : Int), vD] := j2.bf b3 jS
  have c1 : W3.cell? ⟨j, 1, none⟩ = some vS := j3.c 1 _ rfl
  have f1 := j3.f
  have c21 : W2.cell? ⟨j, 1, none⟩ = some vS := j2.c 1 _ rfl
  have c0 : w.cell? ⟨j, 1, none⟩ = some vS := hj.c 1 _ rfl
  have FI : Hid (Blk (W3.setCell ⟨j, 1, none⟩ v') j [.int .i64 (mo : Int), v', .int .i64 (no : Int), vD] ∧ PRow (W3.setCell ⟨j, 1, none⟩ v') v' (l ++ [b]) ∧ NewOwn w vS v' ∧ Bf (fun z => z = j ∨ vS.ownBlock = some z) w (W3.setCell ⟨j, 1, none⟩ v')) := by
    have bf := Bf.put1 W3 j 1 [v']
    have e1 : Bf (fun z => z = j ∨ vS.ownBlock = some z) w W2 := Bf.of n2
    have e2 : Bf (fun z => z = j ∨ vS.ownBlock = some z) W2 W3 := ⟨b3.os, b3.tape, b3.output, b3.size, fun z hz hF => b3.block z hz (fun e => hF (.inr e))⟩
    have e3 : Bf (fun z => z = j ∨ vS.ownBlock = some z) W3 (W3.setCell ⟨j, 1, none⟩ v') := ⟨bf.os, bf.tape, bf.output, bf.size, fun z hz hF => bf.block z hz (fun e => hF (.inl e))⟩
    have no' : v'.ownBlock ≠ some j := fun e => by
      rcases w3 with q | ⟨g, q, hg⟩
      · exact jS (q ▸ e)
      · rw [q] at e; cases e; have := j2.lt; omega
    refine ⟨j3.set 1 (by simp) v', ?_, ?_, (e1.trans (Nx.refl _ _) e2).trans (Nx.refl _ _) e3⟩
    · have o4 := ownsRow_same o3 (w' := W3.setCell ⟨j, 1, none⟩ v') (fun g e => bf.block g (o3.lt g e).2 (fun q => no' (q ▸ e)))
      unfold PRow pcl
      rw [List.length_append, List.map_append]
      exact o4
    · rcases w3 with q | ⟨g, q, hg⟩
      · exact .inl q
      · exact .inr ⟨g, q, Nat.le_trans n2.size hg⟩
  have g0 : ((l.length : Int) == (mo : Int)) = false := by rw [beq_eq_false_iff_ne]; omega
  have AP : Hid _ := r3
  have HW : Hid (Blk w.drew j [.int .i64 (mo : Int), vS, .int .i64 (no : Int), vD]) := hd
  obtain ⟨n, hn⟩ : ∃ n, l.length = n := ⟨_, rfl⟩
  rw [hn] at g0 hv hv'
  subst hv
  subst hv'
  clear hj hs hd sd n2 z2 s2 r3 o3 b3 w3 j2 j3 hne jS hn hl
  go_enter Tryd.func41, Tryd.ntmps41
  go_upto_region 0 with fail
  refine wp_region_noPanic ?_
  refine wp_region_held_drew (S := fun w' => Blk w' j [.int .i64 (mo : Int), .slice a n c, .int .i64 (no : Int), vD]) (by kernel_rfl) (HW.out) (fun hHeld => ?_)
  refine wpAnyH_take (i := 0) (oi := oppu0) (v := ?_) rfl (by kernel_rfl) (by kernel_rfl) (by kernel_rfl) (fun _ _ _ h => h) (Or.inl ⟨by rfl, ?_⟩) (by assumption) ?_
  rotate_left
  · intro w' hSw
    clear hSw
    unfold oppu0
    first
    | (go_simp; done)
    | (go_simp; with_reducible rfl)
  simp only [oppu0, Act.put, List.setIfInBounds_toArray, List.set_cons_zero, List.set_cons_succ]
  refine wpAnyH_take (i := 1) (oi := oppu1) (v := ?_) rfl (by kernel_rfl) (by kernel_rfl) (by kernel_rfl) (fun _ _ _ h => h) (Or.inl ⟨by rfl, ?_⟩) (by assumption) ?_
  rotate_left
  · intro w' hSw
    clear hSw
    unfold oppu1
    first
    | (go_simp; done)
    | (go_simp; with_reducible rfl)
  simp only [oppu1, Act.put, List.setIfInBounds_toArray, List.set_cons_zero, List.set_cons_succ]
  refine wpAnyH_take (i := 2) (oi := oppu2) (v := ?_) rfl (by kernel_rfl) (by kernel_rfl) (by kernel_rfl) (fun _ _ _ h => h) (Or.inl ⟨by rfl, ?_⟩) (by assumption) ?_
  rotate_left
  · intro w' hSw
    clear hSw
    unfold oppu2
    first
    | (go_simp; done)
    | (go_simp; with_reducible rfl)
  simp only [oppu2, Act.put, List.setIfInBounds_toArray, List.set_cons_zero, List.set_cons_succ]
  refine wpAnyH_take (i := 3) (oi := oppu3) (v := ?_) rfl (by kernel_rfl) (by kernel_rfl) (by kernel_rfl) (fun _ _ _ h => h) (Or.inl ⟨by rfl, ?_⟩) (by assumption) ?_
  rotate_left
  · intro w' hSw
    have hsw := hSw.c 1 _ rfl
    unfold oppu3
    first
    | (go_simp; done)
    | (go_simp; with_reducible rfl)
  simp only [oppu3, Act.put, List.setIfInBounds_toArray, List.set_cons_zero, List.set_cons_succ]
  refine wpAnyH_take (i := 4) (oi := oppu4) (v := ?_) rfl (by kernel_rfl) (by kernel_rfl) (by kernel_rfl) (fun _ _ _ h => h) (Or.inl ⟨by rfl, ?_⟩) (by assumption) ?_
  rotate_left
  · intro w' hSw
    clear hSw
    unfold oppu4
    first
    | (go_simp; done)
    | (go_simp; with_reducible rfl)
  simp only [oppu4, Act.put, List.setIfInBounds_toArray, List.set_cons_zero, List.set_cons_succ]
  refine wpAnyH_take (i := 5) (oi := oppu5) (v := ?_) rfl (by kernel_rfl) (by kernel_rfl) (by kernel_rfl) (fun _ _ _ h => h) (Or.inl ⟨by rfl, ?_⟩) (by assumption) ?_
  rotate_left
  · intro w' hSw
    clear hSw
    unfold oppu5
    first
    | (go_simp; done)
    | (go_simp; with_reducible rfl)
  simp only [oppu5, Act.put, List.setIfInBounds_toArray, List.set_cons_zero, List.set_cons_succ]
  refine wpAnyH_take (i := 6) (oi := oppu6) (v := ?_) rfl (by kernel_rfl) (by kernel_rfl) (by kernel_rfl) (fun _ _ _ h => h) (Or.inl ⟨by rfl, ?_⟩) (by assumption) ?_
  rotate_left
  · intro w' hSw
    clear hSw
    unfold oppu6
    first
    | (go_simp; done)
    | (go_simp; with_reducible rfl)
  simp only [oppu6, Act.put, List.setIfInBounds_toArray, List.set_cons_zero, List.set_cons_succ]
  refine wpAnyH_take (i := 7) (oi := oppu7) (v := ?_) rfl (by kernel_rfl) (by kernel_rfl) (by kernel_rfl) (fun _ _ _ h => h) (Or.inl ⟨by rfl, ?_⟩) (by assumption) ?_
  rotate_left
  · intro w' hSw
    clear hSw
    unfold oppu7
    first
    | (go_simp; done)
    | (go_simp; with_reducible rfl)
  simp only [oppu7, Act.put, List.setIfInBounds_toArray, List.set_cons_zero, List.set_cons_succ]
  refine wpAnyH_take (i := 8) (oi := oppu8) (v := ?_) rfl (by kernel_rfl) (by kernel_rfl) (by kernel_rfl) (fun _ _ _ h => h) (Or.inl ⟨by rfl, ?_⟩) (by assumption) ?_
  rotate_left
  · intro w' hSw
    have hsw := hSw.c 0 _ rfl
    unfold oppu8
    first
    | (go_simp; done)
    | (go_simp; with_reducible rfl)
  simp only [oppu8, Act.put, List.setIfInBounds_toArray, List.set_cons_zero, List.set_cons_succ]
  refine wpAnyH_take (i := 9) (oi := oppu9) (v := ?_) rfl (by kernel_rfl) (by kernel_rfl) (by kernel_rfl) (fun _ _ _ h => h) (Or.inl ⟨by rfl, ?_⟩) (by assumption) ?_
  rotate_left
  · intro w' hSw
    clear hSw
    unfold oppu9
    first
    | (go_simp; done)
    | (go_simp; with_reducible rfl)
  simp only [oppu9, Act.put, List.setIfInBounds_toArray, List.set_cons_zero, List.set_cons_succ]
  refine wpAnyH_done (by kernel_rfl) ?_ _
  refine NoPanic.normal ?_
  go_upto_region 2 with fail
  refine wp_region_lit ?_
  refine wpList_plain rfl (fun K2 hK2 => ?_)
  go_simp
  refine hK2 _ _ ?_
  clear hK2 K2
  refine wpList_plain rfl (fun K2 hK2 => ?_)
  go_simp
  refine hK2 _ _ ?_
  clear hK2 K2
  refine wpList_plain rfl (fun K2 hK2 => ?_)
  go_simp
  refine hK2 _ _ ?_
  clear hK2 K2
  refine wpList_plain rfl (fun K2 hK2 => ?_)
  go_simp
  refine hK2 _ _ ?_
  clear hK2 K2
  refine wpList_plain rfl (fun K2 hK2 => ?_)
  go_simp
  refine hK2 _ _ ?_
  clear hK2 K2
  refine wpList_plain rfl (fun K2 hK2 => ?_)
  go_simp
  refine hK2 _ _ ?_
  clear hK2 K2
  refine wpList_plain rfl (fun K2 hK2 => ?_)
  go_simp
  refine hK2 _ _ ?_
  clear hK2 K2
  refine wpList_plain rfl (fun K2 hK2 => Go.Lib.wp_append_run _ _ _ _ _ rfl _ _ rfl rfl _ _ (AP.out) (hK2 _ _ ?_))
  try simp only [Act.put, List.setIfInBounds_toArray, List.set_cons_zero, List.set_cons_succ]
  refine wpList_plain rfl (fun K2 hK2 => ?_)
  go_simp
  refine hK2 _ _ ?_
  clear hK2 K2
  refine wpList_plain rfl (fun K2 hK2 => ?_)
  go_simp
  refine hK2 _ _ ?_
  clear hK2 K2
  refine wpList_plain rfl (fun K2 hK2 => ?_)
  go_simp
  refine hK2 _ _ ?_
  clear hK2 K2
  refine wpList_nil ?_
  try simp only [Act.put, List.setIfInBounds_toArray, List.set_cons_zero, List.set_cons_succ]
  go_wp2
  refine bodyPost_end (results_none Tryd.results41 _ _ _) rfl ⟨_, rfl, FI.out⟩
set_option maxHeartbeats 4000000 in
theorem qputN_any (j mo no : Nat) (vS vD : Value) (D : List Bs) (i : Bs) (hi : i.length = 8) (w : World) (hj : Blk w j [.int .i64 (mo : Int), vS, .int .i64 (no : Int), vD]) (hs : NRow w vD D) (hne : D.length ≠ no) (hl : D.length ≤ 1024) (jS : vD.ownBlock ≠ some j) :
    Calls Tryd.prog 45 #[.pointer (some ⟨j, 2, none⟩), .agg (bc i).toArray] w fun e w' => ∃ vD', e = .returned (.tuple #[]) ∧ Blk w' j [.int .i64 (mo : Int), vS, .int .i64 (no : Int), vD'] ∧ NRow w' vD' (D ++ [i]) ∧ NewOwn w vD vD' ∧ Bf (fun z => z = j ∨ vD.ownBlock = some z) w w' := by
  obtain ⟨a, c, hv⟩ : ∃ a c, vD = .slice a D.length c := by
    rcases row_shape hs with ⟨rfl, hn⟩ | ⟨g, c, rfl, -⟩
    · exact ⟨none, 0, by rw [hn]⟩
    · exact ⟨_, _, rfl⟩
  have ln : Hid ((bc i).length = 8) := by show _ = _; rw [bc_len, hi]
  obtain ⟨W0, hW0⟩ : ∃ W, w.alloc (.cells (bc i).toArray 57) = W := ⟨_, rfl⟩
  have y0 : Blk W0 w.heap.size (bc i) := hW0 ▸ Blk.new w (bc i) _ (bc_ne hi)
  have b0 : Below w.heap.size w W0 := hW0 ▸ (Below.refl _ w).alloc (Nat.le_refl _) _
  have s0 : W0.heap.size = w.heap.size + 1 := by rw [← hW0]; simp
  have hd : Blk W0.drew j [.int .i64 (mo : Int), vS, .int .i64 (no : Int), vD] := (hj.later b0).drew
  obtain ⟨W2, hW2⟩ : ∃ W, W0.drew.drew.alloc (.cells (bc i).toArray 57) = W := ⟨_, rfl⟩
  have n2 : Below w.heap.size w W2 := by rw [← hW2]; exact b0.drew.drew.alloc (by show w.heap.size ≤ W0.heap.size; omega) _
  have z2 : Blk W2 (w.heap.size + 1) (bc i) := by
    have := Blk.new W0.drew.drew (bc i) 57 (bc_ne hi); rw [hW2] at this; rw [← s0]; exact this
  have s2 : NRow W2 vD D := ownsRow_same hs fun g e => n2.block g (hs.lt g e).2
  obtain ⟨v', W3, r3, o3, b3, w3⟩ := app_row (z := .agg (bc (zb 8)).toArray) Tryd.underlying71 infoName rfl (by decide) (by decide) vD D.length (D.flatMap bc) s2 hl 71 (w.heap.size + 1) (bc i) ln.out z2.r (bc_one i)
  obtain ⟨g', c', hv'⟩ : ∃ g' c', v' = .slice (some ⟨g', 0, none⟩) (D.length + 1) c' := by
    rcases row_shape o3 with ⟨-, hn⟩ | ⟨g, c, hv, -⟩
    · cases hn
    · exact ⟨g, c, hv⟩
  have j2 := hj.later n2
  have j3 : Blk W3 j [.int .i64 (mo : Int), vS, .int .i64 (no : Int), vD] := j2.bf b3 jS
  have c1 : W3.cell? ⟨j, 3, none⟩ = some vD := j3.c 3 _ rfl
  have f1 := j3.f
  have FI : Hid (Blk (W3.setCell ⟨j, 3, none⟩ v') j [.int .i64 (mo : Int), vS, .int .i64 (no : Int), v'] ∧ NRow (W3.setCell ⟨j, 3, none⟩ v') v' (D ++ [i]) ∧ NewOwn w vD v' ∧ Bf (fun z => z = j ∨ vD.ownBlock = some z) w (W3.setCell ⟨j, 3, none⟩ v')) := by
    have bf := Bf.put1 W3 j 3 [v']
    have e1 : Bf (fun z => z = j ∨ vD.ownBlock = some z) w W2 := Bf.of n2
    have e2 : Bf (fun z => z = j ∨ vD.ownBlock = some z) W2 W3 := ⟨b3.os, b3.tape, b3.output, b3.size, fun z hz hF => b3.block z hz (fun e => hF (.inr e))⟩
    have e3 : Bf (fun z => z = j ∨ vD.ownBlock = some z) W3 (W3.setCell ⟨j, 3, none⟩ v') := ⟨bf.os, bf.tape, bf.output, bf.size, fun z hz hF => bf.block z hz (fun e => hF (.inl e))⟩
    have no' : v'.ownBlock ≠ some j := fun e => by
      rcases w3 with q | ⟨g, q, hg⟩
      · exact jS (q ▸ e)
      · rw [q] at e; cases e; have := j2.lt; omega
    refine ⟨j3.set 3 (by simp) v', ?_, ?_, (e1.trans (Nx.refl _ _) e2).trans (Nx.refl _ _) e3⟩
    · have o4 := ownsRow_same o3 (w' := W3.setCell ⟨j, 3, none⟩ v') (fun g e => bf.block g (o3.lt g e).2 (fun q => no' (q ▸ e)))
      unfold NRow
      rw [List.length_append, List.flatMap_append, List.flatMap_singleton]
      exact o4
    · rcases w3 with q | ⟨g, q, hg⟩
      · exact .inl q
      · exact .inr ⟨g, q, Nat.le_trans n2.size hg⟩
  have g0 : ((D.length : Int) == (no : Int)) = false := by rw [beq_eq_false_iff_ne]; omega
  have AP : Hid _ := r3
  have HW : Hid (Blk W0.drew j [.int .i64 (mo : Int), vS, .int .i64 (no : Int), vD]) := hd
  have HW2 : Hid (Blk W0.drew.drew j [.int .i64 (mo : Int), vS, .int .i64 (no : Int), vD] ∧ Blk W0.drew.drew w.heap.size (bc i)) := ⟨hd.drew, y0.drew.drew⟩
  have HW3 : Hid (Blk W2 j [.int .i64 (mo : Int), vS, .int .i64 (no : Int), vD] ∧ Blk W2 w.heap.size (bc i)) := ⟨j2, (y0.drew.drew).later (hW2 ▸ (Below.refl _ _).alloc (Nat.le_refl _) _)⟩
  have hW2' : (W0.alloc (.cells (bc i).toArray 57)).drew.drew = W2 := hW2
  have s0' : W0.drew.drew.heap.size = w.heap.size + 1 := s0
  obtain ⟨n, hn⟩ : ∃ n, D.length = n := ⟨_, rfl⟩
  rw [hn] at g0 hv hv'
  subst hv
  subst hv'
  clear hj hs hd n2 z2 s2 r3 o3 b3 w3 j2 j3 hne jS hn hl y0 b0
  go_enter Tryd.func45, Tryd.ntmps45
  go_upto_region 1 with fail
  refine wp_region_noPanic ?_
  refine wp_region_held_drew (S := fun w' => Blk w' j [.int .i64 (mo : Int), vS, .int .i64 (no : Int), .slice a n c]) (by kernel_rfl) (HW.out) (fun hHeld => ?_)
  refine wpAnyH_take (i := 0) (oi := opnu0) (v := ?_) rfl (by kernel_rfl) (by kernel_rfl) (by kernel_rfl) (fun _ _ _ h => h) (Or.inl ⟨by rfl, ?_⟩) (by assumption) ?_
  rotate_left
  · intro w' hSw
    clear hSw
    unfold opnu0
    first
    | (go_simp; done)
    | (go_simp; with_reducible rfl)
  simp only [opnu0, Act.put, List.setIfInBounds_toArray, List.set_cons_zero, List.set_cons_succ]
  refine wpAnyH_take (i := 1) (oi := opnu1) (v := ?_) rfl (by kernel_rfl) (by kernel_rfl) (by kernel_rfl) (fun _ _ _ h => h) (Or.inl ⟨by rfl, ?_⟩) (by assumption) ?_
  rotate_left
  · intro w' hSw
    clear hSw
    unfold opnu1
    first
    | (go_simp; done)
    | (go_simp; with_reducible rfl)
  simp only [opnu1, Act.put, List.setIfInBounds_toArray, List.set_cons_zero, List.set_cons_succ]
  refine wpAnyH_take (i := 2) (oi := opnu2) (v := ?_) rfl (by kernel_rfl) (by kernel_rfl) (by kernel_rfl) (fun _ _ _ h => h) (Or.inl ⟨by rfl, ?_⟩) (by assumption) ?_
  rotate_left
  · intro w' hSw
    clear hSw
    unfold opnu2
    first
    | (go_simp; done)
    | (go_simp; with_reducible rfl)
  simp only [opnu2, Act.put, List.setIfInBounds_toArray, List.set_cons_zero, List.set_cons_succ]
  refine wpAnyH_take (i := 3) (oi := opnu3) (v := ?_) rfl (by kernel_rfl) (by kernel_rfl) (by kernel_rfl) (fun _ _ _ h => h) (Or.inl ⟨by rfl, ?_⟩) (by assumption) ?_
  rotate_left
  · intro w' hSw
    have hsw := hSw.c 3 _ rfl
    unfold opnu3
    first
    | (go_simp; done)
    | (go_simp; with_reducible rfl)
  simp only [opnu3, Act.put, List.setIfInBounds_toArray, List.set_cons_zero, List.set_cons_succ]
  refine wpAnyH_take (i := 4) (oi := opnu4) (v := ?_) rfl (by kernel_rfl) (by kernel_rfl) (by kernel_rfl) (fun _ _ _ h => h) (Or.inl ⟨by rfl, ?_⟩) (by assumption) ?_
  rotate_left
  · intro w' hSw
    clear hSw
    unfold opnu4
    first
    | (go_simp; done)
    | (go_simp; with_reducible rfl)
  simp only [opnu4, Act.put, List.setIfInBounds_toArray, List.set_cons_zero, List.set_cons_succ]
  refine wpAnyH_take (i := 5) (oi := opnu5) (v := ?_) rfl (by kernel_rfl) (by kernel_rfl) (by kernel_rfl) (fun _ _ _ h => h) (Or.inl ⟨by rfl, ?_⟩) (by assumption) ?_
  rotate_left
  · intro w' hSw
    clear hSw
    unfold opnu5
    first
    | (go_simp; done)
    | (go_simp; with_reducible rfl)
  simp only [opnu5, Act.put, List.setIfInBounds_toArray, List.set_cons_zero, List.set_cons_succ]
  refine wpAnyH_take (i := 6) (oi := opnu6) (v := ?_) rfl (by kernel_rfl) (by kernel_rfl) (by kernel_rfl) (fun _ _ _ h => h) (Or.inl ⟨by rfl, ?_⟩) (by assumption) ?_
  rotate_left
  · intro w' hSw
    clear hSw
    unfold opnu6
    first
    | (go_simp; done)
    | (go_simp; with_reducible rfl)
  simp only [opnu6, Act.put, List.setIfInBounds_toArray, List.set_cons_zero, List.set_cons_succ]
  refine wpAnyH_take (i := 7) (oi := opnu7) (v := ?_) rfl (by kernel_rfl) (by kernel_rfl) (by kernel_rfl) (fun _ _ _ h => h) (Or.inl ⟨by rfl, ?_⟩) (by assumption) ?_
  rotate_left
  · intro w' hSw
    clear hSw
    unfold opnu7
    first
    | (go_simp; done)
    | (go_simp; with_reducible rfl)
  simp only [opnu7, Act.put, List.setIfInBounds_toArray, List.set_cons_zero, List.set_cons_succ]
  refine wpAnyH_take (i := 8) (oi := opnu8) (v := ?_) rfl (by kernel_rfl) (by kernel_rfl) (by kernel_rfl) (fun _ _ _ h => h) (Or.inl ⟨by rfl, ?_⟩) (by assumption) ?_
  rotate_left
  · intro w' hSw
    have hsw := hSw.c 2 _ rfl
    unfold opnu8
    first
    | (go_simp; done)
    | (go_simp; with_reducible rfl)
  simp only [opnu8, Act.put, List.setIfInBounds_toArray, List.set_cons_zero, List.set_cons_succ]
  refine wpAnyH_take (i := 9) (oi := opnu9) (v := ?_) rfl (by kernel_rfl) (by kernel_rfl) (by kernel_rfl) (fun _ _ _ h => h) (Or.inl ⟨by rfl, ?_⟩) (by assumption) ?_
  rotate_left
  · intro w' hSw
    clear hSw
    unfold opnu9
    first
    | (go_simp; done)
    | (go_simp; with_reducible rfl)
  simp only [opnu9, Act.put, List.setIfInBounds_toArray, List.set_cons_zero, List.set_cons_succ]
  refine wpAnyH_done (by kernel_rfl) ?_ _
  refine NoPanic.normal ?_
  go_upto_region 3 with fail
  refine (fun (KEY : (?KK1 : Prop)) => ?main1) ?key1
  case main1 =>
    refine wp_region_noPanic ?_
    refine wp_region_held_drew (S := fun _ => True) (by kernel_rfl) (trivial) (fun hHeld => ?_)
    refine wpAnyH_take (i := 0) (oi := opnv0) (v := ?_) rfl (by kernel_rfl) (by kernel_rfl) (by kernel_rfl) (fun _ _ _ h => h) (Or.inl ⟨by rfl, ?_⟩) (by assumption) ?_
    rotate_left
    · intro w' hSw
      clear hSw
      unfold opnv0
      first
      | (go_simp; done)
      | (go_simp; with_reducible rfl)
    simp only [opnv0, Act.put, List.setIfInBounds_toArray, List.set_cons_zero, List.set_cons_succ]
    refine wpAnyH_take (i := 1) (oi := opnv1) (v := ?_) rfl (by kernel_rfl) (by kernel_rfl) (by kernel_rfl) (fun _ _ _ h => h) (Or.inl ⟨by rfl, ?_⟩) (by assumption) ?_
    rotate_left
    · intro w' hSw
      clear hSw
      unfold opnv1
      first
      | (go_simp; done)
      | (go_simp; with_reducible rfl)
    simp only [opnv1, Act.put, List.setIfInBounds_toArray, List.set_cons_zero, List.set_cons_succ]
    refine wpAnyH_take (i := 2) (oi := opnv2) (v := ?_) rfl (by kernel_rfl) (by kernel_rfl) (by kernel_rfl) (fun _ _ _ h => h) (Or.inl ⟨by rfl, ?_⟩) (by assumption) ?_
    rotate_left
    · intro w' hSw
      clear hSw
      unfold opnv2
      first
      | (go_simp; done)
      | (go_simp; with_reducible rfl)
    simp only [opnv2, Act.put, List.setIfInBounds_toArray, List.set_cons_zero, List.set_cons_succ]
    refine wpAnyH_take (i := 3) (oi := opnv3) (v := ?_) rfl (by kernel_rfl) (by kernel_rfl) (by kernel_rfl) (fun _ _ _ h => h) (Or.inl ⟨by rfl, ?_⟩) (by assumption) ?_
    rotate_left
    · intro w' hSw
      clear hSw
      unfold opnv3
      first
      | (go_simp; done)
      | (go_simp; with_reducible rfl)
    simp only [opnv3, Act.put, List.setIfInBounds_toArray, List.set_cons_zero, List.set_cons_succ]
    refine wpAnyH_ready (rs := [4, 5]) (by kernel_rfl) (by simp) ?_
    refine AllReadyH.cons (o := opnv4) rfl (fun KK hKK => ?_) (AllReadyH.cons (o := opnv5) rfl (fun KK hKK => ?_) AllReadyH.nil)
    · have h1 := HW2.out.1.c 3 _ rfl
      have h2 := HW3.out.1.c 3 _ rfl
      unfold opnv4
      go_simp
      clear h1 h2
      refine hKK.out _ _ trivial (fun _ => ?_)
      clear hKK KK
      try simp only [opnv4, Act.put, List.setIfInBounds_toArray, List.set_cons_zero, List.set_cons_succ]
      refine wpAnyH_ready (rs := [5]) (by kernel_rfl) (by simp) ?_
      refine AllReadyH.cons (o := opnv5) rfl (fun KK hKK => ?_) AllReadyH.nil
      rw [if_pos (by kernel_rfl)]
      refine wp_load_run _ _ rfl _ rfl _ (load_name HW2.out.2.r ln.out) ?_
      refine hKK.out _ _ (trivial) (fun hHeld => ?_)
      clear hKK KK
      try simp only [opnv5, Act.put, List.setIfInBounds_toArray, List.set_cons_zero, List.set_cons_succ]
      refine wpAnyH_ready (rs := [6]) (by kernel_rfl) (by simp) ?_
      refine AllReadyH.cons (o := opnv6) rfl (fun KK hKK => ?_) AllReadyH.nil
      have l8 := ln.out
      unfold opnv6
      go_simp
      rw [fold8 _ l8, hW2']
      clear l8
      refine hKK.out _ _ trivial (fun _ => ?_)
      clear hKK KK
      try simp only [opnv6, Act.put, List.setIfInBounds_toArray, List.set_cons_zero, List.set_cons_succ]
      refine wpAnyH_ready (rs := [7]) (by kernel_rfl) (by simp) ?_
      refine AllReadyH.cons (o := opnv7) rfl (fun KK hKK => ?_) AllReadyH.nil
      rw [if_pos (by kernel_rfl)]
      refine Go.Lib.wp_append_run _ _ _ _ _ rfl _ _ rfl rfl _ _ AP.out ?_
      refine hKK.out _ _ trivial (fun _ => ?_)
      clear hKK KK
      try simp only [opnv7, Act.put, List.setIfInBounds_toArray, List.set_cons_zero, List.set_cons_succ]
      refine wpAnyH_take (i := 8) (oi := opnv8) (v := ?_) rfl (by kernel_rfl) (by kernel_rfl) (by kernel_rfl) (fun _ _ _ h => h) (Or.inl ⟨by rfl, ?_⟩) (by assumption) ?_
      rotate_left
      · intro w' hSw
        clear hSw
        unfold opnv8
        first
        | (go_simp; done)
        | (go_simp; with_reducible rfl)
      simp only [opnv8, Act.put, List.setIfInBounds_toArray, List.set_cons_zero, List.set_cons_succ]
      refine wpAnyH_take (i := 9) (oi := opnv9) (v := ?_) rfl (by kernel_rfl) (by kernel_rfl) (by kernel_rfl) (fun _ _ _ h => h) (Or.inl ⟨by rfl, ?_⟩) (by assumption) ?_
      rotate_left
      · intro w' hSw
        clear hSw
        unfold opnv9
        first
        | (go_simp; done)
        | (go_simp; with_reducible rfl)
      simp only [opnv9, Act.put, List.setIfInBounds_toArray, List.set_cons_zero, List.set_cons_succ]
      refine wpAnyH_ready (rs := [10]) (by kernel_rfl) (by simp) ?_
      refine AllReadyH.cons (o := opnv10) rfl (fun KK hKK => ?_) AllReadyH.nil
      unfold opnv10
      go_simp
      refine hKK.out _ _ trivial (fun _ => ?_)
      clear hKK KK
      try simp only [opnv10, Act.put]
      refine wpAnyH_done (by kernel_rfl) ?_ _
      refine NoPanic.normal ?_
      exact KEY
    · rw [if_pos (by kernel_rfl)]
      refine wp_load_run _ _ rfl _ rfl _ (load_name HW2.out.2.r ln.out) ?_
      refine hKK.out _ _ (trivial) (fun hHeld => ?_)
      clear hKK KK
      try simp only [opnv5, Act.put, List.setIfInBounds_toArray, List.set_cons_zero, List.set_cons_succ]
      refine wpAnyH_ready (rs := [4, 6]) (by kernel_rfl) (by simp) ?_
      refine AllReadyH.cons (o := opnv4) rfl (fun KK hKK => ?_) (AllReadyH.cons (o := opnv6) rfl (fun KK hKK => ?_) AllReadyH.nil)
      · have h1 := HW2.out.1.c 3 _ rfl
        have h2 := HW3.out.1.c 3 _ rfl
        unfold opnv4
        go_simp
        clear h1 h2
        refine hKK.out _ _ trivial (fun _ => ?_)
        clear hKK KK
        try simp only [opnv4, Act.put, List.setIfInBounds_toArray, List.set_cons_zero, List.set_cons_succ]
        refine wpAnyH_ready (rs := [6]) (by kernel_rfl) (by simp) ?_
        refine AllReadyH.cons (o := opnv6) rfl (fun KK hKK => ?_) AllReadyH.nil
        have l8 := ln.out
        unfold opnv6
        go_simp
        rw [fold8 _ l8, hW2']
        clear l8
        refine hKK.out _ _ trivial (fun _ => ?_)
        clear hKK KK
        try simp only [opnv6, Act.put, List.setIfInBounds_toArray, List.set_cons_zero, List.set_cons_succ]
        refine wpAnyH_ready (rs := [7]) (by kernel_rfl) (by simp) ?_
        refine AllReadyH.cons (o := opnv7) rfl (fun KK hKK => ?_) AllReadyH.nil
        rw [if_pos (by kernel_rfl)]
        refine Go.Lib.wp_append_run _ _ _ _ _ rfl _ _ rfl rfl _ _ AP.out ?_
        refine hKK.out _ _ trivial (fun _ => ?_)
        clear hKK KK
        try simp only [opnv7, Act.put, List.setIfInBounds_toArray, List.set_cons_zero, List.set_cons_succ]
        refine wpAnyH_take (i := 8) (oi := opnv8) (v := ?_) rfl (by kernel_rfl) (by kernel_rfl) (by kernel_rfl) (fun _ _ _ h => h) (Or.inl ⟨by rfl, ?_⟩) (by assumption) ?_
        rotate_left
        · intro w' hSw
          clear hSw
          unfold opnv8
          first
          | (go_simp; done)
          | (go_simp; with_reducible rfl)
        simp only [opnv8, Act.put, List.setIfInBounds_toArray, List.set_cons_zero, List.set_cons_succ]
        refine wpAnyH_take (i := 9) (oi := opnv9) (v := ?_) rfl (by kernel_rfl) (by kernel_rfl) (by kernel_rfl) (fun _ _ _ h => h) (Or.inl ⟨by rfl, ?_⟩) (by assumption) ?_
        rotate_left
        · intro w' hSw
          clear hSw
          unfold opnv9
          first
          | (go_simp; done)
          | (go_simp; with_reducible rfl)
        simp only [opnv9, Act.put, List.setIfInBounds_toArray, List.set_cons_zero, List.set_cons_succ]
        refine wpAnyH_ready (rs := [10]) (by kernel_rfl) (by simp) ?_
        refine AllReadyH.cons (o := opnv10) rfl (fun KK hKK => ?_) AllReadyH.nil
        unfold opnv10
        go_simp
        refine hKK.out _ _ trivial (fun _ => ?_)
        clear hKK KK
        try simp only [opnv10, Act.put]
        refine wpAnyH_done (by kernel_rfl) ?_ _
        refine NoPanic.normal ?_
        exact KEY
      · have l8 := ln.out
        unfold opnv6
        go_simp
        rw [fold8 _ l8, hW2']
        clear l8
        refine hKK.out _ _ trivial (fun _ => ?_)
        clear hKK KK
        try simp only [opnv6, Act.put, List.setIfInBounds_toArray, List.set_cons_zero, List.set_cons_succ]
        refine wpAnyH_ready (rs := [4]) (by kernel_rfl) (by simp) ?_
        refine AllReadyH.cons (o := opnv4) rfl (fun KK hKK => ?_) AllReadyH.nil
        have h1 := HW2.out.1.c 3 _ rfl
        have h2 := HW3.out.1.c 3 _ rfl
        unfold opnv4
        go_simp
        clear h1 h2
        refine hKK.out _ _ trivial (fun _ => ?_)
        clear hKK KK
        try simp only [opnv4, Act.put, List.setIfInBounds_toArray, List.set_cons_zero, List.set_cons_succ]
        refine wpAnyH_ready (rs := [7]) (by kernel_rfl) (by simp) ?_
        refine AllReadyH.cons (o := opnv7) rfl (fun KK hKK => ?_) AllReadyH.nil
        rw [if_pos (by kernel_rfl)]
        refine Go.Lib.wp_append_run _ _ _ _ _ rfl _ _ rfl rfl _ _ AP.out ?_
        refine hKK.out _ _ trivial (fun _ => ?_)
        clear hKK KK
        try simp only [opnv7, Act.put, List.setIfInBounds_toArray, List.set_cons_zero, List.set_cons_succ]
        refine wpAnyH_take (i := 8) (oi := opnv8) (v := ?_) rfl (by kernel_rfl) (by kernel_rfl) (by kernel_rfl) (fun _ _ _ h => h) (Or.inl ⟨by rfl, ?_⟩) (by assumption) ?_
        rotate_left
        · intro w' hSw
          clear hSw
          unfold opnv8
          first
          | (go_simp; done)
          | (go_simp; with_reducible rfl)
        simp only [opnv8, Act.put, List.setIfInBounds_toArray, List.set_cons_zero, List.set_cons_succ]
        refine wpAnyH_take (i := 9) (oi := opnv9) (v := ?_) rfl (by kernel_rfl) (by kernel_rfl) (by kernel_rfl) (fun _ _ _ h => h) (Or.inl ⟨by rfl, ?_⟩) (by assumption) ?_
        rotate_left
        · intro w' hSw
          clear hSw
          unfold opnv9
          first
          | (go_simp; done)
          | (go_simp; with_reducible rfl)
        simp only [opnv9, Act.put, List.setIfInBounds_toArray, List.set_cons_zero, List.set_cons_succ]
        refine wpAnyH_ready (rs := [10]) (by kernel_rfl) (by simp) ?_
        refine AllReadyH.cons (o := opnv10) rfl (fun KK hKK => ?_) AllReadyH.nil
        unfold opnv10
        go_simp
        refine hKK.out _ _ trivial (fun _ => ?_)
        clear hKK KK
        try simp only [opnv10, Act.put]
        refine wpAnyH_done (by kernel_rfl) ?_ _
        refine NoPanic.normal ?_
        exact KEY
  go_wp2
  refine bodyPost_end (results_none Tryd.results45 _ _ _) rfl ⟨_, rfl, FI.out⟩
set_option maxHeartbeats 4000000 in
theorem qdrop_any (j mo no : Nat) (vS vD : Value) (l : List Nat) (b : Nat) (w : World) (hj : Blk w j [.int .i64 (mo : Int), vS, .int .i64 (no : Int), vD]) (hs : PRow w vS l) (hbl : b ∈ l) (hl : ∀ z ∈ l, Ob w z) (jS : vS.ownBlock ≠ some j) (hSl : ∀ g, vS.ownBlock = some g → g ∉ l) :
    Calls Tryd.prog 43 #[.pointer (some ⟨j, 0, none⟩), .pointer (some ⟨b, 0, none⟩)] w fun e w' => ∃ vS', e = .returned (.tuple #[]) ∧ Blk w' j [.int .i64 (mo : Int), vS', .int .i64 (no : Int), vD] ∧ PRow w' vS' (l.filter fun z => decide (z ≠ b)) ∧ vS'.ownBlock = vS.ownBlock ∧ Bf (fun z => z = j ∨ vS.ownBlock = some z) w w' := by
  rcases row_shape hs with ⟨rfl, hn⟩ | ⟨g, c, rfl, -, -, hg⟩
  · rw [List.length_eq_zero_iff.1 hn] at hbl; cases hbl
  have gl : g ∉ l := hSl g rfl
  have gj : j ≠ g := fun e => jS (by rw [e]; rfl)
  obtain ⟨W0, hW0⟩ : ∃ W, w.alloc (.cells #[.pointer (some ⟨b, 0, none⟩)] 79) = W := ⟨_, rfl⟩
  have n0 : Below w.heap.size w W0 := by rw [← hW0]; exact (Below.refl _ w).alloc (Nat.le_refl _) _
  have z0 : Blk W0 w.heap.size [.pointer (some ⟨b, 0, none⟩)] := hW0 ▸ Blk.new w [.pointer (some ⟨b, 0, none⟩)] _ (by simp)
  have lt : ∀ z, Ob w z → z < w.heap.size := fun z hz => by obtain ⟨C, e, q, -⟩ := hz; exact (Array.getElem?_eq_some_iff.1 q).1
  have ob0 : ∀ z ∈ l, Ob W0 z := fun z hz => (hl z hz).same (n0.block z (lt z (hl z hz)))
  have DE : Hid _ := del_any l g c b w.heap.size W0 (ownsRow_same hs fun g e => n0.block g (hs.lt g e).2) (z0.c 0 _ rfl) (by omega) (ob0 b hbl) ob0 gl (fun e => gl (e ▸ hbl))
  have j0 := hj.later n0
  have c1 : W0.cell? ⟨j, 1, none⟩ = some (.slice (some ⟨g, 0, none⟩) l.length c) := j0.c 1 _ rfl
  have NB : Hid (Below w.heap.size w W0) := n0
  have J0 : Hid (Blk W0 j [.int .i64 (mo : Int), .slice (some ⟨g, 0, none⟩) l.length c, .int .i64 (no : Int), vD]) := j0
  obtain ⟨m, hm⟩ : ∃ m, (l.filter fun z => decide (z ≠ b)) = m := ⟨_, rfl⟩
  rw [hm] at DE ⊢
  clear hj hs hbl hl jS hSl n0 z0 ob0 lt j0 hm
  go_enter Tryd.func43, Tryd.ntmps43
  go_wp2_with fail
  refine Calls.mono DE.out ?_
  rintro e w1 ⟨rfl, o1, b1⟩
  have j1 : Blk w1 j [.int .i64 (mo : Int), .slice (some ⟨g, 0, none⟩) l.length c, .int .i64 (no : Int), vD] := J0.out.bf b1 gj
  have d1 : w1.cell? ⟨j, 1, none⟩ = some (.slice (some ⟨g, 0, none⟩) l.length c) := j1.c 1 _ rfl
  have f1 := j1.f
  have FI : Hid (Blk (w1.setCell ⟨j, 1, none⟩ (.slice (some ⟨g, 0, none⟩) m.length c)) j [.int .i64 (mo : Int), .slice (some ⟨g, 0, none⟩) m.length c, .int .i64 (no : Int), vD] ∧ PRow (w1.setCell ⟨j, 1, none⟩ (.slice (some ⟨g, 0, none⟩) m.length c)) (.slice (some ⟨g, 0, none⟩) m.length c) m ∧ Bf (fun z => z = j ∨ (Value.slice (some ⟨g, 0, none⟩) l.length c).ownBlock = some z) w (w1.setCell ⟨j, 1, none⟩ (.slice (some ⟨g, 0, none⟩) m.length c))) := by
    have bf := Bf.put1 w1 j 1 [.slice (some ⟨g, 0, none⟩) m.length c]
    refine ⟨j1.set 1 (by simp) _, ownsRow_same o1 fun q e => bf.block q (o1.lt q e).2 (fun z => ?_), ?_⟩
    · simp only [Value.ownBlock, Option.some.injEq] at e; omega
    · refine ((Bf.of NB.out).trans (Nx.refl _ _) (⟨b1.os, b1.tape, b1.output, b1.size, fun z hz hF => b1.block z hz (fun e => hF (.inr (by rw [e]; rfl)))⟩ : Bf _ _ _)).trans (Nx.refl _ _) ⟨bf.os, bf.tape, bf.output, bf.size, fun z hz hF => bf.block z hz (fun e => hF (.inl e))⟩
  clear o1 b1 j1 NB J0 DE
  go_wp2
  refine bodyPost_end (results_none Tryd.results43 _ _ _) rfl ⟨_, rfl, FI.out.1, FI.out.2.1, rfl, FI.out.2.2⟩
end Go.Proofs.YtdepjiocmbbdpaaDoor
