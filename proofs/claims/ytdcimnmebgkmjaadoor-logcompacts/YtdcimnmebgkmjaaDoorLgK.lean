/- A half has one record more. -/
import Derived.Test.YtdcimnmebgkmjaaDoorLgH
import Derived.Lib.AppendZeros
namespace Go.Proofs.YtdcimnmebgkmjaaDoor
open Go.RowKit Go.Proofs.Fd Go.Proofs.Dk Go.Proofs.Lg
set_option maxRecDepth 20000

section
variable {w : World} {q p fr mn g : Nat} {v : Value} {ts : List Bs} {tk : Nat} {m : Bs} {more : List Value}
/-- Its texts are appended, and stored. -/
theorem Hf.grown (h : Hf w q p fr mn g v ts tk m more) {w' : World} {v' : Value} {us : List Bs} (k : w.grownBy w' v.ownBlock) (o : OwnsS w' v' us) (hv : v'.ownBlock = v.ownBlock ∨ v'.ownBlock = some w.heap.size) :
    Hf (w'.setCell ⟨q, 4, none⟩ v') q p fr mn g v' us tk m more := by
  have hq : w'.heap[q]? = w.heap[q]? := k.block q h.bk.lt (fun e => h.qv e.symm)
  have hn : v'.ownBlock ≠ some q := fun c => by
    rcases hv with e | e
    · exact h.qv (e.symm.trans c)
    · rw [e] at c
      injection c with c
      have := h.bk.lt
      omega
  have b1 := (h.bk.same hq).set 4 (by simp) v'
  exact ⟨b1, ownsRow_same o (fun x e => Below.heap_setCell w' ⟨q, 4, none⟩ v' x (fun c => hn (by rw [e, c]))), hn⟩
end
theorem Hf.ft {w w' : World} {q : Nat} {v v' : Value} (hv : v'.ownBlock = v.ownBlock ∨ v'.ownBlock = some w'.heap.size) (hs : w.heap.size ≤ w'.heap.size) : Nx w (HFt q v) (HFt q v') := fun x hx => by
  rcases hx with rfl | e
  · exact .inl (.inl rfl)
  · rcases hv with h | h
    · exact .inl (.inr (h.symm.trans e))
    · rw [h] at e
      injection e with e
      exact .inr (by omega)
/-- What stands behind the first of has' three rows. -/
structure Hs1 (w : World) (q p fr mn g : Nat) (v : Value) (ts : List Bs) (tk : Nat) (m : Bs) (more : List Value) (B : Nat) (M T : ByteArray) (W : World) (x : Value) : Prop where
  hf : Hf W q p fr mn g x ts tk m more
  bk : Blk W B [.string M, .string T]
  bf : Bf (HFt q v) w W
  nx : Nx w (HFt q v) (HFt q x)
def oph0 : Oper := { dst := some 4, op := Go.Op.move (Go.Operand.tmp 0), type := 81, pos := "half.go:126", after := #[], guard := none }
def oph1 : Oper := { dst := some 5, op := Go.Op.move (Go.Operand.tmp 0), type := 81, pos := "half.go:126", after := #[], guard := none }
def oph2 : Oper := { dst := some 6, op := Go.Op.nilCheck (Go.Operand.tmp 5), type := 0, pos := "half.go:126", after := #[{ on := 1, ground := Go.Ground.data }], guard := none }
def oph3 : Oper := { dst := some 7, op := Go.Op.fieldAddr 57 (Go.Operand.tmp 6) 2, type := 0, pos := "half.go:126", after := #[{ on := 2, ground := Go.Ground.data }], guard := none }
def oph4 : Oper := { dst := some 8, op := Go.Op.load 22 (Go.Operand.tmp 7), type := 22, pos := "half.go:126", after := #[{ on := 3, ground := Go.Ground.data }], guard := none }
def oph5 : Oper := { dst := some 9, op := Go.Op.fieldAddr 86 (Go.Operand.tmp 3) 1, type := 0, pos := "half.go:126", after := #[], guard := none }
def oph6 : Oper := { dst := some 10, op := Go.Op.load 9 (Go.Operand.tmp 9), type := 9, pos := "half.go:126", after := #[{ on := 5, ground := Go.Ground.data }], guard := none }
def oph7 : Oper := { dst := some 11, op := Go.Op.call { callee := Go.Callee.value (Go.Operand.func 36), args := #[Go.Operand.tmp 10], argTypes := #[9] }, type := 9, pos := "half.go:126", after := #[{ on := 6, ground := Go.Ground.data }], guard := none }
def oph8 : Oper := { dst := some 12, op := Go.Op.buildSlice 22 1 #[(0, Go.Operand.tmp 11)], type := 22, pos := "half.go:126", after := #[{ on := 7, ground := Go.Ground.data }], guard := none }
def oph9 : Oper := { dst := some 13, op := Go.Op.call { callee := Go.Callee.builtin Go.Builtin.append, args := #[Go.Operand.tmp 8, Go.Operand.tmp 12], argTypes := #[22, 22] }, type := 22, pos := "half.go:126", after := #[{ on := 4, ground := Go.Ground.data }, { on := 8, ground := Go.Ground.data }, { on := 7, ground := Go.Ground.chain }], guard := none }
def oph10 : Oper := { dst := some 14, op := Go.Op.nilCheck (Go.Operand.tmp 4), type := 0, pos := "half.go:126", after := #[{ on := 0, ground := Go.Ground.data }, { on := 0, ground := Go.Ground.phase }, { on := 1, ground := Go.Ground.phase }, { on := 2, ground := Go.Ground.phase }, { on := 3, ground := Go.Ground.phase }, { on := 4, ground := Go.Ground.phase }, { on := 5, ground := Go.Ground.phase }, { on := 6, ground := Go.Ground.phase }, { on := 7, ground := Go.Ground.phase }, { on := 8, ground := Go.Ground.phase }, { on := 9, ground := Go.Ground.phase }], guard := none }
def oph11 : Oper := { dst := some 15, op := Go.Op.fieldAddr 57 (Go.Operand.tmp 14) 2, type := 0, pos := "half.go:126", after := #[{ on := 10, ground := Go.Ground.data }, { on := 0, ground := Go.Ground.phase }, { on := 1, ground := Go.Ground.phase }, { on := 2, ground := Go.Ground.phase }, { on := 3, ground := Go.Ground.phase }, { on := 4, ground := Go.Ground.phase }, { on := 5, ground := Go.Ground.phase }, { on := 6, ground := Go.Ground.phase }, { on := 7, ground := Go.Ground.phase }, { on := 8, ground := Go.Ground.phase }, { on := 9, ground := Go.Ground.phase }], guard := none }
def oph12 : Oper := { dst := none, op := Go.Op.store 22 (Go.Operand.tmp 15) (Go.Operand.tmp 13), type := 0, pos := "half.go:126", after := #[{ on := 11, ground := Go.Ground.data }, { on := 9, ground := Go.Ground.data }, { on := 9, ground := Go.Ground.chain }, { on := 0, ground := Go.Ground.phase }, { on := 1, ground := Go.Ground.phase }, { on := 2, ground := Go.Ground.phase }, { on := 3, ground := Go.Ground.phase }, { on := 4, ground := Go.Ground.phase }, { on := 5, ground := Go.Ground.phase }, { on := 6, ground := Go.Ground.phase }, { on := 7, ground := Go.Ground.phase }, { on := 8, ground := Go.Ground.phase }, { on := 9, ground := Go.Ground.phase }], guard := none }
set_option maxHeartbeats 2000000 in
theorem lhas_any (q p fr mn g : Nat) (v : Value) (ts : List Bs) (tk : Nat) (m : Bs) (more : List Value) (m' t : Bs) (ht : t.length ≤ 2000) (hts : ts.length ≤ 100000) (htk : tk ≤ 100000) (w : World) (h : Hid (Hf w q p fr mn g v ts tk m more)) :
    Calls Tryd.prog 55 #[.pointer (some ⟨q, 0, none⟩), rv m' t] w fun e w' => e = .returned (.tuple #[]) ∧ ∃ v', Hf w' q p fr mn g v' (ts ++ [t]) (tk + sn t) m' more ∧ Bf (HFt q v) w w' ∧ Nx w (HFt q v) (HFt q v') := by
  obtain ⟨va, vn, vc, rfl⟩ := owns_sliceS h.out.row
  have CL : Hid (∀ w, Calls Tryd.prog 36 #[.string (st t)] w fun e w' => e = .returned (.string (st t)) ∧ Below w.heap.size w w') := fun w => sclone_any (st t) (by rw [st_size]; omega) w
  have SO : Hid (∀ w, Calls Tryd.prog 34 #[.string (st t)] w fun e w' => e = .returned (.int .i64 (sn t : Int)) ∧ w' = w) := fun w => lsectorsOf_any t (by omega) w
  have hsn : sn t ≤ 100 := by unfold sn; omega
  obtain ⟨n, hn⟩ : ∃ n, sn t = n := ⟨_, rfl⟩
  rw [hn] at SO hsn ⊢
  clear hn
  have HT : Hid (.string (st t) = sv t) := (rfl : Value.string (st t) = sv t)
  have HM : Hid (.string (st m') = sv m') := (rfl : Value.string (st m') = sv m')
  unfold rv
  unfold sv
  obtain ⟨T, hT⟩ : ∃ T, st t = T := ⟨_, rfl⟩
  obtain ⟨M, hM⟩ : ∃ M, st m' = M := ⟨_, rfl⟩
  rw [hT] at CL SO HT ⊢
  rw [hM] at HM ⊢
  clear hT hM ht
  have hB : Hid (w.heap.size ≠ q) := fun e => by have := h.out.bk.lt; omega
  have HNB : Hid ((Value.slice va vn vc).ownBlock ≠ some w.heap.size) := fun e => Nat.lt_irrefl _ (h.out.row.lt _ e).2
  have I0 : Hid (Hs1 w q p fr mn g (.slice va vn vc) ts tk m more w.heap.size M T (w.alloc (.cells #[.string M, .string T] 86)).drew (.slice va vn vc)) :=
    ⟨h.out.later (nb _ _).drew, (Blk.new w [.string M, .string T] 86 (by simp)).drew, Bf.of (nb _ _).drew, Nx.refl _ _⟩
  go_enter Tryd.func55, Tryd.ntmps55
  go_wp2_with fail
  obtain ⟨W, hW⟩ : ∃ W, w.alloc (.cells #[.string M, .string T] 86) = W := ⟨_, rfl⟩
  have b1 : W.cell? ⟨w.heap.size, 1, none⟩ = some (.string T) := by rw [← hW, World.cell?_alloc_new]; rfl
  rw [hW] at I0 ⊢
  clear hW
  obtain ⟨B, hBB⟩ : ∃ B, w.heap.size = B := ⟨_, rfl⟩
  rw [hBB] at I0 hB b1 HNB ⊢
  have HBB : Hid (w.heap.size = B) := hBB
  clear hBB h
  have CK : Hid (∀ V, Below W.drew.heap.size W.drew V → V.cell? ⟨q, 4, none⟩ = some (.slice va vn vc)) := fun V hb => (I0.out.hf.later hb).bk.c 4 _ rfl
  have AA : Hid (∀ V, Below W.drew.heap.size W.drew V → ∃ xa xn xc w', (Builtin.append_ #[22, 22] 22 #[.slice va vn vc, .slice (some ⟨V.heap.size, 0, none⟩) 1 1]).run Tryd.prog (V.alloc (.cells #[.string T] 9)) = .ok (.slice xa xn xc) w' ∧ Hid (w'.cell? ⟨q, 4, none⟩ = some (.slice va vn vc) ∧ w'.frozen? ⟨q, 4, none⟩ = false ∧ w'.cell? ⟨B, 1, none⟩ = some (.string T) ∧ Hs1 w q p fr mn g (.slice va vn vc) (ts ++ [t]) tk m more B M T (w'.setCell ⟨q, 4, none⟩ (.slice xa xn xc)) (.slice xa xn xc))) := by
    intro V hb
    have hb2 := chain hb (nb V (.cells #[.string T] 9))
    have k1 := I0.out.hf.later hb2
    have k2 := I0.out.bk.later hb2
    obtain ⟨v', w', r1, r2, r3, r4⟩ := app_str (V.alloc (.cells #[.string T] 9)) 22 (.slice va vn vc) ts k1.row (by omega) t V.heap.size (by rw [← HT.out, World.cell?_alloc_new]; rfl)
    obtain ⟨xa, xn, xc, rfl⟩ := owns_sliceS r2
    have hq : w'.heap[q]? = (V.alloc (.cells #[.string T] 9)).heap[q]? := r3.block q k1.bk.lt (fun e => k1.qv e.symm)
    have hnB : some B ≠ (Value.slice va vn vc).ownBlock := fun e => HNB.out e.symm
    have hBB : w'.heap[B]? = (V.alloc (.cells #[.string T] 9)).heap[B]? := r3.block B k2.lt hnB
    have bW : Bf (HFt q (.slice va vn vc)) w (V.alloc (.cells #[.string T] 9)) := I0.out.bf.later hb2
    refine ⟨xa, xn, xc, w', r1, ?_, ?_, ?_, ⟨k1.grown r3 r2 r4, ?_, ?_, ?_⟩⟩
    · exact (World.cell?_of_block (a := ⟨q, 4, none⟩) hq).trans (k1.bk.c 4 _ rfl)
    · exact (World.frozen?_of_block (a := ⟨q, 4, none⟩) hq).trans (k1.bk.f 4)
    · exact (World.cell?_of_block (a := ⟨B, 1, none⟩) hBB).trans (k2.c 1 _ rfl)
    · exact (k2.same hBB).same (Below.heap_setCell w' ⟨q, 4, none⟩ _ B hB.out)
    · exact bf_set (bW.trans (Nx.refl _ _) (Bf.grown (F := HFt q (.slice va vn vc)) r3 (fun x e => .inl (.inr e)))) (.inl rfl)
    · exact Hf.ft r4 bW.size
  have TL : Hid (∀ W x, Hs1 w q p fr mn g (.slice va vn vc) (ts ++ [t]) tk m more B M T W x → Hf ((W.drew.setCell ⟨q, 5, none⟩ (.int .i64 ((tk + n : Nat) : Int))).setCell ⟨q, 6, none⟩ (.string M)) q p fr mn g x (ts ++ [t]) (tk + n) m' more ∧ Bf (HFt q (.slice va vn vc)) w ((W.drew.setCell ⟨q, 5, none⟩ (.int .i64 ((tk + n : Nat) : Int))).setCell ⟨q, 6, none⟩ (.string M)) ∧ Nx w (HFt q (.slice va vn vc)) (HFt q x)) := fun W x k => by
    rw [HM.out]
    exact ⟨((k.hf.later (Below.refl _ _).drew).setTk _).setMk m', bf_set (bf_set (k.bf.later (Below.refl _ _).drew) (.inl rfl)) (.inl rfl), k.nx⟩
  have e1 : ((tk + n : Nat) : Int) = (tk : Int) + (n : Int) := by omega
  rw [e1] at TL
  have y1 : IntKind.i64.wrap ((tk : Int) + (n : Int)) = (tk : Int) + (n : Int) := by rw [IntKind.wrap_i64]; omega
  clear e1 HT HM
  refine wp_region_noPanic ?_
  refine wp_region_held_drew (S := fun w' => w'.cell? ⟨B, 1, none⟩ = some (.string T)) (by kernel_rfl) (b1) (fun hHeld => ?_)
  obtain ⟨Z, hZ⟩ : ∃ Z, W.drew = Z := ⟨_, rfl⟩
  rw [hZ] at hHeld CK AA I0 ⊢
  clear hZ b1 I0
  refine wpAnyH_take (i := 0) (oi := oph0) (v := ?_) rfl (by kernel_rfl) (by kernel_rfl) (by kernel_rfl) (fun _ _ _ h => h) (Or.inl ⟨by rfl, ?_⟩) (by assumption) ?_
  rotate_left
  · intro w' hSw
    clear hSw
    unfold oph0
    first
    | (go_simp; done)
    | (go_simp; with_reducible rfl)
  simp only [oph0, Act.put, List.setIfInBounds_toArray, List.set_cons_zero, List.set_cons_succ]
  refine wpAnyH_take (i := 1) (oi := oph1) (v := ?_) rfl (by kernel_rfl) (by kernel_rfl) (by kernel_rfl) (fun _ _ _ h => h) (Or.inl ⟨by rfl, ?_⟩) (by assumption) ?_
  rotate_left
  · intro w' hSw
    clear hSw
    unfold oph1
    first
    | (go_simp; done)
    | (go_simp; with_reducible rfl)
  simp only [oph1, Act.put, List.setIfInBounds_toArray, List.set_cons_zero, List.set_cons_succ]
  refine wpAnyH_take (i := 2) (oi := oph2) (v := ?_) rfl (by kernel_rfl) (by kernel_rfl) (by kernel_rfl) (fun _ _ _ h => h) (Or.inl ⟨by rfl, ?_⟩) (by assumption) ?_
  rotate_left
  · intro w' hSw
    clear hSw
    unfold oph2
    first
    | (go_simp; done)
    | (go_simp; with_reducible rfl)
  simp only [oph2, Act.put, List.setIfInBounds_toArray, List.set_cons_zero, List.set_cons_succ]
  refine wpAnyH_take (i := 3) (oi := oph3) (v := ?_) rfl (by kernel_rfl) (by kernel_rfl) (by kernel_rfl) (fun _ _ _ h => h) (Or.inl ⟨by rfl, ?_⟩) (by assumption) ?_
  rotate_left
  · intro w' hSw
    clear hSw
    unfold oph3
    first
    | (go_simp; done)
    | (go_simp; with_reducible rfl)
  simp only [oph3, Act.put, List.setIfInBounds_toArray, List.set_cons_zero, List.set_cons_succ]
  refine wpAnyH_take (i := 5) (oi := oph5) (v := ?_) rfl (by kernel_rfl) (by kernel_rfl) (by kernel_rfl) (fun _ _ _ h => h) (Or.inl ⟨by rfl, ?_⟩) (by assumption) ?_
  rotate_left
  · intro w' hSw
    clear hSw
    unfold oph5
    first
    | (go_simp; done)
    | (go_simp; with_reducible rfl)
  simp only [oph5, Act.put, List.setIfInBounds_toArray, List.set_cons_zero, List.set_cons_succ]
  refine wpAnyH_take (i := 6) (oi := oph6) (v := ?_) rfl (by kernel_rfl) (by kernel_rfl) (by kernel_rfl) (fun _ _ _ h => h) (Or.inl ⟨by rfl, ?_⟩) (by assumption) ?_
  rotate_left
  · intro w' hSw
    have s1 := hSw
    unfold oph6
    first
    | (go_simp; done)
    | (go_simp; with_reducible rfl)
  simp only [oph6, Act.put, List.setIfInBounds_toArray, List.set_cons_zero, List.set_cons_succ]
  refine wpAnyH_ready (rs := [4, 7]) (by kernel_rfl) (by simp) ?_
  refine AllReadyH.cons (o := oph4) rfl (fun KK hKK => ?_) (AllReadyH.cons (o := oph7) rfl (fun KK hKK => ?_) AllReadyH.nil)
  · have lc := CK.out _ (Below.refl _ _)
    unfold oph4
    go_simp
    refine hKK.out _ _ hHeld (fun hHeldL => ?_)
    clear hKK KK lc
    refine wpAnyH_ready (rs := [7]) (by kernel_rfl) (by simp) ?_
    refine AllReadyH.cons (o := oph7) rfl (fun KK hKK => ?_) AllReadyH.nil
    unfold oph7
    go_simp
    refine Calls.mono (CL.out _) ?_
    rintro e w1 ⟨rfl, hb1⟩
    refine hKK.out _ _ (cell_later hb1 hHeldL) (fun hHeldC => ?_)
    clear hKK KK
    refine wpAnyH_ready (rs := [8]) (by kernel_rfl) (by simp) ?_
    refine AllReadyH.cons (o := oph8) rfl (fun KK hKK => ?_) AllReadyH.nil
    unfold oph8
    go_simp
    refine hKK.out _ _ (cell_alloc hHeldC) (fun hHeldB => ?_)
    clear hKK KK
    refine wpAnyH_ready (rs := [9]) (by kernel_rfl) (by simp) ?_
    refine AllReadyH.cons (o := oph9) rfl (fun KK hKK => ?_) AllReadyH.nil
    obtain ⟨xa, xn, xc, w', hr, AO⟩ := AA.out w1 hb1
    rw [if_pos (by kernel_rfl)]
    refine Go.Lib.wp_append_run _ _ _ _ _ rfl _ _ rfl rfl _ _ hr ?_
    refine hKK.out _ _ AO.out.2.2.1 (fun hHeldA => ?_)
    clear hKK KK hr
    simp only [oph9, Act.put, List.setIfInBounds_toArray, List.set_cons_zero, List.set_cons_succ]
    refine wpAnyH_take (i := 10) (oi := oph10) (v := ?_) rfl (by kernel_rfl) (by kernel_rfl) (by kernel_rfl) (fun _ _ _ h => h) (Or.inl ⟨by rfl, ?_⟩) (by assumption) ?_
    rotate_left
    · intro w' hSw
      clear hSw
      unfold oph10
      first
      | (go_simp; done)
      | (go_simp; with_reducible rfl)
    simp only [oph10, Act.put, List.setIfInBounds_toArray, List.set_cons_zero, List.set_cons_succ]
    refine wpAnyH_take (i := 11) (oi := oph11) (v := ?_) rfl (by kernel_rfl) (by kernel_rfl) (by kernel_rfl) (fun _ _ _ h => h) (Or.inl ⟨by rfl, ?_⟩) (by assumption) ?_
    rotate_left
    · intro w' hSw
      clear hSw
      unfold oph11
      first
      | (go_simp; done)
      | (go_simp; with_reducible rfl)
    simp only [oph11, Act.put, List.setIfInBounds_toArray, List.set_cons_zero, List.set_cons_succ]
    refine wpAnyH_ready (rs := [12]) (by kernel_rfl) (by simp) ?_
    refine AllReadyH.cons (o := oph12) rfl (fun KK hKK => ?_) AllReadyH.nil
    have sc := AO.out.1
    have sf := AO.out.2.1
    unfold oph12
    go_simp
    refine hKK.out _ _ (cell_setCell hHeldA (Ne.symm hB.out)) (fun hHeldS => ?_)
    clear hKK KK sc sf
    refine wpAnyH_done (by kernel_rfl) ?_ _
    refine NoPanic.normal ?_
    have R1 : Hid _ := AO.out.2.2.2
    clear AO AA CK CL
    obtain ⟨V, hV⟩ : ∃ V, w'.setCell ⟨q, 4, none⟩ (.slice xa xn xc) = V := ⟨_, rfl⟩
    rw [hV] at R1 ⊢
    have k5 := R1.out.hf.bk.c 5 _ rfl
    have k6 := R1.out.hf.bk.c 6 _ rfl
    have kf := R1.out.hf.bk.f
    have r0 := R1.out.bk.c 0 _ rfl
    have r1 := R1.out.bk.c 1 _ rfl
    have hne := hB.out
    have FF : Hid _ := TL.out V _ R1.out
    clear R1 TL hV
    go_wp2_with fail
    go_region_with (first | (go_at_call 34; refine Calls.mono (SO.out _) ?_; rintro e w3 ⟨rfl, rfl⟩))
    all_goals
      go_wp2
      go_end0
      exact ⟨rfl, _, FF.out⟩
  · unfold oph7
    go_simp
    refine Calls.mono (CL.out _) ?_
    rintro e w1 ⟨rfl, hb1⟩
    refine hKK.out _ _ (cell_later hb1 hHeld) (fun hHeldC => ?_)
    clear hKK KK
    refine wpAnyH_ready (rs := [4, 8]) (by kernel_rfl) (by simp) ?_
    refine AllReadyH.cons (o := oph4) rfl (fun KK hKK => ?_) (AllReadyH.cons (o := oph8) rfl (fun KK hKK => ?_) AllReadyH.nil)
    · have lc := CK.out w1 hb1
      unfold oph4
      go_simp
      refine hKK.out _ _ hHeldC (fun hHeldL => ?_)
      clear hKK KK lc
      refine wpAnyH_ready (rs := [8]) (by kernel_rfl) (by simp) ?_
      refine AllReadyH.cons (o := oph8) rfl (fun KK hKK => ?_) AllReadyH.nil
      unfold oph8
      go_simp
      refine hKK.out _ _ (cell_alloc hHeldL) (fun hHeldB => ?_)
      clear hKK KK
      refine wpAnyH_ready (rs := [9]) (by kernel_rfl) (by simp) ?_
      refine AllReadyH.cons (o := oph9) rfl (fun KK hKK => ?_) AllReadyH.nil
      obtain ⟨xa, xn, xc, w', hr, AO⟩ := AA.out w1 hb1
      rw [if_pos (by kernel_rfl)]
      refine Go.Lib.wp_append_run _ _ _ _ _ rfl _ _ rfl rfl _ _ hr ?_
      refine hKK.out _ _ AO.out.2.2.1 (fun hHeldA => ?_)
      clear hKK KK hr
      simp only [oph9, Act.put, List.setIfInBounds_toArray, List.set_cons_zero, List.set_cons_succ]
      refine wpAnyH_take (i := 10) (oi := oph10) (v := ?_) rfl (by kernel_rfl) (by kernel_rfl) (by kernel_rfl) (fun _ _ _ h => h) (Or.inl ⟨by rfl, ?_⟩) (by assumption) ?_
      rotate_left
      · intro w' hSw
        clear hSw
        unfold oph10
        first
        | (go_simp; done)
        | (go_simp; with_reducible rfl)
      simp only [oph10, Act.put, List.setIfInBounds_toArray, List.set_cons_zero, List.set_cons_succ]
      refine wpAnyH_take (i := 11) (oi := oph11) (v := ?_) rfl (by kernel_rfl) (by kernel_rfl) (by kernel_rfl) (fun _ _ _ h => h) (Or.inl ⟨by rfl, ?_⟩) (by assumption) ?_
      rotate_left
      · intro w' hSw
        clear hSw
        unfold oph11
        first
        | (go_simp; done)
        | (go_simp; with_reducible rfl)
      simp only [oph11, Act.put, List.setIfInBounds_toArray, List.set_cons_zero, List.set_cons_succ]
      refine wpAnyH_ready (rs := [12]) (by kernel_rfl) (by simp) ?_
      refine AllReadyH.cons (o := oph12) rfl (fun KK hKK => ?_) AllReadyH.nil
      have sc := AO.out.1
      have sf := AO.out.2.1
      unfold oph12
      go_simp
      refine hKK.out _ _ (cell_setCell hHeldA (Ne.symm hB.out)) (fun hHeldS => ?_)
      clear hKK KK sc sf
      refine wpAnyH_done (by kernel_rfl) ?_ _
      refine NoPanic.normal ?_
      have R1 : Hid _ := AO.out.2.2.2
      clear AO AA CK CL
      obtain ⟨V, hV⟩ : ∃ V, w'.setCell ⟨q, 4, none⟩ (.slice xa xn xc) = V := ⟨_, rfl⟩
      rw [hV] at R1 ⊢
      have k5 := R1.out.hf.bk.c 5 _ rfl
      have k6 := R1.out.hf.bk.c 6 _ rfl
      have kf := R1.out.hf.bk.f
      have r0 := R1.out.bk.c 0 _ rfl
      have r1 := R1.out.bk.c 1 _ rfl
      have hne := hB.out
      have FF : Hid _ := TL.out V _ R1.out
      clear R1 TL hV
      go_wp2_with fail
      go_region_with (first | (go_at_call 34; refine Calls.mono (SO.out _) ?_; rintro e w3 ⟨rfl, rfl⟩))
      all_goals
        go_wp2
        go_end0
        exact ⟨rfl, _, FF.out⟩
    · unfold oph8
      go_simp
      refine hKK.out _ _ (cell_alloc hHeldC) (fun hHeldB => ?_)
      clear hKK KK
      refine wpAnyH_ready (rs := [4]) (by kernel_rfl) (by simp) ?_
      refine AllReadyH.cons (o := oph4) rfl (fun KK hKK => ?_) AllReadyH.nil
      have lc := CK.out _ (chain hb1 (nb w1 (.cells #[.string T] 9)))
      unfold oph4
      go_simp
      refine hKK.out _ _ hHeldB (fun hHeldL => ?_)
      clear hKK KK lc
      refine wpAnyH_ready (rs := [9]) (by kernel_rfl) (by simp) ?_
      refine AllReadyH.cons (o := oph9) rfl (fun KK hKK => ?_) AllReadyH.nil
      obtain ⟨xa, xn, xc, w', hr, AO⟩ := AA.out w1 hb1
      rw [if_pos (by kernel_rfl)]
      refine Go.Lib.wp_append_run _ _ _ _ _ rfl _ _ rfl rfl _ _ hr ?_
      refine hKK.out _ _ AO.out.2.2.1 (fun hHeldA => ?_)
      clear hKK KK hr
      simp only [oph9, Act.put, List.setIfInBounds_toArray, List.set_cons_zero, List.set_cons_succ]
      refine wpAnyH_take (i := 10) (oi := oph10) (v := ?_) rfl (by kernel_rfl) (by kernel_rfl) (by kernel_rfl) (fun _ _ _ h => h) (Or.inl ⟨by rfl, ?_⟩) (by assumption) ?_
      rotate_left
      · intro w' hSw
        clear hSw
        unfold oph10
        first
        | (go_simp; done)
        | (go_simp; with_reducible rfl)
      simp only [oph10, Act.put, List.setIfInBounds_toArray, List.set_cons_zero, List.set_cons_succ]
      refine wpAnyH_take (i := 11) (oi := oph11) (v := ?_) rfl (by kernel_rfl) (by kernel_rfl) (by kernel_rfl) (fun _ _ _ h => h) (Or.inl ⟨by rfl, ?_⟩) (by assumption) ?_
      rotate_left
      · intro w' hSw
        clear hSw
        unfold oph11
        first
        | (go_simp; done)
        | (go_simp; with_reducible rfl)
      simp only [oph11, Act.put, List.setIfInBounds_toArray, List.set_cons_zero, List.set_cons_succ]
      refine wpAnyH_ready (rs := [12]) (by kernel_rfl) (by simp) ?_
      refine AllReadyH.cons (o := oph12) rfl (fun KK hKK => ?_) AllReadyH.nil
      have sc := AO.out.1
      have sf := AO.out.2.1
      unfold oph12
      go_simp
      refine hKK.out _ _ (cell_setCell hHeldA (Ne.symm hB.out)) (fun hHeldS => ?_)
      clear hKK KK sc sf
      refine wpAnyH_done (by kernel_rfl) ?_ _
      refine NoPanic.normal ?_
      have R1 : Hid _ := AO.out.2.2.2
      clear AO AA CK CL
      obtain ⟨V, hV⟩ : ∃ V, w'.setCell ⟨q, 4, none⟩ (.slice xa xn xc) = V := ⟨_, rfl⟩
      rw [hV] at R1 ⊢
      have k5 := R1.out.hf.bk.c 5 _ rfl
      have k6 := R1.out.hf.bk.c 6 _ rfl
      have kf := R1.out.hf.bk.f
      have r0 := R1.out.bk.c 0 _ rfl
      have r1 := R1.out.bk.c 1 _ rfl
      have hne := hB.out
      have FF : Hid _ := TL.out V _ R1.out
      clear R1 TL hV
      go_wp2_with fail
      go_region_with (first | (go_at_call 34; refine Calls.mono (SO.out _) ?_; rintro e w3 ⟨rfl, rfl⟩))
      all_goals
        go_wp2
        go_end0
        exact ⟨rfl, _, FF.out⟩
end Go.Proofs.YtdcimnmebgkmjaaDoor
