/- Parts: LrI, LgK. -/
import Derived.Test.YtdcimnmebgkmjaaGreatDoorZlG21
import Derived.Test.YtdcimnmebgkmjaaGreatDoorZlG17
import Derived.Lib.AppendZeros
namespace Go.Proofs.YtdcimnmebgkmjaaGreatDoor
open Go.RowKit Go.Proofs.Fd Go.Proofs.Dk Go.Proofs.Lg
set_option maxRecDepth 20000
theorem two (b : Bs) (h : 2 ≤ b.length) : nm (b.take 2) = b[0].toNat * 256 + b[1].toNat := by
  have e : b.take 2 = [b[0], b[1]] := by
    apply List.ext_getElem
    · simp; omega
    · intro i h1 h2
      have : i < 2 := by simpa using h2
      rcases (by omega : i = 0 ∨ i = 1) with rfl | rfl <;> simp
  rw [e, nm]
  simp
def FoundR (b m : Bs) (e : Ending) : Prop := ∃ (T : Bs) (ok : Bool), e = .returned (.tuple #[sv T, .bool ok]) ∧ (ok = true ∧ rof b m = some T ∨ ok = false ∧ rof b m = none)
theorem found_no {b m : Bs} (h : rof b m = none) : FoundR b m (.returned (.tuple #[sv [], .bool false])) := ⟨[], false, rfl, .inr ⟨rfl, h⟩⟩
theorem found_is {b m t : Bs} {ok : Bool} (h : ok = true ∧ rof b m = some t ∨ ok = false ∧ rof b m = none) : FoundR b m (.returned (.tuple #[.string (st t), .bool ok])) := ⟨t, ok, rfl, h⟩
set_option maxHeartbeats 2000000 in
theorem rfound_any (q d h g : Nat) (v : Value) (ts : List Bs) (tk : Nat) (m b : Bs) (w : World) (hm : m.length = 16) (hb64 : b.length % 64 = 0) (hbl : b.length ≤ 65536) (k : Hid (Rf w q d h g v ts tk m)) :
    Calls Tryz.prog 70 #[.pointer (some ⟨q, 0, none⟩), sv b] w fun e w' => FoundR b m e ∧ Below w.heap.size w w' := by
  have hs : (st b).size = b.length := st_size b
  have k4 := k.out.bk.c 4 _ rfl
  obtain ⟨X, hX⟩ : ∃ X, st b = X := ⟨_, rfl⟩
  have HX : Hid (st b = X) := hX
  show Calls Tryz.prog 70 #[.pointer (some ⟨q, 0, none⟩), .string (st b)] w _
  rw [hX] at hs ⊢
  by_cases h1 : b.length < 64
  · have g1 : (X.size : Int) < 64 := by omega
    have HR : Hid (rof b m = none) := by show rof b m = none; rw [rof, if_pos h1]
    clear hX k
    go_enter Tryz.func70, Tryz.ntmps70
    go_wp2
    go_ret2
    exact ⟨found_no HR.out, Below.refl _ _⟩
  · have g1 : ¬ (X.size : Int) < 64 := by omega
    have h2 := two b (by omega)
    have x0 : X[0]'(by omega) = b[0]'(by omega) := by subst hX; rfl
    have x1 : X[1]'(by omega) = b[1]'(by omega) := by subst hX; rfl
    have q0 := (b[0]'(by omega)).toNat_lt
    have q1 := (b[1]'(by omega)).toNat_lt
    have RO : Hid (rof b m = if nm (b.take 2) < 1 ∨ 2000 < nm (b.take 2) ∨ b.length < 18 + nm (b.take 2) then none else if (rcd m ((b.drop 18).take (nm (b.take 2)))).isPrefixOf b = true then some ((b.drop 18).take (nm (b.take 2))) else none) := by
      show rof b m = _
      rw [rof, if_neg h1]
    obtain ⟨n, hn⟩ : ∃ n, nm (b.take 2) = n := ⟨_, rfl⟩
    rw [hn] at h2 RO
    obtain ⟨c0, e0⟩ : ∃ c, b[0]'(by omega) = c := ⟨_, rfl⟩
    obtain ⟨c1, e1⟩ : ∃ c, b[1]'(by omega) = c := ⟨_, rfl⟩
    rw [e0] at x0 q0 h2
    rw [e1] at x1 q1 h2
    have t0 : IntKind.i64.wrap (c0.toNat : Int) = (c0.toNat : Int) := by rw [IntKind.wrap_i64]; omega
    have t1 : IntKind.i64.wrap (c1.toNat : Int) = (c1.toNat : Int) := by rw [IntKind.wrap_i64]; omega
    have t2 : IntKind.i64.wrap ((c0.toNat : Int) * 256) = (c0.toNat : Int) * 256 := by rw [IntKind.wrap_i64]; omega
    have t3 : IntKind.i64.wrap ((c0.toNat : Int) * 256 + (c1.toNat : Int)) = (n : Int) := by rw [IntKind.wrap_i64]; omega
    have l0 : (0 : Int) < (X.size : Int) := by omega
    have l1 : (1 : Int) < (X.size : Int) := by omega
    have hn2 : n < 65536 := by omega
    have KK : Hid (∀ W, Below w.heap.size w W → W.cell? ⟨q, 4, none⟩ = some (sv m)) := fun W hb => (k.out.later hb).bk.c 4 _ rfl
    clear hn e0 e1 hX k k4 q0 q1 h2
    go_enter Tryz.func70, Tryz.ntmps70
    go_upto_region 3 with fail
    go_cut [6] (fun s6 wx => s6 = .int .i64 (n : Int) ∧ Hid (Below w.heap.size w wx))
    case first =>
      go_wp2_with fail
      go_region_with fail
      all_goals (go_wp2; go_meet)
      all_goals first
        | exact ⟨rfl, (Below.refl _ _).drew⟩
        | exact ⟨rfl, Below.refl _ _⟩
    case rest =>
      obtain ⟨rfl, BW⟩ := hcut
      clear t0 t1 t2 t3 x0 x1 l0 l1
      by_cases hbad : n < 1 ∨ 2000 < n ∨ b.length < 18 + n
      · have HR : Hid (rof b m = none) := by show rof b m = none; rw [RO.out, if_pos hbad]
        clear RO KK
        by_cases a1 : n < 1
        · have g2 : (n : Int) < 1 := by omega
          go_wp2
          go_ret2
          exact ⟨found_no HR.out, BW.out⟩
        · have g2 : ¬ (n : Int) < 1 := by omega
          by_cases a2 : 2000 < n
          · have g3 : (2000 : Int) < (n : Int) := by omega
            go_wp2
            go_ret2
            exact ⟨found_no HR.out, BW.out⟩
          · have g3 : ¬ (2000 : Int) < (n : Int) := by omega
            have g4 : (X.size : Int) < 18 + (n : Int) := by omega
            have y1 : IntKind.i64.wrap (18 + (n : Int)) = 18 + (n : Int) := by rw [IntKind.wrap_i64]; omega
            go_wp2
            go_ret2
            exact ⟨found_no HR.out, BW.out⟩
      · have g2 : ¬ (n : Int) < 1 := by omega
        have g3 : ¬ (2000 : Int) < (n : Int) := by omega
        have g4 : ¬ (X.size : Int) < 18 + (n : Int) := by omega
        have y1 : IntKind.i64.wrap (18 + (n : Int)) = 18 + (n : Int) := by rw [IntKind.wrap_i64]; omega
        obtain ⟨t, ht⟩ : ∃ t, (b.drop 18).take n = t := ⟨_, rfl⟩
        have htl : t.length = n := by rw [← ht, List.length_take, List.length_drop]; omega
        have HR : Hid (rof b m = if (rcd m t).isPrefixOf b = true then some t else none) := by
          show rof b m = _
          rw [RO.out, if_neg hbad, ht]
        have SLI : ∀ W, (Instr.slice 9 (.string X) (some (.int .i64 18)) (some (.int .i64 (18 + (n : Int)))) none).run Tryz.prog W = .ok (.string (st t)) W := fun W => by
          have e : X.extract 18 (18 + n) = st t := by
            rw [← HX.out, st_cut, List.drop_take, show 18 + n - 18 = n by omega, ht]
          rw [← e]
          exact cut_run X 18 (18 + n) _ _ rfl (by omega) (by omega) (by omega) W
        have RC : Hid _ := rrecord_any m t hm (by omega) wc
        have c4 := KK.out wc BW.out
        have hrl : (st (rcd m t)).size ≤ X.size := by
          rw [st_size, rcd_len, sn, htl]
          omega
        have PX : Hid (((X.extract 0 (st (rcd m t)).size).toList == (st (rcd m t)).toList) = (rcd m t).isPrefixOf b) := by
          show _ = _
          have e1 : (X.extract 0 (st (rcd m t)).size).toList = b.take (rcd m t).length := by
            rw [← HX.out, st_cut, List.drop_zero, ByteArray.toList_eq, st_data, st_size]
          have e2 : (st (rcd m t)).toList = rcd m t := by rw [ByteArray.toList_eq, st_data]
          rw [e1, e2]
          cases hp : (rcd m t).isPrefixOf b with
          | true =>
            obtain ⟨r, hr⟩ := List.isPrefixOf_iff_prefix.1 hp
            rw [beq_iff_eq, ← hr, List.take_left]
          | false =>
            rw [beq_eq_false_iff_ne]
            intro c
            have : (rcd m t).isPrefixOf b = true := List.isPrefixOf_iff_prefix.2 ⟨b.drop (rcd m t).length, by rw [← c, List.length_take, Nat.min_eq_left (by rw [rcd_len, sn, htl]; omega), List.take_append_drop]⟩
            rw [hp] at this
            cases this
        obtain ⟨ok, hok⟩ : ∃ ok, (rcd m t).isPrefixOf b = ok := ⟨_, rfl⟩
        rw [hok] at HR PX
        have FIN : Hid (ok = true ∧ rof b m = some t ∨ ok = false ∧ rof b m = none) := by
          cases ok
          · exact .inr ⟨rfl, HR.out⟩
          · exact .inl ⟨rfl, HR.out⟩
        unfold sv at RC c4
        obtain ⟨S, hS⟩ : ∃ S, st (rcd m t) = S := ⟨_, rfl⟩
        rw [hS] at RC PX hrl
        have PX2 := PX.out
        have g5 : (S.size : Int) ≤ (X.size : Int) := by omega
        clear HR PX hok hS RO KK hbad ht htl HX
        go_wp2_with fail
        refine Calls.mono RC.out ?_
        rintro e w1 ⟨rfl, hb⟩
        have B1 : Hid (Below w.heap.size w w1) := chain BW.out hb
        clear hb RC BW c4 SLI
        go_wp2_with fail
        go_region_with fail
        all_goals
          go_wp2
          go_ret2
          exact ⟨found_is FIN.out, by first | exact B1.out | exact B1.out.drew⟩
end Go.Proofs.YtdcimnmebgkmjaaGreatDoor
namespace Go.Proofs.YtdcimnmebgkmjaaGreatDoor
open Go.RowKit Go.Proofs.Fd Go.Proofs.Dk Go.Proofs.Lg
set_option maxRecDepth 20000
section
variable {w : World} {q p fr mn g : Nat} {v : Value} {ts : List Bs} {tk : Nat} {m : Bs} {more : List Value}
theorem Hf.grown (h : Hf w q p fr mn g v ts tk m more) {w' : World} {v' : Value} {us : List Bs} (k : w.grownBy w' v.ownBlock) (o : OwnsS w' v' us) (hv : v'.ownBlock = v.ownBlock ∨ v'.ownBlock = some w.heap.size) :
    Hf (w'.setCell ⟨q, 4, none⟩ v') q p fr mn g v' us tk m more := by
  have hq : w'.heap[q]? = w.heap[q]? := k.block q h.bk.lt (fun e => h.qv e.symm)
  have hn : v'.ownBlock ≠ some q := fun c => by
    rcases hv with e | e
    · exact h.qv (e.symm.trans c)
    · rw [e] at c
      injection c with c
      have := h.bk.lt
      omega
  have b1 := (h.bk.same hq).set 4 (by simp) v'
  exact ⟨b1, ownsRow_same o (fun x e => Below.heap_setCell w' ⟨q, 4, none⟩ v' x (fun c => hn (by rw [e, c]))), hn⟩
end
theorem Hf.ft {w w' : World} {q : Nat} {v v' : Value} (hv : v'.ownBlock = v.ownBlock ∨ v'.ownBlock = some w'.heap.size) (hs : w.heap.size ≤ w'.heap.size) : Nx w (HFt q v) (HFt q v') := fun x hx => by
  rcases hx with rfl | e
  · exact .inl (.inl rfl)
  · rcases hv with h | h
    · exact .inl (.inr (h.symm.trans e))
    · rw [h] at e
      injection e with e
      exact .inr (by omega)
structure Hs1 (w : World) (q p fr mn g : Nat) (v : Value) (ts : List Bs) (tk : Nat) (m : Bs) (more : List Value) (B : Nat) (M T : ByteArray) (W : World) (x : Value) : Prop where
  hf : Hf W q p fr mn g x ts tk m more
  bk : Blk W B [.string M, .string T]
  bf : Bf (HFt q v) w W
  nx : Nx w (HFt q v) (HFt q x)
def oph0 : Oper := { dst := some 4, op := Go.Op.move (Go.Operand.tmp 0), type := 134, pos := "half.go:126", after := #[], guard := none }
def oph1 : Oper := { dst := some 5, op := Go.Op.move (Go.Operand.tmp 0), type := 134, pos := "half.go:126", after := #[], guard := none }
def oph2 : Oper := { dst := some 6, op := Go.Op.nilCheck (Go.Operand.tmp 5), type := 0, pos := "half.go:126", after := #[{ on := 1, ground := Go.Ground.data }], guard := none }
def oph3 : Oper := { dst := some 7, op := Go.Op.fieldAddr 104 (Go.Operand.tmp 6) 2, type := 0, pos := "half.go:126", after := #[{ on := 2, ground := Go.Ground.data }], guard := none }
def oph4 : Oper := { dst := some 8, op := Go.Op.load 37 (Go.Operand.tmp 7), type := 37, pos := "half.go:126", after := #[{ on := 3, ground := Go.Ground.data }], guard := none }
def oph5 : Oper := { dst := some 9, op := Go.Op.fieldAddr 137 (Go.Operand.tmp 3) 1, type := 0, pos := "half.go:126", after := #[], guard := none }
def oph6 : Oper := { dst := some 10, op := Go.Op.load 9 (Go.Operand.tmp 9), type := 9, pos := "half.go:126", after := #[{ on := 5, ground := Go.Ground.data }], guard := none }
def oph7 : Oper := { dst := some 11, op := Go.Op.call { callee := Go.Callee.value (Go.Operand.func 63), args := #[Go.Operand.tmp 10], argTypes := #[9] }, type := 9, pos := "half.go:126", after := #[{ on := 6, ground := Go.Ground.data }], guard := none }
def oph8 : Oper := { dst := some 12, op := Go.Op.buildSlice 37 1 #[(0, Go.Operand.tmp 11)], type := 37, pos := "half.go:126", after := #[{ on := 7, ground := Go.Ground.data }], guard := none }
def oph9 : Oper := { dst := some 13, op := Go.Op.call { callee := Go.Callee.builtin Go.Builtin.append, args := #[Go.Operand.tmp 8, Go.Operand.tmp 12], argTypes := #[37, 37] }, type := 37, pos := "half.go:126", after := #[{ on := 4, ground := Go.Ground.data }, { on := 8, ground := Go.Ground.data }, { on := 7, ground := Go.Ground.chain }], guard := none }
def oph10 : Oper := { dst := some 14, op := Go.Op.nilCheck (Go.Operand.tmp 4), type := 0, pos := "half.go:126", after := #[{ on := 0, ground := Go.Ground.data }, { on := 0, ground := Go.Ground.phase }, { on := 1, ground := Go.Ground.phase }, { on := 2, ground := Go.Ground.phase }, { on := 3, ground := Go.Ground.phase }, { on := 4, ground := Go.Ground.phase }, { on := 5, ground := Go.Ground.phase }, { on := 6, ground := Go.Ground.phase }, { on := 7, ground := Go.Ground.phase }, { on := 8, ground := Go.Ground.phase }, { on := 9, ground := Go.Ground.phase }], guard := none }
def oph11 : Oper := { dst := some 15, op := Go.Op.fieldAddr 104 (Go.Operand.tmp 14) 2, type := 0, pos := "half.go:126", after := #[{ on := 10, ground := Go.Ground.data }, { on := 0, ground := Go.Ground.phase }, { on := 1, ground := Go.Ground.phase }, { on := 2, ground := Go.Ground.phase }, { on := 3, ground := Go.Ground.phase }, { on := 4, ground := Go.Ground.phase }, { on := 5, ground := Go.Ground.phase }, { on := 6, ground := Go.Ground.phase }, { on := 7, ground := Go.Ground.phase }, { on := 8, ground := Go.Ground.phase }, { on := 9, ground := Go.Ground.phase }], guard := none }
def oph12 : Oper := { dst := none, op := Go.Op.store 37 (Go.Operand.tmp 15) (Go.Operand.tmp 13), type := 0, pos := "half.go:126", after := #[{ on := 11, ground := Go.Ground.data }, { on := 9, ground := Go.Ground.data }, { on := 9, ground := Go.Ground.chain }, { on := 0, ground := Go.Ground.phase }, { on := 1, ground := Go.Ground.phase }, { on := 2, ground := Go.Ground.phase }, { on := 3, ground := Go.Ground.phase }, { on := 4, ground := Go.Ground.phase }, { on := 5, ground := Go.Ground.phase }, { on := 6, ground := Go.Ground.phase }, { on := 7, ground := Go.Ground.phase }, { on := 8, ground := Go.Ground.phase }, { on := 9, ground := Go.Ground.phase }], guard := none }
set_option maxHeartbeats 2000000 in
theorem lhas_any (q p fr mn g : Nat) (v : Value) (ts : List Bs) (tk : Nat) (m : Bs) (more : List Value) (m' t : Bs) (ht : t.length ≤ 2000) (hts : ts.length ≤ 100000) (htk : tk ≤ 100000) (w : World) (h : Hid (Hf w q p fr mn g v ts tk m more)) :
    Calls Tryz.prog 99 #[.pointer (some ⟨q, 0, none⟩), rv m' t] w fun e w' => e = .returned (.tuple #[]) ∧ ∃ v', Hf w' q p fr mn g v' (ts ++ [t]) (tk + sn t) m' more ∧ Bf (HFt q v) w w' ∧ Nx w (HFt q v) (HFt q v') := by
  obtain ⟨va, vn, vc, rfl⟩ := owns_sliceS h.out.row
  have CL : Hid (∀ w, Calls Tryz.prog 63 #[.string (st t)] w fun e w' => e = .returned (.string (st t)) ∧ Below w.heap.size w w') := fun w => sclone_any (st t) (by rw [st_size]; omega) w
  have SO : Hid (∀ w, Calls Tryz.prog 59 #[.string (st t)] w fun e w' => e = .returned (.int .i64 (sn t : Int)) ∧ w' = w) := fun w => lsectorsOf_any t (by omega) w
  have hsn : sn t ≤ 100 := by unfold sn; omega
  obtain ⟨n, hn⟩ : ∃ n, sn t = n := ⟨_, rfl⟩
  rw [hn] at SO hsn ⊢
  clear hn
  have HT : Hid (.string (st t) = sv t) := (rfl : Value.string (st t) = sv t)
  have HM : Hid (.string (st m') = sv m') := (rfl : Value.string (st m') = sv m')
  unfold rv
  unfold sv
  obtain ⟨T, hT⟩ : ∃ T, st t = T := ⟨_, rfl⟩
  obtain ⟨M, hM⟩ : ∃ M, st m' = M := ⟨_, rfl⟩
  rw [hT] at CL SO HT ⊢
  rw [hM] at HM ⊢
  clear hT hM ht
  have hB : Hid (w.heap.size ≠ q) := fun e => by have := h.out.bk.lt; omega
  have HNB : Hid ((Value.slice va vn vc).ownBlock ≠ some w.heap.size) := fun e => Nat.lt_irrefl _ (h.out.row.lt _ e).2
  have I0 : Hid (Hs1 w q p fr mn g (.slice va vn vc) ts tk m more w.heap.size M T (w.alloc (.cells #[.string M, .string T] 137)).drew (.slice va vn vc)) :=
    ⟨h.out.later (nb _ _).drew, (Blk.new w [.string M, .string T] 137 (by simp)).drew, Bf.of (nb _ _).drew, Nx.refl _ _⟩
  go_enter Tryz.func99, Tryz.ntmps99
  go_wp2_with fail
  obtain ⟨W, hW⟩ : ∃ W, w.alloc (.cells #[.string M, .string T] 137) = W := ⟨_, rfl⟩
  have b1 : W.cell? ⟨w.heap.size, 1, none⟩ = some (.string T) := by rw [← hW, World.cell?_alloc_new]; rfl
  rw [hW] at I0 ⊢
  clear hW
  obtain ⟨B, hBB⟩ : ∃ B, w.heap.size = B := ⟨_, rfl⟩
  rw [hBB] at I0 hB b1 HNB ⊢
  have HBB : Hid (w.heap.size = B) := hBB
  clear hBB h
  have CK : Hid (∀ V, Below W.drew.heap.size W.drew V → V.cell? ⟨q, 4, none⟩ = some (.slice va vn vc)) := fun V hb => (I0.out.hf.later hb).bk.c 4 _ rfl
  have AA : Hid (∀ V, Below W.drew.heap.size W.drew V → ∃ xa xn xc w', (Builtin.append_ #[37, 37] 37 #[.slice va vn vc, .slice (some ⟨V.heap.size, 0, none⟩) 1 1]).run Tryz.prog (V.alloc (.cells #[.string T] 9)) = .ok (.slice xa xn xc) w' ∧ Hid (w'.cell? ⟨q, 4, none⟩ = some (.slice va vn vc) ∧ w'.frozen? ⟨q, 4, none⟩ = false ∧ w'.cell? ⟨B, 1, none⟩ = some (.string T) ∧ Hs1 w q p fr mn g (.slice va vn vc) (ts ++ [t]) tk m more B M T (w'.setCell ⟨q, 4, none⟩ (.slice xa xn xc)) (.slice xa xn xc))) := by
    intro V hb
    have hb2 := chain hb (nb V (.cells #[.string T] 9))
    have k1 := I0.out.hf.later hb2
    have k2 := I0.out.bk.later hb2
    obtain ⟨v', w', r1, r2, r3, r4⟩ := app_str (V.alloc (.cells #[.string T] 9)) 37 (.slice va vn vc) ts k1.row (by omega) t V.heap.size (by rw [← HT.out, World.cell?_alloc_new]; rfl)
    obtain ⟨xa, xn, xc, rfl⟩ := owns_sliceS r2
    have hq : w'.heap[q]? = (V.alloc (.cells #[.string T] 9)).heap[q]? := r3.block q k1.bk.lt (fun e => k1.qv e.symm)
    have hnB : some B ≠ (Value.slice va vn vc).ownBlock := fun e => HNB.out e.symm
    have hBB : w'.heap[B]? = (V.alloc (.cells #[.string T] 9)).heap[B]? := r3.block B k2.lt hnB
    have bW : Bf (HFt q (.slice va vn vc)) w (V.alloc (.cells #[.string T] 9)) := I0.out.bf.later hb2
    refine ⟨xa, xn, xc, w', r1, ?_, ?_, ?_, ⟨k1.grown r3 r2 r4, ?_, ?_, ?_⟩⟩
    · exact (World.cell?_of_block (a := ⟨q, 4, none⟩) hq).trans (k1.bk.c 4 _ rfl)
    · exact (World.frozen?_of_block (a := ⟨q, 4, none⟩) hq).trans (k1.bk.f 4)
    · exact (World.cell?_of_block (a := ⟨B, 1, none⟩) hBB).trans (k2.c 1 _ rfl)
    · exact (k2.same hBB).same (Below.heap_setCell w' ⟨q, 4, none⟩ _ B hB.out)
    · exact bf_set (bW.trans (Nx.refl _ _) (Bf.grown (F := HFt q (.slice va vn vc)) r3 (fun x e => .inl (.inr e)))) (.inl rfl)
    · exact Hf.ft r4 bW.size
  have TL : Hid (∀ W x, Hs1 w q p fr mn g (.slice va vn vc) (ts ++ [t]) tk m more B M T W x → Hf ((W.drew.setCell ⟨q, 5, none⟩ (.int .i64 ((tk + n : Nat) : Int))).setCell ⟨q, 6, none⟩ (.string M)) q p fr mn g x (ts ++ [t]) (tk + n) m' more ∧ Bf (HFt q (.slice va vn vc)) w ((W.drew.setCell ⟨q, 5, none⟩ (.int .i64 ((tk + n : Nat) : Int))).setCell ⟨q, 6, none⟩ (.string M)) ∧ Nx w (HFt q (.slice va vn vc)) (HFt q x)) := fun W x k => by
    rw [HM.out]
    exact ⟨((k.hf.later (Below.refl _ _).drew).setTk _).setMk m', bf_set (bf_set (k.bf.later (Below.refl _ _).drew) (.inl rfl)) (.inl rfl), k.nx⟩
  have e1 : ((tk + n : Nat) : Int) = (tk : Int) + (n : Int) := by omega
  rw [e1] at TL
  have y1 : IntKind.i64.wrap ((tk : Int) + (n : Int)) = (tk : Int) + (n : Int) := by rw [IntKind.wrap_i64]; omega
  clear e1 HT HM
  refine wp_region_noPanic ?_
  refine wp_region_held_drew (S := fun w' => w'.cell? ⟨B, 1, none⟩ = some (.string T)) (by kernel_rfl) (b1) (fun hHeld => ?_)
  obtain ⟨Z, hZ⟩ : ∃ Z, W.drew = Z := ⟨_, rfl⟩
  rw [hZ] at hHeld CK AA I0 ⊢
  clear hZ b1 I0
  refine wpAnyH_take (i := 0) (oi := oph0) (v := ?_) rfl (by kernel_rfl) (by kernel_rfl) (by kernel_rfl) (fun _ _ _ h => h) (Or.inl ⟨by rfl, ?_⟩) (by assumption) ?_
  rotate_left
  · intro w' hSw
    clear hSw
    unfold oph0
    first
    | (go_simp; done)
    | (go_simp; with_reducible rfl)
  simp only [oph0, Act.put, List.setIfInBounds_toArray, List.set_cons_zero, List.set_cons_succ]
  refine wpAnyH_take (i := 1) (oi := oph1) (v := ?_) rfl (by kernel_rfl) (by kernel_rfl) (by kernel_rfl) (fun _ _ _ h => h) (Or.inl ⟨by rfl, ?_⟩) (by assumption) ?_
  rotate_left
  · intro w' hSw
    clear hSw
    unfold oph1
    first
    | (go_simp; done)
    | (go_simp; with_reducible rfl)
  simp only [oph1, Act.put, List.setIfInBounds_toArray, List.set_cons_zero, List.set_cons_succ]
  refine wpAnyH_take (i := 2) (oi := oph2) (v := ?_) rfl (by kernel_rfl) (by kernel_rfl) (by kernel_rfl) (fun _ _ _ h => h) (Or.inl ⟨by rfl, ?_⟩) (by assumption) ?_
  rotate_left
  · intro w' hSw
    clear hSw
    unfold oph2
    first
    | (go_simp; done)
    | (go_simp; with_reducible rfl)
  simp only [oph2, Act.put, List.setIfInBounds_toArray, List.set_cons_zero, List.set_cons_succ]
  refine wpAnyH_take (i := 3) (oi := oph3) (v := ?_) rfl (by kernel_rfl) (by kernel_rfl) (by kernel_rfl) (fun _ _ _ h => h) (Or.inl ⟨by rfl, ?_⟩) (by assumption) ?_
  rotate_left
  · intro w' hSw
    clear hSw
    unfold oph3
    first
    | (go_simp; done)
    | (go_simp; with_reducible rfl)
  simp only [oph3, Act.put, List.setIfInBounds_toArray, List.set_cons_zero, List.set_cons_succ]
  refine wpAnyH_take (i := 5) (oi := oph5) (v := ?_) rfl (by kernel_rfl) (by kernel_rfl) (by kernel_rfl) (fun _ _ _ h => h) (Or.inl ⟨by rfl, ?_⟩) (by assumption) ?_
  rotate_left
  · intro w' hSw
    clear hSw
    unfold oph5
    first
    | (go_simp; done)
    | (go_simp; with_reducible rfl)
  simp only [oph5, Act.put, List.setIfInBounds_toArray, List.set_cons_zero, List.set_cons_succ]
  refine wpAnyH_take (i := 6) (oi := oph6) (v := ?_) rfl (by kernel_rfl) (by kernel_rfl) (by kernel_rfl) (fun _ _ _ h => h) (Or.inl ⟨by rfl, ?_⟩) (by assumption) ?_
  rotate_left
  · intro w' hSw
    have s1 := hSw
    unfold oph6
    first
    | (go_simp; done)
    | (go_simp; with_reducible rfl)
  simp only [oph6, Act.put, List.setIfInBounds_toArray, List.set_cons_zero, List.set_cons_succ]
  refine wpAnyH_ready (rs := [4, 7]) (by kernel_rfl) (by simp) ?_
  refine AllReadyH.cons (o := oph4) rfl (fun KK hKK => ?_) (AllReadyH.cons (o := oph7) rfl (fun KK hKK => ?_) AllReadyH.nil)
  · have lc := CK.out _ (Below.refl _ _)
    unfold oph4
    go_simp
    refine hKK.out _ _ hHeld (fun hHeldL => ?_)
    clear hKK KK lc
    refine wpAnyH_ready (rs := [7]) (by kernel_rfl) (by simp) ?_
    refine AllReadyH.cons (o := oph7) rfl (fun KK hKK => ?_) AllReadyH.nil
    unfold oph7
    go_simp
    refine Calls.mono (CL.out _) ?_
    rintro e w1 ⟨rfl, hb1⟩
    refine hKK.out _ _ (cell_later hb1 hHeldL) (fun hHeldC => ?_)
    clear hKK KK
    refine wpAnyH_ready (rs := [8]) (by kernel_rfl) (by simp) ?_
    refine AllReadyH.cons (o := oph8) rfl (fun KK hKK => ?_) AllReadyH.nil
    unfold oph8
    go_simp
    refine hKK.out _ _ (cell_alloc hHeldC) (fun hHeldB => ?_)
    clear hKK KK
    refine wpAnyH_ready (rs := [9]) (by kernel_rfl) (by simp) ?_
    refine AllReadyH.cons (o := oph9) rfl (fun KK hKK => ?_) AllReadyH.nil
    obtain ⟨xa, xn, xc, w', hr, AO⟩ := AA.out w1 hb1
    rw [if_pos (by kernel_rfl)]
    refine Go.Lib.wp_append_run _ _ _ _ _ rfl _ _ rfl rfl _ _ hr ?_
    refine hKK.out _ _ AO.out.2.2.1 (fun hHeldA => ?_)
    clear hKK KK hr
    simp only [oph9, Act.put, List.setIfInBounds_toArray, List.set_cons_zero, List.set_cons_succ]
    refine wpAnyH_take (i := 10) (oi := oph10) (v := ?_) rfl (by kernel_rfl) (by kernel_rfl) (by kernel_rfl) (fun _ _ _ h => h) (Or.inl ⟨by rfl, ?_⟩) (by assumption) ?_
    rotate_left
    · intro w' hSw
      clear hSw
      unfold oph10
      first
      | (go_simp; done)
      | (go_simp; with_reducible rfl)
    simp only [oph10, Act.put, List.setIfInBounds_toArray, List.set_cons_zero, List.set_cons_succ]
    refine wpAnyH_take (i := 11) (oi := oph11) (v := ?_) rfl (by kernel_rfl) (by kernel_rfl) (by kernel_rfl) (fun _ _ _ h => h) (Or.inl ⟨by rfl, ?_⟩) (by assumption) ?_
    rotate_left
    · intro w' hSw
      clear hSw
      unfold oph11
      first
      | (go_simp; done)
      | (go_simp; with_reducible rfl)
    simp only [oph11, Act.put, List.setIfInBounds_toArray, List.set_cons_zero, List.set_cons_succ]
    refine wpAnyH_ready (rs := [12]) (by kernel_rfl) (by simp) ?_
    refine AllReadyH.cons (o := oph12) rfl (fun KK hKK => ?_) AllReadyH.nil
    have sc := AO.out.1
    have sf := AO.out.2.1
    unfold oph12
    go_simp
    refine hKK.out _ _ (cell_setCell hHeldA (Ne.symm hB.out)) (fun hHeldS => ?_)
    clear hKK KK sc sf
    refine wpAnyH_done (by kernel_rfl) ?_ _
    refine NoPanic.normal ?_
    have R1 : Hid _ := AO.out.2.2.2
    clear AO AA CK CL
    obtain ⟨V, hV⟩ : ∃ V, w'.setCell ⟨q, 4, none⟩ (.slice xa xn xc) = V := ⟨_, rfl⟩
    rw [hV] at R1 ⊢
    have k5 := R1.out.hf.bk.c 5 _ rfl
    have k6 := R1.out.hf.bk.c 6 _ rfl
    have kf := R1.out.hf.bk.f
    have r0 := R1.out.bk.c 0 _ rfl
    have r1 := R1.out.bk.c 1 _ rfl
    have hne := hB.out
    have FF : Hid _ := TL.out V _ R1.out
    clear R1 TL hV
    go_wp2_with fail
    go_region_with (first | (go_at_call 59; refine Calls.mono (SO.out _) ?_; rintro e w3 ⟨rfl, rfl⟩))
    all_goals
      go_wp2
      go_end0
      exact ⟨rfl, _, FF.out⟩
  · unfold oph7
    go_simp
    refine Calls.mono (CL.out _) ?_
    rintro e w1 ⟨rfl, hb1⟩
    refine hKK.out _ _ (cell_later hb1 hHeld) (fun hHeldC => ?_)
    clear hKK KK
    refine wpAnyH_ready (rs := [4, 8]) (by kernel_rfl) (by simp) ?_
    refine AllReadyH.cons (o := oph4) rfl (fun KK hKK => ?_) (AllReadyH.cons (o := oph8) rfl (fun KK hKK => ?_) AllReadyH.nil)
    · have lc := CK.out w1 hb1
      unfold oph4
      go_simp
      refine hKK.out _ _ hHeldC (fun hHeldL => ?_)
      clear hKK KK lc
      refine wpAnyH_ready (rs := [8]) (by kernel_rfl) (by simp) ?_
      refine AllReadyH.cons (o := oph8) rfl (fun KK hKK => ?_) AllReadyH.nil
      unfold oph8
      go_simp
      refine hKK.out _ _ (cell_alloc hHeldL) (fun hHeldB => ?_)
      clear hKK KK
      refine wpAnyH_ready (rs := [9]) (by kernel_rfl) (by simp) ?_
      refine AllReadyH.cons (o := oph9) rfl (fun KK hKK => ?_) AllReadyH.nil
      obtain ⟨xa, xn, xc, w', hr, AO⟩ := AA.out w1 hb1
      rw [if_pos (by kernel_rfl)]
      refine Go.Lib.wp_append_run _ _ _ _ _ rfl _ _ rfl rfl _ _ hr ?_
      refine hKK.out _ _ AO.out.2.2.1 (fun hHeldA => ?_)
      clear hKK KK hr
      simp only [oph9, Act.put, List.setIfInBounds_toArray, List.set_cons_zero, List.set_cons_succ]
      refine wpAnyH_take (i := 10) (oi := oph10) (v := ?_) rfl (by kernel_rfl) (by kernel_rfl) (by kernel_rfl) (fun _ _ _ h => h) (Or.inl ⟨by rfl, ?_⟩) (by assumption) ?_
      rotate_left
      · intro w' hSw
        clear hSw
        unfold oph10
        first
        | (go_simp; done)
        | (go_simp; with_reducible rfl)
      simp only [oph10, Act.put, List.setIfInBounds_toArray, List.set_cons_zero, List.set_cons_succ]
      refine wpAnyH_take (i := 11) (oi := oph11) (v := ?_) rfl (by kernel_rfl) (by kernel_rfl) (by kernel_rfl) (fun _ _ _ h => h) (Or.inl ⟨by rfl, ?_⟩) (by assumption) ?_
      rotate_left
      · intro w' hSw
        clear hSw
        unfold oph11
        first
        | (go_simp; done)
        | (go_simp; with_reducible rfl)
      simp only [oph11, Act.put, List.setIfInBounds_toArray, List.set_cons_zero, List.set_cons_succ]
      refine wpAnyH_ready (rs := [12]) (by kernel_rfl) (by simp) ?_
      refine AllReadyH.cons (o := oph12) rfl (fun KK hKK => ?_) AllReadyH.nil
      have sc := AO.out.1
      have sf := AO.out.2.1
      unfold oph12
      go_simp
      refine hKK.out _ _ (cell_setCell hHeldA (Ne.symm hB.out)) (fun hHeldS => ?_)
      clear hKK KK sc sf
      refine wpAnyH_done (by kernel_rfl) ?_ _
      refine NoPanic.normal ?_
      have R1 : Hid _ := AO.out.2.2.2
      clear AO AA CK CL
      obtain ⟨V, hV⟩ : ∃ V, w'.setCell ⟨q, 4, none⟩ (.slice xa xn xc) = V := ⟨_, rfl⟩
      rw [hV] at R1 ⊢
      have k5 := R1.out.hf.bk.c 5 _ rfl
      have k6 := R1.out.hf.bk.c 6 _ rfl
      have kf := R1.out.hf.bk.f
      have r0 := R1.out.bk.c 0 _ rfl
      have r1 := R1.out.bk.c 1 _ rfl
      have hne := hB.out
      have FF : Hid _ := TL.out V _ R1.out
      clear R1 TL hV
      go_wp2_with fail
      go_region_with (first | (go_at_call 59; refine Calls.mono (SO.out _) ?_; rintro e w3 ⟨rfl, rfl⟩))
      all_goals
        go_wp2
        go_end0
        exact ⟨rfl, _, FF.out⟩
    · unfold oph8
      go_simp
      refine hKK.out _ _ (cell_alloc hHeldC) (fun hHeldB => ?_)
      clear hKK KK
      refine wpAnyH_ready (rs := [4]) (by kernel_rfl) (by simp) ?_
      refine AllReadyH.cons (o := oph4) rfl (fun KK hKK => ?_) AllReadyH.nil
      have lc := CK.out _ (chain hb1 (nb w1 (.cells #[.string T] 9)))
      unfold oph4
      go_simp
      refine hKK.out _ _ hHeldB (fun hHeldL => ?_)
      clear hKK KK lc
      refine wpAnyH_ready (rs := [9]) (by kernel_rfl) (by simp) ?_
      refine AllReadyH.cons (o := oph9) rfl (fun KK hKK => ?_) AllReadyH.nil
      obtain ⟨xa, xn, xc, w', hr, AO⟩ := AA.out w1 hb1
      rw [if_pos (by kernel_rfl)]
      refine Go.Lib.wp_append_run _ _ _ _ _ rfl _ _ rfl rfl _ _ hr ?_
      refine hKK.out _ _ AO.out.2.2.1 (fun hHeldA => ?_)
      clear hKK KK hr
      simp only [oph9, Act.put, List.setIfInBounds_toArray, List.set_cons_zero, List.set_cons_succ]
      refine wpAnyH_take (i := 10) (oi := oph10) (v := ?_) rfl (by kernel_rfl) (by kernel_rfl) (by kernel_rfl) (fun _ _ _ h => h) (Or.inl ⟨by rfl, ?_⟩) (by assumption) ?_
      rotate_left
      · intro w' hSw
        clear hSw
        unfold oph10
        first
        | (go_simp; done)
        | (go_simp; with_reducible rfl)
      simp only [oph10, Act.put, List.setIfInBounds_toArray, List.set_cons_zero, List.set_cons_succ]
      refine wpAnyH_take (i := 11) (oi := oph11) (v := ?_) rfl (by kernel_rfl) (by kernel_rfl) (by kernel_rfl) (fun _ _ _ h => h) (Or.inl ⟨by rfl, ?_⟩) (by assumption) ?_
      rotate_left
      · intro w' hSw
        clear hSw
        unfold oph11
        first
        | (go_simp; done)
        | (go_simp; with_reducible rfl)
      simp only [oph11, Act.put, List.setIfInBounds_toArray, List.set_cons_zero, List.set_cons_succ]
      refine wpAnyH_ready (rs := [12]) (by kernel_rfl) (by simp) ?_
      refine AllReadyH.cons (o := oph12) rfl (fun KK hKK => ?_) AllReadyH.nil
      have sc := AO.out.1
      have sf := AO.out.2.1
      unfold oph12
      go_simp
      refine hKK.out _ _ (cell_setCell hHeldA (Ne.symm hB.out)) (fun hHeldS => ?_)
      clear hKK KK sc sf
      refine wpAnyH_done (by kernel_rfl) ?_ _
      refine NoPanic.normal ?_
      have R1 : Hid _ := AO.out.2.2.2
      clear AO AA CK CL
      obtain ⟨V, hV⟩ : ∃ V, w'.setCell ⟨q, 4, none⟩ (.slice xa xn xc) = V := ⟨_, rfl⟩
      rw [hV] at R1 ⊢
      have k5 := R1.out.hf.bk.c 5 _ rfl
      have k6 := R1.out.hf.bk.c 6 _ rfl
      have kf := R1.out.hf.bk.f
      have r0 := R1.out.bk.c 0 _ rfl
      have r1 := R1.out.bk.c 1 _ rfl
      have hne := hB.out
      have FF : Hid _ := TL.out V _ R1.out
      clear R1 TL hV
      go_wp2_with fail
      go_region_with (first | (go_at_call 59; refine Calls.mono (SO.out _) ?_; rintro e w3 ⟨rfl, rfl⟩))
      all_goals
        go_wp2
        go_end0
        exact ⟨rfl, _, FF.out⟩
end Go.Proofs.YtdcimnmebgkmjaaGreatDoor
