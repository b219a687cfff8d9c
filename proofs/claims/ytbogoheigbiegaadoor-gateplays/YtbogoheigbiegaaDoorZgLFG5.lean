/- Parts: GtRe, GtXa, GtCp, GtX, FGa. -/
import Derived.Test.YtbogoheigbiegaaDoorZgG33
import Derived.Test.YtbogoheigbiegaaDoorZgG28
import Derived.Test.YtbogoheigbiegaaDoorZgG34
import Derived.Test.YtbogoheigbiegaaDoorZgG35
namespace Go.Proofs.Gt
open Go.Proofs.Ml Go.Proofs.Hs
theorem ad_some {L : List Si} {m : Ml} {i : Nat} (hm : mayB m = true) (hat : at' L m.u = i) (hi : i < L.length) :
    adE L m = (if decide (m.g = tgM L[i].k m) = true then (if m.q ≤ L[i].q then 170 else 0) else 200)
      ∧ adS L m = (if decide (m.g = tgM L[i].k m) = true then (if m.q ≤ L[i].q then L else L.set i ⟨L[i].u, L[i].k, m.q⟩) else L) := by
  subst hat
  by_cases d1 : m.g = tgM (L[at' L m.u]).k m
  · by_cases d2 : m.q ≤ (L[at' L m.u]).q
    · obtain ⟨s1, s2⟩ := ad_seen hm hi d1 d2
      rw [s1, s2, if_pos (decide_eq_true d1), if_pos (decide_eq_true d1), if_pos d2, if_pos d2]; exact ⟨rfl, rfl⟩
    · obtain ⟨s1, s2⟩ := ad_ok hm hi d1 d2
      rw [s1, s2, if_pos (decide_eq_true d1), if_pos (decide_eq_true d1), if_neg d2, if_neg d2]; exact ⟨rfl, rfl⟩
  · obtain ⟨s1, s2⟩ := ad_other hm hi d1
    rw [s1, s2, decide_eq_false d1]; exact ⟨rfl, rfl⟩
end Go.Proofs.Gt
namespace Go.Proofs.YtbogoheigbiegaaDoor.Gat
open Go.RowKit Go.Proofs.Fd Go.Proofs.Ml Go.Proofs.Hs Go.Proofs.Gt
open Go.Proofs.YtbogoheigbiegaaDoor.Mai (mv MlAt Lists MlV SlAt enS chkE z32)
set_option maxRecDepth 20000
theorem RAt.seq {w : World} {d h : Nat} {a : Option Addr} {n c : Nat} {L : List Si} (H : RAt w d h a n c L) (i : Nat) (hi : i < L.length) (q : Int) : RAt (w.setCell ⟨h, i, none⟩ (.int .i64 q)) d h a n c (L.set i ⟨L[i].u, L[i].k, q⟩) := by
  have e1 : (L.set i ⟨L[i].u, L[i].k, q⟩).map (fun s : Si => (⟨s.u, s.k⟩ : Ac)) = L.map (fun s : Si => (⟨s.u, s.k⟩ : Ac)) := by
    apply List.ext_getElem
    · simp
    · intro j h1 h2
      simp only [List.getElem_map, List.getElem_set]
      split
      · rename_i e; subst e; rfl
      · rfl
  refine ⟨cell_setCell H.c0 (fun e => H.dh e.symm), cell_setCell H.c1 (fun e => H.dh e.symm), by rw [List.length_set]; exact H.l, ?_, fun j hj => ?_, H.dh, H.ah, H.le, fun j hj => ?_⟩
  · rw [e1]
    have h0 : 0 < n := by have := H.l; omega
    refine H.ac.apart (F := fun x => x = h) (Bf.setCell (F := fun x => x = h) (Bf.refl _ _) (p := ⟨h, i, none⟩) rfl _) (fun x hx e => H.ah x hx h0 e)
  · have hj' : j < L.length := by simpa using hj
    obtain ⟨c0, f0⟩ := H.q j (by simpa using hj')
    refine ⟨?_, by simp [go_sem, f0]⟩
    simp only [List.getElem_map, List.getElem_set] at c0 ⊢
    by_cases e : i = j
    · subst e
      rw [if_pos rfl]
      simp [go_sem, c0]
    · rw [if_neg e, World.cell?_setCell_other _ _ _ _ (fun z => e (congrArg Addr.off z)), c0]
  · rw [List.getElem_set]
    split
    · exact H.k i hi
    · exact H.k j (by simpa using hj)
def opra0 : Oper := { dst := some 13, op := Go.Op.move (Go.Operand.tmp 5), type := 3, pos := "ref.go:97", after := #[], guard := none }
def opra1 : Oper := { dst := some 14, op := Go.Op.binOp Go.BinOp.lss 3 (Go.Operand.tmp 13) (Go.Operand.const (Go.Value.int Go.IntKind.i64 0)) 3, type := 4, pos := "ref.go:97", after := #[{ on := 0, ground := Go.Ground.data }], guard := none }
def opra2 : Oper := { dst := some 15, op := Go.Op.move (Go.Operand.tmp 14), type := 4, pos := "ref.go:97", after := #[{ on := 1, ground := Go.Ground.data }], guard := none }
def opra3 : Oper := { dst := some 16, op := Go.Op.move (Go.Operand.tmp 0), type := 30, pos := "ref.go:97", after := #[{ on := 2, ground := Go.Ground.guard }], guard := some (2, false) }
def opra4 : Oper := { dst := some 17, op := Go.Op.nilCheck (Go.Operand.tmp 16), type := 0, pos := "ref.go:97", after := #[{ on := 3, ground := Go.Ground.data }, { on := 2, ground := Go.Ground.guard }], guard := some (2, false) }
def opra5 : Oper := { dst := some 18, op := Go.Op.fieldAddr 51 (Go.Operand.tmp 17) 0, type := 0, pos := "ref.go:97", after := #[{ on := 4, ground := Go.Ground.data }, { on := 2, ground := Go.Ground.guard }], guard := some (2, false) }
def opra6 : Oper := { dst := some 19, op := Go.Op.load 22 (Go.Operand.tmp 18), type := 22, pos := "ref.go:97", after := #[{ on := 5, ground := Go.Ground.data }, { on := 2, ground := Go.Ground.guard }], guard := some (2, false) }
def opra7 : Oper := { dst := some 20, op := Go.Op.move (Go.Operand.tmp 5), type := 3, pos := "ref.go:97", after := #[{ on := 2, ground := Go.Ground.guard }], guard := some (2, false) }
def opra8 : Oper := { dst := some 21, op := Go.Op.indexAddr 22 (Go.Operand.tmp 19) (Go.Operand.tmp 20), type := 0, pos := "ref.go:97", after := #[{ on := 6, ground := Go.Ground.data }, { on := 7, ground := Go.Ground.data }, { on := 2, ground := Go.Ground.guard }], guard := some (2, false) }
def opra9 : Oper := { dst := some 22, op := Go.Op.fieldAddr 34 (Go.Operand.tmp 21) 1, type := 0, pos := "ref.go:97", after := #[{ on := 8, ground := Go.Ground.data }, { on := 2, ground := Go.Ground.guard }], guard := some (2, false) }
def opra10 : Oper := { dst := some 23, op := Go.Op.load 9 (Go.Operand.tmp 22), type := 9, pos := "ref.go:97", after := #[{ on := 9, ground := Go.Ground.data }, { on := 2, ground := Go.Ground.guard }], guard := some (2, false) }
def opra11 : Oper := { dst := some 24, op := Go.Op.load 38 (Go.Operand.tmp 3), type := 38, pos := "ref.go:97", after := #[{ on := 2, ground := Go.Ground.guard }], guard := some (2, false) }
def opra12 : Oper := { dst := some 25, op := Go.Op.call { callee := Go.Callee.value (Go.Operand.func 30), args := #[Go.Operand.tmp 23, Go.Operand.tmp 24], argTypes := #[9, 38] }, type := 9, pos := "ref.go:97", after := #[{ on := 10, ground := Go.Ground.data }, { on := 11, ground := Go.Ground.data }, { on := 2, ground := Go.Ground.chain }, { on := 2, ground := Go.Ground.guard }], guard := some (2, false) }
def opra13 : Oper := { dst := some 26, op := Go.Op.fieldAddr 38 (Go.Operand.tmp 3) 4, type := 0, pos := "ref.go:97", after := #[{ on := 2, ground := Go.Ground.guard }], guard := some (2, false) }
def opra14 : Oper := { dst := some 27, op := Go.Op.load 9 (Go.Operand.tmp 26), type := 9, pos := "ref.go:97", after := #[{ on := 13, ground := Go.Ground.data }, { on := 2, ground := Go.Ground.guard }], guard := some (2, false) }
def opra15 : Oper := { dst := some 28, op := Go.Op.binOp Go.BinOp.neq 9 (Go.Operand.tmp 25) (Go.Operand.tmp 27) 9, type := 4, pos := "ref.go:97", after := #[{ on := 12, ground := Go.Ground.data }, { on := 14, ground := Go.Ground.data }, { on := 2, ground := Go.Ground.guard }], guard := some (2, false) }
def opra16 : Oper := { dst := some 29, op := Go.Op.pick (Go.Operand.tmp 15) (Go.Operand.const (Go.Value.bool true)) (Go.Operand.tmp 28), type := 4, pos := "ref.go:97", after := #[{ on := 2, ground := Go.Ground.data }, { on := 15, ground := Go.Ground.data }], guard := none }
def oprb0 : Oper := { dst := some 30, op := Go.Op.fieldAddr 38 (Go.Operand.tmp 3) 2, type := 0, pos := "ref.go:100", after := #[], guard := none }
def oprb1 : Oper := { dst := some 31, op := Go.Op.load 3 (Go.Operand.tmp 30), type := 3, pos := "ref.go:100", after := #[{ on := 0, ground := Go.Ground.data }], guard := none }
def oprb2 : Oper := { dst := some 32, op := Go.Op.move (Go.Operand.tmp 0), type := 30, pos := "ref.go:100", after := #[], guard := none }
def oprb3 : Oper := { dst := some 33, op := Go.Op.nilCheck (Go.Operand.tmp 32), type := 0, pos := "ref.go:100", after := #[{ on := 2, ground := Go.Ground.data }], guard := none }
def oprb4 : Oper := { dst := some 34, op := Go.Op.fieldAddr 51 (Go.Operand.tmp 33) 1, type := 0, pos := "ref.go:100", after := #[{ on := 3, ground := Go.Ground.data }], guard := none }
def oprb5 : Oper := { dst := some 35, op := Go.Op.load 49 (Go.Operand.tmp 34), type := 49, pos := "ref.go:100", after := #[{ on := 4, ground := Go.Ground.data }], guard := none }
def oprb6 : Oper := { dst := some 36, op := Go.Op.move (Go.Operand.tmp 5), type := 3, pos := "ref.go:100", after := #[], guard := none }
def oprb7 : Oper := { dst := some 37, op := Go.Op.indexAddr 49 (Go.Operand.tmp 35) (Go.Operand.tmp 36), type := 0, pos := "ref.go:100", after := #[{ on := 5, ground := Go.Ground.data }, { on := 6, ground := Go.Ground.data }], guard := none }
def oprb8 : Oper := { dst := some 38, op := Go.Op.load 3 (Go.Operand.tmp 37), type := 3, pos := "ref.go:100", after := #[{ on := 7, ground := Go.Ground.data }], guard := none }
def oprb9 : Oper := { dst := some 39, op := Go.Op.binOp Go.BinOp.leq 3 (Go.Operand.tmp 31) (Go.Operand.tmp 38) 3, type := 4, pos := "ref.go:100", after := #[{ on := 1, ground := Go.Ground.data }, { on := 8, ground := Go.Ground.data }], guard := none }
def oprc0 : Oper := { dst := some 40, op := Go.Op.move (Go.Operand.tmp 0), type := 30, pos := "ref.go:103", after := #[], guard := none }
def oprc1 : Oper := { dst := some 41, op := Go.Op.nilCheck (Go.Operand.tmp 40), type := 0, pos := "ref.go:103", after := #[{ on := 0, ground := Go.Ground.data }], guard := none }
def oprc2 : Oper := { dst := some 42, op := Go.Op.fieldAddr 51 (Go.Operand.tmp 41) 1, type := 0, pos := "ref.go:103", after := #[{ on := 1, ground := Go.Ground.data }], guard := none }
def oprc3 : Oper := { dst := some 43, op := Go.Op.load 49 (Go.Operand.tmp 42), type := 49, pos := "ref.go:103", after := #[{ on := 2, ground := Go.Ground.data }], guard := none }
def oprc4 : Oper := { dst := some 44, op := Go.Op.move (Go.Operand.tmp 5), type := 3, pos := "ref.go:103", after := #[], guard := none }
def oprc5 : Oper := { dst := some 45, op := Go.Op.fieldAddr 38 (Go.Operand.tmp 3) 2, type := 0, pos := "ref.go:103", after := #[], guard := none }
def oprc6 : Oper := { dst := some 46, op := Go.Op.load 3 (Go.Operand.tmp 45), type := 3, pos := "ref.go:103", after := #[{ on := 5, ground := Go.Ground.data }], guard := none }
def oprc7 : Oper := { dst := some 47, op := Go.Op.indexAddr 49 (Go.Operand.tmp 43) (Go.Operand.tmp 44), type := 0, pos := "ref.go:103", after := #[{ on := 3, ground := Go.Ground.data }, { on := 4, ground := Go.Ground.data }, { on := 0, ground := Go.Ground.phase }, { on := 1, ground := Go.Ground.phase }, { on := 2, ground := Go.Ground.phase }, { on := 3, ground := Go.Ground.phase }, { on := 4, ground := Go.Ground.phase }, { on := 5, ground := Go.Ground.phase }, { on := 6, ground := Go.Ground.phase }], guard := none }
def oprc8 : Oper := { dst := none, op := Go.Op.store 3 (Go.Operand.tmp 47) (Go.Operand.tmp 46), type := 0, pos := "ref.go:103", after := #[{ on := 7, ground := Go.Ground.data }, { on := 6, ground := Go.Ground.data }, { on := 0, ground := Go.Ground.phase }, { on := 1, ground := Go.Ground.phase }, { on := 2, ground := Go.Ground.phase }, { on := 3, ground := Go.Ground.phase }, { on := 4, ground := Go.Ground.phase }, { on := 5, ground := Go.Ground.phase }, { on := 6, ground := Go.Ground.phase }], guard := none }
set_option maxHeartbeats 4000000 in
theorem rAdmit_any (d h : Nat) (la : Option Addr) (ln lc : Nat) (L : List Si) (k u q : Int) (t tg : ByteArray) (a : Option Addr) (n c : Nat) (a2 : Option Addr) (n2 c2 : Nat) (ss : List Sl) (is : List ByteArray) (w : World) (H : Hid (RAt w d h la ln lc L)) (LL : Hid (Lists w a n c a2 n2 c2 ss is)) :
    Calls Tryd.prog 15 #[.pointer (some ⟨d, 0, none⟩), mv k u q t tg a n c a2 n2 c2] w fun e w' => e = .returned (.int .i64 (adE L ⟨k, u, q, t, tg, ss, is⟩)) ∧ RAt w' d h la ln lc (adS L ⟨k, u, q, t, tg, ss, is⟩) ∧ Bf (fun x => x = h) w w' := by
  obtain ⟨A, hA⟩ : ∃ A : Obj, .cells #[.int .i64 k, .int .i64 u, .int .i64 q, .string t, .string tg, .slice a n c, .slice a2 n2 c2] 38 = A := ⟨_, rfl⟩
  have BA : Hid (Below w.heap.size w (w.alloc A)) := (Below.refl _ _).alloc (Nat.le_refl _) _
  have SA : Hid (∀ w', Below (w.alloc A).heap.size (w.alloc A) w' → Sev w' w.heap.size k u q t tg a n c a2 n2 c2) := fun w' hb => by
    have hm := MlAt.later (hA ▸ MlAt.new w 38 k u q t tg a n c a2 n2 c2 : MlAt (w.alloc A) w.heap.size k u q t tg a n c a2 n2 c2) hb
    exact hm.2
  have RM : Hid (∀ w2, Below w.heap.size w w2 → Calls Tryd.prog 28 #[mv k u q t tg a n c a2 n2 c2] w2 fun e w' => e = .returned (.bool (mayB ⟨k, u, q, t, tg, ss, is⟩)) ∧ Below w2.heap.size w2 w') := fun w2 hb => by
    have r := rmay_any k u q t tg a n c a2 n2 c2 ss is w2 (LL.out.later hb)
    rw [rmB_may] at r
    exact r
  cases hm : mayB ⟨k, u, q, t, tg, ss, is⟩ with
  | false =>
    obtain ⟨s1, s2⟩ := ad_no (l := L) hm
    rw [s1, s2]
    rw [hm] at RM
    subst hA
    clear hm s1 s2 LL SA
    unfold mv at RM ⊢
    go_enter Tryd.func15, Tryd.ntmps15
    go_wp2_with fail
    refine Calls.mono (RM.out _ BA.out) ?_
    rintro e w1 ⟨rfl, hb⟩
    have B1 : Hid (Below w.heap.size w w1) := chain BA.out hb
    clear hb RM BA
    go_wp2
    go_ret
    exact ⟨rfl, H.out.later B1.out, Bf.of B1.out⟩
  | true =>
  rw [hm] at RM
  have ho : okB (bare ⟨k, u, q, t, tg, ss, is⟩) = true := by
    unfold mayB at hm
    rw [Bool.and_eq_true] at hm
    exact hm.2
  have RA : Hid (∀ w2, Below w.heap.size w w2 → Calls Tryd.prog 18 #[.pointer (some ⟨d, 0, none⟩), .int .i64 u] w2 fun e w' => e = .returned (.int .i64 (atI L u)) ∧ Below w2.heap.size w2 w') := fun w2 hb => rAt_any d h la ln lc L u w2 (H.out.later hb)
  by_cases hi : at' L u < L.length
  · obtain ⟨i, hat⟩ : ∃ i, at' L u = i := ⟨_, rfl⟩
    rw [show atI L u = (at' L u : Int) from if_pos hi] at RA
    rw [hat] at hi RA
    have EE := ad_some (L := L) (m := ⟨k, u, q, t, tg, ss, is⟩) (i := i) hm hat hi
    rw [EE.1, EE.2]
    simp only
    have RT : Hid (∀ w2, Below w.heap.size w w2 → Calls Tryd.prog 30 #[.string L[i].k, mv k u q t tg a n c a2 n2 c2] w2 fun e w' => e = .returned (.string (tgM L[i].k ⟨k, u, q, t, tg, ss, is⟩)) ∧ Below w2.heap.size w2 w') := fun w2 hb => rtag_any L[i].k k u q t tg a n c a2 n2 c2 ss is (H.out.k i hi) ho w2 (LL.out.later hb)
    have hln : i < ln := by have := H.out.l; omega
    have g1 : (i : Int) < (ln : Int) := by omega
    have g2 : ¬ (i : Int) < 0 := by omega
    obtain ⟨b, o, rfl, -, -⟩ := H.out.ac i (by rw [List.length_map]; exact hi)
    have CH : Hid (∀ w', Below w.heap.size w w' → w'.cell? ⟨d, 0, none⟩ = some (.slice (some ⟨b, o, none⟩) ln lc) ∧ w'.cell? ⟨b, o + i * 2 + 1, none⟩ = some (.string L[i].k) ∧ w'.cell? ⟨d, 1, none⟩ = some (.slice (some ⟨h, 0, none⟩) ln ln) ∧ w'.cell? ⟨h, i, none⟩ = some (.int .i64 L[i].q) ∧ w'.frozen? ⟨h, i, none⟩ = false) := fun w' hb => by
      have Hl := H.out.later hb
      obtain ⟨b', o', e, -, c1⟩ := Hl.ac i (by rw [List.length_map]; exact hi)
      have e' := Option.some.inj e
      obtain ⟨rfl, rfl⟩ : b = b' ∧ o = o' := ⟨congrArg (fun (x : Addr) => x.block) e', congrArg (fun (x : Addr) => x.off) e'⟩
      rw [List.getElem_map] at c1
      obtain ⟨c2', f2⟩ := Hl.q i (by rw [List.length_map]; exact hi)
      rw [List.getElem_map] at c2'
      exact ⟨Hl.c0, c1, Hl.c1, c2', f2⟩
    have GO : Hid (∀ w2, Below w.heap.size w w2 → (¬ q ≤ L[i].q → RAt (w2.setCell ⟨h, i, none⟩ (.int .i64 q)) d h (some ⟨b, o, none⟩) ln lc (L.set i ⟨L[i].u, L[i].k, q⟩) ∧ Bf (fun x => x = h) w (w2.setCell ⟨h, i, none⟩ (.int .i64 q)))) := fun w2 hb _ => ⟨(H.out.later hb).seq i hi q, Bf.setCell (F := fun x => x = h) (Bf.of hb) (p := ⟨h, i, none⟩) rfl _⟩
    have LD : Hid (d ≠ h) := H.out.dh
    have NW : Hid (h < w.heap.size) := World.block_lt_of_cell? _ _ (H.out.q i (by rw [List.length_map]; exact hi)).1
    obtain ⟨L1, hL1⟩ : ∃ L1 : List Si, L.set i ⟨L[i].u, L[i].k, q⟩ = L1 := ⟨_, rfl⟩
    rw [hL1] at GO ⊢
    obtain ⟨R, hR⟩ : ∃ R, tgM L[i].k ⟨k, u, q, t, tg, ss, is⟩ = R := ⟨_, rfl⟩
    rw [hR] at RT ⊢
    generalize L[i].k = key at RT CH
    generalize L[i].q = lq at CH GO ⊢
    obtain ⟨dd, hdd⟩ : ∃ dd, decide (tg = R) = dd := ⟨_, rfl⟩
    have YY : (R.toList == tg.toList) = dd := by
      rw [same_dec, ← hdd]
      by_cases z : tg = R
      · rw [decide_eq_true z, decide_eq_true z.symm]
      · rw [decide_eq_false z, decide_eq_false (fun e => z e.symm)]
    rw [hdd]
    clear hR hdd hL1 EE hat hm ho LL
    subst hA
    unfold mv at RM RT ⊢
    go_enter Tryd.func15, Tryd.ntmps15
    go_wp2_with fail
    refine Calls.mono (RM.out _ BA.out) ?_
    rintro e w1 ⟨rfl, hb⟩
    have B1 : Hid (Below w.heap.size w w1) := chain BA.out hb
    have C1 : Hid (Below (w.alloc (.cells #[.int .i64 k, .int .i64 u, .int .i64 q, .string t, .string tg, .slice a n c, .slice a2 n2 c2] 38)).heap.size (w.alloc (.cells #[.int .i64 k, .int .i64 u, .int .i64 q, .string t, .string tg, .slice a n c, .slice a2 n2 c2] 38)) w1) := hb
    obtain ⟨l0, l1, l2, l3, l4, l5, l6⟩ := SA.out w1 hb
    clear hb RM
    go_wp2_with fail
    refine Calls.mono (RA.out _ B1.out) ?_
    rintro e w2 ⟨rfl, hb⟩
    have B2 : Hid (Below w.heap.size w w2) := chain B1.out hb
    have C2 : Hid (Below (w.alloc (.cells #[.int .i64 k, .int .i64 u, .int .i64 q, .string t, .string tg, .slice a n c, .slice a2 n2 c2] 38)).heap.size (w.alloc (.cells #[.int .i64 k, .int .i64 u, .int .i64 q, .string t, .string tg, .slice a n c, .slice a2 n2 c2] 38)) w2) := chain C1.out hb
    clear hb RA B1 C1 l0 l1 l2 l3 l4 l5 l6
    go_wp2_with fail
    obtain ⟨Z, hZ⟩ : ∃ Z, w2.drew = Z := ⟨_, rfl⟩
    have BZ : Hid (Below w.heap.size w Z) := by rw [← hZ]; exact B2.out.drew
    have CZ : Hid (Below (w.alloc (.cells #[.int .i64 k, .int .i64 u, .int .i64 q, .string t, .string tg, .slice a n c, .slice a2 n2 c2] 38)).heap.size (w.alloc (.cells #[.int .i64 k, .int .i64 u, .int .i64 q, .string t, .string tg, .slice a n c, .slice a2 n2 c2] 38)) Z) := by rw [← hZ]; exact C2.out.drew
    clear B2 C2
    have S4 : ∀ w', Below Z.heap.size Z w' → ((w'.cell? ⟨d, 0, none⟩ = some (.slice (some ⟨b, o, none⟩) ln lc) ∧ w'.cell? ⟨b, o + i * 2 + 1, none⟩ = some (.string key)) ∧ w'.cell? ⟨w.heap.size, 0, none⟩ = some (.int .i64 k) ∧ w'.cell? ⟨w.heap.size, 1, none⟩ = some (.int .i64 u) ∧ w'.cell? ⟨w.heap.size, 2, none⟩ = some (.int .i64 q) ∧ w'.cell? ⟨w.heap.size, 3, none⟩ = some (.string t) ∧ w'.cell? ⟨w.heap.size, 4, none⟩ = some (.string tg) ∧ w'.cell? ⟨w.heap.size, 5, none⟩ = some (.slice a n c) ∧ w'.cell? ⟨w.heap.size, 6, none⟩ = some (.slice a2 n2 c2)) := fun w' hb => ⟨⟨(CH.out w' (chain BZ.out hb)).1, (CH.out w' (chain BZ.out hb)).2.1⟩, SA.out w' (chain CZ.out hb)⟩
    have HS4 : Hid _ := S4
    clear S4
    refine wp_region_noPanic ?_
    refine wp_region_held_drew (S := fun w' => (w'.cell? ⟨d, 0, none⟩ = some (.slice (some ⟨b, o, none⟩) ln lc) ∧ w'.cell? ⟨b, o + i * 2 + 1, none⟩ = some (.string key)) ∧ w'.cell? ⟨w.heap.size, 0, none⟩ = some (.int .i64 k) ∧ w'.cell? ⟨w.heap.size, 1, none⟩ = some (.int .i64 u) ∧ w'.cell? ⟨w.heap.size, 2, none⟩ = some (.int .i64 q) ∧ w'.cell? ⟨w.heap.size, 3, none⟩ = some (.string t) ∧ w'.cell? ⟨w.heap.size, 4, none⟩ = some (.string tg) ∧ w'.cell? ⟨w.heap.size, 5, none⟩ = some (.slice a n c) ∧ w'.cell? ⟨w.heap.size, 6, none⟩ = some (.slice a2 n2 c2)) (by kernel_rfl) (by rw [hZ]; exact HS4.out Z (Below.refl _ _)) (fun hHeld => ?_)
    rw [hZ] at hHeld
    rw [hZ]
    clear hZ
    refine wpAnyH_take (i := 0) (oi := opra0) (v := ?_) rfl (by kernel_rfl) (by kernel_rfl) (by kernel_rfl) (fun _ _ _ h => h) (Or.inl ⟨by rfl, ?_⟩) (by assumption) ?_
    rotate_left
    · intro w' hSw
      clear hSw
      unfold opra0
      first
      | (go_simp; done)
      | (go_simp; with_reducible rfl)
    simp only [opra0, Act.put, List.setIfInBounds_toArray, List.set_cons_zero, List.set_cons_succ]
    refine wpAnyH_take (i := 1) (oi := opra1) (v := (.bool false)) rfl (by kernel_rfl) (by kernel_rfl) (by kernel_rfl) (fun _ _ _ h => h) (Or.inl ⟨by rfl, ?_⟩) (by assumption) ?_
    · intro w' hSw
      have hEd : decide ((i : Int) < 0) = false := decide_eq_false (by omega); clear hSw
      unfold opra1
      first
      | (go_simp; done)
      | (go_simp; with_reducible rfl)
    simp only [opra1, Act.put, List.setIfInBounds_toArray, List.set_cons_zero, List.set_cons_succ]
    refine wpAnyH_take (i := 2) (oi := opra2) (v := ?_) rfl (by kernel_rfl) (by kernel_rfl) (by kernel_rfl) (fun _ _ _ h => h) (Or.inl ⟨by rfl, ?_⟩) (by assumption) ?_
    rotate_left
    · intro w' hSw
      clear hSw
      unfold opra2
      first
      | (go_simp; done)
      | (go_simp; with_reducible rfl)
    simp only [opra2, Act.put, List.setIfInBounds_toArray, List.set_cons_zero, List.set_cons_succ]
    refine wpAnyH_take (i := 3) (oi := opra3) (v := ?_) rfl (by kernel_rfl) (by kernel_rfl) (by kernel_rfl) (fun _ _ _ h => h) (Or.inl ⟨by rfl, ?_⟩) (by assumption) ?_
    rotate_left
    · intro w' hSw
      clear hSw
      unfold opra3
      first
      | (go_simp; done)
      | (go_simp; with_reducible rfl)
    simp only [opra3, Act.put, List.setIfInBounds_toArray, List.set_cons_zero, List.set_cons_succ]
    refine wpAnyH_take (i := 4) (oi := opra4) (v := ?_) rfl (by kernel_rfl) (by kernel_rfl) (by kernel_rfl) (fun _ _ _ h => h) (Or.inl ⟨by rfl, ?_⟩) (by assumption) ?_
    rotate_left
    · intro w' hSw
      clear hSw
      unfold opra4
      first
      | (go_simp; done)
      | (go_simp; with_reducible rfl)
    simp only [opra4, Act.put, List.setIfInBounds_toArray, List.set_cons_zero, List.set_cons_succ]
    refine wpAnyH_take (i := 5) (oi := opra5) (v := ?_) rfl (by kernel_rfl) (by kernel_rfl) (by kernel_rfl) (fun _ _ _ h => h) (Or.inl ⟨by rfl, ?_⟩) (by assumption) ?_
    rotate_left
    · intro w' hSw
      clear hSw
      unfold opra5
      first
      | (go_simp; done)
      | (go_simp; with_reducible rfl)
    simp only [opra5, Act.put, List.setIfInBounds_toArray, List.set_cons_zero, List.set_cons_succ]
    refine wpAnyH_take (i := 6) (oi := opra6) (v := ?_) rfl (by kernel_rfl) (by kernel_rfl) (by kernel_rfl) (fun _ _ _ h => h) (Or.inl ⟨by rfl, ?_⟩) (by assumption) ?_
    rotate_left
    · intro w' hSw
      obtain ⟨⟨m0, m1⟩, l0, l1, l2, l3, l4, l5, l6⟩ := hSw
      unfold opra6
      first
      | (go_simp; done)
      | (go_simp; with_reducible rfl)
    simp only [opra6, Act.put, List.setIfInBounds_toArray, List.set_cons_zero, List.set_cons_succ]
    refine wpAnyH_take (i := 7) (oi := opra7) (v := ?_) rfl (by kernel_rfl) (by kernel_rfl) (by kernel_rfl) (fun _ _ _ h => h) (Or.inl ⟨by rfl, ?_⟩) (by assumption) ?_
    rotate_left
    · intro w' hSw
      clear hSw
      unfold opra7
      first
      | (go_simp; done)
      | (go_simp; with_reducible rfl)
    simp only [opra7, Act.put, List.setIfInBounds_toArray, List.set_cons_zero, List.set_cons_succ]
    refine wpAnyH_take (i := 8) (oi := opra8) (v := ?_) rfl (by kernel_rfl) (by kernel_rfl) (by kernel_rfl) (fun _ _ _ h => h) (Or.inl ⟨by rfl, ?_⟩) (by assumption) ?_
    rotate_left
    · intro w' hSw
      clear hSw
      unfold opra8
      first
      | (go_simp; done)
      | (go_simp; with_reducible rfl)
    simp only [opra8, Act.put, List.setIfInBounds_toArray, List.set_cons_zero, List.set_cons_succ]
    refine wpAnyH_take (i := 9) (oi := opra9) (v := ?_) rfl (by kernel_rfl) (by kernel_rfl) (by kernel_rfl) (fun _ _ _ h => h) (Or.inl ⟨by rfl, ?_⟩) (by assumption) ?_
    rotate_left
    · intro w' hSw
      clear hSw
      unfold opra9
      first
      | (go_simp; done)
      | (go_simp; with_reducible rfl)
    simp only [opra9, Act.put, List.setIfInBounds_toArray, List.set_cons_zero, List.set_cons_succ]
    refine wpAnyH_take (i := 10) (oi := opra10) (v := ?_) rfl (by kernel_rfl) (by kernel_rfl) (by kernel_rfl) (fun _ _ _ h => h) (Or.inl ⟨by rfl, ?_⟩) (by assumption) ?_
    rotate_left
    · intro w' hSw
      obtain ⟨⟨m0, m1⟩, l0, l1, l2, l3, l4, l5, l6⟩ := hSw
      unfold opra10
      first
      | (go_simp; done)
      | (go_simp; with_reducible rfl)
    simp only [opra10, Act.put, List.setIfInBounds_toArray, List.set_cons_zero, List.set_cons_succ]
    refine wpAnyH_take (i := 11) (oi := opra11) (v := ?_) rfl (by kernel_rfl) (by kernel_rfl) (by kernel_rfl) (fun _ _ _ h => h) (Or.inl ⟨by rfl, ?_⟩) (by assumption) ?_
    rotate_left
    · intro w' hSw
      obtain ⟨⟨m0, m1⟩, l0, l1, l2, l3, l4, l5, l6⟩ := hSw
      unfold opra11
      first
      | (go_simp; done)
      | (go_simp; with_reducible rfl)
    simp only [opra11, Act.put, List.setIfInBounds_toArray, List.set_cons_zero, List.set_cons_succ]
    refine wpAnyH_take (i := 13) (oi := opra13) (v := ?_) rfl (by kernel_rfl) (by kernel_rfl) (by kernel_rfl) (fun _ _ _ h => h) (Or.inl ⟨by rfl, ?_⟩) (by assumption) ?_
    rotate_left
    · intro w' hSw
      clear hSw
      unfold opra13
      first
      | (go_simp; done)
      | (go_simp; with_reducible rfl)
    simp only [opra13, Act.put, List.setIfInBounds_toArray, List.set_cons_zero, List.set_cons_succ]
    refine wpAnyH_take (i := 14) (oi := opra14) (v := ?_) rfl (by kernel_rfl) (by kernel_rfl) (by kernel_rfl) (fun _ _ _ h => h) (Or.inl ⟨by rfl, ?_⟩) (by assumption) ?_
    rotate_left
    · intro w' hSw
      obtain ⟨⟨m0, m1⟩, l0, l1, l2, l3, l4, l5, l6⟩ := hSw
      unfold opra14
      first
      | (go_simp; done)
      | (go_simp; with_reducible rfl)
    simp only [opra14, Act.put, List.setIfInBounds_toArray, List.set_cons_zero, List.set_cons_succ]
    refine wpAnyH_ready (rs := [12]) (by kernel_rfl) (by simp) ?_
    refine AllReadyH.cons (o := opra12) rfl (fun KK hKK => ?_) AllReadyH.nil
    unfold opra12
    go_simp
    refine Calls.mono (RT.out _ BZ.out) ?_
    rintro e w3 ⟨rfl, hb⟩
    have B3 : Hid (Below w.heap.size w w3) := chain BZ.out hb
    have C3 : Hid (Below (w.alloc (.cells #[.int .i64 k, .int .i64 u, .int .i64 q, .string t, .string tg, .slice a n c, .slice a2 n2 c2] 38)).heap.size (w.alloc (.cells #[.int .i64 k, .int .i64 u, .int .i64 q, .string t, .string tg, .slice a n c, .slice a2 n2 c2] 38)) w3) := chain CZ.out hb
    refine hKK.out _ _ (HS4.out w3 hb) (fun hH12 => ?_)
    clear hKK KK hb
    try simp only [opra12, Act.put, List.setIfInBounds_toArray, List.set_cons_zero, List.set_cons_succ]
    refine wpAnyH_take (i := 15) (oi := opra15) (v := ?_) rfl (by kernel_rfl) (by kernel_rfl) (by kernel_rfl) (fun _ _ _ h => h) (Or.inl ⟨by rfl, ?_⟩) (by assumption) ?_
    rotate_left
    · intro w' hSw
      clear hSw
      unfold opra15
      first
      | (go_simp; done)
      | (go_simp; with_reducible rfl)
    simp only [opra15, Act.put, List.setIfInBounds_toArray, List.set_cons_zero, List.set_cons_succ]
    refine wpAnyH_take (i := 16) (oi := opra16) (v := ?_) rfl (by kernel_rfl) (by kernel_rfl) (by kernel_rfl) (fun _ _ _ h => h) (Or.inl ⟨by rfl, ?_⟩) (by assumption) ?_
    rotate_left
    · intro w' hSw
      clear hSw
      unfold opra16
      first
      | (go_simp; done)
      | (go_simp; with_reducible rfl)
    simp only [opra16, Act.put, List.setIfInBounds_toArray, List.set_cons_zero, List.set_cons_succ]
    refine wpAnyH_done (by kernel_rfl) ?_ _
    refine NoPanic.normal ?_
    clear HS4 RT BZ CZ BA
    cases dd with
    | false =>
      go_wp2
      go_ret
      exact ⟨rfl, H.out.later B3.out, Bf.of B3.out⟩
    | true =>
      go_wp2_with fail
      obtain ⟨Y, hY⟩ : ∃ Y, w3.drew = Y := ⟨_, rfl⟩
      have BY : Hid (Below w.heap.size w Y) := by rw [← hY]; exact B3.out.drew
      have CY : Hid (Below (w.alloc (.cells #[.int .i64 k, .int .i64 u, .int .i64 q, .string t, .string tg, .slice a n c, .slice a2 n2 c2] 38)).heap.size (w.alloc (.cells #[.int .i64 k, .int .i64 u, .int .i64 q, .string t, .string tg, .slice a n c, .slice a2 n2 c2] 38)) Y) := by rw [← hY]; exact C3.out.drew
      have S6 : ((Y.cell? ⟨d, 1, none⟩ = some (.slice (some ⟨h, 0, none⟩) ln ln) ∧ Y.cell? ⟨h, i, none⟩ = some (.int .i64 lq)) ∧ Y.cell? ⟨w.heap.size, 2, none⟩ = some (.int .i64 q)) := ⟨⟨(CH.out Y BY.out).2.2.1, (CH.out Y BY.out).2.2.2.1⟩, (SA.out Y CY.out).2.2.1⟩
      clear B3 C3
      refine wp_region_noPanic ?_
      refine wp_region_held_drew (S := fun w' => (w'.cell? ⟨d, 1, none⟩ = some (.slice (some ⟨h, 0, none⟩) ln ln) ∧ w'.cell? ⟨h, i, none⟩ = some (.int .i64 lq)) ∧ w'.cell? ⟨w.heap.size, 2, none⟩ = some (.int .i64 q)) (by kernel_rfl) (by rw [hY]; exact S6) (fun hHeld => ?_)
      rw [hY] at hHeld
      rw [hY]
      clear hY
      refine wpAnyH_take (i := 0) (oi := oprb0) (v := ?_) rfl (by kernel_rfl) (by kernel_rfl) (by kernel_rfl) (fun _ _ _ h => h) (Or.inl ⟨by rfl, ?_⟩) (by assumption) ?_
      rotate_left
      · intro w' hSw
        clear hSw
        unfold oprb0
        first
        | (go_simp; done)
        | (go_simp; with_reducible rfl)
      simp only [oprb0, Act.put, List.setIfInBounds_toArray, List.set_cons_zero, List.set_cons_succ]
      refine wpAnyH_take (i := 1) (oi := oprb1) (v := ?_) rfl (by kernel_rfl) (by kernel_rfl) (by kernel_rfl) (fun _ _ _ h => h) (Or.inl ⟨by rfl, ?_⟩) (by assumption) ?_
      rotate_left
      · intro w' hSw
        obtain ⟨⟨m0, m1⟩, l2⟩ := hSw
        unfold oprb1
        first
        | (go_simp; done)
        | (go_simp; with_reducible rfl)
      simp only [oprb1, Act.put, List.setIfInBounds_toArray, List.set_cons_zero, List.set_cons_succ]
      refine wpAnyH_take (i := 2) (oi := oprb2) (v := ?_) rfl (by kernel_rfl) (by kernel_rfl) (by kernel_rfl) (fun _ _ _ h => h) (Or.inl ⟨by rfl, ?_⟩) (by assumption) ?_
      rotate_left
      · intro w' hSw
        clear hSw
        unfold oprb2
        first
        | (go_simp; done)
        | (go_simp; with_reducible rfl)
      simp only [oprb2, Act.put, List.setIfInBounds_toArray, List.set_cons_zero, List.set_cons_succ]
      refine wpAnyH_take (i := 3) (oi := oprb3) (v := ?_) rfl (by kernel_rfl) (by kernel_rfl) (by kernel_rfl) (fun _ _ _ h => h) (Or.inl ⟨by rfl, ?_⟩) (by assumption) ?_
      rotate_left
      · intro w' hSw
        clear hSw
        unfold oprb3
        first
        | (go_simp; done)
        | (go_simp; with_reducible rfl)
      simp only [oprb3, Act.put, List.setIfInBounds_toArray, List.set_cons_zero, List.set_cons_succ]
      refine wpAnyH_take (i := 4) (oi := oprb4) (v := ?_) rfl (by kernel_rfl) (by kernel_rfl) (by kernel_rfl) (fun _ _ _ h => h) (Or.inl ⟨by rfl, ?_⟩) (by assumption) ?_
      rotate_left
      · intro w' hSw
        clear hSw
        unfold oprb4
        first
        | (go_simp; done)
        | (go_simp; with_reducible rfl)
      simp only [oprb4, Act.put, List.setIfInBounds_toArray, List.set_cons_zero, List.set_cons_succ]
      refine wpAnyH_take (i := 5) (oi := oprb5) (v := ?_) rfl (by kernel_rfl) (by kernel_rfl) (by kernel_rfl) (fun _ _ _ h => h) (Or.inl ⟨by rfl, ?_⟩) (by assumption) ?_
      rotate_left
      · intro w' hSw
        obtain ⟨⟨m0, m1⟩, l2⟩ := hSw
        unfold oprb5
        first
        | (go_simp; done)
        | (go_simp; with_reducible rfl)
      simp only [oprb5, Act.put, List.setIfInBounds_toArray, List.set_cons_zero, List.set_cons_succ]
      refine wpAnyH_take (i := 6) (oi := oprb6) (v := ?_) rfl (by kernel_rfl) (by kernel_rfl) (by kernel_rfl) (fun _ _ _ h => h) (Or.inl ⟨by rfl, ?_⟩) (by assumption) ?_
      rotate_left
      · intro w' hSw
        clear hSw
        unfold oprb6
        first
        | (go_simp; done)
        | (go_simp; with_reducible rfl)
      simp only [oprb6, Act.put, List.setIfInBounds_toArray, List.set_cons_zero, List.set_cons_succ]
      refine wpAnyH_take (i := 7) (oi := oprb7) (v := ?_) rfl (by kernel_rfl) (by kernel_rfl) (by kernel_rfl) (fun _ _ _ h => h) (Or.inl ⟨by rfl, ?_⟩) (by assumption) ?_
      rotate_left
      · intro w' hSw
        clear hSw
        unfold oprb7
        first
        | (go_simp; done)
        | (go_simp; with_reducible rfl)
      simp only [oprb7, Act.put, List.setIfInBounds_toArray, List.set_cons_zero, List.set_cons_succ]
      refine wpAnyH_take (i := 8) (oi := oprb8) (v := ?_) rfl (by kernel_rfl) (by kernel_rfl) (by kernel_rfl) (fun _ _ _ h => h) (Or.inl ⟨by rfl, ?_⟩) (by assumption) ?_
      rotate_left
      · intro w' hSw
        obtain ⟨⟨m0, m1⟩, l2⟩ := hSw
        unfold oprb8
        first
        | (go_simp; done)
        | (go_simp; with_reducible rfl)
      simp only [oprb8, Act.put, List.setIfInBounds_toArray, List.set_cons_zero, List.set_cons_succ]
      refine wpAnyH_take (i := 9) (oi := oprb9) (v := ?_) rfl (by kernel_rfl) (by kernel_rfl) (by kernel_rfl) (fun _ _ _ h => h) (Or.inl ⟨by rfl, ?_⟩) (by assumption) ?_
      rotate_left
      · intro w' hSw
        clear hSw
        unfold oprb9
        first
        | (go_simp; done)
        | (go_simp; with_reducible rfl)
      simp only [oprb9, Act.put, List.setIfInBounds_toArray, List.set_cons_zero, List.set_cons_succ]
      refine wpAnyH_done (by kernel_rfl) ?_ _
      refine NoPanic.normal ?_
      clear S6
      by_cases hq : q ≤ lq
      · go_wp2
        go_ret
        exact ⟨rfl, H.out.later BY.out, Bf.of BY.out⟩
      · have hnq : lq < q := by omega
        have G1 : Hid (¬ q ≤ lq) := hq
        clear hq
        go_wp2_with fail
        obtain ⟨X, hX⟩ : ∃ X, Y.drew = X := ⟨_, rfl⟩
        have BX : Hid (Below w.heap.size w X) := by rw [← hX]; exact BY.out.drew
        have CX : Hid (Below (w.alloc (.cells #[.int .i64 k, .int .i64 u, .int .i64 q, .string t, .string tg, .slice a n c, .slice a2 n2 c2] 38)).heap.size (w.alloc (.cells #[.int .i64 k, .int .i64 u, .int .i64 q, .string t, .string tg, .slice a n c, .slice a2 n2 c2] 38)) X) := by rw [← hX]; exact CY.out.drew
        have S8 : X.cell? ⟨d, 1, none⟩ = some (.slice (some ⟨h, 0, none⟩) ln ln) ∧ X.cell? ⟨w.heap.size, 2, none⟩ = some (.int .i64 q) := ⟨(CH.out X BX.out).2.2.1, (SA.out X CX.out).2.2.1⟩
        have sc := (CH.out X BX.out).2.2.2.1
        have sf := (CH.out X BX.out).2.2.2.2
        have FG : Hid _ := GO.out X BX.out G1.out
        have S9 : Hid ((X.setCell ⟨h, i, none⟩ (.int .i64 q)).cell? ⟨d, 1, none⟩ = some (.slice (some ⟨h, 0, none⟩) ln ln) ∧ (X.setCell ⟨h, i, none⟩ (.int .i64 q)).cell? ⟨w.heap.size, 2, none⟩ = some (.int .i64 q)) := ⟨cell_setCell S8.1 (fun e => LD.out e.symm), cell_setCell S8.2 (by have := NW.out; show h ≠ w.heap.size; omega)⟩
        clear BY CY GO CH SA
        refine wp_region_noPanic ?_
        refine wp_region_held_drew (S := fun w' => w'.cell? ⟨d, 1, none⟩ = some (.slice (some ⟨h, 0, none⟩) ln ln) ∧ w'.cell? ⟨w.heap.size, 2, none⟩ = some (.int .i64 q)) (by kernel_rfl) (by rw [hX]; exact S8) (fun hHeld => ?_)
        rw [hX] at hHeld
        rw [hX]
        clear hX
        refine wpAnyH_take (i := 0) (oi := oprc0) (v := ?_) rfl (by kernel_rfl) (by kernel_rfl) (by kernel_rfl) (fun _ _ _ h => h) (Or.inl ⟨by rfl, ?_⟩) (by assumption) ?_
        rotate_left
        · intro w' hSw
          clear hSw
          unfold oprc0
          first
          | (go_simp; done)
          | (go_simp; with_reducible rfl)
        simp only [oprc0, Act.put, List.setIfInBounds_toArray, List.set_cons_zero, List.set_cons_succ]
        refine wpAnyH_take (i := 1) (oi := oprc1) (v := ?_) rfl (by kernel_rfl) (by kernel_rfl) (by kernel_rfl) (fun _ _ _ h => h) (Or.inl ⟨by rfl, ?_⟩) (by assumption) ?_
        rotate_left
        · intro w' hSw
          clear hSw
          unfold oprc1
          first
          | (go_simp; done)
          | (go_simp; with_reducible rfl)
        simp only [oprc1, Act.put, List.setIfInBounds_toArray, List.set_cons_zero, List.set_cons_succ]
        refine wpAnyH_take (i := 2) (oi := oprc2) (v := ?_) rfl (by kernel_rfl) (by kernel_rfl) (by kernel_rfl) (fun _ _ _ h => h) (Or.inl ⟨by rfl, ?_⟩) (by assumption) ?_
        rotate_left
        · intro w' hSw
          clear hSw
          unfold oprc2
          first
          | (go_simp; done)
          | (go_simp; with_reducible rfl)
        simp only [oprc2, Act.put, List.setIfInBounds_toArray, List.set_cons_zero, List.set_cons_succ]
        refine wpAnyH_take (i := 3) (oi := oprc3) (v := ?_) rfl (by kernel_rfl) (by kernel_rfl) (by kernel_rfl) (fun _ _ _ h => h) (Or.inl ⟨by rfl, ?_⟩) (by assumption) ?_
        rotate_left
        · intro w' hSw
          obtain ⟨m0, m1⟩ := hSw
          unfold oprc3
          first
          | (go_simp; done)
          | (go_simp; with_reducible rfl)
        simp only [oprc3, Act.put, List.setIfInBounds_toArray, List.set_cons_zero, List.set_cons_succ]
        refine wpAnyH_take (i := 4) (oi := oprc4) (v := ?_) rfl (by kernel_rfl) (by kernel_rfl) (by kernel_rfl) (fun _ _ _ h => h) (Or.inl ⟨by rfl, ?_⟩) (by assumption) ?_
        rotate_left
        · intro w' hSw
          clear hSw
          unfold oprc4
          first
          | (go_simp; done)
          | (go_simp; with_reducible rfl)
        simp only [oprc4, Act.put, List.setIfInBounds_toArray, List.set_cons_zero, List.set_cons_succ]
        refine wpAnyH_take (i := 5) (oi := oprc5) (v := ?_) rfl (by kernel_rfl) (by kernel_rfl) (by kernel_rfl) (fun _ _ _ h => h) (Or.inl ⟨by rfl, ?_⟩) (by assumption) ?_
        rotate_left
        · intro w' hSw
          clear hSw
          unfold oprc5
          first
          | (go_simp; done)
          | (go_simp; with_reducible rfl)
        simp only [oprc5, Act.put, List.setIfInBounds_toArray, List.set_cons_zero, List.set_cons_succ]
        refine wpAnyH_take (i := 6) (oi := oprc6) (v := ?_) rfl (by kernel_rfl) (by kernel_rfl) (by kernel_rfl) (fun _ _ _ h => h) (Or.inl ⟨by rfl, ?_⟩) (by assumption) ?_
        rotate_left
        · intro w' hSw
          obtain ⟨m0, m1⟩ := hSw
          unfold oprc6
          first
          | (go_simp; done)
          | (go_simp; with_reducible rfl)
        simp only [oprc6, Act.put, List.setIfInBounds_toArray, List.set_cons_zero, List.set_cons_succ]
        refine wpAnyH_take (i := 7) (oi := oprc7) (v := ?_) rfl (by kernel_rfl) (by kernel_rfl) (by kernel_rfl) (fun _ _ _ h => h) (Or.inl ⟨by rfl, ?_⟩) (by assumption) ?_
        rotate_left
        · intro w' hSw
          clear hSw
          unfold oprc7
          first
          | (go_simp; done)
          | (go_simp; with_reducible rfl)
        simp only [oprc7, Act.put, List.setIfInBounds_toArray, List.set_cons_zero, List.set_cons_succ]
        refine wpAnyH_ready (rs := [8]) (by kernel_rfl) (by simp) ?_
        refine AllReadyH.cons (o := oprc8) rfl (fun KK hKK => ?_) AllReadyH.nil
        unfold oprc8
        go_simp
        refine hKK.out _ _ S9.out (fun hH8 => ?_)
        clear hKK KK
        try simp only [oprc8, Act.put, List.setIfInBounds_toArray, List.set_cons_zero, List.set_cons_succ]
        refine wpAnyH_done (by kernel_rfl) ?_ _
        refine NoPanic.normal ?_
        clear S8 S9 sc sf
        go_wp2
        go_ret
        exact ⟨rfl, FG.out.1, FG.out.2⟩
  · have hi' : ¬ at' L (⟨k, u, q, t, tg, ss, is⟩ : Ml).u < L.length := hi
    obtain ⟨s1, s2⟩ := ad_none (l := L) hm hi'
    rw [s1, s2]
    rw [show atI L u = -1 from if_neg hi] at RA
    clear s1 s2 hi hi' ho LL
    subst hA
    unfold mv at RM ⊢
    go_enter Tryd.func15, Tryd.ntmps15
    go_wp2_with fail
    refine Calls.mono (RM.out _ BA.out) ?_
    rintro e w1 ⟨rfl, hb⟩
    have B1 : Hid (Below w.heap.size w w1) := chain BA.out hb
    obtain ⟨l0, l1, l2, l3, l4, l5, l6⟩ := SA.out w1 hb
    clear hb RM SA
    go_wp2_with fail
    refine Calls.mono (RA.out _ B1.out) ?_
    rintro e w2 ⟨rfl, hb⟩
    have B2 : Hid (Below w.heap.size w w2.drew) := (chain B1.out hb).drew
    clear hb RA B1 l0 l1 l2 l3 l4 l5 l6
    go_wp2_with fail
    refine wp_region_noPanic ?_
    refine wp_region_held_drew (S := fun _ => True) (by kernel_rfl) (trivial) (fun hHeld => ?_)
    refine wpAnyH_take (i := 0) (oi := opra0) (v := ?_) rfl (by kernel_rfl) (by kernel_rfl) (by kernel_rfl) (fun _ _ _ h => h) (Or.inl ⟨by rfl, ?_⟩) (by assumption) ?_
    rotate_left
    · intro w' hSw
      clear hSw
      unfold opra0
      first
      | (go_simp; done)
      | (go_simp; with_reducible rfl)
    simp only [opra0, Act.put, List.setIfInBounds_toArray, List.set_cons_zero, List.set_cons_succ]
    refine wpAnyH_take (i := 1) (oi := opra1) (v := (.bool true)) rfl (by kernel_rfl) (by kernel_rfl) (by kernel_rfl) (fun _ _ _ h => h) (Or.inl ⟨by rfl, ?_⟩) (by assumption) ?_
    · intro w' hSw
      clear hSw
      unfold opra1
      first
      | (go_simp; done)
      | (go_simp; with_reducible rfl)
    simp only [opra1, Act.put, List.setIfInBounds_toArray, List.set_cons_zero, List.set_cons_succ]
    refine wpAnyH_take (i := 2) (oi := opra2) (v := ?_) rfl (by kernel_rfl) (by kernel_rfl) (by kernel_rfl) (fun _ _ _ h => h) (Or.inl ⟨by rfl, ?_⟩) (by assumption) ?_
    rotate_left
    · intro w' hSw
      clear hSw
      unfold opra2
      first
      | (go_simp; done)
      | (go_simp; with_reducible rfl)
    simp only [opra2, Act.put, List.setIfInBounds_toArray, List.set_cons_zero, List.set_cons_succ]
    refine wpAnyH_take (i := 3) (oi := opra3) (v := undef) rfl (by kernel_rfl) (by kernel_rfl) (by kernel_rfl) (fun _ _ _ h => h) (Or.inr ⟨by rfl, rfl⟩) (by assumption) ?_
    simp only [opra3, Act.put, List.setIfInBounds_toArray, List.set_cons_zero, List.set_cons_succ]
    refine wpAnyH_take (i := 4) (oi := opra4) (v := undef) rfl (by kernel_rfl) (by kernel_rfl) (by kernel_rfl) (fun _ _ _ h => h) (Or.inr ⟨by rfl, rfl⟩) (by assumption) ?_
    simp only [opra4, Act.put, List.setIfInBounds_toArray, List.set_cons_zero, List.set_cons_succ]
    refine wpAnyH_take (i := 5) (oi := opra5) (v := undef) rfl (by kernel_rfl) (by kernel_rfl) (by kernel_rfl) (fun _ _ _ h => h) (Or.inr ⟨by rfl, rfl⟩) (by assumption) ?_
    simp only [opra5, Act.put, List.setIfInBounds_toArray, List.set_cons_zero, List.set_cons_succ]
    refine wpAnyH_take (i := 6) (oi := opra6) (v := undef) rfl (by kernel_rfl) (by kernel_rfl) (by kernel_rfl) (fun _ _ _ h => h) (Or.inr ⟨by rfl, rfl⟩) (by assumption) ?_
    simp only [opra6, Act.put, List.setIfInBounds_toArray, List.set_cons_zero, List.set_cons_succ]
    refine wpAnyH_take (i := 7) (oi := opra7) (v := undef) rfl (by kernel_rfl) (by kernel_rfl) (by kernel_rfl) (fun _ _ _ h => h) (Or.inr ⟨by rfl, rfl⟩) (by assumption) ?_
    simp only [opra7, Act.put, List.setIfInBounds_toArray, List.set_cons_zero, List.set_cons_succ]
    refine wpAnyH_take (i := 8) (oi := opra8) (v := undef) rfl (by kernel_rfl) (by kernel_rfl) (by kernel_rfl) (fun _ _ _ h => h) (Or.inr ⟨by rfl, rfl⟩) (by assumption) ?_
    simp only [opra8, Act.put, List.setIfInBounds_toArray, List.set_cons_zero, List.set_cons_succ]
    refine wpAnyH_take (i := 9) (oi := opra9) (v := undef) rfl (by kernel_rfl) (by kernel_rfl) (by kernel_rfl) (fun _ _ _ h => h) (Or.inr ⟨by rfl, rfl⟩) (by assumption) ?_
    simp only [opra9, Act.put, List.setIfInBounds_toArray, List.set_cons_zero, List.set_cons_succ]
    refine wpAnyH_take (i := 10) (oi := opra10) (v := undef) rfl (by kernel_rfl) (by kernel_rfl) (by kernel_rfl) (fun _ _ _ h => h) (Or.inr ⟨by rfl, rfl⟩) (by assumption) ?_
    simp only [opra10, Act.put, List.setIfInBounds_toArray, List.set_cons_zero, List.set_cons_succ]
    refine wpAnyH_take (i := 11) (oi := opra11) (v := undef) rfl (by kernel_rfl) (by kernel_rfl) (by kernel_rfl) (fun _ _ _ h => h) (Or.inr ⟨by rfl, rfl⟩) (by assumption) ?_
    simp only [opra11, Act.put, List.setIfInBounds_toArray, List.set_cons_zero, List.set_cons_succ]
    refine wpAnyH_take (i := 12) (oi := opra12) (v := undef) rfl (by kernel_rfl) (by kernel_rfl) (by kernel_rfl) (fun _ _ _ h => h) (Or.inr ⟨by rfl, rfl⟩) (by assumption) ?_
    simp only [opra12, Act.put, List.setIfInBounds_toArray, List.set_cons_zero, List.set_cons_succ]
    refine wpAnyH_take (i := 13) (oi := opra13) (v := undef) rfl (by kernel_rfl) (by kernel_rfl) (by kernel_rfl) (fun _ _ _ h => h) (Or.inr ⟨by rfl, rfl⟩) (by assumption) ?_
    simp only [opra13, Act.put, List.setIfInBounds_toArray, List.set_cons_zero, List.set_cons_succ]
    refine wpAnyH_take (i := 14) (oi := opra14) (v := undef) rfl (by kernel_rfl) (by kernel_rfl) (by kernel_rfl) (fun _ _ _ h => h) (Or.inr ⟨by rfl, rfl⟩) (by assumption) ?_
    simp only [opra14, Act.put, List.setIfInBounds_toArray, List.set_cons_zero, List.set_cons_succ]
    refine wpAnyH_take (i := 15) (oi := opra15) (v := undef) rfl (by kernel_rfl) (by kernel_rfl) (by kernel_rfl) (fun _ _ _ h => h) (Or.inr ⟨by rfl, rfl⟩) (by assumption) ?_
    simp only [opra15, Act.put, List.setIfInBounds_toArray, List.set_cons_zero, List.set_cons_succ]
    refine wpAnyH_take (i := 16) (oi := opra16) (v := ?_) rfl (by kernel_rfl) (by kernel_rfl) (by kernel_rfl) (fun _ _ _ h => h) (Or.inl ⟨by rfl, ?_⟩) (by assumption) ?_
    rotate_left
    · intro w' hSw
      clear hSw
      unfold opra16
      first
      | (go_simp; done)
      | (go_simp; with_reducible rfl)
    simp only [opra16, Act.put, List.setIfInBounds_toArray, List.set_cons_zero, List.set_cons_succ]
    refine wpAnyH_done (by kernel_rfl) ?_ _
    refine NoPanic.normal ?_
    go_wp2
    go_ret
    exact ⟨rfl, H.out.later B2.out, Bf.of B2.out⟩
end Go.Proofs.YtbogoheigbiegaaDoor.Gat
namespace Go.Proofs.YtbogoheigbiegaaDoor.Gat
open Go.RowKit Go.Proofs.Fd Go.Proofs.Ml Go.Proofs.Hs Go.Proofs.Gt
open Go.Proofs.YtbogoheigbiegaaDoor.Mai (mv MlAt Lists MlV SlAt enS chkE z32)
set_option maxRecDepth 20000
def accells (l : List Ac) : List Value := l.flatMap fun s => [.int .i64 s.u, .string s.k]
theorem accells_len (l : List Ac) : (accells l).length = l.length * 2 := by
  induction l with
  | nil => rfl
  | cons s r ih => unfold accells at *; rw [List.flatMap_cons, List.length_append, ih, List.length_cons]; simp; omega
theorem accells_one (l : List Ac) : ∀ u ∈ accells l, u.oneCell' = true := fun u hu => by
  obtain ⟨s, -, h⟩ := List.mem_flatMap.1 hu
  simp only [List.mem_cons, List.not_mem_nil, or_false] at h
  rcases h with rfl | rfl <;> rfl
theorem accells_get (l : List Ac) : ∀ (i : Nat) (hi : i < l.length), (accells l)[i * 2]? = some (.int .i64 l[i].u) ∧ (accells l)[i * 2 + 1]? = some (.string l[i].k) := by
  induction l with
  | nil => intro i hi; cases hi
  | cons s r ih =>
    intro i hi
    cases i with
    | zero => exact ⟨rfl, rfl⟩
    | succ i =>
      have q := ih i (by simpa using hi)
      rw [show (i + 1) * 2 = i * 2 + 2 by omega]
      exact q
theorem accells_inv (l : List Ac) (j : Nat) (u : Value) (h : (accells l)[j]? = some u) : ∃ i, ∃ hi : i < l.length, (j = i * 2 ∧ u = .int .i64 l[i].u) ∨ (j = i * 2 + 1 ∧ u = .string l[i].k) := by
  have hj := (List.getElem?_eq_some_iff.1 h).1
  rw [accells_len] at hj
  obtain ⟨g0, g1⟩ := accells_get l (j / 2) (by omega)
  refine ⟨j / 2, by omega, ?_⟩
  rcases Nat.mod_two_eq_zero_or_one j with e | e
  · left
    have e2 : j / 2 * 2 = j := by omega
    rw [e2, h] at g0
    exact ⟨e2.symm, Option.some.inj g0⟩
  · right
    have e2 : j / 2 * 2 + 1 = j := by omega
    rw [e2, h] at g1
    exact ⟨e2.symm, Option.some.inj g1⟩
theorem infoAc : (Tryd.prog.info? 34).map (fun i => (i.zero, i.size, i.bytes)) = some (some (.agg #[.int .i64 0, .string ⟨#[]⟩]), 2, 24) := by kernel_rfl
def WrAt (w : World) (g n : Nat) : Prop := ∀ j, j < n → (w.cell? ⟨g, j, none⟩).isSome = true ∧ w.frozen? ⟨g, j, none⟩ = false
theorem copy_acs (w : World) (ty : Nat) (a : Option Addr) (l : List Ac) (n cap : Nat) (hn : l.length = n) (ha : a = none → n = 0 ∧ cap = 0) (hc : AcAt w a l) (hz : n * 24 ≤ 140737488355328) :
    ∃ a' c' g w', (Builtin.append_ #[22, 22] ty #[.slice (some ⟨w.heap.size, 0, none⟩) 0 0, .slice a n cap]).run Tryd.prog (w.alloc (.cells #[] 34)) = .ok (.slice a' n c') w' ∧ AcAt w' a' l ∧ n ≤ c' ∧ (0 < n → a' = some ⟨g, 0, none⟩) ∧ w.heap.size ≤ g ∧ WrAt w' g (n * 2) ∧ Below w.heap.size w w' ∧ w.heap.size < w'.heap.size := by
  obtain ⟨i0, hi, hz0, hz1, hz2⟩ := info_parts infoAc
  have hb : Below w.heap.size w (w.alloc (.cells #[] 34)) := (Below.refl _ _).alloc (Nat.le_refl _) _
  have o0 := World.ownsRow_made (base := w.heap.size) (e := 34) (size := 2) w #[] 0 (Nat.le_refl _) (Nat.zero_le _) rfl
  have key : ∃ v' w', (Builtin.append_ #[22, 22] ty #[.slice (some ⟨w.heap.size, 0, none⟩) 0 0, .slice a n cap]).run Tryd.prog (w.alloc (.cells #[] 34)) = .ok v' w' ∧ w'.ownsRow w.heap.size 34 2 v' n (accells l) ∧ (w.alloc (.cells #[] 34)).grownBy w' (some w.heap.size) := by
    cases a with
    | none =>
      obtain ⟨rfl, rfl⟩ := ha rfl
      obtain rfl := List.length_eq_zero_iff.1 hn
      exact ⟨_, _, run_append_owned_none (P := Tryd.prog) _ w.heap.size 22 ty 34 i0 2 Tryd.underlying22 hi _ 0 [] o0, by simpa [accells] using o0, ⟨rfl, rfl, rfl, Nat.le_refl _, fun _ _ _ => rfl⟩⟩
    | some a =>
      have each : ∀ j u, (accells l)[j]? = some u → (w.alloc (.cells #[] 34)).cell? (a.add j) = some u := by
        intro j u hu
        obtain ⟨i, hi, hc'⟩ := accells_inv l j u hu
        obtain ⟨b, o, e, c0, c1⟩ := hc.later hb i hi
        have := Option.some.inj e
        subst this
        have q : ∀ x, Addr.add ⟨b, o, none⟩ x = ⟨b, o + x, none⟩ := fun x => by unfold Addr.add; split <;> simp_all
        rw [q]
        rcases hc' with ⟨rfl, rfl⟩ | ⟨rfl, rfl⟩
        · exact c0
        · rw [← Nat.add_assoc]; exact c1
      obtain ⟨v', w', h1, h2, h3, -⟩ := run_append_own (P := Tryd.prog) _ w.heap.size 22 ty 34 i0 (.agg #[.int .i64 0, .string ⟨#[]⟩]) 2 24 Tryd.underlying22 hi hz0 hz1 hz2 rfl (by decide) _ 0 [] o0 a n cap (accells l) (by rw [accells_len, hn]) each (accells_one l) (by unfold maxLen; omega) (by omega) (by simp)
      exact ⟨v', w', h1, by simpa using h2, h3⟩
  obtain ⟨v', w', h1, h2, h3⟩ := key
  have BZ : w.heap.size < w'.heap.size := Nat.lt_of_lt_of_le (by simp) h3.size
  have B := hb.grown h3 (by simp) (fun k hk => by have := Option.some.inj hk; omega)
  obtain ⟨-, hd⟩ := h2
  rcases hd with ⟨rfl, e⟩ | ⟨g, c', cur, rfl, hbg, hg, hnc, hm, hs, ht⟩
  · subst e
    obtain rfl := List.length_eq_zero_iff.1 hn
    exact ⟨none, 0, w.heap.size, w', h1, AcAt.nil _ _, Nat.le_refl _, fun h => absurd h (Nat.lt_irrefl 0), Nat.le_refl _, fun j hj => absurd hj (by omega), B, BZ⟩
  · have cells : ∀ j u, (accells l)[j]? = some u → w'.cell? ⟨g, j, none⟩ = some u := fun j u hu => by
      have hj : j < n * 2 := by have := (List.getElem?_eq_some_iff.1 hu).1; rw [accells_len, hn] at this; exact this
      have e : cur[j]? = (accells l)[j]? := by
        rw [← ht, List.getElem?_take_of_lt (by omega)]; simp
      unfold World.cell?
      rw [hg]
      simp only [Option.isSome_none]
      show cur[j]? = _
      rw [e]; exact hu
    refine ⟨some ⟨g, 0, none⟩, c', g, w', h1, fun i hi => ?_, hnc, fun _ => rfl, hbg, fun j hj => ⟨?_, ?_⟩, B, BZ⟩
    · obtain ⟨g0, g1⟩ := accells_get l i hi
      refine ⟨g, 0, rfl, ?_, ?_⟩
      · rw [Nat.zero_add]; exact cells _ _ g0
      · rw [Nat.zero_add]; exact cells _ _ g1
    · have hlt : j < cur.size := by omega
      unfold World.cell?
      rw [hg]
      simp only [Option.isSome_none]
      show (cur[j]?).isSome = true
      rw [Array.getElem?_eq_getElem hlt]; rfl
    · unfold World.frozen?
      rw [hg]
      rfl
theorem WrAt.set {w : World} {g n : Nat} (h : WrAt w g n) (o : Nat) (v : Value) : WrAt (w.setCell ⟨g, o, none⟩ v) g n := fun j hj => by
  obtain ⟨h0, h1⟩ := h j hj
  refine ⟨?_, by simp [go_sem, h1]⟩
  by_cases e : o = j
  · subst e
    obtain ⟨u, hu⟩ := Option.isSome_iff_exists.1 h0
    simp [go_sem, hu]
  · rw [World.cell?_setCell_other _ _ _ _ (fun z => e (congrArg Addr.off z))]
    exact h0
theorem WrAt.later {w w' : World} {g n : Nat} (h : WrAt w g n) (hb : Below w.heap.size w w') : WrAt w' g n := fun j hj => by
  obtain ⟨h0, h1⟩ := h j hj
  obtain ⟨u, hu⟩ := Option.isSome_iff_exists.1 h0
  exact ⟨by rw [cell_later hb hu]; rfl, (frozen_kept hb (World.block_lt_of_cell? _ _ hu)).trans h1⟩
theorem AcAt.apart2 {F : Nat → Prop} {w w' : World} {a : Option Addr} {l : List Ac} (h : AcAt w a l) (hb : Bf F w w') (hF : ∀ x, a = some x → 0 < l.length → ¬ F x.block) : AcAt w' a l := fun i hi => by
  obtain ⟨b, o, e, h0, h1⟩ := h i hi
  exact ⟨b, o, e, hb.cell h0 (hF ⟨b, o, none⟩ e (by omega)), hb.cell h1 (hF ⟨b, o, none⟩ e (by omega))⟩
theorem RAt.apart2 {F : Nat → Prop} {w w' : World} {d h : Nat} {a : Option Addr} {n c : Nat} {L : List Si} (H : RAt w d h a n c L) (hb : Bf F w w') (h1 : ¬ F d) (h2 : ¬ F h) (h3 : ∀ x, a = some x → 0 < n → ¬ F x.block) : RAt w' d h a n c L :=
  ⟨hb.cell H.c0 h1, hb.cell H.c1 h1, H.l, H.ac.apart2 hb (fun x hx h0 => h3 x hx (by rw [List.length_map, H.l] at h0; exact h0)), fun i hi => ⟨hb.cell (H.q i hi).1 h2, (World.frozen?_of_block (a := ⟨h, i, none⟩) (hb.block h (World.block_lt_of_cell? _ _ (H.q i hi).1) h2)).trans (H.q i hi).2⟩, H.dh, H.ah, H.le, H.k⟩
structure Pst (w0 w : World) (p g d h : Nat) (a : Option Addr) (n c : Nat) (S T : List Si) : Prop where
  ga : GAt w p g S
  ra : RAt w d h a n c T
  b : Below w0.heap.size w0 w
  g0 : w0.heap.size ≤ g
  p0 : w0.heap.size ≤ p
  d0 : w0.heap.size ≤ d
  h0 : w0.heap.size ≤ h
  gh : g ≠ h
  gd : g ≠ d
  hp : h ≠ p
  ax : ∀ x, a = some x → 0 < n → x.block < w0.heap.size
  gl : g < w.heap.size
  hl : h < w.heap.size
theorem Pst.later {w0 w w' : World} {p g d h : Nat} {a : Option Addr} {n c : Nat} {S T : List Si} (P : Pst w0 w p g d h a n c S T) (hb : Below w.heap.size w w') : Pst w0 w' p g d h a n c S T :=
  ⟨P.ga.later hb, P.ra.later hb, chain P.b hb, P.g0, P.p0, P.d0, P.h0, P.gh, P.gd, P.hp, P.ax, Nat.lt_of_lt_of_le P.gl hb.size, Nat.lt_of_lt_of_le P.hl hb.size⟩
theorem Pst.stepG {w0 w w' : World} {p g d h : Nat} {a : Option Addr} {n c : Nat} {S S' T : List Si} (P : Pst w0 w p g d h a n c S T) (ha : GAt w' p g S') (hb : Bf (fun x => x = g) w w') : Pst w0 w' p g d h a n c S' T :=
  ⟨ha, P.ra.apart2 hb (fun e => P.gd e.symm) (fun e => P.gh e.symm) (fun x hx h0 e => by have := P.ax x hx h0; have := P.g0; omega), P.b.trans (hb.below (fun x e => by rw [e]; exact P.g0) P.b.size), P.g0, P.p0, P.d0, P.h0, P.gh, P.gd, P.hp, P.ax, Nat.lt_of_lt_of_le P.gl hb.size, Nat.lt_of_lt_of_le P.hl hb.size⟩
theorem Pst.stepR {w0 w w' : World} {p g d h : Nat} {a : Option Addr} {n c : Nat} {S T T' : List Si} (P : Pst w0 w p g d h a n c S T) (hr : RAt w' d h a n c T') (hb : Bf (fun x => x = h) w w') : Pst w0 w' p g d h a n c S T' :=
  ⟨P.ga.apart hb (fun e => P.hp e.symm) P.gh, hr, P.b.trans (hb.below (fun x e => by rw [e]; exact P.h0) P.b.size), P.g0, P.p0, P.d0, P.h0, P.gh, P.gd, P.hp, P.ax, Nat.lt_of_lt_of_le P.gl hb.size, Nat.lt_of_lt_of_le P.hl hb.size⟩
structure Cc where
  m : Ml
  a : Option Addr
  n : Nat
  c : Nat
  a2 : Option Addr
  n2 : Nat
  c2 : Nat
  key : ByteArray
def Cc.v (x : Cc) : Value := mv x.m.k x.m.u x.m.q x.m.t x.m.g x.a x.n x.c x.a2 x.n2 x.c2
def Cc.L (x : Cc) (w : World) : Prop := Lists w x.a x.n x.c x.a2 x.n2 x.c2 x.m.sl x.m.ids ∧ x.m.g.size ≤ 140737488351232 ∧ x.n * 32 ≤ 140737488351232 ∧ x.n2 * 16 ≤ 140737488351232
def CoAt (w : World) (a : Option Addr) (l : List Cc) : Prop := ∀ i (hi : i < l.length), ∃ b o, a = some ⟨b, o, none⟩ ∧ (w.cell? ⟨b, o + i * 8, none⟩ = some (.int .i64 l[i].m.k) ∧ w.cell? ⟨b, o + i * 8 + 1, none⟩ = some (.int .i64 l[i].m.u) ∧ w.cell? ⟨b, o + i * 8 + 2, none⟩ = some (.int .i64 l[i].m.q) ∧ w.cell? ⟨b, o + i * 8 + 3, none⟩ = some (.string l[i].m.t) ∧ w.cell? ⟨b, o + i * 8 + 4, none⟩ = some (.string l[i].m.g) ∧ w.cell? ⟨b, o + i * 8 + 5, none⟩ = some (.slice l[i].a l[i].n l[i].c) ∧ w.cell? ⟨b, o + i * 8 + 6, none⟩ = some (.slice l[i].a2 l[i].n2 l[i].c2) ∧ w.cell? ⟨b, o + i * 8 + 7, none⟩ = some (.string l[i].key))
theorem CoAt.later {w w' : World} {a : Option Addr} {l : List Cc} (h : CoAt w a l) (hb : Below w.heap.size w w') : CoAt w' a l := fun i hi => by
  obtain ⟨b, o, e, h0, h1, h2, h3, h4, h5, h6, h7⟩ := h i hi
  exact ⟨b, o, e, cell_later hb h0, cell_later hb h1, cell_later hb h2, cell_later hb h3, cell_later hb h4, cell_later hb h5, cell_later hb h6, cell_later hb h7⟩
end Go.Proofs.YtbogoheigbiegaaDoor.Gat
namespace Go.Proofs.YtbogoheigbiegaaDoor.Mai
open Go.RowKit Go.Proofs.Fd Go.Proofs.Ml
set_option maxRecDepth 20000
set_option maxHeartbeats 2000000 in
theorem copyMail_own (k u q : Int) (t g : ByteArray) (a : Option Addr) (n c : Nat) (a2 : Option Addr) (n2 c2 : Nat) (ss : List Sl) (is : List ByteArray) (zs : n * 32 ≤ 140737488351232) (zi : n2 * 16 ≤ 140737488351232) (w : World) (L : Hid (Lists w a n c a2 n2 c2 ss is)) :
    Calls Tryd.prog 13 #[mv k u q t g a n c a2 n2 c2] w fun e w' => ∃ a' c' a2' c2', e = .returned (mv k u q t g a' n c' a2' n2 c2') ∧ Lists w' a' n c' a2' n2 c2' ss is ∧ Below w.heap.size w w' ∧ (∀ x, a' = some x → w.heap.size ≤ x.block) ∧ ∀ x, a2' = some x → w.heap.size ≤ x.block := by
  obtain ⟨X, hX, F0⟩ : ∃ X, (w.alloc (.cells #[.int .i64 k, .int .i64 u, .int .i64 q, .string t, .string g, .slice a n c, .slice a2 n2 c2] 38)).alloc (.cells #[.int .i64 0, .int .i64 0, .int .i64 0, .string ⟨#[]⟩, .string ⟨#[]⟩, .slice none 0 0, .slice none 0 0] 38) = X ∧ Hid (Below w.heap.size w X ∧ MlAt X w.heap.size k u q t g a n c a2 n2 c2 ∧ MlAt X (w.heap.size + 1) 0 0 0 ⟨#[]⟩ ⟨#[]⟩ none 0 0 none 0 0) := by
    refine ⟨_, rfl, ((Below.refl _ w).alloc (Nat.le_refl _) _).alloc (by simp) _, (MlAt.new w _ _ _ _ _ _ _ _ _ _ _ _).later ((Below.refl _ _).alloc (Nat.le_refl _) _), ?_⟩
    have := MlAt.new (w.alloc (.cells #[.int .i64 k, .int .i64 u, .int .i64 q, .string t, .string g, .slice a n c, .slice a2 n2 c2] 38)) 38 0 0 0 ⟨#[]⟩ ⟨#[]⟩ none 0 0 none 0 0
    rw [show (w.alloc (.cells #[.int .i64 k, .int .i64 u, .int .i64 q, .string t, .string g, .slice a n c, .slice a2 n2 c2] 38)).heap.size = w.heap.size + 1 by simp] at this
    exact this
  have gX : w.heap.size + 1 < X.heap.size := F0.out.2.2.lt
  obtain ⟨v1, w1, r1, o1, b1⟩ := copy_slots X 35 a ss n c L.out.ls L.out.zs (L.out.later F0.out.1).s (by omega)
  obtain ⟨-, a', c', rfl, s1, z1, bl1⟩ := own_slAt o1
  have ne1 : ∀ x, a' = some x → w.heap.size ≠ x.block := fun x hx => by have := bl1 x hx; omega
  have ne1' : ∀ x, a' = some x → w.heap.size + 1 ≠ x.block := fun x hx => by have := bl1 x hx; omega
  have m1 : MlAt w1 w.heap.size k u q t g a n c a2 n2 c2 := F0.out.2.1.later b1
  have m1' : MlAt w1 (w.heap.size + 1) 0 0 0 ⟨#[]⟩ ⟨#[]⟩ none 0 0 none 0 0 := F0.out.2.2.later b1
  have n1 : ¬ w.heap.size = w.heap.size + 1 := by omega
  have n2' : ¬ w.heap.size + 1 = w.heap.size := by omega
  obtain ⟨Y, hY⟩ : ∃ Y, w1.setCell ⟨w.heap.size, 5, none⟩ (.slice a' n c') = Y := ⟨_, rfl⟩
  have F1 : Hid (Below w.heap.size w Y ∧ MlAt Y w.heap.size k u q t g a' n c' a2 n2 c2 ∧ MlAt Y (w.heap.size + 1) 0 0 0 ⟨#[]⟩ ⟨#[]⟩ none 0 0 none 0 0 ∧ SlAt Y a' ss) := by
    rw [← hY]
    exact ⟨(chain F0.out.1 b1).setCell (p := ⟨w.heap.size, 5, none⟩) (Nat.le_refl _) _, m1.put5 _ _ _, m1'.other (p := ⟨w.heap.size, 5, none⟩) n1 _, s1.other (p := ⟨w.heap.size, 5, none⟩) ne1 _⟩
  have gY : w.heap.size + 1 < Y.heap.size := F1.out.2.2.1.lt
  obtain ⟨v2, w2, r2, o2, b2⟩ := copy_strs Y 36 a2 is n2 c2 L.out.li L.out.zi (L.out.later F1.out.1).i (by omega)
  obtain ⟨-, a2', c2', rfl, s2, z2, bl2⟩ := own_strAt2 o2
  have ne2 : ∀ x, a2' = some x → w.heap.size ≠ x.block := fun x hx => by have := bl2 x hx; omega
  have ne2' : ∀ x, a2' = some x → w.heap.size + 1 ≠ x.block := fun x hx => by have := bl2 x hx; omega
  have F2 : Hid (Below w.heap.size w w2 ∧ MlAt w2 w.heap.size k u q t g a' n c' a2 n2 c2 ∧ MlAt w2 (w.heap.size + 1) 0 0 0 ⟨#[]⟩ ⟨#[]⟩ none 0 0 none 0 0 ∧ SlAt w2 a' ss ∧ StrAt w2 a2' is) := ⟨chain F1.out.1 b2, F1.out.2.1.later b2, F1.out.2.2.1.later b2, F1.out.2.2.2.later b2, s2⟩
  have RR : Hid ((Builtin.append_ #[35, 35] 35 #[.slice (some ⟨X.heap.size, 0, none⟩) 0 0, .slice a n c]).run Tryd.prog (X.alloc (.cells #[] 83)) = .ok (.slice a' n c') w1 ∧ (Builtin.append_ #[36, 36] 36 #[.slice (some ⟨Y.heap.size, 0, none⟩) 0 0, .slice a2 n2 c2]).run Tryd.prog (Y.alloc (.cells #[] 9)) = .ok (.slice a2' n2 c2') w2) := ⟨r1, r2⟩
  have ZZ : Hid ((a' = none → n = 0 ∧ c' = 0) ∧ (a2' = none → n2 = 0 ∧ c2' = 0) ∧ (∀ x, a' = some x → w.heap.size ≠ x.block ∧ w.heap.size + 1 ≠ x.block) ∧ ∀ x, a2' = some x → w.heap.size ≠ x.block ∧ w.heap.size + 1 ≠ x.block) := ⟨z1, z2, fun x hx => ⟨ne1 x hx, ne1' x hx⟩, fun x hx => ⟨ne2 x hx, ne2' x hx⟩⟩
  have HY : Hid (w1.setCell ⟨w.heap.size, 5, none⟩ (.slice a' n c') = Y) := hY
  obtain ⟨-, p0, p1, p2, p3, p4, p5, p6⟩ := F0.out.2.1
  obtain ⟨f1, y0, y1, y2, y3, y4, y5, y6⟩ := m1
  obtain ⟨f2, r0', r1', r2', r3', r4', r5', r6'⟩ := F2.out.2.1
  obtain ⟨f3, q0, q1, q2, q3, q4, q5, q6⟩ := F2.out.2.2.1
  obtain ⟨-, t0, t1, t2, t3, t4, t5, t6⟩ := F1.out.2.1
  have BL : Hid ((∀ x, a' = some x → w.heap.size ≤ x.block) ∧ ∀ x, a2' = some x → w.heap.size ≤ x.block) := ⟨fun x hx => by have := bl1 x hx; omega, fun x hx => by have := bl2 x hx; omega⟩
  clear r1 r2 o1 o2 b1 b2 s1 s2 z1 z2 bl1 bl2 ne1 ne1' ne2 ne2' m1'
  have gx1 : w.heap.size < X.heap.size := by omega
  have gx2 : ¬ w.heap.size = X.heap.size := by omega
  have gy1 : w.heap.size < Y.heap.size := by omega
  have gy2 : ¬ w.heap.size = Y.heap.size := by omega
  go_enter Tryd.func13, Tryd.ntmps13
  go_wp2_with (first
    | (at_builtin; refine Go.Lib.wpList_append_run _ rfl _ _ _ _ rfl _ _ rfl rfl _ _ RR.out.1 ?_)
    | (at_builtin; refine Go.Lib.wpList_append_run _ rfl _ _ _ _ rfl _ _ rfl rfl _ _ RR.out.2 ?_))
  have L2 : Lists w2 a' n c' a2' n2 c2' ss is := ⟨F2.out.2.2.2.1, F2.out.2.2.2.2, L.out.ls, L.out.li, ZZ.out.1, ZZ.out.2.1, L.out.ms, L.out.mi⟩
  have L3 := L2.other (p := ⟨w.heap.size, 6, none⟩) (fun x hx => (ZZ.out.2.2.1 x hx).1) (fun x hx => (ZZ.out.2.2.2 x hx).1) (.slice a2' n2 c2')
  refine bodyPost_ret ?_ rfl ⟨a', c', a2', c2', rfl, lists_whole L3 (fun x hx => (ZZ.out.2.2.1 x hx).2) (fun x hx => (ZZ.out.2.2.2 x hx).2) _ _ _ _ _ _ _, below_whole (F2.out.1.setCell (p := ⟨w.heap.size, 6, none⟩) (Nat.le_refl _) _) (Nat.le_succ _) _ _ _ _ _ _ _, BL.out.1, BL.out.2⟩
  exact res_copy _ _ (w.heap.size + 1) _ _ _ _ _ _ _ _ _ _ _ (by kernel_rfl) ((F2.out.2.2.1.other (p := ⟨w.heap.size, 6, none⟩) n1 _).whole _ _ _ _ _ _ _ _ _ _ _)
end Go.Proofs.YtbogoheigbiegaaDoor.Mai
namespace Go.Proofs.YtbogoheigbiegaaDoor.Gat
open Go.RowKit Go.Proofs.Fd Go.Proofs.Ml Go.Proofs.Hs Go.Proofs.Gt
open Go.Proofs.YtbogoheigbiegaaDoor.Mai (mv MlAt Lists MlV SlAt enS chkE z32)
set_option maxRecDepth 20000
theorem Pst.setC {w0 w : World} {p g d h : Nat} {a : Option Addr} {n c : Nat} {S T : List Si} (P : Pst w0 w p g d h a n c S T) {z : Nat} (z0 : w0.heap.size ≤ z) (z1 : z ≠ p) (z2 : z ≠ g) (z3 : z ≠ d) (z4 : z ≠ h) (o : Nat) (v : Value) : Pst w0 (w.setCell ⟨z, o, none⟩ v) p g d h a n c S T := by
  have hb : Bf (fun x => x = z) w (w.setCell ⟨z, o, none⟩ v) := Bf.setCell (F := fun x => x = z) (Bf.refl _ _) (p := ⟨z, o, none⟩) rfl _
  exact ⟨P.ga.apart hb (fun e => z1 e.symm) (fun e => z2 e.symm), P.ra.apart2 hb (fun e => z3 e.symm) (fun e => z4 e.symm) (fun x hx h0 e => by have := P.ax x hx h0; omega), P.b.setCell (p := ⟨z, o, none⟩) z0 _, P.g0, P.p0, P.d0, P.h0, P.gh, P.gd, P.hp, P.ax, Nat.lt_of_lt_of_le P.gl hb.size, Nat.lt_of_lt_of_le P.hl hb.size⟩
def Mst (w0 w : World) (p g d h : Nat) (a : Option Addr) (n c : Nat) (S : List Si) (M : Nat) (m : Ml) (xa : Option Addr) (xn xc : Nat) (xa2 : Option Addr) (xn2 xc2 : Nat) : Prop :=
  Pst w0 w p g d h a n c S S ∧ MlAt w M m.k m.u m.q m.t m.g xa xn xc xa2 xn2 xc2 ∧ Lists w0 xa xn xc xa2 xn2 xc2 m.sl m.ids ∧ m.g.size ≤ 140737488351232 ∧ (xn * 32 ≤ 140737488351232 ∧ xn2 * 16 ≤ 140737488351232) ∧ (M ≠ g ∧ M ≠ h ∧ M ≠ p ∧ M ≠ d ∧ w0.heap.size ≤ M)
theorem Mst.later {w0 w w' : World} {p g d h : Nat} {a : Option Addr} {n c : Nat} {S : List Si} {M : Nat} {m : Ml} {xa : Option Addr} {xn xc : Nat} {xa2 : Option Addr} {xn2 xc2 : Nat} (P : Mst w0 w p g d h a n c S M m xa xn xc xa2 xn2 xc2) (hb : Below w.heap.size w w') : Mst w0 w' p g d h a n c S M m xa xn xc xa2 xn2 xc2 :=
  ⟨P.1.later hb, MlAt.later P.2.1 hb, P.2.2⟩
theorem Mst.put {w0 w : World} {p g d h : Nat} {a : Option Addr} {n c : Nat} {S : List Si} {M : Nat} {m : Ml} {xa : Option Addr} {xn xc : Nat} {xa2 : Option Addr} {xn2 xc2 : Nat} (P : Mst w0 w p g d h a n c S M m xa xn xc xa2 xn2 xc2) (R : ByteArray) (hR : R.size ≤ 140737488351232) :
    Mst w0 (((((((w.setCell ⟨M, 0, none⟩ (.int .i64 m.k)).setCell ⟨M, 1, none⟩ (.int .i64 m.u)).setCell ⟨M, 2, none⟩ (.int .i64 m.q)).setCell ⟨M, 3, none⟩ (.string m.t)).setCell ⟨M, 4, none⟩ (.string R)).setCell ⟨M, 5, none⟩ (.slice xa xn xc)).setCell ⟨M, 6, none⟩ (.slice xa2 xn2 xc2)) p g d h a n c S M ⟨m.k, m.u, m.q, m.t, R, m.sl, m.ids⟩ xa xn xc xa2 xn2 xc2 := by
  obtain ⟨P1, P2, P3, P4, P5, h1, h2, h3, h4, h5⟩ := P
  have st : ∀ (w : World) (o : Nat) (v : Value), Pst w0 w p g d h a n c S S → Pst w0 (w.setCell ⟨M, o, none⟩ v) p g d h a n c S S := fun w o v q => Pst.setC q h5 h3 h1 h4 h2 o v
  exact ⟨st _ _ _ (st _ _ _ (st _ _ _ (st _ _ _ (st _ _ _ (st _ _ _ (st _ _ _ P1)))))), Mai.MlAt.whole P2 m.k m.u m.q m.t R xa xn xc xa2 xn2 xc2, P3, hR, P5, h1, h2, h3, h4, h5⟩
theorem lists_ap {F : Nat → Prop} {w w' : World} {a : Option Addr} {n c : Nat} {a2 : Option Addr} {n2 c2 : Nat} {ss : List Sl} {is : List ByteArray} (h : Lists w a n c a2 n2 c2 ss is) (hb : Bf F w w') (h1 : ∀ x, a = some x → ¬ F x.block) (h2 : ∀ x, a2 = some x → ¬ F x.block) : Lists w' a n c a2 n2 c2 ss is :=
  ⟨fun i hi => by
    obtain ⟨b, o, e, c0, c1⟩ := h.s i hi
    exact ⟨b, o, e, hb.cell c0 (h1 ⟨b, o, none⟩ e), hb.cell c1 (h1 ⟨b, o, none⟩ e)⟩, fun i hi => by
    obtain ⟨b, o, e, c0⟩ := h.i i hi
    exact ⟨b, o, e, hb.cell c0 (h2 ⟨b, o, none⟩ e)⟩, h.ls, h.li, h.zs, h.zi, h.ms, h.mi⟩
theorem admitW (p g : Nat) (L : List Si) (v : Value) (m : Ml) (ht : m.g.size ≤ 140737488351232) (w : World) (H : GAt w p g L) (V : MlV w v m) (K : Kh w) :
    Calls Tryd.prog 14 #[.pointer (some ⟨p, 0, none⟩), v] w fun e w' => e = .returned (.int .i64 (adE L m)) ∧ GAt w' p g (adS L m) ∧ Bf (fun x => x = g) w w' := admitV p g L v m (by omega) w H V K
theorem rAdmitV (d h : Nat) (la : Option Addr) (ln lc : Nat) (L : List Si) (v : Value) (m : Ml) (w : World) (H : RAt w d h la ln lc L) (V : MlV w v m) :
    Calls Tryd.prog 15 #[.pointer (some ⟨d, 0, none⟩), v] w fun e w' => e = .returned (.int .i64 (adE L m)) ∧ RAt w' d h la ln lc (adS L m) ∧ Bf (fun x => x = h) w w' := by
  obtain ⟨a, n, c, a2, n2, c2, rfl, LL⟩ := V
  exact rAdmit_any d h la ln lc L m.k m.u m.q m.t m.g a n c a2 n2 c2 m.sl m.ids w H LL
def opga0 : Oper := { dst := some 104, op := Go.Op.move (Go.Operand.tmp 1), type := 23, pos := "law.go:33", after := #[], guard := none }
def opga1 : Oper := { dst := some 105, op := Go.Op.move (Go.Operand.tmp 15), type := 3, pos := "law.go:33", after := #[], guard := none }
def opga2 : Oper := { dst := some 106, op := Go.Op.indexAddr 23 (Go.Operand.tmp 104) (Go.Operand.tmp 105), type := 0, pos := "law.go:33", after := #[{ on := 0, ground := Go.Ground.data }, { on := 1, ground := Go.Ground.data }], guard := none }
def opga3 : Oper := { dst := some 107, op := Go.Op.fieldAddr 40 (Go.Operand.tmp 106) 1, type := 0, pos := "law.go:33", after := #[{ on := 2, ground := Go.Ground.data }], guard := none }
def opga4 : Oper := { dst := some 108, op := Go.Op.load 9 (Go.Operand.tmp 107), type := 9, pos := "law.go:33", after := #[{ on := 3, ground := Go.Ground.data }], guard := none }
def opga5 : Oper := { dst := some 109, op := Go.Op.load 38 (Go.Operand.tmp 16), type := 38, pos := "law.go:33", after := #[], guard := none }
def opga6 : Oper := { dst := some 110, op := Go.Op.call { callee := Go.Callee.value (Go.Operand.func 12), args := #[Go.Operand.tmp 108, Go.Operand.tmp 109], argTypes := #[9, 38] }, type := 41, pos := "law.go:33", after := #[{ on := 4, ground := Go.Ground.data }, { on := 5, ground := Go.Ground.data }], guard := none }
def opga7 : Oper := { dst := some 103, op := Go.Op.move (Go.Operand.tmp 110), type := 41, pos := "law.go:33", after := #[{ on := 6, ground := Go.Ground.data }], guard := none }
def opga8 : Oper := { dst := some 111, op := Go.Op.extract (Go.Operand.tmp 103) 0, type := 38, pos := "law.go:33", after := #[{ on := 7, ground := Go.Ground.data }], guard := none }
def opga9 : Oper := { dst := some 112, op := Go.Op.extract (Go.Operand.tmp 103) 1, type := 24, pos := "law.go:33", after := #[{ on := 7, ground := Go.Ground.data }, { on := 11, ground := Go.Ground.gcOnly Go.Departure.lateStores }], guard := none }
def opga10 : Oper := { dst := some 17, op := Go.Op.alloc 38, type := 0, pos := "law.go:33", after := #[], guard := none }
def opga11 : Oper := { dst := none, op := Go.Op.store 38 (Go.Operand.tmp 17) (Go.Operand.tmp 111), type := 0, pos := "law.go:33", after := #[{ on := 10, ground := Go.Ground.data }, { on := 8, ground := Go.Ground.data }, { on := 6, ground := Go.Ground.chain }, { on := 0, ground := Go.Ground.phase }, { on := 1, ground := Go.Ground.phase }, { on := 2, ground := Go.Ground.phase }, { on := 3, ground := Go.Ground.phase }, { on := 4, ground := Go.Ground.phase }, { on := 5, ground := Go.Ground.phase }, { on := 6, ground := Go.Ground.phase }, { on := 7, ground := Go.Ground.phase }, { on := 8, ground := Go.Ground.phase }, { on := 9, ground := Go.Ground.textOnly Go.Departure.lateStores }, { on := 10, ground := Go.Ground.phase }], guard := none }
def opga12 : Oper := { dst := some 18, op := Go.Op.assign (Go.Operand.tmp 112), type := 24, pos := "law.go:33", after := #[{ on := 9, ground := Go.Ground.data }, { on := 11, ground := Go.Ground.chain }, { on := 0, ground := Go.Ground.phase }, { on := 1, ground := Go.Ground.phase }, { on := 2, ground := Go.Ground.phase }, { on := 3, ground := Go.Ground.phase }, { on := 4, ground := Go.Ground.phase }, { on := 5, ground := Go.Ground.phase }, { on := 6, ground := Go.Ground.phase }, { on := 7, ground := Go.Ground.phase }, { on := 8, ground := Go.Ground.phase }, { on := 9, ground := Go.Ground.phase }, { on := 10, ground := Go.Ground.phase }, { on := 11, ground := Go.Ground.phase }], guard := none }
def opgb0 : Oper := { dst := some 118, op := Go.Op.move (Go.Operand.tmp 10), type := 27, pos := "law.go:38", after := #[], guard := none }
def opgb1 : Oper := { dst := some 119, op := Go.Op.load 38 (Go.Operand.tmp 19), type := 38, pos := "law.go:38", after := #[], guard := none }
def opgb2 : Oper := { dst := some 120, op := Go.Op.call { callee := Go.Callee.value (Go.Operand.func 14), args := #[Go.Operand.tmp 118, Go.Operand.tmp 119], argTypes := #[27, 38] }, type := 24, pos := "law.go:38", after := #[{ on := 0, ground := Go.Ground.data }, { on := 1, ground := Go.Ground.data }], guard := none }
def opgb3 : Oper := { dst := some 121, op := Go.Op.move (Go.Operand.tmp 12), type := 30, pos := "law.go:38", after := #[], guard := none }
def opgb4 : Oper := { dst := some 122, op := Go.Op.load 38 (Go.Operand.tmp 16), type := 38, pos := "law.go:38", after := #[], guard := none }
def opgb5 : Oper := { dst := some 123, op := Go.Op.call { callee := Go.Callee.value (Go.Operand.func 15), args := #[Go.Operand.tmp 121, Go.Operand.tmp 122], argTypes := #[30, 38] }, type := 24, pos := "law.go:38", after := #[{ on := 3, ground := Go.Ground.data }, { on := 4, ground := Go.Ground.data }, { on := 2, ground := Go.Ground.chain }], guard := none }
def opgb6 : Oper := { dst := some 124, op := Go.Op.binOp Go.BinOp.neq 24 (Go.Operand.tmp 120) (Go.Operand.tmp 123) 24, type := 4, pos := "law.go:38", after := #[{ on := 2, ground := Go.Ground.data }, { on := 5, ground := Go.Ground.data }], guard := none }
def opgb7 : Oper := { dst := some 125, op := Go.Op.move (Go.Operand.tmp 124), type := 4, pos := "law.go:38", after := #[{ on := 6, ground := Go.Ground.data }, { on := 5, ground := Go.Ground.chain }], guard := none }
def opgb8 : Oper := { dst := some 126, op := Go.Op.load 38 (Go.Operand.tmp 19), type := 38, pos := "law.go:38", after := #[{ on := 7, ground := Go.Ground.guard }], guard := some (7, false) }
def opgb9 : Oper := { dst := some 127, op := Go.Op.load 38 (Go.Operand.tmp 16), type := 38, pos := "law.go:38", after := #[{ on := 7, ground := Go.Ground.guard }], guard := some (7, false) }
def opgb10 : Oper := { dst := some 128, op := Go.Op.call { callee := Go.Callee.value (Go.Operand.func 16), args := #[Go.Operand.tmp 126, Go.Operand.tmp 127], argTypes := #[38, 38] }, type := 4, pos := "law.go:38", after := #[{ on := 8, ground := Go.Ground.data }, { on := 9, ground := Go.Ground.data }, { on := 7, ground := Go.Ground.chain }, { on := 7, ground := Go.Ground.guard }], guard := some (7, false) }
def opgb11 : Oper := { dst := some 129, op := Go.Op.unOp Go.UnOp.not 4 (Go.Operand.tmp 128), type := 4, pos := "law.go:38", after := #[{ on := 10, ground := Go.Ground.data }, { on := 7, ground := Go.Ground.guard }], guard := some (7, false) }
def opgb12 : Oper := { dst := some 130, op := Go.Op.pick (Go.Operand.tmp 125) (Go.Operand.const (Go.Value.bool true)) (Go.Operand.tmp 129), type := 4, pos := "law.go:38", after := #[{ on := 7, ground := Go.Ground.data }, { on := 11, ground := Go.Ground.data }], guard := none }
set_option maxHeartbeats 8000000 in
theorem GatePlays_walk (a : Option Addr) (l : List Ac) (n c : Nat) (a2 : Option Addr) (ls : List Cc) (n2 c2 : Nat) (hn : Hid (l.length = n)) (ha : a = none → n = 0 ∧ c = 0) (hz : n * 24 ≤ 140737488351232) (hn2 : Hid (ls.length = n2)) (w : World) (hL : ∀ x ∈ ls, x.L w) (K : Hid (Kh w)) (hc : Hid (AcAt w a l)) (hc2 : Hid (CoAt w a2 ls)) :
    Calls Tryd.prog 3 #[.slice a n c, .slice a2 n2 c2] w fun e w' => e = .returned (.bool true) ∧ Below w.heap.size w w' := by
  have hL' : Hid (∀ x ∈ ls, x.L w) := hL
  have WK : Hid (∀ w2, Kh w2 → Calls Tryd.prog 20 #[] w2 fun e w' => e = .returned (.bool true) ∧ Below w2.heap.size w2 w') := fun w2 h => gworks_any w2 h
  obtain ⟨a', c', gz, w1, hr, AC1, hnc, hsome, hgz, WR1, B1, BZ⟩ := copy_acs w 22 a l n c hn.out ha hc.out (by omega)
  have HS : Hid (0 < n → a' = some ⟨gz, 0, none⟩) := hsome
  have X1 : Hid (AcAt w1 a' l ∧ WrAt w1 gz (n * 2) ∧ Below w.heap.size w w1 ∧ w.heap.size ≤ gz ∧ w.heap.size < w1.heap.size) := ⟨AC1, WR1, B1, hgz, BZ⟩
  have HG : Hid (0 < n → gz < w1.heap.size) := fun h0 => by
    obtain ⟨i0, -⟩ := WR1 0 (by omega)
    obtain ⟨x0, y0⟩ := Option.isSome_iff_exists.1 i0
    exact World.block_lt_of_cell? _ _ y0
  have AX : Hid (∀ x, a = some x → 0 < n → x.block < w.heap.size) := fun x hx h0 => by
    obtain ⟨b, o, e, c0, -⟩ := hc.out 0 (by rw [hn.out]; exact h0)
    rw [e] at hx
    have := Option.some.inj hx
    subst this
    exact World.block_lt_of_cell? _ _ c0
  have CK : Hid _ := check_any a' n c' l hn (by omega) hnc w1 AC1
  have CR : Hid (∀ w2, Below w.heap.size w w2 → Calls Tryd.prog 9 #[.slice a n c] w2 fun e w' => e = .returned (.tuple #[.int .i64 (chk l).1, .int .i64 (chk l).2]) ∧ Below w2.heap.size w2 w') := fun w2 hb => rcheck_any a n c l hn (by omega) w2 (hc.out.later hb)
  have NG : Hid (∀ w2, Below w1.heap.size w1 w2 → Calls Tryd.prog 10 #[.slice a' n c'] w2 fun e w' => NewR w2 l e w') := fun w2 hb => new_any a' n c' l hn (by omega) hnc w2 (AC1.later hb)
  have NR : Hid (∀ w2, Below w.heap.size w w2 → Calls Tryd.prog 11 #[.slice a n c] w2 fun e w' => RnR w2 a n c l e w') := fun w2 hb => rnew_any a n c l hn (by omega) w2 (hc.out.later hb)
  have AA : Hid (AcAt w1 a' l) := AC1
  have hnb : n ≤ 100000000000000 := by omega
  clear hL AC1 hsome hgz WR1 B1 hnc hz ha BZ
  obtain ⟨X, hX⟩ : ∃ X, (chk l).1 = X := ⟨_, rfl⟩
  rw [hX] at CK CR
  clear hX
  by_cases hY : (chk l).2 = 0
  · have NG2 : Hid (∀ w2, Below w1.heap.size w1 w2 → Calls Tryd.prog 10 #[.slice a' n c'] w2 fun e w' => ∃ p g, e = .returned (.tuple #[.pointer (some ⟨p, 0, none⟩), .int .i64 0]) ∧ GAt w' p g (l.map sg) ∧ w2.heap.size ≤ p ∧ w2.heap.size ≤ g ∧ Below w2.heap.size w2 w') := fun w2 hb => by
      refine Calls.mono (NG.out w2 hb) ?_
      rintro e w' ⟨hb, ⟨h, -⟩ | ⟨-, p, g, rfl, h1, h2, h3⟩⟩
      · exact absurd hY h
      · exact ⟨p, g, rfl, h1, h2, h3, hb⟩
    have NR2 : Hid (∀ w2 p g, Below w.heap.size w w2 → w.heap.size < p → w.heap.size ≤ g → w.heap.size < w2.heap.size → GAt w2 p g (l.map sg) → Calls Tryd.prog 11 #[.slice a n c] w2 fun e w' => ∃ d h g2, e = .returned (.tuple #[.pointer (some ⟨d, 0, none⟩), .int .i64 0]) ∧ Pst w w' p g2 d h a n c (l.map sg) (l.map sg) ∧ Below w2.heap.size w2 w' ∧ w2.heap.size ≤ d ∧ w2.heap.size ≤ h ∧ (0 < n → g2 = g)) := fun w2 p g hb hp hg hlt hG => by
      refine Calls.mono (NR.out w2 hb) ?_
      rintro e w' ⟨hb2, ⟨h, -⟩ | ⟨-, d, h, rfl, h1, h2, h3, h4⟩⟩
      · exact absurd hY h
      · have lp := hG.lt
        have hs2 := hb2.size
        have hs := hb.size
        by_cases h0 : 0 < n
        · have lg : g < w2.heap.size := by
            have q := hG.s 0 (by rw [List.length_map, hn.out]; exact h0)
            exact World.block_lt_of_cell? _ _ q.1
          exact ⟨d, h, g, rfl, ⟨hG.later hb2, h1, chain hb hb2, hg, by omega, by omega, by omega, by omega, by omega, by omega, AX.out, by omega, h4⟩, hb2, h2, h3, fun _ => rfl⟩
        · have l0 : l = [] := List.length_eq_zero_iff.1 (by rw [hn.out]; omega)
          have hG2 := hG.later hb2
          rw [l0] at hG2
          have hG3 : GAt w' p w.heap.size (l.map sg) := by
            rw [l0]
            obtain ⟨⟨x, cap, e1, -⟩, -, -, -, -⟩ := hG2
            exact ⟨⟨x, cap, e1, .inl rfl⟩, SiAt.nil _ _, by omega, Nat.zero_le _, fun i hi => absurd hi (Nat.not_lt_zero _)⟩
          exact ⟨d, h, w.heap.size, rfl, ⟨hG3, h1, chain hb hb2, Nat.le_refl _, by omega, by omega, by omega, by omega, by omega, by omega, AX.out, by omega, h4⟩, hb2, h2, h3, fun z => absurd z h0⟩
    rw [hY] at CK CR
    clear NG NR
    go_enter Tryd.func3, Tryd.ntmps3
    go_wp2_with (first | (at_builtin; refine Go.Lib.wpList_append_run _ rfl _ _ _ _ rfl _ _ rfl rfl _ _ hr ?_))
    refine Calls.mono CK.out ?_
    rintro e w2 ⟨rfl, hb⟩
    have B2 : Hid (Below w1.heap.size w1 w2 ∧ Below w.heap.size w w2) := ⟨hb, chain X1.out.2.2.1 hb⟩
    clear hb CK hr
    go_wp2_with fail
    refine Calls.mono (CR.out _ B2.out.2) ?_
    rintro e w3 ⟨rfl, hb⟩
    have B3 : Hid (Below w1.heap.size w1 w3 ∧ Below w.heap.size w w3) := ⟨chain B2.out.1 hb, chain B2.out.2 hb⟩
    clear hb CR B2
    go_wp2_with fail
    refine Calls.mono (NG2.out _ B3.out.1) ?_
    rintro e w4 ⟨p, g0, rfl, hG, hp, hg, hb⟩
    have X4 : Hid (GAt w4 p g0 (l.map sg) ∧ w3.heap.size ≤ p ∧ w3.heap.size ≤ g0 ∧ Below w1.heap.size w1 w4 ∧ Below w.heap.size w w4) := ⟨hG, hp, hg, chain B3.out.1 hb, chain B3.out.2 hb⟩
    clear hb hG hp hg NG2
    go_wp2_with fail
    refine Calls.mono (NR2.out _ p g0 X4.out.2.2.2.2 (by have := X1.out.2.2.2.2; have := B3.out.1.size; have := X4.out.2.1; omega) (Nat.le_trans B3.out.2.size X4.out.2.2.1) (by have := X1.out.2.2.2.2; have := X4.out.2.2.2.1.size; omega) X4.out.1) ?_
    rintro e w5 ⟨d, h, g, rfl, hP, hb, hd, hh, hgg⟩
    obtain ⟨QQ, hQ⟩ : ∃ QQ : World → Prop, QQ = fun wr => Pst w wr p g d h a n c (l.map sg) (l.map sg) := ⟨_, rfl⟩
    have Q0 : Hid (QQ w5 ∧ WrAt w5 gz (n * 2)) := by rw [hQ]; exact ⟨hP, X1.out.2.1.later (chain X4.out.2.2.2.1 hb)⟩
    have QS : Hid (0 < n → ∀ wr o v, QQ wr → QQ (wr.setCell ⟨gz, o, none⟩ v)) := fun h0 wr o v P => by
      have e1 := HG.out h0
      have e2 := B3.out.1.size
      have e3 := X4.out.2.1
      have e4 := X4.out.2.2.1
      have e5 := X4.out.2.2.2.1.size
      have e6 := hgg h0
      rw [hQ] at P ⊢
      exact Pst.setC P X1.out.2.2.2.1 (by omega) (by omega) (by omega) (by omega) o v
    clear hb hP hd hh hgg NR2 X4 B3 X1 HG AX
    go_wp2
    go_loopw [14] (fun i wr => ∃ k : Nat, k ≤ n ∧ i = .int .i64 (k : Int) ∧ Hid (QQ wr ∧ WrAt wr gz (n * 2))) (fun i _ => n - (intOf i).toNat)
    case atStart => exact ⟨0, Nat.zero_le _, rfl, Q0.out⟩
    case round =>
      obtain ⟨k, hk, rfl, I⟩ := hrel
      clear Q0
      by_cases hlt : k < n
      · have g1 : (k : Int) < (n : Int) := by omega
        have hn0 : 0 < n := by omega
        obtain rfl := HS.out hn0
        obtain ⟨i0, f0⟩ := I.out.2 (k * 2) (by omega)
        obtain ⟨i1, f1⟩ := I.out.2 (k * 2 + 1) (by omega)
        obtain ⟨x0, y0⟩ := Option.isSome_iff_exists.1 i0
        obtain ⟨x1, y1⟩ := Option.isSome_iff_exists.1 i1
        have N2 : Hid (QQ ((wr.setCell ⟨gz, k * 2, none⟩ (.int .i64 (-9))).setCell ⟨gz, k * 2 + 1, none⟩ (.string ⟨#[]⟩)) ∧ WrAt ((wr.setCell ⟨gz, k * 2, none⟩ (.int .i64 (-9))).setCell ⟨gz, k * 2 + 1, none⟩ (.string ⟨#[]⟩)) gz (n * 2)) := ⟨QS.out hn0 _ _ _ (QS.out hn0 _ _ _ I.out.1), (I.out.2.set _ _).set _ _⟩
        clear I i0 i1
        go_wp2
        go_roundw
        case rel => exact ⟨k + 1, by omega, by go_num, N2.out⟩
        case measure => simp [intOf]; omega
      · have g1 : ¬ (k : Int) < (n : Int) := by omega
        have QE : Hid (QQ wr) := I.out.1
        clear I hlt
        rw [hQ] at QE
        clear hQ QS HS
        go_wp2
        go_loopw [15] (fun i wr => ∃ (k : Nat) (S : List Si), k ≤ n2 ∧ i = .int .i64 (k : Int) ∧ Hid (Pst w wr p g d h a n c S S)) (fun i _ => n2 - (intOf i).toNat)
        case atStart => exact ⟨0, _, Nat.zero_le _, rfl, QE.out⟩
        case round =>
          obtain ⟨k, S, hk, rfl, I⟩ := hrel
          obtain ⟨wo, hwo⟩ : ∃ W, W = wr := ⟨_, rfl⟩
          clear QE
          by_cases hlt : k < n2
          · have g2 : (k : Int) < (n2 : Int) := by omega
            by_cases h60 : k < 60
            · have g3 : (k : Int) < 60 := by omega
              have hk' : k < ls.length := by rw [hn2.out]; exact hlt
              obtain ⟨b, o, rfl, -⟩ := hc2.out k hk'
              have HX : Hid (ls[k].L w) := hL'.out _ (List.getElem_mem hk')
              have CC : Hid (∀ w', Below w.heap.size w w' → w'.cell? ⟨b, o + k * 8, none⟩ = some (.int .i64 ls[k].m.k) ∧ w'.cell? ⟨b, o + k * 8 + 1, none⟩ = some (.int .i64 ls[k].m.u) ∧ w'.cell? ⟨b, o + k * 8 + 2, none⟩ = some (.int .i64 ls[k].m.q) ∧ w'.cell? ⟨b, o + k * 8 + 3, none⟩ = some (.string ls[k].m.t) ∧ w'.cell? ⟨b, o + k * 8 + 4, none⟩ = some (.string ls[k].m.g) ∧ w'.cell? ⟨b, o + k * 8 + 5, none⟩ = some (.slice ls[k].a ls[k].n ls[k].c) ∧ w'.cell? ⟨b, o + k * 8 + 6, none⟩ = some (.slice ls[k].a2 ls[k].n2 ls[k].c2) ∧ w'.cell? ⟨b, o + k * 8 + 7, none⟩ = some (.string ls[k].key)) := fun w' hb => by
                obtain ⟨b', o', e, q⟩ := hc2.out.later hb k hk'
                have e' := Option.some.inj e
                obtain ⟨rfl, rfl⟩ : b = b' ∧ o = o' := ⟨congrArg (fun (x : Addr) => x.block) e', congrArg (fun (x : Addr) => x.off) e'⟩
                exact q
              generalize ls[k] = x at HX CC
              clear hk'
              obtain ⟨⟨xk, xu, xq, xt, xg, xs, xi⟩, xa, xn, xc, xb, xm, xd, key⟩ := x
              simp only at CC
              obtain ⟨LX, zg, zs, zi⟩ : Lists w xa xn xc xb xm xd xs xi ∧ xg.size ≤ 140737488351232 ∧ xn * 32 ≤ 140737488351232 ∧ xm * 16 ≤ 140737488351232 := HX.out
              have HZ : Hid (Lists w xa xn xc xb xm xd xs xi ∧ xg.size ≤ 140737488351232 ∧ xn * 32 ≤ 140737488351232 ∧ xm * 16 ≤ 140737488351232) := ⟨LX, zg, zs, zi⟩
              clear HX LX zg zs zi
              have b1 := (chain I.out.b (gone wr (.cells #[.int .i64 xk, .int .i64 xu, .int .i64 xq, .string xt, .string xg, .slice xa xn xc, .slice xb xm xd] 38)))
              have M0 : Hid (Mst w (wr.alloc (.cells #[.int .i64 xk, .int .i64 xu, .int .i64 xq, .string xt, .string xg, .slice xa xn xc, .slice xb xm xd] 38)) p g d h a n c S wr.heap.size ⟨xk, xu, xq, xt, xg, xs, xi⟩ xa xn xc xb xm xd) := by
                exact ⟨I.out.later (gone _ _), MlAt.new wr _ xk xu xq xt xg xa xn xc xb xm xd, HZ.out.1, HZ.out.2.1, ⟨HZ.out.2.2.1, HZ.out.2.2.2⟩, by have := I.out.gl; omega, by have := I.out.hl; omega, by have := I.out.ga.lt; omega, by have := World.block_lt_of_cell? _ _ I.out.ra.c0; simp only at this; omega, I.out.b.size⟩
              obtain ⟨c0, c1', c2', c3, c4, c5, c6, c7⟩ := CC.out wr I.out.b
              obtain ⟨-, -, -, -, -, -, -, d7⟩ := CC.out _ b1
              have RS : Hid (∀ w2, Below w.heap.size w w2 → Calls Tryd.prog 12 #[.string key, (.agg #[.int .i64 xk, .int .i64 xu, .int .i64 xq, .string xt, .string xg, .slice xa xn xc, .slice xb xm xd])] w2 fun e w' => ∃ E yk yu yq yt yg ya yn yc yb ym yd, e = .returned (.tuple #[(.agg #[.int .i64 yk, .int .i64 yu, .int .i64 yq, .string yt, .string yg, .slice ya yn yc, .slice yb ym yd]), .int .i64 E]) ∧ Below w2.heap.size w2 w' ∧ (E = 0 → @Eq Value (.agg #[.int .i64 yk, .int .i64 yu, .int .i64 yq, .string yt, .string yg, .slice ya yn yc, .slice yb ym yd]) (.agg #[.int .i64 xk, .int .i64 xu, .int .i64 xq, .string xt, .string (tgM key ⟨xk, xu, xq, xt, xg, xs, xi⟩), .slice xa xn xc, .slice xb xm xd]))) := fun w2 hb => by
                refine Calls.mono (rSign_any key xk xu xq xt xg xa xn xc xb xm xd xs xi w2 (HZ.out.1.later hb)) ?_
                rintro e w' ⟨v, rfl, ⟨ya, yn, yc, yb, ym, yd, rfl, -⟩, hb, hv⟩
                exact ⟨_, _, _, _, _, _, ya, yn, yc, yb, ym, yd, rfl, hb, hv⟩
              obtain ⟨R, hR⟩ : ∃ R, tgM key ⟨xk, xu, xq, xt, xg, xs, xi⟩ = R := ⟨_, rfl⟩
              have HR : Hid (R.size ≤ 140737488351232) := by rw [← hR]; show (tgM key ⟨xk, xu, xq, xt, xg, xs, xi⟩).size ≤ _; rw [tgM_size]; omega
              rw [hR] at RS
              clear hR
              go_upto_if 102 with fail
              obtain ⟨W6, hW6⟩ : ∃ W6, wr.alloc (.cells #[.int .i64 xk, .int .i64 xu, .int .i64 xq, .string xt, .string xg, .slice xa xn xc, .slice xb xm xd] 38) = W6 := ⟨_, rfl⟩
              have BW : Hid (Below w.heap.size w W6) := by rw [← hW6]; exact b1
              rw [hW6] at M0 ⊢
              clear c0 c1' c2' c3 c4 c5 c6 c7 d7 b1 hW6 I
              generalize wr.heap.size = M at *
              go_cut [17] (fun s17 wx => ∃ yg : ByteArray, Hid (Mst w wx p g d h a n c S M ⟨xk, xu, xq, xt, yg, xs, xi⟩ xa xn xc xb xm xd))
              case first =>
                by_cases hk : key.size = 0
                · have zk : key.toList.isEmpty = true := by
                    have q := Mai.size_toList key
                    rw [decide_eq_true hk] at q
                    rw [List.isEmpty_iff]; exact eq_of_beq q
                  rw [zk, Bool.not_true]
                  go_wp2
                  go_meet
                  case rel => exact ⟨xg, M0.out⟩
                · have zk : key.toList.isEmpty = false := by
                    have q := Mai.size_toList key
                    rw [decide_eq_false hk] at q
                    cases hz : key.toList.isEmpty with
                    | false => rfl
                    | true => rw [List.isEmpty_iff.1 hz] at q; cases q
                  rw [zk, Bool.not_false]
                  go_wp2_with fail
                  obtain ⟨Z, hZ⟩ : ∃ Z, W6.drew = Z := ⟨_, rfl⟩
                  have PZ : Hid (Mst w Z p g d h a n c S M ⟨xk, xu, xq, xt, xg, xs, xi⟩ xa xn xc xb xm xd) := by rw [← hZ]; exact M0.out.later (Below.refl _ _).drew
                  have BZ : Hid (Below w.heap.size w Z) := by rw [← hZ]; exact BW.out.drew
                  have HH : Hid (∀ w', Below Z.heap.size Z w' → w'.cell? ⟨b, o + k * 8 + 7, none⟩ = some (.string key) ∧ w'.cell? ⟨M, 0, none⟩ = some (.int .i64 xk) ∧ w'.cell? ⟨M, 1, none⟩ = some (.int .i64 xu) ∧ w'.cell? ⟨M, 2, none⟩ = some (.int .i64 xq) ∧ w'.cell? ⟨M, 3, none⟩ = some (.string xt) ∧ w'.cell? ⟨M, 4, none⟩ = some (.string xg) ∧ w'.cell? ⟨M, 5, none⟩ = some (.slice xa xn xc) ∧ w'.cell? ⟨M, 6, none⟩ = some (.slice xb xm xd)) := fun w' hb => ⟨(CC.out w' (chain BZ.out hb)).2.2.2.2.2.2.2, (MlAt.later PZ.out.2.1 hb).2⟩
                  refine wp_region_noPanic ?_
                  refine wp_region_held_drew (S := fun w' => w'.cell? ⟨b, o + k * 8 + 7, none⟩ = some (.string key) ∧ w'.cell? ⟨M, 0, none⟩ = some (.int .i64 xk) ∧ w'.cell? ⟨M, 1, none⟩ = some (.int .i64 xu) ∧ w'.cell? ⟨M, 2, none⟩ = some (.int .i64 xq) ∧ w'.cell? ⟨M, 3, none⟩ = some (.string xt) ∧ w'.cell? ⟨M, 4, none⟩ = some (.string xg) ∧ w'.cell? ⟨M, 5, none⟩ = some (.slice xa xn xc) ∧ w'.cell? ⟨M, 6, none⟩ = some (.slice xb xm xd)) (by kernel_rfl) (by rw [hZ]; exact HH.out Z (Below.refl _ _)) (fun hHeld => ?_)
                  rw [hZ] at hHeld
                  rw [hZ]
                  clear hZ
                  refine wpAnyH_take (i := 0) (oi := opga0) (v := ?_) rfl (by kernel_rfl) (by kernel_rfl) (by kernel_rfl) (fun _ _ _ h => h) (Or.inl ⟨by rfl, ?_⟩) (by assumption) ?_
                  rotate_left
                  · intro w' hSw
                    clear hSw
                    unfold opga0
                    first
                    | (go_simp; done)
                    | (go_simp; with_reducible rfl)
                  simp only [opga0, Act.put, List.setIfInBounds_toArray, List.set_cons_zero, List.set_cons_succ]
                  refine wpAnyH_take (i := 1) (oi := opga1) (v := ?_) rfl (by kernel_rfl) (by kernel_rfl) (by kernel_rfl) (fun _ _ _ h => h) (Or.inl ⟨by rfl, ?_⟩) (by assumption) ?_
                  rotate_left
                  · intro w' hSw
                    clear hSw
                    unfold opga1
                    first
                    | (go_simp; done)
                    | (go_simp; with_reducible rfl)
                  simp only [opga1, Act.put, List.setIfInBounds_toArray, List.set_cons_zero, List.set_cons_succ]
                  refine wpAnyH_take (i := 2) (oi := opga2) (v := ?_) rfl (by kernel_rfl) (by kernel_rfl) (by kernel_rfl) (fun _ _ _ h => h) (Or.inl ⟨by rfl, ?_⟩) (by assumption) ?_
                  rotate_left
                  · intro w' hSw
                    clear hSw
                    unfold opga2
                    first
                    | (go_simp; done)
                    | (go_simp; with_reducible rfl)
                  simp only [opga2, Act.put, List.setIfInBounds_toArray, List.set_cons_zero, List.set_cons_succ]
                  refine wpAnyH_take (i := 3) (oi := opga3) (v := ?_) rfl (by kernel_rfl) (by kernel_rfl) (by kernel_rfl) (fun _ _ _ h => h) (Or.inl ⟨by rfl, ?_⟩) (by assumption) ?_
                  rotate_left
                  · intro w' hSw
                    clear hSw
                    unfold opga3
                    first
                    | (go_simp; done)
                    | (go_simp; with_reducible rfl)
                  simp only [opga3, Act.put, List.setIfInBounds_toArray, List.set_cons_zero, List.set_cons_succ]
                  refine wpAnyH_take (i := 4) (oi := opga4) (v := ?_) rfl (by kernel_rfl) (by kernel_rfl) (by kernel_rfl) (fun _ _ _ h => h) (Or.inl ⟨by rfl, ?_⟩) (by assumption) ?_
                  rotate_left
                  · intro w' hSw
                    obtain ⟨lk, l0, l1, l2, l3, l4, l5, l6⟩ := hSw
                    unfold opga4
                    first
                    | (go_simp; done)
                    | (go_simp; with_reducible rfl)
                  simp only [opga4, Act.put, List.setIfInBounds_toArray, List.set_cons_zero, List.set_cons_succ]
                  refine wpAnyH_take (i := 5) (oi := opga5) (v := ?_) rfl (by kernel_rfl) (by kernel_rfl) (by kernel_rfl) (fun _ _ _ h => h) (Or.inl ⟨by rfl, ?_⟩) (by assumption) ?_
                  rotate_left
                  · intro w' hSw
                    obtain ⟨lk, l0, l1, l2, l3, l4, l5, l6⟩ := hSw
                    unfold opga5
                    first
                    | (go_simp; done)
                    | (go_simp; with_reducible rfl)
                  simp only [opga5, Act.put, List.setIfInBounds_toArray, List.set_cons_zero, List.set_cons_succ]
                  refine wpAnyH_ready (rs := [6, 10]) (by kernel_rfl) (by simp) ?_
                  refine AllReadyH.cons (o := opga6) rfl (fun KK hKK => ?_) (AllReadyH.cons (o := opga10) rfl (fun KK hKK => ?_) AllReadyH.nil)
                  · unfold opga6
                    go_simp
                    refine Calls.mono (RS.out _ BZ.out) ?_
                    rintro e w17 ⟨E, yk, yu, yq, yt, yg, ya, yn, yc, yb, ym, yd, rfl, hb, hy⟩
                    have B17 : Hid (Below Z.heap.size Z w17) := hb
                    have YE : Hid _ := hy
                    clear hb hy
                    refine hKK.out _ _ (HH.out w17 B17.out) (fun hHc => ?_)
                    clear hKK KK
                    try simp only [opga6, Act.put, List.setIfInBounds_toArray, List.set_cons_zero, List.set_cons_succ]
                    refine wpAnyH_take (i := 7) (oi := opga7) (v := ?_) rfl (by kernel_rfl) (by kernel_rfl) (by kernel_rfl) (fun _ _ _ h => h) (Or.inl ⟨by rfl, ?_⟩) (by assumption) ?_
                    rotate_left
                    · intro w' hSw
                      clear hSw
                      unfold opga7
                      first
                      | (go_simp; done)
                      | (go_simp; with_reducible rfl)
                    simp only [opga7, Act.put, List.setIfInBounds_toArray, List.set_cons_zero, List.set_cons_succ]
                    refine wpAnyH_take (i := 8) (oi := opga8) (v := ?_) rfl (by kernel_rfl) (by kernel_rfl) (by kernel_rfl) (fun _ _ _ h => h) (Or.inl ⟨by rfl, ?_⟩) (by assumption) ?_
                    rotate_left
                    · intro w' hSw
                      clear hSw
                      unfold opga8
                      first
                      | (go_simp; done)
                      | (go_simp; with_reducible rfl)
                    simp only [opga8, Act.put, List.setIfInBounds_toArray, List.set_cons_zero, List.set_cons_succ]
                    refine wpAnyH_take (i := 9) (oi := opga9) (v := ?_) rfl (by kernel_rfl) (by kernel_rfl) (by kernel_rfl) (fun _ _ _ h => h) (Or.inl ⟨by rfl, ?_⟩) (by assumption) ?_
                    rotate_left
                    · intro w' hSw
                      clear hSw
                      unfold opga9
                      first
                      | (go_simp; done)
                      | (go_simp; with_reducible rfl)
                    simp only [opga9, Act.put, List.setIfInBounds_toArray, List.set_cons_zero, List.set_cons_succ]
                    refine wpAnyH_ready (rs := [10]) (by kernel_rfl) (by simp) ?_
                    refine AllReadyH.cons (o := opga10) rfl (fun KK hKK => ?_) AllReadyH.nil
                    unfold opga10
                    go_simp
                    refine hKK.out _ _ (HH.out _ (chain B17.out (gone w17 (.cells #[.int .i64 0, .int .i64 0, .int .i64 0, .string ⟨#[]⟩, .string ⟨#[]⟩, .slice none 0 0, .slice none 0 0] 38)))) (fun hHa => ?_)
                    clear hKK KK
                    try simp only [opga10, Act.put, List.setIfInBounds_toArray, List.set_cons_zero, List.set_cons_succ]
                    refine wpAnyH_ready (rs := [11]) (by kernel_rfl) (by simp) ?_
                    refine AllReadyH.cons (o := opga11) rfl (fun KK hKK => ?_) AllReadyH.nil
                    have NX : Hid (Below Z.heap.size Z (w17.alloc (.cells #[.int .i64 yk, .int .i64 yu, .int .i64 yq, .string yt, .string yg, .slice ya yn yc, .slice yb ym yd] 38)) ∧ MlAt (w17.alloc (.cells #[.int .i64 yk, .int .i64 yu, .int .i64 yq, .string yt, .string yg, .slice ya yn yc, .slice yb ym yd] 38)) w17.heap.size yk yu yq yt yg ya yn yc yb ym yd) := ⟨chain B17.out (gone _ _), MlAt.new w17 _ yk yu yq yt yg ya yn yc yb ym yd⟩
                    unfold opga11
                    go_simp
                    refine hKK.out _ _ (HH.out _ NX.out.1) (fun hHs => ?_)
                    clear hKK KK
                    try simp only [opga11, Act.put, List.setIfInBounds_toArray, List.set_cons_zero, List.set_cons_succ]
                    refine wpAnyH_take (i := 12) (oi := opga12) (v := ?_) rfl (by kernel_rfl) (by kernel_rfl) (by kernel_rfl) (fun _ _ _ h => h) (Or.inl ⟨by rfl, ?_⟩) (by assumption) ?_
                    rotate_left
                    · intro w' hSw
                      clear hSw
                      unfold opga12
                      first
                      | (go_simp; done)
                      | (go_simp; with_reducible rfl)
                    simp only [opga12, Act.put, List.setIfInBounds_toArray, List.set_cons_zero, List.set_cons_succ]
                    refine wpAnyH_done (by kernel_rfl) ?_ _
                    refine NoPanic.normal ?_
                    obtain ⟨X17, hX17⟩ : ∃ X, (w17.alloc (.cells #[.int .i64 yk, .int .i64 yu, .int .i64 yq, .string yt, .string yg, .slice ya yn yc, .slice yb ym yd] 38)) = X := ⟨_, rfl⟩
                    rw [hX17] at NX ⊢
                    clear hX17
                    have PX : Hid (Mst w X17 p g d h a n c S M ⟨xk, xu, xq, xt, xg, xs, xi⟩ xa xn xc xb xm xd) := PZ.out.later NX.out.1
                    obtain ⟨-, t0, t1, t2, t3, t4, t5, t6⟩ := NX.out.2
                    obtain ⟨fm, m0, m1, m2, m3, m4, m5, m6⟩ := PX.out.2.1
                    simp only at m0 m1 m2 m3 m4 m5 m6
                    clear HH PZ B17 RS
                    by_cases hE : E = 0
                    · have q := YE.out hE
                      cases q
                      have FX : Hid (Mst w _ p g d h a n c S M ⟨xk, xu, xq, xt, R, xs, xi⟩ xa xn xc xb xm xd) := PX.out.put R HR.out
                      clear NX PX YE
                      go_wp2
                      go_meet
                      case rel => exact ⟨R, FX.out⟩
                    · clear NX YE t0 t1 t2 t3 t4 t5 t6 fm m0 m1 m2 m3 m4 m5 m6
                      go_wp2
                      go_meet
                      case rel => exact ⟨xg, PX.out⟩
                  · unfold opga10
                    go_simp
                    refine hKK.out _ _ (HH.out _ (gone Z (.cells #[.int .i64 0, .int .i64 0, .int .i64 0, .string ⟨#[]⟩, .string ⟨#[]⟩, .slice none 0 0, .slice none 0 0] 38))) (fun hHa => ?_)
                    clear hKK KK
                    try simp only [opga10, Act.put, List.setIfInBounds_toArray, List.set_cons_zero, List.set_cons_succ]
                    refine wpAnyH_ready (rs := [6]) (by kernel_rfl) (by simp) ?_
                    refine AllReadyH.cons (o := opga6) rfl (fun KK hKK => ?_) AllReadyH.nil
                    unfold opga6
                    go_simp
                    refine Calls.mono (RS.out _ (chain BZ.out (gone Z (.cells #[.int .i64 0, .int .i64 0, .int .i64 0, .string ⟨#[]⟩, .string ⟨#[]⟩, .slice none 0 0, .slice none 0 0] 38)))) ?_
                    rintro e w17 ⟨E, yk, yu, yq, yt, yg, ya, yn, yc, yb, ym, yd, rfl, hb, hy⟩
                    have B17 : Hid (Below Z.heap.size Z w17) := chain (gone Z (.cells #[.int .i64 0, .int .i64 0, .int .i64 0, .string ⟨#[]⟩, .string ⟨#[]⟩, .slice none 0 0, .slice none 0 0] 38)) hb
                    have M17 : Hid (MlAt w17 Z.heap.size 0 0 0 ⟨#[]⟩ ⟨#[]⟩ none 0 0 none 0 0) := MlAt.later (MlAt.new Z 38 0 0 0 ⟨#[]⟩ ⟨#[]⟩ none 0 0 none 0 0) hb
                    have YE : Hid _ := hy
                    clear hb hy
                    refine hKK.out _ _ (HH.out w17 B17.out) (fun hHc => ?_)
                    clear hKK KK
                    try simp only [opga6, Act.put, List.setIfInBounds_toArray, List.set_cons_zero, List.set_cons_succ]
                    refine wpAnyH_take (i := 7) (oi := opga7) (v := ?_) rfl (by kernel_rfl) (by kernel_rfl) (by kernel_rfl) (fun _ _ _ h => h) (Or.inl ⟨by rfl, ?_⟩) (by assumption) ?_
                    rotate_left
                    · intro w' hSw
                      clear hSw
                      unfold opga7
                      first
                      | (go_simp; done)
                      | (go_simp; with_reducible rfl)
                    simp only [opga7, Act.put, List.setIfInBounds_toArray, List.set_cons_zero, List.set_cons_succ]
                    refine wpAnyH_take (i := 8) (oi := opga8) (v := ?_) rfl (by kernel_rfl) (by kernel_rfl) (by kernel_rfl) (fun _ _ _ h => h) (Or.inl ⟨by rfl, ?_⟩) (by assumption) ?_
                    rotate_left
                    · intro w' hSw
                      clear hSw
                      unfold opga8
                      first
                      | (go_simp; done)
                      | (go_simp; with_reducible rfl)
                    simp only [opga8, Act.put, List.setIfInBounds_toArray, List.set_cons_zero, List.set_cons_succ]
                    refine wpAnyH_take (i := 9) (oi := opga9) (v := ?_) rfl (by kernel_rfl) (by kernel_rfl) (by kernel_rfl) (fun _ _ _ h => h) (Or.inl ⟨by rfl, ?_⟩) (by assumption) ?_
                    rotate_left
                    · intro w' hSw
                      clear hSw
                      unfold opga9
                      first
                      | (go_simp; done)
                      | (go_simp; with_reducible rfl)
                    simp only [opga9, Act.put, List.setIfInBounds_toArray, List.set_cons_zero, List.set_cons_succ]
                    refine wpAnyH_ready (rs := [11]) (by kernel_rfl) (by simp) ?_
                    refine AllReadyH.cons (o := opga11) rfl (fun KK hKK => ?_) AllReadyH.nil
                    have NX : Hid (Below Z.heap.size Z (((((((w17.setCell ⟨Z.heap.size, 0, none⟩ (.int .i64 yk)).setCell ⟨Z.heap.size, 1, none⟩ (.int .i64 yu)).setCell ⟨Z.heap.size, 2, none⟩ (.int .i64 yq)).setCell ⟨Z.heap.size, 3, none⟩ (.string yt)).setCell ⟨Z.heap.size, 4, none⟩ (.string yg)).setCell ⟨Z.heap.size, 5, none⟩ (.slice ya yn yc)).setCell ⟨Z.heap.size, 6, none⟩ (.slice yb ym yd)) ∧ MlAt (((((((w17.setCell ⟨Z.heap.size, 0, none⟩ (.int .i64 yk)).setCell ⟨Z.heap.size, 1, none⟩ (.int .i64 yu)).setCell ⟨Z.heap.size, 2, none⟩ (.int .i64 yq)).setCell ⟨Z.heap.size, 3, none⟩ (.string yt)).setCell ⟨Z.heap.size, 4, none⟩ (.string yg)).setCell ⟨Z.heap.size, 5, none⟩ (.slice ya yn yc)).setCell ⟨Z.heap.size, 6, none⟩ (.slice yb ym yd)) Z.heap.size yk yu yq yt yg ya yn yc yb ym yd) := ⟨Mai.below_whole B17.out (Nat.le_refl _) _ _ _ _ _ _ _, Mai.MlAt.whole M17.out yk yu yq yt yg ya yn yc yb ym yd⟩
                    obtain ⟨f4, t0, t1, t2, t3, t4, t5, t6⟩ := M17.out
                    unfold opga11
                    go_simp
                    refine hKK.out _ _ (HH.out _ NX.out.1) (fun hHs => ?_)
                    clear hKK KK
                    clear f4 t0 t1 t2 t3 t4 t5 t6
                    try simp only [opga11, Act.put, List.setIfInBounds_toArray, List.set_cons_zero, List.set_cons_succ]
                    refine wpAnyH_take (i := 12) (oi := opga12) (v := ?_) rfl (by kernel_rfl) (by kernel_rfl) (by kernel_rfl) (fun _ _ _ h => h) (Or.inl ⟨by rfl, ?_⟩) (by assumption) ?_
                    rotate_left
                    · intro w' hSw
                      clear hSw
                      unfold opga12
                      first
                      | (go_simp; done)
                      | (go_simp; with_reducible rfl)
                    simp only [opga12, Act.put, List.setIfInBounds_toArray, List.set_cons_zero, List.set_cons_succ]
                    refine wpAnyH_done (by kernel_rfl) ?_ _
                    refine NoPanic.normal ?_
                    obtain ⟨X17, hX17⟩ : ∃ X, (((((((w17.setCell ⟨Z.heap.size, 0, none⟩ (.int .i64 yk)).setCell ⟨Z.heap.size, 1, none⟩ (.int .i64 yu)).setCell ⟨Z.heap.size, 2, none⟩ (.int .i64 yq)).setCell ⟨Z.heap.size, 3, none⟩ (.string yt)).setCell ⟨Z.heap.size, 4, none⟩ (.string yg)).setCell ⟨Z.heap.size, 5, none⟩ (.slice ya yn yc)).setCell ⟨Z.heap.size, 6, none⟩ (.slice yb ym yd)) = X := ⟨_, rfl⟩
                    rw [hX17] at NX ⊢
                    clear hX17
                    have PX : Hid (Mst w X17 p g d h a n c S M ⟨xk, xu, xq, xt, xg, xs, xi⟩ xa xn xc xb xm xd) := PZ.out.later NX.out.1
                    obtain ⟨-, t0, t1, t2, t3, t4, t5, t6⟩ := NX.out.2
                    obtain ⟨fm, m0, m1, m2, m3, m4, m5, m6⟩ := PX.out.2.1
                    simp only at m0 m1 m2 m3 m4 m5 m6
                    clear HH PZ B17 RS
                    by_cases hE : E = 0
                    · have q := YE.out hE
                      cases q
                      have FX : Hid (Mst w _ p g d h a n c S M ⟨xk, xu, xq, xt, R, xs, xi⟩ xa xn xc xb xm xd) := PX.out.put R HR.out
                      clear NX PX YE
                      go_wp2
                      go_meet
                      case rel => exact ⟨R, FX.out⟩
                    · clear NX YE t0 t1 t2 t3 t4 t5 t6 fm m0 m1 m2 m3 m4 m5 m6
                      go_wp2
                      go_meet
                      case rel => exact ⟨xg, PX.out⟩
              case rest =>
              obtain ⟨yg, P⟩ := hcut
              clear M0 RS CC BW
              have CP : Hid _ := Mai.copyMail_own xk xu xq xt yg xa xn xc xb xm xd xs xi HZ.out.2.2.1 HZ.out.2.2.2 wc (HZ.out.1.later P.out.1.b)
              obtain ⟨fm, m0, m1, m2, m3, m4, m5, m6⟩ := P.out.2.1
              simp only at m0 m1 m2 m3 m4 m5 m6
              unfold mv at CP
              go_wp2_with fail
              refine Calls.mono CP.out ?_
              rintro e w8 ⟨za, zc, zb, zd, rfl, LZ, hb, bz1, bz2⟩
              have P8 : Hid (Mst w w8 p g d h a n c S M ⟨xk, xu, xq, xt, yg, xs, xi⟩ xa xn xc xb xm xd) := P.out.later hb
              have lg := P.out.1.gl
              have lh := P.out.1.hl
              have Z8 : Hid (Lists w8 za xn zc zb xm zd xs xi ∧ (∀ x, za = some x → x.block ≠ g ∧ x.block ≠ h) ∧ (∀ x, zb = some x → x.block ≠ g ∧ x.block ≠ h)) := ⟨LZ, fun x hx => ⟨by have := bz1 x hx; omega, by have := bz1 x hx; omega⟩, fun x hx => ⟨by have := bz2 x hx; omega, by have := bz2 x hx; omega⟩⟩
              clear CP hb LZ bz1 bz2 lg lh fm m0 m1 m2 m3 m4 m5 m6 P
              go_wp2_with fail
              have MN : Hid (MlAt (w8.alloc (.cells #[.int .i64 xk, .int .i64 xu, .int .i64 xq, .string xt, .string yg, .slice za xn zc, .slice zb xm zd] 38)) w8.heap.size xk xu xq xt yg za xn zc zb xm zd) := MlAt.new w8 _ xk xu xq xt yg za xn zc zb xm zd
              obtain ⟨W9, hW9⟩ : ∃ W9, w8.alloc (.cells #[.int .i64 xk, .int .i64 xu, .int .i64 xq, .string xt, .string yg, .slice za xn zc, .slice zb xm zd] 38) = W9 := ⟨_, rfl⟩
              have P9 : Hid (Mst w W9 p g d h a n c S M ⟨xk, xu, xq, xt, yg, xs, xi⟩ xa xn xc xb xm xd) := by rw [← hW9]; exact P8.out.later (gone _ _)
              have L9 : Hid (Lists W9 za xn zc zb xm zd xs xi) := by rw [← hW9]; exact Z8.out.1.later (gone _ _)
              have NE : Hid (w8.heap.size ≠ g ∧ w8.heap.size ≠ h) := ⟨by have := P8.out.1.gl; omega, by have := P8.out.1.hl; omega⟩
              rw [hW9] at MN ⊢
              clear hW9 P8
              generalize w8.heap.size = N at *
              obtain ⟨Z, hZ⟩ : ∃ Z, W9.drew = Z := ⟨_, rfl⟩
              have PZ : Hid (Mst w Z p g d h a n c S M ⟨xk, xu, xq, xt, yg, xs, xi⟩ xa xn xc xb xm xd) := by rw [← hZ]; exact P9.out.later (Below.refl _ _).drew
              have LZ : Hid (Lists Z za xn zc zb xm zd xs xi) := by rw [← hZ]; exact L9.out.later (Below.refl _ _).drew
              have SZ : (Z.cell? ⟨N, 0, none⟩ = some (.int .i64 xk) ∧ Z.cell? ⟨N, 1, none⟩ = some (.int .i64 xu) ∧ Z.cell? ⟨N, 2, none⟩ = some (.int .i64 xq) ∧ Z.cell? ⟨N, 3, none⟩ = some (.string xt) ∧ Z.cell? ⟨N, 4, none⟩ = some (.string yg) ∧ Z.cell? ⟨N, 5, none⟩ = some (.slice za xn zc) ∧ Z.cell? ⟨N, 6, none⟩ = some (.slice zb xm zd)) ∧ Z.cell? ⟨M, 0, none⟩ = some (.int .i64 xk) ∧ Z.cell? ⟨M, 1, none⟩ = some (.int .i64 xu) ∧ Z.cell? ⟨M, 2, none⟩ = some (.int .i64 xq) ∧ Z.cell? ⟨M, 3, none⟩ = some (.string xt) ∧ Z.cell? ⟨M, 4, none⟩ = some (.string yg) ∧ Z.cell? ⟨M, 5, none⟩ = some (.slice xa xn xc) ∧ Z.cell? ⟨M, 6, none⟩ = some (.slice xb xm xd) := ⟨by rw [← hZ]; exact MN.out.2, PZ.out.2.1.2⟩
              have KL : Hid (Kh w) := K
              obtain ⟨E, hE⟩ : ∃ E, adE S ⟨xk, xu, xq, xt, yg, xs, xi⟩ = E := ⟨_, rfl⟩
              obtain ⟨S1, hS1⟩ : ∃ S1, adS S ⟨xk, xu, xq, xt, yg, xs, xi⟩ = S1 := ⟨_, rfl⟩
              have AG : Hid (Calls Tryd.prog 14 #[.pointer (some ⟨p, 0, none⟩), (.agg #[.int .i64 xk, .int .i64 xu, .int .i64 xq, .string xt, .string yg, .slice za xn zc, .slice zb xm zd])] Z fun e w' => e = .returned (.int .i64 E) ∧ GAt w' p g S1 ∧ Bf (fun x => x = g) Z w') := by
                have q := admitW p g S (.agg #[.int .i64 xk, .int .i64 xu, .int .i64 xq, .string xt, .string yg, .slice za xn zc, .slice zb xm zd]) ⟨xk, xu, xq, xt, yg, xs, xi⟩ PZ.out.2.2.2.1 Z PZ.out.1.ga ⟨za, xn, zc, zb, xm, zd, rfl, LZ.out⟩ (K.out.later PZ.out.1.b)
                rw [hE, hS1] at q
                exact q
              have AR : Hid (∀ w2, Pst w w2 p g d h a n c S1 S → Calls Tryd.prog 15 #[.pointer (some ⟨d, 0, none⟩), (.agg #[.int .i64 xk, .int .i64 xu, .int .i64 xq, .string xt, .string yg, .slice xa xn xc, .slice xb xm xd])] w2 fun e w' => e = .returned (.int .i64 E) ∧ RAt w' d h a n c S1 ∧ Bf (fun x => x = h) w2 w') := fun w2 q => by
                have r := rAdmitV d h a n c S (.agg #[.int .i64 xk, .int .i64 xu, .int .i64 xq, .string xt, .string yg, .slice xa xn xc, .slice xb xm xd]) ⟨xk, xu, xq, xt, yg, xs, xi⟩ w2 q.ra ⟨xa, xn, xc, xb, xm, xd, rfl, PZ.out.2.2.1.later q.b⟩
                rw [hE, hS1] at r
                exact r
              have SM : Hid (∀ w2, Below w.heap.size w w2 → Lists w2 za xn zc zb xm zd xs xi → Calls Tryd.prog 16 #[(.agg #[.int .i64 xk, .int .i64 xu, .int .i64 xq, .string xt, .string yg, .slice za xn zc, .slice zb xm zd]), (.agg #[.int .i64 xk, .int .i64 xu, .int .i64 xq, .string xt, .string yg, .slice xa xn xc, .slice xb xm xd])] w2 fun e w' => e = .returned (.bool true) ∧ Below w2.heap.size w2 w') := fun w2 hb hl => Mai.sameMail_yes _ _ ⟨xk, xu, xq, xt, yg, xs, xi⟩ w2 ⟨za, xn, zc, zb, xm, zd, rfl, hl⟩ ⟨xa, xn, xc, xb, xm, xd, rfl, PZ.out.2.2.1.later hb⟩
              clear hE hS1 P9 L9 MN
              refine wp_region_noPanic ?_
              refine wp_region_held_drew (S := fun w' => (w'.cell? ⟨N, 0, none⟩ = some (.int .i64 xk) ∧ w'.cell? ⟨N, 1, none⟩ = some (.int .i64 xu) ∧ w'.cell? ⟨N, 2, none⟩ = some (.int .i64 xq) ∧ w'.cell? ⟨N, 3, none⟩ = some (.string xt) ∧ w'.cell? ⟨N, 4, none⟩ = some (.string yg) ∧ w'.cell? ⟨N, 5, none⟩ = some (.slice za xn zc) ∧ w'.cell? ⟨N, 6, none⟩ = some (.slice zb xm zd)) ∧ w'.cell? ⟨M, 0, none⟩ = some (.int .i64 xk) ∧ w'.cell? ⟨M, 1, none⟩ = some (.int .i64 xu) ∧ w'.cell? ⟨M, 2, none⟩ = some (.int .i64 xq) ∧ w'.cell? ⟨M, 3, none⟩ = some (.string xt) ∧ w'.cell? ⟨M, 4, none⟩ = some (.string yg) ∧ w'.cell? ⟨M, 5, none⟩ = some (.slice xa xn xc) ∧ w'.cell? ⟨M, 6, none⟩ = some (.slice xb xm xd)) (by kernel_rfl) (by rw [hZ]; exact SZ) (fun hHeld => ?_)
              rw [hZ] at hHeld
              rw [hZ]
              clear hZ
              refine wpAnyH_take (i := 0) (oi := opgb0) (v := ?_) rfl (by kernel_rfl) (by kernel_rfl) (by kernel_rfl) (fun _ _ _ h => h) (Or.inl ⟨by rfl, ?_⟩) (by assumption) ?_
              rotate_left
              · intro w' hSw
                clear hSw
                unfold opgb0
                first
                | (go_simp; done)
                | (go_simp; with_reducible rfl)
              simp only [opgb0, Act.put, List.setIfInBounds_toArray, List.set_cons_zero, List.set_cons_succ]
              refine wpAnyH_take (i := 1) (oi := opgb1) (v := ?_) rfl (by kernel_rfl) (by kernel_rfl) (by kernel_rfl) (fun _ _ _ h => h) (Or.inl ⟨by rfl, ?_⟩) (by assumption) ?_
              rotate_left
              · intro w' hSw
                obtain ⟨⟨l0, l1, l2, l3, l4, l5, l6⟩, r0, r1, r2, r3, r4, r5, r6⟩ := hSw
                unfold opgb1
                first
                | (go_simp; done)
                | (go_simp; with_reducible rfl)
              simp only [opgb1, Act.put, List.setIfInBounds_toArray, List.set_cons_zero, List.set_cons_succ]
              refine wpAnyH_take (i := 3) (oi := opgb3) (v := ?_) rfl (by kernel_rfl) (by kernel_rfl) (by kernel_rfl) (fun _ _ _ h => h) (Or.inl ⟨by rfl, ?_⟩) (by assumption) ?_
              rotate_left
              · intro w' hSw
                clear hSw
                unfold opgb3
                first
                | (go_simp; done)
                | (go_simp; with_reducible rfl)
              simp only [opgb3, Act.put, List.setIfInBounds_toArray, List.set_cons_zero, List.set_cons_succ]
              refine wpAnyH_take (i := 4) (oi := opgb4) (v := ?_) rfl (by kernel_rfl) (by kernel_rfl) (by kernel_rfl) (fun _ _ _ h => h) (Or.inl ⟨by rfl, ?_⟩) (by assumption) ?_
              rotate_left
              · intro w' hSw
                obtain ⟨⟨l0, l1, l2, l3, l4, l5, l6⟩, r0, r1, r2, r3, r4, r5, r6⟩ := hSw
                unfold opgb4
                first
                | (go_simp; done)
                | (go_simp; with_reducible rfl)
              simp only [opgb4, Act.put, List.setIfInBounds_toArray, List.set_cons_zero, List.set_cons_succ]
              refine wpAnyH_ready (rs := [2]) (by kernel_rfl) (by simp) ?_
              refine AllReadyH.cons (o := opgb2) rfl (fun KK hKK => ?_) AllReadyH.nil
              unfold opgb2
              go_simp
              refine Calls.mono AG.out ?_
              rintro e wA ⟨rfl, hA1, hA2⟩
              have SwA : (wA.cell? ⟨N, 0, none⟩ = some (.int .i64 xk) ∧ wA.cell? ⟨N, 1, none⟩ = some (.int .i64 xu) ∧ wA.cell? ⟨N, 2, none⟩ = some (.int .i64 xq) ∧ wA.cell? ⟨N, 3, none⟩ = some (.string xt) ∧ wA.cell? ⟨N, 4, none⟩ = some (.string yg) ∧ wA.cell? ⟨N, 5, none⟩ = some (.slice za xn zc) ∧ wA.cell? ⟨N, 6, none⟩ = some (.slice zb xm zd)) ∧ wA.cell? ⟨M, 0, none⟩ = some (.int .i64 xk) ∧ wA.cell? ⟨M, 1, none⟩ = some (.int .i64 xu) ∧ wA.cell? ⟨M, 2, none⟩ = some (.int .i64 xq) ∧ wA.cell? ⟨M, 3, none⟩ = some (.string xt) ∧ wA.cell? ⟨M, 4, none⟩ = some (.string yg) ∧ wA.cell? ⟨M, 5, none⟩ = some (.slice xa xn xc) ∧ wA.cell? ⟨M, 6, none⟩ = some (.slice xb xm xd) := ⟨Sev.apart SZ.1 hA2 NE.out.1, Sev.apart SZ.2 hA2 PZ.out.2.2.2.2.2.1⟩
              have PA : Hid (Pst w wA p g d h a n c S1 S ∧ Lists wA za xn zc zb xm zd xs xi) := ⟨PZ.out.1.stepG hA1 hA2, lists_ap LZ.out hA2 (fun x hx => (Z8.out.2.1 x hx).1) (fun x hx => (Z8.out.2.2 x hx).1)⟩
              clear hA1 hA2 AG
              refine hKK.out _ _ SwA (fun hH2 => ?_)
              clear hKK KK
              try simp only [opgb2, Act.put, List.setIfInBounds_toArray, List.set_cons_zero, List.set_cons_succ]
              refine wpAnyH_ready (rs := [5]) (by kernel_rfl) (by simp) ?_
              refine AllReadyH.cons (o := opgb5) rfl (fun KK hKK => ?_) AllReadyH.nil
              unfold opgb5
              go_simp
              refine Calls.mono (AR.out _ PA.out.1) ?_
              rintro e wB ⟨rfl, hB1, hB2⟩
              have SwB : (wB.cell? ⟨N, 0, none⟩ = some (.int .i64 xk) ∧ wB.cell? ⟨N, 1, none⟩ = some (.int .i64 xu) ∧ wB.cell? ⟨N, 2, none⟩ = some (.int .i64 xq) ∧ wB.cell? ⟨N, 3, none⟩ = some (.string xt) ∧ wB.cell? ⟨N, 4, none⟩ = some (.string yg) ∧ wB.cell? ⟨N, 5, none⟩ = some (.slice za xn zc) ∧ wB.cell? ⟨N, 6, none⟩ = some (.slice zb xm zd)) ∧ wB.cell? ⟨M, 0, none⟩ = some (.int .i64 xk) ∧ wB.cell? ⟨M, 1, none⟩ = some (.int .i64 xu) ∧ wB.cell? ⟨M, 2, none⟩ = some (.int .i64 xq) ∧ wB.cell? ⟨M, 3, none⟩ = some (.string xt) ∧ wB.cell? ⟨M, 4, none⟩ = some (.string yg) ∧ wB.cell? ⟨M, 5, none⟩ = some (.slice xa xn xc) ∧ wB.cell? ⟨M, 6, none⟩ = some (.slice xb xm xd) := ⟨Sev.apart SwA.1 hB2 NE.out.2, Sev.apart SwA.2 hB2 PZ.out.2.2.2.2.2.2.1⟩
              have PB : Hid (Pst w wB p g d h a n c S1 S1 ∧ Lists wB za xn zc zb xm zd xs xi) := ⟨PA.out.1.stepR hB1 hB2, lists_ap PA.out.2 hB2 (fun x hx => (Z8.out.2.1 x hx).2) (fun x hx => (Z8.out.2.2 x hx).2)⟩
              clear hB1 hB2 AR
              refine hKK.out _ _ SwB (fun hH5 => ?_)
              clear hKK KK
              try simp only [opgb5, Act.put, List.setIfInBounds_toArray, List.set_cons_zero, List.set_cons_succ]
              refine wpAnyH_take (i := 6) (oi := opgb6) (v := (.bool false)) rfl (by kernel_rfl) (by kernel_rfl) (by kernel_rfl) (fun _ _ _ h => h) (Or.inl ⟨by rfl, ?_⟩) (by assumption) ?_
              · intro w' hSw
                clear hSw
                unfold opgb6
                first
                | (go_simp; done)
                | (go_simp; with_reducible rfl)
              simp only [opgb6, Act.put, List.setIfInBounds_toArray, List.set_cons_zero, List.set_cons_succ]
              refine wpAnyH_take (i := 7) (oi := opgb7) (v := ?_) rfl (by kernel_rfl) (by kernel_rfl) (by kernel_rfl) (fun _ _ _ h => h) (Or.inl ⟨by rfl, ?_⟩) (by assumption) ?_
              rotate_left
              · intro w' hSw
                clear hSw
                unfold opgb7
                first
                | (go_simp; done)
                | (go_simp; with_reducible rfl)
              simp only [opgb7, Act.put, List.setIfInBounds_toArray, List.set_cons_zero, List.set_cons_succ]
              refine wpAnyH_take (i := 8) (oi := opgb8) (v := ?_) rfl (by kernel_rfl) (by kernel_rfl) (by kernel_rfl) (fun _ _ _ h => h) (Or.inl ⟨by rfl, ?_⟩) (by assumption) ?_
              rotate_left
              · intro w' hSw
                obtain ⟨⟨l0, l1, l2, l3, l4, l5, l6⟩, r0, r1, r2, r3, r4, r5, r6⟩ := hSw
                unfold opgb8
                first
                | (go_simp; done)
                | (go_simp; with_reducible rfl)
              simp only [opgb8, Act.put, List.setIfInBounds_toArray, List.set_cons_zero, List.set_cons_succ]
              refine wpAnyH_take (i := 9) (oi := opgb9) (v := ?_) rfl (by kernel_rfl) (by kernel_rfl) (by kernel_rfl) (fun _ _ _ h => h) (Or.inl ⟨by rfl, ?_⟩) (by assumption) ?_
              rotate_left
              · intro w' hSw
                obtain ⟨⟨l0, l1, l2, l3, l4, l5, l6⟩, r0, r1, r2, r3, r4, r5, r6⟩ := hSw
                unfold opgb9
                first
                | (go_simp; done)
                | (go_simp; with_reducible rfl)
              simp only [opgb9, Act.put, List.setIfInBounds_toArray, List.set_cons_zero, List.set_cons_succ]
              refine wpAnyH_ready (rs := [10]) (by kernel_rfl) (by simp) ?_
              refine AllReadyH.cons (o := opgb10) rfl (fun KK hKK => ?_) AllReadyH.nil
              unfold opgb10
              go_simp
              refine Calls.mono (SM.out _ PB.out.1.b PB.out.2) ?_
              rintro e wC ⟨rfl, hb⟩
              have SwC : (wC.cell? ⟨N, 0, none⟩ = some (.int .i64 xk) ∧ wC.cell? ⟨N, 1, none⟩ = some (.int .i64 xu) ∧ wC.cell? ⟨N, 2, none⟩ = some (.int .i64 xq) ∧ wC.cell? ⟨N, 3, none⟩ = some (.string xt) ∧ wC.cell? ⟨N, 4, none⟩ = some (.string yg) ∧ wC.cell? ⟨N, 5, none⟩ = some (.slice za xn zc) ∧ wC.cell? ⟨N, 6, none⟩ = some (.slice zb xm zd)) ∧ wC.cell? ⟨M, 0, none⟩ = some (.int .i64 xk) ∧ wC.cell? ⟨M, 1, none⟩ = some (.int .i64 xu) ∧ wC.cell? ⟨M, 2, none⟩ = some (.int .i64 xq) ∧ wC.cell? ⟨M, 3, none⟩ = some (.string xt) ∧ wC.cell? ⟨M, 4, none⟩ = some (.string yg) ∧ wC.cell? ⟨M, 5, none⟩ = some (.slice xa xn xc) ∧ wC.cell? ⟨M, 6, none⟩ = some (.slice xb xm xd) := ⟨Sev.apart SwB.1 (Bf.of (F := fun _ => False) hb) (fun x => x), Sev.apart SwB.2 (Bf.of (F := fun _ => False) hb) (fun x => x)⟩
              have PC : Hid (Pst w wC p g d h a n c S1 S1) := PB.out.1.later hb
              clear hb SM
              refine hKK.out _ _ SwC (fun hH10 => ?_)
              clear hKK KK
              try simp only [opgb10, Act.put, List.setIfInBounds_toArray, List.set_cons_zero, List.set_cons_succ]
              refine wpAnyH_take (i := 11) (oi := opgb11) (v := ?_) rfl (by kernel_rfl) (by kernel_rfl) (by kernel_rfl) (fun _ _ _ h => h) (Or.inl ⟨by rfl, ?_⟩) (by assumption) ?_
              rotate_left
              · intro w' hSw
                clear hSw
                unfold opgb11
                first
                | (go_simp; done)
                | (go_simp; with_reducible rfl)
              simp only [opgb11, Act.put, List.setIfInBounds_toArray, List.set_cons_zero, List.set_cons_succ]
              refine wpAnyH_take (i := 12) (oi := opgb12) (v := ?_) rfl (by kernel_rfl) (by kernel_rfl) (by kernel_rfl) (fun _ _ _ h => h) (Or.inl ⟨by rfl, ?_⟩) (by assumption) ?_
              rotate_left
              · intro w' hSw
                clear hSw
                unfold opgb12
                first
                | (go_simp; done)
                | (go_simp; with_reducible rfl)
              simp only [opgb12, Act.put, List.setIfInBounds_toArray, List.set_cons_zero, List.set_cons_succ]
              refine wpAnyH_done (by kernel_rfl) ?_ _
              refine NoPanic.normal ?_
              have UU : Hid (∀ w', Below wC.heap.size wC w' → w'.cell? ⟨M, 1, none⟩ = some (.int .i64 xu)) := fun w' hb => cell_later hb SwC.2.2.1
              have LA : Hid _ := Last_any p g S1 xu wC PC.out.ga
              have RA : Hid (∀ w2, Below wC.heap.size wC w2 → Calls Tryd.prog 18 #[.pointer (some ⟨d, 0, none⟩), .int .i64 xu] w2 fun e w' => e = .returned (.int .i64 (atI S1 xu)) ∧ Below w2.heap.size w2 w') := fun w2 hb => rAt_any d h a n c S1 xu w2 (PC.out.later hb).ra
              have HA : Hid (∀ w2, Below wC.heap.size wC w2 → Calls Tryd.prog 19 #[.pointer (some ⟨p, 0, none⟩), .int .i64 xu] w2 fun e w' => e = .returned (.bool (decide (at' S1 xu < S1.length))) ∧ Below w2.heap.size w2 w') := fun w2 hb => Has_any p g S1 xu w2 (PC.out.later hb).ga
              have u1 := UU.out wC (Below.refl _ _)
              clear SwA SwB SwC SZ PA PB PZ LZ Z8 NE
              unfold laV laE at LA
              unfold atI at RA
              by_cases hi : at' S1 xu < S1.length
              · rw [dif_pos hi, if_pos hi] at LA
                rw [if_pos hi] at RA
                rw [decide_eq_true hi] at HA
                have RC : Hid (∀ w2, Below wC.heap.size wC w2 → w2.cell? ⟨d, 1, none⟩ = some (.slice (some ⟨h, 0, none⟩) n n) ∧ w2.cell? ⟨h, at' S1 xu, none⟩ = some (.int .i64 (S1[at' S1 xu]).q)) := fun w2 hb => by
                  have q := (PC.out.later hb).ra
                  obtain ⟨e0, -⟩ := q.q (at' S1 xu) (by rw [List.length_map]; exact hi)
                  rw [List.getElem_map] at e0
                  exact ⟨q.c1, e0⟩
                have hin : at' S1 xu < n := by have := PC.out.ra.l; omega
                have h64 : n ≤ 64 := PC.out.ra.le
                generalize (S1[at' S1 xu]).q = lq at LA RC
                generalize at' S1 xu = i at *
                have j1 : (i : Int) < (n : Int) := by omega
                have j0 : (0 : Int) ≤ (i : Int) := by omega
                clear hi
                go_wp2_with fail
                refine Calls.mono LA.out ?_
                rintro e wD ⟨rfl, hb⟩
                have BD : Hid (Below wC.heap.size wC wD) := hb
                clear hb LA u1
                have u1 := UU.out wD BD.out
                go_wp2_with fail
                refine Calls.mono (RA.out _ BD.out) ?_
                rintro e wE ⟨rfl, hb⟩
                have BE : Hid (Below wC.heap.size wC wE) := chain BD.out hb
                clear hb RA u1 BD
                have u1 := UU.out wE BE.out
                go_wp2_with fail
                refine Calls.mono (HA.out _ BE.out) ?_
                rintro e wF ⟨rfl, hb⟩
                have BF : Hid (Below wC.heap.size wC wF) := chain BE.out hb
                clear hb HA u1 BE
                obtain ⟨v0, v1⟩ := RC.out wF BF.out
                have PF : Hid (Pst w wF p g d h a n c S1 S1) := PC.out.later BF.out
                clear RC UU BF PC
                go_wp2
                go_roundw
                case rel => exact ⟨k + 1, S1, by omega, by go_num, PF.out⟩
                case measure => simp [intOf]; omega
              · rw [dif_neg hi, if_neg hi] at LA
                rw [if_neg hi] at RA
                rw [decide_eq_false hi] at HA
                clear hi
                go_wp2_with fail
                refine Calls.mono LA.out ?_
                rintro e wD ⟨rfl, hb⟩
                have BD : Hid (Below wC.heap.size wC wD) := hb
                clear hb LA u1
                have u1 := UU.out wD BD.out
                go_wp2_with fail
                refine Calls.mono (RA.out _ BD.out) ?_
                rintro e wE ⟨rfl, hb⟩
                have BE : Hid (Below wC.heap.size wC wE) := chain BD.out hb
                clear hb RA u1 BD
                have u1 := UU.out wE BE.out
                go_wp2_with fail
                refine Calls.mono (HA.out _ BE.out) ?_
                rintro e wF ⟨rfl, hb⟩
                have BF : Hid (Below wC.heap.size wC wF) := chain BE.out hb
                clear hb HA u1 BE
                have PF : Hid (Pst w wF p g d h a n c S1 S1) := PC.out.later BF.out
                clear UU BF PC
                go_wp2
                go_roundw
                case rel => exact ⟨k + 1, S1, by omega, by go_num, PF.out⟩
                case measure => simp [intOf]; omega
            · have g3 : ¬ (k : Int) < 60 := by omega
              go_wp2_with fail
              refine Calls.mono (WK.out _ (K.out.later I.out.b)) ?_
              rintro e w9 ⟨rfl, hb⟩
              have B9 : Hid (Below w.heap.size w w9) := chain I.out.b hb
              clear hb WK I
              go_wp2
              go_ret
              exact ⟨rfl, B9.out⟩
          · have g2 : ¬ (k : Int) < (n2 : Int) := by omega
            go_wp2_with fail
            refine Calls.mono (WK.out _ (K.out.later I.out.b)) ?_
            rintro e w9 ⟨rfl, hb⟩
            have B9 : Hid (Below w.heap.size w w9) := chain I.out.b hb
            clear hb WK I
            go_wp2
            go_ret
            exact ⟨rfl, B9.out⟩
  · have NG2 : Hid (∀ w2, Below w1.heap.size w1 w2 → Calls Tryd.prog 10 #[.slice a' n c'] w2 fun e w' => e = .returned (.tuple #[.pointer none, .int .i64 (chk l).2]) ∧ Below w2.heap.size w2 w') := fun w2 hb => by
      refine Calls.mono (NG.out w2 hb) ?_
      rintro e w' ⟨hb, ⟨-, rfl⟩ | ⟨h, -⟩⟩
      · exact ⟨rfl, hb⟩
      · exact absurd h hY
    have NR2 : Hid (∀ w2, Below w.heap.size w w2 → Calls Tryd.prog 11 #[.slice a n c] w2 fun e w' => e = .returned (.tuple #[.pointer none, .int .i64 (chk l).2]) ∧ Below w2.heap.size w2 w') := fun w2 hb => by
      refine Calls.mono (NR.out w2 hb) ?_
      rintro e w' ⟨hb, ⟨-, rfl⟩ | ⟨h, -⟩⟩
      · exact ⟨rfl, hb⟩
      · exact absurd h hY
    obtain ⟨Y, hYY⟩ : ∃ Y, (chk l).2 = Y := ⟨_, rfl⟩
    rw [hYY] at CK CR NG2 NR2
    clear NG NR hY hYY
    go_enter Tryd.func3, Tryd.ntmps3
    go_wp2_with (first | (at_builtin; refine Go.Lib.wpList_append_run _ rfl _ _ _ _ rfl _ _ rfl rfl _ _ hr ?_))
    refine Calls.mono CK.out ?_
    rintro e w2 ⟨rfl, hb⟩
    have B2 : Hid (Below w1.heap.size w1 w2 ∧ Below w.heap.size w w2) := ⟨hb, chain X1.out.2.2.1 hb⟩
    clear hb CK hr
    go_wp2_with fail
    refine Calls.mono (CR.out _ B2.out.2) ?_
    rintro e w3 ⟨rfl, hb⟩
    have B3 : Hid (Below w1.heap.size w1 w3 ∧ Below w.heap.size w w3) := ⟨chain B2.out.1 hb, chain B2.out.2 hb⟩
    clear hb CR B2
    go_wp2_with fail
    refine Calls.mono (NG2.out _ B3.out.1) ?_
    rintro e w4 ⟨rfl, hb⟩
    have B4 : Hid (Below w1.heap.size w1 w4 ∧ Below w.heap.size w w4) := ⟨chain B3.out.1 hb, chain B3.out.2 hb⟩
    clear hb NG2 B3
    go_wp2_with fail
    refine Calls.mono (NR2.out _ B4.out.2) ?_
    rintro e w5 ⟨rfl, hb⟩
    obtain ⟨QQ, hQ⟩ : ∃ QQ : World → Prop, QQ = fun wr => Below w.heap.size w wr := ⟨_, rfl⟩
    have Q0 : Hid (QQ w5 ∧ WrAt w5 gz (n * 2)) := by rw [hQ]; exact ⟨chain B4.out.2 hb, X1.out.2.1.later (chain B4.out.1 hb)⟩
    have QS : Hid (0 < n → ∀ wr o v, QQ wr → QQ (wr.setCell ⟨gz, o, none⟩ v)) := fun h0 wr o v P => by
      rw [hQ] at P ⊢
      exact Below.setCell P (p := ⟨gz, o, none⟩) X1.out.2.2.2.1 _
    clear hb NR2 B4 X1 HG AX
    go_wp2
    go_loopw [14] (fun i wr => ∃ k : Nat, k ≤ n ∧ i = .int .i64 (k : Int) ∧ Hid (QQ wr ∧ WrAt wr gz (n * 2))) (fun i _ => n - (intOf i).toNat)
    case atStart => exact ⟨0, Nat.zero_le _, rfl, Q0.out⟩
    case round =>
      obtain ⟨k, hk, rfl, I⟩ := hrel
      clear Q0
      by_cases hlt : k < n
      · have g1 : (k : Int) < (n : Int) := by omega
        have hn0 : 0 < n := by omega
        obtain rfl := HS.out hn0
        obtain ⟨i0, f0⟩ := I.out.2 (k * 2) (by omega)
        obtain ⟨i1, f1⟩ := I.out.2 (k * 2 + 1) (by omega)
        obtain ⟨x0, y0⟩ := Option.isSome_iff_exists.1 i0
        obtain ⟨x1, y1⟩ := Option.isSome_iff_exists.1 i1
        have N2 : Hid (QQ ((wr.setCell ⟨gz, k * 2, none⟩ (.int .i64 (-9))).setCell ⟨gz, k * 2 + 1, none⟩ (.string ⟨#[]⟩)) ∧ WrAt ((wr.setCell ⟨gz, k * 2, none⟩ (.int .i64 (-9))).setCell ⟨gz, k * 2 + 1, none⟩ (.string ⟨#[]⟩)) gz (n * 2)) := ⟨QS.out hn0 _ _ _ (QS.out hn0 _ _ _ I.out.1), (I.out.2.set _ _).set _ _⟩
        clear I i0 i1
        go_wp2
        go_roundw
        case rel => exact ⟨k + 1, by omega, by go_num, N2.out⟩
        case measure => simp [intOf]; omega
      · have g1 : ¬ (k : Int) < (n : Int) := by omega
        have QE : Hid (QQ wr) := I.out.1
        clear I hlt
        rw [hQ] at QE
        clear hQ QS HS
        go_wp2
        go_loopw [15] (fun i wr => i = .int .i64 0 ∧ Hid (Below w.heap.size w wr)) (fun i _ => 0)
        case atStart => exact ⟨rfl, QE.out⟩
        case round =>
          obtain ⟨rfl, I⟩ := hrel
          clear QE
          go_wp2_with fail
          refine Calls.mono (WK.out _ (K.out.later I.out)) ?_
          rintro e w9 ⟨rfl, hb⟩
          have B9 : Hid (Below w.heap.size w w9) := chain I.out hb
          clear hb WK I
          go_wp2
          go_ret
          exact ⟨rfl, B9.out⟩
end Go.Proofs.YtbogoheigbiegaaDoor.Gat
namespace Go.Proofs.YtbogoheigbiegaaDoor.Gat
open Go.ChangeShapes Go.WideShapes Go.Deep Go.RowKit Go.Proofs.Fd Go.Proofs.Ml Go.Proofs.Gt
open Go.Proofs.YtbogoheigbiegaaDoor.Mai (mv Lists mail_of add_up sized_slots sized_ids)
set_option maxRecDepth 20000
section
variable {H : Type} {enc : TypeId × Value → H} {w : World} {base : Nat} {sp : Nat → Bool} {held : Bool}
theorem weights_all {P : Program} {e : TypeId} : ∀ {l : List (DataW H)} {d : DataW H}, d ∈ l → ∀ n ∈ d.weights P e, n ∈ DataW.weightsAll P e l
  | [], _, h, _, _ => by cases h
  | x :: l, d, h, n, hn => by
    rw [DataW.weightsAll, List.mem_append]
    rcases List.mem_cons.1 h with rfl | h
    · exact .inl hn
    · exact .inr (weights_all h n hn)
theorem account_of {fuel : Nat} {cs : List Value} {x : DataW H × List MemPlace} (hf : DataW.trod enc Tryd.prog w base sp held fuel 34 cs = some x) : ∃ s : Ac, cs = [.int .i64 s.u, .string s.k] := by
  obtain ⟨xs, n, rfl, rfl, hl, hxl, hff⟩ := DataW.trod_struct Tryd.underlying34 hf
  rw [show Tryd.prog.cellsOf 34 = 2 by kernel_rfl] at hl
  obtain ⟨y0, y1, rfl⟩ : ∃ y0 y1, cs = [y0, y1] := by
    match cs, hl with
    | [y0, y1], _ => exact ⟨y0, y1, rfl⟩
  obtain ⟨x0, x1, rfl⟩ : ∃ x0 x1, xs = [x0, x1] := by
    match xs, hxl with
    | [x0, x1], _ => exact ⟨x0, x1, rfl⟩
  have cI : Tryd.prog.cellsOf 3 = 1 := by kernel_rfl
  have cS : Tryd.prog.cellsOf 9 = 1 := by kernel_rfl
  have g0 : DataW.trod enc Tryd.prog w base sp held n 3 (List.take (Tryd.prog.cellsOf 3) (List.drop 0 [y0, y1])) = some x0 := hff 0 _ rfl
  have g1 : DataW.trod enc Tryd.prog w base sp held n 9 (List.take (Tryd.prog.cellsOf 9) (List.drop 1 [y0, y1])) = some x1 := hff 1 _ rfl
  rw [cI] at g0
  rw [cS] at g1
  obtain ⟨a, ha, -⟩ := DataW.trod_int Tryd.underlying3 g0
  obtain ⟨b, hb, -⟩ := DataW.trod_string Tryd.underlying9 g1
  have ha' : [y0] = [.int .i64 a] := ha
  have hb' : [y1] = [.string b] := hb
  cases ha'
  cases hb'
  exact ⟨⟨a, b⟩, rfl⟩
theorem accounts_of {fuel : Nat} {cs : List Value} {x : DataW H × List MemPlace} (hf : DataW.trod enc Tryd.prog w base sp held fuel 22 cs = some x) (hw : ∀ n ∈ x.1.weights Tryd.prog 22, n ≤ reachBytes) :
    ∃ a n c l, cs = [.slice a n c] ∧ AcAt w a l ∧ l.length = n ∧ (a = none → n = 0 ∧ c = 0) ∧ n ≤ c ∧ n * 24 ≤ 140737488351232 := by
  rcases open_slice Tryd.underlying22 hf with ⟨h0, rfl⟩ | ⟨a, len, cap, m, n, D, Pl, rfl, hb, hl, hm, hmm, rfl, hx⟩
  · exact ⟨none, 0, 0, [], h0, AcAt.nil _ _, rfl, fun _ => ⟨rfl, rfl⟩, Nat.zero_le _, by decide⟩
  have hlm : len ≤ m := by rw [hmm]; split <;> omega
  haveI : Inhabited Ac := ⟨⟨0, e0⟩⟩
  obtain ⟨f, hfn⟩ := choose_lt (n := len) (p := fun i (h : Ac) => w.cell? (a.add (i * 2)) = some (.int .i64 h.u) ∧ w.cell? (a.add (i * 2 + 1)) = some (.string h.k)) (fun i hi => by
    obtain ⟨cs', h1, h2⟩ := hx i (by omega)
    obtain ⟨h, rfl⟩ := account_of h2
    rw [show Tryd.prog.cellsOf 34 = 2 by kernel_rfl] at h1
    obtain ⟨-, -, hc⟩ := World.cells?_some h1
    have e0 := hc 0 (by omega)
    have e1 := hc 1 (by omega)
    rw [add_add] at e0 e1
    exact ⟨h, e0, e1⟩)
  have hz : (len + (m - len)) * Tryd.prog.bytesOf 34 ≤ reachBytes := hw _ (by simp [DataW.weights, Tryd.underlying22])
  rw [show Tryd.prog.bytesOf 34 = 24 by kernel_rfl] at hz
  unfold reachBytes at hz
  refine ⟨some a, len, cap, (List.range len).map f, rfl, fun i hi => ?_, by simp, nofun, by omega, by omega⟩
  have hi' : i < len := by simpa using hi
  have hsp : a.spot = none := by
    have := World.cell?_spot (hfn 0 (by omega)).1
    simpa [Addr.add] using this
  obtain ⟨b, o, spot⟩ := a
  simp only at hsp
  subst hsp
  obtain ⟨e0, e1⟩ := hfn i hi'
  rw [add_up] at e0 e1
  refine ⟨b, o, rfl, ?_⟩
  rw [List.getElem_map, List.getElem_range]
  exact ⟨e0, by rw [Nat.add_assoc]; exact e1⟩
theorem tag_of {fuel : Nat} {cs : List Value} {x : DataW H × List MemPlace} (hf : DataW.trod enc Tryd.prog w base sp held fuel 38 cs = some x) (hw : ∀ n ∈ x.1.weights Tryd.prog 38, n ≤ reachBytes) (g : ByteArray) (hg : cs[4]? = some (.string g)) : g.size ≤ reachBytes := by
  obtain ⟨xs, n, rfl, rfl, hl, hxl, hff⟩ := DataW.trod_struct Tryd.underlying38 hf
  rw [show Tryd.prog.cellsOf 38 = 7 by kernel_rfl] at hl
  obtain ⟨y0, y1, y2, y3, y4, y5, y6, rfl⟩ : ∃ y0 y1 y2 y3 y4 y5 y6, cs = [y0, y1, y2, y3, y4, y5, y6] := by
    match cs, hl with
    | [y0, y1, y2, y3, y4, y5, y6], _ => exact ⟨y0, y1, y2, y3, y4, y5, y6, rfl⟩
  obtain ⟨x0, x1, x2, x3, x4, x5, x6, rfl⟩ : ∃ x0 x1 x2 x3 x4 x5 x6, xs = [x0, x1, x2, x3, x4, x5, x6] := by
    match xs, hxl with
    | [x0, x1, x2, x3, x4, x5, x6], _ => exact ⟨x0, x1, x2, x3, x4, x5, x6, rfl⟩
  have cS : Tryd.prog.cellsOf 9 = 1 := by kernel_rfl
  have g4 : DataW.trod enc Tryd.prog w base sp held n 9 (List.take (Tryd.prog.cellsOf 9) (List.drop 4 [y0, y1, y2, y3, y4, y5, y6])) = some x4 := hff 4 _ rfl
  rw [cS] at g4
  obtain ⟨g', hg', hx⟩ := DataW.trod_string Tryd.underlying9 g4
  have h1 : [y4] = [.string g'] := hg'
  have h2 : some y4 = some (.string g) := hg
  cases h1
  cases h2
  refine hw _ ?_
  simp only [DataW.weights, Tryd.underlying38, List.map_cons, List.map_nil, DataW.weightsEach, List.mem_append]
  refine .inr (.inr (.inr (.inr (.inl ?_))))
  rw [hx.1]
  simp [DataW.weights]
theorem come_of {fuel : Nat} {cs : List Value} {x : DataW H × List MemPlace} (hf : DataW.trod enc Tryd.prog w base sp held fuel 40 cs = some x) (hw : ∀ n ∈ x.1.weights Tryd.prog 40, n ≤ reachBytes) :
    ∃ y : Cc, cs = [.int .i64 y.m.k, .int .i64 y.m.u, .int .i64 y.m.q, .string y.m.t, .string y.m.g, .slice y.a y.n y.c, .slice y.a2 y.n2 y.c2, .string y.key] ∧ y.L w := by
  obtain ⟨xs, n, rfl, rfl, hl, hxl, hff⟩ := DataW.trod_struct Tryd.underlying40 hf
  rw [show Tryd.prog.cellsOf 40 = 8 by kernel_rfl] at hl
  obtain ⟨y0, y1, y2, y3, y4, y5, y6, y7, rfl⟩ : ∃ y0 y1 y2 y3 y4 y5 y6 y7, cs = [y0, y1, y2, y3, y4, y5, y6, y7] := by
    match cs, hl with
    | [y0, y1, y2, y3, y4, y5, y6, y7], _ => exact ⟨y0, y1, y2, y3, y4, y5, y6, y7, rfl⟩
  obtain ⟨x0, x1, rfl⟩ : ∃ x0 x1, xs = [x0, x1] := by
    match xs, hxl with
    | [x0, x1], _ => exact ⟨x0, x1, rfl⟩
  have cM : Tryd.prog.cellsOf 38 = 7 := by kernel_rfl
  have cS : Tryd.prog.cellsOf 9 = 1 := by kernel_rfl
  have g0 : DataW.trod enc Tryd.prog w base sp held n 38 (List.take (Tryd.prog.cellsOf 38) (List.drop 0 [y0, y1, y2, y3, y4, y5, y6, y7])) = some x0 := hff 0 _ rfl
  have g1 : DataW.trod enc Tryd.prog w base sp held n 9 (List.take (Tryd.prog.cellsOf 9) (List.drop 7 [y0, y1, y2, y3, y4, y5, y6, y7])) = some x1 := hff 1 _ rfl
  rw [cM] at g0
  rw [cS] at g1
  obtain ⟨k, u, q, t, g, a, n', c, a2, n2, c2, ss, is, d0, d1, d2, d3, d4, d5, d6, hx, L, hd, z1, z2⟩ := mail_of g0
  obtain ⟨b, hb, -⟩ := DataW.trod_string Tryd.underlying9 g1
  have hx' : [y0, y1, y2, y3, y4, y5, y6] = [.int .i64 k, .int .i64 u, .int .i64 q, .string t, .string g, .slice a n' c, .slice a2 n2 c2] := hx
  have hb' : [y7] = [.string b] := hb
  cases hx'
  cases hb'
  have hd' : x0.1 = .agg [d0, d1, d2, d3, d4, d5, d6] := hd
  have W : (DataW.weightsEach Tryd.prog [3, 3, 3, 9, 9, 35, 36] [d0, d1, d2, d3, d4, d5, d6]).all (· ≤ reachBytes) = true := by
    rw [List.all_eq_true]
    intro x hx
    refine decide_eq_true (hw x ?_)
    simp only [DataW.weightsEach, List.mem_append] at hx
    simp only [DataW.weights, Tryd.underlying40, List.map_cons, List.map_nil, DataW.weightsEach, hd', Tryd.underlying38, List.mem_append]
    exact .inl hx
  refine ⟨⟨⟨k, u, q, t, g, ss, is⟩, a, n', c, a2, n2, c2, b⟩, rfl, L, ?_, sized_slots W z1, sized_ids W z2⟩
  have wm : ∀ n ∈ x0.1.weights Tryd.prog 38, n ≤ reachBytes := fun q hq => hw q (by
    simp only [DataW.weights, Tryd.underlying40, List.map_cons, List.map_nil, DataW.weightsEach, List.mem_append]
    exact .inl hq)
  have := tag_of g0 wm g rfl
  unfold reachBytes at this
  exact this
theorem comes_of {fuel : Nat} {cs : List Value} {x : DataW H × List MemPlace} (hf : DataW.trod enc Tryd.prog w base sp held fuel 23 cs = some x) (hw : ∀ n ∈ x.1.weights Tryd.prog 23, n ≤ reachBytes) :
    ∃ a n c l, cs = [.slice a n c] ∧ CoAt w a l ∧ l.length = n ∧ ∀ y ∈ l, y.L w := by
  rcases open_slice Tryd.underlying23 hf with ⟨h0, rfl⟩ | ⟨a, len, cap, m, n, D, Pl, rfl, hb, hl, hm, hmm, rfl, hx⟩
  · exact ⟨none, 0, 0, [], h0, fun i hi => absurd hi (Nat.not_lt_zero _), rfl, fun y hy => (by cases hy)⟩
  have hlm : len ≤ m := by rw [hmm]; split <;> omega
  haveI : Inhabited Cc := ⟨⟨zm, none, 0, 0, none, 0, 0, e0⟩⟩
  obtain ⟨f, hfn⟩ := choose_lt (n := len) (p := fun i (y : Cc) => (w.cell? (a.add (i * 8)) = some (.int .i64 y.m.k) ∧ w.cell? (a.add (i * 8 + 1)) = some (.int .i64 y.m.u) ∧ w.cell? (a.add (i * 8 + 2)) = some (.int .i64 y.m.q) ∧ w.cell? (a.add (i * 8 + 3)) = some (.string y.m.t) ∧ w.cell? (a.add (i * 8 + 4)) = some (.string y.m.g) ∧ w.cell? (a.add (i * 8 + 5)) = some (.slice y.a y.n y.c) ∧ w.cell? (a.add (i * 8 + 6)) = some (.slice y.a2 y.n2 y.c2) ∧ w.cell? (a.add (i * 8 + 7)) = some (.string y.key)) ∧ y.L w) (fun i hi => by
    obtain ⟨cs', h1, h2⟩ := hx i (by omega)
    obtain ⟨y, rfl, hy⟩ := come_of h2 (fun q hq => hw q (by
      simp only [DataW.weights, Tryd.underlying23]
      refine List.mem_cons_of_mem _ (List.mem_append.2 (.inl (weights_all (d := D i) ?_ q hq)))
      exact List.mem_map.2 ⟨i, List.mem_range.2 hi, rfl⟩))
    rw [show Tryd.prog.cellsOf 40 = 8 by kernel_rfl] at h1
    obtain ⟨-, -, hc⟩ := World.cells?_some h1
    have e0 := hc 0 (by omega)
    have e1 := hc 1 (by omega)
    have e2 := hc 2 (by omega)
    have e3 := hc 3 (by omega)
    have e4 := hc 4 (by omega)
    have e5 := hc 5 (by omega)
    have e6 := hc 6 (by omega)
    have e7 := hc 7 (by omega)
    rw [add_add] at e0 e1 e2 e3 e4 e5 e6 e7
    exact ⟨y, ⟨e0, e1, e2, e3, e4, e5, e6, e7⟩, hy⟩)
  refine ⟨some a, len, cap, (List.range len).map f, rfl, fun i hi => ?_, by simp, fun y hy => ?_⟩
  · have hi' : i < len := by simpa using hi
    have hsp : a.spot = none := by
      have := World.cell?_spot (hfn 0 (by omega)).1.1
      simpa [Addr.add] using this
    obtain ⟨b, o, spot⟩ := a
    simp only at hsp
    subst hsp
    obtain ⟨⟨e0, e1, e2, e3, e4, e5, e6, e7⟩, -⟩ := hfn i hi'
    rw [add_up] at e0 e1 e2 e3 e4 e5 e6 e7
    refine ⟨b, o, rfl, ?_⟩
    rw [List.getElem_map, List.getElem_range]
    exact ⟨e0, by rw [Nat.add_assoc]; exact e1, by rw [Nat.add_assoc]; exact e2, by rw [Nat.add_assoc]; exact e3, by rw [Nat.add_assoc]; exact e4, by rw [Nat.add_assoc]; exact e5, by rw [Nat.add_assoc]; exact e6, by rw [Nat.add_assoc]; exact e7⟩
  · obtain ⟨i, hi, rfl⟩ := List.mem_map.1 hy
    exact (hfn i (List.mem_range.1 hi)).2
end
end Go.Proofs.YtbogoheigbiegaaDoor.Gat
