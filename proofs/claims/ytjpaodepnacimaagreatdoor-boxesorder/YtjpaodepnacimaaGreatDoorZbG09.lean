/- Pieces of a write: a text copied in, a write built, one more behind a row. -/
import Derived.Test.YtjpaodepnacimaaGreatDoorZbG08
import Derived.Lib.LazyBuf
import Derived.Lib.AppendZeros
import Derived.Great.BuildSlice
namespace Go.Proofs.YtjpaodepnacimaaGreatDoor
open Go.RowKit Go.Proofs.Fd Go.Proofs.Dk
set_option maxRecDepth 20000
theorem copy_in (w : World) (b o cap : Nat) (t : ByteArray) (ht : t.data.toList.length = 64) (hth : w.there b o 64) :
    (Builtin.copy_ #[70, 9] 3 #[.slice (some ⟨b, o, none⟩) 64 cap, .string t]).run Tryz.prog w = .ok (.int .i64 64) (w.setCells b o (bc t.data.toList)) := by
  have hs : t.size = 64 := by simpa using ht
  have hst := run_storeCells_cells (P := Tryz.prog) b o (bc t.data.toList) 0 w
    (by rw [bc_len, ht]; intro j hj; simpa using (hth j hj).1) (by rw [bc_len, ht]; intro j hj; simpa using (hth j hj).2) (bc_one _)
  have hm : Nat.min t.size 64 = 64 := by rw [hs]; rfl
  simp [Builtin.copy_, run_underlying Tryz.underlying70, Builtin.lenOf, Builtin.firstCells, hm]
  rw [List.take_of_length_le (by rw [List.length_map, ht]; exact Nat.le_refl _)]
  unfold bc at hst
  rw [hst]
  rfl
def zeroW : Value := .agg (#[.int .i64 0] ++ Array.replicate 64 (.int .u8 0))
theorem infoW : (Tryz.prog.info? 149).map (fun i => (i.zero, i.size, i.bytes)) = some (some zeroW, 65, 72) := by kernel_rfl
theorem fieldsW : ∃ fs, Tryz.prog.underlying 149 = some (.struct fs) ∧ fs.toList.mapM (fun f => (Tryz.prog.info? f.type).map fun i => (f.offset, i.size)) = some [(0, 1), (1, 64)] := ⟨_, Tryz.underlying149, by kernel_rfl⟩
theorem fill_step (place : Nat → Option (Nat × Nat)) (cells : Array Value) (i : Nat) (v : Value) (rest : List (Nat × Value)) (off size : Nat) (hp : place i = some (off, size)) (hs : v.cells.size = size) (hb : off + size ≤ cells.size) :
    Instr.fill place cells ((i, v) :: rest) = Instr.fill place ((v.cells.toList.zipIdx 0).foldl (fun cs (x : Value × Nat) => cs.setIfInBounds (off + x.2) x.1) cells) rest := by
  conv => lhs; unfold Instr.fill
  rw [hp]
  show (if (decide (v.cells.size ≠ size) || decide (off + v.cells.size > cells.size)) = true then none else _) = _
  rw [if_neg (by rw [hs]; simp; omega), ← Array.foldl_toList, Array.toList_zipIdx]
theorem fill_w (x : Wt) (hx : x.b.length = 64) (z : Array Value) (hz : z.size = 65) : Instr.fill (fun i => [(0, 1), (1, 64)].toArray[i]?) z [(0, .int .i64 (x.k : Int)), (1, .agg (bc x.b).toArray)] = some (wc x).toArray := by
  have hb : (bc x.b).length = 64 := by rw [bc_len, hx]
  rw [fill_step _ _ _ _ _ 0 1 rfl rfl (by omega)]
  have h1 := Go.Great.foldl_set 0 (Value.int .i64 (x.k : Int)).cells.toList 0 z
  generalize (List.foldl (fun cs (x : Value × Nat) => cs.setIfInBounds (0 + x.2) x.1) z ((Value.int .i64 (x.k : Int)).cells.toList.zipIdx 0)) = z1 at h1 ⊢
  rw [fill_step _ _ _ _ _ 1 64 rfl (by simp [Value.cells, hb]) (by rw [h1.1, hz]; omega)]
  have h2 := Go.Great.foldl_set 1 (Value.agg (bc x.b).toArray).cells.toList 0 z1
  generalize (List.foldl (fun cs (x : Value × Nat) => cs.setIfInBounds (1 + x.2) x.1) z1 ((Value.agg (bc x.b).toArray).cells.toList.zipIdx 0)) = z2 at h2 ⊢
  have e2 : (Value.agg (bc x.b).toArray).cells.toList = bc x.b := rfl
  rw [e2, h1.1, hz, hb] at h2
  unfold Instr.fill
  congr 1
  apply Array.ext_getElem?
  intro i
  have et : (wc x).toArray[i]? = (wc x)[i]? := by simp
  rw [et, h2.2 i, wc]
  clear et
  cases i with
  | zero =>
    rw [if_neg (by omega), h1.2 0, hz, if_pos ⟨by omega, by simp [Value.cells], by omega⟩]
    rfl
  | succ i =>
    by_cases hi : i < 64
    · rw [if_pos (by omega), List.getElem?_cons_succ]
      congr 1
    · have e1 : (Value.int .i64 (x.k : Int)).cells.toList.length = 1 := rfl
      rw [if_neg (by omega), List.getElem?_cons_succ, List.getElem?_eq_none (by omega), h1.2 (i + 1), e1, if_neg (by omega), Array.getElem?_eq_none (by omega)]
theorem build_w (x : Wt) (hx : x.b.length = 64) (w : World) : (Instr.build 149 #[(0, .int .i64 (x.k : Int)), (1, .agg (bc x.b).toArray)]).run Tryz.prog w = .ok (.agg (wc x).toArray) w := by
  refine run_build w _ _ _ ?_
  obtain ⟨i0, hi, hz0, hz1, hz2⟩ := info_parts infoW
  obtain ⟨fs, hu, hp⟩ := fieldsW
  unfold Program.built
  simp only [hi, hu, hz0, hp]
  exact fill_w x hx _ (by simp [zeroW, Value.cells])
theorem buildS_w (x : Wt) (hx : x.b.length = 64) (w : World) : (Instr.buildSlice 67 1 #[(0, .agg (wc x).toArray)]).run Tryz.prog w = .ok (.slice (some ⟨w.heap.size, 0, none⟩) 1 1) (w.alloc (.cells (wc x).toArray 149)) := by
  obtain ⟨i0, hi, hz0, hz1, hz2⟩ := info_parts infoW
  refine run_buildSlice w _ _ 1 _ _ i0 zeroW Tryz.underlying67 hi hz0 (by rw [hz1]; decide) (by rw [hz1]; decide) ?_
  rw [hz1]
  have := Go.Great.fill_whole (s := 65) (by decide) [.agg (wc x).toArray] ((Array.range (1 * 65)).map (zeroW.cells[· % zeroW.cells.size]!)) (fun v hv => by
    rw [List.mem_singleton] at hv
    subst hv
    simp [Value.cells, wc_len hx]) (by simp)
  simpa [Value.cells] using this
theorem app_w (w : World) (ty : TypeId) (v : Value) (l : List Wt) (h : OwnsW w v l) (hl : l.length ≤ 1000000) (x : Wt) (hx : x.b.length = 64) (b : Nat) (hc : w.rangeAt b 0 (wc x)) :
    ∃ va vc w', (Builtin.append_ #[67, 67] ty #[v, .slice (some ⟨b, 0, none⟩) 1 1]).run Tryz.prog w = .ok (.slice va (l ++ [x]).length vc) w' ∧ OwnsW w' (.slice va (l ++ [x]).length vc) (l ++ [x]) ∧ w.grownBy w' v.ownBlock ∧ ((Value.slice va (l ++ [x]).length vc).ownBlock = v.ownBlock ∨ (Value.slice va (l ++ [x]).length vc).ownBlock = some w.heap.size) := by
  obtain ⟨i0, hi, hz0, hz1, hz2⟩ := info_parts infoW
  obtain ⟨v', w', r1, r2, r3, -, r5⟩ := run_append_own_at (P := Tryz.prog) w 0 67 ty 149 i0 _ 65 72 Tryz.underlying67 hi hz0 hz1 hz2 (by simp [zeroW, Value.cells]) (by decide) v l.length (wcs l) h ⟨b, 0, none⟩ 1 1 (wc x) (by rw [wc_len hx]) (fun j u hu => by
      rw [Addr.add_mid]
      exact hc j u hu) (fun u hu => wcs_one [x] u (by simpa [wcs] using hu)) (by unfold maxLen; omega) (by omega) (Nat.zero_le _)
  have r2' : OwnsW w' v' (l ++ [x]) := by
    unfold OwnsW
    rw [wcs_app, List.length_append]
    simpa [wcs] using r2
  obtain ⟨va, vc, rfl⟩ := ownsW_slice r2'
  exact ⟨va, vc, w', r1, r2', r3, r5⟩
theorem load_c {w : World} {b o : Nat} {l : Bs} (h : w.rangeAt b o (bc l)) (hl : l.length = 64) : (Instr.loadAt 96 (.pointer (some ⟨b, o, none⟩))).run Tryz.prog w = .ok (.agg (bc l).toArray) w := by
  obtain ⟨i0, hi, hz0, hz1, hz2⟩ := info_parts infoC
  exact run_loadAt_mid w b o _ (bc l) _ h Tryz.underlying96 rfl (by rw [hi, bc_len, hl, ← hz1]; rfl)
theorem wp_buildSlice_run {P : Program} {o : Oper} {a : Act} {w : World} {K : Act → World → Prop} {Q : Exit → Act → World → Prop} (t : TypeId) (len : Nat) (parts : Array (Nat × Operand)) (ho : o.op = .buildSlice t len parts) (vs : Array (Nat × Value)) (hv : (parts.map fun (i, x) => (i, a.eval x)) = vs)
    (v : Value) (w' : World) (hr : (Instr.buildSlice t len vs).run P w = .ok v w') (h : K (a.put o.dst v) w') : o.wp P a w K Q := by
  unfold Oper.wp execOp
  simp only [ho, hv, Sem.run_bind, hr, Result.andThen_ok]
  exact h
theorem yields_build {P : Program} {ops : Array Oper} {S : World → Prop} {o : Oper} {a : Act} (hw : Region.wanted o (yielded ops a.tmps) = true) (t : TypeId) (parts : Array (Nat × Operand)) (ho : o.op = .build t parts) (vs : Array (Nat × Value)) (hv : (parts.map fun (i, x) => (i, a.eval x)) = vs)
    (v : Value) (hr : ∀ w, (Instr.build t vs).run P w = .ok v w) : YieldsIf P ops S o v a :=
  .inl ⟨hw, fun w _ => by
    unfold execOp
    simp only [ho, hv, Sem.run_bind, hr, Result.andThen_ok]
    rfl⟩
theorem wp_load_run {P : Program} {o : Oper} {a : Act} {w : World} {K : Act → World → Prop} {Q : Exit → Act → World → Prop} (t : TypeId) (x : Operand) (ho : o.op = .load t x) (u : Value) (hu : a.eval x = u)
    (v : Value) (hr : (Instr.loadAt t u).run P w = .ok v w) (h : K (a.put o.dst v) w) : o.wp P a w K Q := by
  unfold Oper.wp execOp
  simp only [ho, hu, Sem.run_bind, hr, Result.andThen_ok]
  exact h
theorem wp_store_run {P : Program} {o : Oper} {a : Act} {w : World} {K : Act → World → Prop} {Q : Exit → Act → World → Prop} (t : TypeId) (x y : Operand) (ho : o.op = .store t x y) (u : Value) (hu : a.eval x = u) (z : Value) (hz : a.eval y = z)
    (w' : World) (hr : (Instr.storeAt t u z).run P w = .ok () w') (h : K (a.put o.dst undef) w') : o.wp P a w K Q := by
  unfold Oper.wp execOp
  simp only [ho, hu, hz, Sem.run_bind, hr, Result.andThen_ok]
  exact h
end Go.Proofs.YtjpaodepnacimaaGreatDoor
