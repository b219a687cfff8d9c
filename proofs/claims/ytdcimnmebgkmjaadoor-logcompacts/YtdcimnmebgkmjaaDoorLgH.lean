/- A half in memory. -/
import Derived.Test.YtdcimnmebgkmjaaDoorLgU
namespace Go.Proofs.YtdcimnmebgkmjaaDoor
open Go.RowKit Go.Proofs.Fd Go.Proofs.Dk Go.Proofs.Lg
set_option maxRecDepth 20000

/-- Texts as cells; rows of them. -/
def scs (l : List Bs) : List Value := l.map fun t => sv t
theorem scs_len (l : List Bs) : (scs l).length = l.length := List.length_map ..
theorem scs_app (l m : List Bs) : scs (l ++ m) = scs l ++ scs m := List.map_append ..
theorem scs_one (l : List Bs) : ∀ u ∈ scs l, u.oneCell' = true := fun u h => by
  obtain ⟨x, -, rfl⟩ := List.mem_map.1 h
  rfl
abbrev OwnsS (w : World) (v : Value) (l : List Bs) : Prop := w.ownsRow 0 9 1 v l.length (scs l)
theorem infoS : (Tryd.prog.info? 9).map (fun i => (i.zero, i.size, i.bytes)) = some (some (.string ⟨#[]⟩), 1, 16) := by kernel_rfl
theorem owns_nilS (w : World) : OwnsS w (.slice none 0 0) [] := World.ownsRow_nil _ _ _ _
theorem owns_sliceS {w : World} {v : Value} {l : List Bs} (h : OwnsS w v l) : ∃ a n c, v = .slice a n c := by
  rcases h.2 with ⟨rfl, -⟩ | ⟨g, cap, cur, rfl, -⟩
  · exact ⟨_, _, _, rfl⟩
  · exact ⟨_, _, _, rfl⟩
/-- One text more behind a row. -/
theorem app_str (w : World) (ty : TypeId) (v : Value) (l : List Bs) (h : OwnsS w v l) (hl : l.length ≤ 1000000) (t : Bs) (b : Nat) (c0 : w.cell? ⟨b, 0, none⟩ = some (sv t)) :
    ∃ v' w', (Builtin.append_ #[22, 22] ty #[v, .slice (some ⟨b, 0, none⟩) 1 1]).run Tryd.prog w = .ok v' w' ∧ OwnsS w' v' (l ++ [t]) ∧ w.grownBy w' v.ownBlock ∧ (v'.ownBlock = v.ownBlock ∨ v'.ownBlock = some w.heap.size) := by
  obtain ⟨i0, hi, hz0, hz1, hz2⟩ := info_parts infoS
  obtain ⟨v', w', r1, r2, r3, -, r5⟩ := run_append_own_at (P := Tryd.prog) w 0 22 ty 9 i0 _ 1 16 Tryd.underlying22 hi hz0 hz1 hz2 rfl (by decide) v l.length (scs l) h ⟨b, 0, none⟩ 1 1 [sv t] rfl (fun j u hu => by
      have q : Addr.add ⟨b, 0, none⟩ j = ⟨b, j, none⟩ := by simp [Addr.add]; intro h; exact h.symm
      rw [q]
      match j, hu with
      | 0, hu => simp at hu; subst hu; exact c0
      | j + 1, hu => simp at hu) (scs_one [t]) (by unfold maxLen; omega) (by omega) (Nat.zero_le _)
  refine ⟨v', w', r1, ?_, r3, r5⟩
  unfold OwnsS
  rw [scs_app, List.length_append]
  exact r2
/-- A half's cells. -/
abbrev hc (p fr mn g : Nat) (v : Value) (tk : Nat) (m : Bs) (more : List Value) : List Value := [.pointer (some ⟨p, 0, none⟩), .int .i64 (fr : Int), .int .i64 (mn : Int), .int .i64 (g : Int), v, .int .i64 (tk : Int), sv m] ++ more
/-- A half at a block. -/
structure Hf (w : World) (q p fr mn g : Nat) (v : Value) (ts : List Bs) (tk : Nat) (m : Bs) (more : List Value) : Prop where
  bk : Blk w q (hc p fr mn g v tk m more)
  row : OwnsS w v ts
  qv : v.ownBlock ≠ some q
def HFt (q : Nat) (v : Value) (g : Nat) : Prop := g = q ∨ v.ownBlock = some g
section
variable {w : World} {q p fr mn g : Nat} {v : Value} {ts : List Bs} {tk : Nat} {m : Bs} {more : List Value}
theorem Hf.lt (h : Hf w q p fr mn g v ts tk m more) {x : Nat} (hx : HFt q v x) : x < w.heap.size := by
  rcases hx with rfl | e
  · exact h.bk.lt
  · exact (h.row.lt x e).2
theorem Hf.same (h : Hf w q p fr mn g v ts tk m more) {w' : World} (hs : ∀ x, HFt q v x → w'.heap[x]? = w.heap[x]?) : Hf w' q p fr mn g v ts tk m more :=
  ⟨h.bk.same (hs q (.inl rfl)), ownsRow_same h.row (fun x e => hs x (.inr e)), h.qv⟩
theorem Hf.later (h : Hf w q p fr mn g v ts tk m more) {w' : World} (hb : Below w.heap.size w w') : Hf w' q p fr mn g v ts tk m more := h.same fun x hx => hb.block x (h.lt hx)
theorem Hf.bf (h : Hf w q p fr mn g v ts tk m more) {F : Nat → Prop} {w' : World} (hb : Bf F w w') (hF : ∀ x, HFt q v x → ¬ F x) : Hf w' q p fr mn g v ts tk m more := h.same fun x hx => hb.block x (h.lt hx) (hF x hx)
/-- A cell of it is stored. -/
theorem Hf.set (h : Hf w q p fr mn g v ts tk m more) (i : Nat) (u : Value) (hi : i < (hc p fr mn g v tk m more).length) : Blk (w.setCell ⟨q, i, none⟩ u) q ((hc p fr mn g v tk m more).set i u) ∧ OwnsS (w.setCell ⟨q, i, none⟩ u) v ts :=
  ⟨h.bk.set i hi u, ownsRow_same h.row (fun x e => Below.heap_setCell w ⟨q, i, none⟩ u x (fun c => h.qv (by rw [e, c])))⟩
theorem Hf.setTk (h : Hf w q p fr mn g v ts tk m more) (k : Nat) : Hf (w.setCell ⟨q, 5, none⟩ (.int .i64 (k : Int))) q p fr mn g v ts k m more := by
  have := h.set 5 (.int .i64 (k : Int)) (by simp)
  exact ⟨this.1, this.2, h.qv⟩
theorem Hf.setMk (h : Hf w q p fr mn g v ts tk m more) (k : Bs) : Hf (w.setCell ⟨q, 6, none⟩ (sv k)) q p fr mn g v ts tk k more := by
  have := h.set 6 (sv k) (by simp)
  exact ⟨this.1, this.2, h.qv⟩
end
theorem bf_set {F : Nat → Prop} {w w' : World} (h : Bf F w w') {q i : Nat} {u : Value} (hq : F q) : Bf F w (w'.setCell ⟨q, i, none⟩ u) := h.trans (Nx.refl _ _) (Bf.set F w' q i u hq)
set_option maxHeartbeats 1000000 in
theorem lgoOn_any (q p fr mn g : Nat) (v : Value) (ts : List Bs) (tk : Nat) (m : Bs) (more : List Value) (w : World) (hk : Hid (Kh w)) (h : Hid (Hf w q p fr mn g v ts tk m more)) :
    Calls Tryd.prog 66 #[.pointer (some ⟨q, 0, none⟩)] w fun e w' => e = .returned (.tuple #[]) ∧ Hf w' q p fr mn g v ts 1 (hm g) more ∧ Bf (fun x => x = q) w w' := by
  have HM : Hid _ := lhm_any g w hk
  have k3 := h.out.bk.c 3 _ rfl
  have FI : Hid (∀ w1, Below w.heap.size w w1 → Hf ((w1.setCell ⟨q, 5, none⟩ (.int .i64 ((1 : Nat) : Int))).setCell ⟨q, 6, none⟩ (sv (hm g))) q p fr mn g v ts 1 (hm g) more ∧ Bf (fun x => x = q) w ((w1.setCell ⟨q, 5, none⟩ (.int .i64 ((1 : Nat) : Int))).setCell ⟨q, 6, none⟩ (sv (hm g)))) := fun w1 hb =>
    ⟨((h.out.later hb).setTk 1).setMk (hm g), bf_set (F := fun x => x = q) (bf_set (F := fun x => x = q) (Bf.of hb) rfl) rfl⟩
  have CS : Hid (∀ w1, Below w.heap.size w w1 → w1.cell? ⟨q, 5, none⟩ = some (.int .i64 (tk : Int)) ∧ w1.cell? ⟨q, 6, none⟩ = some (sv m) ∧ ∀ o, w1.frozen? ⟨q, o, none⟩ = false) := fun w1 hb => ⟨(h.out.later hb).bk.c 5 _ rfl, (h.out.later hb).bk.c 6 _ rfl, (h.out.later hb).bk.f⟩
  unfold sv at *
  obtain ⟨M, hM⟩ : ∃ M, st (hm g) = M := ⟨_, rfl⟩
  rw [hM] at HM FI
  clear hM h
  go_enter Tryd.func66, Tryd.ntmps66
  go_wp2_with fail
  refine Calls.mono HM.out ?_
  rintro e w1 ⟨rfl, hb⟩
  obtain ⟨k5, k6, kf⟩ := CS.out w1 hb
  have FF : Hid _ := FI.out w1 hb
  clear hb FI CS k3
  go_wp2
  go_end0
  exact ⟨rfl, FF.out⟩
end Go.Proofs.YtdcimnmebgkmjaaDoor
