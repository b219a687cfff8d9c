/- A message's body; a joiner in memory; the message of an id. -/
import Derived.Test.YtdepjiocmbbdpaaDoorPtJ
import Derived.Shelf.Strings.OnBuilder
namespace Go.Proofs.YtdepjiocmbbdpaaDoor
open Go.RowKit Go.Proofs.Fd Go.Proofs.Pt
set_option maxRecDepth 20000

def opwa0 : Oper := { dst := some 17, op := Go.Op.move (Go.Operand.tmp 6), type := 79, pos := "parts.go:76", after := #[], guard := none }
def opwa1 : Oper := { dst := some 18, op := Go.Op.nilCheck (Go.Operand.tmp 17), type := 0, pos := "parts.go:76", after := #[{ on := 0, ground := Go.Ground.data }], guard := none }
def opwa2 : Oper := { dst := some 19, op := Go.Op.fieldAddr 83 (Go.Operand.tmp 18) 0, type := 0, pos := "parts.go:76", after := #[{ on := 1, ground := Go.Ground.data }], guard := none }
def opwa3 : Oper := { dst := some 20, op := Go.Op.fieldAddr 60 (Go.Operand.tmp 19) 0, type := 0, pos := "parts.go:76", after := #[{ on := 2, ground := Go.Ground.data }], guard := none }
def opwa4 : Oper := { dst := some 21, op := Go.Op.load 57 (Go.Operand.tmp 20), type := 57, pos := "parts.go:76", after := #[{ on := 3, ground := Go.Ground.data }], guard := none }
def opwa5 : Oper := { dst := some 22, op := Go.Op.load 57 (Go.Operand.tmp 3), type := 57, pos := "parts.go:76", after := #[], guard := none }
def opwa6 : Oper := { dst := some 23, op := Go.Op.binOp Go.BinOp.eql 57 (Go.Operand.tmp 21) (Go.Operand.tmp 22) 57, type := 4, pos := "parts.go:76", after := #[{ on := 4, ground := Go.Ground.data }, { on := 5, ground := Go.Ground.data }], guard := none }
/-- Where the library's Join lies in this program. -/
def joinAt : Go.Shelf.Ren := ⟨fun x => if x = 156 then 54 else if x = 165 then 64 else if x = 166 then 65 else if x = 169 then 66 else if x = 240 then 69 else if x = 241 then 70 else if x = 276 then 72 else if x = 277 then 73 else 0, fun x => if x = 0 then 0 else if x = 3 then 3 else if x = 4 then 4 else if x = 5 then 5 else if x = 9 then 9 else if x = 20 then 20 else if x = 31 then 22 else if x = 37 then 54 else if x = 70 then 128 else if x = 72 then 130 else if x = 75 then 133 else if x = 76 then 134 else if x = 80 then 65 else if x = 127 then 140 else if x = 164 then 141 else 0, fun n => n⟩
theorem joinLies : Lays.n156 Tryd.prog joinAt :=
  { mixed := by kernel_rfl, f156 := by kernel_rfl, f165 := by kernel_rfl, f166 := by kernel_rfl, f169 := by kernel_rfl, f240 := by kernel_rfl, f241 := by kernel_rfl, f276 := by kernel_rfl, f277 := by kernel_rfl, t0 := by kernel_rfl, a0 := fun _ => by kernel_rfl, z0 := fun _ => by kernel_rfl, v0 := fun _ => by kernel_rfl, t3 := by kernel_rfl, a3 := fun _ => by kernel_rfl, z3 := fun _ => by kernel_rfl, v3 := fun _ => by kernel_rfl, t4 := by kernel_rfl, a4 := fun _ => by kernel_rfl, z4 := fun _ => by kernel_rfl, v4 := fun _ => by kernel_rfl, t9 := by kernel_rfl, a9 := fun _ => by kernel_rfl, z9 := fun _ => by kernel_rfl, v9 := fun _ => by kernel_rfl, t20 := by kernel_rfl, a20 := fun _ => by kernel_rfl, z20 := fun _ => by kernel_rfl, v20 := fun _ => by kernel_rfl, t31 := by kernel_rfl, a31 := fun _ => by kernel_rfl, z31 := fun _ => by kernel_rfl, v31 := fun _ => by kernel_rfl, t37 := by kernel_rfl, a37 := fun _ => by kernel_rfl, z37 := fun _ => by kernel_rfl, v37 := fun _ => by kernel_rfl, t70 := by kernel_rfl, a70 := fun _ => by kernel_rfl, z70 := fun _ => by kernel_rfl, v70 := fun _ => by kernel_rfl, t72 := by kernel_rfl, a72 := fun _ => by kernel_rfl, z72 := fun _ => by kernel_rfl, v72 := fun _ => by kernel_rfl, t75 := by kernel_rfl, a75 := fun _ => by kernel_rfl, z75 := fun _ => by kernel_rfl, v75 := fun _ => by kernel_rfl, t76 := by kernel_rfl, a76 := fun _ => by kernel_rfl, z76 := fun _ => by kernel_rfl, v76 := fun _ => by kernel_rfl, t127 := by kernel_rfl, a127 := fun _ => by kernel_rfl, z127 := fun _ => by kernel_rfl, v127 := fun _ => by kernel_rfl, t164 := by kernel_rfl, a164 := fun _ => by kernel_rfl, z164 := fun _ => by kernel_rfl, v164 := fun _ => by kernel_rfl }
theorem joinMore : Builder.Extra Tryd.prog joinAt :=
  { sizeBuilder := by kernel_rfl, liesBuilder := by kernel_rfl, t5 := by kernel_rfl, a5 := fun _ => by kernel_rfl, z5 := fun _ => by kernel_rfl, v5 := fun _ => by kernel_rfl, infoByte := by kernel_rfl, cellsByte := by kernel_rfl, sizeByte := by kernel_rfl, neB5 := by decide }
theorem join_flat : ∀ l : List Bs, Lib.join l [] = l.flatten
  | [] => rfl
  | [x] => by simp [Lib.join, List.intercalate]
  | x :: y :: r => by
    have ih := join_flat (y :: r)
    simp only [Lib.join, List.intercalate, List.intersperse, List.flatten_cons] at ih ⊢
    rw [ih]; rfl
theorem flat_le : ∀ l : List Bs, (∀ p ∈ l, p.length ≤ 200) → l.flatten.length ≤ 200 * l.length
  | [], _ => by simp
  | x :: l, h => by
    have := flat_le l fun p hp => h p (List.mem_cons_of_mem _ hp)
    have := h x (List.mem_cons_self ..)
    rw [List.flatten_cons, List.length_append, List.length_cons]; omega
theorem body_any (b g : Nat) (x : Ms) (w : World) (h : MsgAt w b g x) :
    Calls Tryd.prog 44 #[.pointer (some ⟨b, 0, none⟩)] w fun e w' => e = .returned (.string (st x.ps.flatten)) ∧ Below w.heap.size w w' := by
  have hl := h.l
  have n11 := h.n11
  have em : (x.ps.map st).map (·.data.toList) = x.ps := by rw [List.map_map]; simp [Function.comp_def]
  have J := Any.strings_Join joinLies joinMore g 0 x.m.2.1 (x.ps.map st) ⟨#[]⟩ w (fun j y hy => by
      rw [List.getElem?_map] at hy
      obtain ⟨q, hq, rfl⟩ := Option.map_eq_some_iff.1 hy
      rw [Nat.zero_add]
      exact h.r.c j _ (by unfold scl; rw [List.getElem?_map, hq]; rfl)) h.r.lt (by rw [List.length_map]; omega) (by rw [List.length_map]; omega) (by
      rw [em]; show (Lib.join x.ps []).length ≤ _; rw [join_flat]; have := flat_le x.ps h.pl; omega)
  rw [em, List.length_map, hl] at J
  rw [show (⟨#[]⟩ : ByteArray).data.toList = [] from rfl, join_flat] at J
  have JJ : Hid _ := J
  have c15 := h.f.2.2.1
  clear J h em hl
  go_enter Tryd.func44, Tryd.ntmps44
  go_wp2_with fail
  refine Calls.mono JJ.out ?_
  rintro e w1 ⟨rfl, hb⟩
  have B1 : Hid (Below w.heap.size w w1) := hb
  clear hb JJ
  go_wp2
  go_ret
  exact ⟨rfl, B1.out⟩

/-- A row of messages' addresses; a row of ids. -/
def pcl (l : List Nat) : List Value := l.map fun b => .pointer (some ⟨b, 0, none⟩)
abbrev PRow (w : World) (v : Value) (l : List Nat) : Prop := w.ownsRow 0 79 1 v l.length (pcl l)
abbrev NRow (w : World) (v : Value) (D : List Bs) : Prop := w.ownsRow 0 57 8 v D.length (D.flatMap bc)
theorem row_shape {w : World} {e : TypeId} {s n : Nat} {v : Value} {xs : List Value} (h : w.ownsRow 0 e s v n xs) : (v = .slice none 0 0 ∧ n = 0) ∨ ∃ g c, v = .slice (some ⟨g, 0, none⟩) n c ∧ n ≤ c ∧ (∀ j u, xs[j]? = some u → w.cell? ⟨g, j, none⟩ = some u) ∧ g < w.heap.size := by
  rcases h.2 with ⟨h1, h2⟩ | ⟨g, cap, cur, rfl, h2, h3, h4, h5, h6, h7⟩
  · exact .inl ⟨h1, h2⟩
  · refine .inr ⟨g, cap, rfl, h4, fun j u hu => ?_, (Array.getElem?_eq_some_iff.1 h3).1⟩
    have := h.cells rfl j u hu
    rw [add_off, Nat.zero_add] at this; exact this
/-- All blocks of messages. -/
def fl (B : List (Nat × Nat)) : List Nat := B.flatMap fun x => [x.1, x.2]
theorem fl_mem {B : List (Nat × Nat)} {g : Nat} : g ∈ fl B ↔ ∃ x ∈ B, g = x.1 ∨ g = x.2 := by unfold fl; simp
/-- A joiner in memory. -/
structure JAt (w : World) (j : Nat) (J : Jn) (vS vD : Value) (B : List (Nat × Nat)) : Prop where
  blk : Blk w j [.int .i64 (J.mo : Int), vS, .int .i64 (J.no : Int), vD]
  s : PRow w vS (B.map Prod.fst)
  d : NRow w vD J.D
  len : B.length = J.S.length
  ms : ∀ i (hi : i < B.length) (hj : i < J.S.length), MsgAt w B[i].1 B[i].2 J.S[i]
  l8 : ∀ n ∈ J.D, n.length = 8
  nd : (fl B).Nodup
  jS : vS.ownBlock ≠ some j
  jD : vD.ownBlock ≠ some j
  SD : ∀ g, vS.ownBlock = some g → vD.ownBlock ≠ some g
  jB : j ∉ fl B
  SB : ∀ g, vS.ownBlock = some g → g ∉ fl B
  DB : ∀ g, vD.ownBlock = some g → g ∉ fl B
  lS : J.S.length ≤ 1024
  lD : J.D.length ≤ 1024
/-- Its blocks. -/
def JF (j : Nat) (vS vD : Value) (B : List (Nat × Nat)) (g : Nat) : Prop := g = j ∨ vS.ownBlock = some g ∨ vD.ownBlock = some g ∨ g ∈ fl B
theorem JAt.lt {w : World} {j : Nat} {J : Jn} {vS vD : Value} {B : List (Nat × Nat)} (h : JAt w j J vS vD B) {g : Nat} (hg : JF j vS vD B g) : g < w.heap.size := by
  rcases hg with rfl | hg | hg | hg
  · exact h.blk.lt
  · exact (h.s.lt g hg).2
  · exact (h.d.lt g hg).2
  · obtain ⟨x, hx, e⟩ := fl_mem.1 hg
    obtain ⟨i, hi, rfl⟩ := List.mem_iff_getElem.1 hx
    have := h.ms i hi (by rw [← h.len]; exact hi)
    rcases e with rfl | rfl
    · exact this.a.lt
    · exact this.r.lt
theorem JAt.same {w w' : World} {j : Nat} {J : Jn} {vS vD : Value} {B : List (Nat × Nat)} (h : JAt w j J vS vD B) (hs : ∀ g, JF j vS vD B g → w'.heap[g]? = w.heap[g]?) : JAt w' j J vS vD B :=
  { h with
    blk := h.blk.same (hs j (.inl rfl)), s := ownsRow_same h.s fun g e => hs g (.inr (.inl e)), d := ownsRow_same h.d fun g e => hs g (.inr (.inr (.inl e))),
    ms := fun i hi hj => (h.ms i hi hj).same (hs _ (.inr (.inr (.inr (fl_mem.2 ⟨B[i], List.getElem_mem hi, .inl rfl⟩))))) (hs _ (.inr (.inr (.inr (fl_mem.2 ⟨B[i], List.getElem_mem hi, .inr rfl⟩))))) }
theorem JAt.later {w w' : World} {j : Nat} {J : Jn} {vS vD : Value} {B : List (Nat × Nat)} (h : JAt w j J vS vD B) (hb : Below w.heap.size w w') : JAt w' j J vS vD B := h.same fun g hg => hb.block g (h.lt hg)
theorem JAt.bf {F : Nat → Prop} {w w' : World} {j : Nat} {J : Jn} {vS vD : Value} {B : List (Nat × Nat)} (h : JAt w j J vS vD B) (hb : Bf F w w') (hF : ∀ g, JF j vS vD B g → ¬ F g) : JAt w' j J vS vD B := h.same fun g hg => hb.block g (h.lt hg) (hF g hg)
/-- The address of an id's message. -/
def wpt (J : Jn) (B : List (Nat × Nat)) (i : Bs) : Value := match at_ J.S i with
  | none => .pointer none
  | some k => .pointer (some ⟨(B.getD k (0, 0)).1, 0, none⟩)
theorem wpt_none {J : Jn} {B : List (Nat × Nat)} {i : Bs} (h : ∀ x ∈ J.S, x.m.1 ≠ i) : wpt J B i = .pointer none := by unfold wpt; rw [at_none.2 h]
theorem wpt_some {J : Jn} {B : List (Nat × Nat)} {i : Bs} {k : Nat} (hk : k < J.S.length) (hB : k < B.length) (h : J.S[k].m.1 = i) (hj : ∀ q (hq : q < k), J.S[q].m.1 ≠ i) : wpt J B i = .pointer (some ⟨B[k].1, 0, none⟩) := by
  unfold wpt
  rw [at_some.2 ⟨hk, h, hj⟩]
  simp only [List.getD_eq_getElem?_getD, List.getElem?_eq_getElem hB, Option.getD_some]
theorem pcl_get (l : List Nat) (k : Nat) (h : k < l.length) : (pcl l)[k]? = some (.pointer (some ⟨l[k], 0, none⟩)) := by unfold pcl; rw [List.getElem?_map, List.getElem?_eq_getElem h]; rfl
set_option maxHeartbeats 4000000 in
theorem waiting_any (j : Nat) (J : Jn) (vS vD : Value) (B : List (Nat × Nat)) (i : Bs) (hi : i.length = 8) (w : World) (h : Hid (JAt w j J vS vD B)) :
    Calls Tryd.prog 39 #[.pointer (some ⟨j, 0, none⟩), .agg (bc i).toArray] w fun e w' => e = .returned (wpt J B i) ∧ Below w.heap.size w w' := by
  obtain ⟨W0, hW0⟩ : ∃ W, w.alloc (.cells (bc i).toArray 57) = W := ⟨_, rfl⟩
  have y0 : Blk W0 w.heap.size (bc i) := hW0 ▸ Blk.new w (bc i) _ (bc_ne hi)
  have b0 : Below w.heap.size w W0 := hW0 ▸ (Below.refl _ w).alloc (Nat.le_refl _) _
  have s0 : W0.heap.size = w.heap.size + 1 := by rw [← hW0]; simp
  have I0 : Hid (JAt W0 j J vS vD B ∧ Blk W0 w.heap.size (bc i) ∧ Below w.heap.size w W0) := ⟨h.out.later b0, y0, b0⟩
  have c1 : W0.cell? ⟨j, 1, none⟩ = some vS := I0.out.1.blk.c 1 _ rfl
  have ln : Hid ((bc i).length = 8) := by show _ = _; rw [bc_len, hi]
  have HI : Hid (i.length = 8) := hi
  clear y0 b0 hi
  rcases row_shape h.out.s with ⟨rfl, hn⟩ | ⟨g, c, rfl, hnc, hcl, hg⟩
  · have e0 : wpt J B i = .pointer none := wpt_none (by
      intro x hx
      have := h.out.len
      rw [List.length_map] at hn
      rw [hn] at this
      rw [List.length_eq_zero_iff.1 this.symm] at hx; cases hx)
    rw [e0]
    clear e0 hn s0
    go_enter Tryd.func39, Tryd.ntmps39
    go_wp2_with fail
    go_loopw [13] (fun iv wr => iv = .int .i64 0 ∧ wr = W0) (fun _ _ => 0)
    case atStart => exact ⟨rfl, rfl⟩
    case round =>
      obtain ⟨rfl, rfl⟩ := hrel
      go_wp2
      go_ret
      exact ⟨rfl, I0.out.2.2⟩
  · obtain ⟨n, hn⟩ : ∃ n, (B.map Prod.fst).length = n := ⟨_, rfl⟩
    have hBn : B.length = n := by rw [← hn, List.length_map]
    have hSn : J.S.length = n := by rw [← h.out.len, hBn]
    rw [hn] at c1 hnc
    obtain ⟨R, hR⟩ : ∃ R, wpt J B i = R := ⟨_, rfl⟩
    have RN : Hid ((∀ x ∈ J.S, x.m.1 ≠ i) → Value.pointer none = R) := fun z => by rw [← hR]; exact (wpt_none z).symm
    have RS : Hid (∀ k (hk : k < J.S.length) (hB : k < B.length), J.S[k].m.1 = i → (∀ q (hq : q < k), J.S[q].m.1 ≠ i) → Value.pointer (some ⟨B[k].1, 0, none⟩) = R) := fun k h1 h2 h3 h4 => by rw [← hR]; exact (wpt_some h1 h2 h3 h4).symm
    rw [hR]
    have CL : Hid (∀ k (hB : k < B.length) W, Below w.heap.size w W → W.cell? ⟨g, k, none⟩ = some (.pointer (some ⟨B[k].1, 0, none⟩))) := fun k hB W hb => cell_later hb (hcl k _ (by rw [pcl_get _ k (by rw [List.length_map]; exact hB)]; simp))
    have JL : Hid (∀ W, Below w.heap.size w W → JAt W j J (.slice (some ⟨g, 0, none⟩) n c) vD B) := fun W hb => by have := h.out.later hb; rw [hn] at this; exact this
    have n1024 : n ≤ 1024 := by rw [← hSn]; exact h.out.lS
    clear hR hcl hg h
    go_enter Tryd.func39, Tryd.ntmps39
    go_wp2_with fail
    go_loopw [13] (fun iv wr => ∃ k : Nat, k ≤ n ∧ iv = .int .i64 (k : Int) ∧ Hid ((∀ q (hq : q < k) (hl : q < J.S.length), J.S[q].m.1 ≠ i) ∧ Blk wr w.heap.size (bc i) ∧ Below w.heap.size w wr)) (fun iv _ => n - (intOf iv).toNat)
    case atStart => exact ⟨0, Nat.zero_le _, rfl, fun q hq => absurd hq (Nat.not_lt_zero _), I0.out.2.1, I0.out.2.2⟩
    case round =>
      obtain ⟨k, hk, rfl, I⟩ := hrel
      clear I0
      by_cases hlt : k < n
      · have q1 : (k : Int) < (n : Int) := by omega
        have q0 : (0 : Int) ≤ (k : Int) := by omega
        have hB : k < B.length := by rw [hBn]; exact hlt
        have hS : k < J.S.length := by rw [hSn]; exact hlt
        have ck := CL.out k hB wr I.out.2.2
        have M := (JL.out wr I.out.2.2).ms k hB hS
        have IM : Hid (MsgAt wr.drew B[k].1 B[k].2 J.S[k] ∧ Blk wr.drew w.heap.size (bc i)) := ⟨M.later (Below.refl _ _).drew, I.out.2.1.drew⟩
        clear M
        obtain ⟨b, hb⟩ : ∃ b, B[k].1 = b := ⟨_, rfl⟩
        obtain ⟨gg, hgg⟩ : ∃ b, B[k].2 = b := ⟨_, rfl⟩
        have RS2 : Hid (J.S[k].m.1 = i → Value.pointer (some ⟨b, 0, none⟩) = R) := fun z => by rw [← hb]; exact RS.out k hS hB z fun q hq => I.out.1 q hq (by omega)
        rw [hb] at ck IM
        rw [hgg] at IM
        obtain ⟨X, hX⟩ : ∃ x, J.S[k] = x := ⟨_, rfl⟩
        have NX : Hid (X.m.1 ≠ i → ∀ q (hq : q < k + 1) (hl : q < J.S.length), J.S[q].m.1 ≠ i) := fun z q hq hl => by
          by_cases e : q = k
          · subst e; rw [hX]; exact z
          · exact I.out.1 q (by omega) hl
        rw [hX] at IM RS2
        by_cases he : X.m.1 = i
        · have de : decide (X.m.1 = i) = true := decide_eq_true he
          have ER := RS2.out he
          subst ER
          clear RN RS RS2 NX he
          go_upto_region 4 with fail
          refine wp_region_noPanic ?_
          refine wp_region_held_drew (S := fun w' => MsgAt w' b gg X ∧ Blk w' w.heap.size (bc i)) (by kernel_rfl) (IM.out) (fun hHeld => ?_)
          refine wpAnyH_take (i := 0) (oi := opwa0) (v := ?_) rfl (by kernel_rfl) (by kernel_rfl) (by kernel_rfl) (fun _ _ _ h => h) (Or.inl ⟨by rfl, ?_⟩) (by assumption) ?_
          rotate_left
          · intro w' hSw
            clear hSw
            unfold opwa0
            first
            | (go_simp; done)
            | (go_simp; with_reducible rfl)
          simp only [opwa0, Act.put, List.setIfInBounds_toArray, List.set_cons_zero, List.set_cons_succ]
          refine wpAnyH_take (i := 1) (oi := opwa1) (v := ?_) rfl (by kernel_rfl) (by kernel_rfl) (by kernel_rfl) (fun _ _ _ h => h) (Or.inl ⟨by rfl, ?_⟩) (by assumption) ?_
          rotate_left
          · intro w' hSw
            clear hSw
            unfold opwa1
            first
            | (go_simp; done)
            | (go_simp; with_reducible rfl)
          simp only [opwa1, Act.put, List.setIfInBounds_toArray, List.set_cons_zero, List.set_cons_succ]
          refine wpAnyH_take (i := 2) (oi := opwa2) (v := ?_) rfl (by kernel_rfl) (by kernel_rfl) (by kernel_rfl) (fun _ _ _ h => h) (Or.inl ⟨by rfl, ?_⟩) (by assumption) ?_
          rotate_left
          · intro w' hSw
            clear hSw
            unfold opwa2
            first
            | (go_simp; done)
            | (go_simp; with_reducible rfl)
          simp only [opwa2, Act.put, List.setIfInBounds_toArray, List.set_cons_zero, List.set_cons_succ]
          refine wpAnyH_take (i := 3) (oi := opwa3) (v := ?_) rfl (by kernel_rfl) (by kernel_rfl) (by kernel_rfl) (fun _ _ _ h => h) (Or.inl ⟨by rfl, ?_⟩) (by assumption) ?_
          rotate_left
          · intro w' hSw
            clear hSw
            unfold opwa3
            first
            | (go_simp; done)
            | (go_simp; with_reducible rfl)
          simp only [opwa3, Act.put, List.setIfInBounds_toArray, List.set_cons_zero, List.set_cons_succ]
          refine wpAnyH_take (i := 4) (oi := opwa4) (v := ?_) rfl (by kernel_rfl) (by kernel_rfl) (by kernel_rfl) (fun _ _ _ h => h) (Or.inl ⟨by rfl, ?_⟩) (by assumption) ?_
          rotate_left
          · intro w' hSw
            exact exec_load (load_name hSw.1.f.2.1 (by rw [bc_len]; exact hSw.1.m8.a)) opwa4 _ rfl (by first | rfl | kernel_rfl)
          simp only [opwa4, Act.put, List.setIfInBounds_toArray, List.set_cons_zero, List.set_cons_succ]
          refine wpAnyH_take (i := 5) (oi := opwa5) (v := ?_) rfl (by kernel_rfl) (by kernel_rfl) (by kernel_rfl) (fun _ _ _ h => h) (Or.inl ⟨by rfl, ?_⟩) (by assumption) ?_
          rotate_left
          · intro w' hSw
            exact exec_load (load_name hSw.2.r ln.out) opwa5 _ rfl (by first | rfl | kernel_rfl)
          simp only [opwa5, Act.put, List.setIfInBounds_toArray, List.set_cons_zero, List.set_cons_succ]
          refine wpAnyH_take (i := 6) (oi := opwa6) (v := ?_) rfl (by kernel_rfl) (by kernel_rfl) (by kernel_rfl) (fun _ _ _ h => h) (Or.inl ⟨by rfl, ?_⟩) (by assumption) ?_
          rotate_left
          · intro w' hSw
            exact (exec_eq_name IM.out.1.m8.a HI.out opwa6 _ _ rfl (by first | rfl | kernel_rfl) (by first | rfl | kernel_rfl) w').trans (by rw [de])
          simp only [opwa6, Act.put, List.setIfInBounds_toArray, List.set_cons_zero, List.set_cons_succ]
          refine wpAnyH_done (by kernel_rfl) ?_ _
          refine NoPanic.normal ?_
          go_wp2
          go_ret
          exact ⟨rfl, I.out.2.2.drew⟩
        · have de : decide (X.m.1 = i) = false := decide_eq_false he
          have N1 : Hid _ := NX.out he
          clear RS2 NX he
          go_upto_region 4 with fail
          refine wp_region_noPanic ?_
          refine wp_region_held_drew (S := fun w' => MsgAt w' b gg X ∧ Blk w' w.heap.size (bc i)) (by kernel_rfl) (IM.out) (fun hHeld => ?_)
          refine wpAnyH_take (i := 0) (oi := opwa0) (v := ?_) rfl (by kernel_rfl) (by kernel_rfl) (by kernel_rfl) (fun _ _ _ h => h) (Or.inl ⟨by rfl, ?_⟩) (by assumption) ?_
          rotate_left
          · intro w' hSw
            clear hSw
            unfold opwa0
            first
            | (go_simp; done)
            | (go_simp; with_reducible rfl)
          simp only [opwa0, Act.put, List.setIfInBounds_toArray, List.set_cons_zero, List.set_cons_succ]
          refine wpAnyH_take (i := 1) (oi := opwa1) (v := ?_) rfl (by kernel_rfl) (by kernel_rfl) (by kernel_rfl) (fun _ _ _ h => h) (Or.inl ⟨by rfl, ?_⟩) (by assumption) ?_
          rotate_left
          · intro w' hSw
            clear hSw
            unfold opwa1
            first
            | (go_simp; done)
            | (go_simp; with_reducible rfl)
          simp only [opwa1, Act.put, List.setIfInBounds_toArray, List.set_cons_zero, List.set_cons_succ]
          refine wpAnyH_take (i := 2) (oi := opwa2) (v := ?_) rfl (by kernel_rfl) (by kernel_rfl) (by kernel_rfl) (fun _ _ _ h => h) (Or.inl ⟨by rfl, ?_⟩) (by assumption) ?_
          rotate_left
          · intro w' hSw
            clear hSw
            unfold opwa2
            first
            | (go_simp; done)
            | (go_simp; with_reducible rfl)
          simp only [opwa2, Act.put, List.setIfInBounds_toArray, List.set_cons_zero, List.set_cons_succ]
          refine wpAnyH_take (i := 3) (oi := opwa3) (v := ?_) rfl (by kernel_rfl) (by kernel_rfl) (by kernel_rfl) (fun _ _ _ h => h) (Or.inl ⟨by rfl, ?_⟩) (by assumption) ?_
          rotate_left
          · intro w' hSw
            clear hSw
            unfold opwa3
            first
            | (go_simp; done)
            | (go_simp; with_reducible rfl)
          simp only [opwa3, Act.put, List.setIfInBounds_toArray, List.set_cons_zero, List.set_cons_succ]
          refine wpAnyH_take (i := 4) (oi := opwa4) (v := ?_) rfl (by kernel_rfl) (by kernel_rfl) (by kernel_rfl) (fun _ _ _ h => h) (Or.inl ⟨by rfl, ?_⟩) (by assumption) ?_
          rotate_left
          · intro w' hSw
            exact exec_load (load_name hSw.1.f.2.1 (by rw [bc_len]; exact hSw.1.m8.a)) opwa4 _ rfl (by first | rfl | kernel_rfl)
          simp only [opwa4, Act.put, List.setIfInBounds_toArray, List.set_cons_zero, List.set_cons_succ]
          refine wpAnyH_take (i := 5) (oi := opwa5) (v := ?_) rfl (by kernel_rfl) (by kernel_rfl) (by kernel_rfl) (fun _ _ _ h => h) (Or.inl ⟨by rfl, ?_⟩) (by assumption) ?_
          rotate_left
          · intro w' hSw
            exact exec_load (load_name hSw.2.r ln.out) opwa5 _ rfl (by first | rfl | kernel_rfl)
          simp only [opwa5, Act.put, List.setIfInBounds_toArray, List.set_cons_zero, List.set_cons_succ]
          refine wpAnyH_take (i := 6) (oi := opwa6) (v := ?_) rfl (by kernel_rfl) (by kernel_rfl) (by kernel_rfl) (fun _ _ _ h => h) (Or.inl ⟨by rfl, ?_⟩) (by assumption) ?_
          rotate_left
          · intro w' hSw
            exact (exec_eq_name IM.out.1.m8.a HI.out opwa6 _ _ rfl (by first | rfl | kernel_rfl) (by first | rfl | kernel_rfl) w').trans (by rw [de])
          simp only [opwa6, Act.put, List.setIfInBounds_toArray, List.set_cons_zero, List.set_cons_succ]
          refine wpAnyH_done (by kernel_rfl) ?_ _
          refine NoPanic.normal ?_
          go_wp2
          go_roundw
          case rel => exact ⟨k + 1, by omega, by go_num, N1.out, I.out.2.1.drew, I.out.2.2.drew⟩
          case measure => simp [intOf]; omega
      · have q1 : ¬ (k : Int) < (n : Int) := by omega
        obtain rfl : k = n := by omega
        have ER := RN.out (fun x hx => by
          obtain ⟨q, hq, rfl⟩ := List.mem_iff_getElem.1 hx
          exact I.out.1 q (by omega) hq)
        subst ER
        clear RN RS
        go_wp2
        go_ret
        exact ⟨rfl, I.out.2.2⟩
end Go.Proofs.YtdepjiocmbbdpaaDoor
