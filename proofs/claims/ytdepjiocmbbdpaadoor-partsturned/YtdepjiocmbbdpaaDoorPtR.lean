/- A message's end. -/
import Derived.Test.YtdepjiocmbbdpaaDoorPtQ
namespace Go.Proofs.YtdepjiocmbbdpaaDoor
open Go.RowKit Go.Proofs.Fd Go.Proofs.Pt
set_option maxRecDepth 20000

def open0 : Oper := { dst := some 15, op := Go.Op.move (Go.Operand.tmp 1), type := 79, pos := "parts.go:87", after := #[], guard := none }
def open1 : Oper := { dst := some 16, op := Go.Op.nilCheck (Go.Operand.tmp 15), type := 0, pos := "parts.go:87", after := #[{ on := 0, ground := Go.Ground.data }], guard := none }
def open2 : Oper := { dst := some 17, op := Go.Op.fieldAddr 83 (Go.Operand.tmp 16) 0, type := 0, pos := "parts.go:87", after := #[{ on := 1, ground := Go.Ground.data }], guard := none }
def open3 : Oper := { dst := some 18, op := Go.Op.load 60 (Go.Operand.tmp 17), type := 60, pos := "parts.go:87", after := #[{ on := 2, ground := Go.Ground.data }], guard := none }
def open4 : Oper := { dst := some 19, op := Go.Op.move (Go.Operand.tmp 1), type := 79, pos := "parts.go:87", after := #[], guard := none }
def open5 : Oper := { dst := some 20, op := Go.Op.nilCheck (Go.Operand.tmp 19), type := 0, pos := "parts.go:87", after := #[{ on := 4, ground := Go.Ground.data }], guard := none }
def open6 : Oper := { dst := some 21, op := Go.Op.fieldAddr 83 (Go.Operand.tmp 20) 0, type := 0, pos := "parts.go:87", after := #[{ on := 5, ground := Go.Ground.data }], guard := none }
def open7 : Oper := { dst := some 22, op := Go.Op.fieldAddr 60 (Go.Operand.tmp 21) 0, type := 0, pos := "parts.go:87", after := #[{ on := 6, ground := Go.Ground.data }], guard := none }
def open8 : Oper := { dst := some 23, op := Go.Op.load 57 (Go.Operand.tmp 22), type := 57, pos := "parts.go:87", after := #[{ on := 7, ground := Go.Ground.data }], guard := none }
def open9 : Oper := { dst := some 24, op := Go.Op.move (Go.Operand.tmp 7), type := 9, pos := "parts.go:87", after := #[], guard := none }
def open10 : Oper := { dst := some 25, op := Go.Op.call { callee := Go.Callee.value (Go.Operand.func 19), args := #[Go.Operand.tmp 23, Go.Operand.tmp 24], argTypes := #[57, 9] }, type := 60, pos := "parts.go:87", after := #[{ on := 8, ground := Go.Ground.data }, { on := 9, ground := Go.Ground.data }], guard := none }
def open11 : Oper := { dst := some 26, op := Go.Op.binOp Go.BinOp.neq 60 (Go.Operand.tmp 18) (Go.Operand.tmp 25) 60, type := 4, pos := "parts.go:87", after := #[{ on := 3, ground := Go.Ground.data }, { on := 10, ground := Go.Ground.data }], guard := none }
def opep0 : Oper := { dst := some 28, op := Go.Op.move (Go.Operand.tmp 0), type := 29, pos := "parts.go:90", after := #[], guard := none }
def opep1 : Oper := { dst := some 29, op := Go.Op.nilCheck (Go.Operand.tmp 28), type := 0, pos := "parts.go:90", after := #[{ on := 0, ground := Go.Ground.data }], guard := none }
def opep2 : Oper := { dst := some 30, op := Go.Op.fieldAddr 75 (Go.Operand.tmp 29) 1, type := 0, pos := "parts.go:90", after := #[{ on := 1, ground := Go.Ground.data }], guard := none }
def opep3 : Oper := { dst := some 31, op := Go.Op.move (Go.Operand.tmp 1), type := 79, pos := "parts.go:90", after := #[], guard := none }
def opep4 : Oper := { dst := some 32, op := Go.Op.nilCheck (Go.Operand.tmp 31), type := 0, pos := "parts.go:90", after := #[{ on := 3, ground := Go.Ground.data }], guard := none }
def opep5 : Oper := { dst := some 33, op := Go.Op.fieldAddr 83 (Go.Operand.tmp 32) 0, type := 0, pos := "parts.go:90", after := #[{ on := 4, ground := Go.Ground.data }], guard := none }
def opep6 : Oper := { dst := some 34, op := Go.Op.fieldAddr 60 (Go.Operand.tmp 33) 0, type := 0, pos := "parts.go:90", after := #[{ on := 5, ground := Go.Ground.data }], guard := none }
def opep7 : Oper := { dst := some 35, op := Go.Op.load 57 (Go.Operand.tmp 34), type := 57, pos := "parts.go:90", after := #[{ on := 6, ground := Go.Ground.data }], guard := none }
def opep8 : Oper := { dst := some 36, op := Go.Op.call { callee := Go.Callee.value (Go.Operand.func 45), args := #[Go.Operand.tmp 30, Go.Operand.tmp 35], argTypes := #[73, 57] }, type := 0, pos := "parts.go:90", after := #[{ on := 2, ground := Go.Ground.data }, { on := 7, ground := Go.Ground.data }], guard := none }
theorem Kh.bf {F : Nat → Prop} {w w' : World} (h : Kh w) (hb : Bf F w w') (hF : ¬ F 0) : Kh w' :=
  ⟨Nat.lt_of_lt_of_le h.1 hb.size, fun i hi => hb.cell (h.2 i hi) hF⟩
theorem filter_erase : ∀ (l : List Nat), l.Nodup → ∀ (k : Nat) (hk : k < l.length), (l.filter fun z => decide (z ≠ l[k])) = l.eraseIdx k
  | [], _, k, hk => absurd hk (Nat.not_lt_zero _)
  | x :: l, h, 0, _ => by
    have h' := List.nodup_cons.1 h
    rw [List.eraseIdx_cons_zero, List.filter_cons_of_neg (by simp)]
    refine List.filter_eq_self.2 fun z hz => ?_
    simp only [List.getElem_cons_zero, decide_eq_true_eq]
    rintro rfl; exact h'.1 hz
  | x :: l, h, k + 1, hk => by
    have h' := List.nodup_cons.1 h
    have hk' : k < l.length := by simpa using hk
    rw [List.eraseIdx_cons_succ, List.getElem_cons_succ, List.filter_cons_of_pos (by
      simp only [decide_eq_true_eq]
      rintro e; exact h'.1 (e ▸ List.getElem_mem hk')), filter_erase l h'.2 k hk']
theorem erase_map : ∀ (B : List (Nat × Nat)) (k : Nat), (B.map Prod.fst).eraseIdx k = (B.eraseIdx k).map Prod.fst
  | [], _ => rfl
  | x :: B, 0 => rfl
  | x :: B, k + 1 => by rw [List.map_cons, List.eraseIdx_cons_succ, List.eraseIdx_cons_succ, List.map_cons, erase_map B k]
theorem fst_nodup : ∀ {B : List (Nat × Nat)}, (fl B).Nodup → (B.map Prod.fst).Nodup
  | [], _ => List.nodup_nil
  | x :: B, h => by
    have h' : ([x.1, x.2] ++ fl B).Nodup := h
    rw [List.nodup_append] at h'
    rw [List.map_cons]
    refine List.nodup_cons.2 ⟨fun hm => ?_, fst_nodup h'.2.1⟩
    obtain ⟨y, hy, e⟩ := List.mem_map.1 hm
    exact h'.2.2 x.1 (by simp) y.1 (fl_mem.2 ⟨y, hy, .inl rfl⟩) e.symm
theorem fl_erase {B : List (Nat × Nat)} {g : Nat} (k : Nat) (h : g ∈ fl (B.eraseIdx k)) : g ∈ fl B := by
  obtain ⟨x, hx, e⟩ := fl_mem.1 h
  exact fl_mem.2 ⟨x, List.mem_of_mem_eraseIdx hx, e⟩
theorem fl_erase_nodup : ∀ {B : List (Nat × Nat)} (k : Nat), (fl B).Nodup → (fl (B.eraseIdx k)).Nodup
  | [], k, h => h
  | x :: B, 0, h => by
    have h' : ([x.1, x.2] ++ fl B).Nodup := h
    exact (List.nodup_append.1 h').2.1
  | x :: B, k + 1, h => by
    have h' : ([x.1, x.2] ++ fl B).Nodup := h
    obtain ⟨h1, h2, h3⟩ := List.nodup_append.1 h'
    show ([x.1, x.2] ++ fl (B.eraseIdx k)).Nodup
    exact List.nodup_append.2 ⟨h1, fl_erase_nodup k h2, fun a ha c hc => h3 a ha c (fl_erase k hc)⟩
/-- A message is struck. -/
theorem JAt.del {w w' : World} {j : Nat} {J : Jn} {vS vS' vD : Value} {B : List (Nat × Nat)} (h : JAt w j J vS vD B) (k : Nat) (hk : k < B.length) (hj : Blk w' j [.int .i64 (J.mo : Int), vS', .int .i64 (J.no : Int), vD]) (hs : PRow w' vS' ((B.eraseIdx k).map Prod.fst)) (ho : vS'.ownBlock = vS.ownBlock) (hb : Bf (fun z => z = j ∨ vS.ownBlock = some z) w w') :
    JAt w' j ⟨J.mo, J.no, J.S.eraseIdx k, J.D⟩ vS' vD (B.eraseIdx k) ∧ ∀ i (hi : i < B.length) (hS : i < J.S.length), MsgAt w' B[i].1 B[i].2 J.S[i] := by
  have keep : ∀ q, q < w.heap.size → q ≠ j → vS.ownBlock ≠ some q → w'.heap[q]? = w.heap[q]? := fun q hq h1 h2 => hb.block q hq (fun e => by rcases e with e | e; exact h1 e; exact h2 e)
  have ms : ∀ i (hi : i < B.length) (hS : i < J.S.length), MsgAt w' B[i].1 B[i].2 J.S[i] := fun i hi hS => by
    have q := fl_in hi
    have m := h.ms i hi hS
    exact m.same (keep _ m.a.lt (fun z => h.jB (z ▸ q.1)) (fun z => h.SB _ z q.1)) (keep _ m.r.lt (fun z => h.jB (z ▸ q.2)) (fun z => h.SB _ z q.2))
  have hkS : k < J.S.length := by rw [← h.len]; exact hk
  refine ⟨⟨hj, hs, ownsRow_same h.d fun q e => keep q (h.d.lt q e).2 (fun z => h.jD (z ▸ e)) (fun z => h.SD q z e), by rw [List.length_eraseIdx_of_lt hk, List.length_eraseIdx_of_lt hkS, h.len], fun i hi hj' => ?_, h.l8, fl_erase_nodup k h.nd, ho ▸ h.jS, h.jD, fun g e => h.SD g (ho ▸ e), fun z => h.jB (fl_erase k z), fun g e z => h.SB g (ho ▸ e) (fl_erase k z), fun g e z => h.DB g e (fl_erase k z), Nat.le_trans (List.length_eraseIdx_le ..) h.lS, h.lD⟩, ms⟩
  rw [List.length_eraseIdx_of_lt hk] at hi
  simp only [List.getElem_eraseIdx]
  by_cases e : i < k
  · simp only [e, dif_pos]; exact ms i (by omega) (by rw [← h.len]; omega)
  · simp only [e, dif_neg, not_false_eq_true]; exact ms (i + 1) (by omega) (by rw [← h.len]; omega)
/-- An id is noted. -/
theorem JAt.note {w w' : World} {j : Nat} {J : Jn} {vS vD vD' : Value} {B : List (Nat × Nat)} (h : JAt w j J vS vD B) {i : Bs} (hi : i.length = 8) (hj : Blk w' j [.int .i64 (J.mo : Int), vS, .int .i64 (J.no : Int), vD']) (hs : NRow w' vD' (J.D ++ [i])) (hn : NewOwn w vD vD') (hb : Bf (fun z => z = j ∨ vD.ownBlock = some z) w w') (hl : J.D.length < 1024) : JAt w' j ⟨J.mo, J.no, J.S, J.D ++ [i]⟩ vS vD' B := by
  have keep : ∀ q, q < w.heap.size → q ≠ j → vD.ownBlock ≠ some q → w'.heap[q]? = w.heap[q]? := fun q hq h1 h2 => hb.block q hq (fun e => by rcases e with e | e; exact h1 e; exact h2 e)
  have old : ∀ q, vD'.ownBlock = some q → vD.ownBlock = some q ∨ w.heap.size ≤ q := fun q e => by
    rcases hn with z | ⟨g', z, hz⟩
    · exact .inl (z ▸ e)
    · rw [z] at e; cases e; exact .inr hz
  refine ⟨hj, ownsRow_same h.s fun q e => keep q (h.s.lt q e).2 (fun z => h.jS (z ▸ e)) (fun z => h.SD q e z), hs, h.len, fun i hi hS => ?_, fun n hn' => ?_, h.nd, h.jS, ?_, ?_, h.jB, h.SB, ?_, h.lS, by rw [List.length_append]; show J.D.length + 1 ≤ _; omega⟩
  · have q := fl_in hi
    have m := h.ms i hi hS
    exact m.same (keep _ m.a.lt (fun z => h.jB (z ▸ q.1)) (fun z => h.DB _ z q.1)) (keep _ m.r.lt (fun z => h.jB (z ▸ q.2)) (fun z => h.DB _ z q.2))
  · rcases List.mem_append.1 hn' with z | z
    · exact h.l8 n z
    · rw [List.mem_singleton.1 z]; exact hi
  · intro e
    rcases old j e with z | z
    · exact h.jD z
    · have := h.blk.lt; omega
  · intro q e e2
    rcases old q e2 with z | z
    · exact h.SD q e z
    · have := (h.s.lt q e).2; omega
  · intro q e hm
    rcases old q e with z | z
    · exact h.DB q z hm
    · have := h.lt (g := q) (.inr (.inr (.inr hm))); omega
/-- A struct, a bool and a number as results. -/
theorem res_c3 {F : Func} {k m n : Nat} {T : TypeId} (hF : F.results = #[.cell k T, .tmp m, .tmp n]) (tmps : Array Value) (w : World) (b : Nat) (x y z : Value) (h0 : tmps.getD k undef = .pointer (some ⟨b, 0, none⟩)) (h1 : tmps.getD m undef = y) (h2 : tmps.getD n undef = z)
    (l1 : (loadVar T ⟨b, 0, none⟩).run Tryd.prog w = .ok x w) : (results F tmps).run Tryd.prog w = .ok (.tuple #[x, y, z]) w := by
  unfold results
  rw [hF]
  have h0' : tmps[k]?.getD undef = .pointer (some ⟨b, 0, none⟩) := by simpa using h0
  have h1' : tmps[m]?.getD undef = y := by simpa using h1
  have h2' : tmps[n]?.getD undef = z := by simpa using h2
  simp [h0', h1', h2', l1, asAddr]
/-- What Take and end answer. -/
def ansV (o : Option (Bs × Bs)) (c : Nat) : Value := match o with
  | none => .tuple #[.agg #[.string ⟨#[]⟩, .string ⟨#[]⟩], .bool false, .int .i64 (c : Int)]
  | some (a, b) => .tuple #[.agg #[.string (st a), .string (st b)], .bool true, .int .i64 (c : Int)]
/-- A joiner behind a call. -/
structure JP (w : World) (j : Nat) (J' : Jn) (vS vD : Value) (B : List (Nat × Nat)) (w' : World) : Prop where
  at_ : ∃ vS' vD' B', JAt w' j J' vS' vD' B' ∧ ∀ g, JF j vS' vD' B' g → JF j vS vD B g ∨ w.heap.size ≤ g
  bf : Bf (JF j vS vD B) w w'
theorem told_set {W : World} {T : Nat} {x0 x1 y0 y1 : Value} (h : Blk W T [x0, x1]) : Blk ((W.setCell ⟨T, 0, none⟩ y0).setCell ⟨T, 1, none⟩ y1) T [y0, y1] := (h.set 0 (by simp) y0).set 1 (by simp) y1
theorem told_load {W : World} {T : Nat} {y0 y1 : Value} (h : Blk W T [y0, y1]) : (loadVar 36 ⟨T, 0, none⟩).run Tryd.prog W = .ok (.agg #[y0, y1]) W :=
  run_loadVar_mid _ T 0 36 [y0, y1] _ h.r Tryd.underlying36 rfl sizeTold
set_option maxHeartbeats 4000000 in
theorem jend_any (j : Nat) (J : Jn) (vS vD : Value) (B : List (Nat × Nat)) (k : Nat) (hk : k < B.length) (hkS : k < J.S.length) (hno : J.D.length < J.no) (hn : J.no ≤ 1024) (w : World) (hK : Hid (Kh w)) (hG : ¬ JF j vS vD B 0) (h : Hid (JAt w j J vS vD B)) :
    Calls Tryd.prog 28 #[.pointer (some ⟨j, 0, none⟩), .pointer (some ⟨B[k].1, 0, none⟩)] w fun e w' => e = .returned (ansV (J.fin J.S k J.S[k]).1 (J.fin J.S k J.S[k]).2.1) ∧ JP w j (J.fin J.S k J.S[k]).2.2 vS vD B w' := by
  obtain ⟨X, hX⟩ : ∃ x, J.S[k] = x := ⟨_, rfl⟩
  obtain ⟨b, hb⟩ : ∃ b, B[k].1 = b := ⟨_, rfl⟩
  obtain ⟨g, hg⟩ : ∃ b, B[k].2 = b := ⟨_, rfl⟩
  have MX : MsgAt w b g X := by have := h.out.ms k hk hkS; rw [hX, hb, hg] at this; exact this
  have X8 : Hid (Mk8 X.m) := MX.m8
  have fl1 : X.ps.flatten.length ≤ 2200 := by have := flat_le X.ps MX.pl; have := MX.l; have := MX.n11; omega
  obtain ⟨W0, hW0⟩ : ∃ W, w.alloc (.cells #[.string ⟨#[]⟩, .string ⟨#[]⟩] 36) = W := ⟨_, rfl⟩
  have t0 : Blk W0 w.heap.size [.string ⟨#[]⟩, .string ⟨#[]⟩] := hW0 ▸ Blk.new w [.string ⟨#[]⟩, .string ⟨#[]⟩] _ (by simp)
  have b0 : Below w.heap.size w W0 := hW0 ▸ (Below.refl _ w).alloc (Nat.le_refl _) _
  have jw : ∀ q, JF j vS vD B q → q < w.heap.size := fun q hq => h.out.lt hq
  have J0 : JAt W0 j J vS vD B := h.out.later b0
  have obs : ∀ z ∈ B.map Prod.fst, Ob W0 z := fun z hz => by
    obtain ⟨y, hy, rfl⟩ := List.mem_map.1 hz
    obtain ⟨i, hi, rfl⟩ := List.mem_iff_getElem.1 hy
    exact (J0.ms i hi (by rw [← J0.len]; exact hi)).ob
  have fe : ((B.map Prod.fst).filter fun z => decide (z ≠ b)) = (B.eraseIdx k).map Prod.fst := by
    have := filter_erase (B.map Prod.fst) (fst_nodup h.out.nd) k (by rw [List.length_map]; exact hk)
    rw [List.getElem_map, hb] at this
    rw [this, erase_map]
  have DR : Hid _ := qdrop_any j J.mo J.no vS vD (B.map Prod.fst) b W0 J0.blk J0.s (List.mem_map.2 ⟨B[k], List.getElem_mem hk, hb⟩) obs J0.jS (fun q e hm => by
    obtain ⟨y, hy, rfl⟩ := List.mem_map.1 hm
    exact J0.SB _ e (fl_mem.2 ⟨y, hy, .inl rfl⟩))
  rw [fe] at DR
  have ND : Hid (∀ W vS', Blk W j [.int .i64 (J.mo : Int), vS', .int .i64 (J.no : Int), vD] → PRow W vS' ((B.eraseIdx k).map Prod.fst) → vS'.ownBlock = vS.ownBlock → Bf (fun z => z = j ∨ vS.ownBlock = some z) W0 W → JAt W j ⟨J.mo, J.no, J.S.eraseIdx k, J.D⟩ vS' vD (B.eraseIdx k) ∧ MsgAt W b g X ∧ Blk W w.heap.size [.string ⟨#[]⟩, .string ⟨#[]⟩] ∧ Bf (JF j vS vD B) w W) := fun W vS' h1 h2 h3 h4 => by
    obtain ⟨q1, q2⟩ := J0.del k hk h1 h2 h3 h4
    refine ⟨q1, ?_, t0.bf h4 (by rintro (z | z); have := jw j (.inl rfl); omega; have := jw _ (.inr (.inl z)); omega), (Bf.of b0).trans (Nx.refl _ _) ⟨h4.os, h4.tape, h4.output, h4.size, fun z hz hF => h4.block z hz (fun e => by rcases e with e | e; exact hF (.inl e); exact hF (.inr (.inl e)))⟩⟩
    have := q2 k hk hkS
    rw [hX, hb, hg] at this; exact this
  have BO : Hid (∀ W, MsgAt W b g X → Calls Tryd.prog 44 #[.pointer (some ⟨b, 0, none⟩)] W fun e w' => e = .returned (.string (st X.ps.flatten)) ∧ Below W.heap.size W w') := fun W hW => body_any b g X W hW
  have MO : Hid (∀ W, Bf (JF j vS vD B) w W → Calls Tryd.prog 19 #[.agg (bc X.m.1).toArray, .string (st X.ps.flatten)] W fun e w' => e = .returned (.agg (mkc (mkOf X.m.1 X.ps.flatten)).toArray) ∧ Below W.heap.size W w') := fun W hW => markOf_any X.m.1 X.ps.flatten X8.out.a (by omega) W (hK.out.bf hW hG)
  have M8 : Hid (Mk8 (mkOf X.m.1 X.ps.flatten)) := ⟨X8.out.a, dg6_len _ _⟩
  have NT : Hid (∀ w, Calls Tryd.prog 35 #[.agg (bc X.m.1).toArray] w fun e w' => e = .returned (.string (st X.m.1)) ∧ Below w.heap.size w w') := fun w => nameText_any X.m.1 X8.out.a w
  have QN : Hid (∀ W vS', JAt W j ⟨J.mo, J.no, J.S.eraseIdx k, J.D⟩ vS' vD (B.eraseIdx k) → Calls Tryd.prog 45 #[.pointer (some ⟨j, 2, none⟩), .agg (bc X.m.1).toArray] W fun e w' => ∃ vD', e = .returned (.tuple #[]) ∧ Blk w' j [.int .i64 (J.mo : Int), vS', .int .i64 (J.no : Int), vD'] ∧ NRow w' vD' (J.D ++ [X.m.1]) ∧ NewOwn W vD vD' ∧ Bf (fun z => z = j ∨ vD.ownBlock = some z) W w') := fun W vS' hW => qputN_any j J.mo J.no vS' vD J.D X.m.1 X8.out.a W hW.blk hW.d (by omega) hW.lD hW.jD
  have hD1024 : J.D.length < 1024 := by omega
  have x8a : X.m.1.length = 8 := X8.out.a
  have HNO : Hid (J.D.length ≠ J.no) := by show _ ≠ _; omega
  have AP : Hid (j ∉ fl B ∧ ∀ q, vD.ownBlock = some q → q ∉ fl B) := ⟨h.out.jB, h.out.DB⟩
  have no4 : ∀ q, q ∈ fl (B.eraseIdx k) → q ∈ fl B := fun q hq => fl_erase k hq
  have bgB : b ∈ fl B ∧ g ∈ fl B := by have := fl_in hk; rw [hb, hg] at this; exact this
  rw [hX, hb]
  clear hX hb hg MX obs fe h hk hkS fl1 t0 J0 hno hn
  by_cases hm : X.m = mkOf X.m.1 X.ps.flatten
  · have ef : J.fin J.S k X = (some (X.m.1, X.ps.flatten), 0, ⟨J.mo, J.no, J.S.eraseIdx k, push J.no J.D X.m.1⟩) := by unfold Jn.fin; rw [if_pos hm]
    have ep : push J.no J.D X.m.1 = J.D ++ [X.m.1] := by unfold push; rw [if_neg HNO.out]
    have dm : decide (X.m ≠ mkOf X.m.1 X.ps.flatten) = false := by simp only [ne_eq, decide_eq_false_iff_not, Classical.not_not]; exact hm
    rw [ef, ep]
    unfold ansV
    clear ef ep hm
    go_enter Tryd.func28, Tryd.ntmps28
    go_upto_region 1 with fail
    refine wp_region_lit ?_
    refine wpList_plain rfl (fun K2 hK2 => ?_)
    go_simp
    refine hK2 _ _ ?_
    clear hK2 K2
    refine wpList_plain rfl (fun K2 hK2 => ?_)
    go_simp
    refine hK2 _ _ ?_
    clear hK2 K2
    refine wpList_plain rfl (fun K2 hK2 => ?_)
    go_simp
    refine hK2 _ _ ?_
    clear hK2 K2
    refine wpList_plain rfl (fun K2 hK2 => ?_)
    go_simp
    refine hK2 _ _ ?_
    clear hK2 K2
    refine wpList_plain rfl (fun K2 hK2 => ?_)
    go_simp
    refine Calls.mono (DR.out) ?_
    rintro e w1 ⟨vS', rfl, j1, o1, oS, b1⟩
    have I1 : Hid (JAt w1 j ⟨J.mo, J.no, J.S.eraseIdx k, J.D⟩ vS' vD (B.eraseIdx k) ∧ MsgAt w1 b g X ∧ Blk w1 w.heap.size [.string ⟨#[]⟩, .string ⟨#[]⟩] ∧ Bf (JF j vS vD B) w w1) := ND.out w1 vS' j1 o1 oS b1
    clear j1 o1 b1 DR ND
    refine hK2 _ _ ?_
    clear hK2 K2
    try simp only [Act.put, List.setIfInBounds_toArray, List.set_cons_zero, List.set_cons_succ]
    refine wpList_nil ?_
    try simp only [Act.put, List.setIfInBounds_toArray, List.set_cons_zero, List.set_cons_succ]
    go_upto_region 2 with fail
    refine wp_region_lit ?_
    refine wpList_plain rfl (fun K2 hK2 => ?_)
    go_simp
    refine hK2 _ _ ?_
    clear hK2 K2
    refine wpList_plain rfl (fun K2 hK2 => ?_)
    go_simp
    refine Calls.mono (BO.out _ I1.out.2.1) ?_
    rintro e w2 ⟨rfl, hb2⟩
    have I2 : Hid (JAt w2 j ⟨J.mo, J.no, J.S.eraseIdx k, J.D⟩ vS' vD (B.eraseIdx k) ∧ MsgAt w2 b g X ∧ Blk w2 w.heap.size [.string ⟨#[]⟩, .string ⟨#[]⟩] ∧ Bf (JF j vS vD B) w w2) := ⟨I1.out.1.later hb2, I1.out.2.1.later hb2, I1.out.2.2.1.later hb2, I1.out.2.2.2.later hb2⟩
    have I2d : Hid (JAt w2.drew j ⟨J.mo, J.no, J.S.eraseIdx k, J.D⟩ vS' vD (B.eraseIdx k) ∧ MsgAt w2.drew b g X ∧ Blk w2.drew w.heap.size [.string ⟨#[]⟩, .string ⟨#[]⟩] ∧ Bf (JF j vS vD B) w w2.drew) := ⟨I2.out.1.later (Below.refl _ _).drew, I2.out.2.1.later (Below.refl _ _).drew, I2.out.2.2.1.drew, I2.out.2.2.2.later (Below.refl _ _).drew⟩
    clear hb2 I1 I2
    refine hK2 _ _ ?_
    clear hK2 K2
    try simp only [Act.put, List.setIfInBounds_toArray, List.set_cons_zero, List.set_cons_succ]
    refine wpList_plain rfl (fun K2 hK2 => ?_)
    go_simp
    refine hK2 _ _ ?_
    clear hK2 K2
    refine wpList_nil ?_
    try simp only [Act.put, List.setIfInBounds_toArray, List.set_cons_zero, List.set_cons_succ]
    go_upto_region 3 with fail
    refine wp_region_noPanic ?_
    refine wp_region_held_drew (S := fun w' => MsgAt w' b g X) (by kernel_rfl) (I2d.out.2.1) (fun hHeld => ?_)
    refine wpAnyH_take (i := 0) (oi := open0) (v := ?_) rfl (by kernel_rfl) (by kernel_rfl) (by kernel_rfl) (fun _ _ _ h => h) (Or.inl ⟨by rfl, ?_⟩) (by assumption) ?_
    rotate_left
    · intro w' hSw
      clear hSw
      unfold open0
      first
      | (go_simp; done)
      | (go_simp; with_reducible rfl)
    simp only [open0, Act.put, List.setIfInBounds_toArray, List.set_cons_zero, List.set_cons_succ]
    refine wpAnyH_take (i := 1) (oi := open1) (v := ?_) rfl (by kernel_rfl) (by kernel_rfl) (by kernel_rfl) (fun _ _ _ h => h) (Or.inl ⟨by rfl, ?_⟩) (by assumption) ?_
    rotate_left
    · intro w' hSw
      clear hSw
      unfold open1
      first
      | (go_simp; done)
      | (go_simp; with_reducible rfl)
    simp only [open1, Act.put, List.setIfInBounds_toArray, List.set_cons_zero, List.set_cons_succ]
    refine wpAnyH_take (i := 2) (oi := open2) (v := ?_) rfl (by kernel_rfl) (by kernel_rfl) (by kernel_rfl) (fun _ _ _ h => h) (Or.inl ⟨by rfl, ?_⟩) (by assumption) ?_
    rotate_left
    · intro w' hSw
      clear hSw
      unfold open2
      first
      | (go_simp; done)
      | (go_simp; with_reducible rfl)
    simp only [open2, Act.put, List.setIfInBounds_toArray, List.set_cons_zero, List.set_cons_succ]
    refine wpAnyH_take (i := 3) (oi := open3) (v := ?_) rfl (by kernel_rfl) (by kernel_rfl) (by kernel_rfl) (fun _ _ _ h => h) (Or.inl ⟨by rfl, ?_⟩) (by assumption) ?_
    rotate_left
    · intro w' hSw
      exact exec_load (load_mark hSw.f.1 (mkc_len hSw.m8)) open3 _ rfl (by first | rfl | kernel_rfl)
    simp only [open3, Act.put, List.setIfInBounds_toArray, List.set_cons_zero, List.set_cons_succ]
    refine wpAnyH_take (i := 4) (oi := open4) (v := ?_) rfl (by kernel_rfl) (by kernel_rfl) (by kernel_rfl) (fun _ _ _ h => h) (Or.inl ⟨by rfl, ?_⟩) (by assumption) ?_
    rotate_left
    · intro w' hSw
      clear hSw
      unfold open4
      first
      | (go_simp; done)
      | (go_simp; with_reducible rfl)
    simp only [open4, Act.put, List.setIfInBounds_toArray, List.set_cons_zero, List.set_cons_succ]
    refine wpAnyH_take (i := 5) (oi := open5) (v := ?_) rfl (by kernel_rfl) (by kernel_rfl) (by kernel_rfl) (fun _ _ _ h => h) (Or.inl ⟨by rfl, ?_⟩) (by assumption) ?_
    rotate_left
    · intro w' hSw
      clear hSw
      unfold open5
      first
      | (go_simp; done)
      | (go_simp; with_reducible rfl)
    simp only [open5, Act.put, List.setIfInBounds_toArray, List.set_cons_zero, List.set_cons_succ]
    refine wpAnyH_take (i := 6) (oi := open6) (v := ?_) rfl (by kernel_rfl) (by kernel_rfl) (by kernel_rfl) (fun _ _ _ h => h) (Or.inl ⟨by rfl, ?_⟩) (by assumption) ?_
    rotate_left
    · intro w' hSw
      clear hSw
      unfold open6
      first
      | (go_simp; done)
      | (go_simp; with_reducible rfl)
    simp only [open6, Act.put, List.setIfInBounds_toArray, List.set_cons_zero, List.set_cons_succ]
    refine wpAnyH_take (i := 7) (oi := open7) (v := ?_) rfl (by kernel_rfl) (by kernel_rfl) (by kernel_rfl) (fun _ _ _ h => h) (Or.inl ⟨by rfl, ?_⟩) (by assumption) ?_
    rotate_left
    · intro w' hSw
      clear hSw
      unfold open7
      first
      | (go_simp; done)
      | (go_simp; with_reducible rfl)
    simp only [open7, Act.put, List.setIfInBounds_toArray, List.set_cons_zero, List.set_cons_succ]
    refine wpAnyH_take (i := 8) (oi := open8) (v := ?_) rfl (by kernel_rfl) (by kernel_rfl) (by kernel_rfl) (fun _ _ _ h => h) (Or.inl ⟨by rfl, ?_⟩) (by assumption) ?_
    rotate_left
    · intro w' hSw
      exact exec_load (load_name hSw.f.2.1 (by rw [bc_len]; exact hSw.m8.a)) open8 _ rfl (by first | rfl | kernel_rfl)
    simp only [open8, Act.put, List.setIfInBounds_toArray, List.set_cons_zero, List.set_cons_succ]
    refine wpAnyH_take (i := 9) (oi := open9) (v := ?_) rfl (by kernel_rfl) (by kernel_rfl) (by kernel_rfl) (fun _ _ _ h => h) (Or.inl ⟨by rfl, ?_⟩) (by assumption) ?_
    rotate_left
    · intro w' hSw
      clear hSw
      unfold open9
      first
      | (go_simp; done)
      | (go_simp; with_reducible rfl)
    simp only [open9, Act.put, List.setIfInBounds_toArray, List.set_cons_zero, List.set_cons_succ]
    refine wpAnyH_ready (rs := [10]) (by kernel_rfl) (by simp) ?_
    refine AllReadyH.cons (o := open10) rfl (fun KK hKK => ?_) AllReadyH.nil
    unfold open10
    go_simp
    refine Calls.mono (MO.out _ I2d.out.2.2.2) ?_
    rintro e w3 ⟨rfl, hb3⟩
    have I3 : Hid (JAt w3 j ⟨J.mo, J.no, J.S.eraseIdx k, J.D⟩ vS' vD (B.eraseIdx k) ∧ MsgAt w3 b g X ∧ Blk w3 w.heap.size [.string ⟨#[]⟩, .string ⟨#[]⟩] ∧ Bf (JF j vS vD B) w w3) := ⟨I2d.out.1.later hb3, I2d.out.2.1.later hb3, I2d.out.2.2.1.later hb3, I2d.out.2.2.2.later hb3⟩
    have I3d : Hid (JAt w3.drew j ⟨J.mo, J.no, J.S.eraseIdx k, J.D⟩ vS' vD (B.eraseIdx k) ∧ MsgAt w3.drew b g X ∧ Blk w3.drew w.heap.size [.string ⟨#[]⟩, .string ⟨#[]⟩] ∧ Bf (JF j vS vD B) w w3.drew) := ⟨I3.out.1.later (Below.refl _ _).drew, I3.out.2.1.later (Below.refl _ _).drew, I3.out.2.2.1.drew, I3.out.2.2.2.later (Below.refl _ _).drew⟩
    refine hKK.out _ _ (hHeld.later hb3) (fun hHeld => ?_)
    clear hKK KK
    try simp only [open10, Act.put, List.setIfInBounds_toArray, List.set_cons_zero, List.set_cons_succ]
    refine wpAnyH_take (i := 11) (oi := open11) (v := ?_) rfl (by kernel_rfl) (by kernel_rfl) (by kernel_rfl) (fun _ _ _ h => h) (Or.inl ⟨by rfl, ?_⟩) (by assumption) ?_
    rotate_left
    · intro w' hSw
      exact (exec_ne_mark X8.out M8.out open11 _ _ rfl (by first | rfl | kernel_rfl) (by first | rfl | kernel_rfl) w').trans (by rw [dm])
    simp only [open11, Act.put, List.setIfInBounds_toArray, List.set_cons_zero, List.set_cons_succ]
    refine wpAnyH_done (by kernel_rfl) ?_ _
    refine NoPanic.normal ?_
    go_upto_region 5 with fail
    refine wp_region_noPanic ?_
    refine wp_region_held_drew (S := fun w' => MsgAt w' b g X) (by kernel_rfl) (I3d.out.2.1) (fun hHeld => ?_)
    refine wpAnyH_take (i := 0) (oi := opep0) (v := ?_) rfl (by kernel_rfl) (by kernel_rfl) (by kernel_rfl) (fun _ _ _ h => h) (Or.inl ⟨by rfl, ?_⟩) (by assumption) ?_
    rotate_left
    · intro w' hSw
      clear hSw
      unfold opep0
      first
      | (go_simp; done)
      | (go_simp; with_reducible rfl)
    simp only [opep0, Act.put, List.setIfInBounds_toArray, List.set_cons_zero, List.set_cons_succ]
    refine wpAnyH_take (i := 1) (oi := opep1) (v := ?_) rfl (by kernel_rfl) (by kernel_rfl) (by kernel_rfl) (fun _ _ _ h => h) (Or.inl ⟨by rfl, ?_⟩) (by assumption) ?_
    rotate_left
    · intro w' hSw
      clear hSw
      unfold opep1
      first
      | (go_simp; done)
      | (go_simp; with_reducible rfl)
    simp only [opep1, Act.put, List.setIfInBounds_toArray, List.set_cons_zero, List.set_cons_succ]
    refine wpAnyH_take (i := 2) (oi := opep2) (v := ?_) rfl (by kernel_rfl) (by kernel_rfl) (by kernel_rfl) (fun _ _ _ h => h) (Or.inl ⟨by rfl, ?_⟩) (by assumption) ?_
    rotate_left
    · intro w' hSw
      clear hSw
      unfold opep2
      first
      | (go_simp; done)
      | (go_simp; with_reducible rfl)
    simp only [opep2, Act.put, List.setIfInBounds_toArray, List.set_cons_zero, List.set_cons_succ]
    refine wpAnyH_take (i := 3) (oi := opep3) (v := ?_) rfl (by kernel_rfl) (by kernel_rfl) (by kernel_rfl) (fun _ _ _ h => h) (Or.inl ⟨by rfl, ?_⟩) (by assumption) ?_
    rotate_left
    · intro w' hSw
      clear hSw
      unfold opep3
      first
      | (go_simp; done)
      | (go_simp; with_reducible rfl)
    simp only [opep3, Act.put, List.setIfInBounds_toArray, List.set_cons_zero, List.set_cons_succ]
    refine wpAnyH_take (i := 4) (oi := opep4) (v := ?_) rfl (by kernel_rfl) (by kernel_rfl) (by kernel_rfl) (fun _ _ _ h => h) (Or.inl ⟨by rfl, ?_⟩) (by assumption) ?_
    rotate_left
    · intro w' hSw
      clear hSw
      unfold opep4
      first
      | (go_simp; done)
      | (go_simp; with_reducible rfl)
    simp only [opep4, Act.put, List.setIfInBounds_toArray, List.set_cons_zero, List.set_cons_succ]
    refine wpAnyH_take (i := 5) (oi := opep5) (v := ?_) rfl (by kernel_rfl) (by kernel_rfl) (by kernel_rfl) (fun _ _ _ h => h) (Or.inl ⟨by rfl, ?_⟩) (by assumption) ?_
    rotate_left
    · intro w' hSw
      clear hSw
      unfold opep5
      first
      | (go_simp; done)
      | (go_simp; with_reducible rfl)
    simp only [opep5, Act.put, List.setIfInBounds_toArray, List.set_cons_zero, List.set_cons_succ]
    refine wpAnyH_take (i := 6) (oi := opep6) (v := ?_) rfl (by kernel_rfl) (by kernel_rfl) (by kernel_rfl) (fun _ _ _ h => h) (Or.inl ⟨by rfl, ?_⟩) (by assumption) ?_
    rotate_left
    · intro w' hSw
      clear hSw
      unfold opep6
      first
      | (go_simp; done)
      | (go_simp; with_reducible rfl)
    simp only [opep6, Act.put, List.setIfInBounds_toArray, List.set_cons_zero, List.set_cons_succ]
    refine wpAnyH_take (i := 7) (oi := opep7) (v := ?_) rfl (by kernel_rfl) (by kernel_rfl) (by kernel_rfl) (fun _ _ _ h => h) (Or.inl ⟨by rfl, ?_⟩) (by assumption) ?_
    rotate_left
    · intro w' hSw
      exact exec_load (load_name hSw.f.2.1 (by rw [bc_len]; exact hSw.m8.a)) opep7 _ rfl (by first | rfl | kernel_rfl)
    simp only [opep7, Act.put, List.setIfInBounds_toArray, List.set_cons_zero, List.set_cons_succ]
    refine wpAnyH_ready (rs := [8]) (by kernel_rfl) (by simp) ?_
    refine AllReadyH.cons (o := opep8) rfl (fun KK hKK => ?_) AllReadyH.nil
    unfold opep8
    go_simp
    refine Calls.mono (QN.out _ vS' I3d.out.1) ?_
    rintro e w5 ⟨vD', rfl, j5, n5, nw5, b5⟩
    have I5 : Hid (JAt w5 j ⟨J.mo, J.no, J.S.eraseIdx k, J.D ++ [X.m.1]⟩ vS' vD' (B.eraseIdx k) ∧ MsgAt w5 b g X ∧ Blk w5 w.heap.size [.string ⟨#[]⟩, .string ⟨#[]⟩] ∧ Bf (JF j vS vD B) w w5) := by
      refine ⟨I3d.out.1.note x8a j5 n5 nw5 b5 hD1024, I3d.out.2.1.bf b5 (by rintro (z | z); exact AP.out.1 (z ▸ bgB.1); exact AP.out.2 _ z bgB.1) (by rintro (z | z); exact AP.out.1 (z ▸ bgB.2); exact AP.out.2 _ z bgB.2), I3d.out.2.2.1.bf b5 (by rintro (z | z); have := jw j (.inl rfl); omega; have := jw _ (.inr (.inr (.inl z))); omega), I3d.out.2.2.2.trans (Nx.refl _ _) ⟨b5.os, b5.tape, b5.output, b5.size, fun z hz hF => b5.block z hz (fun e => by rcases e with e | e; exact hF (.inl e); exact hF (.inr (.inr (.inl e))))⟩⟩
    have NW : Hid (∀ q, vD'.ownBlock = some q → vD.ownBlock = some q ∨ w.heap.size ≤ q) := fun q e => by
      rcases nw5 with z | ⟨g', z, hz⟩
      · exact .inl (z ▸ e)
      · rw [z] at e; cases e; exact .inr (Nat.le_trans I3d.out.2.2.2.size hz)
    have DT : Hid (vD'.ownBlock ≠ some w.heap.size) := by
      show _ ≠ _
      intro e
      rcases nw5 with z | ⟨g', z, hz⟩
      · have := jw _ (.inr (.inr (.inl (z ▸ e)))); omega
      · rw [z] at e; cases e; have := I3d.out.2.2.1.lt; omega
    clear j5 n5 nw5 b5
    refine hKK.out _ _ (I5.out.2.1) (fun hHeld => ?_)
    clear hKK KK
    try simp only [opep8, Act.put, List.setIfInBounds_toArray, List.set_cons_zero, List.set_cons_succ]
    refine wpAnyH_done (by kernel_rfl) ?_ _
    refine NoPanic.normal ?_
    go_upto_region 6 with fail
    refine wp_region_lit ?_
    refine wpList_plain rfl (fun K2 hK2 => ?_)
    go_simp
    refine hK2 _ _ ?_
    clear hK2 K2
    refine wpList_plain rfl (fun K2 hK2 => ?_)
    go_simp
    refine hK2 _ _ ?_
    clear hK2 K2
    refine wpList_plain rfl (fun K2 hK2 => ?_)
    go_simp
    refine hK2 _ _ ?_
    clear hK2 K2
    refine wpList_plain rfl (fun K2 hK2 => ?_)
    go_simp
    refine hK2 _ _ ?_
    clear hK2 K2
    refine wpList_plain rfl (fun K2 hK2 => wp_load_run _ _ rfl _ rfl _ (load_name I5.out.2.1.f.2.1 (by rw [bc_len]; exact x8a)) (hK2 _ _ ?_))
    try simp only [Act.put, List.setIfInBounds_toArray, List.set_cons_zero, List.set_cons_succ]
    refine wpList_plain rfl (fun K2 hK2 => ?_)
    go_simp
    refine Calls.mono (NT.out _) ?_
    rintro e w6 ⟨rfl, hb6⟩
    have I6 : Hid (JAt w6 j ⟨J.mo, J.no, J.S.eraseIdx k, J.D ++ [X.m.1]⟩ vS' vD' (B.eraseIdx k) ∧ MsgAt w6 b g X ∧ Blk w6 w.heap.size [.string ⟨#[]⟩, .string ⟨#[]⟩] ∧ Bf (JF j vS vD B) w w6) := ⟨I5.out.1.later hb6, I5.out.2.1.later hb6, I5.out.2.2.1.later hb6, I5.out.2.2.2.later hb6⟩
    have tc0 := I6.out.2.2.1.c 0 _ rfl
    have tc1 := I6.out.2.2.1.c 1 _ rfl
    have tf := I6.out.2.2.1.f
    have FI : Hid (Blk ((w6.setCell ⟨w.heap.size, 0, none⟩ (.string (st X.m.1))).setCell ⟨w.heap.size, 1, none⟩ (.string (st X.ps.flatten))) w.heap.size [.string (st X.m.1), .string (st X.ps.flatten)] ∧ JP w j ⟨J.mo, J.no, J.S.eraseIdx k, J.D ++ [X.m.1]⟩ vS vD B ((w6.setCell ⟨w.heap.size, 0, none⟩ (.string (st X.m.1))).setCell ⟨w.heap.size, 1, none⟩ (.string (st X.ps.flatten)))) := by
      have bfs : Bf (fun z => z = w.heap.size) w6 ((w6.setCell ⟨w.heap.size, 0, none⟩ (.string (st X.m.1))).setCell ⟨w.heap.size, 1, none⟩ (.string (st X.ps.flatten))) := Bf.put1 w6 w.heap.size 0 [.string (st X.m.1), .string (st X.ps.flatten)]
      have jl : ∀ q, JF j vS' vD' (B.eraseIdx k) q → JF j vS vD B q ∨ w.heap.size ≤ q := fun q hq => by
        rcases hq with e | e | e | e
        · exact .inl (.inl e)
        · exact .inl (.inr (.inl (oS ▸ e)))
        · rcases NW.out q e with z | z
          · exact .inl (.inr (.inr (.inl z)))
          · exact .inr z
        · exact .inl (.inr (.inr (.inr (no4 q e))))
      refine ⟨told_set I6.out.2.2.1, ⟨vS', vD', B.eraseIdx k, I6.out.1.bf bfs (fun q hq e => ?_), jl⟩, ?_⟩
      · have d := DT.out; rcases hq with z | z | z | z
        · have := jw j (.inl rfl); omega
        · have := jw q (.inr (.inl (oS ▸ z))); omega
        · exact d (e ▸ z)
        · have := jw q (.inr (.inr (.inr (no4 q z)))); omega
      · exact ⟨bfs.os.trans I6.out.2.2.2.os, bfs.tape.trans I6.out.2.2.2.tape, bfs.output.trans I6.out.2.2.2.output, Nat.le_trans I6.out.2.2.2.size bfs.size, fun z hz hF => (bfs.block z (Nat.lt_of_lt_of_le hz I6.out.2.2.2.size) (by omega)).trans (I6.out.2.2.2.block z hz hF)⟩
    clear hb6 I5
    refine hK2 _ _ ?_
    clear hK2 K2
    try simp only [Act.put, List.setIfInBounds_toArray, List.set_cons_zero, List.set_cons_succ]
    refine wpList_plain rfl (fun K2 hK2 => ?_)
    go_simp
    refine hK2 _ _ ?_
    clear hK2 K2
    refine wpList_plain rfl (fun K2 hK2 => ?_)
    go_simp
    refine hK2 _ _ ?_
    clear hK2 K2
    refine wpList_plain rfl (fun K2 hK2 => ?_)
    go_simp
    refine hK2 _ _ ?_
    clear hK2 K2
    refine wpList_plain rfl (fun K2 hK2 => ?_)
    go_simp
    refine hK2 _ _ ?_
    clear hK2 K2
    refine wpList_plain rfl (fun K2 hK2 => ?_)
    go_simp
    refine hK2 _ _ ?_
    clear hK2 K2
    refine wpList_nil ?_
    try simp only [Act.put, List.setIfInBounds_toArray, List.set_cons_zero, List.set_cons_succ]
    go_wp2
    refine bodyPost_ret (v := .tuple #[.agg #[.string (st X.m.1), .string (st X.ps.flatten)], .bool true, .int .i64 0]) ?_ rfl ⟨rfl, FI.out.2⟩
    exact res_c3 Tryd.results28 _ _ w.heap.size _ _ _ (by kernel_rfl) (by kernel_rfl) (by kernel_rfl) (told_load FI.out.1)
  · have ef : J.fin J.S k X = (none, 220, ⟨J.mo, J.no, J.S.eraseIdx k, J.D⟩) := by unfold Jn.fin; rw [if_neg hm]
    have dm : decide (X.m ≠ mkOf X.m.1 X.ps.flatten) = true := decide_eq_true hm
    rw [ef]
    unfold ansV
    clear ef hm
    go_enter Tryd.func28, Tryd.ntmps28
    go_upto_region 1 with fail
    refine wp_region_lit ?_
    refine wpList_plain rfl (fun K2 hK2 => ?_)
    go_simp
    refine hK2 _ _ ?_
    clear hK2 K2
    refine wpList_plain rfl (fun K2 hK2 => ?_)
    go_simp
    refine hK2 _ _ ?_
    clear hK2 K2
    refine wpList_plain rfl (fun K2 hK2 => ?_)
    go_simp
    refine hK2 _ _ ?_
    clear hK2 K2
    refine wpList_plain rfl (fun K2 hK2 => ?_)
    go_simp
    refine hK2 _ _ ?_
    clear hK2 K2
    refine wpList_plain rfl (fun K2 hK2 => ?_)
    go_simp
    refine Calls.mono (DR.out) ?_
    rintro e w1 ⟨vS', rfl, j1, o1, oS, b1⟩
    have I1 : Hid (JAt w1 j ⟨J.mo, J.no, J.S.eraseIdx k, J.D⟩ vS' vD (B.eraseIdx k) ∧ MsgAt w1 b g X ∧ Blk w1 w.heap.size [.string ⟨#[]⟩, .string ⟨#[]⟩] ∧ Bf (JF j vS vD B) w w1) := ND.out w1 vS' j1 o1 oS b1
    clear j1 o1 b1 DR ND
    refine hK2 _ _ ?_
    clear hK2 K2
    try simp only [Act.put, List.setIfInBounds_toArray, List.set_cons_zero, List.set_cons_succ]
    refine wpList_nil ?_
    try simp only [Act.put, List.setIfInBounds_toArray, List.set_cons_zero, List.set_cons_succ]
    go_upto_region 2 with fail
    refine wp_region_lit ?_
    refine wpList_plain rfl (fun K2 hK2 => ?_)
    go_simp
    refine hK2 _ _ ?_
    clear hK2 K2
    refine wpList_plain rfl (fun K2 hK2 => ?_)
    go_simp
    refine Calls.mono (BO.out _ I1.out.2.1) ?_
    rintro e w2 ⟨rfl, hb2⟩
    have I2 : Hid (JAt w2 j ⟨J.mo, J.no, J.S.eraseIdx k, J.D⟩ vS' vD (B.eraseIdx k) ∧ MsgAt w2 b g X ∧ Blk w2 w.heap.size [.string ⟨#[]⟩, .string ⟨#[]⟩] ∧ Bf (JF j vS vD B) w w2) := ⟨I1.out.1.later hb2, I1.out.2.1.later hb2, I1.out.2.2.1.later hb2, I1.out.2.2.2.later hb2⟩
    have I2d : Hid (JAt w2.drew j ⟨J.mo, J.no, J.S.eraseIdx k, J.D⟩ vS' vD (B.eraseIdx k) ∧ MsgAt w2.drew b g X ∧ Blk w2.drew w.heap.size [.string ⟨#[]⟩, .string ⟨#[]⟩] ∧ Bf (JF j vS vD B) w w2.drew) := ⟨I2.out.1.later (Below.refl _ _).drew, I2.out.2.1.later (Below.refl _ _).drew, I2.out.2.2.1.drew, I2.out.2.2.2.later (Below.refl _ _).drew⟩
    clear hb2 I1 I2
    refine hK2 _ _ ?_
    clear hK2 K2
    try simp only [Act.put, List.setIfInBounds_toArray, List.set_cons_zero, List.set_cons_succ]
    refine wpList_plain rfl (fun K2 hK2 => ?_)
    go_simp
    refine hK2 _ _ ?_
    clear hK2 K2
    refine wpList_nil ?_
    try simp only [Act.put, List.setIfInBounds_toArray, List.set_cons_zero, List.set_cons_succ]
    go_upto_region 3 with fail
    refine wp_region_noPanic ?_
    refine wp_region_held_drew (S := fun w' => MsgAt w' b g X) (by kernel_rfl) (I2d.out.2.1) (fun hHeld => ?_)
    refine wpAnyH_take (i := 0) (oi := open0) (v := ?_) rfl (by kernel_rfl) (by kernel_rfl) (by kernel_rfl) (fun _ _ _ h => h) (Or.inl ⟨by rfl, ?_⟩) (by assumption) ?_
    rotate_left
    · intro w' hSw
      clear hSw
      unfold open0
      first
      | (go_simp; done)
      | (go_simp; with_reducible rfl)
    simp only [open0, Act.put, List.setIfInBounds_toArray, List.set_cons_zero, List.set_cons_succ]
    refine wpAnyH_take (i := 1) (oi := open1) (v := ?_) rfl (by kernel_rfl) (by kernel_rfl) (by kernel_rfl) (fun _ _ _ h => h) (Or.inl ⟨by rfl, ?_⟩) (by assumption) ?_
    rotate_left
    · intro w' hSw
      clear hSw
      unfold open1
      first
      | (go_simp; done)
      | (go_simp; with_reducible rfl)
    simp only [open1, Act.put, List.setIfInBounds_toArray, List.set_cons_zero, List.set_cons_succ]
    refine wpAnyH_take (i := 2) (oi := open2) (v := ?_) rfl (by kernel_rfl) (by kernel_rfl) (by kernel_rfl) (fun _ _ _ h => h) (Or.inl ⟨by rfl, ?_⟩) (by assumption) ?_
    rotate_left
    · intro w' hSw
      clear hSw
      unfold open2
      first
      | (go_simp; done)
      | (go_simp; with_reducible rfl)
    simp only [open2, Act.put, List.setIfInBounds_toArray, List.set_cons_zero, List.set_cons_succ]
    refine wpAnyH_take (i := 3) (oi := open3) (v := ?_) rfl (by kernel_rfl) (by kernel_rfl) (by kernel_rfl) (fun _ _ _ h => h) (Or.inl ⟨by rfl, ?_⟩) (by assumption) ?_
    rotate_left
    · intro w' hSw
      exact exec_load (load_mark hSw.f.1 (mkc_len hSw.m8)) open3 _ rfl (by first | rfl | kernel_rfl)
    simp only [open3, Act.put, List.setIfInBounds_toArray, List.set_cons_zero, List.set_cons_succ]
    refine wpAnyH_take (i := 4) (oi := open4) (v := ?_) rfl (by kernel_rfl) (by kernel_rfl) (by kernel_rfl) (fun _ _ _ h => h) (Or.inl ⟨by rfl, ?_⟩) (by assumption) ?_
    rotate_left
    · intro w' hSw
      clear hSw
      unfold open4
      first
      | (go_simp; done)
      | (go_simp; with_reducible rfl)
    simp only [open4, Act.put, List.setIfInBounds_toArray, List.set_cons_zero, List.set_cons_succ]
    refine wpAnyH_take (i := 5) (oi := open5) (v := ?_) rfl (by kernel_rfl) (by kernel_rfl) (by kernel_rfl) (fun _ _ _ h => h) (Or.inl ⟨by rfl, ?_⟩) (by assumption) ?_
    rotate_left
    · intro w' hSw
      clear hSw
      unfold open5
      first
      | (go_simp; done)
      | (go_simp; with_reducible rfl)
    simp only [open5, Act.put, List.setIfInBounds_toArray, List.set_cons_zero, List.set_cons_succ]
    refine wpAnyH_take (i := 6) (oi := open6) (v := ?_) rfl (by kernel_rfl) (by kernel_rfl) (by kernel_rfl) (fun _ _ _ h => h) (Or.inl ⟨by rfl, ?_⟩) (by assumption) ?_
    rotate_left
    · intro w' hSw
      clear hSw
      unfold open6
      first
      | (go_simp; done)
      | (go_simp; with_reducible rfl)
    simp only [open6, Act.put, List.setIfInBounds_toArray, List.set_cons_zero, List.set_cons_succ]
    refine wpAnyH_take (i := 7) (oi := open7) (v := ?_) rfl (by kernel_rfl) (by kernel_rfl) (by kernel_rfl) (fun _ _ _ h => h) (Or.inl ⟨by rfl, ?_⟩) (by assumption) ?_
    rotate_left
    · intro w' hSw
      clear hSw
      unfold open7
      first
      | (go_simp; done)
      | (go_simp; with_reducible rfl)
    simp only [open7, Act.put, List.setIfInBounds_toArray, List.set_cons_zero, List.set_cons_succ]
    refine wpAnyH_take (i := 8) (oi := open8) (v := ?_) rfl (by kernel_rfl) (by kernel_rfl) (by kernel_rfl) (fun _ _ _ h => h) (Or.inl ⟨by rfl, ?_⟩) (by assumption) ?_
    rotate_left
    · intro w' hSw
      exact exec_load (load_name hSw.f.2.1 (by rw [bc_len]; exact hSw.m8.a)) open8 _ rfl (by first | rfl | kernel_rfl)
    simp only [open8, Act.put, List.setIfInBounds_toArray, List.set_cons_zero, List.set_cons_succ]
    refine wpAnyH_take (i := 9) (oi := open9) (v := ?_) rfl (by kernel_rfl) (by kernel_rfl) (by kernel_rfl) (fun _ _ _ h => h) (Or.inl ⟨by rfl, ?_⟩) (by assumption) ?_
    rotate_left
    · intro w' hSw
      clear hSw
      unfold open9
      first
      | (go_simp; done)
      | (go_simp; with_reducible rfl)
    simp only [open9, Act.put, List.setIfInBounds_toArray, List.set_cons_zero, List.set_cons_succ]
    refine wpAnyH_ready (rs := [10]) (by kernel_rfl) (by simp) ?_
    refine AllReadyH.cons (o := open10) rfl (fun KK hKK => ?_) AllReadyH.nil
    unfold open10
    go_simp
    refine Calls.mono (MO.out _ I2d.out.2.2.2) ?_
    rintro e w3 ⟨rfl, hb3⟩
    have I3 : Hid (JAt w3 j ⟨J.mo, J.no, J.S.eraseIdx k, J.D⟩ vS' vD (B.eraseIdx k) ∧ MsgAt w3 b g X ∧ Blk w3 w.heap.size [.string ⟨#[]⟩, .string ⟨#[]⟩] ∧ Bf (JF j vS vD B) w w3) := ⟨I2d.out.1.later hb3, I2d.out.2.1.later hb3, I2d.out.2.2.1.later hb3, I2d.out.2.2.2.later hb3⟩
    have I3d : Hid (JAt w3.drew j ⟨J.mo, J.no, J.S.eraseIdx k, J.D⟩ vS' vD (B.eraseIdx k) ∧ MsgAt w3.drew b g X ∧ Blk w3.drew w.heap.size [.string ⟨#[]⟩, .string ⟨#[]⟩] ∧ Bf (JF j vS vD B) w w3.drew) := ⟨I3.out.1.later (Below.refl _ _).drew, I3.out.2.1.later (Below.refl _ _).drew, I3.out.2.2.1.drew, I3.out.2.2.2.later (Below.refl _ _).drew⟩
    refine hKK.out _ _ (hHeld.later hb3) (fun hHeld => ?_)
    clear hKK KK
    try simp only [open10, Act.put, List.setIfInBounds_toArray, List.set_cons_zero, List.set_cons_succ]
    refine wpAnyH_take (i := 11) (oi := open11) (v := ?_) rfl (by kernel_rfl) (by kernel_rfl) (by kernel_rfl) (fun _ _ _ h => h) (Or.inl ⟨by rfl, ?_⟩) (by assumption) ?_
    rotate_left
    · intro w' hSw
      exact (exec_ne_mark X8.out M8.out open11 _ _ rfl (by first | rfl | kernel_rfl) (by first | rfl | kernel_rfl) w').trans (by rw [dm])
    simp only [open11, Act.put, List.setIfInBounds_toArray, List.set_cons_zero, List.set_cons_succ]
    refine wpAnyH_done (by kernel_rfl) ?_ _
    refine NoPanic.normal ?_
    have FI : Hid (Blk ((w3.setCell ⟨w.heap.size, 0, none⟩ (.string ⟨#[]⟩)).setCell ⟨w.heap.size, 1, none⟩ (.string ⟨#[]⟩)) w.heap.size [.string ⟨#[]⟩, .string ⟨#[]⟩] ∧ JP w j ⟨J.mo, J.no, J.S.eraseIdx k, J.D⟩ vS vD B ((w3.setCell ⟨w.heap.size, 0, none⟩ (.string ⟨#[]⟩)).setCell ⟨w.heap.size, 1, none⟩ (.string ⟨#[]⟩))) := by
      have bf := Bf.put1 w3 w.heap.size 0 [.string ⟨#[]⟩, .string ⟨#[]⟩]
      have bfs : Bf (fun z => z = w.heap.size) w3 ((w3.setCell ⟨w.heap.size, 0, none⟩ (.string ⟨#[]⟩)).setCell ⟨w.heap.size, 1, none⟩ (.string ⟨#[]⟩)) := bf
      have jl : ∀ q, JF j vS' vD (B.eraseIdx k) q → JF j vS vD B q := fun q hq => by
        rcases hq with e | e | e | e
        · exact .inl e
        · exact .inr (.inl (oS ▸ e))
        · exact .inr (.inr (.inl e))
        · exact .inr (.inr (.inr (no4 q e)))
      refine ⟨told_set I3.out.2.2.1, ⟨vS', vD, B.eraseIdx k, I3.out.1.bf bfs (fun q hq e => by have := jw q (jl q hq); omega), fun q hq => .inl (jl q hq)⟩, ?_⟩
      exact ⟨bfs.os.trans I3.out.2.2.2.os, bfs.tape.trans I3.out.2.2.2.tape, bfs.output.trans I3.out.2.2.2.output, Nat.le_trans I3.out.2.2.2.size bfs.size, fun z hz hF => (bfs.block z (Nat.lt_of_lt_of_le hz I3.out.2.2.2.size) (by omega)).trans (I3.out.2.2.2.block z hz hF)⟩
    have tc0 := I3.out.2.2.1.c 0 _ rfl
    have tc1 := I3.out.2.2.1.c 1 _ rfl
    have tf := I3.out.2.2.1.f
    go_wp2
    refine bodyPost_ret (v := .tuple #[.agg #[.string ⟨#[]⟩, .string ⟨#[]⟩], .bool false, .int .i64 220]) ?_ rfl ⟨rfl, FI.out.2⟩
    exact res_c3 Tryd.results28 _ _ w.heap.size _ _ _ (by kernel_rfl) (by kernel_rfl) (by kernel_rfl) (told_load FI.out.1)
end Go.Proofs.YtdepjiocmbbdpaaDoor
