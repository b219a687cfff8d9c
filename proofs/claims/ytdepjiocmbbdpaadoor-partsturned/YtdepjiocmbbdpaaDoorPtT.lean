/- A joiner takes a text. -/
import Derived.Test.YtdepjiocmbbdpaaDoorPtS
namespace Go.Proofs.YtdepjiocmbbdpaaDoor
open Go.RowKit Go.Proofs.Fd Go.Proofs.Pt
set_option maxRecDepth 20000

def opta0 : Oper := { dst := some 18, op := Go.Op.move (Go.Operand.tmp 0), type := 29, pos := "parts.go:48", after := #[], guard := none }
def opta1 : Oper := { dst := some 19, op := Go.Op.nilCheck (Go.Operand.tmp 18), type := 0, pos := "parts.go:48", after := #[{ on := 0, ground := Go.Ground.data }], guard := none }
def opta2 : Oper := { dst := some 20, op := Go.Op.fieldAddr 75 (Go.Operand.tmp 19) 1, type := 0, pos := "parts.go:48", after := #[{ on := 1, ground := Go.Ground.data }], guard := none }
def opta3 : Oper := { dst := some 21, op := Go.Op.fieldAddr 64 (Go.Operand.tmp 7) 0, type := 0, pos := "parts.go:48", after := #[], guard := none }
def opta4 : Oper := { dst := some 22, op := Go.Op.fieldAddr 60 (Go.Operand.tmp 21) 0, type := 0, pos := "parts.go:48", after := #[{ on := 3, ground := Go.Ground.data }], guard := none }
def opta5 : Oper := { dst := some 23, op := Go.Op.load 57 (Go.Operand.tmp 22), type := 57, pos := "parts.go:48", after := #[{ on := 4, ground := Go.Ground.data }], guard := none }
def opta6 : Oper := { dst := some 24, op := Go.Op.call { callee := Go.Callee.value (Go.Operand.func 26), args := #[Go.Operand.tmp 20, Go.Operand.tmp 23], argTypes := #[73, 57] }, type := 4, pos := "parts.go:48", after := #[{ on := 2, ground := Go.Ground.data }, { on := 5, ground := Go.Ground.data }], guard := none }
/-- While a text is taken: the joiner as it was, the result's block, the part's. -/
structure TkI (w : World) (j : Nat) (J : Jn) (vS vD : Value) (B : List (Nat × Nat)) (Y : Nat) (p : Pa) (W : World) : Prop where
  a : JAt W j J vS vD B
  t : Blk W w.heap.size [.string ⟨#[]⟩, .string ⟨#[]⟩]
  y : Blk W Y (pac p)
  l : w.heap.size < Y
  d : Below w.heap.size w W
theorem TkI.later {w : World} {j : Nat} {J : Jn} {vS vD : Value} {B : List (Nat × Nat)} {Y : Nat} {p : Pa} {W W' : World} (h : TkI w j J vS vD B Y p W) (hb : Below W.heap.size W W') : TkI w j J vS vD B Y p W' := ⟨h.a.later hb, h.t.later hb, h.y.later hb, h.l, chain h.d hb⟩
/-- The end of a call whose joiner stayed, or is another one. -/
theorem jp_told {w W : World} {j : Nat} {J J' : Jn} {vS vD vS' vD' : Value} {B B' : List (Nat × Nat)} (h : JAt w j J vS vD B) (a : JAt W j J' vS' vD' B') (nx : ∀ g, JF j vS' vD' B' g → JF j vS vD B g ∨ w.heap.size < g) (b : Bf (JF j vS vD B) w W) (T : Blk W w.heap.size [.string ⟨#[]⟩, .string ⟨#[]⟩]) (y0 y1 : Value) :
    Blk ((W.setCell ⟨w.heap.size, 0, none⟩ y0).setCell ⟨w.heap.size, 1, none⟩ y1) w.heap.size [y0, y1] ∧ JP w j J' vS vD B ((W.setCell ⟨w.heap.size, 0, none⟩ y0).setCell ⟨w.heap.size, 1, none⟩ y1) := by
  have bfs : Bf (fun z => z = w.heap.size) W ((W.setCell ⟨w.heap.size, 0, none⟩ y0).setCell ⟨w.heap.size, 1, none⟩ y1) := Bf.put1 W w.heap.size 0 [y0, y1]
  refine ⟨told_set T, ⟨vS', vD', B', a.bf bfs (fun q hq e => ?_), fun g hg => (nx g hg).imp id Nat.le_of_lt⟩, ⟨bfs.os.trans b.os, bfs.tape.trans b.tape, bfs.output.trans b.output, Nat.le_trans b.size bfs.size, fun z hz hF => (bfs.block z (Nat.lt_of_lt_of_le hz b.size) (by omega)).trans (b.block z hz hF)⟩⟩
  rcases nx q hq with z | z
  · have := h.lt z; omega
  · omega
set_option maxHeartbeats 8000000 in
theorem Take_any (j : Nat) (J : Jn) (vS vD : Value) (B : List (Nat × Nat)) (s : Bs) (hs : s.length ≤ 140737488000000) (hmi : ∀ x ∈ J.S, 1 ≤ x.mi) (hroom : ∀ p, rd s = some p → at_ J.S p.m.1 = none → J.S.length < J.mo) (hno : J.D.length < J.no) (hmo : J.mo ≤ 1024) (hn : J.no ≤ 1024) (w : World) (hK : Hid (Kh w)) (hG : ¬ JF j vS vD B 0) (h : Hid (JAt w j J vS vD B)) :
    Calls Tryd.prog 15 #[.pointer (some ⟨j, 0, none⟩), .string (st s)] w fun e w' => e = .returned (ansV (J.take s).1 (J.take s).2.1) ∧ JP w j (J.take s).2.2 vS vD B w' := by
  obtain ⟨W0, hW0⟩ : ∃ W, w.alloc (.cells #[.string ⟨#[]⟩, .string ⟨#[]⟩] 36) = W := ⟨_, rfl⟩
  have t0 : Blk W0 w.heap.size [.string ⟨#[]⟩, .string ⟨#[]⟩] := hW0 ▸ Blk.new w [.string ⟨#[]⟩, .string ⟨#[]⟩] _ (by simp)
  have b0 : Below w.heap.size w W0 := hW0 ▸ (Below.refl _ w).alloc (Nat.le_refl _) _
  have RD : Hid (∀ w, Calls Tryd.prog 25 #[.string (st s)] w fun e w' => e = .returned (rdV s) ∧ Below w.heap.size w w') := read_any s hs
  have I0 : Hid (JAt W0 j J vS vD B ∧ Blk W0 w.heap.size [.string ⟨#[]⟩, .string ⟨#[]⟩] ∧ Below w.heap.size w W0) := ⟨h.out.later b0, t0, b0⟩
  clear t0 b0 hs
  have GO : Hid (∀ (p : Pa), Mk8 p.m → ∀ W, JAt W j J vS vD B ∧ Blk W w.heap.size [.string ⟨#[]⟩, .string ⟨#[]⟩] ∧ Below w.heap.size w W → ∃ Y V V2, (Instr.alloc 64 true (.tuple #[])).run Tryd.prog W = .ok (.pointer (some ⟨Y, 0, none⟩)) V ∧ (Instr.storeAt 64 (.pointer (some ⟨Y, 0, none⟩)) (.agg (pac p).toArray)).run Tryd.prog V = .ok () V2 ∧ TkI w j J vS vD B Y p V2) := fun p h8 W ⟨q1, q2, q3⟩ => by
    obtain ⟨Y, V, r1, z1, y1, n1⟩ := alloc_part_any W
    obtain ⟨V2, r2, z2, b2⟩ := store_part_any z1 m0_ok h8
    have lw := q2.lt
    exact ⟨Y, V, V2, r1, r2, (q1.later n1).bf b2 (fun g hg e => by have := q1.lt hg; omega), (q2.later n1).bf b2 (by omega), z2, by omega, (chain q3 n1).trans (b2.below (fun g e => by omega) (Nat.le_trans q3.size n1.size))⟩
  cases hr : rd s with
  | none =>
    have ev : rdV s = .tuple #[.agg (pac p0).toArray, .int .i64 220] := by unfold rdV; rw [hr]
    have et : J.take s = (none, 220, J) := by unfold Jn.take; rw [hr]
    rw [ev] at RD
    rw [et]
    unfold ansV
    have H := h
    clear ev et hr hroom hno hmo hn hK hG hmi h
    go_enter Tryd.func15, Tryd.ntmps15
    go_upto_region 1 with fail
    refine wp_region_lit ?_
    refine wpList_plain rfl (fun K2 hK2 => ?_)
    go_simp
    refine hK2 _ _ ?_
    clear hK2 K2
    refine wpList_plain rfl (fun K2 hK2 => ?_)
    go_simp
    refine Calls.mono (RD.out _) ?_
    rintro e w1 ⟨rfl, hb1⟩
    have I1 : Hid (JAt w1 j J vS vD B ∧ Blk w1 w.heap.size [.string ⟨#[]⟩, .string ⟨#[]⟩] ∧ Below w.heap.size w w1) := ⟨I0.out.1.later hb1, I0.out.2.1.later hb1, chain I0.out.2.2 hb1⟩
    obtain ⟨Y, V, V2, rA, rS, IT0⟩ := GO.out p0 m0_ok _ I1.out
    have AL : Hid _ := rA
    have ST : Hid _ := rS
    have IT : Hid _ := IT0
    clear hb1 rA rS IT0 I0 I1 GO
    have FI : Hid _ := jp_told H.out IT.out.a (fun g hg => .inl hg) (Bf.of IT.out.d) IT.out.t (.string ⟨#[]⟩) (.string ⟨#[]⟩)
    have tc0 := IT.out.t.c 0 _ rfl
    have tc1 := IT.out.t.c 1 _ rfl
    have tf := IT.out.t.f
    refine hK2 _ _ ?_
    clear hK2 K2
    try simp only [Act.put, List.setIfInBounds_toArray, List.set_cons_zero, List.set_cons_succ]
    refine wpList_plain rfl (fun K2 hK2 => ?_)
    go_simp
    refine hK2 _ _ ?_
    clear hK2 K2
    refine wpList_plain rfl (fun K2 hK2 => ?_)
    go_simp
    refine hK2 _ _ ?_
    clear hK2 K2
    refine wpList_plain rfl (fun K2 hK2 => ?_)
    go_simp
    refine hK2 _ _ ?_
    clear hK2 K2
    refine wpList_plain rfl (fun K2 hK2 => wp_alloc_run _ rfl _ _ (AL.out) (hK2 _ _ ?_))
    try simp only [Act.put, List.setIfInBounds_toArray, List.set_cons_zero, List.set_cons_succ]
    refine wpList_plain rfl (fun K2 hK2 => wp_store_run _ _ _ rfl _ rfl _ rfl _ (ST.out) (hK2 _ _ ?_))
    try simp only [Act.put]
    refine wpList_plain rfl (fun K2 hK2 => ?_)
    go_simp
    refine hK2 _ _ ?_
    clear hK2 K2
    refine wpList_nil ?_
    try simp only [Act.put, List.setIfInBounds_toArray, List.set_cons_zero, List.set_cons_succ]
    go_wp2
    refine bodyPost_ret (v := .tuple #[.agg #[.string ⟨#[]⟩, .string ⟨#[]⟩], .bool false, .int .i64 220]) ?_ rfl ⟨rfl, FI.out.2⟩
    exact res_c3 Tryd.results15 _ _ w.heap.size _ _ _ (by kernel_rfl) (by kernel_rfl) (by kernel_rfl) (told_load FI.out.1)
  | some p =>
    obtain ⟨hm, h8⟩ := rd_ok hr
    have hl := may_len hm
    have ev : rdV s = .tuple #[.agg (pac p).toArray, .int .i64 0] := by unfold rdV; rw [hr]
    rw [ev] at RD
    have H8 : Hid (Mk8 p.m) := h8
    have HA : Hid (∀ W, JAt W j J vS vD B → Calls Tryd.prog 26 #[.pointer (some ⟨j, 2, none⟩), .agg (bc p.m.1).toArray] W fun e w' => e = .returned (.bool (decide (p.m.1 ∈ J.D))) ∧ Below W.heap.size W w') := fun W hW => has_any j J vS vD B p.m.1 h8.a W hW
    by_cases hD : p.m.1 ∈ J.D
    · have et : J.take s = (none, 6, J) := by unfold Jn.take; rw [hr]; simp only [if_pos hD]
      rw [et]
      unfold ansV
      rw [decide_eq_true hD] at HA
      have H := h
      clear ev et hr hroom hno hmo hn hK hG hmi h hD
      go_enter Tryd.func15, Tryd.ntmps15
      go_upto_region 1 with fail
      refine wp_region_lit ?_
      refine wpList_plain rfl (fun K2 hK2 => ?_)
      go_simp
      refine hK2 _ _ ?_
      clear hK2 K2
      refine wpList_plain rfl (fun K2 hK2 => ?_)
      go_simp
      refine Calls.mono (RD.out _) ?_
      rintro e w1 ⟨rfl, hb1⟩
      have I1 : Hid (JAt w1 j J vS vD B ∧ Blk w1 w.heap.size [.string ⟨#[]⟩, .string ⟨#[]⟩] ∧ Below w.heap.size w w1) := ⟨I0.out.1.later hb1, I0.out.2.1.later hb1, chain I0.out.2.2 hb1⟩
      obtain ⟨Y, V, V2, rA, rS, IT0⟩ := GO.out p h8 _ I1.out
      have AL : Hid _ := rA
      have ST : Hid _ := rS
      have IT : Hid _ := IT0
      clear hb1 rA rS IT0 I0 I1 GO
      refine hK2 _ _ ?_
      clear hK2 K2
      try simp only [Act.put, List.setIfInBounds_toArray, List.set_cons_zero, List.set_cons_succ]
      refine wpList_plain rfl (fun K2 hK2 => ?_)
      go_simp
      refine hK2 _ _ ?_
      clear hK2 K2
      refine wpList_plain rfl (fun K2 hK2 => ?_)
      go_simp
      refine hK2 _ _ ?_
      clear hK2 K2
      refine wpList_plain rfl (fun K2 hK2 => ?_)
      go_simp
      refine hK2 _ _ ?_
      clear hK2 K2
      refine wpList_plain rfl (fun K2 hK2 => wp_alloc_run _ rfl _ _ (AL.out) (hK2 _ _ ?_))
      try simp only [Act.put, List.setIfInBounds_toArray, List.set_cons_zero, List.set_cons_succ]
      refine wpList_plain rfl (fun K2 hK2 => wp_store_run _ _ _ rfl _ rfl _ rfl _ (ST.out) (hK2 _ _ ?_))
      try simp only [Act.put]
      refine wpList_plain rfl (fun K2 hK2 => ?_)
      go_simp
      refine hK2 _ _ ?_
      clear hK2 K2
      refine wpList_nil ?_
      try simp only [Act.put, List.setIfInBounds_toArray, List.set_cons_zero, List.set_cons_succ]
      go_upto_region 4 with fail
      refine wp_region_noPanic ?_
      refine wp_region_held_drew (S := fun w' => Blk w' Y (pac p)) (by kernel_rfl) (IT.out.y.drew) (fun hHeld => ?_)
      refine wpAnyH_take (i := 0) (oi := opta0) (v := ?_) rfl (by kernel_rfl) (by kernel_rfl) (by kernel_rfl) (fun _ _ _ h => h) (Or.inl ⟨by rfl, ?_⟩) (by assumption) ?_
      rotate_left
      · intro w' hSw
        clear hSw
        unfold opta0
        first
        | (go_simp; done)
        | (go_simp; with_reducible rfl)
      simp only [opta0, Act.put, List.setIfInBounds_toArray, List.set_cons_zero, List.set_cons_succ]
      refine wpAnyH_take (i := 1) (oi := opta1) (v := ?_) rfl (by kernel_rfl) (by kernel_rfl) (by kernel_rfl) (fun _ _ _ h => h) (Or.inl ⟨by rfl, ?_⟩) (by assumption) ?_
      rotate_left
      · intro w' hSw
        clear hSw
        unfold opta1
        first
        | (go_simp; done)
        | (go_simp; with_reducible rfl)
      simp only [opta1, Act.put, List.setIfInBounds_toArray, List.set_cons_zero, List.set_cons_succ]
      refine wpAnyH_take (i := 2) (oi := opta2) (v := ?_) rfl (by kernel_rfl) (by kernel_rfl) (by kernel_rfl) (fun _ _ _ h => h) (Or.inl ⟨by rfl, ?_⟩) (by assumption) ?_
      rotate_left
      · intro w' hSw
        clear hSw
        unfold opta2
        first
        | (go_simp; done)
        | (go_simp; with_reducible rfl)
      simp only [opta2, Act.put, List.setIfInBounds_toArray, List.set_cons_zero, List.set_cons_succ]
      refine wpAnyH_take (i := 3) (oi := opta3) (v := ?_) rfl (by kernel_rfl) (by kernel_rfl) (by kernel_rfl) (fun _ _ _ h => h) (Or.inl ⟨by rfl, ?_⟩) (by assumption) ?_
      rotate_left
      · intro w' hSw
        clear hSw
        unfold opta3
        first
        | (go_simp; done)
        | (go_simp; with_reducible rfl)
      simp only [opta3, Act.put, List.setIfInBounds_toArray, List.set_cons_zero, List.set_cons_succ]
      refine wpAnyH_take (i := 4) (oi := opta4) (v := ?_) rfl (by kernel_rfl) (by kernel_rfl) (by kernel_rfl) (fun _ _ _ h => h) (Or.inl ⟨by rfl, ?_⟩) (by assumption) ?_
      rotate_left
      · intro w' hSw
        clear hSw
        unfold opta4
        first
        | (go_simp; done)
        | (go_simp; with_reducible rfl)
      simp only [opta4, Act.put, List.setIfInBounds_toArray, List.set_cons_zero, List.set_cons_succ]
      refine wpAnyH_take (i := 5) (oi := opta5) (v := ?_) rfl (by kernel_rfl) (by kernel_rfl) (by kernel_rfl) (fun _ _ _ h => h) (Or.inl ⟨by rfl, ?_⟩) (by assumption) ?_
      rotate_left
      · intro w' hSw
        exact exec_load (load_name (paf hSw.r H8.out).i (by rw [bc_len]; exact H8.out.a)) opta5 _ rfl (by first | rfl | kernel_rfl)
      simp only [opta5, Act.put, List.setIfInBounds_toArray, List.set_cons_zero, List.set_cons_succ]
      refine wpAnyH_ready (rs := [6]) (by kernel_rfl) (by simp) ?_
      refine AllReadyH.cons (o := opta6) rfl (fun KK hKK => ?_) AllReadyH.nil
      unfold opta6
      go_simp
      refine Calls.mono (HA.out _ (IT.out.a.later (Below.refl _ _).drew)) ?_
      rintro e w4 ⟨rfl, hb4⟩
      have I4 : Hid (TkI w j J vS vD B Y p w4) := (IT.out.later (Below.refl _ _).drew).later hb4
      refine hKK.out _ _ (hHeld.later hb4) (fun hHeld => ?_)
      clear hKK KK
      try simp only [opta6, Act.put, List.setIfInBounds_toArray, List.set_cons_zero, List.set_cons_succ]
      refine wpAnyH_done (by kernel_rfl) ?_ _
      refine NoPanic.normal ?_
      have FI : Hid _ := jp_told H.out I4.out.a (fun g hg => .inl hg) (Bf.of I4.out.d) I4.out.t (.string ⟨#[]⟩) (.string ⟨#[]⟩)
      have tc0 := I4.out.t.c 0 _ rfl
      have tc1 := I4.out.t.c 1 _ rfl
      have tf := I4.out.t.f
      go_wp2
      refine bodyPost_ret (v := .tuple #[.agg #[.string ⟨#[]⟩, .string ⟨#[]⟩], .bool false, .int .i64 6]) ?_ rfl ⟨rfl, FI.out.2⟩
      exact res_c3 Tryd.results15 _ _ w.heap.size _ _ _ (by kernel_rfl) (by kernel_rfl) (by kernel_rfl) (told_load FI.out.1)
    rw [decide_eq_false hD] at HA
    obtain ⟨k, hk⟩ : ∃ k, (J.keep p).2 = k := ⟨_, rfl⟩
    obtain ⟨S1, hS1⟩ : ∃ S, (J.keep p).1 = S := ⟨_, rfl⟩
    obtain ⟨x, hx⟩ : ∃ x, S1.getD k dflt = x := ⟨_, rfl⟩
    have et : J.take s = J.at p S1 k x := by unfold Jn.take; rw [hr]; simp only [if_neg hD]; rw [hk, hS1, hx]
    have KE : Hid (∀ W, JAt W j J vS vD B → Calls Tryd.prog 27 #[.pointer (some ⟨j, 0, none⟩), .agg (pac p).toArray] W fun e w' => ∃ b, e = .returned (.tuple #[.pointer (some ⟨b, 0, none⟩), .int .i64 (x.code p : Int)]) ∧ KpP W j J vS vD B p b w') := fun W hW => by
      have := keep_any j J vS vD B p h8 hm hl hmi (hroom p hr) hmo W hW
      rw [hk, hS1, hx] at this; exact this
    have KP : Hid (∀ W W' b Y, TkI w j J vS vD B Y p W → KpP W j J vS vD B p b W' → ∃ vS' B' g', ∃ hk : k < B'.length, B'[k].1 = b ∧ k < S1.length ∧ JAt W' j ⟨J.mo, J.no, S1.set k (x.take p), J.D⟩ vS' vD B' ∧ (∀ g, JF j vS' vD B' g → JF j vS vD B g ∨ w.heap.size < g) ∧ Bf (JF j vS vD B) w W' ∧ Blk W' w.heap.size [.string ⟨#[]⟩, .string ⟨#[]⟩] ∧ MsgAt W' b g' (x.take p)) := fun W W' b Y h1 h2 => by
      obtain ⟨vS', B', k', hk', e1, e2, e3, e4, e5⟩ := h2.at_
      rw [hk] at e2
      subst e2
      rw [hS1] at e3 e4
      rw [hx] at e4
      have m := e4.ms k' hk' (by rw [List.length_set]; exact e3)
      simp only [List.getElem_set_self] at m
      rw [e1] at m
      have lw := h1.t.lt
      refine ⟨vS', B', B'[k'].2, hk', e1, e3, e4, fun g hg => (e5 g hg).imp id (fun z => by omega), (Bf.of h1.d).trans (Nx.refl _ _) h2.bf, h1.t.bf h2.bf (fun z => by have := h.out.lt z; omega), m⟩
    by_cases hc : x.code p ≠ 0
    · have et2 : J.at p S1 k x = (none, x.code p, ⟨J.mo, J.no, S1.set k (x.take p), J.D⟩) := by unfold Jn.at; rw [if_pos (.inl hc)]
      rw [et, et2]
      unfold ansV
      have H := h
      have cz : ((x.code p : Int) == 0) = false := by rw [beq_eq_false_iff_ne]; omega
      have cz2 : ¬ x.code p = 0 := hc
      generalize x.code p = cd at *
      clear ev et et2 hr hroom hno hmo hn hK hG hmi h hD hc hm hl
      go_enter Tryd.func15, Tryd.ntmps15
      go_upto_region 1 with fail
      refine wp_region_lit ?_
      refine wpList_plain rfl (fun K2 hK2 => ?_)
      go_simp
      refine hK2 _ _ ?_
      clear hK2 K2
      refine wpList_plain rfl (fun K2 hK2 => ?_)
      go_simp
      refine Calls.mono (RD.out _) ?_
      rintro e w1 ⟨rfl, hb1⟩
      have I1 : Hid (JAt w1 j J vS vD B ∧ Blk w1 w.heap.size [.string ⟨#[]⟩, .string ⟨#[]⟩] ∧ Below w.heap.size w w1) := ⟨I0.out.1.later hb1, I0.out.2.1.later hb1, chain I0.out.2.2 hb1⟩
      obtain ⟨Y, V, V2, rA, rS, IT0⟩ := GO.out p h8 _ I1.out
      have AL : Hid _ := rA
      have ST : Hid _ := rS
      have IT : Hid _ := IT0
      clear hb1 rA rS IT0 I0 I1 GO
      refine hK2 _ _ ?_
      clear hK2 K2
      try simp only [Act.put, List.setIfInBounds_toArray, List.set_cons_zero, List.set_cons_succ]
      refine wpList_plain rfl (fun K2 hK2 => ?_)
      go_simp
      refine hK2 _ _ ?_
      clear hK2 K2
      refine wpList_plain rfl (fun K2 hK2 => ?_)
      go_simp
      refine hK2 _ _ ?_
      clear hK2 K2
      refine wpList_plain rfl (fun K2 hK2 => ?_)
      go_simp
      refine hK2 _ _ ?_
      clear hK2 K2
      refine wpList_plain rfl (fun K2 hK2 => wp_alloc_run _ rfl _ _ (AL.out) (hK2 _ _ ?_))
      try simp only [Act.put, List.setIfInBounds_toArray, List.set_cons_zero, List.set_cons_succ]
      refine wpList_plain rfl (fun K2 hK2 => wp_store_run _ _ _ rfl _ rfl _ rfl _ (ST.out) (hK2 _ _ ?_))
      try simp only [Act.put]
      refine wpList_plain rfl (fun K2 hK2 => ?_)
      go_simp
      refine hK2 _ _ ?_
      clear hK2 K2
      refine wpList_nil ?_
      try simp only [Act.put, List.setIfInBounds_toArray, List.set_cons_zero, List.set_cons_succ]
      go_upto_region 4 with fail
      refine wp_region_noPanic ?_
      refine wp_region_held_drew (S := fun w' => Blk w' Y (pac p)) (by kernel_rfl) (IT.out.y.drew) (fun hHeld => ?_)
      refine wpAnyH_take (i := 0) (oi := opta0) (v := ?_) rfl (by kernel_rfl) (by kernel_rfl) (by kernel_rfl) (fun _ _ _ h => h) (Or.inl ⟨by rfl, ?_⟩) (by assumption) ?_
      rotate_left
      · intro w' hSw
        clear hSw
        unfold opta0
        first
        | (go_simp; done)
        | (go_simp; with_reducible rfl)
      simp only [opta0, Act.put, List.setIfInBounds_toArray, List.set_cons_zero, List.set_cons_succ]
      refine wpAnyH_take (i := 1) (oi := opta1) (v := ?_) rfl (by kernel_rfl) (by kernel_rfl) (by kernel_rfl) (fun _ _ _ h => h) (Or.inl ⟨by rfl, ?_⟩) (by assumption) ?_
      rotate_left
      · intro w' hSw
        clear hSw
        unfold opta1
        first
        | (go_simp; done)
        | (go_simp; with_reducible rfl)
      simp only [opta1, Act.put, List.setIfInBounds_toArray, List.set_cons_zero, List.set_cons_succ]
      refine wpAnyH_take (i := 2) (oi := opta2) (v := ?_) rfl (by kernel_rfl) (by kernel_rfl) (by kernel_rfl) (fun _ _ _ h => h) (Or.inl ⟨by rfl, ?_⟩) (by assumption) ?_
      rotate_left
      · intro w' hSw
        clear hSw
        unfold opta2
        first
        | (go_simp; done)
        | (go_simp; with_reducible rfl)
      simp only [opta2, Act.put, List.setIfInBounds_toArray, List.set_cons_zero, List.set_cons_succ]
      refine wpAnyH_take (i := 3) (oi := opta3) (v := ?_) rfl (by kernel_rfl) (by kernel_rfl) (by kernel_rfl) (fun _ _ _ h => h) (Or.inl ⟨by rfl, ?_⟩) (by assumption) ?_
      rotate_left
      · intro w' hSw
        clear hSw
        unfold opta3
        first
        | (go_simp; done)
        | (go_simp; with_reducible rfl)
      simp only [opta3, Act.put, List.setIfInBounds_toArray, List.set_cons_zero, List.set_cons_succ]
      refine wpAnyH_take (i := 4) (oi := opta4) (v := ?_) rfl (by kernel_rfl) (by kernel_rfl) (by kernel_rfl) (fun _ _ _ h => h) (Or.inl ⟨by rfl, ?_⟩) (by assumption) ?_
      rotate_left
      · intro w' hSw
        clear hSw
        unfold opta4
        first
        | (go_simp; done)
        | (go_simp; with_reducible rfl)
      simp only [opta4, Act.put, List.setIfInBounds_toArray, List.set_cons_zero, List.set_cons_succ]
      refine wpAnyH_take (i := 5) (oi := opta5) (v := ?_) rfl (by kernel_rfl) (by kernel_rfl) (by kernel_rfl) (fun _ _ _ h => h) (Or.inl ⟨by rfl, ?_⟩) (by assumption) ?_
      rotate_left
      · intro w' hSw
        exact exec_load (load_name (paf hSw.r H8.out).i (by rw [bc_len]; exact H8.out.a)) opta5 _ rfl (by first | rfl | kernel_rfl)
      simp only [opta5, Act.put, List.setIfInBounds_toArray, List.set_cons_zero, List.set_cons_succ]
      refine wpAnyH_ready (rs := [6]) (by kernel_rfl) (by simp) ?_
      refine AllReadyH.cons (o := opta6) rfl (fun KK hKK => ?_) AllReadyH.nil
      unfold opta6
      go_simp
      refine Calls.mono (HA.out _ (IT.out.a.later (Below.refl _ _).drew)) ?_
      rintro e w4 ⟨rfl, hb4⟩
      have I4 : Hid (TkI w j J vS vD B Y p w4) := (IT.out.later (Below.refl _ _).drew).later hb4
      refine hKK.out _ _ (hHeld.later hb4) (fun hHeld => ?_)
      clear hKK KK
      try simp only [opta6, Act.put, List.setIfInBounds_toArray, List.set_cons_zero, List.set_cons_succ]
      refine wpAnyH_done (by kernel_rfl) ?_ _
      refine NoPanic.normal ?_
      go_upto_region 6 with fail
      refine wp_region_lit ?_
      refine wpList_plain rfl (fun K2 hK2 => ?_)
      go_simp
      refine hK2 _ _ ?_
      clear hK2 K2
      refine wpList_plain rfl (fun K2 hK2 => wp_load_run _ _ rfl _ rfl _ (load_part I4.out.y.r (pac_len H8.out)) (hK2 _ _ ?_))
      try simp only [Act.put, List.setIfInBounds_toArray, List.set_cons_zero, List.set_cons_succ]
      refine wpList_plain rfl (fun K2 hK2 => ?_)
      go_simp
      refine Calls.mono (KE.out _ I4.out.a) ?_
      rintro e w6 ⟨b, rfl, k6⟩
      have K6 : Hid (KpP w4 j J vS vD B p b w6) := k6
      clear k6
      refine hK2 _ _ ?_
      clear hK2 K2
      try simp only [Act.put, List.setIfInBounds_toArray, List.set_cons_zero, List.set_cons_succ]
      refine wpList_plain rfl (fun K2 hK2 => ?_)
      go_simp
      refine hK2 _ _ ?_
      clear hK2 K2
      refine wpList_plain rfl (fun K2 hK2 => ?_)
      go_simp
      refine hK2 _ _ ?_
      clear hK2 K2
      refine wpList_plain rfl (fun K2 hK2 => ?_)
      go_simp
      refine hK2 _ _ ?_
      clear hK2 K2
      refine wpList_plain rfl (fun K2 hK2 => ?_)
      go_simp
      refine hK2 _ _ ?_
      clear hK2 K2
      refine wpList_plain rfl (fun K2 hK2 => ?_)
      go_simp
      refine hK2 _ _ ?_
      clear hK2 K2
      refine wpList_nil ?_
      try simp only [Act.put, List.setIfInBounds_toArray, List.set_cons_zero, List.set_cons_succ]
      obtain ⟨vS', B', g', hkB, eb, hkS, a6, nx6, bf6, t6, m6⟩ := KP.out _ _ _ _ I4.out K6.out
      have FI : Hid _ := jp_told H.out a6 nx6 bf6 t6 (.string ⟨#[]⟩) (.string ⟨#[]⟩)
      have tc0 := t6.c 0 _ rfl
      have tc1 := t6.c 1 _ rfl
      have tf := t6.f
      have mc := m6.f.2.2.2
      clear a6 nx6 bf6 t6 m6 eb K6 I4
      go_wp2
      all_goals refine bodyPost_ret (v := .tuple #[.agg #[.string ⟨#[]⟩, .string ⟨#[]⟩], .bool false, .int .i64 (cd : Int)]) ?_ rfl ⟨rfl, FI.out.2⟩
      all_goals exact res_c3 Tryd.results15 _ _ w.heap.size _ _ _ (by kernel_rfl) (by kernel_rfl) (by kernel_rfl) (told_load FI.out.1)
    have hc0 : x.code p = 0 := Classical.not_not.1 hc
    rw [hc0] at KE
    by_cases hmz : 0 < (x.take p).mi
    · have et2 : J.at p S1 k x = (none, 0, ⟨J.mo, J.no, S1.set k (x.take p), J.D⟩) := by unfold Jn.at; rw [if_pos (.inr hmz), hc0]
      rw [et, et2]
      unfold ansV
      have H := h
      have cz : (0 : Int) < ((x.take p).mi : Int) := by omega
      clear ev et et2 hr hroom hno hmo hn hK hG hmi h hD hc hm hl hc0 hmz
      go_enter Tryd.func15, Tryd.ntmps15
      go_upto_region 1 with fail
      refine wp_region_lit ?_
      refine wpList_plain rfl (fun K2 hK2 => ?_)
      go_simp
      refine hK2 _ _ ?_
      clear hK2 K2
      refine wpList_plain rfl (fun K2 hK2 => ?_)
      go_simp
      refine Calls.mono (RD.out _) ?_
      rintro e w1 ⟨rfl, hb1⟩
      have I1 : Hid (JAt w1 j J vS vD B ∧ Blk w1 w.heap.size [.string ⟨#[]⟩, .string ⟨#[]⟩] ∧ Below w.heap.size w w1) := ⟨I0.out.1.later hb1, I0.out.2.1.later hb1, chain I0.out.2.2 hb1⟩
      obtain ⟨Y, V, V2, rA, rS, IT0⟩ := GO.out p h8 _ I1.out
      have AL : Hid _ := rA
      have ST : Hid _ := rS
      have IT : Hid _ := IT0
      clear hb1 rA rS IT0 I0 I1 GO
      refine hK2 _ _ ?_
      clear hK2 K2
      try simp only [Act.put, List.setIfInBounds_toArray, List.set_cons_zero, List.set_cons_succ]
      refine wpList_plain rfl (fun K2 hK2 => ?_)
      go_simp
      refine hK2 _ _ ?_
      clear hK2 K2
      refine wpList_plain rfl (fun K2 hK2 => ?_)
      go_simp
      refine hK2 _ _ ?_
      clear hK2 K2
      refine wpList_plain rfl (fun K2 hK2 => ?_)
      go_simp
      refine hK2 _ _ ?_
      clear hK2 K2
      refine wpList_plain rfl (fun K2 hK2 => wp_alloc_run _ rfl _ _ (AL.out) (hK2 _ _ ?_))
      try simp only [Act.put, List.setIfInBounds_toArray, List.set_cons_zero, List.set_cons_succ]
      refine wpList_plain rfl (fun K2 hK2 => wp_store_run _ _ _ rfl _ rfl _ rfl _ (ST.out) (hK2 _ _ ?_))
      try simp only [Act.put]
      refine wpList_plain rfl (fun K2 hK2 => ?_)
      go_simp
      refine hK2 _ _ ?_
      clear hK2 K2
      refine wpList_nil ?_
      try simp only [Act.put, List.setIfInBounds_toArray, List.set_cons_zero, List.set_cons_succ]
      go_upto_region 4 with fail
      refine wp_region_noPanic ?_
      refine wp_region_held_drew (S := fun w' => Blk w' Y (pac p)) (by kernel_rfl) (IT.out.y.drew) (fun hHeld => ?_)
      refine wpAnyH_take (i := 0) (oi := opta0) (v := ?_) rfl (by kernel_rfl) (by kernel_rfl) (by kernel_rfl) (fun _ _ _ h => h) (Or.inl ⟨by rfl, ?_⟩) (by assumption) ?_
      rotate_left
      · intro w' hSw
        clear hSw
        unfold opta0
        first
        | (go_simp; done)
        | (go_simp; with_reducible rfl)
      simp only [opta0, Act.put, List.setIfInBounds_toArray, List.set_cons_zero, List.set_cons_succ]
      refine wpAnyH_take (i := 1) (oi := opta1) (v := ?_) rfl (by kernel_rfl) (by kernel_rfl) (by kernel_rfl) (fun _ _ _ h => h) (Or.inl ⟨by rfl, ?_⟩) (by assumption) ?_
      rotate_left
      · intro w' hSw
        clear hSw
        unfold opta1
        first
        | (go_simp; done)
        | (go_simp; with_reducible rfl)
      simp only [opta1, Act.put, List.setIfInBounds_toArray, List.set_cons_zero, List.set_cons_succ]
      refine wpAnyH_take (i := 2) (oi := opta2) (v := ?_) rfl (by kernel_rfl) (by kernel_rfl) (by kernel_rfl) (fun _ _ _ h => h) (Or.inl ⟨by rfl, ?_⟩) (by assumption) ?_
      rotate_left
      · intro w' hSw
        clear hSw
        unfold opta2
        first
        | (go_simp; done)
        | (go_simp; with_reducible rfl)
      simp only [opta2, Act.put, List.setIfInBounds_toArray, List.set_cons_zero, List.set_cons_succ]
      refine wpAnyH_take (i := 3) (oi := opta3) (v := ?_) rfl (by kernel_rfl) (by kernel_rfl) (by kernel_rfl) (fun _ _ _ h => h) (Or.inl ⟨by rfl, ?_⟩) (by assumption) ?_
      rotate_left
      · intro w' hSw
        clear hSw
        unfold opta3
        first
        | (go_simp; done)
        | (go_simp; with_reducible rfl)
      simp only [opta3, Act.put, List.setIfInBounds_toArray, List.set_cons_zero, List.set_cons_succ]
      refine wpAnyH_take (i := 4) (oi := opta4) (v := ?_) rfl (by kernel_rfl) (by kernel_rfl) (by kernel_rfl) (fun _ _ _ h => h) (Or.inl ⟨by rfl, ?_⟩) (by assumption) ?_
      rotate_left
      · intro w' hSw
        clear hSw
        unfold opta4
        first
        | (go_simp; done)
        | (go_simp; with_reducible rfl)
      simp only [opta4, Act.put, List.setIfInBounds_toArray, List.set_cons_zero, List.set_cons_succ]
      refine wpAnyH_take (i := 5) (oi := opta5) (v := ?_) rfl (by kernel_rfl) (by kernel_rfl) (by kernel_rfl) (fun _ _ _ h => h) (Or.inl ⟨by rfl, ?_⟩) (by assumption) ?_
      rotate_left
      · intro w' hSw
        exact exec_load (load_name (paf hSw.r H8.out).i (by rw [bc_len]; exact H8.out.a)) opta5 _ rfl (by first | rfl | kernel_rfl)
      simp only [opta5, Act.put, List.setIfInBounds_toArray, List.set_cons_zero, List.set_cons_succ]
      refine wpAnyH_ready (rs := [6]) (by kernel_rfl) (by simp) ?_
      refine AllReadyH.cons (o := opta6) rfl (fun KK hKK => ?_) AllReadyH.nil
      unfold opta6
      go_simp
      refine Calls.mono (HA.out _ (IT.out.a.later (Below.refl _ _).drew)) ?_
      rintro e w4 ⟨rfl, hb4⟩
      have I4 : Hid (TkI w j J vS vD B Y p w4) := (IT.out.later (Below.refl _ _).drew).later hb4
      refine hKK.out _ _ (hHeld.later hb4) (fun hHeld => ?_)
      clear hKK KK
      try simp only [opta6, Act.put, List.setIfInBounds_toArray, List.set_cons_zero, List.set_cons_succ]
      refine wpAnyH_done (by kernel_rfl) ?_ _
      refine NoPanic.normal ?_
      go_upto_region 6 with fail
      refine wp_region_lit ?_
      refine wpList_plain rfl (fun K2 hK2 => ?_)
      go_simp
      refine hK2 _ _ ?_
      clear hK2 K2
      refine wpList_plain rfl (fun K2 hK2 => wp_load_run _ _ rfl _ rfl _ (load_part I4.out.y.r (pac_len H8.out)) (hK2 _ _ ?_))
      try simp only [Act.put, List.setIfInBounds_toArray, List.set_cons_zero, List.set_cons_succ]
      refine wpList_plain rfl (fun K2 hK2 => ?_)
      go_simp
      refine Calls.mono (KE.out _ I4.out.a) ?_
      rintro e w6 ⟨b, rfl, k6⟩
      have K6 : Hid (KpP w4 j J vS vD B p b w6) := k6
      clear k6
      refine hK2 _ _ ?_
      clear hK2 K2
      try simp only [Act.put, List.setIfInBounds_toArray, List.set_cons_zero, List.set_cons_succ]
      refine wpList_plain rfl (fun K2 hK2 => ?_)
      go_simp
      refine hK2 _ _ ?_
      clear hK2 K2
      refine wpList_plain rfl (fun K2 hK2 => ?_)
      go_simp
      refine hK2 _ _ ?_
      clear hK2 K2
      refine wpList_plain rfl (fun K2 hK2 => ?_)
      go_simp
      refine hK2 _ _ ?_
      clear hK2 K2
      refine wpList_plain rfl (fun K2 hK2 => ?_)
      go_simp
      refine hK2 _ _ ?_
      clear hK2 K2
      refine wpList_plain rfl (fun K2 hK2 => ?_)
      go_simp
      refine hK2 _ _ ?_
      clear hK2 K2
      refine wpList_nil ?_
      try simp only [Act.put, List.setIfInBounds_toArray, List.set_cons_zero, List.set_cons_succ]
      obtain ⟨vS', B', g', hkB, eb, hkS, a6, nx6, bf6, t6, m6⟩ := KP.out _ _ _ _ I4.out K6.out
      have FI : Hid _ := jp_told H.out a6 nx6 bf6 t6 (.string ⟨#[]⟩) (.string ⟨#[]⟩)
      have tc0 := t6.c 0 _ rfl
      have tc1 := t6.c 1 _ rfl
      have tf := t6.f
      have mc := m6.f.2.2.2
      clear a6 nx6 bf6 t6 m6 eb K6 I4
      go_wp2
      all_goals refine bodyPost_ret (v := .tuple #[.agg #[.string ⟨#[]⟩, .string ⟨#[]⟩], .bool false, .int .i64 0]) ?_ rfl ⟨rfl, FI.out.2⟩
      all_goals exact res_c3 Tryd.results15 _ _ w.heap.size _ _ _ (by kernel_rfl) (by kernel_rfl) (by kernel_rfl) (told_load FI.out.1)
    have et2 : J.at p S1 k x = J.fin (S1.set k (x.take p)) k (x.take p) := by unfold Jn.at; rw [if_neg (by rintro (z | z); exact hc z; exact hmz z)]
    rw [et, et2]
    have m0z : (x.take p).mi = 0 := by omega
    have EN : Hid (∀ W vS' B' (hkB : k < B'.length), JAt W j ⟨J.mo, J.no, S1.set k (x.take p), J.D⟩ vS' vD B' → (∀ g, JF j vS' vD B' g → JF j vS vD B g ∨ w.heap.size < g) → Bf (JF j vS vD B) w W → k < S1.length → Calls Tryd.prog 28 #[.pointer (some ⟨j, 0, none⟩), .pointer (some ⟨B'[k].1, 0, none⟩)] W fun e w' => e = .returned (ansV (J.fin (S1.set k (x.take p)) k (x.take p)).1 (J.fin (S1.set k (x.take p)) k (x.take p)).2.1) ∧ JP W j (J.fin (S1.set k (x.take p)) k (x.take p)).2.2 vS' vD B' w') := fun W vS' B' hkB a nx b hkS => by
      have hG2 : ¬ JF j vS' vD B' 0 := fun z => by
        rcases nx _ z with y | y
        · exact hG y
        · have := hK.out.1; omega
      have := jend_any j ⟨J.mo, J.no, S1.set k (x.take p), J.D⟩ vS' vD B' k hkB (by rw [List.length_set]; exact hkS) hno hn W (hK.out.bf b hG) hG2 a
      simp only [List.getElem_set_self] at this
      exact this
    obtain ⟨R, hR⟩ : ∃ R, J.fin (S1.set k (x.take p)) k (x.take p) = R := ⟨_, rfl⟩
    rw [hR] at EN ⊢
    have H := h
    clear ev et et2 hr hroom hno hmo hn hK hG hmi h hD hc hm hl hc0 hmz hR
    obtain ⟨o, c, J'⟩ := R
    simp only at EN ⊢
    go_enter Tryd.func15, Tryd.ntmps15
    go_upto_region 1 with fail
    refine wp_region_lit ?_
    refine wpList_plain rfl (fun K2 hK2 => ?_)
    go_simp
    refine hK2 _ _ ?_
    clear hK2 K2
    refine wpList_plain rfl (fun K2 hK2 => ?_)
    go_simp
    refine Calls.mono (RD.out _) ?_
    rintro e w1 ⟨rfl, hb1⟩
    have I1 : Hid (JAt w1 j J vS vD B ∧ Blk w1 w.heap.size [.string ⟨#[]⟩, .string ⟨#[]⟩] ∧ Below w.heap.size w w1) := ⟨I0.out.1.later hb1, I0.out.2.1.later hb1, chain I0.out.2.2 hb1⟩
    obtain ⟨Y, V, V2, rA, rS, IT0⟩ := GO.out p h8 _ I1.out
    have AL : Hid _ := rA
    have ST : Hid _ := rS
    have IT : Hid _ := IT0
    clear hb1 rA rS IT0 I0 I1 GO
    refine hK2 _ _ ?_
    clear hK2 K2
    try simp only [Act.put, List.setIfInBounds_toArray, List.set_cons_zero, List.set_cons_succ]
    refine wpList_plain rfl (fun K2 hK2 => ?_)
    go_simp
    refine hK2 _ _ ?_
    clear hK2 K2
    refine wpList_plain rfl (fun K2 hK2 => ?_)
    go_simp
    refine hK2 _ _ ?_
    clear hK2 K2
    refine wpList_plain rfl (fun K2 hK2 => ?_)
    go_simp
    refine hK2 _ _ ?_
    clear hK2 K2
    refine wpList_plain rfl (fun K2 hK2 => wp_alloc_run _ rfl _ _ (AL.out) (hK2 _ _ ?_))
    try simp only [Act.put, List.setIfInBounds_toArray, List.set_cons_zero, List.set_cons_succ]
    refine wpList_plain rfl (fun K2 hK2 => wp_store_run _ _ _ rfl _ rfl _ rfl _ (ST.out) (hK2 _ _ ?_))
    try simp only [Act.put]
    refine wpList_plain rfl (fun K2 hK2 => ?_)
    go_simp
    refine hK2 _ _ ?_
    clear hK2 K2
    refine wpList_nil ?_
    try simp only [Act.put, List.setIfInBounds_toArray, List.set_cons_zero, List.set_cons_succ]
    go_upto_region 4 with fail
    refine wp_region_noPanic ?_
    refine wp_region_held_drew (S := fun w' => Blk w' Y (pac p)) (by kernel_rfl) (IT.out.y.drew) (fun hHeld => ?_)
    refine wpAnyH_take (i := 0) (oi := opta0) (v := ?_) rfl (by kernel_rfl) (by kernel_rfl) (by kernel_rfl) (fun _ _ _ h => h) (Or.inl ⟨by rfl, ?_⟩) (by assumption) ?_
    rotate_left
    · intro w' hSw
      clear hSw
      unfold opta0
      first
      | (go_simp; done)
      | (go_simp; with_reducible rfl)
    simp only [opta0, Act.put, List.setIfInBounds_toArray, List.set_cons_zero, List.set_cons_succ]
    refine wpAnyH_take (i := 1) (oi := opta1) (v := ?_) rfl (by kernel_rfl) (by kernel_rfl) (by kernel_rfl) (fun _ _ _ h => h) (Or.inl ⟨by rfl, ?_⟩) (by assumption) ?_
    rotate_left
    · intro w' hSw
      clear hSw
      unfold opta1
      first
      | (go_simp; done)
      | (go_simp; with_reducible rfl)
    simp only [opta1, Act.put, List.setIfInBounds_toArray, List.set_cons_zero, List.set_cons_succ]
    refine wpAnyH_take (i := 2) (oi := opta2) (v := ?_) rfl (by kernel_rfl) (by kernel_rfl) (by kernel_rfl) (fun _ _ _ h => h) (Or.inl ⟨by rfl, ?_⟩) (by assumption) ?_
    rotate_left
    · intro w' hSw
      clear hSw
      unfold opta2
      first
      | (go_simp; done)
      | (go_simp; with_reducible rfl)
    simp only [opta2, Act.put, List.setIfInBounds_toArray, List.set_cons_zero, List.set_cons_succ]
    refine wpAnyH_take (i := 3) (oi := opta3) (v := ?_) rfl (by kernel_rfl) (by kernel_rfl) (by kernel_rfl) (fun _ _ _ h => h) (Or.inl ⟨by rfl, ?_⟩) (by assumption) ?_
    rotate_left
    · intro w' hSw
      clear hSw
      unfold opta3
      first
      | (go_simp; done)
      | (go_simp; with_reducible rfl)
    simp only [opta3, Act.put, List.setIfInBounds_toArray, List.set_cons_zero, List.set_cons_succ]
    refine wpAnyH_take (i := 4) (oi := opta4) (v := ?_) rfl (by kernel_rfl) (by kernel_rfl) (by kernel_rfl) (fun _ _ _ h => h) (Or.inl ⟨by rfl, ?_⟩) (by assumption) ?_
    rotate_left
    · intro w' hSw
      clear hSw
      unfold opta4
      first
      | (go_simp; done)
      | (go_simp; with_reducible rfl)
    simp only [opta4, Act.put, List.setIfInBounds_toArray, List.set_cons_zero, List.set_cons_succ]
    refine wpAnyH_take (i := 5) (oi := opta5) (v := ?_) rfl (by kernel_rfl) (by kernel_rfl) (by kernel_rfl) (fun _ _ _ h => h) (Or.inl ⟨by rfl, ?_⟩) (by assumption) ?_
    rotate_left
    · intro w' hSw
      exact exec_load (load_name (paf hSw.r H8.out).i (by rw [bc_len]; exact H8.out.a)) opta5 _ rfl (by first | rfl | kernel_rfl)
    simp only [opta5, Act.put, List.setIfInBounds_toArray, List.set_cons_zero, List.set_cons_succ]
    refine wpAnyH_ready (rs := [6]) (by kernel_rfl) (by simp) ?_
    refine AllReadyH.cons (o := opta6) rfl (fun KK hKK => ?_) AllReadyH.nil
    unfold opta6
    go_simp
    refine Calls.mono (HA.out _ (IT.out.a.later (Below.refl _ _).drew)) ?_
    rintro e w4 ⟨rfl, hb4⟩
    have I4 : Hid (TkI w j J vS vD B Y p w4) := (IT.out.later (Below.refl _ _).drew).later hb4
    refine hKK.out _ _ (hHeld.later hb4) (fun hHeld => ?_)
    clear hKK KK
    try simp only [opta6, Act.put, List.setIfInBounds_toArray, List.set_cons_zero, List.set_cons_succ]
    refine wpAnyH_done (by kernel_rfl) ?_ _
    refine NoPanic.normal ?_
    go_upto_region 6 with fail
    refine wp_region_lit ?_
    refine wpList_plain rfl (fun K2 hK2 => ?_)
    go_simp
    refine hK2 _ _ ?_
    clear hK2 K2
    refine wpList_plain rfl (fun K2 hK2 => wp_load_run _ _ rfl _ rfl _ (load_part I4.out.y.r (pac_len H8.out)) (hK2 _ _ ?_))
    try simp only [Act.put, List.setIfInBounds_toArray, List.set_cons_zero, List.set_cons_succ]
    refine wpList_plain rfl (fun K2 hK2 => ?_)
    go_simp
    refine Calls.mono (KE.out _ I4.out.a) ?_
    rintro e w6 ⟨b, rfl, k6⟩
    have K6 : Hid (KpP w4 j J vS vD B p b w6) := k6
    clear k6
    refine hK2 _ _ ?_
    clear hK2 K2
    try simp only [Act.put, List.setIfInBounds_toArray, List.set_cons_zero, List.set_cons_succ]
    refine wpList_plain rfl (fun K2 hK2 => ?_)
    go_simp
    refine hK2 _ _ ?_
    clear hK2 K2
    refine wpList_plain rfl (fun K2 hK2 => ?_)
    go_simp
    refine hK2 _ _ ?_
    clear hK2 K2
    refine wpList_plain rfl (fun K2 hK2 => ?_)
    go_simp
    refine hK2 _ _ ?_
    clear hK2 K2
    refine wpList_plain rfl (fun K2 hK2 => ?_)
    go_simp
    refine hK2 _ _ ?_
    clear hK2 K2
    refine wpList_plain rfl (fun K2 hK2 => ?_)
    go_simp
    refine hK2 _ _ ?_
    clear hK2 K2
    refine wpList_nil ?_
    try simp only [Act.put, List.setIfInBounds_toArray, List.set_cons_zero, List.set_cons_succ]
    obtain ⟨vS', B', g', hkB, eb, hkS, a6, nx6, bf6, t6, m6⟩ := KP.out _ _ _ _ I4.out K6.out
    have mc := m6.f.2.2.2
    rw [m0z] at mc
    have E6 : Hid _ := EN.out w6 vS' B' hkB a6 nx6 bf6 hkS
    rw [eb] at E6
    have F6 : Hid (Bf (JF j vS vD B) w w6 ∧ (∀ g, JF j vS' vD B' g → JF j vS vD B g ∨ w.heap.size < g) ∧ Blk w6 w.heap.size [.string ⟨#[]⟩, .string ⟨#[]⟩]) := ⟨bf6, nx6, t6⟩
    clear EN KP K6 I4 a6 nx6 bf6 t6 m6 eb
    have TL : Hid (∀ W, JP w6 j J' vS' vD B' W → (∃ vS2 vD2 B2, JAt W j J' vS2 vD2 B2 ∧ (∀ g, JF j vS2 vD2 B2 g → JF j vS vD B g ∨ w.heap.size < g) ∧ Bf (JF j vS vD B) w W ∧ Blk W w.heap.size [.string ⟨#[]⟩, .string ⟨#[]⟩])) := fun W q => by
      obtain ⟨vS2, vD2, B2, q1, q2⟩ := q.at_
      have lw := F6.out.2.2.lt
      have nx : ∀ g, JF j vS' vD B' g → JF j vS vD B g ∨ w.heap.size ≤ g := fun g hg => (F6.out.2.1 g hg).imp id Nat.le_of_lt
      refine ⟨vS2, vD2, B2, q1, fun g hg => ?_, F6.out.1.trans nx q.bf, F6.out.2.2.bf q.bf (fun z => ?_)⟩
      · rcases q2 g hg with z | z
        · exact F6.out.2.1 g z
        · exact .inr (by omega)
      · rcases F6.out.2.1 _ z with y | y
        · have := H.out.lt y; omega
        · omega
    cases o with
    | none =>
      simp only [ansV] at E6 ⊢
      go_upto_region 9 with fail
      refine wp_region_lit ?_
      refine wpList_plain rfl (fun K2 hK2 => ?_)
      go_simp
      refine hK2 _ _ ?_
      clear hK2 K2
      refine wpList_plain rfl (fun K2 hK2 => ?_)
      go_simp
      refine hK2 _ _ ?_
      clear hK2 K2
      refine wpList_plain rfl (fun K2 hK2 => ?_)
      go_simp
      refine Calls.mono (E6.out) ?_
      rintro e w9 ⟨rfl, q9⟩
      obtain ⟨vS2, vD2, B2, a9, n9, b9, t9⟩ := TL.out _ q9
      have FI : Hid _ := jp_told H.out a9 n9 b9 t9 (.string ⟨#[]⟩) (.string ⟨#[]⟩)
      have tc0 := t9.c 0 _ rfl
      have tc1 := t9.c 1 _ rfl
      have tf := t9.f
      clear a9 n9 b9 t9 q9
      refine hK2 _ _ ?_
      clear hK2 K2
      try simp only [Act.put, List.setIfInBounds_toArray, List.set_cons_zero, List.set_cons_succ]
      refine wpList_plain rfl (fun K2 hK2 => ?_)
      go_simp
      refine hK2 _ _ ?_
      clear hK2 K2
      refine wpList_plain rfl (fun K2 hK2 => ?_)
      go_simp
      refine hK2 _ _ ?_
      clear hK2 K2
      refine wpList_plain rfl (fun K2 hK2 => ?_)
      go_simp
      refine hK2 _ _ ?_
      clear hK2 K2
      refine wpList_plain rfl (fun K2 hK2 => ?_)
      go_simp
      refine hK2 _ _ ?_
      clear hK2 K2
      refine wpList_plain rfl (fun K2 hK2 => ?_)
      go_simp
      refine hK2 _ _ ?_
      clear hK2 K2
      refine wpList_plain rfl (fun K2 hK2 => ?_)
      go_simp
      refine hK2 _ _ ?_
      clear hK2 K2
      refine wpList_nil ?_
      try simp only [Act.put, List.setIfInBounds_toArray, List.set_cons_zero, List.set_cons_succ]
      go_wp2
      refine bodyPost_ret (v := .tuple #[.agg #[.string ⟨#[]⟩, .string ⟨#[]⟩], .bool false, .int .i64 (c : Int)]) ?_ rfl ⟨rfl, FI.out.2⟩
      exact res_c3 Tryd.results15 _ _ w.heap.size _ _ _ (by kernel_rfl) (by kernel_rfl) (by kernel_rfl) (told_load FI.out.1)
    | some q =>
      obtain ⟨qa, qb⟩ := q
      simp only [ansV] at E6 ⊢
      go_upto_region 9 with fail
      refine wp_region_lit ?_
      refine wpList_plain rfl (fun K2 hK2 => ?_)
      go_simp
      refine hK2 _ _ ?_
      clear hK2 K2
      refine wpList_plain rfl (fun K2 hK2 => ?_)
      go_simp
      refine hK2 _ _ ?_
      clear hK2 K2
      refine wpList_plain rfl (fun K2 hK2 => ?_)
      go_simp
      refine Calls.mono (E6.out) ?_
      rintro e w9 ⟨rfl, q9⟩
      obtain ⟨vS2, vD2, B2, a9, n9, b9, t9⟩ := TL.out _ q9
      have FI : Hid _ := jp_told H.out a9 n9 b9 t9 (.string (st qa)) (.string (st qb))
      have tc0 := t9.c 0 _ rfl
      have tc1 := t9.c 1 _ rfl
      have tf := t9.f
      clear a9 n9 b9 t9 q9
      refine hK2 _ _ ?_
      clear hK2 K2
      try simp only [Act.put, List.setIfInBounds_toArray, List.set_cons_zero, List.set_cons_succ]
      refine wpList_plain rfl (fun K2 hK2 => ?_)
      go_simp
      refine hK2 _ _ ?_
      clear hK2 K2
      refine wpList_plain rfl (fun K2 hK2 => ?_)
      go_simp
      refine hK2 _ _ ?_
      clear hK2 K2
      refine wpList_plain rfl (fun K2 hK2 => ?_)
      go_simp
      refine hK2 _ _ ?_
      clear hK2 K2
      refine wpList_plain rfl (fun K2 hK2 => ?_)
      go_simp
      refine hK2 _ _ ?_
      clear hK2 K2
      refine wpList_plain rfl (fun K2 hK2 => ?_)
      go_simp
      refine hK2 _ _ ?_
      clear hK2 K2
      refine wpList_plain rfl (fun K2 hK2 => ?_)
      go_simp
      refine hK2 _ _ ?_
      clear hK2 K2
      refine wpList_nil ?_
      try simp only [Act.put, List.setIfInBounds_toArray, List.set_cons_zero, List.set_cons_succ]
      go_wp2
      refine bodyPost_ret (v := .tuple #[.agg #[.string (st qa), .string (st qb)], .bool true, .int .i64 (c : Int)]) ?_ rfl ⟨rfl, FI.out.2⟩
      exact res_c3 Tryd.results15 _ _ w.heap.size _ _ _ (by kernel_rfl) (by kernel_rfl) (by kernel_rfl) (told_load FI.out.1)
end Go.Proofs.YtdepjiocmbbdpaaDoor
