/- A message of which parts came. -/
import Derived.Test.YtdepjiocmbbdpaaDoorPtG
import Derived.Test.YtdepjiocmbbdpaaDoorMlK
namespace Go.Proofs.YtdepjiocmbbdpaaDoor
open Go.RowKit Go.Proofs.Fd Go.Proofs.Pt
set_option maxRecDepth 20000

def opbg0 : Oper := { dst := some 3, op := Go.Op.load 60 (Go.Operand.tmp 1), type := 60, pos := "message.go:17", after := #[], guard := none }
def opbg1 : Oper := { dst := some 4, op := Go.Op.fieldAddr 60 (Go.Operand.tmp 1) 1, type := 0, pos := "message.go:17", after := #[], guard := none }
def opbg2 : Oper := { dst := some 5, op := Go.Op.load 3 (Go.Operand.tmp 4), type := 3, pos := "message.go:17", after := #[{ on := 1, ground := Go.Ground.data }], guard := none }
def opbg3 : Oper := { dst := some 6, op := Go.Op.makeSlice 22 (Go.Operand.tmp 5) (Go.Operand.tmp 5), type := 22, pos := "message.go:17", after := #[{ on := 2, ground := Go.Ground.data }, { on := 2, ground := Go.Ground.data }], guard := none }
def opbg4 : Oper := { dst := some 7, op := Go.Op.fieldAddr 60 (Go.Operand.tmp 1) 1, type := 0, pos := "message.go:17", after := #[], guard := none }
def opbg5 : Oper := { dst := some 8, op := Go.Op.load 3 (Go.Operand.tmp 7), type := 3, pos := "message.go:17", after := #[{ on := 4, ground := Go.Ground.data }], guard := none }
def opbg6 : Oper := { dst := some 9, op := Go.Op.build 83 #[(0, Go.Operand.tmp 3), (1, Go.Operand.tmp 6), (2, Go.Operand.tmp 8)], type := 83, pos := "message.go:17", after := #[{ on := 0, ground := Go.Ground.data }, { on := 3, ground := Go.Ground.data }, { on := 5, ground := Go.Ground.data }], guard := none }
def opbg7 : Oper := { dst := some 10, op := Go.Op.box 83 (Go.Operand.tmp 9), type := 79, pos := "message.go:17", after := #[{ on := 6, ground := Go.Ground.data }], guard := none }
def opbg8 : Oper := { dst := some 2, op := Go.Op.assign (Go.Operand.tmp 10), type := 79, pos := "message.go:17", after := #[{ on := 7, ground := Go.Ground.data }, { on := 0, ground := Go.Ground.phase }, { on := 1, ground := Go.Ground.phase }, { on := 2, ground := Go.Ground.phase }, { on := 3, ground := Go.Ground.phase }, { on := 4, ground := Go.Ground.phase }, { on := 5, ground := Go.Ground.phase }, { on := 6, ground := Go.Ground.phase }, { on := 7, ground := Go.Ground.phase }], guard := none }
/-- A message's cells. -/
def msc (m : Mk) (g mi : Nat) : List Value := mkc m ++ [.slice (some ⟨g, 0, none⟩) m.2.1 m.2.1, .int .i64 (mi : Int)]
theorem msc_len {m : Mk} (h : Mk8 m) (g mi : Nat) : (msc m g mi).length = 17 := by unfold msc; rw [List.length_append, mkc_len h]; rfl
theorem msc_ne (m : Mk) (g mi : Nat) : msc m g mi ≠ [] := by unfold msc; simp
theorem build_msg15 (a0 a1 a2 a3 a4 a5 a6 a7 a8 a9 b0 b1 b2 b3 b4 : Value) (g n : Nat) (mi : Int) (w : World) : (Instr.build 83 #[(0, .agg #[a0, a1, a2, a3, a4, a5, a6, a7, a8, a9, b0, b1, b2, b3, b4]), (1, .slice (some ⟨g, 0, none⟩) n n), (2, .int .i64 mi)]).run Tryd.prog w = .ok (.agg #[a0, a1, a2, a3, a4, a5, a6, a7, a8, a9, b0, b1, b2, b3, b4, .slice (some ⟨g, 0, none⟩) n n, .int .i64 mi]) w := by kernel_rfl
theorem build_msg (m : Mk) (h : Mk8 m) (g mi : Nat) (w : World) : (Instr.build 83 #[(0, .agg (mkc m).toArray), (1, .slice (some ⟨g, 0, none⟩) m.2.1 m.2.1), (2, .int .i64 (mi : Int))]).run Tryd.prog w = .ok (.agg (msc m g mi).toArray) w := by
  unfold msc
  have hl := mkc_len h
  generalize mkc m = vs at *
  obtain ⟨a0, a1, a2, a3, a4, a5, a6, a7, a8, a9, b0, b1, b2, b3, b4, rfl⟩ := list15 hl
  exact build_msg15 a0 a1 a2 a3 a4 a5 a6 a7 a8 a9 b0 b1 b2 b3 b4 _ _ _ w
/-- A message in memory: its block, its pieces' row. -/
structure MsgAt (w : World) (b g : Nat) (x : Ms) : Prop where
  a : Blk w b (msc x.m g x.mi)
  r : Blk w g (scl x.ps)
  ne : b ≠ g
  l : x.ps.length = x.m.2.1
  m8 : Mk8 x.m
  n1 : 1 ≤ x.m.2.1
  n11 : x.m.2.1 ≤ 11
  mi : x.mi ≤ 11
  pl : ∀ p ∈ x.ps, p.length ≤ 200
  o : ∃ C e, w.heap[b]? = some (.cells C e (0, 0))
theorem MsgAt.same {w w' : World} {b g : Nat} {x : Ms} (h : MsgAt w b g x) (h1 : w'.heap[b]? = w.heap[b]?) (h2 : w'.heap[g]? = w.heap[g]?) : MsgAt w' b g x := { h with a := h.a.same h1, r := h.r.same h2, o := by rw [h1]; exact h.o }
theorem MsgAt.later {w w' : World} {b g : Nat} {x : Ms} (h : MsgAt w b g x) (hb : Below w.heap.size w w') : MsgAt w' b g x := h.same (hb.block b h.a.lt) (hb.block g h.r.lt)
theorem MsgAt.bf {w w' : World} {b g : Nat} {x : Ms} (h : MsgAt w b g x) {F : Nat → Prop} (hb : Bf F w w') (h1 : ¬ F b) (h2 : ¬ F g) : MsgAt w' b g x := h.same (hb.block b h.a.lt h1) (hb.block g h.r.lt h2)
/-- The fields of a message. -/
theorem MsgAt.f {w : World} {b g : Nat} {x : Ms} (h : MsgAt w b g x) : w.rangeAt b 0 (mkc x.m) ∧ w.rangeAt b 0 (bc x.m.1) ∧ w.cell? ⟨b, 15, none⟩ = some (.slice (some ⟨g, 0, none⟩) x.m.2.1 x.m.2.1) ∧ w.cell? ⟨b, 16, none⟩ = some (.int .i64 (x.mi : Int)) := by
  have h1 := h.a.r
  unfold msc at h1
  have h2 := range_right h1
  rw [mkc_len h.m8] at h2
  have h3 := range_left h1
  refine ⟨h3, ?_, h2 0 _ rfl, h2 1 _ rfl⟩
  unfold mkc at h3
  exact range_left h3
/-- The number in a mark. -/
theorem mark_n {w : World} {b : Nat} {m : Mk} (h : w.rangeAt b 0 (mkc m)) (h8 : Mk8 m) : w.cell? ⟨b, 8, none⟩ = some (.int .i64 (m.2.1 : Int)) := by
  unfold mkc at h
  have h2 := range_right h
  rw [bc_len, h8.a] at h2
  exact h2 0 _ rfl
set_option maxHeartbeats 4000000 in
theorem begun_any (m : Mk) (h8 : Mk8 m) (n1 : 1 ≤ m.2.1) (n11 : m.2.1 ≤ 11) (w : World) :
    Calls Tryd.prog 40 #[.agg (mkc m).toArray] w fun e w' => ∃ b g, e = .returned (.pointer (some ⟨b, 0, none⟩)) ∧ MsgAt w' b g (beg m) ∧ w.heap.size ≤ b ∧ w.heap.size ≤ g ∧ Below w.heap.size w w' := by
  obtain ⟨W0, hW0⟩ : ∃ W, w.alloc (.cells (mkc m).toArray 60) = W := ⟨_, rfl⟩
  have y0 : Blk W0 w.heap.size (mkc m) := hW0 ▸ Blk.new w (mkc m) _ (mkc_ne _)
  have b0 : Below w.heap.size w W0 := hW0 ▸ (Below.refl _ w).alloc (Nat.le_refl _) _
  have BM : Hid (∀ g w, (Instr.build 83 #[(0, .agg (mkc m).toArray), (1, .slice (some ⟨g, 0, none⟩) m.2.1 m.2.1), (2, .int .i64 (m.2.1 : Int))]).run Tryd.prog w = .ok (.agg (msc m g m.2.1).toArray) w) := fun g w => build_msg m h8 g _ w
  have Y0 : Hid (Blk W0.drew w.heap.size (mkc m) ∧ Below w.heap.size w W0.drew) := ⟨y0.drew, b0.drew⟩
  obtain ⟨V, hrV, zV, nV, sV⟩ := make_strs m.2.1 (by omega) n1 W0.drew
  obtain ⟨G, hG⟩ : ∃ G, W0.drew.heap.size = G := ⟨_, rfl⟩
  rw [hG] at hrV zV
  have hGw : w.heap.size ≤ G := by have := Y0.out.2.size; rw [hG] at this; exact this
  obtain ⟨V2, hV2⟩ : ∃ W, V.alloc (.cells (msc m G m.2.1).toArray 83) = W := ⟨_, rfl⟩
  have SV : Hid (Blk V w.heap.size (mkc m) ∧ Below w.heap.size w V) := ⟨Y0.out.1.later nV, chain Y0.out.2 nV⟩
  have n2 : Below V.heap.size V V2 := hV2 ▸ (Below.refl _ _).alloc (Nat.le_refl _) _
  have SV2 : Hid (Blk V2 w.heap.size (mkc m) ∧ Below w.heap.size w V2) := ⟨SV.out.1.later n2, chain SV.out.2 n2⟩
  have FM : Hid (MsgAt V2 V.heap.size G (beg m)) := by
    have z2 : Blk V2 V.heap.size (msc m G m.2.1) := hV2 ▸ Blk.new V _ _ (msc_ne _ _ _)
    have zG := zV.later n2
    refine ⟨z2, zG, fun e => by have := zV.lt; omega, by unfold beg; simp, h8, n1, n11, n11, fun p hp => ?_, ⟨_, _, hV2 ▸ heap_alloc_new V _⟩⟩
    unfold beg at hp
    simp at hp
    rw [hp.2]; simp
  have hrV' : Hid _ := hrV
  have hVw : Hid (w.heap.size ≤ V.heap.size) := SV.out.2.size
  clear hrV zV nV sV n2 y0 b0 hG
  go_enter Tryd.func40, Tryd.ntmps40
  go_upto_region 1 with fail
  refine wp_region_noPanic ?_
  refine wp_region_held_drew (S := fun w' => Blk w' w.heap.size (mkc m) ∧ Below w.heap.size w w') (by kernel_rfl) (Y0.out) (fun hHeld => ?_)
  refine wpAnyH_take (i := 0) (oi := opbg0) (v := ?_) rfl (by kernel_rfl) (by kernel_rfl) (by kernel_rfl) (fun _ _ _ h => h) (Or.inl ⟨by rfl, ?_⟩) (by assumption) ?_
  rotate_left
  · intro w' hSw
    exact exec_load (load_mark hSw.1.r (mkc_len h8)) opbg0 _ rfl (by first | rfl | kernel_rfl)
  simp only [opbg0, Act.put, List.setIfInBounds_toArray, List.set_cons_zero, List.set_cons_succ]
  refine wpAnyH_take (i := 1) (oi := opbg1) (v := ?_) rfl (by kernel_rfl) (by kernel_rfl) (by kernel_rfl) (fun _ _ _ h => h) (Or.inl ⟨by rfl, ?_⟩) (by assumption) ?_
  rotate_left
  · intro w' hSw
    clear hSw
    unfold opbg1
    first
    | (go_simp; done)
    | (go_simp; with_reducible rfl)
  simp only [opbg1, Act.put, List.setIfInBounds_toArray, List.set_cons_zero, List.set_cons_succ]
  refine wpAnyH_take (i := 2) (oi := opbg2) (v := ?_) rfl (by kernel_rfl) (by kernel_rfl) (by kernel_rfl) (fun _ _ _ h => h) (Or.inl ⟨by rfl, ?_⟩) (by assumption) ?_
  rotate_left
  · intro w' hSw
    have hsw := mark_n hSw.1.r h8
    unfold opbg2
    first
    | (go_simp; done)
    | (go_simp; with_reducible rfl)
  simp only [opbg2, Act.put, List.setIfInBounds_toArray, List.set_cons_zero, List.set_cons_succ]
  refine wpAnyH_take (i := 4) (oi := opbg4) (v := ?_) rfl (by kernel_rfl) (by kernel_rfl) (by kernel_rfl) (fun _ _ _ h => h) (Or.inl ⟨by rfl, ?_⟩) (by assumption) ?_
  rotate_left
  · intro w' hSw
    clear hSw
    unfold opbg4
    first
    | (go_simp; done)
    | (go_simp; with_reducible rfl)
  simp only [opbg4, Act.put, List.setIfInBounds_toArray, List.set_cons_zero, List.set_cons_succ]
  refine wpAnyH_take (i := 5) (oi := opbg5) (v := ?_) rfl (by kernel_rfl) (by kernel_rfl) (by kernel_rfl) (fun _ _ _ h => h) (Or.inl ⟨by rfl, ?_⟩) (by assumption) ?_
  rotate_left
  · intro w' hSw
    have hsw := mark_n hSw.1.r h8
    unfold opbg5
    first
    | (go_simp; done)
    | (go_simp; with_reducible rfl)
  simp only [opbg5, Act.put, List.setIfInBounds_toArray, List.set_cons_zero, List.set_cons_succ]
  refine wpAnyH_ready (rs := [3]) (by kernel_rfl) (by simp) ?_
  refine AllReadyH.cons (o := opbg3) rfl (fun KK hKK => ?_) AllReadyH.nil
  have hrV := hrV'.out
  unfold opbg3
  go_simp
  refine hKK.out _ _ (SV.out) (fun hHeld => ?_)
  clear hKK KK hrV
  try simp only [opbg3, Act.put, List.setIfInBounds_toArray, List.set_cons_zero, List.set_cons_succ]
  refine wpAnyH_take (i := 6) (oi := opbg6) (v := ?_) rfl (by kernel_rfl) (by kernel_rfl) (by kernel_rfl) (fun _ _ _ h => h) (Or.inl ⟨by rfl, ?_⟩) (by assumption) ?_
  rotate_left
  · intro w' hSw
    exact exec_build (BM.out G w') opbg6 _ rfl (by first | rfl | kernel_rfl)
  simp only [opbg6, Act.put, List.setIfInBounds_toArray, List.set_cons_zero, List.set_cons_succ]
  refine wpAnyH_ready (rs := [7]) (by kernel_rfl) (by simp) ?_
  refine AllReadyH.cons (o := opbg7) rfl (fun KK hKK => ?_) AllReadyH.nil
  unfold opbg7
  go_simp
  refine hKK.out _ _ (SV2.out) (fun hHeld => ?_)
  clear hKK KK
  try simp only [opbg7, Act.put, List.setIfInBounds_toArray, List.set_cons_zero, List.set_cons_succ]
  refine wpAnyH_take (i := 8) (oi := opbg8) (v := ?_) rfl (by kernel_rfl) (by kernel_rfl) (by kernel_rfl) (fun _ _ _ h => h) (Or.inl ⟨by rfl, ?_⟩) (by assumption) ?_
  rotate_left
  · intro w' hSw
    clear hSw
    unfold opbg8
    first
    | (go_simp; done)
    | (go_simp; with_reducible rfl)
  simp only [opbg8, Act.put, List.setIfInBounds_toArray, List.set_cons_zero, List.set_cons_succ]
  refine wpAnyH_done (by kernel_rfl) ?_ _
  refine NoPanic.normal ?_
  go_wp2
  go_ret
  exact ⟨V.heap.size, G, rfl, FM.out, hVw.out, hGw, SV2.out.2⟩
end Go.Proofs.YtdepjiocmbbdpaaDoor
