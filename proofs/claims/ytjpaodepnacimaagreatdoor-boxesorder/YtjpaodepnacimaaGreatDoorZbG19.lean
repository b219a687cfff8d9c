/- A log is opened: the half in use is looked for. -/
import Derived.Test.YtjpaodepnacimaaGreatDoorZbG18
namespace Go.Proofs.YtjpaodepnacimaaGreatDoor
open Go.RowKit Go.Proofs.Fd Go.Proofs.Dk Go.Proofs.Lg
set_option maxRecDepth 20000
abbrev hq7 (pp : Option Addr) (i1 i2 i3 : Int) (xa : Option Addr) (xn xc : Nat) (i5 : Int) (s6 : ByteArray) : List Value := [.pointer pp, .int .i64 i1, .int .i64 i2, .int .i64 i3, .slice xa xn xc, .int .i64 i5, .string s6]
abbrev pl6 (p mn : Nat) : List Value := [.pointer (some ⟨p, 0, none⟩), .int .i64 0, .int .i64 (mn : Int), .pointer (some ⟨p, 0, none⟩), .int .i64 (mn : Int), .int .i64 (mn : Int)]
structure Oi (va : World) (p mn : Nat) (pp : Option Addr) (i1 i2 i3 : Int) (i5 : Int) (s6 : ByteArray) (tl : List Bs) (B H : Nat) (xa : Option Addr) (xn xc : Nat) (wx : World) : Prop where
  bk : Blk wx H (hq7 pp i1 i2 i3 xa xn xc i5 s6)
  row : OwnsS wx (.slice xa xn xc) tl
  bl : Below va.heap.size va wx
  nH : va.heap.size ≤ H
  vH : (Value.slice xa xn xc).ownBlock ≠ some H
  nv : ∀ y, (Value.slice xa xn xc).ownBlock = some y → va.heap.size ≤ y
  b1 : Blk wx B [.pointer (some ⟨p, 0, none⟩), .int .i64 0, .int .i64 (mn : Int)]
  nB : va.heap.size ≤ B
  BH : B ≠ H
theorem oi_new {va : World} {p mn : Nat} {pp : Option Addr} {i1 i2 i3 : Int} {i5 : Int} {s6 : ByteArray} {tl : List Bs} {B : Nat} {xa : Option Addr} {xn xc : Nat} {w2 : World} (ty : TypeId) (r : OwnsS w2 (.slice xa xn xc) tl) (bl : Below va.heap.size va w2) (nv : ∀ y, (Value.slice xa xn xc).ownBlock = some y → va.heap.size ≤ y) (b1 : Blk w2 B [.pointer (some ⟨p, 0, none⟩), .int .i64 0, .int .i64 (mn : Int)]) (nB : va.heap.size ≤ B) :
    Oi va p mn pp i1 i2 i3 i5 s6 tl B w2.heap.size xa xn xc (w2.alloc (.cells #[.pointer pp, .int .i64 i1, .int .i64 i2, .int .i64 i3, .slice xa xn xc, .int .i64 i5, .string s6] ty)) :=
  ⟨Blk.new w2 _ _ (by simp), ownsRow_same r (fun x e => (nb w2 _).block x (r.lt x e).2), chain bl (nb _ _), bl.size, fun e => Nat.lt_irrefl _ (r.lt _ e).2, nv, b1.later (nb _ _), nB, fun e => by have := b1.lt; omega⟩
theorem oi_old {va : World} {p mn : Nat} {pp : Option Addr} {i1 i2 i3 : Int} {i5 : Int} {s6 : ByteArray} {tl : List Bs} {B H : Nat} {xa : Option Addr} {xn xc : Nat} {W w2 : World} (r : OwnsS w2 (.slice xa xn xc) tl) (bl : Below va.heap.size va w2) (nW : ∀ y, (Value.slice xa xn xc).ownBlock = some y → W.heap.size ≤ y) (sW : va.heap.size ≤ W.heap.size) (b1 : Blk w2 B [.pointer (some ⟨p, 0, none⟩), .int .i64 0, .int .i64 (mn : Int)]) (nB : va.heap.size ≤ B) (bh : Blk w2 H hz0) (hH : H < W.heap.size) (nH : va.heap.size ≤ H) (hBH : B ≠ H) :
    Oi va p mn pp i1 i2 i3 i5 s6 tl B H xa xn xc (w2.setCells H 0 (hq7 pp i1 i2 i3 xa xn xc i5 s6)) := by
  have hv : (Value.slice xa xn xc).ownBlock ≠ some H := fun e => by have := nW _ e; omega
  exact ⟨bh.put _ rfl, ownsRow_same r (fun x e => setCells_other w2 H 0 _ x (fun d => hv (by rw [e, d]))), below_sets nH _ 0 bl, nH, hv, fun y e => by have := nW y e; omega, b1.same (setCells_other w2 H 0 _ B hBH), nB, hBH⟩
def olw0 : Oper := { dst := some 19, op := Go.Op.load 128 (Go.Operand.tmp 5), type := 128, pos := "log.go:32", after := #[], guard := none }
def olw1 : Oper := { dst := some 20, op := Go.Op.load 128 (Go.Operand.tmp 5), type := 128, pos := "log.go:32", after := #[], guard := none }
def olw2 : Oper := { dst := some 21, op := Go.Op.call { callee := Go.Callee.value (Go.Operand.func 64), args := #[Go.Operand.tmp 20], argTypes := #[128] }, type := 128, pos := "log.go:32", after := #[{ on := 1, ground := Go.Ground.data }], guard := none }
def olw3 : Oper := { dst := some 22, op := Go.Op.buildSlice 151 2 #[(0, Go.Operand.tmp 19), (1, Go.Operand.tmp 21)], type := 151, pos := "log.go:32", after := #[{ on := 0, ground := Go.Ground.data }, { on := 2, ground := Go.Ground.data }], guard := none }
def olw4 : Oper := { dst := some 23, op := Go.Op.call { callee := Go.Callee.value (Go.Operand.func 63), args := #[Go.Operand.tmp 22], argTypes := #[151] }, type := 131, pos := "log.go:32", after := #[{ on := 3, ground := Go.Ground.data }, { on := 2, ground := Go.Ground.chain }], guard := none }
def olw5 : Oper := { dst := some 18, op := Go.Op.move (Go.Operand.tmp 23), type := 131, pos := "log.go:32", after := #[{ on := 4, ground := Go.Ground.data }], guard := none }
def olw6 : Oper := { dst := some 24, op := Go.Op.extract (Go.Operand.tmp 18) 0, type := 130, pos := "log.go:32", after := #[{ on := 5, ground := Go.Ground.data }], guard := none }
def olw7 : Oper := { dst := some 25, op := Go.Op.extract (Go.Operand.tmp 18) 1, type := 24, pos := "log.go:32", after := #[{ on := 5, ground := Go.Ground.data }, { on := 9, ground := Go.Ground.gcOnly Go.Departure.lateStores }], guard := none }
def olw8 : Oper := { dst := some 6, op := Go.Op.alloc 130, type := 0, pos := "log.go:32", after := #[], guard := none }
def olw9 : Oper := { dst := none, op := Go.Op.store 130 (Go.Operand.tmp 6) (Go.Operand.tmp 24), type := 0, pos := "log.go:32", after := #[{ on := 8, ground := Go.Ground.data }, { on := 6, ground := Go.Ground.data }, { on := 4, ground := Go.Ground.chain }, { on := 0, ground := Go.Ground.phase }, { on := 1, ground := Go.Ground.phase }, { on := 2, ground := Go.Ground.phase }, { on := 3, ground := Go.Ground.phase }, { on := 4, ground := Go.Ground.phase }, { on := 5, ground := Go.Ground.phase }, { on := 6, ground := Go.Ground.phase }, { on := 7, ground := Go.Ground.textOnly Go.Departure.lateStores }, { on := 8, ground := Go.Ground.phase }], guard := none }
def olw10 : Oper := { dst := some 7, op := Go.Op.assign (Go.Operand.tmp 25), type := 24, pos := "log.go:32", after := #[{ on := 7, ground := Go.Ground.data }, { on := 9, ground := Go.Ground.chain }, { on := 0, ground := Go.Ground.phase }, { on := 1, ground := Go.Ground.phase }, { on := 2, ground := Go.Ground.phase }, { on := 3, ground := Go.Ground.phase }, { on := 4, ground := Go.Ground.phase }, { on := 5, ground := Go.Ground.phase }, { on := 6, ground := Go.Ground.phase }, { on := 7, ground := Go.Ground.phase }, { on := 8, ground := Go.Ground.phase }, { on := 9, ground := Go.Ground.phase }], guard := none }
theorem keep3 {w : World} {B H : Nat} {x0 x1 x2 y0 y1 y2 y3 y4 y5 y6 : Value} (hne : B ≠ H) (h : w.cell? ⟨B, 0, none⟩ = some x0 ∧ w.cell? ⟨B, 1, none⟩ = some x1 ∧ w.cell? ⟨B, 2, none⟩ = some x2) :
    (w.setCells H 0 [y0, y1, y2, y3, y4, y5, y6]).cell? ⟨B, 0, none⟩ = some x0 ∧ (w.setCells H 0 [y0, y1, y2, y3, y4, y5, y6]).cell? ⟨B, 1, none⟩ = some x1 ∧ (w.setCells H 0 [y0, y1, y2, y3, y4, y5, y6]).cell? ⟨B, 2, none⟩ = some x2 := by
  have hs := setCells_other w H 0 [y0, y1, y2, y3, y4, y5, y6] B hne
  exact ⟨(World.cell?_of_block (a := ⟨B, 0, none⟩) hs).trans h.1, (World.cell?_of_block (a := ⟨B, 1, none⟩) hs).trans h.2.1, (World.cell?_of_block (a := ⟨B, 2, none⟩) hs).trans h.2.2⟩
set_option maxHeartbeats 4000000 in
theorem open_region (p mn : Nat) (pp : Option Addr) (i1 i2 i3 : Int) (i5 : Int) (s6 : ByteArray) (tl : List Bs) (x : Int) (va W : World) (B : Nat) (hW : Hid (Below va.heap.size va W ∧ Blk W B [.pointer (some ⟨p, 0, none⟩), .int .i64 0, .int .i64 (mn : Int)] ∧ va.heap.size ≤ B))
    (OT : Hid (∀ w, Calls Tryz.prog 64 #[.agg #[.pointer (some ⟨p, 0, none⟩), .int .i64 0, .int .i64 (mn : Int)]] w fun e w' => e = .returned (.agg #[.pointer (some ⟨p, 0, none⟩), .int .i64 (mn : Int), .int .i64 (mn : Int)]) ∧ Below w.heap.size w w'))
    (IU : Hid (∀ V P, Below va.heap.size va V → Blk V P (pl6 p mn) → Calls Tryz.prog 63 #[.slice (some ⟨P, 0, none⟩) 2 2] V fun e w' => ∃ xa xn xc, e = .returned (.tuple #[.agg #[.pointer pp, .int .i64 i1, .int .i64 i2, .int .i64 i3, .slice xa xn xc, .int .i64 i5, .string s6], .int .i64 x]) ∧ OwnsS w' (.slice xa xn xc) tl ∧ (∀ y, (Value.slice xa xn xc).ownBlock = some y → V.heap.size ≤ y) ∧ Below V.heap.size V w'))
    (a8 a9 a10 a11 a12 a13 a14 a15 a16 a17 : Value) (Q : Exit → Act → World → Prop)
    (hQ : Hid (∀ (H : Nat) (xa : Option Addr) (xn xc : Nat) (wx : World) (u18 u19 u20 u21 u22 u23 u24 u25 : Value), Oi va p mn pp i1 i2 i3 i5 s6 tl B H xa xn xc wx → Q .normal { tmps := #[.pointer (some ⟨p, 0, none⟩), undef, .pointer none, .int .i64 0, .int .i64 (mn : Int), .pointer (some ⟨B, 0, none⟩), .pointer (some ⟨H, 0, none⟩), .int .i64 x, a8, a9, a10, a11, a12, a13, a14, a15, a16, a17, u18, u19, u20, u21, u22, u23, u24, u25, undef, undef, undef, undef, undef, undef, undef, undef, undef, undef, undef, undef, undef, undef, undef, undef, undef, undef], defers := [] } wx)) :
    (Code.region 7 #[olw0, olw1, olw2, olw3, olw4, olw5, olw6, olw7, olw8, olw9, olw10] true).wp Tryz.prog Q { tmps := #[.pointer (some ⟨p, 0, none⟩), undef, .pointer none, .int .i64 0, .int .i64 (mn : Int), .pointer (some ⟨B, 0, none⟩), undef, undef, a8, a9, a10, a11, a12, a13, a14, a15, a16, a17, undef, undef, undef, undef, undef, undef, undef, undef, undef, undef, undef, undef, undef, undef, undef, undef, undef, undef, undef, undef, undef, undef, undef, undef, undef, undef], defers := [] } W := by
  have b0 := hW.out.2.1.c 0 _ rfl
  have b1 := hW.out.2.1.c 1 _ rfl
  have b2 := hW.out.2.1.c 2 _ rfl
  refine wp_region_noPanic ?_
  refine wp_region_held_drew (S := fun w' => w'.cell? ⟨B, 0, none⟩ = some (.pointer (some ⟨p, 0, none⟩)) ∧ w'.cell? ⟨B, 1, none⟩ = some (.int .i64 0) ∧ w'.cell? ⟨B, 2, none⟩ = some (.int .i64 (mn : Int))) (by kernel_rfl) (⟨b0, b1, b2⟩) (fun hHeld => ?_)
  obtain ⟨Z, hZ⟩ : ∃ Z, W.drew = Z := ⟨_, rfl⟩
  have hz : Hid (Below va.heap.size va Z ∧ Blk Z B [.pointer (some ⟨p, 0, none⟩), .int .i64 0, .int .i64 (mn : Int)] ∧ va.heap.size ≤ B) := by
    rw [← hZ]
    exact ⟨hW.out.1.drew, hW.out.2.1.drew, hW.out.2.2⟩
  rw [hZ] at hHeld ⊢
  clear hZ b0 b1 b2 hW
  refine wpAnyH_take (i := 0) (oi := olw0) (v := ?_) rfl (by kernel_rfl) (by kernel_rfl) (by kernel_rfl) (fun _ _ _ h => h) (Or.inl ⟨by rfl, ?_⟩) (by assumption) ?_
  rotate_left
  · intro w' hSw
    obtain ⟨s0, s1, s2⟩ := hSw
    unfold olw0
    first
    | (go_simp; done)
    | (go_simp; with_reducible rfl)
  simp only [olw0, Act.put, List.setIfInBounds_toArray, List.set_cons_zero, List.set_cons_succ]
  refine wpAnyH_take (i := 1) (oi := olw1) (v := ?_) rfl (by kernel_rfl) (by kernel_rfl) (by kernel_rfl) (fun _ _ _ h => h) (Or.inl ⟨by rfl, ?_⟩) (by assumption) ?_
  rotate_left
  · intro w' hSw
    obtain ⟨s0, s1, s2⟩ := hSw
    unfold olw1
    first
    | (go_simp; done)
    | (go_simp; with_reducible rfl)
  simp only [olw1, Act.put, List.setIfInBounds_toArray, List.set_cons_zero, List.set_cons_succ]
  refine wpAnyH_ready (rs := [2, 8]) (by kernel_rfl) (by simp) ?_
  refine AllReadyH.cons (o := olw2) rfl (fun KK hKK => ?_) (AllReadyH.cons (o := olw8) rfl (fun KK hKK => ?_) AllReadyH.nil)
  · unfold olw2
    go_simp
    refine Calls.mono (OT.out _) ?_
    rintro e w1 ⟨rfl, hb1⟩
    have sz1 := hb1.size
    have bl1 := chain hz.out.1 hb1
    have bb1 := hz.out.2.1.later hb1
    refine hKK.out _ _ ⟨cell_later hb1 hHeld.1, cell_later hb1 hHeld.2.1, cell_later hb1 hHeld.2.2⟩ (fun hHeld1 => ?_)
    clear hKK KK
    refine wpAnyH_ready (rs := [3, 8]) (by kernel_rfl) (by simp) ?_
    refine AllReadyH.cons (o := olw3) rfl (fun KK hKK => ?_) (AllReadyH.cons (o := olw8) rfl (fun KK hKK => ?_) AllReadyH.nil)
    · unfold olw3
      go_simp
      have nw2 : Blk (w1.alloc (.cells #[.pointer (some ⟨p, 0, none⟩), .int .i64 0, .int .i64 (mn : Int), .pointer (some ⟨p, 0, none⟩), .int .i64 (mn : Int), .int .i64 (mn : Int)] 128)) (w1.heap.size) (pl6 p mn) := blk_at w1 (pl6 p mn) _ (by simp) _ (by simp)
      have bl2 := chain bl1 (nb w1 (.cells #[.pointer (some ⟨p, 0, none⟩), .int .i64 0, .int .i64 (mn : Int), .pointer (some ⟨p, 0, none⟩), .int .i64 (mn : Int), .int .i64 (mn : Int)] 128))
      have bb2 := bb1.later (nb w1 (.cells #[.pointer (some ⟨p, 0, none⟩), .int .i64 0, .int .i64 (mn : Int), .pointer (some ⟨p, 0, none⟩), .int .i64 (mn : Int), .int .i64 (mn : Int)] 128))
      refine hKK.out _ _ ⟨cell_alloc hHeld1.1, cell_alloc hHeld1.2.1, cell_alloc hHeld1.2.2⟩ (fun hHeld2 => ?_)
      clear hKK KK
      refine wpAnyH_ready (rs := [4, 8]) (by kernel_rfl) (by simp) ?_
      refine AllReadyH.cons (o := olw4) rfl (fun KK hKK => ?_) (AllReadyH.cons (o := olw8) rfl (fun KK hKK => ?_) AllReadyH.nil)
      · unfold olw4
        go_simp
        refine Calls.mono (IU.out (w1.alloc (.cells #[.pointer (some ⟨p, 0, none⟩), .int .i64 0, .int .i64 (mn : Int), .pointer (some ⟨p, 0, none⟩), .int .i64 (mn : Int), .int .i64 (mn : Int)] 128)) (w1.heap.size) bl2 nw2) ?_
        rintro e w3 ⟨xa, xn, xc, rfl, r3, nv3, hb3⟩
        have bl3 := chain bl2 hb3
        have bb3 := bb2.later hb3
        have bs3 := bl2.size
        refine hKK.out _ _ ⟨cell_later hb3 hHeld2.1, cell_later hb3 hHeld2.2.1, cell_later hb3 hHeld2.2.2⟩ (fun hHeld3 => ?_)
        clear hKK KK
        refine wpAnyH_take (i := 5) (oi := olw5) (v := ?_) rfl (by kernel_rfl) (by kernel_rfl) (by kernel_rfl) (fun _ _ _ h => h) (Or.inl ⟨by rfl, ?_⟩) (by assumption) ?_
        rotate_left
        · intro w' hSw
          clear hSw
          unfold olw5
          first
          | (go_simp; done)
          | (go_simp; with_reducible rfl)
        simp only [olw5, Act.put, List.setIfInBounds_toArray, List.set_cons_zero, List.set_cons_succ]
        refine wpAnyH_take (i := 6) (oi := olw6) (v := ?_) rfl (by kernel_rfl) (by kernel_rfl) (by kernel_rfl) (fun _ _ _ h => h) (Or.inl ⟨by rfl, ?_⟩) (by assumption) ?_
        rotate_left
        · intro w' hSw
          clear hSw
          unfold olw6
          first
          | (go_simp; done)
          | (go_simp; with_reducible rfl)
        simp only [olw6, Act.put, List.setIfInBounds_toArray, List.set_cons_zero, List.set_cons_succ]
        refine wpAnyH_take (i := 7) (oi := olw7) (v := ?_) rfl (by kernel_rfl) (by kernel_rfl) (by kernel_rfl) (fun _ _ _ h => h) (Or.inl ⟨by rfl, ?_⟩) (by assumption) ?_
        rotate_left
        · intro w' hSw
          clear hSw
          unfold olw7
          first
          | (go_simp; done)
          | (go_simp; with_reducible rfl)
        simp only [olw7, Act.put, List.setIfInBounds_toArray, List.set_cons_zero, List.set_cons_succ]
        refine wpAnyH_ready (rs := [8]) (by kernel_rfl) (by simp) ?_
        refine AllReadyH.cons (o := olw8) rfl (fun KK hKK => ?_) AllReadyH.nil
        unfold olw8
        go_simp
        have nw4 : Blk (w3.alloc (.cells #[.pointer none, .int .i64 0, .int .i64 0, .int .i64 0, .slice none 0 0, .int .i64 0, .string ⟨#[]⟩] 130)) (w3.heap.size) hz0 := blk_at w3 hz0 _ (by simp) _ (by simp)
        have bl4 := chain bl3 (nb w3 (.cells #[.pointer none, .int .i64 0, .int .i64 0, .int .i64 0, .slice none 0 0, .int .i64 0, .string ⟨#[]⟩] 130))
        have bb4 := bb3.later (nb w3 (.cells #[.pointer none, .int .i64 0, .int .i64 0, .int .i64 0, .slice none 0 0, .int .i64 0, .string ⟨#[]⟩] 130))
        refine hKK.out _ _ ⟨cell_alloc hHeld3.1, cell_alloc hHeld3.2.1, cell_alloc hHeld3.2.2⟩ (fun hHeld4 => ?_)
        clear hKK KK
        refine wpAnyH_ready (rs := [9]) (by kernel_rfl) (by simp) ?_
        refine AllReadyH.cons (o := olw9) rfl (fun KK hKK => ?_) AllReadyH.nil
        have FI : Hid _ := oi_new (va := va) (p := p) (mn := mn) (pp := pp) (i1 := i1) (i2 := i2) (i3 := i3) (i5 := i5) (s6 := s6) (B := B) 130 r3 bl3 (fun y e => Nat.le_trans bs3 (nv3 y e)) bb3 hz.out.2.2
        unfold olw9
        go_simp
        refine hKK.out _ _ ⟨cell_alloc hHeld3.1, cell_alloc hHeld3.2.1, cell_alloc hHeld3.2.2⟩ (fun hHeld5 => ?_)
        clear hKK KK
        refine wpAnyH_take (i := 10) (oi := olw10) (v := ?_) rfl (by kernel_rfl) (by kernel_rfl) (by kernel_rfl) (fun _ _ _ h => h) (Or.inl ⟨by rfl, ?_⟩) (by assumption) ?_
        rotate_left
        · intro w' hSw
          clear hSw
          unfold olw10
          first
          | (go_simp; done)
          | (go_simp; with_reducible rfl)
        simp only [olw10, Act.put, List.setIfInBounds_toArray, List.set_cons_zero, List.set_cons_succ]
        refine wpAnyH_done (by kernel_rfl) ?_ _
        refine NoPanic.normal ?_
        exact hQ.out _ _ _ _ _ _ _ _ _ _ _ _ _ FI.out
      · unfold olw8
        go_simp
        have nw3 : Blk ((w1.alloc (.cells #[.pointer (some ⟨p, 0, none⟩), .int .i64 0, .int .i64 (mn : Int), .pointer (some ⟨p, 0, none⟩), .int .i64 (mn : Int), .int .i64 (mn : Int)] 128)).alloc (.cells #[.pointer none, .int .i64 0, .int .i64 0, .int .i64 0, .slice none 0 0, .int .i64 0, .string ⟨#[]⟩] 130)) (w1.heap.size + 1) hz0 := blk_at (w1.alloc (.cells #[.pointer (some ⟨p, 0, none⟩), .int .i64 0, .int .i64 (mn : Int), .pointer (some ⟨p, 0, none⟩), .int .i64 (mn : Int), .int .i64 (mn : Int)] 128)) hz0 _ (by simp) _ (by simp)
        have bl3 := chain bl2 (nb (w1.alloc (.cells #[.pointer (some ⟨p, 0, none⟩), .int .i64 0, .int .i64 (mn : Int), .pointer (some ⟨p, 0, none⟩), .int .i64 (mn : Int), .int .i64 (mn : Int)] 128)) (.cells #[.pointer none, .int .i64 0, .int .i64 0, .int .i64 0, .slice none 0 0, .int .i64 0, .string ⟨#[]⟩] 130))
        have bb3 := bb2.later (nb (w1.alloc (.cells #[.pointer (some ⟨p, 0, none⟩), .int .i64 0, .int .i64 (mn : Int), .pointer (some ⟨p, 0, none⟩), .int .i64 (mn : Int), .int .i64 (mn : Int)] 128)) (.cells #[.pointer none, .int .i64 0, .int .i64 0, .int .i64 0, .slice none 0 0, .int .i64 0, .string ⟨#[]⟩] 130))
        have bp3 := nw2.later (nb (w1.alloc (.cells #[.pointer (some ⟨p, 0, none⟩), .int .i64 0, .int .i64 (mn : Int), .pointer (some ⟨p, 0, none⟩), .int .i64 (mn : Int), .int .i64 (mn : Int)] 128)) (.cells #[.pointer none, .int .i64 0, .int .i64 0, .int .i64 0, .slice none 0 0, .int .i64 0, .string ⟨#[]⟩] 130))
        refine hKK.out _ _ ⟨cell_alloc hHeld2.1, cell_alloc hHeld2.2.1, cell_alloc hHeld2.2.2⟩ (fun hHeld3 => ?_)
        clear hKK KK
        refine wpAnyH_ready (rs := [4]) (by kernel_rfl) (by simp) ?_
        refine AllReadyH.cons (o := olw4) rfl (fun KK hKK => ?_) AllReadyH.nil
        unfold olw4
        go_simp
        refine Calls.mono (IU.out ((w1.alloc (.cells #[.pointer (some ⟨p, 0, none⟩), .int .i64 0, .int .i64 (mn : Int), .pointer (some ⟨p, 0, none⟩), .int .i64 (mn : Int), .int .i64 (mn : Int)] 128)).alloc (.cells #[.pointer none, .int .i64 0, .int .i64 0, .int .i64 0, .slice none 0 0, .int .i64 0, .string ⟨#[]⟩] 130)) (w1.heap.size) bl3 bp3) ?_
        rintro e w4 ⟨xa, xn, xc, rfl, r4, nv4, hb4⟩
        have bl4 := chain bl3 hb4
        have bb4 := bb3.later hb4
        have hlt := nw3.lt
        have hqs := bl3.size
        have bh4 := nw3.later hb4
        have bs4 := bl3.size
        refine hKK.out _ _ ⟨cell_later hb4 hHeld3.1, cell_later hb4 hHeld3.2.1, cell_later hb4 hHeld3.2.2⟩ (fun hHeld4 => ?_)
        clear hKK KK
        refine wpAnyH_take (i := 5) (oi := olw5) (v := ?_) rfl (by kernel_rfl) (by kernel_rfl) (by kernel_rfl) (fun _ _ _ h => h) (Or.inl ⟨by rfl, ?_⟩) (by assumption) ?_
        rotate_left
        · intro w' hSw
          clear hSw
          unfold olw5
          first
          | (go_simp; done)
          | (go_simp; with_reducible rfl)
        simp only [olw5, Act.put, List.setIfInBounds_toArray, List.set_cons_zero, List.set_cons_succ]
        refine wpAnyH_take (i := 6) (oi := olw6) (v := ?_) rfl (by kernel_rfl) (by kernel_rfl) (by kernel_rfl) (fun _ _ _ h => h) (Or.inl ⟨by rfl, ?_⟩) (by assumption) ?_
        rotate_left
        · intro w' hSw
          clear hSw
          unfold olw6
          first
          | (go_simp; done)
          | (go_simp; with_reducible rfl)
        simp only [olw6, Act.put, List.setIfInBounds_toArray, List.set_cons_zero, List.set_cons_succ]
        refine wpAnyH_take (i := 7) (oi := olw7) (v := ?_) rfl (by kernel_rfl) (by kernel_rfl) (by kernel_rfl) (fun _ _ _ h => h) (Or.inl ⟨by rfl, ?_⟩) (by assumption) ?_
        rotate_left
        · intro w' hSw
          clear hSw
          unfold olw7
          first
          | (go_simp; done)
          | (go_simp; with_reducible rfl)
        simp only [olw7, Act.put, List.setIfInBounds_toArray, List.set_cons_zero, List.set_cons_succ]
        refine wpAnyH_ready (rs := [9]) (by kernel_rfl) (by simp) ?_
        refine AllReadyH.cons (o := olw9) rfl (fun KK hKK => ?_) AllReadyH.nil
        have z0 := bh4.c 0 _ rfl
        have z1 := bh4.c 1 _ rfl
        have z2 := bh4.c 2 _ rfl
        have z3 := bh4.c 3 _ rfl
        have z4 := bh4.c 4 _ rfl
        have z5 := bh4.c 5 _ rfl
        have z6 := bh4.c 6 _ rfl
        have zf := bh4.f
        have hne : B ≠ w1.heap.size + 1 := fun e => by have := hz.out.2.1.lt; omega
        have FI : Hid _ := oi_old (va := va) (p := p) (mn := mn) (pp := pp) (i1 := i1) (i2 := i2) (i3 := i3) (i5 := i5) (s6 := s6) (B := B) (H := w1.heap.size + 1) (W := ((w1.alloc (.cells #[.pointer (some ⟨p, 0, none⟩), .int .i64 0, .int .i64 (mn : Int), .pointer (some ⟨p, 0, none⟩), .int .i64 (mn : Int), .int .i64 (mn : Int)] 128)).alloc (.cells #[.pointer none, .int .i64 0, .int .i64 0, .int .i64 0, .slice none 0 0, .int .i64 0, .string ⟨#[]⟩] 130))) r4 bl4 nv4 hqs bb4 hz.out.2.2 bh4 hlt (by have := hz.out.2.1.lt; have := hz.out.2.2; omega) hne
        unfold olw9
        go_simp
        refine hKK.out _ _ (keep3 hne hHeld4) (fun hHeld5 => ?_)
        clear hKK KK z0 z1 z2 z3 z4 z5 z6 zf
        refine wpAnyH_take (i := 10) (oi := olw10) (v := ?_) rfl (by kernel_rfl) (by kernel_rfl) (by kernel_rfl) (fun _ _ _ h => h) (Or.inl ⟨by rfl, ?_⟩) (by assumption) ?_
        rotate_left
        · intro w' hSw
          clear hSw
          unfold olw10
          first
          | (go_simp; done)
          | (go_simp; with_reducible rfl)
        simp only [olw10, Act.put, List.setIfInBounds_toArray, List.set_cons_zero, List.set_cons_succ]
        refine wpAnyH_done (by kernel_rfl) ?_ _
        refine NoPanic.normal ?_
        exact hQ.out _ _ _ _ _ _ _ _ _ _ _ _ _ FI.out
    · unfold olw8
      go_simp
      have nw2 : Blk (w1.alloc (.cells #[.pointer none, .int .i64 0, .int .i64 0, .int .i64 0, .slice none 0 0, .int .i64 0, .string ⟨#[]⟩] 130)) (w1.heap.size) hz0 := blk_at w1 hz0 _ (by simp) _ (by simp)
      have bl2 := chain bl1 (nb w1 (.cells #[.pointer none, .int .i64 0, .int .i64 0, .int .i64 0, .slice none 0 0, .int .i64 0, .string ⟨#[]⟩] 130))
      have bb2 := bb1.later (nb w1 (.cells #[.pointer none, .int .i64 0, .int .i64 0, .int .i64 0, .slice none 0 0, .int .i64 0, .string ⟨#[]⟩] 130))
      refine hKK.out _ _ ⟨cell_alloc hHeld1.1, cell_alloc hHeld1.2.1, cell_alloc hHeld1.2.2⟩ (fun hHeld2 => ?_)
      clear hKK KK
      refine wpAnyH_ready (rs := [3]) (by kernel_rfl) (by simp) ?_
      refine AllReadyH.cons (o := olw3) rfl (fun KK hKK => ?_) AllReadyH.nil
      unfold olw3
      go_simp
      have nw3 : Blk ((w1.alloc (.cells #[.pointer none, .int .i64 0, .int .i64 0, .int .i64 0, .slice none 0 0, .int .i64 0, .string ⟨#[]⟩] 130)).alloc (.cells #[.pointer (some ⟨p, 0, none⟩), .int .i64 0, .int .i64 (mn : Int), .pointer (some ⟨p, 0, none⟩), .int .i64 (mn : Int), .int .i64 (mn : Int)] 128)) (w1.heap.size + 1) (pl6 p mn) := blk_at (w1.alloc (.cells #[.pointer none, .int .i64 0, .int .i64 0, .int .i64 0, .slice none 0 0, .int .i64 0, .string ⟨#[]⟩] 130)) (pl6 p mn) _ (by simp) _ (by simp)
      have bl3 := chain bl2 (nb (w1.alloc (.cells #[.pointer none, .int .i64 0, .int .i64 0, .int .i64 0, .slice none 0 0, .int .i64 0, .string ⟨#[]⟩] 130)) (.cells #[.pointer (some ⟨p, 0, none⟩), .int .i64 0, .int .i64 (mn : Int), .pointer (some ⟨p, 0, none⟩), .int .i64 (mn : Int), .int .i64 (mn : Int)] 128))
      have bb3 := bb2.later (nb (w1.alloc (.cells #[.pointer none, .int .i64 0, .int .i64 0, .int .i64 0, .slice none 0 0, .int .i64 0, .string ⟨#[]⟩] 130)) (.cells #[.pointer (some ⟨p, 0, none⟩), .int .i64 0, .int .i64 (mn : Int), .pointer (some ⟨p, 0, none⟩), .int .i64 (mn : Int), .int .i64 (mn : Int)] 128))
      have bh3 := nw2.later (nb (w1.alloc (.cells #[.pointer none, .int .i64 0, .int .i64 0, .int .i64 0, .slice none 0 0, .int .i64 0, .string ⟨#[]⟩] 130)) (.cells #[.pointer (some ⟨p, 0, none⟩), .int .i64 0, .int .i64 (mn : Int), .pointer (some ⟨p, 0, none⟩), .int .i64 (mn : Int), .int .i64 (mn : Int)] 128))
      refine hKK.out _ _ ⟨cell_alloc hHeld2.1, cell_alloc hHeld2.2.1, cell_alloc hHeld2.2.2⟩ (fun hHeld3 => ?_)
      clear hKK KK
      refine wpAnyH_ready (rs := [4]) (by kernel_rfl) (by simp) ?_
      refine AllReadyH.cons (o := olw4) rfl (fun KK hKK => ?_) AllReadyH.nil
      unfold olw4
      go_simp
      refine Calls.mono (IU.out ((w1.alloc (.cells #[.pointer none, .int .i64 0, .int .i64 0, .int .i64 0, .slice none 0 0, .int .i64 0, .string ⟨#[]⟩] 130)).alloc (.cells #[.pointer (some ⟨p, 0, none⟩), .int .i64 0, .int .i64 (mn : Int), .pointer (some ⟨p, 0, none⟩), .int .i64 (mn : Int), .int .i64 (mn : Int)] 128)) (w1.heap.size + 1) bl3 nw3) ?_
      rintro e w4 ⟨xa, xn, xc, rfl, r4, nv4, hb4⟩
      have bl4 := chain bl3 hb4
      have bb4 := bb3.later hb4
      have hlt := bh3.lt
      have hqs := bl3.size
      have bh4 := bh3.later hb4
      have bs4 := bl3.size
      refine hKK.out _ _ ⟨cell_later hb4 hHeld3.1, cell_later hb4 hHeld3.2.1, cell_later hb4 hHeld3.2.2⟩ (fun hHeld4 => ?_)
      clear hKK KK
      refine wpAnyH_take (i := 5) (oi := olw5) (v := ?_) rfl (by kernel_rfl) (by kernel_rfl) (by kernel_rfl) (fun _ _ _ h => h) (Or.inl ⟨by rfl, ?_⟩) (by assumption) ?_
      rotate_left
      · intro w' hSw
        clear hSw
        unfold olw5
        first
        | (go_simp; done)
        | (go_simp; with_reducible rfl)
      simp only [olw5, Act.put, List.setIfInBounds_toArray, List.set_cons_zero, List.set_cons_succ]
      refine wpAnyH_take (i := 6) (oi := olw6) (v := ?_) rfl (by kernel_rfl) (by kernel_rfl) (by kernel_rfl) (fun _ _ _ h => h) (Or.inl ⟨by rfl, ?_⟩) (by assumption) ?_
      rotate_left
      · intro w' hSw
        clear hSw
        unfold olw6
        first
        | (go_simp; done)
        | (go_simp; with_reducible rfl)
      simp only [olw6, Act.put, List.setIfInBounds_toArray, List.set_cons_zero, List.set_cons_succ]
      refine wpAnyH_take (i := 7) (oi := olw7) (v := ?_) rfl (by kernel_rfl) (by kernel_rfl) (by kernel_rfl) (fun _ _ _ h => h) (Or.inl ⟨by rfl, ?_⟩) (by assumption) ?_
      rotate_left
      · intro w' hSw
        clear hSw
        unfold olw7
        first
        | (go_simp; done)
        | (go_simp; with_reducible rfl)
      simp only [olw7, Act.put, List.setIfInBounds_toArray, List.set_cons_zero, List.set_cons_succ]
      refine wpAnyH_ready (rs := [9]) (by kernel_rfl) (by simp) ?_
      refine AllReadyH.cons (o := olw9) rfl (fun KK hKK => ?_) AllReadyH.nil
      have z0 := bh4.c 0 _ rfl
      have z1 := bh4.c 1 _ rfl
      have z2 := bh4.c 2 _ rfl
      have z3 := bh4.c 3 _ rfl
      have z4 := bh4.c 4 _ rfl
      have z5 := bh4.c 5 _ rfl
      have z6 := bh4.c 6 _ rfl
      have zf := bh4.f
      have hne : B ≠ w1.heap.size := fun e => by have := hz.out.2.1.lt; omega
      have FI : Hid _ := oi_old (va := va) (p := p) (mn := mn) (pp := pp) (i1 := i1) (i2 := i2) (i3 := i3) (i5 := i5) (s6 := s6) (B := B) (H := w1.heap.size) (W := ((w1.alloc (.cells #[.pointer none, .int .i64 0, .int .i64 0, .int .i64 0, .slice none 0 0, .int .i64 0, .string ⟨#[]⟩] 130)).alloc (.cells #[.pointer (some ⟨p, 0, none⟩), .int .i64 0, .int .i64 (mn : Int), .pointer (some ⟨p, 0, none⟩), .int .i64 (mn : Int), .int .i64 (mn : Int)] 128))) r4 bl4 nv4 hqs bb4 hz.out.2.2 bh4 hlt (by have := hz.out.2.1.lt; have := hz.out.2.2; omega) hne
      unfold olw9
      go_simp
      refine hKK.out _ _ (keep3 hne hHeld4) (fun hHeld5 => ?_)
      clear hKK KK z0 z1 z2 z3 z4 z5 z6 zf
      refine wpAnyH_take (i := 10) (oi := olw10) (v := ?_) rfl (by kernel_rfl) (by kernel_rfl) (by kernel_rfl) (fun _ _ _ h => h) (Or.inl ⟨by rfl, ?_⟩) (by assumption) ?_
      rotate_left
      · intro w' hSw
        clear hSw
        unfold olw10
        first
        | (go_simp; done)
        | (go_simp; with_reducible rfl)
      simp only [olw10, Act.put, List.setIfInBounds_toArray, List.set_cons_zero, List.set_cons_succ]
      refine wpAnyH_done (by kernel_rfl) ?_ _
      refine NoPanic.normal ?_
      exact hQ.out _ _ _ _ _ _ _ _ _ _ _ _ _ FI.out
  · unfold olw8
    go_simp
    have nw1 : Blk (Z.alloc (.cells #[.pointer none, .int .i64 0, .int .i64 0, .int .i64 0, .slice none 0 0, .int .i64 0, .string ⟨#[]⟩] 130)) (Z.heap.size) hz0 := blk_at Z hz0 _ (by simp) _ (by simp)
    have bl1 := chain hz.out.1 (nb Z (.cells #[.pointer none, .int .i64 0, .int .i64 0, .int .i64 0, .slice none 0 0, .int .i64 0, .string ⟨#[]⟩] 130))
    have bb1 := hz.out.2.1.later (nb Z (.cells #[.pointer none, .int .i64 0, .int .i64 0, .int .i64 0, .slice none 0 0, .int .i64 0, .string ⟨#[]⟩] 130))
    refine hKK.out _ _ ⟨cell_alloc hHeld.1, cell_alloc hHeld.2.1, cell_alloc hHeld.2.2⟩ (fun hHeld1 => ?_)
    clear hKK KK
    refine wpAnyH_ready (rs := [2]) (by kernel_rfl) (by simp) ?_
    refine AllReadyH.cons (o := olw2) rfl (fun KK hKK => ?_) AllReadyH.nil
    unfold olw2
    go_simp
    refine Calls.mono (OT.out _) ?_
    rintro e w2 ⟨rfl, hb2⟩
    have sz2 := hb2.size
    have bl2 := chain bl1 hb2
    have bb2 := bb1.later hb2
    have bh2 := nw1.later hb2
    refine hKK.out _ _ ⟨cell_later hb2 hHeld1.1, cell_later hb2 hHeld1.2.1, cell_later hb2 hHeld1.2.2⟩ (fun hHeld2 => ?_)
    clear hKK KK
    refine wpAnyH_ready (rs := [3]) (by kernel_rfl) (by simp) ?_
    refine AllReadyH.cons (o := olw3) rfl (fun KK hKK => ?_) AllReadyH.nil
    unfold olw3
    go_simp
    have nw3 : Blk (w2.alloc (.cells #[.pointer (some ⟨p, 0, none⟩), .int .i64 0, .int .i64 (mn : Int), .pointer (some ⟨p, 0, none⟩), .int .i64 (mn : Int), .int .i64 (mn : Int)] 128)) (w2.heap.size) (pl6 p mn) := blk_at w2 (pl6 p mn) _ (by simp) _ (by simp)
    have bl3 := chain bl2 (nb w2 (.cells #[.pointer (some ⟨p, 0, none⟩), .int .i64 0, .int .i64 (mn : Int), .pointer (some ⟨p, 0, none⟩), .int .i64 (mn : Int), .int .i64 (mn : Int)] 128))
    have bb3 := bb2.later (nb w2 (.cells #[.pointer (some ⟨p, 0, none⟩), .int .i64 0, .int .i64 (mn : Int), .pointer (some ⟨p, 0, none⟩), .int .i64 (mn : Int), .int .i64 (mn : Int)] 128))
    have bh3 := bh2.later (nb w2 (.cells #[.pointer (some ⟨p, 0, none⟩), .int .i64 0, .int .i64 (mn : Int), .pointer (some ⟨p, 0, none⟩), .int .i64 (mn : Int), .int .i64 (mn : Int)] 128))
    refine hKK.out _ _ ⟨cell_alloc hHeld2.1, cell_alloc hHeld2.2.1, cell_alloc hHeld2.2.2⟩ (fun hHeld3 => ?_)
    clear hKK KK
    refine wpAnyH_ready (rs := [4]) (by kernel_rfl) (by simp) ?_
    refine AllReadyH.cons (o := olw4) rfl (fun KK hKK => ?_) AllReadyH.nil
    unfold olw4
    go_simp
    refine Calls.mono (IU.out (w2.alloc (.cells #[.pointer (some ⟨p, 0, none⟩), .int .i64 0, .int .i64 (mn : Int), .pointer (some ⟨p, 0, none⟩), .int .i64 (mn : Int), .int .i64 (mn : Int)] 128)) (w2.heap.size) bl3 nw3) ?_
    rintro e w4 ⟨xa, xn, xc, rfl, r4, nv4, hb4⟩
    have bl4 := chain bl3 hb4
    have bb4 := bb3.later hb4
    have hlt := bh3.lt
    have hqs := bl3.size
    have bh4 := bh3.later hb4
    have bs4 := bl3.size
    refine hKK.out _ _ ⟨cell_later hb4 hHeld3.1, cell_later hb4 hHeld3.2.1, cell_later hb4 hHeld3.2.2⟩ (fun hHeld4 => ?_)
    clear hKK KK
    refine wpAnyH_take (i := 5) (oi := olw5) (v := ?_) rfl (by kernel_rfl) (by kernel_rfl) (by kernel_rfl) (fun _ _ _ h => h) (Or.inl ⟨by rfl, ?_⟩) (by assumption) ?_
    rotate_left
    · intro w' hSw
      clear hSw
      unfold olw5
      first
      | (go_simp; done)
      | (go_simp; with_reducible rfl)
    simp only [olw5, Act.put, List.setIfInBounds_toArray, List.set_cons_zero, List.set_cons_succ]
    refine wpAnyH_take (i := 6) (oi := olw6) (v := ?_) rfl (by kernel_rfl) (by kernel_rfl) (by kernel_rfl) (fun _ _ _ h => h) (Or.inl ⟨by rfl, ?_⟩) (by assumption) ?_
    rotate_left
    · intro w' hSw
      clear hSw
      unfold olw6
      first
      | (go_simp; done)
      | (go_simp; with_reducible rfl)
    simp only [olw6, Act.put, List.setIfInBounds_toArray, List.set_cons_zero, List.set_cons_succ]
    refine wpAnyH_take (i := 7) (oi := olw7) (v := ?_) rfl (by kernel_rfl) (by kernel_rfl) (by kernel_rfl) (fun _ _ _ h => h) (Or.inl ⟨by rfl, ?_⟩) (by assumption) ?_
    rotate_left
    · intro w' hSw
      clear hSw
      unfold olw7
      first
      | (go_simp; done)
      | (go_simp; with_reducible rfl)
    simp only [olw7, Act.put, List.setIfInBounds_toArray, List.set_cons_zero, List.set_cons_succ]
    refine wpAnyH_ready (rs := [9]) (by kernel_rfl) (by simp) ?_
    refine AllReadyH.cons (o := olw9) rfl (fun KK hKK => ?_) AllReadyH.nil
    have z0 := bh4.c 0 _ rfl
    have z1 := bh4.c 1 _ rfl
    have z2 := bh4.c 2 _ rfl
    have z3 := bh4.c 3 _ rfl
    have z4 := bh4.c 4 _ rfl
    have z5 := bh4.c 5 _ rfl
    have z6 := bh4.c 6 _ rfl
    have zf := bh4.f
    have hne : B ≠ Z.heap.size := fun e => by have := hz.out.2.1.lt; omega
    have FI : Hid _ := oi_old (va := va) (p := p) (mn := mn) (pp := pp) (i1 := i1) (i2 := i2) (i3 := i3) (i5 := i5) (s6 := s6) (B := B) (H := Z.heap.size) (W := (w2.alloc (.cells #[.pointer (some ⟨p, 0, none⟩), .int .i64 0, .int .i64 (mn : Int), .pointer (some ⟨p, 0, none⟩), .int .i64 (mn : Int), .int .i64 (mn : Int)] 128))) r4 bl4 nv4 hqs bb4 hz.out.2.2 bh4 hlt (by have := hz.out.2.1.lt; have := hz.out.2.2; omega) hne
    unfold olw9
    go_simp
    refine hKK.out _ _ (keep3 hne hHeld4) (fun hHeld5 => ?_)
    clear hKK KK z0 z1 z2 z3 z4 z5 z6 zf
    refine wpAnyH_take (i := 10) (oi := olw10) (v := ?_) rfl (by kernel_rfl) (by kernel_rfl) (by kernel_rfl) (fun _ _ _ h => h) (Or.inl ⟨by rfl, ?_⟩) (by assumption) ?_
    rotate_left
    · intro w' hSw
      clear hSw
      unfold olw10
      first
      | (go_simp; done)
      | (go_simp; with_reducible rfl)
    simp only [olw10, Act.put, List.setIfInBounds_toArray, List.set_cons_zero, List.set_cons_succ]
    refine wpAnyH_done (by kernel_rfl) ?_ _
    refine NoPanic.normal ?_
    exact hQ.out _ _ _ _ _ _ _ _ _ _ _ _ _ FI.out
end Go.Proofs.YtjpaodepnacimaaGreatDoor
