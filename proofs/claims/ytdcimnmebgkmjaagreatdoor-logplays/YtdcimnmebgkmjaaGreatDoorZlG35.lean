/- The document's new disk (DkRd, its names turned: beside the log). -/
import Derived.Test.YtdcimnmebgkmjaaGreatDoorZlG20
namespace Go.Proofs.YtdcimnmebgkmjaaGreatDoor
open Go.RowKit Go.Proofs.Fd Go.Proofs.Dk
set_option maxRecDepth 20000
theorem infoSz : (Tryz.prog.info? 9).map (fun i => (i.zero, i.size, i.bytes)) = some (some (.string ⟨#[]⟩), 1, 16) := by kernel_rfl
abbrev OwnsSz (w : World) (v : Value) (k : Nat) : Prop := w.ownsRow 0 9 1 v k (List.replicate k (sv (zs 0)))
theorem app_z (W : World) (v : Value) (k : Nat) (h : OwnsSz W v k) (hk : k ≤ 1024) :
    ∃ va vc w', (Builtin.append_ #[37, 37] 37 #[v, .slice (some ⟨W.heap.size, 0, none⟩) 1 1]).run Tryz.prog (W.alloc (.cells #[sv (zs 0)] 9)) = .ok (.slice va (k + 1) vc) w' ∧ Hid (OwnsSz w' (.slice va (k + 1) vc) (k + 1) ∧ Bf (fun g => v.ownBlock = some g) W w' ∧ ∀ g, (Value.slice va (k + 1) vc).ownBlock = some g → v.ownBlock = some g ∨ W.heap.size ≤ g) := by
  obtain ⟨i0, hi, hz0, hz1, hz2⟩ := info_parts infoSz
  have b0 : Below W.heap.size W (W.alloc (.cells #[sv (zs 0)] 9)) := (Below.refl _ _).alloc (Nat.le_refl _) _
  have h1 : OwnsSz (W.alloc (.cells #[sv (zs 0)] 9)) v k := ownsRow_same h (fun g e => b0.block g (h.lt g e).2)
  obtain ⟨v', w', r1, r2, r3, -, r5⟩ := run_append_own_at (P := Tryz.prog) _ 0 37 37 9 i0 _ 1 16 Tryz.underlying37 hi hz0 hz1 hz2 rfl (by decide) v k _ h1 ⟨W.heap.size, 0, none⟩ 1 1 [sv (zs 0)] rfl (fun j u hu => by
      rw [Addr.add_mid, Nat.zero_add, World.cell?_alloc_new]
      simpa using hu) (fun u hu => by rw [List.mem_singleton] at hu; subst hu; rfl) (by unfold maxLen; omega) (by omega) (Nat.zero_le _)
  have r2' : OwnsSz w' v' (k + 1) := by
    unfold OwnsSz
    rw [List.replicate_succ']
    exact r2
  obtain ⟨va, vc, rfl⟩ : ∃ va vc, v' = .slice va (k + 1) vc := by
    rcases r2'.2 with ⟨rfl, h2⟩ | ⟨g, cap, cur, rfl, -⟩
    · omega
    · exact ⟨_, _, rfl⟩
  refine ⟨va, vc, w', r1, r2', ⟨r3.os.trans b0.os, r3.tape.trans b0.tape, r3.output.trans b0.output, Nat.le_trans b0.size r3.size, fun g hg hF => (r3.block g (Nat.lt_of_lt_of_le hg b0.size) (fun e => hF e.symm)).trans (b0.block g hg)⟩, fun g e => ?_⟩
  rcases r5 with c | c
  · exact .inl (c.symm.trans e)
  · rw [c] at e
    injection e with e
    have := b0.size
    exact .inr (by omega)
structure Mk (w wr : World) (d n k : Nat) (v : Value) : Prop where
  c0 : wr.cell? ⟨d, 0, none⟩ = some v
  c1 : wr.cell? ⟨d, 1, none⟩ = some (.slice none 0 0)
  c2 : wr.cell? ⟨d, 2, none⟩ = some (.int .i64 0)
  c3 : wr.cell? ⟨d, 3, none⟩ = some (.bool false)
  c4 : wr.cell? ⟨d, 4, none⟩ = some (.int .i64 (n : Int))
  fr : ∀ o, wr.frozen? ⟨d, o, none⟩ = false
  row : OwnsSz wr v k
  nd : w.heap.size ≤ d
  vd : v.ownBlock ≠ some d
  nv : ∀ g, v.ownBlock = some g → w.heap.size ≤ g
  below : Below w.heap.size w wr
theorem Mk.later {w wr w' : World} {d n k : Nat} {v : Value} (h : Mk w wr d n k v) (hb : Below wr.heap.size wr w') : Mk w w' d n k v := by
  have ld : d < wr.heap.size := World.block_lt_of_cell? _ _ h.c0
  exact ⟨cell_later hb h.c0, cell_later hb h.c1, cell_later hb h.c2, cell_later hb h.c3, cell_later hb h.c4, fun o => (frozen_kept hb ld).trans (h.fr o), ownsRow_same h.row (fun g e => hb.block g (h.row.lt g e).2), h.nd, h.vd, h.nv, chain h.below hb⟩
theorem Mk.next {w wr w' : World} {d n k : Nat} {v u : Value} (h : Mk w wr d n k v) (ho : OwnsSz w' u (k + 1)) (hb : Bf (fun g => v.ownBlock = some g) wr w') (hu : ∀ g, u.ownBlock = some g → v.ownBlock = some g ∨ wr.heap.size ≤ g) : w'.cell? ⟨d, 0, none⟩ = some v ∧ w'.frozen? ⟨d, 0, none⟩ = false ∧ Mk w (w'.setCell ⟨d, 0, none⟩ u) d n (k + 1) u := by
  have ld : d < wr.heap.size := World.block_lt_of_cell? _ _ h.c0
  have hd : w'.heap[d]? = wr.heap[d]? := hb.block d ld (fun e => h.vd e)
  have cp : ∀ o, w'.cell? ⟨d, o, none⟩ = wr.cell? ⟨d, o, none⟩ := fun o => World.cell?_of_block (a := ⟨d, o, none⟩) hd
  have fp : ∀ o, w'.frozen? ⟨d, o, none⟩ = wr.frozen? ⟨d, o, none⟩ := fun o => World.frozen?_of_block (a := ⟨d, o, none⟩) hd
  have ud : u.ownBlock ≠ some d := fun e => by
    rcases hu d e with c | c
    · exact h.vd c
    · omega
  obtain ⟨s0, co, bo, fo⟩ := set_lemmas w' d 0 u _ ((cp 0).trans h.c0)
  refine ⟨(cp 0).trans h.c0, (fp 0).trans (h.fr 0), s0, co 1 _ (by decide) ((cp 1).trans h.c1), co 2 _ (by decide) ((cp 2).trans h.c2), co 3 _ (by decide) ((cp 3).trans h.c3), co 4 _ (by decide) ((cp 4).trans h.c4), fun o => (fo o).trans ((fp o).trans (h.fr o)), ownsRow_same ho (fun g e => bo g (fun c => ud (by rw [e, c]))), h.nd, ud, fun g e => ?_, ?_⟩
  · rcases hu g e with c | c
    · exact h.nv g c
    · exact Nat.le_trans h.below.size c
  · exact (h.below.trans (hb.below h.nv h.below.size)).setCell (p := ⟨d, 0, none⟩) h.nd _
theorem Mk.done {w wr : World} {d n : Nat} {v : Value} (h : Mk w wr d n n v) (h1 : 1 ≤ n) (h2 : n ≤ 1024) : ∃ G, DAt wr d G (St.init n) ∧ ∀ g, G g → w.heap.size ≤ g := by
  obtain ⟨sg, sc, rfl⟩ : ∃ sg sc, v = .slice (some ⟨sg, 0, none⟩) n sc := by
    rcases h.row.2 with ⟨rfl, c⟩ | ⟨g, cap, cur, rfl, -⟩
    · omega
    · exact ⟨g, cap, rfl⟩
  have hs : (Value.slice (some ⟨sg, 0, none⟩) n sc).ownBlock = some sg := rfl
  refine ⟨DFoot d sg (.slice none 0 0), ⟨Ok.init h1 h2, sg, sc, .slice none 0 0, rfl, h.c0, h.c1, h.c2, h.c3, h.c4, h.fr, ⟨fun k hk => ?_, fun k => h.row.frozenAt k⟩, World.ownsRow_nil _ _ _ _, fun e => h.vd (by rw [hs, e]), nofun, nofun, h1⟩, fun g hg => ?_⟩
  · have hk' : k < n := hk
    rw [h.row.cellAt k (by omega), List.getElem?_replicate, if_pos hk']
    rfl
  · rcases hg with rfl | rfl | e
    · exact h.nd
    · exact h.nv _ hs
    · cases e
theorem rnew_no (n : Int) (h : n < 1 ∨ 1024 < n) (w : World) :
    Calls Tryz.prog 6 #[.int .i64 n] w fun e w' => e = .returned (.tuple #[.pointer none, .int .i64 1]) ∧ w' = w := by
  rcases h with h | h
  · go_enter Tryz.func6, Tryz.ntmps6
    go_wp2
    go_ret2
    exact ⟨rfl, rfl⟩
  · have h1 : ¬ n < 1 := by omega
    go_enter Tryz.func6, Tryz.ntmps6
    go_wp2
    go_ret2
    exact ⟨rfl, rfl⟩
def oprn0 : Oper := { dst := some 20, op := Go.Op.move (Go.Operand.tmp 4), type := 27, pos := "ref.go:38", after := #[], guard := none }
def oprn1 : Oper := { dst := some 21, op := Go.Op.move (Go.Operand.tmp 4), type := 27, pos := "ref.go:38", after := #[], guard := none }
def oprn2 : Oper := { dst := some 22, op := Go.Op.nilCheck (Go.Operand.tmp 21), type := 0, pos := "ref.go:38", after := #[{ on := 1, ground := Go.Ground.data }], guard := none }
def oprn3 : Oper := { dst := some 23, op := Go.Op.fieldAddr 53 (Go.Operand.tmp 22) 0, type := 0, pos := "ref.go:38", after := #[{ on := 2, ground := Go.Ground.data }], guard := none }
def oprn4 : Oper := { dst := some 24, op := Go.Op.load 37 (Go.Operand.tmp 23), type := 37, pos := "ref.go:38", after := #[{ on := 3, ground := Go.Ground.data }], guard := none }
def oprn5 : Oper := { dst := some 25, op := Go.Op.makeSlice 68 (Go.Operand.const (Go.Value.int Go.IntKind.i64 64)) (Go.Operand.const (Go.Value.int Go.IntKind.i64 64)), type := 68, pos := "ref.go:38", after := #[], guard := none }
def oprn6 : Oper := { dst := some 26, op := Go.Op.convert 68 9 (Go.Operand.tmp 25), type := 9, pos := "ref.go:38", after := #[{ on := 5, ground := Go.Ground.data }], guard := none }
def oprn7 : Oper := { dst := some 27, op := Go.Op.buildSlice 37 1 #[(0, Go.Operand.tmp 26)], type := 37, pos := "ref.go:38", after := #[{ on := 6, ground := Go.Ground.data }], guard := none }
def oprn8 : Oper := { dst := some 28, op := Go.Op.call { callee := Go.Callee.builtin Go.Builtin.append, args := #[Go.Operand.tmp 24, Go.Operand.tmp 27], argTypes := #[37, 37] }, type := 37, pos := "ref.go:38", after := #[{ on := 4, ground := Go.Ground.data }, { on := 7, ground := Go.Ground.data }], guard := none }
def oprn9 : Oper := { dst := some 29, op := Go.Op.nilCheck (Go.Operand.tmp 20), type := 0, pos := "ref.go:38", after := #[{ on := 0, ground := Go.Ground.data }, { on := 0, ground := Go.Ground.phase }, { on := 1, ground := Go.Ground.phase }, { on := 2, ground := Go.Ground.phase }, { on := 3, ground := Go.Ground.phase }, { on := 4, ground := Go.Ground.phase }, { on := 5, ground := Go.Ground.phase }, { on := 6, ground := Go.Ground.phase }, { on := 7, ground := Go.Ground.phase }, { on := 8, ground := Go.Ground.phase }], guard := none }
def oprn10 : Oper := { dst := some 30, op := Go.Op.fieldAddr 53 (Go.Operand.tmp 29) 0, type := 0, pos := "ref.go:38", after := #[{ on := 9, ground := Go.Ground.data }, { on := 0, ground := Go.Ground.phase }, { on := 1, ground := Go.Ground.phase }, { on := 2, ground := Go.Ground.phase }, { on := 3, ground := Go.Ground.phase }, { on := 4, ground := Go.Ground.phase }, { on := 5, ground := Go.Ground.phase }, { on := 6, ground := Go.Ground.phase }, { on := 7, ground := Go.Ground.phase }, { on := 8, ground := Go.Ground.phase }], guard := none }
def oprn11 : Oper := { dst := none, op := Go.Op.store 37 (Go.Operand.tmp 30) (Go.Operand.tmp 28), type := 0, pos := "ref.go:38", after := #[{ on := 10, ground := Go.Ground.data }, { on := 8, ground := Go.Ground.data }, { on := 8, ground := Go.Ground.chain }, { on := 0, ground := Go.Ground.phase }, { on := 1, ground := Go.Ground.phase }, { on := 2, ground := Go.Ground.phase }, { on := 3, ground := Go.Ground.phase }, { on := 4, ground := Go.Ground.phase }, { on := 5, ground := Go.Ground.phase }, { on := 6, ground := Go.Ground.phase }, { on := 7, ground := Go.Ground.phase }, { on := 8, ground := Go.Ground.phase }], guard := none }
set_option maxHeartbeats 2000000 in
theorem rnew_any (n : Nat) (h1 : 1 ≤ n) (h2 : n ≤ 1024) (w : World) :
    Calls Tryz.prog 6 #[.int .i64 (n : Int)] w fun e w' => ∃ d G, e = .returned (.tuple #[.pointer (some ⟨d, 0, none⟩), .int .i64 0]) ∧ DAt w' d G (St.init n) ∧ (∀ g, G g → w.heap.size ≤ g) ∧ Below w.heap.size w w' := by
  have g1 : ¬ (n : Int) < 1 := by omega
  have g2 : ¬ (1024 : Int) < (n : Int) := by omega
  obtain ⟨M, MK', hM'⟩ := make_64
  have MK : Hid (∀ w : World, _) := MK'
  have HM : Hid (∀ w : World, _) := hM'
  clear MK' hM'
  go_enter Tryz.func6, Tryz.ntmps6
  go_wp2_with fail
  have I0 : Hid (Mk w (w.alloc (.cells #[.slice none 0 0, .slice none 0 0, .int .i64 0, .bool false, .int .i64 (n : Int)] 53)) w.heap.size n 0 (.slice none 0 0)) :=
    ⟨by simp [go_sem], by simp [go_sem], by simp [go_sem], by simp [go_sem], by simp [go_sem], fun o => by simp [go_sem], World.ownsRow_nil _ _ _ _, Nat.le_refl _, nofun, nofun, (Below.refl _ _).alloc (Nat.le_refl _) _⟩
  obtain ⟨d, hd⟩ : ∃ d, w.heap.size = d := ⟨_, rfl⟩
  obtain ⟨w1, hw1⟩ : ∃ w1, w.alloc (.cells #[.slice none 0 0, .slice none 0 0, .int .i64 0, .bool false, .int .i64 (n : Int)] 53) = w1 := ⟨_, rfl⟩
  have HD : Hid (w.heap.size = d) := hd
  rw [hw1] at I0 ⊢
  rw [hd] at I0 ⊢
  clear hw1 hd g1 g2
  go_loopw [5] (fun i wr => ∃ (k : Nat) (v : Value), k ≤ n ∧ i = .int .i64 (k : Int) ∧ Hid (Mk w wr d n k v)) (fun i wr => n - (intOf i).toNat)
  case atStart => exact ⟨0, _, Nat.zero_le _, rfl, I0.out⟩
  case round =>
    obtain ⟨k, v, hk, rfl, I⟩ := hrel
    clear I0
    by_cases hlt : k < n
    · have gk : (k : Int) < (n : Int) := by omega
      have I2 : Hid (Mk w wr.drew d n k v) := I.out.later (Below.refl _ _).drew
      clear I
      go_upto_region 7 with fail
      obtain ⟨Z, hZ⟩ : ∃ Z, wr.drew = Z := ⟨_, rfl⟩
      rw [hZ] at I2
      have I3 : Mk w (Z.alloc (.cells M 5)) d n k v := I2.out.later ((Below.refl _ _).alloc (Nat.le_refl _) _)
      have S1 := HM.out Z
      have CV : Hid _ := text_at (S1.at_ 0 (by decide)) 64
      have C4 : Hid (Z.cell? ⟨d, 0, none⟩ = some v) := I2.out.c0
      obtain ⟨va, vc, w', hr', AO⟩ := app_z (Z.alloc (.cells M 5)) v k I3.row (by omega)
      obtain ⟨n1, n2, n3⟩ := I3.next AO.out.1 AO.out.2.1 AO.out.2.2
      have SC : Hid (w'.cell? ⟨d, 0, none⟩ = some v ∧ w'.frozen? ⟨d, 0, none⟩ = false) := ⟨n1, n2⟩
      have RA : Hid (Mk w (w'.setCell ⟨d, 0, none⟩ (.slice va (k + 1) vc)) d n (k + 1) (.slice va (k + 1) vc)) := n3
      have es : (Z.alloc (.cells M 5)).heap.size = Z.heap.size + 1 := by simp
      rw [es] at hr'
      have HR : Hid _ := hr'
      have E64 : Hid ((convert 68 9 (.slice (some ⟨Z.heap.size, 0, none⟩) 64 64)).run Tryz.prog (Z.alloc (.cells M 5)) = .ok (sv (zs 0)) (Z.alloc (.cells M 5))) := by
        have := CV.out
        rw [List.length_replicate, Nat.zero_mul] at this
        exact this
      clear I2 I3 S1 AO n1 n2 n3 hr' CV es
      refine wp_region_noPanic ?_
      refine wp_region_held_drew (S := fun _ => True) (by kernel_rfl) (trivial) (fun hHeld => ?_)
      rw [hZ]
      clear hZ
      refine wpAnyH_take (i := 0) (oi := oprn0) (v := ?_) rfl (by kernel_rfl) (by kernel_rfl) (by kernel_rfl) (fun _ _ _ h => h) (Or.inl ⟨by rfl, ?_⟩) (by assumption) ?_
      rotate_left
      · intro w' hSw
        clear hSw
        unfold oprn0
        first
        | (go_simp; done)
        | (go_simp; with_reducible rfl)
      simp only [oprn0, Act.put, List.setIfInBounds_toArray, List.set_cons_zero, List.set_cons_succ]
      refine wpAnyH_take (i := 1) (oi := oprn1) (v := ?_) rfl (by kernel_rfl) (by kernel_rfl) (by kernel_rfl) (fun _ _ _ h => h) (Or.inl ⟨by rfl, ?_⟩) (by assumption) ?_
      rotate_left
      · intro w' hSw
        clear hSw
        unfold oprn1
        first
        | (go_simp; done)
        | (go_simp; with_reducible rfl)
      simp only [oprn1, Act.put, List.setIfInBounds_toArray, List.set_cons_zero, List.set_cons_succ]
      refine wpAnyH_take (i := 2) (oi := oprn2) (v := ?_) rfl (by kernel_rfl) (by kernel_rfl) (by kernel_rfl) (fun _ _ _ h => h) (Or.inl ⟨by rfl, ?_⟩) (by assumption) ?_
      rotate_left
      · intro w' hSw
        clear hSw
        unfold oprn2
        first
        | (go_simp; done)
        | (go_simp; with_reducible rfl)
      simp only [oprn2, Act.put, List.setIfInBounds_toArray, List.set_cons_zero, List.set_cons_succ]
      refine wpAnyH_take (i := 3) (oi := oprn3) (v := ?_) rfl (by kernel_rfl) (by kernel_rfl) (by kernel_rfl) (fun _ _ _ h => h) (Or.inl ⟨by rfl, ?_⟩) (by assumption) ?_
      rotate_left
      · intro w' hSw
        clear hSw
        unfold oprn3
        first
        | (go_simp; done)
        | (go_simp; with_reducible rfl)
      simp only [oprn3, Act.put, List.setIfInBounds_toArray, List.set_cons_zero, List.set_cons_succ]
      refine wpAnyH_ready (rs := [4, 5]) (by kernel_rfl) (by simp) ?_
      refine AllReadyH.cons (o := oprn4) rfl (fun KK hKK => ?_) (AllReadyH.cons (o := oprn5) rfl (fun KK hKK => ?_) AllReadyH.nil)
      · have lc := C4.out
        unfold oprn4
        go_simp
        refine hKK.out _ _ trivial (fun hHeld4 => ?_)
        clear hKK KK lc
        refine wpAnyH_ready (rs := [5]) (by kernel_rfl) (by simp) ?_
        refine AllReadyH.cons (o := oprn5) rfl (fun KK hKK => ?_) AllReadyH.nil
        have lc := MK.out Z
        unfold oprn5
        go_simp
        refine hKK.out _ _ trivial (fun hHeld5 => ?_)
        clear hKK KK lc
        refine wpAnyH_ready (rs := [6]) (by kernel_rfl) (by simp) ?_
        refine AllReadyH.cons (o := oprn6) rfl (fun KK hKK => ?_) AllReadyH.nil
        have lc := E64.out
        unfold oprn6
        go_simp
        refine hKK.out _ _ trivial (fun hHeld6 => ?_)
        clear hKK KK lc
        refine wpAnyH_ready (rs := [7]) (by kernel_rfl) (by simp) ?_
        refine AllReadyH.cons (o := oprn7) rfl (fun KK hKK => ?_) AllReadyH.nil
        unfold oprn7
        go_simp
        refine hKK.out _ _ trivial (fun hHeld7 => ?_)
        clear hKK KK
        refine wpAnyH_ready (rs := [8]) (by kernel_rfl) (by simp) ?_
        refine AllReadyH.cons (o := oprn8) rfl (fun KK hKK => ?_) AllReadyH.nil
        have hr := HR.out
        rw [if_pos (by kernel_rfl)]
        refine Go.Lib.wp_append_run _ _ _ _ _ rfl _ _ rfl rfl _ _ hr ?_
        refine hKK.out _ _ trivial (fun hHeldA => ?_)
        clear hKK KK hr
        simp only [oprn8, Act.put, List.setIfInBounds_toArray, List.set_cons_zero, List.set_cons_succ]
        refine wpAnyH_take (i := 9) (oi := oprn9) (v := ?_) rfl (by kernel_rfl) (by kernel_rfl) (by kernel_rfl) (fun _ _ _ h => h) (Or.inl ⟨by rfl, ?_⟩) (by assumption) ?_
        rotate_left
        · intro w' hSw
          clear hSw
          unfold oprn9
          first
          | (go_simp; done)
          | (go_simp; with_reducible rfl)
        simp only [oprn9, Act.put, List.setIfInBounds_toArray, List.set_cons_zero, List.set_cons_succ]
        refine wpAnyH_take (i := 10) (oi := oprn10) (v := ?_) rfl (by kernel_rfl) (by kernel_rfl) (by kernel_rfl) (fun _ _ _ h => h) (Or.inl ⟨by rfl, ?_⟩) (by assumption) ?_
        rotate_left
        · intro w' hSw
          clear hSw
          unfold oprn10
          first
          | (go_simp; done)
          | (go_simp; with_reducible rfl)
        simp only [oprn10, Act.put, List.setIfInBounds_toArray, List.set_cons_zero, List.set_cons_succ]
        refine wpAnyH_ready (rs := [11]) (by kernel_rfl) (by simp) ?_
        refine AllReadyH.cons (o := oprn11) rfl (fun KK hKK => ?_) AllReadyH.nil
        have sc1 := SC.out.1
        have sf1 := SC.out.2
        unfold oprn11
        go_simp
        refine hKK.out _ _ trivial (fun hHeldS => ?_)
        clear hKK KK sc1 sf1
        refine wpAnyH_done (by kernel_rfl) ?_ _
        refine NoPanic.normal ?_
        go_wp2
        go_roundw
        case rel => exact ⟨k + 1, _, by omega, by go_num, RA.out⟩
        case measure => simp [intOf]; omega
      · have lc := MK.out Z
        unfold oprn5
        go_simp
        refine hKK.out _ _ trivial (fun hHeld5 => ?_)
        clear hKK KK lc
        refine wpAnyH_ready (rs := [4, 6]) (by kernel_rfl) (by simp) ?_
        refine AllReadyH.cons (o := oprn4) rfl (fun KK hKK => ?_) (AllReadyH.cons (o := oprn6) rfl (fun KK hKK => ?_) AllReadyH.nil)
        · have lc := (cell_alloc (o := (.cells M 5)) C4.out)
          unfold oprn4
          go_simp
          refine hKK.out _ _ trivial (fun hHeld4 => ?_)
          clear hKK KK lc
          refine wpAnyH_ready (rs := [6]) (by kernel_rfl) (by simp) ?_
          refine AllReadyH.cons (o := oprn6) rfl (fun KK hKK => ?_) AllReadyH.nil
          have lc := E64.out
          unfold oprn6
          go_simp
          refine hKK.out _ _ trivial (fun hHeld6 => ?_)
          clear hKK KK lc
          refine wpAnyH_ready (rs := [7]) (by kernel_rfl) (by simp) ?_
          refine AllReadyH.cons (o := oprn7) rfl (fun KK hKK => ?_) AllReadyH.nil
          unfold oprn7
          go_simp
          refine hKK.out _ _ trivial (fun hHeld7 => ?_)
          clear hKK KK
          refine wpAnyH_ready (rs := [8]) (by kernel_rfl) (by simp) ?_
          refine AllReadyH.cons (o := oprn8) rfl (fun KK hKK => ?_) AllReadyH.nil
          have hr := HR.out
          rw [if_pos (by kernel_rfl)]
          refine Go.Lib.wp_append_run _ _ _ _ _ rfl _ _ rfl rfl _ _ hr ?_
          refine hKK.out _ _ trivial (fun hHeldA => ?_)
          clear hKK KK hr
          simp only [oprn8, Act.put, List.setIfInBounds_toArray, List.set_cons_zero, List.set_cons_succ]
          refine wpAnyH_take (i := 9) (oi := oprn9) (v := ?_) rfl (by kernel_rfl) (by kernel_rfl) (by kernel_rfl) (fun _ _ _ h => h) (Or.inl ⟨by rfl, ?_⟩) (by assumption) ?_
          rotate_left
          · intro w' hSw
            clear hSw
            unfold oprn9
            first
            | (go_simp; done)
            | (go_simp; with_reducible rfl)
          simp only [oprn9, Act.put, List.setIfInBounds_toArray, List.set_cons_zero, List.set_cons_succ]
          refine wpAnyH_take (i := 10) (oi := oprn10) (v := ?_) rfl (by kernel_rfl) (by kernel_rfl) (by kernel_rfl) (fun _ _ _ h => h) (Or.inl ⟨by rfl, ?_⟩) (by assumption) ?_
          rotate_left
          · intro w' hSw
            clear hSw
            unfold oprn10
            first
            | (go_simp; done)
            | (go_simp; with_reducible rfl)
          simp only [oprn10, Act.put, List.setIfInBounds_toArray, List.set_cons_zero, List.set_cons_succ]
          refine wpAnyH_ready (rs := [11]) (by kernel_rfl) (by simp) ?_
          refine AllReadyH.cons (o := oprn11) rfl (fun KK hKK => ?_) AllReadyH.nil
          have sc1 := SC.out.1
          have sf1 := SC.out.2
          unfold oprn11
          go_simp
          refine hKK.out _ _ trivial (fun hHeldS => ?_)
          clear hKK KK sc1 sf1
          refine wpAnyH_done (by kernel_rfl) ?_ _
          refine NoPanic.normal ?_
          go_wp2
          go_roundw
          case rel => exact ⟨k + 1, _, by omega, by go_num, RA.out⟩
          case measure => simp [intOf]; omega
        · have lc := E64.out
          unfold oprn6
          go_simp
          refine hKK.out _ _ trivial (fun hHeld6 => ?_)
          clear hKK KK lc
          refine wpAnyH_ready (rs := [4, 7]) (by kernel_rfl) (by simp) ?_
          refine AllReadyH.cons (o := oprn4) rfl (fun KK hKK => ?_) (AllReadyH.cons (o := oprn7) rfl (fun KK hKK => ?_) AllReadyH.nil)
          · have lc := (cell_alloc (o := (.cells M 5)) C4.out)
            unfold oprn4
            go_simp
            refine hKK.out _ _ trivial (fun hHeld4 => ?_)
            clear hKK KK lc
            refine wpAnyH_ready (rs := [7]) (by kernel_rfl) (by simp) ?_
            refine AllReadyH.cons (o := oprn7) rfl (fun KK hKK => ?_) AllReadyH.nil
            unfold oprn7
            go_simp
            refine hKK.out _ _ trivial (fun hHeld7 => ?_)
            clear hKK KK
            refine wpAnyH_ready (rs := [8]) (by kernel_rfl) (by simp) ?_
            refine AllReadyH.cons (o := oprn8) rfl (fun KK hKK => ?_) AllReadyH.nil
            have hr := HR.out
            rw [if_pos (by kernel_rfl)]
            refine Go.Lib.wp_append_run _ _ _ _ _ rfl _ _ rfl rfl _ _ hr ?_
            refine hKK.out _ _ trivial (fun hHeldA => ?_)
            clear hKK KK hr
            simp only [oprn8, Act.put, List.setIfInBounds_toArray, List.set_cons_zero, List.set_cons_succ]
            refine wpAnyH_take (i := 9) (oi := oprn9) (v := ?_) rfl (by kernel_rfl) (by kernel_rfl) (by kernel_rfl) (fun _ _ _ h => h) (Or.inl ⟨by rfl, ?_⟩) (by assumption) ?_
            rotate_left
            · intro w' hSw
              clear hSw
              unfold oprn9
              first
              | (go_simp; done)
              | (go_simp; with_reducible rfl)
            simp only [oprn9, Act.put, List.setIfInBounds_toArray, List.set_cons_zero, List.set_cons_succ]
            refine wpAnyH_take (i := 10) (oi := oprn10) (v := ?_) rfl (by kernel_rfl) (by kernel_rfl) (by kernel_rfl) (fun _ _ _ h => h) (Or.inl ⟨by rfl, ?_⟩) (by assumption) ?_
            rotate_left
            · intro w' hSw
              clear hSw
              unfold oprn10
              first
              | (go_simp; done)
              | (go_simp; with_reducible rfl)
            simp only [oprn10, Act.put, List.setIfInBounds_toArray, List.set_cons_zero, List.set_cons_succ]
            refine wpAnyH_ready (rs := [11]) (by kernel_rfl) (by simp) ?_
            refine AllReadyH.cons (o := oprn11) rfl (fun KK hKK => ?_) AllReadyH.nil
            have sc1 := SC.out.1
            have sf1 := SC.out.2
            unfold oprn11
            go_simp
            refine hKK.out _ _ trivial (fun hHeldS => ?_)
            clear hKK KK sc1 sf1
            refine wpAnyH_done (by kernel_rfl) ?_ _
            refine NoPanic.normal ?_
            go_wp2
            go_roundw
            case rel => exact ⟨k + 1, _, by omega, by go_num, RA.out⟩
            case measure => simp [intOf]; omega
          · unfold oprn7
            go_simp
            refine hKK.out _ _ trivial (fun hHeld7 => ?_)
            clear hKK KK
            refine wpAnyH_ready (rs := [4]) (by kernel_rfl) (by simp) ?_
            refine AllReadyH.cons (o := oprn4) rfl (fun KK hKK => ?_) AllReadyH.nil
            have lc := (cell_alloc (o := (.cells #[sv (zs 0)] 9)) (cell_alloc (o := (.cells M 5)) C4.out))
            unfold oprn4
            go_simp
            refine hKK.out _ _ trivial (fun hHeld4 => ?_)
            clear hKK KK lc
            refine wpAnyH_ready (rs := [8]) (by kernel_rfl) (by simp) ?_
            refine AllReadyH.cons (o := oprn8) rfl (fun KK hKK => ?_) AllReadyH.nil
            have hr := HR.out
            rw [if_pos (by kernel_rfl)]
            refine Go.Lib.wp_append_run _ _ _ _ _ rfl _ _ rfl rfl _ _ hr ?_
            refine hKK.out _ _ trivial (fun hHeldA => ?_)
            clear hKK KK hr
            simp only [oprn8, Act.put, List.setIfInBounds_toArray, List.set_cons_zero, List.set_cons_succ]
            refine wpAnyH_take (i := 9) (oi := oprn9) (v := ?_) rfl (by kernel_rfl) (by kernel_rfl) (by kernel_rfl) (fun _ _ _ h => h) (Or.inl ⟨by rfl, ?_⟩) (by assumption) ?_
            rotate_left
            · intro w' hSw
              clear hSw
              unfold oprn9
              first
              | (go_simp; done)
              | (go_simp; with_reducible rfl)
            simp only [oprn9, Act.put, List.setIfInBounds_toArray, List.set_cons_zero, List.set_cons_succ]
            refine wpAnyH_take (i := 10) (oi := oprn10) (v := ?_) rfl (by kernel_rfl) (by kernel_rfl) (by kernel_rfl) (fun _ _ _ h => h) (Or.inl ⟨by rfl, ?_⟩) (by assumption) ?_
            rotate_left
            · intro w' hSw
              clear hSw
              unfold oprn10
              first
              | (go_simp; done)
              | (go_simp; with_reducible rfl)
            simp only [oprn10, Act.put, List.setIfInBounds_toArray, List.set_cons_zero, List.set_cons_succ]
            refine wpAnyH_ready (rs := [11]) (by kernel_rfl) (by simp) ?_
            refine AllReadyH.cons (o := oprn11) rfl (fun KK hKK => ?_) AllReadyH.nil
            have sc1 := SC.out.1
            have sf1 := SC.out.2
            unfold oprn11
            go_simp
            refine hKK.out _ _ trivial (fun hHeldS => ?_)
            clear hKK KK sc1 sf1
            refine wpAnyH_done (by kernel_rfl) ?_ _
            refine NoPanic.normal ?_
            go_wp2
            go_roundw
            case rel => exact ⟨k + 1, _, by omega, by go_num, RA.out⟩
            case measure => simp [intOf]; omega
    · obtain rfl : k = n := by omega
      have FF : Hid (∃ G, DAt wr d G (St.init k) ∧ ∀ g, G g → w.heap.size ≤ g) := I.out.done h1 h2
      have BB : Hid (Below w.heap.size w wr) := I.out.below
      clear I
      go_wp2
      go_ret2
      obtain ⟨G, f1, f2⟩ := FF.out
      exact ⟨d, G, rfl, f1, f2, BB.out⟩
end Go.Proofs.YtdcimnmebgkmjaaGreatDoor
