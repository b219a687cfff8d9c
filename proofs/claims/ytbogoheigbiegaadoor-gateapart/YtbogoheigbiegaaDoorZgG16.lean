/- A gate is made. -/
import Derived.Test.YtbogoheigbiegaaDoorZgG15
import Derived.Maps.AppendAt
import Derived.Lib.AppendZerosOnto
namespace Go.Proofs.YtbogoheigbiegaaDoor.Gat
open Go.RowKit Go.Proofs.Fd Go.Proofs.Gt
set_option maxRecDepth 20000
structure Nst (w0 w : World) (p : Nat) (v : Value) (L : List Si) : Prop where
  c : w.cell? ⟨p, 0, none⟩ = some v
  f : w.frozen? ⟨p, 0, none⟩ = false
  o : w.ownsRow w0.heap.size 70 3 v L.length (sics L)
  ne : v.ownBlock ≠ some p
  b : Below w0.heap.size w0 w
  p : w0.heap.size ≤ p
theorem own_later {w w' : World} {base : Nat} {e : TypeId} {size : Nat} {v : Value} {n : Nat} {xs : List Value} (h : w.ownsRow base e size v n xs) (hb : Below w.heap.size w w') : w'.ownsRow base e size v n xs := by
  refine ⟨h.1, ?_⟩
  rcases h.2 with hn | ⟨g, cap, cur, rfl, hbg, hgg, rest⟩
  · exact .inl hn
  · refine .inr ⟨g, cap, cur, rfl, hbg, ?_, rest⟩
    rw [hb.block g (Array.getElem?_eq_some_iff.1 hgg).1]
    exact hgg
theorem own_other {w : World} {base : Nat} {e : TypeId} {size : Nat} {v : Value} {n : Nat} {xs : List Value} (h : w.ownsRow base e size v n xs) {p : Addr} (hp : v.ownBlock ≠ some p.block) (u : Value) : (w.setCell p u).ownsRow base e size v n xs := by
  refine ⟨h.1, ?_⟩
  rcases h.2 with hn | ⟨g, cap, cur, rfl, hbg, hgg, rest⟩
  · exact .inl hn
  · refine .inr ⟨g, cap, cur, rfl, hbg, ?_, rest⟩
    rw [Below.heap_setCell w p u g (fun e => hp (by rw [← e]; rfl))]
    exact hgg
theorem Nst.later {w0 w w' : World} {p : Nat} {v : Value} {L : List Si} (h : Nst w0 w p v L) (hb : Below w.heap.size w w') : Nst w0 w' p v L :=
  ⟨cell_later hb h.c, (frozen_kept hb (World.block_lt_of_cell? _ _ h.c)).trans h.f, own_later h.o hb, h.ne, chain h.b hb, h.p⟩
theorem Nst.step {w0 w : World} {p : Nat} {v : Value} {L : List Si} (h : Nst w0 w p v L) (s : Si) (hl : L.length ≤ 1000000) {w1 : World} (hb : Below w.heap.size w w1) :
    ∃ va vc w3, (Builtin.append_ #[66, 66] 66 #[v, .slice (some ⟨w1.heap.size, 0, none⟩) 1 1]).run Tryd.prog (w1.alloc (.cells #[.int .i64 s.u, .string s.k, .int .i64 s.q] 70)) = .ok (.slice va (L ++ [s]).length vc) w3
      ∧ w3.cell? ⟨p, 0, none⟩ = some v ∧ w3.frozen? ⟨p, 0, none⟩ = false ∧ Nst w0 (w3.setCell ⟨p, 0, none⟩ (.slice va (L ++ [s]).length vc)) p (.slice va (L ++ [s]).length vc) (L ++ [s]) := by
  obtain ⟨i0, hi, hz0, hz1, hz2⟩ := info_parts infoSi
  have h1 := h.later hb
  have nb : Below w1.heap.size w1 (w1.alloc (.cells #[.int .i64 s.u, .string s.k, .int .i64 s.q] 70)) := (Below.refl _ _).alloc (Nat.le_refl _) _
  have h2 := h1.later nb
  obtain ⟨v', w3, r1, r2, r3, -, r5⟩ := run_append_own_at (P := Tryd.prog) (w1.alloc (.cells #[.int .i64 s.u, .string s.k, .int .i64 s.q] 70)) w0.heap.size 66 66 70 i0 _ 3 32 Tryd.underlying66 hi hz0 hz1 hz2 rfl (by decide) v L.length (sics L) h2.o ⟨w1.heap.size, 0, none⟩ 1 1 (sic s) rfl (fun j u hu => by
    rw [Addr.add_mid, Nat.zero_add, World.cell?_alloc_new]
    simpa [sic] using hu) (fun u hu => sics_one [s] u (by simpa [sics] using hu)) (by unfold maxLen; omega) (by omega) h2.b.size
  have r2' : w3.ownsRow w0.heap.size 70 3 v' (L ++ [s]).length (sics (L ++ [s])) := by
    rw [sics_app, List.length_append]
    simpa [sics] using r2
  have sl : ∃ va vc, v' = .slice va (L ++ [s]).length vc := by
    rcases (own_si r2').2 with ⟨e, e2⟩ | ⟨g, cap, e, -⟩
    · rw [List.length_append] at e2; exact absurd e2 (by simp)
    · exact ⟨_, _, e⟩
  obtain ⟨va, vc, rfl⟩ := sl
  have hp : w3.heap[p]? = _ := r3.block p (World.block_lt_of_cell? _ _ h2.c) (fun e => h2.ne e.symm)
  have c3 := (World.cell?_of_block (a := ⟨p, 0, none⟩) hp).trans h2.c
  have f3 := (World.frozen?_of_block (a := ⟨p, 0, none⟩) hp).trans h2.f
  have ne3 : (Value.slice va (L ++ [s]).length vc).ownBlock ≠ some p := by
    rcases r5 with q | q
    · rw [q]; exact h2.ne
    · rw [q]
      intro e
      have := World.block_lt_of_cell? _ _ h2.c
      have e' := Option.some.inj e
      simp only at this
      omega
  have b3 : Below w0.heap.size w0 w3 := h2.b.trans ⟨r3.os, r3.tape, r3.output, r3.size, fun k hk => r3.block k (Nat.lt_of_lt_of_le hk h2.b.size) (fun e => by
    rcases h2.o.2 with ⟨q, -⟩ | ⟨g, cap, cur, q, q2, -⟩
    · rw [q] at e; cases e
    · rw [q] at e
      have e' : some k = some g := e
      have := Option.some.inj e'
      omega)⟩
  exact ⟨va, vc, w3, r1, c3, f3, by simp [go_sem, c3], by simp [go_sem, f3], own_other r2' ne3 _, ne3, b3.setCell (p := ⟨p, 0, none⟩) h.p _, h.p⟩
theorem Nst.gate {w0 w : World} {p : Nat} {v : Value} {l : List Ac} (h : Nst w0 w p v (l.map sg)) (hl : l.length ≤ 64) (hk : ∀ i (hi : i < l.length), l[i].k.size = 32) : ∃ g, GAt w p g (l.map sg) ∧ w0.heap.size ≤ g := by
  have hk' : ∀ i (hi : i < (l.map sg).length), (l.map sg)[i].k.size = 32 := fun i hi => by
    rw [List.getElem_map]
    exact hk i (by simpa using hi)
  rcases (own_si h.o).2 with ⟨e, e2⟩ | ⟨g, cap, e, e2, e3⟩
  · have z : l.map sg = [] := List.length_eq_zero_iff.1 e2
    refine ⟨p + 1, ⟨⟨none, 0, ?_, .inl z⟩, ?_, by omega, by simpa using hl, hk'⟩, Nat.le_succ_of_le h.p⟩
    · rw [e2, h.c, e]
    · rw [z]; exact SiAt.nil _ _
  · refine ⟨g, ⟨⟨some ⟨g, 0, none⟩, cap, ?_, .inr rfl⟩, e3, ?_, by simpa using hl, hk'⟩, e2⟩
    · rw [h.c, e]
    · intro q
      have := h.ne
      rw [e] at this
      exact this (by rw [q]; rfl)
def NewR (w : World) (l : List Ac) (e : Ending) (w' : World) : Prop :=
  Below w.heap.size w w' ∧ (((chk l).2 ≠ 0 ∧ e = .returned (.tuple #[.pointer none, .int .i64 (chk l).2])) ∨ ((chk l).2 = 0 ∧ ∃ p g, e = .returned (.tuple #[.pointer (some ⟨p, 0, none⟩), .int .i64 0]) ∧ GAt w' p g (l.map sg) ∧ w.heap.size ≤ p ∧ w.heap.size ≤ g))
def opgn0 : Oper := { dst := some 25, op := Go.Op.move (Go.Operand.tmp 6), type := 27, pos := "gate.go:34", after := #[], guard := none }
def opgn1 : Oper := { dst := some 26, op := Go.Op.move (Go.Operand.tmp 6), type := 27, pos := "gate.go:34", after := #[], guard := none }
def opgn2 : Oper := { dst := some 27, op := Go.Op.nilCheck (Go.Operand.tmp 26), type := 0, pos := "gate.go:34", after := #[{ on := 1, ground := Go.Ground.data }], guard := none }
def opgn3 : Oper := { dst := some 28, op := Go.Op.fieldAddr 68 (Go.Operand.tmp 27) 0, type := 0, pos := "gate.go:34", after := #[{ on := 2, ground := Go.Ground.data }], guard := none }
def opgn4 : Oper := { dst := some 29, op := Go.Op.load 66 (Go.Operand.tmp 28), type := 66, pos := "gate.go:34", after := #[{ on := 3, ground := Go.Ground.data }], guard := none }
def opgn5 : Oper := { dst := some 30, op := Go.Op.load 34 (Go.Operand.tmp 8), type := 34, pos := "gate.go:34", after := #[], guard := none }
def opgn6 : Oper := { dst := some 31, op := Go.Op.call { callee := Go.Callee.value (Go.Operand.func 27), args := #[Go.Operand.tmp 30], argTypes := #[34] }, type := 70, pos := "gate.go:34", after := #[{ on := 5, ground := Go.Ground.data }], guard := none }
def opgn7 : Oper := { dst := some 32, op := Go.Op.buildSlice 66 1 #[(0, Go.Operand.tmp 31)], type := 66, pos := "gate.go:34", after := #[{ on := 6, ground := Go.Ground.data }], guard := none }
def opgn8 : Oper := { dst := some 33, op := Go.Op.call { callee := Go.Callee.builtin Go.Builtin.append, args := #[Go.Operand.tmp 29, Go.Operand.tmp 32], argTypes := #[66, 66] }, type := 66, pos := "gate.go:34", after := #[{ on := 4, ground := Go.Ground.data }, { on := 7, ground := Go.Ground.data }, { on := 6, ground := Go.Ground.chain }], guard := none }
def opgn9 : Oper := { dst := some 34, op := Go.Op.nilCheck (Go.Operand.tmp 25), type := 0, pos := "gate.go:34", after := #[{ on := 0, ground := Go.Ground.data }, { on := 0, ground := Go.Ground.phase }, { on := 1, ground := Go.Ground.phase }, { on := 2, ground := Go.Ground.phase }, { on := 3, ground := Go.Ground.phase }, { on := 4, ground := Go.Ground.phase }, { on := 5, ground := Go.Ground.phase }, { on := 6, ground := Go.Ground.phase }, { on := 7, ground := Go.Ground.phase }, { on := 8, ground := Go.Ground.phase }], guard := none }
def opgn10 : Oper := { dst := some 35, op := Go.Op.fieldAddr 68 (Go.Operand.tmp 34) 0, type := 0, pos := "gate.go:34", after := #[{ on := 9, ground := Go.Ground.data }, { on := 0, ground := Go.Ground.phase }, { on := 1, ground := Go.Ground.phase }, { on := 2, ground := Go.Ground.phase }, { on := 3, ground := Go.Ground.phase }, { on := 4, ground := Go.Ground.phase }, { on := 5, ground := Go.Ground.phase }, { on := 6, ground := Go.Ground.phase }, { on := 7, ground := Go.Ground.phase }, { on := 8, ground := Go.Ground.phase }], guard := none }
def opgn11 : Oper := { dst := none, op := Go.Op.store 66 (Go.Operand.tmp 35) (Go.Operand.tmp 33), type := 0, pos := "gate.go:34", after := #[{ on := 10, ground := Go.Ground.data }, { on := 8, ground := Go.Ground.data }, { on := 8, ground := Go.Ground.chain }, { on := 0, ground := Go.Ground.phase }, { on := 1, ground := Go.Ground.phase }, { on := 2, ground := Go.Ground.phase }, { on := 3, ground := Go.Ground.phase }, { on := 4, ground := Go.Ground.phase }, { on := 5, ground := Go.Ground.phase }, { on := 6, ground := Go.Ground.phase }, { on := 7, ground := Go.Ground.phase }, { on := 8, ground := Go.Ground.phase }], guard := none }
set_option maxHeartbeats 2000000 in
theorem new_any (a : Option Addr) (n c : Nat) (l : List Ac) (hn : Hid (l.length = n)) (hm : n ≤ 9223372036854775807) (hcap : Hid (n ≤ c)) (w : World) (hc : Hid (AcAt w a l)) :
    Calls Tryd.prog 10 #[.slice a n c] w fun e w' => NewR w l e w' := by
  have CK := check_any a n c l hn hm hcap w hc
  obtain ⟨X, hX⟩ : ∃ X, (chk l).1 = X := ⟨_, rfl⟩
  obtain ⟨Y, hY⟩ : ∃ Y, (chk l).2 = Y := ⟨_, rfl⟩
  have HY : Hid ((chk l).2 = Y) := hY
  rw [hX, hY] at CK
  clear hX hY
  by_cases hz : Y = 0
  · subst hz
    have FN : Hid (∀ (w' : World) (p g : Nat), Below w.heap.size w w' → GAt w' p g (l.map sg) → w.heap.size ≤ p → w.heap.size ≤ g → NewR w l (.returned (.tuple #[.pointer (some ⟨p, 0, none⟩), .int .i64 0])) w') := fun w' p g h1 h2 h3 h4 => ⟨h1, .inr ⟨HY.out, p, g, rfl, h2, h3, h4⟩⟩
    have h64 : n ≤ 64 := by have := (chk_each HY.out).1; rw [hn.out] at this; exact this
    have HK : Hid (∀ i (hi : i < l.length), l[i].k.size = 32) := fun i hi => chk_key HY.out i hi
    clear HY
    go_enter Tryd.func10, Tryd.ntmps10
    go_wp2_with fail
    refine Calls.mono CK ?_
    rintro e w1 ⟨rfl, hb⟩
    have B1 : Hid (Below w.heap.size w w1) := hb
    clear hb CK
    go_wp2
    have N0 : Hid (Nst w (w1.alloc (.cells #[.slice none 0 0] 68)) w1.heap.size (.slice none 0 0) ((l.take 0).map sg)) :=
      ⟨by simp [go_sem], by simp [go_sem], ⟨rfl, .inl ⟨rfl, rfl⟩⟩, (by intro e; cases e), B1.out.alloc B1.out.size _, B1.out.size⟩
    obtain ⟨P, hP⟩ : ∃ P, w1.heap.size = P := ⟨_, rfl⟩
    rw [hP] at N0 ⊢
    go_loopw [21] (fun i wr => ∃ k : Nat, k ≤ n ∧ i = .int .i64 (k : Int) ∧ Hid (∃ v, Nst w wr P v ((l.take k).map sg))) (fun i _ => n - (intOf i).toNat)
    case atStart => exact ⟨0, Nat.zero_le _, rfl, _, N0.out⟩
    case round =>
      obtain ⟨k, hk, rfl, I⟩ := hrel
      clear N0
      obtain ⟨v, I2⟩ := I.out
      clear I
      by_cases hlt : k < n
      · have hk' : k < l.length := by rw [hn.out]; exact hlt
        have g1 : (k : Int) < (n : Int) := by omega
        obtain ⟨b, o, rfl, c0, c1⟩ := hc.out.later I2.b k hk'
        have zk := HK.out k hk'
        have LL : Hid ((l.take (k + 1)).map sg = (l.take k).map sg ++ [sg l[k]] ∧ ((l.take k).map sg ++ [sg l[k]]).length = k + 1 ∧ ((l.take k).map sg).length ≤ 1000000) := by
          refine ⟨by rw [List.take_succ_eq_append_getElem hk', List.map_append]; rfl, ?_, ?_⟩
          · rw [List.length_append, List.length_map, List.length_take]; simp; omega
          · rw [List.length_map, List.length_take]; omega
        have I3 : Hid (Nst w wr P v ((l.take k).map sg)) := I2
        generalize l[k] = s at c0 c1 zk LL
        obtain ⟨us, ks⟩ := s
        simp only at c0 c1 zk
        clear I2 hcap B1 HK
        go_wp2_with fail
        obtain ⟨W, hW⟩ : ∃ W, wr.alloc (.cells #[.int .i64 us, .string ks] 34) = W := ⟨_, rfl⟩
        have S0 : W.cell? ⟨wr.heap.size, 0, none⟩ = some (.int .i64 us) ∧ W.cell? ⟨wr.heap.size, 1, none⟩ = some (.string ks) := by rw [← hW]; exact ⟨by simp [go_sem], by simp [go_sem]⟩
        have BW : Below wr.heap.size wr W := by rw [← hW]; exact (Below.refl _ _).alloc (Nat.le_refl _) _
        have I4 : Nst w W P v ((l.take k).map sg) := I3.out.later BW
        have I5 : Nst w W.drew P v ((l.take k).map sg) := I4.later (Below.refl _ _).drew
        rw [hW]
        clear hW
        obtain ⟨Z, hZ⟩ : ∃ Z, W.drew = Z := ⟨_, rfl⟩
        rw [hZ] at I5
        have C8a : Z.cell? ⟨wr.heap.size, 0, none⟩ = some (.int .i64 us) := by rw [← hZ]; exact S0.1
        have C8b : Z.cell? ⟨wr.heap.size, 1, none⟩ = some (.string ks) := by rw [← hZ]; exact S0.2
        have C8 : Hid (Z.cell? ⟨wr.heap.size, 0, none⟩ = some (.int .i64 us) ∧ Z.cell? ⟨wr.heap.size, 1, none⟩ = some (.string ks)) := ⟨C8a, C8b⟩
        have NS : Hid (∀ w2, Calls Tryd.prog 27 #[av us ks] w2 fun e w' => e = .returned (sv3 us ks 0) ∧ Below w2.heap.size w2 w') := fun w2 => newSigner_any us ks (by rw [zk]; decide) w2
        have C4 : Hid (∀ w2, Below Z.heap.size Z w2 → w2.cell? ⟨P, 0, none⟩ = some v ∧ ∀ o, (w2.alloc o).cell? ⟨P, 0, none⟩ = some v) := fun w2 h2 => ⟨(I5.later h2).c, fun o => cell_alloc (I5.later h2).c⟩
        have HR : Hid (∀ w2, Below Z.heap.size Z w2 → ∃ va vc w3, (Builtin.append_ #[66, 66] 66 #[v, .slice (some ⟨w2.heap.size, 0, none⟩) 1 1]).run Tryd.prog (w2.alloc (.cells #[.int .i64 us, .string ks, .int .i64 0] 70)) = .ok (.slice va (k + 1) vc) w3
            ∧ w3.cell? ⟨P, 0, none⟩ = some v ∧ w3.frozen? ⟨P, 0, none⟩ = false ∧ Hid (Nst w (w3.setCell ⟨P, 0, none⟩ (.slice va (k + 1) vc)) P (.slice va (k + 1) vc) ((l.take (k + 1)).map sg))) := fun w2 h2 => by
          have q := I5.step (sg ⟨us, ks⟩) LL.out.2.2 h2
          rw [← LL.out.1, show ((l.take (k + 1)).map sg).length = k + 1 by rw [LL.out.1]; exact LL.out.2.1] at q
          obtain ⟨va, vc, w3, q1, q2, q3, q4⟩ := q
          exact ⟨va, vc, w3, q1, q2, q3, q4⟩
        unfold av sv3 at NS
        clear S0 BW I4 I5 I3 LL c0 c1 zk C8a C8b
        refine wp_region_noPanic ?_
        refine wp_region_held_drew (S := fun _ => True) (by kernel_rfl) (trivial) (fun hHeld => ?_)
        rw [hZ]
        clear hZ
        refine wpAnyH_take (i := 0) (oi := opgn0) (v := ?_) rfl (by kernel_rfl) (by kernel_rfl) (by kernel_rfl) (fun _ _ _ h => h) (Or.inl ⟨by rfl, ?_⟩) (by assumption) ?_
        rotate_left
        · intro w' hSw
          clear hSw
          unfold opgn0
          first
          | (go_simp; done)
          | (go_simp; with_reducible rfl)
        simp only [opgn0, Act.put, List.setIfInBounds_toArray, List.set_cons_zero, List.set_cons_succ]
        refine wpAnyH_take (i := 1) (oi := opgn1) (v := ?_) rfl (by kernel_rfl) (by kernel_rfl) (by kernel_rfl) (fun _ _ _ h => h) (Or.inl ⟨by rfl, ?_⟩) (by assumption) ?_
        rotate_left
        · intro w' hSw
          clear hSw
          unfold opgn1
          first
          | (go_simp; done)
          | (go_simp; with_reducible rfl)
        simp only [opgn1, Act.put, List.setIfInBounds_toArray, List.set_cons_zero, List.set_cons_succ]
        refine wpAnyH_take (i := 2) (oi := opgn2) (v := ?_) rfl (by kernel_rfl) (by kernel_rfl) (by kernel_rfl) (fun _ _ _ h => h) (Or.inl ⟨by rfl, ?_⟩) (by assumption) ?_
        rotate_left
        · intro w' hSw
          clear hSw
          unfold opgn2
          first
          | (go_simp; done)
          | (go_simp; with_reducible rfl)
        simp only [opgn2, Act.put, List.setIfInBounds_toArray, List.set_cons_zero, List.set_cons_succ]
        refine wpAnyH_take (i := 3) (oi := opgn3) (v := ?_) rfl (by kernel_rfl) (by kernel_rfl) (by kernel_rfl) (fun _ _ _ h => h) (Or.inl ⟨by rfl, ?_⟩) (by assumption) ?_
        rotate_left
        · intro w' hSw
          clear hSw
          unfold opgn3
          first
          | (go_simp; done)
          | (go_simp; with_reducible rfl)
        simp only [opgn3, Act.put, List.setIfInBounds_toArray, List.set_cons_zero, List.set_cons_succ]
        refine wpAnyH_ready (rs := [4, 5]) (by kernel_rfl) (by simp) ?_
        refine AllReadyH.cons (o := opgn4) rfl (fun KK hKK => ?_) (AllReadyH.cons (o := opgn5) rfl (fun KK hKK => ?_) AllReadyH.nil)
        · have lc := (C4.out _ (Below.refl _ _)).1
          unfold opgn4
          go_simp
          refine hKK.out _ _ trivial (fun hHeld4 => ?_)
          clear hKK KK lc
          refine wpAnyH_ready (rs := [5]) (by kernel_rfl) (by simp) ?_
          refine AllReadyH.cons (o := opgn5) rfl (fun KK hKK => ?_) AllReadyH.nil
          have lc := C8.out.1
          have ld := C8.out.2
          unfold opgn5
          go_simp
          refine hKK.out _ _ trivial (fun hHeld5 => ?_)
          clear hKK KK lc ld
          refine wpAnyH_ready (rs := [6]) (by kernel_rfl) (by simp) ?_
          refine AllReadyH.cons (o := opgn6) rfl (fun KK hKK => ?_) AllReadyH.nil
          unfold opgn6
          go_simp
          refine Calls.mono (NS.out _) ?_
          rintro e w2 ⟨rfl, hb⟩
          have HB : Hid (Below Z.heap.size Z w2) := hb
          clear hb
          refine hKK.out _ _ trivial (fun hHeld6 => ?_)
          clear hKK KK
          try simp only [opgn6, Act.put, List.setIfInBounds_toArray, List.set_cons_zero, List.set_cons_succ]
          refine wpAnyH_ready (rs := [7]) (by kernel_rfl) (by simp) ?_
          refine AllReadyH.cons (o := opgn7) rfl (fun KK hKK => ?_) AllReadyH.nil
          unfold opgn7
          go_simp
          refine hKK.out _ _ trivial (fun hHeld7 => ?_)
          clear hKK KK
          try simp only [opgn7, Act.put, List.setIfInBounds_toArray, List.set_cons_zero, List.set_cons_succ]
          refine wpAnyH_ready (rs := [8]) (by kernel_rfl) (by simp) ?_
          refine AllReadyH.cons (o := opgn8) rfl (fun KK hKK => ?_) AllReadyH.nil
          obtain ⟨va, vc, w3, hr, sc, sf, FF⟩ := HR.out _ HB.out
          rw [if_pos (by kernel_rfl)]
          refine Go.Lib.wp_append_run _ _ _ _ _ rfl _ _ rfl rfl _ _ hr ?_
          refine hKK.out _ _ trivial (fun hHeldA => ?_)
          clear hKK KK hr
          simp only [opgn8, Act.put, List.setIfInBounds_toArray, List.set_cons_zero, List.set_cons_succ]
          refine wpAnyH_take (i := 9) (oi := opgn9) (v := ?_) rfl (by kernel_rfl) (by kernel_rfl) (by kernel_rfl) (fun _ _ _ h => h) (Or.inl ⟨by rfl, ?_⟩) (by assumption) ?_
          rotate_left
          · intro w' hSw
            clear hSw
            unfold opgn9
            first
            | (go_simp; done)
            | (go_simp; with_reducible rfl)
          simp only [opgn9, Act.put, List.setIfInBounds_toArray, List.set_cons_zero, List.set_cons_succ]
          refine wpAnyH_take (i := 10) (oi := opgn10) (v := ?_) rfl (by kernel_rfl) (by kernel_rfl) (by kernel_rfl) (fun _ _ _ h => h) (Or.inl ⟨by rfl, ?_⟩) (by assumption) ?_
          rotate_left
          · intro w' hSw
            clear hSw
            unfold opgn10
            first
            | (go_simp; done)
            | (go_simp; with_reducible rfl)
          simp only [opgn10, Act.put, List.setIfInBounds_toArray, List.set_cons_zero, List.set_cons_succ]
          refine wpAnyH_ready (rs := [11]) (by kernel_rfl) (by simp) ?_
          refine AllReadyH.cons (o := opgn11) rfl (fun KK hKK => ?_) AllReadyH.nil
          unfold opgn11
          go_simp
          refine hKK.out _ _ trivial (fun hHeldS => ?_)
          clear hKK KK sc sf
          refine wpAnyH_done (by kernel_rfl) ?_ _
          refine NoPanic.normal ?_
          clear HR C4 NS C8
          go_wp2
          go_roundw
          case rel => exact ⟨k + 1, by omega, by go_num, _, FF.out⟩
          case measure => simp [intOf]; omega
        · have lc := C8.out.1
          have ld := C8.out.2
          unfold opgn5
          go_simp
          refine hKK.out _ _ trivial (fun hHeld5 => ?_)
          clear hKK KK lc ld
          refine wpAnyH_ready (rs := [4, 6]) (by kernel_rfl) (by simp) ?_
          refine AllReadyH.cons (o := opgn4) rfl (fun KK hKK => ?_) (AllReadyH.cons (o := opgn6) rfl (fun KK hKK => ?_) AllReadyH.nil)
          · have lc := (C4.out _ (Below.refl _ _)).1
            unfold opgn4
            go_simp
            refine hKK.out _ _ trivial (fun hHeld4 => ?_)
            clear hKK KK lc
            refine wpAnyH_ready (rs := [6]) (by kernel_rfl) (by simp) ?_
            refine AllReadyH.cons (o := opgn6) rfl (fun KK hKK => ?_) AllReadyH.nil
            unfold opgn6
            go_simp
            refine Calls.mono (NS.out _) ?_
            rintro e w2 ⟨rfl, hb⟩
            have HB : Hid (Below Z.heap.size Z w2) := hb
            clear hb
            refine hKK.out _ _ trivial (fun hHeld6 => ?_)
            clear hKK KK
            try simp only [opgn6, Act.put, List.setIfInBounds_toArray, List.set_cons_zero, List.set_cons_succ]
            refine wpAnyH_ready (rs := [7]) (by kernel_rfl) (by simp) ?_
            refine AllReadyH.cons (o := opgn7) rfl (fun KK hKK => ?_) AllReadyH.nil
            unfold opgn7
            go_simp
            refine hKK.out _ _ trivial (fun hHeld7 => ?_)
            clear hKK KK
            try simp only [opgn7, Act.put, List.setIfInBounds_toArray, List.set_cons_zero, List.set_cons_succ]
            refine wpAnyH_ready (rs := [8]) (by kernel_rfl) (by simp) ?_
            refine AllReadyH.cons (o := opgn8) rfl (fun KK hKK => ?_) AllReadyH.nil
            obtain ⟨va, vc, w3, hr, sc, sf, FF⟩ := HR.out _ HB.out
            rw [if_pos (by kernel_rfl)]
            refine Go.Lib.wp_append_run _ _ _ _ _ rfl _ _ rfl rfl _ _ hr ?_
            refine hKK.out _ _ trivial (fun hHeldA => ?_)
            clear hKK KK hr
            simp only [opgn8, Act.put, List.setIfInBounds_toArray, List.set_cons_zero, List.set_cons_succ]
            refine wpAnyH_take (i := 9) (oi := opgn9) (v := ?_) rfl (by kernel_rfl) (by kernel_rfl) (by kernel_rfl) (fun _ _ _ h => h) (Or.inl ⟨by rfl, ?_⟩) (by assumption) ?_
            rotate_left
            · intro w' hSw
              clear hSw
              unfold opgn9
              first
              | (go_simp; done)
              | (go_simp; with_reducible rfl)
            simp only [opgn9, Act.put, List.setIfInBounds_toArray, List.set_cons_zero, List.set_cons_succ]
            refine wpAnyH_take (i := 10) (oi := opgn10) (v := ?_) rfl (by kernel_rfl) (by kernel_rfl) (by kernel_rfl) (fun _ _ _ h => h) (Or.inl ⟨by rfl, ?_⟩) (by assumption) ?_
            rotate_left
            · intro w' hSw
              clear hSw
              unfold opgn10
              first
              | (go_simp; done)
              | (go_simp; with_reducible rfl)
            simp only [opgn10, Act.put, List.setIfInBounds_toArray, List.set_cons_zero, List.set_cons_succ]
            refine wpAnyH_ready (rs := [11]) (by kernel_rfl) (by simp) ?_
            refine AllReadyH.cons (o := opgn11) rfl (fun KK hKK => ?_) AllReadyH.nil
            unfold opgn11
            go_simp
            refine hKK.out _ _ trivial (fun hHeldS => ?_)
            clear hKK KK sc sf
            refine wpAnyH_done (by kernel_rfl) ?_ _
            refine NoPanic.normal ?_
            clear HR C4 NS C8
            go_wp2
            go_roundw
            case rel => exact ⟨k + 1, by omega, by go_num, _, FF.out⟩
            case measure => simp [intOf]; omega
          · unfold opgn6
            go_simp
            refine Calls.mono (NS.out _) ?_
            rintro e w2 ⟨rfl, hb⟩
            have HB : Hid (Below Z.heap.size Z w2) := hb
            clear hb
            refine hKK.out _ _ trivial (fun hHeld6 => ?_)
            clear hKK KK
            try simp only [opgn6, Act.put, List.setIfInBounds_toArray, List.set_cons_zero, List.set_cons_succ]
            refine wpAnyH_ready (rs := [4, 7]) (by kernel_rfl) (by simp) ?_
            refine AllReadyH.cons (o := opgn4) rfl (fun KK hKK => ?_) (AllReadyH.cons (o := opgn7) rfl (fun KK hKK => ?_) AllReadyH.nil)
            · have lc := (C4.out _ HB.out).1
              unfold opgn4
              go_simp
              refine hKK.out _ _ trivial (fun hHeld4 => ?_)
              clear hKK KK lc
              refine wpAnyH_ready (rs := [7]) (by kernel_rfl) (by simp) ?_
              refine AllReadyH.cons (o := opgn7) rfl (fun KK hKK => ?_) AllReadyH.nil
              unfold opgn7
              go_simp
              refine hKK.out _ _ trivial (fun hHeld7 => ?_)
              clear hKK KK
              try simp only [opgn7, Act.put, List.setIfInBounds_toArray, List.set_cons_zero, List.set_cons_succ]
              refine wpAnyH_ready (rs := [8]) (by kernel_rfl) (by simp) ?_
              refine AllReadyH.cons (o := opgn8) rfl (fun KK hKK => ?_) AllReadyH.nil
              obtain ⟨va, vc, w3, hr, sc, sf, FF⟩ := HR.out _ HB.out
              rw [if_pos (by kernel_rfl)]
              refine Go.Lib.wp_append_run _ _ _ _ _ rfl _ _ rfl rfl _ _ hr ?_
              refine hKK.out _ _ trivial (fun hHeldA => ?_)
              clear hKK KK hr
              simp only [opgn8, Act.put, List.setIfInBounds_toArray, List.set_cons_zero, List.set_cons_succ]
              refine wpAnyH_take (i := 9) (oi := opgn9) (v := ?_) rfl (by kernel_rfl) (by kernel_rfl) (by kernel_rfl) (fun _ _ _ h => h) (Or.inl ⟨by rfl, ?_⟩) (by assumption) ?_
              rotate_left
              · intro w' hSw
                clear hSw
                unfold opgn9
                first
                | (go_simp; done)
                | (go_simp; with_reducible rfl)
              simp only [opgn9, Act.put, List.setIfInBounds_toArray, List.set_cons_zero, List.set_cons_succ]
              refine wpAnyH_take (i := 10) (oi := opgn10) (v := ?_) rfl (by kernel_rfl) (by kernel_rfl) (by kernel_rfl) (fun _ _ _ h => h) (Or.inl ⟨by rfl, ?_⟩) (by assumption) ?_
              rotate_left
              · intro w' hSw
                clear hSw
                unfold opgn10
                first
                | (go_simp; done)
                | (go_simp; with_reducible rfl)
              simp only [opgn10, Act.put, List.setIfInBounds_toArray, List.set_cons_zero, List.set_cons_succ]
              refine wpAnyH_ready (rs := [11]) (by kernel_rfl) (by simp) ?_
              refine AllReadyH.cons (o := opgn11) rfl (fun KK hKK => ?_) AllReadyH.nil
              unfold opgn11
              go_simp
              refine hKK.out _ _ trivial (fun hHeldS => ?_)
              clear hKK KK sc sf
              refine wpAnyH_done (by kernel_rfl) ?_ _
              refine NoPanic.normal ?_
              clear HR C4 NS C8
              go_wp2
              go_roundw
              case rel => exact ⟨k + 1, by omega, by go_num, _, FF.out⟩
              case measure => simp [intOf]; omega
            · unfold opgn7
              go_simp
              refine hKK.out _ _ trivial (fun hHeld7 => ?_)
              clear hKK KK
              try simp only [opgn7, Act.put, List.setIfInBounds_toArray, List.set_cons_zero, List.set_cons_succ]
              refine wpAnyH_ready (rs := [4]) (by kernel_rfl) (by simp) ?_
              refine AllReadyH.cons (o := opgn4) rfl (fun KK hKK => ?_) AllReadyH.nil
              have lc := (C4.out _ HB.out).2 (.cells #[.int .i64 us, .string ks, .int .i64 0] 70)
              unfold opgn4
              go_simp
              refine hKK.out _ _ trivial (fun hHeld4 => ?_)
              clear hKK KK lc
              refine wpAnyH_ready (rs := [8]) (by kernel_rfl) (by simp) ?_
              refine AllReadyH.cons (o := opgn8) rfl (fun KK hKK => ?_) AllReadyH.nil
              obtain ⟨va, vc, w3, hr, sc, sf, FF⟩ := HR.out _ HB.out
              rw [if_pos (by kernel_rfl)]
              refine Go.Lib.wp_append_run _ _ _ _ _ rfl _ _ rfl rfl _ _ hr ?_
              refine hKK.out _ _ trivial (fun hHeldA => ?_)
              clear hKK KK hr
              simp only [opgn8, Act.put, List.setIfInBounds_toArray, List.set_cons_zero, List.set_cons_succ]
              refine wpAnyH_take (i := 9) (oi := opgn9) (v := ?_) rfl (by kernel_rfl) (by kernel_rfl) (by kernel_rfl) (fun _ _ _ h => h) (Or.inl ⟨by rfl, ?_⟩) (by assumption) ?_
              rotate_left
              · intro w' hSw
                clear hSw
                unfold opgn9
                first
                | (go_simp; done)
                | (go_simp; with_reducible rfl)
              simp only [opgn9, Act.put, List.setIfInBounds_toArray, List.set_cons_zero, List.set_cons_succ]
              refine wpAnyH_take (i := 10) (oi := opgn10) (v := ?_) rfl (by kernel_rfl) (by kernel_rfl) (by kernel_rfl) (fun _ _ _ h => h) (Or.inl ⟨by rfl, ?_⟩) (by assumption) ?_
              rotate_left
              · intro w' hSw
                clear hSw
                unfold opgn10
                first
                | (go_simp; done)
                | (go_simp; with_reducible rfl)
              simp only [opgn10, Act.put, List.setIfInBounds_toArray, List.set_cons_zero, List.set_cons_succ]
              refine wpAnyH_ready (rs := [11]) (by kernel_rfl) (by simp) ?_
              refine AllReadyH.cons (o := opgn11) rfl (fun KK hKK => ?_) AllReadyH.nil
              unfold opgn11
              go_simp
              refine hKK.out _ _ trivial (fun hHeldS => ?_)
              clear hKK KK sc sf
              refine wpAnyH_done (by kernel_rfl) ?_ _
              refine NoPanic.normal ?_
              clear HR C4 NS C8
              go_wp2
              go_roundw
              case rel => exact ⟨k + 1, by omega, by go_num, _, FF.out⟩
              case measure => simp [intOf]; omega
      · obtain rfl : k = n := by omega
        have E : Hid (∃ g, GAt wr P g (l.map sg) ∧ w.heap.size ≤ g) := by
          have e : l.take k = l := List.take_of_length_le (by rw [hn.out]; exact Nat.le_refl _)
          rw [e] at I2
          exact I2.gate (by rw [hn.out]; exact h64) HK.out
        have B0 : Hid (Below w.heap.size w wr ∧ w.heap.size ≤ P) := ⟨I2.b, I2.p⟩
        clear I2 HK
        go_wp2
        go_ret2
        obtain ⟨g, e1, e2⟩ := E.out
        exact FN.out _ _ g B0.out.1 e1 B0.out.2 e2
  · have FN : Hid (∀ (w' : World), Below w.heap.size w w' → NewR w l (.returned (.tuple #[.pointer none, .int .i64 Y])) w') := fun w' h1 => ⟨h1, .inl ⟨by rw [HY.out]; exact hz, by rw [HY.out]⟩⟩
    clear HY
    go_enter Tryd.func10, Tryd.ntmps10
    go_wp2_with fail
    refine Calls.mono CK ?_
    rintro e w1 ⟨rfl, hb⟩
    have B1 : Hid (Below w.heap.size w w1) := hb
    clear hb CK
    go_wp2
    go_ret2
    exact FN.out _ B1.out
end Go.Proofs.YtbogoheigbiegaaDoor.Gat
