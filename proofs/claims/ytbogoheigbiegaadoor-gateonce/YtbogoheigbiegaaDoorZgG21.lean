/- The program's slots and ids, read. -/
import Derived.Test.YtbogoheigbiegaaDoorZgG20
import Derived.Test.YtbogoheigbiegaaDoorZgG14
namespace Go.Proofs.YtbogoheigbiegaaDoor.Mai
open Go.RowKit Go.Proofs.Fd Go.Proofs.Ml
set_option maxRecDepth 20000
theorem ext_by (s : ByteArray) (a b : Nat) : by' (s.extract a b) = ((by' s).take b).drop a := by
  show (s.extract a b).data.toList = (s.data.toList.take b).drop a
  simp [ByteArray.data_extract, List.drop_take]
theorem ext_mk (s : ByteArray) (a b : Nat) : s.extract a b = mk (((by' s).take b).drop a) := by
  rw [← ext_by]; rfl
theorem ext_head (s : ByteArray) (b : Nat) : s.extract 0 b = mk ((by' s).take b) := by rw [ext_mk, List.drop_zero]
theorem ext_tail (s : ByteArray) (a n : Nat) (h : s.size ≤ n) : s.extract a n = mk ((by' s).drop a) := by
  rw [ext_mk, List.take_of_length_le (by rw [by_len]; exact h)]
theorem ext_size (s : ByteArray) (a b : Nat) (h : b ≤ s.size) (_h2 : a ≤ b) : (s.extract a b).size = b - a := by
  rw [ByteArray.size_extract]; omega
theorem get_bn (s : ByteArray) (i : Nat) (h : i < s.size) : (s[i].toNat : Int) = (bn (by' s) i : Int) := by
  unfold bn
  rw [List.getD_eq_getElem?_getD, List.getElem?_eq_getElem (by rw [by_len]; exact h)]
  rfl
def SlB (w : World) (b : Nat) (id tx : ByteArray) : Prop := (∀ o, w.frozen? ⟨b, o, none⟩ = false) ∧ w.cell? ⟨b, 0, none⟩ = some (.string id) ∧ w.cell? ⟨b, 1, none⟩ = some (.string tx)
theorem SlB.later {w w' : World} {b : Nat} {id tx : ByteArray} (h : SlB w b id tx) (hb : Below w.heap.size w w') : SlB w' b id tx :=
  ⟨fun o => (frozen_kept hb (World.block_lt_of_cell? _ _ h.2.1)).trans (h.1 o), cell_later hb h.2.1, cell_later hb h.2.2⟩
theorem SlB.set {w : World} {b : Nat} {id tx : ByteArray} (h : SlB w b id tx) (i2 t2 : ByteArray) : SlB ((w.setCell ⟨b, 0, none⟩ (.string i2)).setCell ⟨b, 1, none⟩ (.string t2)) b i2 t2 := by
  obtain ⟨f, h0, h1⟩ := h
  exact ⟨fun o => by simp [go_sem, f], by simp [go_sem, h0], by simp [go_sem, h1]⟩
theorem res_slot (tmps : Array Value) (w : World) (b : Nat) (id tx : ByteArray) (h2 : tmps.getD 2 undef = .pointer (some ⟨b, 0, none⟩)) (l : SlB w b id tx) :
    (results Tryd.f66 tmps).run Tryd.prog w = .ok (.agg #[.string id, .string tx]) w := by
  have l1 := run_loadVar_mid (P := Tryd.prog) w b 0 83 [.string id, .string tx] _ (by
    intro j v hv
    match j, hv with
    | 0, hv => cases hv; exact l.2.1
    | 1, hv => cases hv; exact l.2.2) Tryd.underlying83 rfl (by kernel_rfl)
  unfold results
  rw [Tryd.results66]
  have h2' : tmps[2]?.getD undef = .pointer (some ⟨b, 0, none⟩) := by simpa using h2
  simp [h2', l1, asAddr]
def opi0 : Oper := { dst := some 15, op := Go.Op.move (Go.Operand.tmp 3), type := 9, pos := "mail.go:195", after := #[], guard := none }
def opi1 : Oper := { dst := some 16, op := Go.Op.call { callee := Go.Callee.value (Go.Operand.func 46), args := #[Go.Operand.tmp 15], argTypes := #[9] }, type := 9, pos := "mail.go:195", after := #[{ on := 0, ground := Go.Ground.data }], guard := none }
def opi2 : Oper := { dst := some 17, op := Go.Op.move (Go.Operand.tmp 5), type := 9, pos := "mail.go:195", after := #[], guard := none }
def opi3 : Oper := { dst := some 18, op := Go.Op.move (Go.Operand.tmp 4), type := 3, pos := "mail.go:195", after := #[], guard := none }
def opi4 : Oper := { dst := some 19, op := Go.Op.call { callee := Go.Callee.builtin Go.Builtin.min, args := #[Go.Operand.tmp 18, Go.Operand.const (Go.Value.int Go.IntKind.i64 222)], argTypes := #[3, 3] }, type := 3, pos := "mail.go:195", after := #[{ on := 3, ground := Go.Ground.data }], guard := none }
def opi5 : Oper := { dst := some 20, op := Go.Op.slice 9 (Go.Operand.tmp 17) none (some (Go.Operand.tmp 19)) none, type := 9, pos := "mail.go:195", after := #[{ on := 2, ground := Go.Ground.data }, { on := 4, ground := Go.Ground.data }], guard := none }
def opi6 : Oper := { dst := some 21, op := Go.Op.call { callee := Go.Callee.value (Go.Operand.func 46), args := #[Go.Operand.tmp 20], argTypes := #[9] }, type := 9, pos := "mail.go:195", after := #[{ on := 5, ground := Go.Ground.data }, { on := 1, ground := Go.Ground.chain }], guard := none }
def opi7 : Oper := { dst := some 22, op := Go.Op.build 83 #[(0, Go.Operand.tmp 16), (1, Go.Operand.tmp 21)], type := 83, pos := "mail.go:195", after := #[{ on := 1, ground := Go.Ground.data }, { on := 6, ground := Go.Ground.data }], guard := none }
def opi8 : Oper := { dst := none, op := Go.Op.store 83 (Go.Operand.tmp 2) (Go.Operand.tmp 22), type := 0, pos := "mail.go:195", after := #[{ on := 7, ground := Go.Ground.data }, { on := 6, ground := Go.Ground.chain }, { on := 0, ground := Go.Ground.phase }, { on := 1, ground := Go.Ground.phase }, { on := 2, ground := Go.Ground.phase }, { on := 3, ground := Go.Ground.phase }, { on := 4, ground := Go.Ground.phase }, { on := 5, ground := Go.Ground.phase }, { on := 6, ground := Go.Ground.phase }, { on := 7, ground := Go.Ground.phase }], guard := none }
set_option maxHeartbeats 2000000 in
theorem readSlot_any (s : ByteArray) (hs : s.size = 239) (w : World) :
    Calls Tryd.prog 66 #[.string s] w fun e w' => e = .returned (.agg #[.string (rSlot (by' s)).id, .string (rSlot (by' s)).tx]) ∧ Below w.heap.size w w' := by
  have e1 : ((s.extract 0 16).toList == [0, 0, 0, 0, 0, 0, 0, 0, 0, 0, 0, 0, 0, 0, 0, 0]) = !nz ((by' s).take 16) := by
    rw [toList_by, ext_by, List.drop_zero]
    unfold nz
    rw [Bool.not_not]
    by_cases h2 : (by' s).take 16 = zr 16
    · rw [decide_eq_true h2, h2]; rfl
    · rw [decide_eq_false h2, beq_eq_false_iff_ne]; exact h2
  obtain ⟨T, hT⟩ : ∃ T, (rSlot (by' s)).tx = T := ⟨_, rfl⟩
  obtain ⟨D, hD⟩ : ∃ D, (rSlot (by' s)).id = D := ⟨_, rfl⟩
  have z16 : (s.extract 0 16).size = 16 := ext_size s 0 16 (by omega) (by omega)
  have g16 : 16 < s.size := by omega
  obtain ⟨m, hm⟩ : ∃ m : Nat, min (bn (by' s) 16) 222 = m := ⟨_, rfl⟩
  have b16 : (s[16].toNat : Int) = (bn (by' s) 16 : Int) := get_bn s 16 g16
  have mn : min (s[16].toNat : Int) 222 = (m : Int) := by rw [b16]; omega
  have hm2 : m ≤ 222 := by omega
  have ze : (s.extract 17 239).size = 222 := ext_size s 17 239 (by omega) (by omega)
  have eT : (s.extract 17 239).extract 0 m = T := by
    rw [ext_head, ext_by, List.take_of_length_le (i := 239) (by rw [by_len]; omega), ← hT, ← hm]
    rfl
  have zT : T.size = m := by rw [← eT, ext_size _ 0 m (by omega) (by omega)]; omega
  have CT : Hid (∀ w, Calls Tryd.prog 46 #[.string T] w fun e w' => e = .returned (.string T) ∧ Below w.heap.size w w') := fun w => sclone_any T (by omega) w
  have CD : Hid (∀ w, Calls Tryd.prog 46 #[.string D] w fun e w' => e = .returned (.string D) ∧ Below w.heap.size w w') := fun w => sclone_any D (by
    rw [← hD]
    unfold rSlot
    simp only
    split
    · rw [mk_size, List.length_take]; omega
    · decide) w
  rw [hT, hD]
  obtain ⟨x, hx⟩ : ∃ x : Int, (s[16].toNat : Int) = x := ⟨_, rfl⟩
  rw [hx] at b16 mn
  have wx : wrap64 x = x := by
    have h1 : 0 ≤ x ∧ x < 256 := by rw [b16]; unfold bn; have := ((by' s).getD 16 0).toNat_lt; omega
    unfold wrap64
    omega
  have hm3 : (m : Int) ≤ 222 := by omega
  have HD : Hid (D = if nz ((by' s).take 16) = true then s.extract 0 16 else e0) := by
    show _ = _
    rw [← hD, ext_head]; rfl
  have B0 : Hid (∀ o : Obj, ∀ n, Below w.heap.size w ((w.alloc o).drewN n)) := fun o n => below_drewN ((Below.refl _ _).alloc (Nat.le_refl _) _) n
  have S0 : Hid (∀ n, SlB ((w.alloc (.cells #[.string ⟨#[]⟩, .string ⟨#[]⟩] 83)).drewN n) w.heap.size ⟨#[]⟩ ⟨#[]⟩) := fun n => ⟨fun o => by simp [go_sem], by simp [go_sem], by simp [go_sem]⟩
  clear hT hD b16 hm zT
  by_cases hnz : nz ((by' s).take 16) = true
  · rw [hnz] at e1 HD
    obtain rfl : D = s.extract 0 16 := HD.out
    have e2 : ((s.extract 0 16).toList == [0, 0, 0, 0, 0, 0, 0, 0, 0, 0, 0, 0, 0, 0, 0, 0]) = false := e1
    clear e1 HD hnz
    go_enter Tryd.func66, Tryd.ntmps66
    go_wp2_with fail
    go_quiet (fail)
    go_wp2_with fail
    obtain ⟨X, hX⟩ : ∃ X, ((w.alloc (.cells #[.string ⟨#[]⟩, .string ⟨#[]⟩] 83)).drewN nq) = X := ⟨_, rfl⟩
    rw [hX]
    have H0 : Hid (Below w.heap.size w X ∧ SlB X w.heap.size ⟨#[]⟩ ⟨#[]⟩) := by rw [← hX]; exact ⟨B0.out _ _, S0.out _⟩
    clear hX B0 S0
    refine wp_region_noPanic ?_
    refine wp_region_held_drew (S := fun _ => True) (by kernel_rfl) (trivial) (fun hHeld => ?_)
    refine wpAnyH_take (i := 0) (oi := opi0) (v := ?_) rfl (by kernel_rfl) (by kernel_rfl) (by kernel_rfl) (fun _ _ _ h => h) (Or.inl ⟨by rfl, ?_⟩) (by assumption) ?_
    rotate_left
    · intro w' hSw
      clear hSw
      unfold opi0
      first
      | (go_simp; done)
      | (go_simp; with_reducible rfl)
    simp only [opi0, Act.put, List.setIfInBounds_toArray, List.set_cons_zero, List.set_cons_succ]
    refine wpAnyH_take (i := 2) (oi := opi2) (v := ?_) rfl (by kernel_rfl) (by kernel_rfl) (by kernel_rfl) (fun _ _ _ h => h) (Or.inl ⟨by rfl, ?_⟩) (by assumption) ?_
    rotate_left
    · intro w' hSw
      clear hSw
      unfold opi2
      first
      | (go_simp; done)
      | (go_simp; with_reducible rfl)
    simp only [opi2, Act.put, List.setIfInBounds_toArray, List.set_cons_zero, List.set_cons_succ]
    refine wpAnyH_take (i := 3) (oi := opi3) (v := ?_) rfl (by kernel_rfl) (by kernel_rfl) (by kernel_rfl) (fun _ _ _ h => h) (Or.inl ⟨by rfl, ?_⟩) (by assumption) ?_
    rotate_left
    · intro w' hSw
      clear hSw
      unfold opi3
      first
      | (go_simp; done)
      | (go_simp; with_reducible rfl)
    simp only [opi3, Act.put, List.setIfInBounds_toArray, List.set_cons_zero, List.set_cons_succ]
    refine wpAnyH_take (i := 4) (oi := opi4) (v := ?_) rfl (by kernel_rfl) (by kernel_rfl) (by kernel_rfl) (fun _ _ _ h => h) (Or.inl ⟨by rfl, ?_⟩) (by assumption) ?_
    rotate_left
    · intro w' hSw
      clear hSw
      unfold opi4
      first
      | (go_simp; done)
      | (go_simp; with_reducible rfl)
    simp only [opi4, Act.put, List.setIfInBounds_toArray, List.set_cons_zero, List.set_cons_succ]
    refine wpAnyH_take (i := 5) (oi := opi5) (v := ?_) rfl (by kernel_rfl) (by kernel_rfl) (by kernel_rfl) (fun _ _ _ h => h) (Or.inl ⟨by rfl, ?_⟩) (by assumption) ?_
    rotate_left
    · intro w' hSw
      clear hSw
      unfold opi5
      first
      | (go_simp; done)
      | (go_simp; with_reducible rfl)
    simp only [opi5, Act.put, List.setIfInBounds_toArray, List.set_cons_zero, List.set_cons_succ]
    refine wpAnyH_ready (rs := [1]) (by kernel_rfl) (by simp) ?_
    refine AllReadyH.cons (o := opi1) rfl (fun KK hKK => ?_) AllReadyH.nil
    unfold opi1
    go_simp
    refine Calls.mono (CD.out _) ?_
    rintro e v1 ⟨rfl, hv1⟩
    refine hKK.out _ _ (trivial) (fun hHeldA => ?_)
    clear hKK KK
    refine wpAnyH_ready (rs := [6]) (by kernel_rfl) (by simp) ?_
    refine AllReadyH.cons (o := opi6) rfl (fun KK hKK => ?_) AllReadyH.nil
    unfold opi6
    go_simp
    refine Calls.mono (CT.out _) ?_
    rintro e v2 ⟨rfl, hv2⟩
    refine hKK.out _ _ (trivial) (fun hHeldB => ?_)
    clear hKK KK
    refine wpAnyH_take (i := 7) (oi := opi7) (v := ?_) rfl (by kernel_rfl) (by kernel_rfl) (by kernel_rfl) (fun _ _ _ h => h) (Or.inl ⟨by rfl, ?_⟩) (by assumption) ?_
    rotate_left
    · intro w' hSw
      clear hSw
      unfold opi7
      first
      | (go_simp; done)
      | (go_simp; with_reducible rfl)
    simp only [opi7, Act.put, List.setIfInBounds_toArray, List.set_cons_zero, List.set_cons_succ]
    have hb : Below X.heap.size X v2 := chain (chain (Below.refl _ _).drew hv1) hv2
    have SB := H0.out.2.later hb
    have F : Hid (SlB v2 w.heap.size ⟨#[]⟩ ⟨#[]⟩ ∧ Below w.heap.size w v2) := ⟨SB, chain H0.out.1 hb⟩
    obtain ⟨f, c0, c1⟩ := SB
    have f0 := f 0
    have f1 := f 1
    clear hv1 hv2 hb H0
    refine wpAnyH_ready (rs := [8]) (by kernel_rfl) (by simp) ?_
    refine AllReadyH.cons (o := opi8) rfl (fun KK hKK => ?_) AllReadyH.nil
    unfold opi8
    go_simp
    refine hKK.out _ _ trivial (fun hHeldZ => ?_)
    clear hKK KK
    refine wpAnyH_done (by kernel_rfl) ?_ _
    refine NoPanic.normal ?_
    go_wp2
    refine bodyPost_ret ?_ rfl ⟨rfl, (F.out.2.setCell (p := ⟨w.heap.size, 0, none⟩) (Nat.le_refl _) _).setCell (p := ⟨w.heap.size, 1, none⟩) (Nat.le_refl _) _⟩
    exact res_slot _ _ w.heap.size (s.extract 0 16) T (by kernel_rfl) (F.out.1.set _ _)
  · have hnz : nz ((by' s).take 16) = false := by simpa using hnz
    rw [hnz] at e1 HD
    obtain rfl : D = e0 := HD.out
    have e2 : ((s.extract 0 16).toList == [0, 0, 0, 0, 0, 0, 0, 0, 0, 0, 0, 0, 0, 0, 0, 0]) = true := e1
    clear e1 HD hnz
    go_enter Tryd.func66, Tryd.ntmps66
    go_wp2_with fail
    go_quiet (fail)
    go_wp2_with fail
    obtain ⟨X, hX⟩ : ∃ X, ((w.alloc (.cells #[.string ⟨#[]⟩, .string ⟨#[]⟩] 83)).drewN nq) = X := ⟨_, rfl⟩
    rw [hX]
    have H0 : Hid (Below w.heap.size w X ∧ SlB X w.heap.size ⟨#[]⟩ ⟨#[]⟩) := by rw [← hX]; exact ⟨B0.out _ _, S0.out _⟩
    clear hX B0 S0
    refine wp_region_noPanic ?_
    refine wp_region_held_drew (S := fun _ => True) (by kernel_rfl) (trivial) (fun hHeld => ?_)
    refine wpAnyH_take (i := 0) (oi := opi0) (v := ?_) rfl (by kernel_rfl) (by kernel_rfl) (by kernel_rfl) (fun _ _ _ h => h) (Or.inl ⟨by rfl, ?_⟩) (by assumption) ?_
    rotate_left
    · intro w' hSw
      clear hSw
      unfold opi0
      first
      | (go_simp; done)
      | (go_simp; with_reducible rfl)
    simp only [opi0, Act.put, List.setIfInBounds_toArray, List.set_cons_zero, List.set_cons_succ]
    refine wpAnyH_take (i := 2) (oi := opi2) (v := ?_) rfl (by kernel_rfl) (by kernel_rfl) (by kernel_rfl) (fun _ _ _ h => h) (Or.inl ⟨by rfl, ?_⟩) (by assumption) ?_
    rotate_left
    · intro w' hSw
      clear hSw
      unfold opi2
      first
      | (go_simp; done)
      | (go_simp; with_reducible rfl)
    simp only [opi2, Act.put, List.setIfInBounds_toArray, List.set_cons_zero, List.set_cons_succ]
    refine wpAnyH_take (i := 3) (oi := opi3) (v := ?_) rfl (by kernel_rfl) (by kernel_rfl) (by kernel_rfl) (fun _ _ _ h => h) (Or.inl ⟨by rfl, ?_⟩) (by assumption) ?_
    rotate_left
    · intro w' hSw
      clear hSw
      unfold opi3
      first
      | (go_simp; done)
      | (go_simp; with_reducible rfl)
    simp only [opi3, Act.put, List.setIfInBounds_toArray, List.set_cons_zero, List.set_cons_succ]
    refine wpAnyH_take (i := 4) (oi := opi4) (v := ?_) rfl (by kernel_rfl) (by kernel_rfl) (by kernel_rfl) (fun _ _ _ h => h) (Or.inl ⟨by rfl, ?_⟩) (by assumption) ?_
    rotate_left
    · intro w' hSw
      clear hSw
      unfold opi4
      first
      | (go_simp; done)
      | (go_simp; with_reducible rfl)
    simp only [opi4, Act.put, List.setIfInBounds_toArray, List.set_cons_zero, List.set_cons_succ]
    refine wpAnyH_take (i := 5) (oi := opi5) (v := ?_) rfl (by kernel_rfl) (by kernel_rfl) (by kernel_rfl) (fun _ _ _ h => h) (Or.inl ⟨by rfl, ?_⟩) (by assumption) ?_
    rotate_left
    · intro w' hSw
      clear hSw
      unfold opi5
      first
      | (go_simp; done)
      | (go_simp; with_reducible rfl)
    simp only [opi5, Act.put, List.setIfInBounds_toArray, List.set_cons_zero, List.set_cons_succ]
    refine wpAnyH_ready (rs := [1]) (by kernel_rfl) (by simp) ?_
    refine AllReadyH.cons (o := opi1) rfl (fun KK hKK => ?_) AllReadyH.nil
    unfold opi1
    go_simp
    refine Calls.mono (CD.out _) ?_
    rintro e v1 ⟨rfl, hv1⟩
    refine hKK.out _ _ (trivial) (fun hHeldA => ?_)
    clear hKK KK
    refine wpAnyH_ready (rs := [6]) (by kernel_rfl) (by simp) ?_
    refine AllReadyH.cons (o := opi6) rfl (fun KK hKK => ?_) AllReadyH.nil
    unfold opi6
    go_simp
    refine Calls.mono (CT.out _) ?_
    rintro e v2 ⟨rfl, hv2⟩
    refine hKK.out _ _ (trivial) (fun hHeldB => ?_)
    clear hKK KK
    refine wpAnyH_take (i := 7) (oi := opi7) (v := ?_) rfl (by kernel_rfl) (by kernel_rfl) (by kernel_rfl) (fun _ _ _ h => h) (Or.inl ⟨by rfl, ?_⟩) (by assumption) ?_
    rotate_left
    · intro w' hSw
      clear hSw
      unfold opi7
      first
      | (go_simp; done)
      | (go_simp; with_reducible rfl)
    simp only [opi7, Act.put, List.setIfInBounds_toArray, List.set_cons_zero, List.set_cons_succ]
    have hb : Below X.heap.size X v2 := chain (chain (Below.refl _ _).drew hv1) hv2
    have SB := H0.out.2.later hb
    have F : Hid (SlB v2 w.heap.size ⟨#[]⟩ ⟨#[]⟩ ∧ Below w.heap.size w v2) := ⟨SB, chain H0.out.1 hb⟩
    obtain ⟨f, c0, c1⟩ := SB
    have f0 := f 0
    have f1 := f 1
    clear hv1 hv2 hb H0
    refine wpAnyH_ready (rs := [8]) (by kernel_rfl) (by simp) ?_
    refine AllReadyH.cons (o := opi8) rfl (fun KK hKK => ?_) AllReadyH.nil
    unfold opi8
    go_simp
    refine hKK.out _ _ trivial (fun hHeldZ => ?_)
    clear hKK KK
    refine wpAnyH_done (by kernel_rfl) ?_ _
    refine NoPanic.normal ?_
    go_wp2
    refine bodyPost_ret ?_ rfl ⟨rfl, (F.out.2.setCell (p := ⟨w.heap.size, 0, none⟩) (Nat.le_refl _) _).setCell (p := ⟨w.heap.size, 1, none⟩) (Nat.le_refl _) _⟩
    exact res_slot _ _ w.heap.size ⟨#[]⟩ T (by kernel_rfl) (F.out.1.set _ _)
end Go.Proofs.YtbogoheigbiegaaDoor.Mai
