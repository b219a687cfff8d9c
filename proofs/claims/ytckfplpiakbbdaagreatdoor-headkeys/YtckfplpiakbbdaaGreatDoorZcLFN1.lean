/- HeadKeys answers true. -/
import Derived.Test.YtckfplpiakbbdaaGreatDoorZcG41
import Derived.Test.YtckfplpiakbbdaaGreatDoorZcG42
import Derived.Deep.RegionHeld3
namespace Go.Proofs.YtckfplpiakbbdaaGreatDoor
open Go.RowKit Go.Proofs.Fd Go.Proofs.Hs Go.Proofs.Cc Go.Proofs.Hd Go.Proofs.Rt
set_option maxRecDepth 20000
set_option maxHeartbeats 1000000 in
theorem HeadKeys_walk (CO : Hid OfC) (CM : Hid MakeC) (CL : Hid PeelC) (s : ByteArray) (hs : Hid (s.size + 64 ≤ 140737488355328)) (w : World) (hK : Hid (Kh w)) :
    Calls Tryz.prog 3 #[.string s] w fun e w' => e = .returned (.bool true) ∧ Below w.heap.size w w' := by
  have WK : Hid (∀ w, Kh w → Calls Tryz.prog 10 #[] w fun e w' => e = .returned (.bool true) ∧ Below w.heap.size w w') := fun w h => works8_any CM CL w h
  by_cases hz : s.size = 32
  · have OF : Hid (∀ w, Kh w → Calls Tryz.prog 9 #[.string s] w fun e w' => e = .returned (.tuple #[kv s, .int .i64 0]) ∧ Below w.heap.size w w') := fun w h => by
      have := CO.out s w hs h
      unfold ofV at this
      rw [if_pos hz] at this
      exact this
    have RO : Hid (∀ w, Calls Tryz.prog 11 #[.string s] w fun e w' => e = .returned (kv s) ∧ Below w.heap.size w w') := fun w => rOf_any s hs w
    unfold kv at OF RO
    generalize hdk s lFlow 32 = k0 at *
    generalize hdk s lMac 32 = k1 at *
    generalize hdk s lBody 32 = k2 at *
    generalize bld s = k3 at *
    generalize hdk s lTag 16 = k4 at *
    have Ik0 : (k0.toList == k0.toList) = true := by simp
    have Ik1 : (k1.toList == k1.toList) = true := by simp
    have Ik2 : (k2.toList == k2.toList) = true := by simp
    have Ik3 : (k3.toList == k3.toList) = true := by simp
    have Ik4 : (k4.toList == k4.toList) = true := by simp
    have zi : (s.size : Int) = 32 := by omega
    clear CO CM CL hs
    go_enter Tryz.func3, Tryz.ntmps3
    go_wp2_with fail
    refine Calls.mono (OF.out _ hK.out) ?_
    rintro e w1 ⟨rfl, hb1⟩
    have B1 : Hid (Below w.heap.size w w1) := hb1
    clear hb1 OF
    go_wp2_with fail
    obtain ⟨A, hA⟩ : ∃ A, w1.alloc (.cells #[.string k0, .string k1, .string k2, .string k3, .string k4] 23) = A := ⟨_, rfl⟩
    have J : Hid (Five A w1.heap.size k0 k1 k2 k3 k4 ∧ Below w.heap.size w A) := by
      rw [← hA]
      exact ⟨Five.new _ _ _ _ _ _ _, B1.out.alloc B1.out.size _⟩
    rw [hA]
    clear hA B1
    generalize w1.heap.size = g at *
    obtain ⟨-, c0, c1, c2, c3, c4⟩ := J.out.1
    refine wp_region_noPanic ?_
    refine wp_region_held_drew (S := fun w' => Five w' g k0 k1 k2 k3 k4) (by kernel_rfl) (J.out.1) (fun hHeld => ?_)
    refine wpAnyH_take (i := 0) (oi := { dst := some 23, op := Go.Op.move (Go.Operand.tmp 4), type := 24, pos := "law.go:16", after := #[], guard := none }) (v := ?_) rfl (by kernel_rfl) (by kernel_rfl) (by kernel_rfl) (fun _ _ _ h => h) (Or.inl ⟨by rfl, ?_⟩) (by assumption) ?_
    rotate_left
    · intro w' hSw
      clear hSw
      first
      | (go_simp; done)
      | (go_simp; with_reducible rfl)
    simp only [Act.put, List.setIfInBounds_toArray, List.set_cons_zero, List.set_cons_succ]
    refine wpAnyH_take (i := 1) (oi := { dst := some 24, op := Go.Op.binOp Go.BinOp.eql 24 (Go.Operand.tmp 23) (Go.Operand.const (Go.Value.int Go.IntKind.i64 0)) 24, type := 4, pos := "law.go:16", after := #[{ on := 0, ground := Go.Ground.data }], guard := none }) (v := ?_) rfl (by kernel_rfl) (by kernel_rfl) (by kernel_rfl) (fun _ _ _ h => h) (Or.inl ⟨by rfl, ?_⟩) (by assumption) ?_
    rotate_left
    · intro w' hSw
      clear hSw
      first
      | (go_simp; done)
      | (go_simp; with_reducible rfl)
    simp only [Act.put, List.setIfInBounds_toArray, List.set_cons_zero, List.set_cons_succ]
    refine wpAnyH_take (i := 2) (oi := { dst := some 25, op := Go.Op.move (Go.Operand.tmp 24), type := 4, pos := "law.go:16", after := #[{ on := 1, ground := Go.Ground.data }], guard := none }) (v := ?_) rfl (by kernel_rfl) (by kernel_rfl) (by kernel_rfl) (fun _ _ _ h => h) (Or.inl ⟨by rfl, ?_⟩) (by assumption) ?_
    rotate_left
    · intro w' hSw
      clear hSw
      first
      | (go_simp; done)
      | (go_simp; with_reducible rfl)
    simp only [Act.put, List.setIfInBounds_toArray, List.set_cons_zero, List.set_cons_succ]
    refine wpAnyH_take (i := 3) (oi := { dst := some 26, op := Go.Op.load 23 (Go.Operand.tmp 3), type := 23, pos := "law.go:16", after := #[{ on := 2, ground := Go.Ground.guard }], guard := some (2, true) }) (v := ?_) rfl (by kernel_rfl) (by kernel_rfl) (by kernel_rfl) (fun _ _ _ h => h) (Or.inl ⟨by rfl, ?_⟩) (by assumption) ?_
    rotate_left
    · intro w' hSw
      obtain ⟨-, p0, p1, p2, p3, p4⟩ := hSw
      first
      | (go_simp; done)
      | (go_simp; with_reducible rfl)
    simp only [Act.put, List.setIfInBounds_toArray, List.set_cons_zero, List.set_cons_succ]
    refine wpAnyH_take (i := 4) (oi := { dst := some 27, op := Go.Op.move (Go.Operand.tmp 0), type := 9, pos := "law.go:16", after := #[{ on := 2, ground := Go.Ground.guard }], guard := some (2, true) }) (v := ?_) rfl (by kernel_rfl) (by kernel_rfl) (by kernel_rfl) (fun _ _ _ h => h) (Or.inl ⟨by rfl, ?_⟩) (by assumption) ?_
    rotate_left
    · intro w' hSw
      clear hSw
      first
      | (go_simp; done)
      | (go_simp; with_reducible rfl)
    simp only [Act.put, List.setIfInBounds_toArray, List.set_cons_zero, List.set_cons_succ]
    refine wpAnyH_ready (rs := [5]) (by kernel_rfl) (by simp) ?_
    refine AllReadyH.cons (o := { dst := some 28, op := Go.Op.call { callee := Go.Callee.value (Go.Operand.func 11), args := #[Go.Operand.tmp 27], argTypes := #[9] }, type := 23, pos := "law.go:16", after := #[{ on := 4, ground := Go.Ground.data }, { on := 2, ground := Go.Ground.chain }, { on := 2, ground := Go.Ground.guard }], guard := some (2, true) }) rfl (fun KK hKK => ?_) AllReadyH.nil
    go_simp
    refine Calls.mono (RO.out _) ?_
    rintro e w2 ⟨rfl, hb2⟩
    have J2 : Hid (Five w2 g k0 k1 k2 k3 k4 ∧ Below w.heap.size w w2) := ⟨(J.out.1.later (Below.refl _ _).drew).later hb2, chain (chain J.out.2 (Below.refl _ _).drew) hb2⟩
    refine hKK.out _ _ (J2.out.1) (fun hHeld2 => ?_)
    clear hKK KK hb2 J RO hHeld
    refine wpAnyH_take (i := 6) (oi := { dst := some 29, op := Go.Op.binOp Go.BinOp.eql 23 (Go.Operand.tmp 26) (Go.Operand.tmp 28) 23, type := 4, pos := "law.go:16", after := #[{ on := 3, ground := Go.Ground.data }, { on := 5, ground := Go.Ground.data }, { on := 2, ground := Go.Ground.guard }], guard := some (2, true) }) (v := (.bool true)) rfl (by kernel_rfl) (by kernel_rfl) (by kernel_rfl) (fun _ _ _ h => h) (Or.inl ⟨by rfl, ?_⟩) (by assumption) ?_
    · intro w' hSw
      exact exec_eq_keys _ _ (.tmp 26) (.tmp 28) k0 k1 k2 k3 k4 rfl rfl rfl w'
    simp only [Act.put, List.setIfInBounds_toArray, List.set_cons_zero, List.set_cons_succ]
    refine wpAnyH_take (i := 7) (oi := { dst := some 30, op := Go.Op.pick (Go.Operand.tmp 25) (Go.Operand.tmp 29) (Go.Operand.const (Go.Value.bool false)), type := 4, pos := "law.go:16", after := #[{ on := 2, ground := Go.Ground.data }, { on := 6, ground := Go.Ground.data }], guard := none }) (v := ?_) rfl (by kernel_rfl) (by kernel_rfl) (by kernel_rfl) (fun _ _ _ h => h) (Or.inl ⟨by rfl, ?_⟩) (by assumption) ?_
    rotate_left
    · intro w' hSw
      clear hSw
      first
      | (go_simp; done)
      | (go_simp; with_reducible rfl)
    simp only [Act.put, List.setIfInBounds_toArray, List.set_cons_zero, List.set_cons_succ]
    refine wpAnyH_take (i := 8) (oi := { dst := some 31, op := Go.Op.move (Go.Operand.tmp 30), type := 4, pos := "law.go:16", after := #[{ on := 7, ground := Go.Ground.data }, { on := 5, ground := Go.Ground.chain }], guard := none }) (v := ?_) rfl (by kernel_rfl) (by kernel_rfl) (by kernel_rfl) (fun _ _ _ h => h) (Or.inl ⟨by rfl, ?_⟩) (by assumption) ?_
    rotate_left
    · intro w' hSw
      clear hSw
      first
      | (go_simp; done)
      | (go_simp; with_reducible rfl)
    simp only [Act.put, List.setIfInBounds_toArray, List.set_cons_zero, List.set_cons_succ]
    refine wpAnyH_ready (rs := [9]) (by kernel_rfl) (by simp) ?_
    refine AllReadyH.cons (o := { dst := some 32, op := Go.Op.call { callee := Go.Callee.value (Go.Operand.func 10), args := #[], argTypes := #[] }, type := 4, pos := "law.go:16", after := #[{ on := 8, ground := Go.Ground.chain }, { on := 8, ground := Go.Ground.guard }], guard := some (8, true) }) rfl (fun KK hKK => ?_) AllReadyH.nil
    go_simp
    refine Calls.mono (WK.out _ (hK.out.later J2.out.2)) ?_
    rintro e w3 ⟨rfl, hb3⟩
    have J3 : Hid (Five w3 g k0 k1 k2 k3 k4 ∧ Below w.heap.size w w3) := ⟨J2.out.1.later hb3, chain J2.out.2 hb3⟩
    refine hKK.out _ _ (J3.out.1) (fun hHeld3 => ?_)
    clear hKK KK hb3 J2 WK hHeld2
    refine wpAnyH_take (i := 10) (oi := { dst := some 33, op := Go.Op.pick (Go.Operand.tmp 31) (Go.Operand.tmp 32) (Go.Operand.const (Go.Value.bool false)), type := 4, pos := "law.go:16", after := #[{ on := 8, ground := Go.Ground.data }, { on := 9, ground := Go.Ground.data }], guard := none }) (v := ?_) rfl (by kernel_rfl) (by kernel_rfl) (by kernel_rfl) (fun _ _ _ h => h) (Or.inl ⟨by rfl, ?_⟩) (by assumption) ?_
    rotate_left
    · intro w' hSw
      clear hSw
      first
      | (go_simp; done)
      | (go_simp; with_reducible rfl)
    simp only [Act.put, List.setIfInBounds_toArray, List.set_cons_zero, List.set_cons_succ]
    refine wpAnyH_take (i := 11) (oi := { dst := some 2, op := Go.Op.assign (Go.Operand.tmp 33), type := 4, pos := "law.go:16", after := #[{ on := 10, ground := Go.Ground.data }, { on := 9, ground := Go.Ground.chain }, { on := 0, ground := Go.Ground.phase }, { on := 1, ground := Go.Ground.phase }, { on := 2, ground := Go.Ground.phase }, { on := 3, ground := Go.Ground.phase }, { on := 4, ground := Go.Ground.phase }, { on := 5, ground := Go.Ground.phase }, { on := 6, ground := Go.Ground.phase }, { on := 7, ground := Go.Ground.phase }, { on := 8, ground := Go.Ground.phase }, { on := 9, ground := Go.Ground.phase }, { on := 10, ground := Go.Ground.phase }], guard := none }) (v := ?_) rfl (by kernel_rfl) (by kernel_rfl) (by kernel_rfl) (fun _ _ _ h => h) (Or.inl ⟨by rfl, ?_⟩) (by assumption) ?_
    rotate_left
    · intro w' hSw
      clear hSw
      first
      | (go_simp; done)
      | (go_simp; with_reducible rfl)
    simp only [Act.put, List.setIfInBounds_toArray, List.set_cons_zero, List.set_cons_succ]
    refine wpAnyH_done (by kernel_rfl) ?_ _
    refine NoPanic.normal ?_
    clear hHeld3
    go_wp2
    go_ret
    exact ⟨rfl, J3.out.2⟩
  · have OF : Hid (∀ w, Kh w → Calls Tryz.prog 9 #[.string s] w fun e w' => e = .returned (.tuple #[.agg #[.string ⟨#[]⟩, .string ⟨#[]⟩, .string ⟨#[]⟩, .string ⟨#[]⟩, .string ⟨#[]⟩], .int .i64 3]) ∧ Below w.heap.size w w') := fun w h => by
      have := CO.out s w hs h
      unfold ofV at this
      rw [if_neg hz] at this
      exact this
    have zi : ((s.size : Int) != 32) = true := by simp; omega
    clear CO CM CL hs hz
    go_enter Tryz.func3, Tryz.ntmps3
    go_wp2_with fail
    refine Calls.mono (OF.out _ hK.out) ?_
    rintro e w1 ⟨rfl, hb1⟩
    have B1 : Hid (Below w.heap.size w w1) := hb1
    clear hb1 OF
    go_wp2_with fail
    refine Calls.mono (WK.out _ (hK.out.later (B1.out.alloc B1.out.size _))) ?_
    rintro e w2 ⟨rfl, hb2⟩
    have B2 : Hid (Below w.heap.size w w2) := chain (B1.out.alloc B1.out.size _) hb2
    clear hb2 B1 WK
    go_wp2
    go_ret
    exact ⟨rfl, B2.out⟩
end Go.Proofs.YtckfplpiakbbdaaGreatDoor
