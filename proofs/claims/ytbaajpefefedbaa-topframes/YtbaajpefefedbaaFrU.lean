/- The program's reader: New, Take, Waits, Fork. -/
import Derived.Test.YtbaajpefefedbaaFrT
namespace Go.Proofs.Ytbaajpefefedbaa
open Go.RowKit Go.Proofs.Fd Go.Proofs.Fr
set_option maxRecDepth 20000

theorem RdV.new (w : World) (v : Value) (g : Nat) (r : Rd) (B : Buf w g v r.h) (hg : v = .slice none 0 0 ∧ g = w.heap.size ∨ v ≠ .slice none 0 0 ∧ g < w.heap.size) : RdV (w.alloc (.cells #[v, .int .i64 0, .bool r.b] 64)) w.heap.size g v 0 r := by
  refine ⟨by rw [World.cell?_alloc_new]; rfl, by rw [World.cell?_alloc_new]; rfl, by rw [World.cell?_alloc_new]; rfl, ⟨fun o => by simp [go_sem], _, _, heap_alloc_new w _⟩, ?_, ?_⟩
  · rcases hg with ⟨rfl, -⟩ | hg
    · exact B.nil
    · exact B.same (Below.heap_alloc w _ g hg.2)
  · rcases hg with hg | hg
    · exact .inl hg
    · exact .inr ⟨hg.1, Nat.ne_of_lt hg.2⟩
set_option maxHeartbeats 1000000 in
theorem new_any (w : World) :
    Calls Try.prog 21 #[] w fun e w' => e = .returned (.pointer (some ⟨w.heap.size, 0, none⟩)) ∧ RdAt w' w.heap.size w.heap.size ⟨[], false⟩ ∧ Below w.heap.size w w' ∧ w'.heap.size = w.heap.size + 1 := by
  go_enter Try.func21, Try.ntmps21
  go_wp2
  go_ret
  exact ⟨rfl, ⟨_, _, RdV.new w (.slice none 0 0) w.heap.size ⟨[], false⟩ (.inl ⟨rfl, rfl⟩) (.inl ⟨rfl, rfl⟩)⟩, (Below.refl _ _).alloc (Nat.le_refl _) _, by simp⟩
set_option maxHeartbeats 1000000 in
theorem waits_any (p g : Nat) (r : Rd) (w : World) (R : Hid (RdAt w p g r)) :
    Calls Try.prog 24 #[.pointer (some ⟨p, 0, none⟩)] w fun e w' => e = .returned (.int .i64 (r.h.length : Int)) ∧ w' = w := by
  obtain ⟨v, s, c0, -, -, -, B, -⟩ := R.out
  obtain ⟨a, n, cap, rfl, rfl, -⟩ := B.is
  clear B R
  go_enter Try.func24, Try.ntmps24
  go_wp2
  go_ret
  exact ⟨rfl, rfl⟩
set_option maxHeartbeats 1000000 in
theorem take_any (p g : Nat) (r : Rd) (c : ByteArray) (w : World) (R : Hid (RdAt w p g r)) (hz : r.h.length ≤ 1048576) :
    Calls Try.prog 22 #[.pointer (some ⟨p, 0, none⟩), .string c] w fun e w' => e = .returned (.int .i64 (takeE r c.data.toList)) ∧ (∃ g', RdAt w' p g' (takeR r c.data.toList) ∧ (g' = g ∨ g' = p ∨ w.heap.size ≤ g')) ∧ But p g w w' := by
  obtain ⟨v, s, V⟩ := R.out
  have HV : Hid (RdV w p g v s r) := V
  have hlS : c.data.toList.length = c.size := by simp
  obtain ⟨c0, c1, c2, ⟨c3, ty⟩, B, c5⟩ := V
  by_cases qb : r.b = true
  · obtain ⟨t1, t2⟩ := broken_take r c.data.toList qb
    rw [t1, t2]
    rw [qb] at c2
    clear t1 t2 B c5 HV
    go_enter Try.func22, Try.ntmps22
    go_wp2
    go_ret
    exact ⟨rfl, ⟨g, R.out, .inl rfl⟩, But.refl _ _ _⟩
  · rw [(Bool.not_eq_true _).mp qb] at c2
    have HB : Hid (Buf w g v r.h ∧ Cg v g p ∧ Ty w p) := ⟨B, c5, ty⟩
    clear c5 R ty
    by_cases ql : 1048576 - r.h.length < c.data.toList.length
    · have t1 : takeE r c.data.toList = 2 := by unfold takeE; rw [if_neg qb, if_pos ql]
      have t2 : takeR r c.data.toList = r := if_neg (by rw [t1]; decide)
      rw [t1, t2]
      obtain ⟨a, n, cap, rfl, rfl, -⟩ := B.is
      clear B
      have z1 : IntKind.i64.wrap (1048576 - (r.h.length : Int)) = 1048576 - (r.h.length : Int) := by rw [IntKind.wrap_i64]; omega
      have z2 : (1048576 : Int) - (r.h.length : Int) < (c.size : Int) := by omega
      clear t1 t2
      go_enter Try.func22, Try.ntmps22
      go_wp2
      go_ret
      exact ⟨rfl, ⟨g, ⟨_, _, HV.out⟩, .inl rfl⟩, But.refl _ _ _⟩
    · have t1 : takeE r c.data.toList = 0 := by unfold takeE; rw [if_neg qb, if_neg ql]
      have t2 : takeR r c.data.toList = Fr.look ⟨r.h ++ c.data.toList, r.b⟩ := if_pos t1
      rw [t1, t2]
      have z1 : IntKind.i64.wrap (1048576 - (r.h.length : Int)) = 1048576 - (r.h.length : Int) := by rw [IntKind.wrap_i64]; omega
      have z2 : ¬ (1048576 : Int) - (r.h.length : Int) < (c.size : Int) := by omega
      obtain ⟨v', w', g', hr, hb', hg', hn', hgr⟩ := buf_append w 59 g v r.h c HB.out.1 (by omega)
      have HP : p < w.heap.size := World.block_lt_of_cell? _ _ c0
      obtain ⟨a, n, cap, hv, hnn, han, hown⟩ := B.is
      have ep : w'.heap[p]? = w.heap[p]? := hgr.block p HP (fun z => by
        have e := hown p z.symm
        rcases HB.out.2.1 with ⟨q, -⟩ | ⟨-, q⟩
        · rw [q] at z; cases z
        · exact q e.symm)
      have e0 : w'.cell? ⟨p, 0, none⟩ = some v := (World.cell?_of_block (a := ⟨p, 0, none⟩) ep).trans c0
      have e1 : w'.cell? ⟨p, 1, none⟩ = some (.int .i64 s) := (World.cell?_of_block (a := ⟨p, 1, none⟩) ep).trans c1
      have e2 : w'.cell? ⟨p, 2, none⟩ = some (.bool r.b) := (World.cell?_of_block (a := ⟨p, 2, none⟩) ep).trans HV.out.2.2.1
      have e3 : ∀ o, w'.frozen? ⟨p, o, none⟩ = false := fun o => (World.frozen?_of_block (a := ⟨p, o, none⟩) ep).trans (c3 o)
      have HG : ∃ g2, Buf w' g2 v' (r.h ++ c.data.toList) ∧ Cg v' g2 p ∧ (g2 = g ∨ g2 = p ∨ w.heap.size ≤ g2) := by
        by_cases q : v' = .slice none 0 0
        · subst q; exact ⟨p, hb'.nil, .inl ⟨rfl, rfl⟩, .inr (.inl rfl)⟩
        · rcases hg' with ⟨rfl, z⟩ | z
          · refine ⟨g', hb', .inr ⟨q, ?_⟩, .inl rfl⟩
            rcases HB.out.2.1 with ⟨y, -⟩ | ⟨-, y⟩
            · exact absurd y z
            · exact y
          · exact ⟨g', hb', .inr ⟨q, by omega⟩, .inr (.inr z)⟩
      obtain ⟨g2, hb2, hcg, hor⟩ := HG
      have HX : Hid (RdAt (w'.setCell ⟨p, 0, none⟩ v') p g2 ⟨r.h ++ c.data.toList, r.b⟩ ∧ But p g w (w'.setCell ⟨p, 0, none⟩ v') ∧ (g2 = g ∨ g2 = p ∨ w.heap.size ≤ g2)) := by
        have ty' : Ty w' p := by obtain ⟨cu, fz, q⟩ := HB.out.2.2; exact ⟨cu, fz, ep.trans q⟩
        refine ⟨⟨v', s, by simp [go_sem, e0], by simp [go_sem, e1], by simp [go_sem, e2], ⟨fun o => by simp [go_sem, e3], ty'.set _ _⟩, ?_, hcg⟩, ((But.refl p g w).grown hgr hown).setCell _ _, hor⟩
        rcases hcg.or with rfl | q
        · exact hb2.nil
        · exact hb2.same (Below.heap_setCell w' _ v' g2 q)
      obtain ⟨a', n', cap', rfl, -⟩ := hb'.is
      subst hv
      subst hnn
      have HR : Hid ((Builtin.append_ #[59, 9] 59 #[.slice a r.h.length cap, .string c]).run Try.prog w = .ok (.slice a' n' cap') w') := hr
      clear hb' hg' hn' hgr HB hb2 hcg hor han hown ep B e1 e2 HV t1 t2 hr
      go_enter Try.func22, Try.ntmps22
      go_wp2_with (at_builtin; refine Go.Lib.wpList_append_run _ rfl _ _ _ _ rfl _ _ rfl rfl _ _ HR.out ?_)
      refine Calls.mono (look_any p g2 ⟨r.h ++ c.data.toList, r.b⟩ _ HX.out.1) ?_
      rintro e w2 ⟨rfl, ⟨g3, hl2, hg3⟩, hb2⟩
      have FI : Hid ((∃ g', RdAt w2 p g' (Fr.look ⟨r.h ++ c.data.toList, r.b⟩) ∧ (g' = g ∨ g' = p ∨ w.heap.size ≤ g')) ∧ But p g w w2) := ⟨⟨g3, hl2, by rcases hg3 with rfl | rfl; (· exact HX.out.2.2); exact .inr (.inl rfl)⟩, HX.out.2.1.trans hb2 HX.out.2.2⟩
      clear HX HR hl2 hb2 hg3
      go_wp2
      go_ret
      exact ⟨rfl, FI.out⟩
end Go.Proofs.Ytbaajpefefedbaa
