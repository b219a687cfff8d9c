/- A new wheel; its time; how many timers it has. -/
import Derived.Test.YthnkkkiobbnpmaaWhB
namespace Go.Proofs.Ythnkkkiobbnpmaa
open Go.RowKit Go.Proofs.Fd Go.Proofs.Wh
set_option maxRecDepth 20000

theorem now_any (p now : Nat) (w : World) (c0 : w.cell? ⟨p, 0, none⟩ = some (.int .i64 (now : Int))) :
    Calls Try.prog 22 #[.pointer (some ⟨p, 0, none⟩)] w fun e w' => e = .returned (.int .i64 (now : Int)) ∧ w' = w := by
  go_enter Try.func22, Try.ntmps22
  go_wp2
  go_ret
  exact ⟨rfl, rfl⟩
theorem mapLen (w : World) (bm : Nat) (D : DataW Unit) (h : OwnsM w bm D) (ty : TypeId) : (Builtin.len_ #[51] ty #[.map (some bm)]).run Try.prog w = .ok (.int .i64 (Maps.size D)) w := h.len Try.underlying51 ty
theorem len0_any (p bm : Nat) (D : DataW Unit) (w : World) (c3 : w.cell? ⟨p, 450, none⟩ = some (.map (some bm))) (hm : OwnsM w bm D) :
    Calls Try.prog 23 #[.pointer (some ⟨p, 0, none⟩)] w fun e w' => e = .returned (.int .i64 (Maps.size D : Nat)) ∧ w' = w := by
  have hl := mapLen w bm D hm
  go_enter Try.func23, Try.ntmps23
  go_wp2
  go_ret
  exact ⟨rfl, rfl⟩
def zW : Array Value := (.int .i64 0 :: .int .i64 0 :: (List.replicate 448 (.slice none 0 0) ++ [.map none])).toArray
theorem zW_size : zW.size = 451 := by decide +kernel
theorem zW_zero (w : World) : (zeroValue 56).run Try.prog w = .ok (.agg zW) w := by kernel_rfl
theorem zW_slot (k : Nat) (hk : k < 448) : zW[2 + k]? = some (.slice none 0 0) := by
  unfold zW
  rw [List.getElem?_toArray, show 2 + k = k + 1 + 1 by omega, List.getElem?_cons_succ, List.getElem?_cons_succ, List.getElem?_append_left (by rw [List.length_replicate]; exact hk), List.getElem?_replicate_of_lt hk]
theorem new0_any (w : World) :
    Calls Try.prog 8 #[] w fun e w' => e = .returned (.pointer (some ⟨w.heap.size + 1, 0, none⟩)) ∧ w' = (w.alloc (.map #[] 0)).alloc (.cells (zW.setIfInBounds 450 (.map (some w.heap.size))) 56) := by
  have hmm := @run_makeMap Try.prog
  have hz := zW_zero
  have hs := zW_size
  obtain ⟨Z, hZ⟩ : ∃ Z, zW = Z := ⟨_, rfl⟩
  rw [hZ] at hz hs ⊢
  clear hZ
  go_enter Try.func8, Try.ntmps8
  go_wp2
  go_ret
  exact ⟨rfl, rfl⟩
theorem new_any (w : World) :
    Calls Try.prog 8 #[] w fun e w' => ∃ p F, e = .returned (.pointer (some ⟨p, 0, none⟩)) ∧ WAt w' p F St.init ∧ (∀ g, F g → w.heap.size ≤ g) ∧ Below w.heap.size w w' := by
  refine (new0_any w).mono ?_
  rintro e w' ⟨rfl, rfl⟩
  obtain ⟨cur, hcur⟩ : ∃ cur, zW.setIfInBounds 450 (.map (some w.heap.size)) = cur := ⟨_, rfl⟩
  have g0 : cur[0]? = some (.int .i64 0) := by rw [← hcur, Array.getElem?_setIfInBounds_ne (by omega)]; rfl
  have g1 : cur[1]? = some (.int .i64 0) := by rw [← hcur, Array.getElem?_setIfInBounds_ne (by omega)]; rfl
  have gs : ∀ k, k < 448 → cur[2 + k]? = some (.slice none 0 0) := fun k hk => by rw [← hcur, Array.getElem?_setIfInBounds_ne (by omega)]; exact zW_slot k hk
  have g3 : cur[450]? = some (.map (some w.heap.size)) := by rw [← hcur, Array.getElem?_setIfInBounds_self_of_lt (by rw [zW_size]; omega)]
  rw [hcur]
  have hb : Below w.heap.size w ((w.alloc (.map #[] 0)).alloc (.cells cur 56)) := ((Below.refl _ w).alloc (Nat.le_refl _) _).alloc (by simp) _
  have hc : ∀ o, ((w.alloc (.map #[] 0)).alloc (.cells cur 56)).cell? ⟨w.heap.size + 1, o, none⟩ = cur[o]? := fun o => by
    simp
  refine ⟨w.heap.size + 1, Foot (w.heap.size + 1) (fun _ => .slice none 0 0) w.heap.size, rfl, ⟨Ok.init, _, fun _ => [], _, .map [], rfl, Sl.init, Mp.init, ?_⟩, ?_, hb⟩
  · refine ⟨(hc 0).trans g0, (hc 1).trans g1, fun k hk => (hc (2 + k)).trans (gs k hk), (hc 450).trans g3, fun o => by simp [go_sem], fun _ _ => World.ownsRow_nil _ _ _ _, fun _ _ _ _ _ g e => (by cases e), fun _ _ e => (by cases e), fun _ _ e => (by cases e), by omega, ?_⟩
    exact (World.ownsMap_made w Try.prog 3 (plainElem Try.prog 3)).alloc _
  · rintro g (rfl | rfl | ⟨k, -, e⟩)
    · omega
    · exact Nat.le_refl _
    · cases e
end Go.Proofs.Ythnkkkiobbnpmaa
