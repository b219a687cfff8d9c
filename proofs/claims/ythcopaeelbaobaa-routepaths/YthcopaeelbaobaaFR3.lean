/- Proved: RoutePaths answers true at every input, and leaves its arguments as they were. No condition beyond the row's own. -/
import Derived.Test.YthcopaeelbaobaaRows
import Derived.Test.YthcopaeelbaobaaRL4
import Derived.Test.YthcopaeelbaobaaRP7
import Derived.Test.YthcopaeelbaobaaFH5
import Derived.WalkKit
import Derived.ProofKit
import Derived.OpenShut
import Derived.ShutString
import Derived.ChangeOld
import Derived.Below
import Derived.SizedLaws
namespace Go.Proofs.Ythcopaeelbaobaa
open Go.ChangeShapes Go.WideShapes Go.ChangeAt Go.RowKit Go.Proofs.Hopf Go.Proofs.Rt
open Go.ChangeMaps (open_string shut_string)
set_option linter.unusedVariables false
set_option maxRecDepth 20000

namespace RoutePathsRow
theorem own : ownKnob Try.prog.godebug = none := by kernel_rfl
theorem laidOut : laidOutB Try.prog = true := by kernel_rfl
theorem isHop : IsHop Try.prog 23 := ⟨⟨_, _, _, _, _, Try.underlying23, rfl, rfl, rfl, rfl, rfl, Try.underlying3, Try.underlying3, Try.underlying3, Try.underlying3, Try.underlying9, by kernel_rfl, by kernel_rfl, by kernel_rfl, by kernel_rfl, by kernel_rfl⟩, by kernel_rfl⟩
theorem bytesHop : Try.prog.bytesOf 23 = 48 := by kernel_rfl

set_option maxRecDepth 100000 in
theorem lifted (os : Os) (started : os.Started) (H : Type) (enc : TypeId × Value → H) :
    ReturnsInHanded {} Try.checked os 5 .any (Rows.routePathsSpec.pre6 enc Try.prog Try.f5 Rows.routePathsRow.domain false) (Rows.routePathsSpec.post enc Try.prog Try.f5 false true false false) := by
  refine returnsInHanded_of_change_sized (C := Try.checked) own started (by kernel_rfl) Try.func5
    (ChangeSpec.witness6 (enc := enc) (C := Try.checked) false ⟨#[], #[.slice none 0 0], []⟩ 8 (by kernel_rfl) (by kernel_rfl) (by kernel_rfl) (by kernel_rfl)) ?_
  intro W base args ds gs before hval0 hW _ hsz0 _
  have hsz : (DataW.weightsEach Try.prog (Try.f5.params.toList ++ Rows.routePathsSpec.plain.varTypes Try.prog) (ds ++ gs)).all (· ≤ reachBytes) = true := hsz0
  clear hsz0
  have hval : ∀ (j : Nat) t v, Try.f5.params[j]? = some t → args[j]? = some v → Value.okWide Try.prog W .any base t v := hval0
  have hW' := hW
  obtain ⟨pl, q, hA0, hV, rfl, hfz, hnd⟩ := hW
  have hA : DataW.TrodAll enc Try.prog W 0 (fun _ => true) true Try.f5.params.toList args.toList ds pl := hA0
  rw [Try.params5] at hA hval hsz
  obtain ⟨v0, vs0, d0, ds0, p0, q0, hargs, rfl, rfl, h0, r0⟩ := trodAll_cons hA
  obtain ⟨rfl, rfl, rfl⟩ := trodAll_nil r0
  obtain rfl : args = #[v0] := by cases args; simp_all
  obtain ⟨rfl, rfl⟩ := trodVars_none hV
  have k0 := h0
  have lt0 : ∀ x ∈ p0, x.block < W.heap.size := by obtain ⟨m, hm⟩ := k0; exact DataW.trod_lt m _ _ _ hm
  obtain ⟨a0, len0, cap0, rfl⟩ := okWide_slice Try.underlying33 (hval 0 33 v0 rfl rfl)
  obtain ⟨hs0, hn0, hl0, hr0, hc0, ha0, hz0⟩ : ∃ hs : List Hp, hs.length = len0 ∧ len0 ≤ cap0 ∧ len0 * 48 ≤ 140737488351232 ∧ HopsAt W a0 hs ∧ (a0 = none → len0 = 0 ∧ cap0 = 0) ∧ ∀ x ∈ hs, x.id.size ≤ 140737488351232 := by
    obtain ⟨fuel, hf⟩ := h0
    rcases open_hops Try.underlying33 isHop hf with ⟨hcs, _⟩ | ⟨x, l, c, hs, spare, hcs, hlc, hln, hx, hcell⟩
    · simp [Value.cells] at hcs
      obtain ⟨rfl, rfl, rfl⟩ := hcs
      exact ⟨[], rfl, Nat.le_refl _, by omega, hops_none _ _, fun _ => ⟨rfl, rfl⟩, by simp⟩
    · simp [Value.cells] at hcs
      obtain ⟨rfl, rfl, rfl⟩ := hcs
      simp only at hx
      subst hx
      refine ⟨hs, hln, hlc, ?_, fun i hi => hcell i (by omega), (fun h => by cases h), sized_hops hsz (j := 0) Try.underlying33 isHop rfl rfl⟩
      have := sized_slice hsz (j := 0) (t := 33) (e := 23) rfl rfl Try.underlying33
      rw [bytesHop, List.length_map, hln] at this
      simp only [reachBytes] at this
      omega
  clear hA0 hval0
  refine (RoutePaths_walk encode_c path_c a0 hs0 len0 cap0 hn0 (by omega) W hc0 ha0 (fun x hx => by have := hz0 x hx; omega)).mono fun e W' ⟨he, bel⟩ => ?_
  subst he
  exact ⟨_, rfl, _, _, _, [], _, [], hW', trodAll_mk1 (shut_bool Try.underlying4 _), (trodAll_cons_mk (Below.trod laidOut (by kernel_rfl) (of_decide_eq_true (by kernel_rfl)) k0 bel lt0) trodAll_mk0), rfl, bel.frame _, fun h => by cases h⟩

end RoutePathsRow

theorem routePaths_holds : Rows.RoutePathsSaid :=
  OpenClaim.holds_of_wide 5 Try.f5 rfl rfl rfl rfl rfl rfl rfl ⟨rfl, rfl, rfl, rfl, rfl⟩ rfl rfl rfl rfl rfl (by kernel_rfl) Try.func5 (by kernel_rfl)
    (of_decide_eq_true (by kernel_rfl)) (by unfold Func.isWrapper; first | (rw [if_pos (by decide +kernel)]; kernel_rfl) | (rw [if_neg (by decide +kernel)]; exact ⟨rfl, rfl⟩))
    (fun os started H enc _ => RoutePathsRow.lifted os started H enc)
#print axioms routePaths_holds
end Go.Proofs.Ythcopaeelbaobaa
