/- FieldSums and FieldProducts answer true. -/
import Derived.Test.YtmoeijgblhfpdaaR10
import Derived.OwnWalk
namespace Go.Proofs.Ytmoeijgblhfpdaa
open Go.RowKit Go.Proofs.Fd

theorem info_string : (Try.prog.info? 9).map (fun i => (i.zero, i.size, i.bytes)) = some (some (.string ByteArray.empty), 1, 16) := by kernel_rfl

theorem strAt_owns {w : World} {base : Nat} {g : Nat} {cur : Array Value} {ss : List ByteArray} (hh : w.heap[g]? = some (.cells cur base (0, 0))) (hx : cur.toList.take (ss.length * 1) = ss.map Value.string) : StrAt w (some ⟨g, 0, none⟩) ss := by
  intro i hi
  refine ⟨g, 0, rfl, ?_⟩
  have h1 : (cur.toList.take (ss.length * 1))[i]? = (ss.map Value.string)[i]? := by rw [hx]
  rw [List.getElem?_take, if_pos (by omega), List.getElem?_map, List.getElem?_eq_getElem hi] at h1
  have h2 : w.cell? ⟨g, i, none⟩ = cur[i]? := by simp [World.cell?, hh]
  rw [Nat.zero_add, h2, ← Array.getElem?_toList, h1]
  rfl

set_option maxHeartbeats 2000000 in
theorem FieldSums_core (a : Option Addr) (ss : List ByteArray) (n cap : Nat) (x : ByteArray) (e : Int) (hn : Hid (ss.length = n)) (hr : n * 16 ≤ 140737488351232) (w : World) (hc : Hid (StrAt w a ss)) (ha : Hid (a = none → n = 0))
    (F : Hid (∀ a cap w, n ≤ cap → cap ≤ maxLen → StrAt w a ss → (∃ g, a = some ⟨g, 0, none⟩) → Calls Try.prog 17 #[.slice a n cap] w fun r w' => r = .returned (.tuple #[.string x, .int .i64 e]) ∧ Below w.heap.size w w'))
    (G : Hid (∀ a cap w, StrAt w a ss → Calls Try.prog 18 #[.slice a n cap] w fun r w' => r = .returned (.tuple #[.string x, .int .i64 e]) ∧ Below w.heap.size w w')) :
    Calls Try.prog 4 #[.slice a n cap] w fun e w' => e = .returned (.bool true) ∧ Below w.heap.size w w' := by
  cases a with
  | none =>
    obtain rfl := ha.out rfl
    go_enter Try.func4, Try.ntmps4
    go_wp2_with fail
    refine Calls.mono (F.out _ 0 _ (Nat.le_refl 0) (Nat.zero_le _) (fun i hi => by have := hn.out; omega) ⟨_, rfl⟩) ?_
    rintro r w1 ⟨rfl, hb⟩
    have B1 : Hid (Below w.heap.size w w1) := chain ((Below.refl _ _).alloc (Nat.le_refl _) _) hb
    clear hb
    go_wp2_with fail
    refine Calls.mono (G.out none cap _ (fun i hi => by have := hn.out; omega)) ?_
    rintro r w2 ⟨rfl, hb⟩
    have B2 : Hid (Below w.heap.size w w2) := chain B1.out hb
    clear hb
    go_wp2_with fail
    refine Calls.mono (works_any _) ?_
    rintro r w3 ⟨rfl, hb⟩
    have B3 : Hid (Below w.heap.size w w3) := chain B2.out hb
    clear hb
    go_wp2
    go_ret
    exact ⟨rfl, B3.out⟩
  | some ad =>
    obtain ⟨i0, hi, hz0, hz1, hz2⟩ := info_parts info_string
    have hown : Hid ((w.alloc (.cells #[] 9)).ownsRow w.heap.size 9 1 (.slice (some ⟨w.heap.size, 0, none⟩) 0 0) 0 []) := World.ownsRow_made w #[] 0 (Nat.le_refl _) (Nat.zero_le _) rfl
    have HI : Hid (Try.prog.info? 9 = some i0 ∧ i0.zero = some (.string ByteArray.empty) ∧ i0.size = 1 ∧ i0.bytes = 16) := ⟨hi, hz0, hz1, hz2⟩
    clear hi hz0 hz1 hz2
    go_enter Try.func4, Try.ntmps4
    go_wp2_with (at_builtin; refine wpList_append_own _ rfl _ _ 29 rfl w.heap.size 9 i0 (.string ByteArray.empty) 1 16 Try.underlying29 HI.out.1 HI.out.2.1 HI.out.2.2.1 HI.out.2.2.2 rfl (by decide) _ _ _ rfl hown.out ad n cap (ss.map Value.string) rfl ?c0 ?c1 ?c2 ?c3 ?c4 ?c5 ?_)
    case c0 => have := hn.out; simp; omega
    case c1 =>
      intro j u hj
      rw [List.getElem?_map] at hj
      by_cases hjl : j < ss.length
      · rw [List.getElem?_eq_getElem hjl] at hj
        obtain ⟨b', o', e', hx⟩ := hc.out j hjl
        obtain rfl : ad = ⟨b', o', none⟩ := by simpa using e'
        simp at hj
        subst hj
        have q : Addr.add ⟨b', o', none⟩ j = ⟨b', o' + j, none⟩ := by first | (simp [Addr.add]; done) | (simp [Addr.add]; intro h; simp [h])
        rw [q]
        exact cell_alloc hx
      · rw [List.getElem?_eq_none (by omega)] at hj; cases hj
    case c2 => intro u hu; obtain ⟨s, _, rfl⟩ := List.mem_map.1 hu; rfl
    case c3 => unfold maxLen; omega
    case c4 => omega
    case c5 => simp
    · intro v' w1 hown' hgrow hnil
      have BL : Hid (Below w.heap.size w w1) := Below.grown ((Below.refl _ _).alloc (Nat.le_refl _) _) hgrow (by simp) (fun k hk => by simp [Value.ownBlock] at hk; omega)
      try simp only [Nat.zero_add, List.nil_append] at hown'
      obtain ⟨hlen, ⟨hv, hn0⟩ | ⟨g, cap', cur, rfl, hg, hh, hnc, hcm, hcs, htake⟩⟩ := hown'
      · exact (hnil hv).elim
      · have S1 : Hid (StrAt w1 (some ⟨g, 0, none⟩) ss) := strAt_owns hh (by rw [hn.out]; exact htake)
        have S2 : Hid (StrAt w1 (some ad) ss) := fun i hi => by
          obtain ⟨b', o', e', hx⟩ := hc.out i hi
          exact ⟨b', o', e', cell_later BL.out hx⟩
        have HC : Hid (n ≤ cap' ∧ cap' ≤ maxLen) := ⟨hnc, hcm⟩
        clear hlen hg hh hnc hcm hcs htake hgrow hnil
        go_wp2_with fail
        refine Calls.mono (F.out _ cap' _ HC.out.1 HC.out.2 S1.out ⟨_, rfl⟩) ?_
        rintro r w2 ⟨rfl, hb⟩
        have B1 : Hid (Below w.heap.size w w2 ∧ StrAt w2 (some ad) ss) := ⟨chain BL.out hb, S2.out.later hb⟩
        clear hb
        go_wp2_with fail
        refine Calls.mono (G.out _ cap _ B1.out.2) ?_
        rintro r w3 ⟨rfl, hb⟩
        have B2 : Hid (Below w.heap.size w w3) := chain B1.out.1 hb
        clear hb
        go_wp2_with fail
        refine Calls.mono (works_any _) ?_
        rintro r w4 ⟨rfl, hb⟩
        have B3 : Hid (Below w.heap.size w w4) := chain B2.out hb
        clear hb
        go_wp2
        go_ret
        exact ⟨rfl, B3.out⟩

set_option maxHeartbeats 2000000 in
theorem FieldProducts_core (a : Option Addr) (ss : List ByteArray) (n cap : Nat) (x : ByteArray) (e : Int) (hn : Hid (ss.length = n)) (hr : n * 16 ≤ 140737488351232) (w : World) (hc : Hid (StrAt w a ss)) (ha : Hid (a = none → n = 0))
    (F : Hid (∀ a cap w, n ≤ cap → cap ≤ maxLen → StrAt w a ss → (∃ g, a = some ⟨g, 0, none⟩) → Calls Try.prog 19 #[.slice a n cap] w fun r w' => r = .returned (.tuple #[.string x, .int .i64 e]) ∧ Below w.heap.size w w'))
    (G : Hid (∀ a cap w, StrAt w a ss → Calls Try.prog 20 #[.slice a n cap] w fun r w' => r = .returned (.tuple #[.string x, .int .i64 e]) ∧ Below w.heap.size w w')) :
    Calls Try.prog 5 #[.slice a n cap] w fun e w' => e = .returned (.bool true) ∧ Below w.heap.size w w' := by
  cases a with
  | none =>
    obtain rfl := ha.out rfl
    go_enter Try.func5, Try.ntmps5
    go_wp2_with fail
    refine Calls.mono (F.out _ 0 _ (Nat.le_refl 0) (Nat.zero_le _) (fun i hi => by have := hn.out; omega) ⟨_, rfl⟩) ?_
    rintro r w1 ⟨rfl, hb⟩
    have B1 : Hid (Below w.heap.size w w1) := chain ((Below.refl _ _).alloc (Nat.le_refl _) _) hb
    clear hb
    go_wp2_with fail
    refine Calls.mono (G.out none cap _ (fun i hi => by have := hn.out; omega)) ?_
    rintro r w2 ⟨rfl, hb⟩
    have B2 : Hid (Below w.heap.size w w2) := chain B1.out hb
    clear hb
    go_wp2_with fail
    refine Calls.mono (works_any _) ?_
    rintro r w3 ⟨rfl, hb⟩
    have B3 : Hid (Below w.heap.size w w3) := chain B2.out hb
    clear hb
    go_wp2
    go_ret
    exact ⟨rfl, B3.out⟩
  | some ad =>
    obtain ⟨i0, hi, hz0, hz1, hz2⟩ := info_parts info_string
    have hown : Hid ((w.alloc (.cells #[] 9)).ownsRow w.heap.size 9 1 (.slice (some ⟨w.heap.size, 0, none⟩) 0 0) 0 []) := World.ownsRow_made w #[] 0 (Nat.le_refl _) (Nat.zero_le _) rfl
    have HI : Hid (Try.prog.info? 9 = some i0 ∧ i0.zero = some (.string ByteArray.empty) ∧ i0.size = 1 ∧ i0.bytes = 16) := ⟨hi, hz0, hz1, hz2⟩
    clear hi hz0 hz1 hz2
    go_enter Try.func5, Try.ntmps5
    go_wp2_with (at_builtin; refine wpList_append_own _ rfl _ _ 29 rfl w.heap.size 9 i0 (.string ByteArray.empty) 1 16 Try.underlying29 HI.out.1 HI.out.2.1 HI.out.2.2.1 HI.out.2.2.2 rfl (by decide) _ _ _ rfl hown.out ad n cap (ss.map Value.string) rfl ?c0 ?c1 ?c2 ?c3 ?c4 ?c5 ?_)
    case c0 => have := hn.out; simp; omega
    case c1 =>
      intro j u hj
      rw [List.getElem?_map] at hj
      by_cases hjl : j < ss.length
      · rw [List.getElem?_eq_getElem hjl] at hj
        obtain ⟨b', o', e', hx⟩ := hc.out j hjl
        obtain rfl : ad = ⟨b', o', none⟩ := by simpa using e'
        simp at hj
        subst hj
        have q : Addr.add ⟨b', o', none⟩ j = ⟨b', o' + j, none⟩ := by first | (simp [Addr.add]; done) | (simp [Addr.add]; intro h; simp [h])
        rw [q]
        exact cell_alloc hx
      · rw [List.getElem?_eq_none (by omega)] at hj; cases hj
    case c2 => intro u hu; obtain ⟨s, _, rfl⟩ := List.mem_map.1 hu; rfl
    case c3 => unfold maxLen; omega
    case c4 => omega
    case c5 => simp
    · intro v' w1 hown' hgrow hnil
      have BL : Hid (Below w.heap.size w w1) := Below.grown ((Below.refl _ _).alloc (Nat.le_refl _) _) hgrow (by simp) (fun k hk => by simp [Value.ownBlock] at hk; omega)
      try simp only [Nat.zero_add, List.nil_append] at hown'
      obtain ⟨hlen, ⟨hv, hn0⟩ | ⟨g, cap', cur, rfl, hg, hh, hnc, hcm, hcs, htake⟩⟩ := hown'
      · exact (hnil hv).elim
      · have S1 : Hid (StrAt w1 (some ⟨g, 0, none⟩) ss) := strAt_owns hh (by rw [hn.out]; exact htake)
        have S2 : Hid (StrAt w1 (some ad) ss) := fun i hi => by
          obtain ⟨b', o', e', hx⟩ := hc.out i hi
          exact ⟨b', o', e', cell_later BL.out hx⟩
        have HC : Hid (n ≤ cap' ∧ cap' ≤ maxLen) := ⟨hnc, hcm⟩
        clear hlen hg hh hnc hcm hcs htake hgrow hnil
        go_wp2_with fail
        refine Calls.mono (F.out _ cap' _ HC.out.1 HC.out.2 S1.out ⟨_, rfl⟩) ?_
        rintro r w2 ⟨rfl, hb⟩
        have B1 : Hid (Below w.heap.size w w2 ∧ StrAt w2 (some ad) ss) := ⟨chain BL.out hb, S2.out.later hb⟩
        clear hb
        go_wp2_with fail
        refine Calls.mono (G.out _ cap _ B1.out.2) ?_
        rintro r w3 ⟨rfl, hb⟩
        have B2 : Hid (Below w.heap.size w w3) := chain B1.out.1 hb
        clear hb
        go_wp2_with fail
        refine Calls.mono (works_any _) ?_
        rintro r w4 ⟨rfl, hb⟩
        have B3 : Hid (Below w.heap.size w w4) := chain B2.out hb
        clear hb
        go_wp2
        go_ret
        exact ⟨rfl, B3.out⟩

theorem FieldSums_walk (a : Option Addr) (ss : List ByteArray) (n cap : Nat) (hn : ss.length = n) (hr : n * 16 ≤ 140737488351232) (w : World) (hc : StrAt w a ss) (ha : a = none → n = 0) :
    Calls Try.prog 4 #[.slice a n cap] w fun e w' => e = .returned (.bool true) ∧ Below w.heap.size w w' := by
  by_cases h : chkList ss = 0
  · exact FieldSums_core a ss n cap _ _ hn hr w hc ha (fun a cap w _ _ hw _ => Add_ok a ss n cap hn (by omega) h w hw) (fun a cap w hw => rAdd_ok a ss n cap hn (by omega) h w hw)
  · exact FieldSums_core a ss n cap _ _ hn hr w hc ha (fun a cap w _ _ hw _ => Add_no a ss n cap hn (by omega) h w hw) (fun a cap w hw => rAdd_no a ss n cap hn (by omega) h w hw)

theorem FieldProducts_walk (a : Option Addr) (ss : List ByteArray) (n cap : Nat) (hn : ss.length = n) (hr : n * 16 ≤ 140737488351232) (w : World) (hc : StrAt w a ss) (ha : a = none → n = 0) :
    Calls Try.prog 5 #[.slice a n cap] w fun e w' => e = .returned (.bool true) ∧ Below w.heap.size w w' := by
  by_cases h : chkList ss = 0
  · refine FieldProducts_core a ss n cap _ _ hn hr w hc ha (fun a cap w h1 h2 hw hg => ?_) (fun a cap w hw => rMul_ok a ss n cap hn (by omega) h w hw)
    obtain ⟨g, rfl⟩ := hg
    cases ss with
    | nil =>
      obtain rfl : n = 0 := by simpa using hn.symm
      exact Mul_nil _ _ w
    | cons x r =>
      have hx := chkAll_mem (chkList_zero h).1 x (by simp)
      have q := Mul_ok g 0 (x :: r) n cap hn (by omega) h1 (by unfold maxLen at h2; omega) (by simp at hn; omega) h w hw
      rw [show mulFrom (num ((x :: r).headD ByteArray.empty).data.toList) (x :: r).tail = mulFrom 1 (x :: r) from (mulFrom_cons x r (chk_zero hx).2).symm] at q
      exact q
  · exact FieldProducts_core a ss n cap _ _ hn hr w hc ha (fun a cap w _ _ hw _ => Mul_no a ss n cap hn (by omega) h w hw) (fun a cap w hw => rMul_no a ss n cap hn (by omega) h w hw)

end Go.Proofs.Ytmoeijgblhfpdaa
