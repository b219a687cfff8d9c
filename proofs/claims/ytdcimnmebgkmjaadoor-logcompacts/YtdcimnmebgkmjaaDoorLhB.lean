/- A log's records, told. -/
import Derived.Test.YtdcimnmebgkmjaaDoorLhA
namespace Go.Proofs.YtdcimnmebgkmjaaDoor
open Go.RowKit Go.Proofs.Fd Go.Proofs.Dk Go.Proofs.Lg
set_option maxRecDepth 20000

theorem owns_tx {w : World} {base : Nat} {v : Value} {l : List Bs} {n : Nat} (hn : l.length = n) (h : w.ownsRow base 9 1 v n (scs l)) : ∃ a cap, v = .slice a n cap ∧ TxAt w a l ∧ (a = none → n = 0 ∧ cap = 0) := by
  obtain ⟨h1, h2⟩ := h
  rcases h2 with ⟨rfl, h0⟩ | ⟨g, cap, cur, rfl, -, hh, -, -, -, ht⟩
  · subst h0
    have : l = [] := List.length_eq_zero_iff.1 hn
    subst this
    exact ⟨none, 0, rfl, TxAt.nil _ _, fun _ => ⟨rfl, rfl⟩⟩
  · refine ⟨_, cap, rfl, fun j hj => ⟨g, 0, rfl, ?_⟩, fun e => by cases e⟩
    have e : cur[j]? = (scs l)[j]? := by
      rw [← ht, List.getElem?_take_of_lt (by omega)]; simp
    rw [Nat.zero_add]
    unfold World.cell?
    rw [hh]
    simp only [Option.isSome_none]
    show cur[j]? = _
    rw [e]; simp [scs, hj]
theorem owns_zero {w : World} {base : Nat} {e : TypeId} {size n : Nat} {v : Value} {xs : List Value} (h : w.ownsRow base e size v n xs) : w.ownsRow 0 e size v n xs := by
  refine ⟨h.1, ?_⟩
  rcases h.2 with h2 | ⟨g, cap, cur, rfl, -, hh⟩
  · exact .inl h2
  · exact .inr ⟨g, cap, cur, rfl, Nat.zero_le _, hh⟩
theorem owns_laterS {w w' : World} {base : Nat} {v : Value} {n : Nat} {xs : List Value} (h : w.ownsRow base 9 1 v n xs) (hb : Below w.heap.size w w') : w'.ownsRow base 9 1 v n xs := by
  refine ⟨h.1, ?_⟩
  rcases h.2 with h2 | ⟨g, cap, cur, rfl, hg, hh, hr⟩
  · exact .inl h2
  · exact .inr ⟨g, cap, cur, rfl, hg, (hb.block g (Array.getElem?_eq_some_iff.1 hh).1).trans hh, hr⟩
theorem one_new (w : World) (x : Value) (t : TypeId) : ∀ j u, [x][j]? = some u → (w.alloc (.cells #[x] t)).cell? (Addr.add ⟨w.heap.size, 0, none⟩ j) = some u := fun j u h => by
  obtain rfl : j = 0 := by
    match j, h with
    | 0, _ => rfl
    | j + 1, h => simp at h
  simp at h
  subst h
  rw [Addr.add_mid, Nat.zero_add, World.cell?_alloc_new]
  rfl
set_option maxHeartbeats 2000000 in
theorem lrecords_any (q p fr mn g : Nat) (v : Value) (ts : List Bs) (tk : Nat) (m : Bs) (more : List Value) (w : World) (hn : ts.length ≤ 100000) (ht : ∀ t ∈ ts, t.length ≤ 2000) (h : Hid (Hf w q p fr mn g v ts tk m more)) :
    Calls Tryd.prog 12 #[.pointer (some ⟨q, 0, none⟩)] w fun e w' => ∃ u, e = .returned u ∧ w'.ownsRow w.heap.size 9 1 u ts.length (scs ts) ∧ Below w.heap.size w w' := by
  obtain ⟨i0, hi, hz0, hz1, hz2⟩ := info_parts infoS
  obtain ⟨a, cap, rfl, tx, -⟩ := owns_tx rfl h.out.row
  have HX : Hid (TxAt w a ts) := tx
  have k4 := h.out.bk.c 4 _ rfl
  have HT : Hid (∀ t ∈ ts, t.length ≤ 2000) := ht
  obtain ⟨n, hnn⟩ : ∃ n, ts.length = n := ⟨_, rfl⟩
  have HN : Hid (ts.length = n) := hnn
  rw [hnn] at k4 hn ⊢
  clear tx h ht hnn
  go_enter Tryd.func12, Tryd.ntmps12
  go_wp2
  go_loopw [3, 12] (fun sl i wr => ∃ k : Nat, k ≤ n ∧ i = .int .i64 (k : Int) ∧ Hid (wr.ownsRow w.heap.size 9 1 sl k (scs (ts.take k)) ∧ Below w.heap.size w wr)) (fun _ i _ => n - (intOf i).toNat)
  case atStart => exact ⟨0, Nat.zero_le _, rfl, ⟨rfl, .inl ⟨rfl, rfl⟩⟩, Below.refl _ _⟩
  case round =>
    obtain ⟨k, hk, rfl, J⟩ := hrel
    clear k4
    by_cases hlt : k < n
    · have hkl : k < ts.length := by rw [HN.out]; exact hlt
      have g1 : (k : Int) < (n : Int) := by omega
      obtain ⟨b, o, rfl, c0⟩ := (HX.out.later J.out.2) k hkl
      have ET : Hid (ts.take (k + 1) = ts.take k ++ [ts[k]]) := List.take_succ_eq_append_getElem hkl
      have hl := HT.out _ (List.getElem_mem hkl)
      obtain ⟨t, htt⟩ : ∃ t, ts[k] = t := ⟨_, rfl⟩
      rw [htt] at c0 ET hl
      have CL : Hid (∀ w, Calls Tryd.prog 36 #[.string (st t)] w fun e w' => e = .returned (.string (st t)) ∧ Below w.heap.size w w') := fun w => sclone_any (st t) (by rw [st_size]; omega) w
      have HSV : Hid (Value.string (st t) = sv t) := (rfl : Value.string (st t) = sv t)
      unfold sv at c0
      obtain ⟨T, hT⟩ : ∃ T, st t = T := ⟨_, rfl⟩
      rw [hT] at c0 CL HSV
      clear htt hT
      go_wp2_with fail
      refine Calls.mono (CL.out _) ?_
      rintro e w1 ⟨rfl, hb⟩
      have J1 : Hid (w1.ownsRow w.heap.size 9 1 u3 k (scs (ts.take k)) ∧ Below w.heap.size w w1) := ⟨owns_laterS J.out.1 hb, chain J.out.2 hb⟩
      clear hb J CL c0
      go_wp2_with (first
        | (at_builtin; refine wpList_append_own _ rfl _ _ 22 rfl w.heap.size 9 i0 (.string ⟨#[]⟩) 1 16 Tryd.underlying22 hi hz0 hz1 hz2 rfl (by decide) _ _ _ rfl (J1.out.1.alloc _) ⟨w1.heap.size, 0, none⟩ 1 1 [.string T] rfl rfl (one_new _ _ _) (by intro u hu; simp at hu; subst hu; rfl) (by unfold maxLen; omega) (by omega) (by have := J1.out.2.size; simp; omega) ?_; intro v1 w2 hown1 hgrow1 hnil1))
      go_roundw
      case rel =>
        refine ⟨k + 1, by omega, rfl, ?_, ?_⟩
        · rw [ET.out, scs_app]
          rw [HSV.out] at hown1
          exact hown1
        · exact (J1.out.2.alloc J1.out.2.size _).grown hgrow1 (by have := J1.out.2.size; simp; omega) (fun q hq => (J1.out.1.lt q hq).1)
      case measure => simp [intOf]; omega
    · obtain rfl : k = n := by omega
      have J2 : Hid (wr.ownsRow w.heap.size 9 1 u3 k (scs ts) ∧ Below w.heap.size w wr) := by
        have := J.out
        rw [List.take_of_length_le (by rw [HN.out]; exact Nat.le_refl _)] at this
        exact this
      clear J
      go_wp2
      go_ret
      exact ⟨u3, rfl, J2.out.1, J2.out.2⟩
end Go.Proofs.YtdcimnmebgkmjaaDoor
