/- Parts: GtH, GtL. -/
import Derived.Test.YtbogoheigbiegaaDoorZgG25
namespace Go.Proofs.YtbogoheigbiegaaDoor.Gat
open Go.RowKit Go.Proofs.Fd Go.Proofs.Ml Go.Proofs.Hs Go.Proofs.Gt
open Go.Proofs.YtbogoheigbiegaaDoor.Mai (mv MlAt Lists MlV SlAt enS chkE encode_any z32)
set_option maxRecDepth 20000
theorem GAt.seq {w : World} {p g : Nat} {L : List Si} (h : GAt w p g L) (i : Nat) (hi : i < L.length) (q : Int) : GAt (w.setCell ⟨g, i * 3 + 2, none⟩ (.int .i64 q)) p g (L.set i ⟨L[i].u, L[i].k, q⟩) := by
  obtain ⟨⟨a, cap, h1, h2⟩, s, ne, le, k⟩ := h
  refine ⟨⟨a, cap, ?_, ?_⟩, fun j hj => ?_, ne, by rw [List.length_set]; exact le, fun j hj => ?_⟩
  · rw [List.length_set]
    exact cell_setCell h1 (fun e => ne e.symm)
  · rcases h2 with rfl | h2
    · exact absurd hi (Nat.not_lt_zero _)
    · exact .inr h2
  · have hj' : j < L.length := by rw [List.length_set] at hj; exact hj
    obtain ⟨c0, c1, c2, c3⟩ := s j hj'
    have n0 : (⟨g, i * 3 + 2, none⟩ : Addr) ≠ ⟨g, j * 3, none⟩ := fun e => by have := congrArg Addr.off e; simp only at this; omega
    have n1 : (⟨g, i * 3 + 2, none⟩ : Addr) ≠ ⟨g, j * 3 + 1, none⟩ := fun e => by have := congrArg Addr.off e; simp only at this; omega
    refine ⟨?_, ?_, ?_, by simp [go_sem, c3]⟩
    · rw [World.cell?_setCell_other _ _ _ _ n0, c0, List.getElem_set]
      split
      · rename_i e; subst e; rfl
      · rfl
    · rw [World.cell?_setCell_other _ _ _ _ n1, c1, List.getElem_set]
      split
      · rename_i e; subst e; rfl
      · rfl
    · rw [List.getElem_set]
      split
      · rename_i e
        subst e
        simp [go_sem, c2]
      · rename_i e
        have n2 : (⟨g, i * 3 + 2, none⟩ : Addr) ≠ ⟨g, j * 3 + 2, none⟩ := fun z => by have := congrArg Addr.off z; simp only at this; omega
        rw [World.cell?_setCell_other _ _ _ _ n2, c2]
  · rw [List.getElem_set]
    split
    · exact k i hi
    · exact k j (by rw [List.length_set] at hj; exact hj)
theorem ret_e {V b : Int} (h : V = b) : Ending.returned (.int .i64 b) = Ending.returned (.int .i64 V) := by rw [h]
set_option maxHeartbeats 2000000 in
theorem Admit_any (p g : Nat) (L : List Si) (k u q : Int) (t tg : ByteArray) (a : Option Addr) (n c : Nat) (a2 : Option Addr) (n2 c2 : Nat) (ss : List Sl) (is : List ByteArray) (ht : tg.size ≤ 140737488355328) (w : World) (H : Hid (GAt w p g L)) (LL : Hid (Lists w a n c a2 n2 c2 ss is)) (K : Hid (Kh w)) :
    Calls Tryd.prog 14 #[.pointer (some ⟨p, 0, none⟩), mv k u q t tg a n c a2 n2 c2] w fun e w' => e = .returned (.int .i64 (adE L ⟨k, u, q, t, tg, ss, is⟩)) ∧ GAt w' p g (adS L ⟨k, u, q, t, tg, ss, is⟩) ∧ Bf (fun x => x = g) w w' := by
  obtain ⟨A, hA⟩ : ∃ A : Obj, .cells #[.int .i64 k, .int .i64 u, .int .i64 q, .string t, .string tg, .slice a n c, .slice a2 n2 c2] 38 = A := ⟨_, rfl⟩
  have BA : Hid (Below w.heap.size w (w.alloc A) ∧ w.heap.size < (w.alloc A).heap.size) := ⟨(Below.refl _ _).alloc (Nat.le_refl _) _, by simp⟩
  have CA : Hid (∀ w', Below (w.alloc A).heap.size (w.alloc A) w' → w'.cell? ⟨w.heap.size, 1, none⟩ = some (.int .i64 u) ∧ w'.cell? ⟨w.heap.size, 2, none⟩ = some (.int .i64 q) ∧ w'.cell? ⟨w.heap.size, 4, none⟩ = some (.string tg) ∧ MlAt w' w.heap.size k u q t tg a n c a2 n2 c2) := fun w' hb => by
    have h := MlAt.later (hA ▸ MlAt.new w 38 k u q t tg a n c a2 n2 c2 : MlAt (w.alloc A) w.heap.size k u q t tg a n c a2 n2 c2) hb
    exact ⟨h.2.2.1, h.2.2.2.1, h.2.2.2.2.2.1, h⟩
  have CK : Hid (∀ w2, Below w.heap.size w w2 → Calls Tryd.prog 31 #[mv k u q t tg a n c a2 n2 c2] w2 fun e w' => e = .returned (.int .i64 (chkE (okB ⟨k, u, q, t, tg, ss, is⟩))) ∧ Below w2.heap.size w2 w') := fun w2 h2 => Mai.check_any k u q t tg a n c a2 n2 c2 ss is w2 (LL.out.later h2)
  have UT : Hid (∀ w2, Below w.heap.size w w2 → Calls Tryd.prog 32 #[mv k u q t tg a n c a2 n2 c2] w2 fun e w' => e = .returned (.tuple #[.string (enS (bare ⟨k, u, q, t, tg, ss, is⟩)), .int .i64 (chkE (okB (bare ⟨k, u, q, t, tg, ss, is⟩)))]) ∧ Below w2.heap.size w2 w') := fun w2 h2 => untagged_any k u q t tg a n c a2 n2 c2 ss is w2 (LL.out.later h2)
  cases h1 : okB ⟨k, u, q, t, tg, ss, is⟩ with
  | false =>
    obtain ⟨s1, s2⟩ := ad_no (l := L) (m := ⟨k, u, q, t, tg, ss, is⟩) (by unfold mayB; rw [h1]; rfl)
    rw [s1, s2]
    rw [h1, show chkE false = 110 from rfl] at CK
    subst hA
    clear UT h1 s1 s2 K LL
    unfold mv at CK ⊢
    go_enter Tryd.func14, Tryd.ntmps14
    go_wp2_with fail
    refine Calls.mono (CK.out _ BA.out.1) ?_
    rintro e w1 ⟨rfl, hb⟩
    have B1 : Hid (Below w.heap.size w w1) := chain BA.out.1 hb
    clear hb CK BA CA
    go_wp2
    go_ret
    exact ⟨rfl, H.out.later B1.out, Bf.of B1.out⟩
  | true =>
  cases h2 : okB (bare ⟨k, u, q, t, tg, ss, is⟩) with
  | false =>
    obtain ⟨s1, s2⟩ := ad_no (l := L) (m := ⟨k, u, q, t, tg, ss, is⟩) (by unfold mayB; rw [h1, h2]; rfl)
    rw [s1, s2]
    rw [h1, show chkE true = 0 from rfl] at CK
    rw [h2, show chkE false = 110 from rfl] at UT
    generalize enS (bare ⟨k, u, q, t, tg, ss, is⟩) = S at UT
    subst hA
    clear h1 h2 s1 s2 K LL
    unfold mv at CK UT ⊢
    go_enter Tryd.func14, Tryd.ntmps14
    go_wp2_with fail
    refine Calls.mono (CK.out _ BA.out.1) ?_
    rintro e w1 ⟨rfl, hb⟩
    have B1 : Hid (Below w.heap.size w w1) := chain BA.out.1 hb
    obtain ⟨e1, e2, e3, f4, d0, d1, d2, d3, d4, d5, d6⟩ := CA.out w1 hb
    clear hb CK BA CA e1 e2 e3
    go_wp2_with fail
    refine Calls.mono (UT.out _ B1.out) ?_
    rintro e w2 ⟨rfl, hb⟩
    have B2 : Hid (Below w.heap.size w w2) := chain B1.out hb
    clear hb UT B1 f4 d0 d1 d2 d3 d4 d5 d6
    go_wp2
    go_ret
    exact ⟨rfl, H.out.later B2.out, Bf.of B2.out⟩
  | true =>
    have hm : mayB ⟨k, u, q, t, tg, ss, is⟩ = true := by unfold mayB; rw [h1, h2]; rfl
    rw [h1, show chkE true = 0 from rfl] at CK
    rw [h2, show chkE true = 0 from rfl] at UT
    have SN : Hid (∀ w2, Below w.heap.size w w2 → Calls Tryd.prog 33 #[.pointer (some ⟨p, 0, none⟩), .int .i64 u] w2 fun e w' => e = .returned (.pointer (ptrOf g L u)) ∧ Below w2.heap.size w2 w') := fun w2 hb => signer_any p g L u w2 (H.out.later hb)
    by_cases hi : at' L u < L.length
    · obtain ⟨i, hat⟩ : ∃ i, at' L u = i := ⟨_, rfl⟩
      rw [hat] at hi
      have SD : Hid (∀ w2, Below w.heap.size w w2 → Calls Tryd.prog 34 #[.pointer (some ⟨g, i * 3, none⟩), .string tg, .string (enS (bare ⟨k, u, q, t, tg, ss, is⟩))] w2 fun e w' => e = .returned (.bool (decide (tg = tgM L[i].k ⟨k, u, q, t, tg, ss, is⟩))) ∧ Below w2.heap.size w2 w') := fun w2 hb => by
        have r := signed_any g (i * 3) L[i].k tg (enS (bare ⟨k, u, q, t, tg, ss, is⟩)) (H.out.k i hi) ht (Nat.le_trans (en_le _) (by decide)) w2 ((H.out.later hb).s i hi).2.1 (K.out.later hb)
        rw [en_by h2] at r
        exact r
      have PT : ptrOf g L u = some ⟨g, i * 3, none⟩ := by unfold ptrOf; rw [hat, if_pos hi]
      rw [PT] at SN
      have EE : adE L ⟨k, u, q, t, tg, ss, is⟩ = (if decide (tg = tgM L[i].k ⟨k, u, q, t, tg, ss, is⟩) = true then (if q ≤ L[i].q then 170 else 0) else 200)
          ∧ adS L ⟨k, u, q, t, tg, ss, is⟩ = (if decide (tg = tgM L[i].k ⟨k, u, q, t, tg, ss, is⟩) = true then (if q ≤ L[i].q then L else L.set i ⟨L[i].u, L[i].k, q⟩) else L) := by
        have hi2 : at' L (⟨k, u, q, t, tg, ss, is⟩ : Ml).u < L.length := by show at' L u < _; rw [hat]; exact hi
        subst hat
        by_cases d1 : tg = tgM (L[at' L u]).k ⟨k, u, q, t, tg, ss, is⟩
        · by_cases d2 : q ≤ (L[at' L u]).q
          · obtain ⟨s1, s2⟩ := ad_seen hm hi2 d1 d2
            rw [s1, s2, if_pos (decide_eq_true d1), if_pos (decide_eq_true d1), if_pos d2, if_pos d2]; exact ⟨rfl, rfl⟩
          · obtain ⟨s1, s2⟩ := ad_ok hm hi2 d1 d2
            rw [s1, s2, if_pos (decide_eq_true d1), if_pos (decide_eq_true d1), if_neg d2, if_neg d2]; exact ⟨rfl, rfl⟩
        · obtain ⟨s1, s2⟩ := ad_other hm hi2 d1
          rw [s1, s2, decide_eq_false d1]; exact ⟨rfl, rfl⟩
      rw [EE.1, EE.2]
      obtain ⟨d, hd⟩ : ∃ d, decide (tg = tgM L[i].k ⟨k, u, q, t, tg, ss, is⟩) = d := ⟨_, rfl⟩
      rw [hd] at SD ⊢
      have GO : Hid (∀ w2, Below w.heap.size w w2 → Calls Tryd.prog 35 #[.pointer (some ⟨g, i * 3, none⟩), .int .i64 q] w2 fun e w' => e = .returned (.int .i64 (if q ≤ L[i].q then 170 else 0)) ∧ GAt w' p g (if q ≤ L[i].q then L else L.set i ⟨L[i].u, L[i].k, q⟩) ∧ Bf (fun x => x = g) w w') := fun w2 hb => by
        have hg := H.out.later hb
        obtain ⟨-, -, c2', f2'⟩ := hg.s i hi
        refine Calls.mono (goOn_any g (i * 3) q L[i].q w2 c2' f2') ?_
        rintro e w' ⟨rfl, rfl⟩
        refine ⟨rfl, ?_⟩
        by_cases z : q ≤ L[i].q
        · rw [if_pos z, if_pos z]; exact ⟨hg, Bf.of hb⟩
        · rw [if_neg z, if_neg z]; exact ⟨hg.seq i hi q, Bf.setCell (F := fun x => x = g) (Bf.of hb) (p := ⟨g, i * 3 + 2, none⟩) rfl _⟩
      have LD : Hid (L.length = L.length) := rfl
      generalize enS (bare ⟨k, u, q, t, tg, ss, is⟩) = S at UT SD
      obtain ⟨E1, hE1⟩ : ∃ E1 : Int, (if q ≤ L[i].q then (170 : Int) else 0) = E1 := ⟨_, rfl⟩
      obtain ⟨L1, hL1⟩ : ∃ L1 : List Si, (if q ≤ L[i].q then L else L.set i ⟨L[i].u, L[i].k, q⟩) = L1 := ⟨_, rfl⟩
      rw [hE1, hL1] at GO ⊢
      clear hE1 hL1 hd EE PT hat hm h1 h2 K LL LD
      subst hA
      unfold mv at CK UT ⊢
      go_enter Tryd.func14, Tryd.ntmps14
      go_wp2_with fail
      refine Calls.mono (CK.out _ BA.out.1) ?_
      rintro e w1 ⟨rfl, hb⟩
      have B1 : Hid (Below w.heap.size w w1) := chain BA.out.1 hb
      have C1 : Hid (Below (w.alloc _).heap.size (w.alloc _) w1) := hb
      obtain ⟨e1, e2, e3, f4, d0, d1, d2, d3, d4, d5, d6⟩ := CA.out w1 hb
      clear hb CK e1 e2 e3
      go_wp2_with fail
      refine Calls.mono (UT.out _ B1.out) ?_
      rintro e w2 ⟨rfl, hb⟩
      have B2 : Hid (Below w.heap.size w w2) := chain B1.out hb
      have C2 : Hid (Below (w.alloc _).heap.size (w.alloc _) w2) := chain C1.out hb
      clear hb UT B1 C1 f4 d0 d1 d2 d3 d4 d5 d6
      obtain ⟨e1, -, -, -⟩ := CA.out w2 C2.out
      go_wp2_with fail
      refine Calls.mono (SN.out _ B2.out) ?_
      rintro e w3 ⟨rfl, hb⟩
      have B3 : Hid (Below w.heap.size w w3) := chain B2.out hb
      have C3 : Hid (Below (w.alloc _).heap.size (w.alloc _) w3) := chain C2.out hb
      clear hb SN B2 C2 e1
      obtain ⟨-, -, e3, -⟩ := CA.out w3 C3.out
      go_wp2_with fail
      refine Calls.mono (SD.out _ B3.out) ?_
      rintro e w4 ⟨rfl, hb⟩
      have B4 : Hid (Below w.heap.size w w4) := chain B3.out hb
      have C4 : Hid (Below (w.alloc _).heap.size (w.alloc _) w4) := chain C3.out hb
      clear hb SD B3 C3 e3
      obtain ⟨-, e2, -, -⟩ := CA.out w4 C4.out
      cases d with
      | false =>
        clear GO CA C4
        go_wp2
        go_ret
        exact ⟨rfl, H.out.later B4.out, Bf.of B4.out⟩
      | true =>
        clear CA C4
        go_wp2_with fail
        refine Calls.mono (GO.out _ B4.out) ?_
        rintro e w5 ⟨rfl, h5, h6⟩
        have F5 : Hid _ := h5
        have F6 : Hid _ := h6
        clear h5 h6 GO B4 H
        go_wp2
        go_ret
        exact ⟨rfl, F5.out, F6.out⟩
    · obtain ⟨s1, s2⟩ := ad_none (l := L) hm hi
      rw [s1, s2]
      have PT : ptrOf g L u = none := by unfold ptrOf; rw [if_neg hi]
      rw [PT] at SN
      generalize enS (bare ⟨k, u, q, t, tg, ss, is⟩) = S at UT
      subst hA
      clear PT s1 s2 hm hi h1 h2 K LL
      unfold mv at CK UT ⊢
      go_enter Tryd.func14, Tryd.ntmps14
      go_wp2_with fail
      refine Calls.mono (CK.out _ BA.out.1) ?_
      rintro e w1 ⟨rfl, hb⟩
      have B1 : Hid (Below w.heap.size w w1) := chain BA.out.1 hb
      have C1 : Hid (Below (w.alloc _).heap.size (w.alloc _) w1) := hb
      obtain ⟨e1, e2, e3, f4, d0, d1, d2, d3, d4, d5, d6⟩ := CA.out w1 hb
      clear hb CK e1 e2 e3
      go_wp2_with fail
      refine Calls.mono (UT.out _ B1.out) ?_
      rintro e w2 ⟨rfl, hb⟩
      have B2 : Hid (Below w.heap.size w w2) := chain B1.out hb
      have C2 : Hid (Below (w.alloc _).heap.size (w.alloc _) w2) := chain C1.out hb
      clear hb UT B1 C1 f4 d0 d1 d2 d3 d4 d5 d6
      obtain ⟨e1, -, -, -⟩ := CA.out w2 C2.out
      clear CA C2
      go_wp2_with fail
      refine Calls.mono (SN.out _ B2.out) ?_
      rintro e w3 ⟨rfl, hb⟩
      have B3 : Hid (Below w.heap.size w w3) := chain B2.out hb
      clear hb SN B2 e1
      go_wp2
      go_ret
      exact ⟨rfl, H.out.later B3.out, Bf.of B3.out⟩
def laV (L : List Si) (u : Int) : Int := if h : at' L u < L.length then (L[at' L u]).q else 0
def laE (L : List Si) (u : Int) : Int := if at' L u < L.length then 0 else 200
set_option maxHeartbeats 1000000 in
theorem Last_any (p g : Nat) (L : List Si) (u : Int) (w : World) (H : Hid (GAt w p g L)) :
    Calls Tryd.prog 17 #[.pointer (some ⟨p, 0, none⟩), .int .i64 u] w fun e w' => e = .returned (.tuple #[.int .i64 (laV L u), .int .i64 (laE L u)]) ∧ Below w.heap.size w w' := by
  have SN : Hid _ := signer_any p g L u w H
  unfold laV laE
  by_cases hi : at' L u < L.length
  · rw [dif_pos hi, if_pos hi]
    have PT : ptrOf g L u = some ⟨g, at' L u * 3, none⟩ := by unfold ptrOf; rw [if_pos hi]
    rw [PT] at SN
    have CC : Hid (∀ w', Below w.heap.size w w' → w'.cell? ⟨g, at' L u * 3 + 2, none⟩ = some (.int .i64 (L[at' L u]).q)) := fun w' hb => ((H.out.later hb).s _ hi).2.2.1
    generalize (L[at' L u]).q = Q at CC ⊢
    generalize at' L u = i at *
    clear PT hi H
    go_enter Tryd.func17, Tryd.ntmps17
    go_wp2_with fail
    refine Calls.mono SN.out ?_
    rintro e w1 ⟨rfl, hb⟩
    have c2 := CC.out _ hb
    have B1 : Hid (Below w.heap.size w w1) := hb
    clear hb SN CC
    go_wp2
    go_ret2
    exact ⟨rfl, B1.out⟩
  · rw [dif_neg hi, if_neg hi]
    have PT : ptrOf g L u = none := by unfold ptrOf; rw [if_neg hi]
    rw [PT] at SN
    clear PT hi H
    go_enter Tryd.func17, Tryd.ntmps17
    go_wp2_with fail
    refine Calls.mono SN.out ?_
    rintro e w1 ⟨rfl, hb⟩
    have B1 : Hid (Below w.heap.size w w1) := hb
    clear hb SN
    go_wp2
    go_ret2
    exact ⟨rfl, B1.out⟩
set_option maxHeartbeats 1000000 in
theorem Has_any (p g : Nat) (L : List Si) (u : Int) (w : World) (H : Hid (GAt w p g L)) :
    Calls Tryd.prog 19 #[.pointer (some ⟨p, 0, none⟩), .int .i64 u] w fun e w' => e = .returned (.bool (decide (at' L u < L.length))) ∧ Below w.heap.size w w' := by
  have SN : Hid _ := signer_any p g L u w H
  by_cases hi : at' L u < L.length
  · rw [decide_eq_true hi]
    have PT : ptrOf g L u = some ⟨g, at' L u * 3, none⟩ := by unfold ptrOf; rw [if_pos hi]
    rw [PT] at SN
    generalize at' L u = i at *
    clear PT hi H
    go_enter Tryd.func19, Tryd.ntmps19
    go_wp2_with fail
    refine Calls.mono SN.out ?_
    rintro e w1 ⟨rfl, hb⟩
    have B1 : Hid (Below w.heap.size w w1) := hb
    clear hb SN
    go_wp2
    go_ret
    exact ⟨rfl, B1.out⟩
  · rw [decide_eq_false hi]
    have PT : ptrOf g L u = none := by unfold ptrOf; rw [if_neg hi]
    rw [PT] at SN
    clear PT hi H
    go_enter Tryd.func19, Tryd.ntmps19
    go_wp2_with fail
    refine Calls.mono SN.out ?_
    rintro e w1 ⟨rfl, hb⟩
    have B1 : Hid (Below w.heap.size w w1) := hb
    clear hb SN
    go_wp2
    go_ret
    exact ⟨rfl, B1.out⟩
end Go.Proofs.YtbogoheigbiegaaDoor.Gat
namespace Go.Proofs.Gt
open Go.Proofs.Ml Go.Proofs.Hs
def kk : ByteArray := ⟨#[116, 104, 105, 114, 116, 121, 45, 116, 119, 111, 32, 98, 121, 116, 101, 115, 32, 97, 114, 101, 32, 106, 117, 115, 116, 32, 97, 32, 107, 101, 121, 46]⟩
theorem kk_size : kk.size = 32 := rfl
def plM (u s : Int) : Ml := ⟨2, u, s, e0, e0, [], []⟩
def pl (key : ByteArray) (u s : Int) : Ml := with' (plM u s) (tgM key (plM u s))
theorem plM_ok {u s : Int} (h0 : 0 ≤ u) (h1 : u < 64) (h2 : 1 ≤ s) (h3 : s ≤ 2147483647) : okB (bare (plM u s)) = true := by
  have z : (mk (zr 32)).size = 32 := rfl
  show (numB _ && szB _ 0 32 0 0) = true
  unfold numB szB bare plM
  simp [z, h0, h1, h2, h3, size_e0]
theorem tgM_size (key : ByteArray) (m : Ml) : (tgM key m).size = 32 := by
  unfold tgM tgT
  show (hmac _ _).toArray.size = 32
  simp [hmac_len]
theorem pl_ok {key : ByteArray} {u s : Int} (h0 : 0 ≤ u) (h1 : u < 64) (h2 : 1 ≤ s) (h3 : s ≤ 2147483647) : mayB (pl key u s) = true := by
  unfold mayB
  have a : okB (bare (pl key u s)) = true := plM_ok h0 h1 h2 h3
  rw [a, Bool.and_true]
  have z := tgM_size key (plM u s)
  show (numB _ && szB _ 0 32 0 0) = true
  unfold numB szB pl with' plM
  unfold plM at z
  simp [z, h0, h1, h2, h3, size_e0]
theorem sg_pl {key : ByteArray} {u s : Int} (hk : key.size = 32) (h0 : 0 ≤ u) (h1 : u < 64) (h2 : 1 ≤ s) (h3 : s ≤ 2147483647) : sgE key (plM u s) = 0 ∧ sgV key (plM u s) = pl key u s := sg_ok hk (plM_ok h0 h1 h2 h3)
theorem ad_pull {L : List Si} {key : ByteArray} {u s : Int} (h0 : 0 ≤ u) (h1 : u < 64) (h2 : 1 ≤ s) (h3 : s ≤ 2147483647) (hi : at' L u < L.length) (hk : (L[at' L u]).k = key) :
    adE L (pl key u s) = (if s ≤ (L[at' L u]).q then 170 else 0) ∧ adS L (pl key u s) = (if s ≤ (L[at' L u]).q then L else L.set (at' L u) ⟨(L[at' L u]).u, key, s⟩) := by
  have hm := pl_ok (key := key) h0 h1 h2 h3
  have hu : (pl key u s).u = u := rfl
  have hg : (pl key u s).g = tgM ((L[at' L u]).k) (pl key u s) := by rw [hk]; rfl
  by_cases d : s ≤ (L[at' L u]).q
  · rw [if_pos d, if_pos d]
    exact ad_seen hm hi hg d
  · rw [if_neg d, if_neg d]
    have := ad_ok hm hi hg d
    subst hk
    exact this
theorem ad_one {key : ByteArray} {u s q : Int} (h0 : 0 ≤ u) (h1 : u < 64) (h2 : 1 ≤ s) (h3 : s ≤ 2147483647) :
    adE [⟨u, key, q⟩] (pl key u s) = (if s ≤ q then 170 else 0) ∧ adS [⟨u, key, q⟩] (pl key u s) = [⟨u, key, if s ≤ q then q else s⟩] := by
  have a : at' [(⟨u, key, q⟩ : Si)] u = 0 := if_pos rfl
  have h := ad_pull (L := [⟨u, key, q⟩]) (key := key) h0 h1 h2 h3 (by rw [a]; exact Nat.zero_lt_one) (by simp only [a]; rfl)
  simp only [a, List.getElem_cons_zero] at h
  refine ⟨h.1, h.2.trans ?_⟩
  by_cases d : s ≤ q
  · rw [if_pos d, if_pos d]
  · rw [if_neg d, if_neg d]; rfl
theorem chk_one (u : Int) (h0 : 0 ≤ u) (h1 : u < 64) : chk [⟨u, kk⟩] = (0, 0) := by
  rw [chk_short (by simp)]
  show chkN _ 1 0 = _
  have b : bad [⟨u, kk⟩] 0 = 0 := by
    unfold bad refE
    show (if u < 0 ∨ 64 ≤ u then 1 else if thereB [] u = true then 6 else if kk.size = 32 then 0 else 3) = 0
    rw [if_neg (by omega)]; rfl
  rw [chkN_ok 0 b]; rfl
theorem no_tag : ¬ mk (zr 32) = tgM kk ⟨2, 3, 9, e0, mk (zr 32), [], []⟩ := by decide +kernel
end Go.Proofs.Gt
namespace Go.Proofs.YtbogoheigbiegaaDoor.Gat
open Go.RowKit Go.Proofs.Fd Go.Proofs.Ml Go.Proofs.Hs Go.Proofs.Gt
open Go.Proofs.YtbogoheigbiegaaDoor.Mai (mv MlAt Lists MlV SlAt enS chkE encode_any z32)
set_option maxRecDepth 20000
theorem admitV (p g : Nat) (L : List Si) (v : Value) (m : Ml) (ht : m.g.size ≤ 140737488355328) (w : World) (H : Hid (GAt w p g L)) (V : Hid (MlV w v m)) (K : Hid (Kh w)) :
    Calls Tryd.prog 14 #[.pointer (some ⟨p, 0, none⟩), v] w fun e w' => e = .returned (.int .i64 (adE L m)) ∧ GAt w' p g (adS L m) ∧ Bf (fun x => x = g) w w' := by
  obtain ⟨a, n, c, a2, n2, c2, rfl, LL⟩ := V.out
  exact Admit_any p g L m.k m.u m.q m.t m.g a n c a2 n2 c2 m.sl m.ids ht w H LL K
structure Ow (w0 w : World) (p g : Nat) (L : List Si) : Prop where
  a : GAt w p g L
  b : Below w0.heap.size w0 w
  p : w0.heap.size ≤ p
  g : w0.heap.size ≤ g
  k0 : Kh w0
theorem Ow.k {w0 w : World} {p g : Nat} {L : List Si} (h : Ow w0 w p g L) : Kh w := h.k0.later h.b
theorem Ow.later {w0 w w' : World} {p g : Nat} {L : List Si} (h : Ow w0 w p g L) (hb : Below w.heap.size w w') : Ow w0 w' p g L := ⟨h.a.later hb, chain h.b hb, h.p, h.g, h.k0⟩
theorem Ow.drew {w0 w : World} {p g : Nat} {L : List Si} (h : Ow w0 w p g L) : Ow w0 w.drew p g L := h.later (Below.refl _ _).drew
theorem Ow.step {w0 w w' : World} {p g : Nat} {L L' : List Si} (h : Ow w0 w p g L) (ha : GAt w' p g L') (hb : Bf (fun x => x = g) w w') : Ow w0 w' p g L' :=
  ⟨ha, h.b.trans (hb.below (fun x e => by rw [e]; exact h.g) h.b.size), h.p, h.g, h.k0⟩
theorem newK (u : Int) (h0 : 0 ≤ u) (h1 : u < 64) (b : Nat) (w : World) (c0 : w.cell? ⟨b, 0, none⟩ = some (.int .i64 u)) (c1 : w.cell? ⟨b, 1, none⟩ = some (.string kk)) (w0 : World) (B : Below w0.heap.size w0 w) (K : Kh w0) :
    Calls Tryd.prog 10 #[.slice (some ⟨b, 0, none⟩) 1 1] w fun e w' => ∃ p g, e = .returned (.tuple #[.pointer (some ⟨p, 0, none⟩), .int .i64 0]) ∧ Ow w0 w' p g [⟨u, kk, 0⟩] := by
  refine Calls.mono (new_any (some ⟨b, 0, none⟩) 1 1 [⟨u, kk⟩] rfl (by decide) (Nat.le_refl 1) w (fun i hi => ?_)) ?_
  · obtain rfl : i = 0 := by simpa using hi
    exact ⟨b, 0, rfl, c0, c1⟩
  · rintro e w' ⟨hb, ⟨h, -⟩ | ⟨h, p, g, rfl, ha, hp, hg⟩⟩
    · rw [chk_one u h0 h1] at h; exact absurd rfl h
    · exact ⟨p, g, rfl, ha, chain B hb, Nat.le_trans B.size hp, Nat.le_trans B.size hg, K⟩
theorem res_pull (tmps : Array Value) (w : World) (b : Nat) (k u q : Int) (t g : ByteArray) (a : Option Addr) (n c : Nat) (a2 : Option Addr) (n2 c2 : Nat) (h4 : tmps.getD 4 undef = .pointer (some ⟨b, 0, none⟩)) (l : MlAt w b k u q t g a n c a2 n2 c2) :
    (results Tryd.f22 tmps).run Tryd.prog w = .ok (mv k u q t g a n c a2 n2 c2) w := by
  have l1 := run_loadVar_mid (P := Tryd.prog) w b 0 38 _ _ l.range Tryd.underlying38 rfl (by kernel_rfl)
  unfold results
  rw [Tryd.results22]
  have h4' : tmps[4]?.getD undef = .pointer (some ⟨b, 0, none⟩) := by simpa using h4
  simp [h4', l1, asAddr]
set_option maxHeartbeats 2000000 in
theorem pull_any (key : ByteArray) (s : Int) (hk : key.size = 32) (h2 : 1 ≤ s) (h3 : s ≤ 2147483647) (w : World) (K : Hid (Kh w)) :
    Calls Tryd.prog 22 #[.string key, .int .i64 s] w fun e w' => ∃ v, e = .returned v ∧ MlV w' v (pl key 3 s) ∧ Below w.heap.size w w' := by
  have SG : Hid (∀ w2, Below w.heap.size w w2 → Calls Tryd.prog 21 #[.string key, mv 2 3 s ⟨#[]⟩ ⟨#[]⟩ none 0 0 none 0 0] w2 fun e w' => ∃ v, e = .returned (.tuple #[v, .int .i64 0]) ∧ MlV w' v (pl key 3 s) ∧ Below w2.heap.size w2 w') := fun w2 hb => by
    have q := Sign_any key 2 3 s ⟨#[]⟩ ⟨#[]⟩ none 0 0 none 0 0 [] [] w2 (Lists.zero w2) (K.out.later hb)
    have e := sg_pl (u := 3) hk (by decide) (by decide) h2 h3
    unfold plM Ml.e0 at e
    rw [e.1, e.2] at q
    exact q
  obtain ⟨M, hM⟩ : ∃ M, pl key 3 s = M := ⟨_, rfl⟩
  have HM : Hid (M.sl = [] ∧ M.ids = []) := by rw [← hM]; exact ⟨rfl, rfl⟩
  rw [hM] at SG ⊢
  clear hM hk h2 h3 K
  have A0 : Hid (Below w.heap.size w (w.alloc zml) ∧ (w.alloc zml).heap[w.heap.size]? = some zml ∧ MlAt (w.alloc zml) w.heap.size 0 0 0 ⟨#[]⟩ ⟨#[]⟩ none 0 0 none 0 0) := ⟨(Below.refl _ _).alloc (Nat.le_refl _) _, Mai.heap_made _ _, MlAt.new w _ 0 0 0 ⟨#[]⟩ ⟨#[]⟩ none 0 0 none 0 0⟩
  unfold mv at SG
  go_enter Tryd.func22, Tryd.ntmps22
  go_wp2_with fail
  refine Calls.mono (SG.out _ A0.out.1) ?_
  rintro e w1 ⟨v, rfl, ⟨a, n, c, a2, n2, c2, rfl, LL⟩, hb⟩
  have M1 := MlAt.later A0.out.2.2 hb
  obtain ⟨mk', mu, mq, mt, mg, ms, mi⟩ := M
  obtain ⟨e1, e2⟩ := HM.out
  simp only at e1 e2 LL
  subst e1 e2
  have X1 : Hid (w1.heap[w.heap.size]? = some zml ∧ Below w.heap.size w w1 ∧ Lists w1 a n c a2 n2 c2 [] []) := ⟨(hb.block _ (by simp)).trans A0.out.2.1, chain A0.out.1 hb, LL⟩
  have W2 : Hid (Below w1.heap.size w1 (w1.alloc (.cells #[.int .i64 mk', .int .i64 mu, .int .i64 mq, .string mt, .string mg, .slice a n c, .slice a2 n2 c2] 38)) ∧ MlAt (w1.alloc (.cells #[.int .i64 mk', .int .i64 mu, .int .i64 mq, .string mt, .string mg, .slice a n c, .slice a2 n2 c2] 38)) w.heap.size 0 0 0 ⟨#[]⟩ ⟨#[]⟩ none 0 0 none 0 0) := by
    have hb := (Below.refl w1.heap.size w1).alloc (Nat.le_refl _) (.cells #[.int .i64 mk', .int .i64 mu, .int .i64 mq, .string mt, .string mg, .slice a n c, .slice a2 n2 c2] 38)
    exact ⟨hb, MlAt.later M1 hb⟩
  have ne : ¬ w.heap.size = w1.heap.size := by have := M1.lt; omega
  clear M1
  obtain ⟨f4, d0, d1, d2, d3, d4, d5, d6⟩ := W2.out.2
  clear hb SG A0 LL HM
  unfold mv
  go_wp2_with fail
  have FB := Mai.below_whole (chain X1.out.2.1 W2.out.1) (Nat.le_refl w.heap.size) (.int .i64 mk') (.int .i64 mu) (.int .i64 mq) (.string mt) (.string mg) (.slice a n c) (.slice a2 n2 c2)
  have FM := Mai.MlAt.whole W2.out.2 mk' mu mq mt mg a n c a2 n2 c2
  refine bodyPost_ret (v := mv mk' mu mq mt mg a n c a2 n2 c2) ?_ rfl ⟨_, rfl, ⟨a, n, c, a2, n2, c2, rfl, ?_⟩, FB⟩
  · exact res_pull _ _ w.heap.size _ _ _ _ _ _ _ _ _ _ _ (by kernel_rfl) FM
  · have hl := X1.out.2.2
    exact ⟨Mai.SlAt.nil _ _, Mai.StrAt.nil _ _, hl.ls, hl.li, hl.zs, hl.zi, hl.ms, hl.mi⟩
end Go.Proofs.YtbogoheigbiegaaDoor.Gat
