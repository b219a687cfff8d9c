/- The program's reader: Next, Fork. -/
import Derived.Test.YtbaajpefefedbaaFrU
namespace Go.Proofs.Ytbaajpefefedbaa
open Go.RowKit Go.Proofs.Fd Go.Proofs.Fr
set_option maxRecDepth 20000

theorem slice_mid (g o len cap k e a : Nat) (hk : k ≤ e) (he : e ≤ cap) (ha : (if cap = k then o else o + k) = a) (w : World) :
    (Instr.slice 59 (.slice (some ⟨g, o, none⟩) len cap) (some (.int .i64 (k : Int))) (some (.int .i64 (e : Int))) none).run Try.prog w = .ok (.slice (some ⟨g, a, none⟩) (e - k) (cap - k)) w := by
  have h1 : (k : Int) ≤ (e : Int) := by omega
  have h2 : (e : Int) ≤ (cap : Int) := by omega
  by_cases q : cap = k
  · rw [if_pos q] at ha
    subst ha
    subst q
    obtain rfl : e = cap := by omega
    simp [go_sem]
  · rw [if_neg q] at ha
    subst ha
    simp [go_sem, h1, h2, q]
theorem Buf.nilor {w : World} {g : Nat} {v : Value} {h : List UInt8} (b : Buf w g v h) {B : Nat} (hB : B ≤ g) (hw : B ≤ w.heap.size) : ∃ g2, Buf w g2 v h ∧ (v = .slice none 0 0 ∧ g2 = w.heap.size ∨ v ≠ .slice none 0 0 ∧ g2 < w.heap.size) ∧ B ≤ g2 := by
  by_cases q : v = .slice none 0 0
  · subst q; exact ⟨w.heap.size, b.nil, .inl ⟨rfl, rfl⟩, hw⟩
  · exact ⟨g, b, .inr ⟨q, b.lt q⟩, hB⟩
def noV : Value := .tuple #[.string ⟨#[]⟩, .bool false]
set_option maxHeartbeats 1000000 in
theorem next_no (p g : Nat) (r : Rd) (w : World) (R : Hid (RdAt w p g r)) (hz : r.h.length ≤ 1048576) (hh : ¬ has r.h) :
    Calls Try.prog 23 #[.pointer (some ⟨p, 0, none⟩)] w fun e w' => e = .returned noV ∧ Below w.heap.size w w' := by
  obtain ⟨v, s, V⟩ := R.out
  have L : Hid (∀ w', RdV w' p g v s r → Calls Try.prog 37 #[.pointer (some ⟨p, 0, none⟩)] w' fun e w'' => e = .returned (longV r.h) ∧ Below w'.heap.size w' w'') := fun w' h => long_any p g v s r w' h
  have HV : Hid (RdV w p g v s r) := V
  clear R
  by_cases q4 : 4 ≤ r.h.length
  · have e1 : longV r.h = .tuple #[.int .u32 (num4 r.h : Int), .bool true] := by
      unfold longV longN; rw [if_pos q4, decide_eq_true q4]
    have q5 : ¬ num4 r.h ≤ r.h.length - 4 := fun z => hh ⟨q4, z⟩
    obtain ⟨l, hl⟩ : ∃ l, num4 r.h = l := ⟨_, rfl⟩
    have q6 := num4_lt r.h
    rw [hl] at e1 q5 q6
    have z1 : IntKind.i64.wrap (l : Int) = (l : Int) := by rw [IntKind.wrap_i64]; omega
    have z2 : IntKind.i64.wrap ((r.h.length : Int) - 4) = (r.h.length : Int) - 4 := by rw [IntKind.wrap_i64]; omega
    have z3 : (r.h.length : Int) - 4 < (l : Int) := by omega
    rw [e1] at L
    clear e1 hl q5 q6
    obtain ⟨a, n, cap, rfl, rfl, -⟩ := V.2.2.2.2.1.is
    clear V
    go_enter Try.func23, Try.ntmps23
    go_wp2_with fail
    refine Calls.mono (L.out _ HV.out) ?_
    rintro e w1 ⟨rfl, hb⟩
    clear L
    have c0 := (HV.out.later hb).1
    have B1 : Hid (Below w.heap.size w w1) := hb
    clear hb HV
    go_wp2
    go_ret2
    exact ⟨rfl, B1.out⟩
  · have e1 : longV r.h = .tuple #[.int .u32 0, .bool false] := by
      unfold longV longN; rw [if_neg q4, decide_eq_false q4]; rfl
    rw [e1] at L
    clear e1 V
    go_enter Try.func23, Try.ntmps23
    go_wp2_with fail
    refine Calls.mono (L.out _ HV.out) ?_
    rintro e w1 ⟨rfl, hb⟩
    clear L
    have B1 : Hid (Below w.heap.size w w1) := hb
    clear hb HV
    go_wp2
    go_ret2
    exact ⟨rfl, B1.out⟩
theorem next_text (g o cap a l : Nat) (cur : Array Value) (r : Rd) (w : World) (hl : num4 r.h = l) (hh : has r.h) (hg : w.heap[g]? = some (.cells cur 5 (0, 0))) (hc : r.h.length ≤ cap) (ht : (cur.toList.drop o).take r.h.length = bcells r.h) (ha : (if cap = 4 then o else o + 4) = a) :
    (convert 59 9 (.slice (some ⟨g, a, none⟩) l (cap - 4))).run Try.prog w = .ok (.string ⟨(nextS r).toArray⟩) w := by
  obtain ⟨h4, hn⟩ := hh
  have e : (nextS r).length = l := by unfold nextS; rw [List.length_take, List.length_drop]; omega
  have := run_convert_bytes_back (P := Try.prog) w 59 9 5 ⟨g, a, none⟩ (cap - 4) (nextS r) Try.underlying59 Try.underlying5 Try.underlying9 (fun j hj => by
    have q : ¬ cap = 4 := by omega
    rw [if_neg q] at ha
    have h5 : 4 + j < r.h.length := by omega
    rw [← ha, add_at, Nat.add_assoc, buf_cell hg ht (4 + j) h5 h5]
    have : (nextS r)[j] = r.h[4 + j] := by simp [nextS]
    rw [this])
  rw [e] at this
  exact this
set_option maxHeartbeats 1000000 in
theorem next_yes (p g : Nat) (r : Rd) (w : World) (R : Hid (RdAt w p g r)) (hz : r.h.length ≤ 1048576) (hh : has r.h) :
    Calls Try.prog 23 #[.pointer (some ⟨p, 0, none⟩)] w fun e w' => e = .returned (.tuple #[.string ⟨(nextS r).toArray⟩, .bool true]) ∧ (∃ g', RdAt w' p g' (nextR r) ∧ (g' = g ∨ g' = p ∨ w.heap.size ≤ g')) ∧ But p g w w' := by
  obtain ⟨v, s, V⟩ := R.out
  have L : Hid (∀ w', RdV w' p g v s r → Calls Try.prog 37 #[.pointer (some ⟨p, 0, none⟩)] w' fun e w'' => e = .returned (longV r.h) ∧ Below w'.heap.size w' w'') := fun w' h => long_any p g v s r w' h
  have HV : Hid (RdV w p g v s r) := V
  clear R
  have e1 : longV r.h = .tuple #[.int .u32 (num4 r.h : Int), .bool true] := by
    unfold longV longN; rw [if_pos hh.1, decide_eq_true hh.1]
  obtain ⟨l, hl⟩ : ∃ l, num4 r.h = l := ⟨_, rfl⟩
  obtain ⟨E, hE⟩ : ∃ E, 4 + l = E := ⟨_, rfl⟩
  have h4 := hh.1
  have q6 := num4_lt r.h
  have q5 := hh.2
  rw [hl] at e1 q5 q6
  have z1 : IntKind.i64.wrap (l : Int) = (l : Int) := by rw [IntKind.wrap_i64]; omega
  have z2 : IntKind.i64.wrap ((r.h.length : Int) - 4) = (r.h.length : Int) - 4 := by rw [IntKind.wrap_i64]; omega
  have z3 : ¬ (r.h.length : Int) - 4 < (l : Int) := by omega
  have z4 : IntKind.i64.wrap (4 + (l : Int)) = (E : Int) := by rw [IntKind.wrap_i64]; omega
  rw [e1] at L
  rcases V.2.2.2.2.1 with ⟨rfl, e⟩ | ⟨o, cap, cur, rfl, hg, hc, hm, hs, ht⟩
  · rw [e] at h4; simp at h4
  obtain ⟨a, ha⟩ : ∃ a, (if cap = 4 then o else o + 4) = a := ⟨_, rfl⟩
  have SL := slice_mid g o r.h.length cap 4 E a (by omega) (by omega) ha
  rw [show E - 4 = l by omega] at SL
  have TX : Hid (∀ w', w'.heap[g]? = some (.cells cur 5 (0, 0)) → (convert 59 9 (.slice (some ⟨g, a, none⟩) l (cap - 4))).run Try.prog w' = .ok (.string ⟨(nextS r).toArray⟩) w') := fun w' hg' => next_text g o cap a l cur r w' hl hh hg' hc ht ha
  have NR : Hid (nextR r = Fr.look ⟨r.h.drop E, r.b⟩ ∧ 1 ≤ E ∧ E ≤ r.h.length ∧ w.heap[g]? = some (.cells cur 5 (0, 0))) := ⟨by unfold nextR; rw [hl, hE], by omega, by omega, hg⟩
  obtain ⟨C, hC⟩ : ∃ C, cap - 4 = C := ⟨_, rfl⟩
  rw [hC] at SL TX
  obtain ⟨S, hS⟩ : ∃ S, (⟨(nextS r).toArray⟩ : ByteArray) = S := ⟨_, rfl⟩
  rw [hS] at TX ⊢
  rw [NR.out.1]
  clear e1 hl q6 q5 h4 hE V hg hc hm hs ht hC hS hh ha
  have SL' : ∀ w, (Instr.slice 59 (.slice (some ⟨g, o, none⟩) r.h.length cap) (some (.int .i64 4)) (some (.int .i64 (E : Int))) none).run Try.prog w = .ok (.slice (some ⟨g, a, none⟩) l C) w := SL
  clear SL
  go_enter Try.func23, Try.ntmps23
  go_wp2_with fail
  refine Calls.mono (L.out _ HV.out) ?_
  rintro e w1 ⟨rfl, hb⟩
  clear L
  have c0 := (HV.out.later hb).1
  have V1 : Hid (RdV w1 p g (.slice (some ⟨g, o, none⟩) r.h.length cap) s r) := HV.out.later hb
  have B1 : Hid (But p g w w1) := But.of hb
  have CV := TX.out w1 (by rw [hb.block g (Array.getElem?_eq_some_iff.1 NR.out.2.2.2).1]; exact NR.out.2.2.2)
  clear hb HV TX
  go_wp2_with fail
  refine Calls.mono (drop_any p g r E w1 ⟨_, _, V1.out⟩ NR.out.2.1 NR.out.2.2.1 hz) ?_
  rintro e w2 ⟨rfl, ⟨g2, hr2, hg2⟩, hb2⟩
  have R2 : Hid (RdAt w2 p g2 ⟨r.h.drop E, r.b⟩) := hr2
  have B2 : Hid (But p g w w2 ∧ (g2 = g ∨ g2 = p ∨ w.heap.size ≤ g2)) := ⟨B1.out.trans hb2 (.inl rfl), hg2.imp id (Or.imp id (fun z => Nat.le_trans B1.out.size z))⟩
  clear hr2 hg2 hb2 V1 B1 CV SL' c0
  go_wp2_with fail
  refine Calls.mono (look_any p g2 ⟨r.h.drop E, r.b⟩ w2 R2.out) ?_
  rintro e w3 ⟨rfl, ⟨g3, hr3, hg3⟩, hb3⟩
  have FI : Hid ((∃ g', RdAt w3 p g' (Fr.look ⟨r.h.drop E, r.b⟩) ∧ (g' = g ∨ g' = p ∨ w.heap.size ≤ g')) ∧ But p g w w3) := ⟨⟨g3, hr3, by rcases hg3 with rfl | rfl; (· exact B2.out.2); exact .inr (.inl rfl)⟩, B2.out.1.trans hb3 B2.out.2⟩
  clear hr3 hb3 hg3 B2 R2
  go_wp2
  go_ret2
  exact ⟨rfl, FI.out⟩
end Go.Proofs.Ytbaajpefefedbaa
