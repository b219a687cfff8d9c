/- The program's reader: what was told is dropped; chunks are taken. -/
import Derived.Test.YtbaajpefefedbaaFrC
namespace Go.Proofs.Ytbaajpefefedbaa
open Go.RowKit Go.Proofs.Fd Go.Proofs.Fr
set_option maxRecDepth 20000

theorem Buf.drop {w : World} {g o cap : Nat} {cur : Array Value} {h : List UInt8} (n : Nat) (hn : n ≤ h.length) (hg : w.heap[g]? = some (.cells cur 5 (0, 0))) (hc : h.length ≤ cap) (hm : cap ≤ maxLen) (hs : o + cap ≤ cur.size) (ht : (cur.toList.drop o).take h.length = bcells h) (a : Nat) (ha : a = o + n ∨ a = o ∧ cap = n) :
    Buf w g (.slice (some ⟨g, a, none⟩) (h.length - n) (cap - n)) (h.drop n) := by
  refine .inr ⟨a, cap - n, cur, by rw [List.length_drop], hg, by rw [List.length_drop]; omega, by omega, by omega, ?_⟩
  rw [List.length_drop]
  rcases ha with rfl | ⟨rfl, rfl⟩
  · have : bcells (h.drop n) = (bcells h).drop n := by simp [bcells]
    rw [this, ← ht, List.drop_take, List.drop_drop]
  · rw [show h.length - cap = 0 by omega, List.take_zero, List.drop_of_length_le hc]; rfl
theorem slice_from (g o len cap n a : Nat) (hn : n ≤ len) (ha : (if cap = n then o else o + n) = a) (w : World) :
    (Instr.slice 59 (.slice (some ⟨g, o, none⟩) len cap) (some (.int .i64 (n : Int))) none none).run Try.prog w = .ok (.slice (some ⟨g, a, none⟩) (len - n) (cap - n)) w := by
  have h1 : (n : Int) ≤ (len : Int) := by omega
  by_cases q : cap = n
  · rw [if_pos q] at ha
    subst ha
    subst q
    simp [go_sem, h1]
  · rw [if_neg q] at ha
    subst ha
    simp [go_sem, h1, q]
set_option maxHeartbeats 2000000 in
theorem drop_any (p g : Nat) (r : Rd) (n : Nat) (w : World) (R : Hid (RdAt w p g r)) (h1 : 1 ≤ n) (hn : n ≤ r.h.length) (hz : r.h.length ≤ 1048576) :
    Calls Try.prog 38 #[.pointer (some ⟨p, 0, none⟩), .int .i64 (n : Int)] w fun e w' => e = .returned (.tuple #[]) ∧ (∃ g', RdAt w' p g' ⟨r.h.drop n, r.b⟩ ∧ (g' = g ∨ g' = p ∨ w.heap.size ≤ g')) ∧ But p g w w' := by
  obtain ⟨v, s, V⟩ := R.out
  obtain ⟨c0, c1, c2, ⟨c3, ty⟩, B, c5⟩ := V
  rcases B with ⟨rfl, e⟩ | ⟨o, cap, cur, rfl, hg, hc, hm, hs, ht⟩
  · rw [e] at hn; simp at hn; omega
  · have gp : g ≠ p := by rcases c5 with c5 | c5; (· cases c5.1); exact c5.2
    obtain ⟨a, ha, hsl⟩ : ∃ a, (a = o + n ∨ a = o ∧ cap = n) ∧ (if cap = n then o else o + n) = a := by
      by_cases q : cap = n
      · exact ⟨o, .inr ⟨rfl, q⟩, if_pos q⟩
      · exact ⟨o + n, .inl rfl, if_neg q⟩
    have SL := slice_from g o r.h.length cap n a hn hsl
    have V : Hid (RdV w p g (.slice (some ⟨g, o, none⟩) r.h.length cap) s r) := ⟨c0, c1, c2, ⟨c3, ty⟩, .inr ⟨o, cap, cur, rfl, hg, hc, hm, hs, ht⟩, c5⟩
    have BU : Hid (Buf w g (.slice (some ⟨g, a, none⟩) (r.h.length - n) (cap - n)) (r.h.drop n)) := Buf.drop n hn hg hc hm hs ht a ha
    have HL : Hid ((r.h.drop n).length ≤ 1048576) := by show (r.h.drop n).length ≤ 1048576; rw [List.length_drop]; omega
    obtain ⟨N, hN⟩ : ∃ N, r.h.length - n = N := ⟨_, rfl⟩
    obtain ⟨C, hC⟩ : ∃ N, cap - n = N := ⟨_, rfl⟩
    rw [hN, hC] at SL BU
    clear hg hs ht R c5 ty hm hsl ha hN hC hc hn hz h1
    go_enter Try.func38, Try.ntmps38
    go_wp2
    obtain ⟨S, hS⟩ : ∃ S, wrap64 (s + (n : Int)) = S := ⟨_, rfl⟩
    obtain ⟨W, hW⟩ : ∃ W, (w.setCell ⟨p, 0, none⟩ (.slice (some ⟨g, a, none⟩) N C)).setCell ⟨p, 1, none⟩ (.int .i64 S) = W := ⟨_, rfl⟩
    have W2 : Hid (RdV W p g (.slice (some ⟨g, a, none⟩) N C) S ⟨r.h.drop n, r.b⟩) := by
      have q := (V.out.put BU.out (.inr ⟨fun z => (by cases z), gp⟩)).spent S
      rw [hW] at q; exact q
    have BW : Hid (But p g w W) := by
      have q := ((But.refl p g w).setCell 0 (.slice (some ⟨g, a, none⟩) N C)).setCell 1 (.int .i64 S)
      rw [hW] at q; exact q
    rw [hS, hW]
    clear hS SL BU V hW c0 c1 c2 c3
    have c0 := W2.out.1
    have c1 := W2.out.2.1
    go_quiet (fail)
    obtain ⟨X, hX⟩ : ∃ X, W.drewN nq = X := ⟨_, rfl⟩
    have W3 : Hid (RdV X p g (.slice (some ⟨g, a, none⟩) N C) S ⟨r.h.drop n, r.b⟩) := by rw [← hX]; exact W2.out.later (below_drewN (Below.refl _ _) nq)
    have B3 : Hid (But p g w X) := by rw [← hX]; exact BW.out.trans (But.of (g := g) (below_drewN (Below.refl _ _) nq)) (.inl rfl)
    rw [hX]
    clear hX c0 c1 BW W2
    by_cases hs : (N : Int) < S
    · have c0 := W3.out.1
      go_wp2_with fail
      refine Calls.mono (clone_any X g _ (r.h.drop n) W3.out.2.2.2.2.1 (Nat.le_trans HL.out (by decide))) ?_
      rintro e w1 ⟨v2, g2, rfl, hb2, hg2, hw1⟩
      have W4 : Hid (RdV w1 p g (.slice (some ⟨g, a, none⟩) N C) S ⟨r.h.drop n, r.b⟩) := W3.out.later hw1
      have B4 : Hid (But p g w w1) := B3.out.trans (But.of (g := g) hw1) (.inl rfl)
      obtain ⟨g3, hb3, hcg, hor⟩ := hb2.pick p X.heap.size (World.block_lt_of_cell? _ _ W3.out.1) hg2
      have HB : Hid (Buf w1 g3 v2 (r.h.drop n) ∧ Cg v2 g3 p ∧ (g3 = p ∨ w.heap.size ≤ g3)) := ⟨hb3, hcg, hor.imp id (fun z => Nat.le_trans B3.out.size z)⟩
      clear hb3 hcg hor
      obtain ⟨a2, k2, cap2, rfl, -⟩ := hb2.is
      clear c0 hb2 hg2 hw1 B3 W3
      have c0 := W4.out.1
      have c1 := W4.out.2.1
      have c3 := W4.out.2.2.2.1.1
      go_wp2
      refine bodyPost_end (results_none Try.results38 _ _ _) rfl ⟨rfl, ⟨g3, ⟨_, _, (W4.out.put HB.out.1 HB.out.2.1).spent 0⟩, .inr HB.out.2.2⟩, (B4.out.setCell _ _).setCell _ _⟩
    · go_wp2
      exact bodyPost_end (results_none Try.results38 _ _ _) rfl ⟨rfl, ⟨g, ⟨_, _, W3.out⟩, .inl rfl⟩, B3.out⟩
end Go.Proofs.Ytbaajpefefedbaa
