/- All frames that are there, told one by one. -/
import Derived.Test.YtihfilngbljiaaaFrW
namespace Go.Proofs.Ytihfilngbljiaaa
open Go.RowKit Go.Proofs.Fd Go.Proofs.Fr
set_option maxRecDepth 20000

theorem But.new {p g : Nat} {row : Option Nat} {a w w' : World} (h : But p g a w) (k : w.grownBy w' row) (hr : ∀ x, row = some x → a.heap.size ≤ x) : But p g a w' :=
  ⟨k.os.trans h.os, k.tape.trans h.tape, k.output.trans h.output, Nat.le_trans h.size k.size, fun j hj hp hg => (k.block j (Nat.lt_of_lt_of_le hj h.size) (by intro e; have := hr j e.symm; omega)).trans (h.block j hj hp hg)⟩
theorem RdAt.grown {w w' : World} {p g base : Nat} {r : Rd} {e : TypeId} {size : Nat} {v : Value} {n : Nat} {xs : List Value} (R : RdAt w p g r) (h : w.ownsRow base e size v n xs) (hb : w.grownBy w' v.ownBlock) (h1 : e ≠ 5) (h2 : e ≠ 49) : RdAt w' p g r := by
  obtain ⟨u, s, V⟩ := R
  have V2 := V
  obtain ⟨c0, -, -, ⟨-, cp, fz, tp⟩, B, hp⟩ := V2
  have ap : some p ≠ v.ownBlock := fun z => by
    rcases h.2 with ⟨rfl, -⟩ | ⟨k, cap, cur, rfl, -, hgg, -⟩
    · cases z
    · injection z with z
      have z : p = k := z
      rw [← z, tp] at hgg; injection hgg with q; injection q with q1 q2; exact h2 q2.symm
  refine ⟨u, s, V.same (hb.block p (World.block_lt_of_cell? _ _ c0) ap) ?_⟩
  rcases B with ⟨e, -⟩ | ⟨o, c, cu, -, q, -⟩
  · exact .inl e
  · refine .inr (hb.block g (Array.getElem?_eq_some_iff.1 q).1 (fun z => ?_))
    rcases h.2 with ⟨rfl, -⟩ | ⟨k, cap, cur, rfl, -, hgg, -⟩
    · cases z
    · injection z with z
      have z : g = k := z
      rw [← z, q] at hgg; injection hgg with q; injection q with q1 q2; exact h1 q2.symm
def bas (l : List (List UInt8)) : List ByteArray := l.map fun s => ⟨s.toArray⟩
theorem bas_app (a b : List (List UInt8)) : bas (a ++ b) = bas a ++ bas b := by unfold bas; rw [List.map_append]
theorem bas_len (a : List (List UInt8)) : (bas a).length = a.length := by unfold bas; rw [List.length_map]
theorem scells_app (a b : List ByteArray) : scells (a ++ b) = scells a ++ scells b := by unfold scells; rw [List.map_append]
theorem scells_len (a : List ByteArray) : (scells a).length = a.length := by unfold scells; rw [List.length_map]
theorem scells_one (l : List ByteArray) : ∀ u ∈ scells l, u.oneCell' = true := by
  intro u hu
  simp only [scells, List.mem_map] at hu
  obtain ⟨b, _, rfl⟩ := hu
  rfl
theorem but_or {p g g1 g2 A B : Nat} (h1 : g1 = g ∨ g1 = p ∨ A ≤ g1) (hAB : A ≤ B) (h2 : g2 = g1 ∨ g2 = p ∨ B ≤ g2) : g2 = g ∨ g2 = p ∨ A ≤ g2 := by
  rcases h2 with rfl | h2 | h2
  · exact h1
  · exact .inr (.inl h2)
  · exact .inr (.inr (Nat.le_trans hAB h2))
set_option maxHeartbeats 1000000 in
theorem all_any (N p g : Nat) (r : Rd) (w : World) (hN : Hid (N = 100000)) (R : Hid (RdAt w p g r)) (G : Hid (Fr.Good r)) :
    Calls Try.prog 19 #[.pointer (some ⟨p, 0, none⟩)] w fun e w' => ∃ v, e = .returned v ∧ w'.ownsRow w.heap.size 9 1 v (Fr.drain N r).length (scells (bas (Fr.drain N r))) ∧ (∃ g', RdAt w' p g' (Fr.left N r) ∧ (g' = g ∨ g' = p ∨ w.heap.size ≤ g')) ∧ But p g w w' := by
  obtain ⟨i0, hi, hz0, hz1, hz2⟩ := info_parts infoStr
  obtain ⟨D, hD⟩ : ∃ D, Fr.drain N r = D := ⟨_, rfl⟩
  obtain ⟨L, hL⟩ : ∃ L, Fr.left N r = L := ⟨_, rfl⟩
  have HD : Hid (Fr.drain N r = D ∧ Fr.left N r = L) := ⟨hD, hL⟩
  rw [hD, hL]
  clear hD hL
  go_enter Try.func19, Try.ntmps19
  go_wp2_with fail
  go_loopw [3, 6] (fun sl i wr => ∃ k : Nat, k ≤ 100000 ∧ i = .int .i64 (k : Int) ∧ ∃ (f gk : Nat) (rk : Rd) (out : List (List UInt8)), Hid (k + f = N ∧ D = out ++ Fr.drain f rk ∧ L = Fr.left f rk ∧ out.length = k ∧ Fr.Good rk) ∧ Hid (RdAt wr p gk rk ∧ (gk = g ∨ gk = p ∨ w.heap.size ≤ gk) ∧ But p g w wr ∧ wr.ownsRow w.heap.size 9 1 sl k (scells (bas out)))) (fun _ i _ => 100000 - (intOf i).toNat)
  case atStart => exact ⟨0, by omega, rfl, N, g, r, [], ⟨Nat.zero_add _, by rw [HD.out.1]; rfl, HD.out.2.symm, rfl, G.out⟩, R.out, .inl rfl, But.refl _ _ _, World.ownsRow_nil _ _ _ _⟩
  case round =>
    obtain ⟨k, hk, rfl, f, gk, rk, out, J, I⟩ := hrel
    clear R G HD
    by_cases hlt : k < 100000
    · have g1 : (k : Int) < 100000 := by omega
      obtain ⟨f, rfl⟩ : ∃ f', f = f' + 1 := ⟨f - 1, by have := J.out.1; have := hN.out; omega⟩
      by_cases hh : has rk.h
      · have NX : Hid (Calls Try.prog 17 #[.pointer (some ⟨p, 0, none⟩)] wr fun e w' => e = .returned (.tuple #[.string ⟨(nextS rk).toArray⟩, .bool true]) ∧ (∃ g', RdAt w' p g' (nextR rk) ∧ (g' = gk ∨ g' = p ∨ wr.heap.size ≤ g')) ∧ But p gk wr w') := next_yes p gk rk wr I.out.1 J.out.2.2.2.2.2.2 hh
        obtain ⟨d1, d2⟩ := drain_go f rk hh
        have J2 : Hid (k + 1 + f = N ∧ D = (out ++ [nextS rk]) ++ Fr.drain f (nextR rk) ∧ L = Fr.left f (nextR rk) ∧ (out ++ [nextS rk]).length = k + 1 ∧ Fr.Good (nextR rk)) := by
          obtain ⟨j1, j2, j3, j4, j5⟩ := J.out
          exact ⟨by omega, by rw [j2, d1]; simp, by rw [j3, d2], by rw [List.length_append, j4]; rfl, next_good rk j5⟩
        obtain ⟨S, hS⟩ : ∃ S, nextS rk = S := ⟨_, rfl⟩
        obtain ⟨rn, hrn⟩ : ∃ S, nextR rk = S := ⟨_, rfl⟩
        rw [hS, hrn] at NX J2
        clear d1 d2 J hh hS hrn
        go_wp2_with fail
        refine Calls.mono NX.out ?_
        rintro e w2 ⟨rfl, ⟨g2, hr2, hg2⟩, hb2⟩
        have I2 : Hid (RdAt w2 p g2 rn ∧ (g2 = g ∨ g2 = p ∨ w.heap.size ≤ g2) ∧ But p g w w2 ∧ w2.ownsRow w.heap.size 9 1 u3 k (scells (bas out))) := by
          obtain ⟨i1, i2, i3, i4⟩ := I.out
          exact ⟨hr2, but_or i2 i3.size hg2, i3.trans hb2 i2, own_but i4 i1 hb2 (by decide) (by decide)⟩
        clear NX hr2 hg2 hb2 I
        go_wp2_with (first
          | (at_builtin; refine wpList_append_own _ rfl _ _ 22 rfl w.heap.size 9 i0 (.string ⟨#[]⟩) 1 16 Try.underlying22 hi hz0 hz1 hz2 rfl (by decide) _ _ _ rfl (I2.out.2.2.2.alloc _) ⟨w2.heap.size, 0, none⟩ 1 1 [.string ⟨S.toArray⟩] rfl rfl (cells_new _ _ _) (by intro u hu; simp at hu; subst hu; rfl) (by unfold maxLen; omega) (by omega) (by have := I2.out.2.2.1.size; simp; omega) ?_; intro v1 w3 hown1 hgrow1 hnil1))
        have I3 : Hid (RdAt w3 p g2 rn ∧ (g2 = g ∨ g2 = p ∨ w.heap.size ≤ g2) ∧ But p g w w3 ∧ w3.ownsRow w.heap.size 9 1 v1 (k + 1) (scells (bas (out ++ [S])))) := by
          obtain ⟨i1, i2, i3, i4⟩ := I2.out
          refine ⟨(i1.later ((Below.refl _ _).alloc (Nat.le_refl _) _)).grown (i4.alloc _) hgrow1 (by decide) (by decide), i2, (i3.alloc _).new hgrow1 (fun x hx => (i4.lt x hx).1), ?_⟩
          rw [bas_app, scells_app]
          exact hown1
        clear I2 hown1 hgrow1 hnil1
        go_roundw
        case rel => exact ⟨k + 1, by omega, by go_num, f, g2, rn, out ++ [S], J2.out, I3.out⟩
        case measure => simp [intOf]; omega
      · have NX : Hid (Calls Try.prog 17 #[.pointer (some ⟨p, 0, none⟩)] wr fun e w' => e = .returned (.tuple #[.string ⟨#[]⟩, .bool false]) ∧ Below wr.heap.size wr w') := next_no p gk rk wr I.out.1 J.out.2.2.2.2.2.2 hh
        obtain ⟨d1, d2⟩ := drain_stop (f + 1) rk hh
        have J2 : Hid (D = out ∧ L = rk ∧ out.length = k) := by
          obtain ⟨j1, j2, j3, j4, j5⟩ := J.out
          exact ⟨by rw [j2, d1]; simp, by rw [j3, d2], j4⟩
        clear d1 d2 J hh
        go_wp2_with fail
        refine Calls.mono NX.out ?_
        rintro e w2 ⟨rfl, hb2⟩
        have I2 : Hid (RdAt w2 p gk rk ∧ (gk = g ∨ gk = p ∨ w.heap.size ≤ gk) ∧ But p g w w2 ∧ w2.ownsRow w.heap.size 9 1 u3 k (scells (bas out))) := by
          obtain ⟨i1, i2, i3, i4⟩ := I.out
          exact ⟨i1.later hb2, i2, i3.trans (But.of (g := g) hb2) (.inl rfl), own_later i4 hb2⟩
        clear NX hb2 I
        go_wp2
        go_ret
        refine ⟨_, rfl, ?_, ⟨gk, ?_, I2.out.2.1⟩, I2.out.2.2.1⟩
        · rw [J2.out.1, J2.out.2.2]; exact I2.out.2.2.2
        · rw [J2.out.2.1]; exact I2.out.1
    · obtain rfl : k = 100000 := by omega
      have J2 : Hid (D = out ∧ L = rk ∧ out.length = 100000) := by
        obtain ⟨j1, j2, j3, j4, j5⟩ := J.out
        obtain rfl : f = 0 := by have := hN.out; omega
        exact ⟨by rw [j2]; unfold Fr.drain; simp, by rw [j3]; unfold Fr.left; rfl, j4⟩
      rw [show ((100000 : Nat) : Int) = 100000 from rfl]
      clear J
      go_wp2
      go_ret
      refine ⟨_, rfl, ?_, ⟨gk, ?_, I.out.2.1⟩, I.out.2.2.1⟩
      · rw [J2.out.1, J2.out.2.2]; exact I.out.2.2.2
      · rw [J2.out.2.1]; exact I.out.1
end Go.Proofs.Ytihfilngbljiaaa
