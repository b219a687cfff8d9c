/- The disk's calls: Size, Waits, reach, burn, beginning, Fuse, Read. -/
import Derived.Test.YtdcimnmebgkmjaaDoorDkB
namespace Go.Proofs.YtdcimnmebgkmjaaDoor
open Go.RowKit Go.Proofs.Fd Go.Proofs.Dk
set_option maxRecDepth 20000

theorem size_any (p : Nat) (F : Nat → Prop) (s : St) (w : World) (h : KAt w p F s) :
    Calls Tryd.prog 28 #[.pointer (some ⟨p, 0, none⟩)] w fun e w' => e = .returned (.int .i64 (s.n : Int)) ∧ w' = w := by
  obtain ⟨-, a, b, v, -, hr⟩ := h
  have c2 := hr.c2
  obtain ⟨n, hn⟩ : ∃ n, s.n = n := ⟨_, rfl⟩
  rw [hn] at c2 ⊢
  clear hr hn
  go_enter Tryd.func28, Tryd.ntmps28
  go_wp2
  go_ret
  exact ⟨rfl, rfl⟩
theorem ownsW_slice {w : World} {v : Value} {l : List Wt} (h : OwnsW w v l) : ∃ a c, v = .slice a l.length c := by
  rcases h.2 with ⟨rfl, h2⟩ | ⟨g, cap, cur, rfl, -⟩
  · exact ⟨_, _, by rw [h2]⟩
  · exact ⟨_, _, rfl⟩
theorem reach_any (p : Nat) (F : Nat → Prop) (s : St) (k : Int) (w : World) (h : KAt w p F s) :
    Calls Tryd.prog 85 #[.pointer (some ⟨p, 0, none⟩), .int .i64 k] w fun e w' => e = .returned (.int .i64 (rch s k)) ∧ w' = w := by
  have SZ : Hid _ := size_any p F s w h
  obtain ⟨-, a, b, v, -, hr⟩ := h
  have c0 := hr.c0
  unfold rch
  obtain ⟨n, hn⟩ : ∃ n, s.n = n := ⟨_, rfl⟩
  obtain ⟨d, hd⟩ : ∃ d, s.down = d := ⟨_, rfl⟩
  rw [hn] at SZ ⊢
  rw [hd] at c0 ⊢
  clear hr hn hd
  cases d
  · by_cases h0 : k < 0
    · simp [h0] at c0 ⊢
      go_enter Tryd.func85, Tryd.ntmps85
      go_wp2
      go_ret
      exact ⟨rfl, rfl⟩
    · by_cases h1 : (n : Int) ≤ k
      · simp [h1] at c0 ⊢
        go_enter Tryd.func85, Tryd.ntmps85
        go_wp2_with (go_at_call 28; refine Calls.mono SZ.out ?_; rintro e w1 ⟨rfl, rfl⟩)
        go_ret
        exact ⟨rfl, rfl⟩
      · simp [h0, h1] at c0 ⊢
        go_enter Tryd.func85, Tryd.ntmps85
        go_wp2_with (go_at_call 28; refine Calls.mono SZ.out ?_; rintro e w1 ⟨rfl, rfl⟩)
        go_ret
        exact ⟨rfl, rfl⟩
  · simp at c0 ⊢
    go_enter Tryd.func85, Tryd.ntmps85
    go_wp2
    go_ret
    exact ⟨rfl, rfl⟩
theorem Raw.brn {w : World} {p : Nat} {s : St} {a b : Nat} {v : Value} (h : Raw w p s.n s.down s.fuse s.f s.sh s.l a b v) (hd : s.down = false) (h0 : s.fuse = 0) : Raw w p (brnS s).n (brnS s).down (brnS s).fuse (brnS s).f (brnS s).sh (brnS s).l a b v := by
  have e : brnS s = s := by
    obtain ⟨n, f, l, fuse, down⟩ := s
    simp only at hd h0
    subst hd h0
    rfl
  rw [e]
  exact h
/-- A write or a sync, counted. -/
theorem burn_any (p : Nat) (F : Nat → Prop) (s : St) (hd : s.down = false) (w : World) (h : KAt w p F s) :
    Calls Tryd.prog 81 #[.pointer (some ⟨p, 0, none⟩)] w fun e w' => e = .returned (.bool (decide (s.fuse = 1))) ∧ KAt w' p F (brnS s) ∧ Bf F w w' := by
  obtain ⟨ho, a, b, v, rfl, hr⟩ := h
  have c0 := hr.c0
  have c1 := hr.c1
  have f0 := hr.fr 0
  have f1 := hr.fr 1
  have hfu := ho.fu
  by_cases h0 : s.fuse = 0
  · have HR : Hid (KAt w p (Foot p a b v) (brnS s) ∧ Bf (Foot p a b v) w w) := ⟨⟨ho.brn, a, b, v, rfl, hr.brn hd h0⟩, Bf.refl _ _⟩
    rw [h0] at c1 ⊢
    clear hr ho h0 c0 hfu
    go_enter Tryd.func81, Tryd.ntmps81
    go_wp2
    go_ret
    exact ⟨rfl, HR.out⟩
  · by_cases h1 : s.fuse = 1
    · have HR : Hid (KAt ((w.setCell ⟨p, 1, none⟩ (.int .i64 0)).setCell ⟨p, 0, none⟩ (.int .i64 1)) p (Foot p a b v) (brnS s) ∧ Bf (Foot p a b v) w ((w.setCell ⟨p, 1, none⟩ (.int .i64 0)).setCell ⟨p, 0, none⟩ (.int .i64 1))) := by
        refine ⟨⟨ho.brn, a, b, v, rfl, ?_⟩, (Bf.set _ w p 1 _ (.inl rfl)).trans (Nx.refl _ _) (Bf.set _ _ p 0 _ (.inl rfl))⟩
        have := (hr.setFuse 0).setDown true
        unfold brnS
        rw [h1]
        exact this
      rw [h1] at c1 ⊢
      clear hr ho h0 h1 hfu
      rw [hd] at c0
      clear hd
      go_enter Tryd.func81, Tryd.ntmps81
      go_wp2
      go_ret
      exact ⟨rfl, HR.out⟩
    · obtain ⟨m, hm⟩ : ∃ m : Nat, s.fuse = m + 2 := ⟨s.fuse - 2, by omega⟩
      have HR : Hid (KAt (w.setCell ⟨p, 1, none⟩ (.int .i64 ((m : Int) + 1))) p (Foot p a b v) (brnS s) ∧ Bf (Foot p a b v) w (w.setCell ⟨p, 1, none⟩ (.int .i64 ((m : Int) + 1)))) := by
        refine ⟨⟨ho.brn, a, b, v, rfl, ?_⟩, Bf.set _ w p 1 _ (.inl rfl)⟩
        have := hr.setFuse (m + 1)
        have e : brnS s = { s with fuse := m + 1 } := by
          obtain ⟨n, f, l, fuse, down⟩ := s
          simp only at hd hm
          subst hd hm
          simp [brnS]
        rw [e]
        exact this
      rw [hm] at c1 hfu ⊢
      have e1 : decide (m + 2 = 1) = false := by simp
      have z1 : IntKind.i64.wrap (((m + 2 : Nat) : Int) - 1) = (m : Int) + 1 := by rw [IntKind.wrap_i64]; omega
      have z2 : ¬ ((m + 2 : Nat) : Int) = 0 := by omega
      have z3 : 0 < (m : Int) + 1 := by omega
      rw [e1]
      obtain ⟨x, hx⟩ : ∃ x : Int, ((m + 2 : Nat) : Int) = x := ⟨_, rfl⟩
      obtain ⟨y, hy⟩ : ∃ y : Int, (m : Int) + 1 = y := ⟨_, rfl⟩
      rw [hx] at c1 z1 z2
      rw [hy] at z1 z3 HR
      clear hr ho h0 h1 hfu hm e1 hx hy c0 hd
      go_enter Tryd.func81, Tryd.ntmps81
      go_wp2
      go_ret
      exact ⟨rfl, HR.out⟩
theorem beginning_any (x : Int) (w : World) : Calls Tryd.prog 37 #[.int .i64 x] w fun e w' => e = .returned (.int .i64 (pk x : Int)) ∧ w' = w := by
  have hN : (0 : Int) < 65 := by decide
  have r1 := Int.tmod_lt_of_pos x hN
  have r2 := Int.lt_tmod_of_pos x hN
  have hp := pk_eq x
  have hl := pk_lt x
  obtain ⟨r, hr⟩ : ∃ r, Int.tmod x 65 = r := ⟨_, rfl⟩
  rw [hr] at r1 r2 hp
  have z1 : IntKind.i64.wrap (Int.tmod x 65) = r := by rw [hr, IntKind.wrap_i64]; omega
  have z2 : IntKind.i64.wrap (r + 65) = r + 65 := by rw [IntKind.wrap_i64]; omega
  have z3 : IntKind.i64.wrap (Int.tmod (r + 65) 65) = (r + 65).tmod 65 := by rw [hp, IntKind.wrap_i64]; omega
  have HP : Hid ((r + 65).tmod 65 = (pk x : Int)) := hp
  clear r1 r2 hN hp hl
  go_enter Tryd.func37, Tryd.ntmps37
  go_wp2
  go_ret
  exact ⟨by rw [← HP.out]; rfl, rfl⟩
theorem KAt.fuse {w : World} {p : Nat} {F : Nat → Prop} {s : St} (h : KAt w p F s) {n : Int} (hd : s.down = false) (h1 : ¬ (n < 0 ∨ 1048576 < n)) : KAt (w.setCell ⟨p, 1, none⟩ (.int .i64 n)) p F (fuS s n) ∧ Bf F w (w.setCell ⟨p, 1, none⟩ (.int .i64 n)) := by
  have hk := h.1.fus n
  obtain ⟨-, a, b, v, rfl, hr⟩ := h
  refine ⟨⟨hk, a, b, v, rfl, ?_⟩, Bf.set _ w p 1 _ (.inl rfl)⟩
  have e : fuS s n = { s with fuse := n.toNat } := by
    unfold fuS
    rw [if_neg (by rw [hd]; simp), if_neg h1]
  rw [e]
  have := hr.setFuse n.toNat
  rw [Int.toNat_of_nonneg (by omega)] at this
  exact this
/-- A string, of bytes. -/
def st (l : Bs) : ByteArray := ⟨l.toArray⟩
abbrev sv (l : Bs) : Value := .string (st l)
theorem st_data (l : Bs) : (st l).data.toList = l := rfl
theorem st_of (t : ByteArray) : st t.data.toList = t := rfl
theorem text_at {w : World} {b o : Nat} {l : Bs} (h : w.rangeAt b o (bc l)) (cap : Nat) : (convert 70 9 (.slice (some ⟨b, o, none⟩) l.length cap)).run Tryd.prog w = .ok (sv l) w :=
  run_convert_bytes_back (P := Tryd.prog) w 70 9 5 ⟨b, o, none⟩ cap l Tryd.underlying70 Tryd.underlying5 Tryd.underlying9 (fun j hj => by
    have q : Addr.add ⟨b, o, none⟩ j = ⟨b, o + j, none⟩ := Addr.add_mid b o j
    rw [q]
    exact h j _ (by simp [bc, hj]))
theorem rch_cases (s : St) (k : Int) : rch s k = 0 ∧ s.down = false ∧ 0 ≤ k ∧ k < (s.n : Int) ∨ rch s k ≠ 0 := by
  unfold rch
  split
  · exact .inr (by simp)
  · split
    · exact .inr (by simp)
    · rename_i h1 h2
      exact .inl ⟨rfl, by simpa using h1, by omega, by omega⟩
theorem read_any (p : Nat) (F : Nat → Prop) (s : St) (k : Int) (w : World) (h : KAt w p F s) :
    Calls Tryd.prog 69 #[.pointer (some ⟨p, 0, none⟩), .int .i64 k] w fun e w' => e = .returned (.tuple #[sv (rdV s k), .int .i64 (rch s k)]) ∧ w' = w := by
  have RC : Hid _ := reach_any p F s k w h
  rcases rch_cases s k with ⟨h0, -, hk0, hk1⟩ | hne
  · rw [rdV, if_pos h0, h0]
    rw [h0] at RC
    obtain ⟨m, rfl⟩ : ∃ m : Nat, k = (m : Int) := ⟨k.toNat, by omega⟩
    rw [Int.toNat_natCast]
    obtain ⟨ho, a, b, v, -, hr⟩ := h
    have c3 := hr.c3
    have hm : m < s.n := by omega
    have TX := text_at (hr.sb.at_ m hm) 64
    rw [ho.sh64 m] at TX
    obtain ⟨r, hrr⟩ : ∃ r, sv (s.sh m) = r := ⟨_, rfl⟩
    obtain ⟨n, hn⟩ : ∃ n, s.n = n := ⟨_, rfl⟩
    rw [hrr] at TX ⊢
    rw [hn] at c3 hk1 hm
    clear h0 hr ho hrr hn
    go_enter Tryd.func69, Tryd.ntmps69
    go_wp2_with (go_at_call 85; refine Calls.mono RC.out ?_; rintro e w1 ⟨rfl, rfl⟩)
    go_ret2
    exact ⟨rfl, rfl⟩
  · rw [rdV, if_neg hne]
    obtain ⟨x, hx⟩ : ∃ x, rch s k = x := ⟨_, rfl⟩
    rw [hx] at RC hne ⊢
    clear h hx
    go_enter Tryd.func69, Tryd.ntmps69
    go_wp2_with (go_at_call 85; refine Calls.mono RC.out ?_; rintro e w1 ⟨rfl, rfl⟩)
    go_ret2
    exact ⟨rfl, rfl⟩
end Go.Proofs.YtdcimnmebgkmjaaDoor
