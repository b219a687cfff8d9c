/- FrameBreaks: a reader that is broken tells no frame any more, and takes nothing. -/
import Derived.Test.YtihfilngbljiaaaFrA
namespace Go.Proofs.Ytihfilngbljiaaa
open Go.RowKit Go.Proofs.Fd Go.Proofs.Fr
set_option maxRecDepth 20000

theorem all_own (N B p : Nat) (r : Rd) (w : World) (hN : N = 100000) (R : Own B w p r) (hB : B ≤ w.heap.size) (G : Fr.Good r) :
    Calls Try.prog 19 #[.pointer (some ⟨p, 0, none⟩)] w fun e w' => ∃ v, e = .returned v ∧ Own B w' p (Fr.left N r) ∧ Below B w w' := by
  obtain ⟨h1, g, h2, h3⟩ := R
  refine Calls.mono (all_any N p g r w hN h3 G) ?_
  rintro e w' ⟨v, rfl, -, ⟨g', q1, q2⟩, q3⟩
  exact ⟨v, rfl, ⟨h1, g', by rcases q2 with rfl | rfl | q <;> omega, q1⟩, q3.below h1 h2 hB⟩
set_option maxHeartbeats 1000000 in
theorem FrameBreaks_walk (a : Option Addr) (ks : List ByteArray) (n cap : Nat) (more : ByteArray) (hn : Hid (ks.length = n)) (hn63 : n < 9223372036854775807) (w : World) (hc : Hid (StrAt w a ks)) :
    Calls Try.prog 6 #[.slice a n cap, .string more] w fun e w' => e = .returned (.bool true) ∧ Below w.heap.size w w' := by
  obtain ⟨N, hN⟩ : ∃ N, N = 100000 := ⟨_, rfl⟩
  have HN : Hid (N = 100000) := hN
  clear hN
  go_enter Try.func6, Try.ntmps6
  go_wp2_with fail
  refine Calls.mono (new_any w) ?_
  rintro e w1 ⟨rfl, hr1, hb1, -⟩
  obtain ⟨p, hp⟩ : ∃ p, w.heap.size = p := ⟨_, rfl⟩
  have I1 : Hid (Own w.heap.size w1 p ⟨[], false⟩ ∧ Below w.heap.size w w1) := ⟨⟨by omega, p, by omega, by rw [← hp]; exact hr1⟩, hb1⟩
  have HP : Hid (w.heap.size = p) := hp
  rw [hp]
  clear hr1 hb1 hp
  go_wp2_with fail
  refine Calls.mono (works_any w1) ?_
  rintro e w2 ⟨rfl, hb2⟩
  have I2 : Hid (Own w.heap.size w2 p ⟨[], false⟩ ∧ Below w.heap.size w w2) := ⟨I1.out.1.later hb2, I1.out.2.trans (hb2.mono I1.out.2.size)⟩
  clear I1 hb2
  go_wp2_with fail
  go_loopw [6] (fun i wr => ∃ k : Nat, k ≤ 60 ∧ k ≤ n ∧ i = .int .i64 (k : Int) ∧ ∃ rk, Hid (Own w.heap.size wr p rk ∧ Below w.heap.size w wr ∧ Fr.Good rk)) (fun i _ => 60 - (intOf i).toNat)
  case atStart => exact ⟨0, by omega, by omega, rfl, _, I2.out.1, I2.out.2, good_new⟩
  case round =>
    obtain ⟨k, hk, hkn, rfl, rk, I⟩ := hrel
    clear I2
    by_cases hlt : k < n
    · by_cases h60 : k < 60
      · have g1 : (k : Int) < (n : Int) := by omega
        have g2 : (k : Int) < 60 := by omega
        have hk' : k < ks.length := by have := hn.out; omega
        obtain ⟨b, o, rfl, hcell⟩ := StrAt.later hc.out I.out.2.1 rfl k hk'
        obtain ⟨c, hcc⟩ : ∃ c, ks[k] = c := ⟨_, rfl⟩
        rw [hcc] at hcell
        have TK : Hid (_ → _) := fun (_ : True) => take_own w.heap.size p rk c wr I.out.1 I.out.2.1.size I.out.2.2.2.2
        have WY : Hid (takeE rk c.data.toList = 0 ∨ takeE rk c.data.toList = 2 ∨ takeE rk c.data.toList = 100 ∧ rk.b = true) := take_ways rk c.data.toList
        have GD : Hid (Fr.Good (takeR rk c.data.toList)) := take_good rk _ I.out.2.2
        have BR : Hid (rk.b = true → takeR rk c.data.toList = rk ∧ rk.h = []) := fun h => ⟨(broken_take rk _ h).2, I.out.2.2.2.1 h⟩
        obtain ⟨E, hE⟩ : ∃ E, takeE rk c.data.toList = E := ⟨_, rfl⟩
        obtain ⟨rt, hrt⟩ : ∃ E, takeR rk c.data.toList = E := ⟨_, rfl⟩
        rw [hE] at WY TK
        rw [hrt] at GD BR TK
        clear hE hrt hcc
        go_wp2_with fail
        refine Calls.mono (TK.out trivial) ?_
        rintro e w3 ⟨rfl, hr3, hb3⟩
        have I3 : Hid (Own w.heap.size w3 p rt ∧ Below w.heap.size w w3) := ⟨hr3, I.out.2.1.trans hb3⟩
        clear hr3 hb3 TK
        go_wp2_with fail
        refine Calls.mono (all_own N w.heap.size p rt w3 HN.out I3.out.1 I3.out.2.size GD.out) ?_
        rintro e w4 ⟨v4, rfl, hr4, hb4⟩
        have I4 : Hid (Own w.heap.size w4 p (Fr.left N rt) ∧ Below w.heap.size w w4 ∧ Fr.Good (Fr.left N rt)) := ⟨hr4, I3.out.2.trans hb4, left_good N rt GD.out⟩
        clear hr4 hb4 I3
        rcases WY.out with rfl | rfl | ⟨rfl, hb⟩
        · clear WY
          go_wp2_with fail
          go_roundw
          case rel => exact ⟨k + 1, by omega, by omega, by go_num, _, I4.out⟩
          case measure => simp [intOf]; omega
        · clear WY
          go_wp2_with fail
          go_ret
          exact ⟨rfl, I4.out.2.1⟩
        · have I5 : Hid (Own w.heap.size w4 p rk ∧ Below w.heap.size w w4) := by
            obtain ⟨q1, q2⟩ := BR.out hb
            have : Fr.left N rt = rk := by rw [q1]; exact (left_broken N rk I.out.2.2 hb).1
            rw [this] at I4
            exact ⟨I4.out.1, I4.out.2.1⟩
          have HH : Hid (rk.h = [] ∧ rk.b = true) := ⟨(BR.out hb).2, hb⟩
          have TB : Hid (∀ (c : ByteArray) (w' : World), Own w.heap.size w' p rk → Below w.heap.size w w' → Calls Try.prog 13 #[.pointer (some ⟨p, 0, none⟩), .string c] w' fun e w'' => e = .returned (.int .i64 100) ∧ Own w.heap.size w'' p rk ∧ Below w.heap.size w w'') := fun c w' h hb' => by
            have q := take_own w.heap.size p rk c w' h hb'.size (by rw [HH.out.1]; decide)
            rw [(broken_take rk _ HH.out.2).1, (broken_take rk _ HH.out.2).2] at q
            refine Calls.mono q ?_
            rintro e w'' ⟨rfl, q1, q2⟩
            exact ⟨rfl, q1, hb'.trans q2⟩
          clear WY BR GD I4 hb I
          go_wp2_with fail
          refine Calls.mono (next_own_no w.heap.size p rk w4 I5.out.1 (by rw [HH.out.1]; decide) (by rw [HH.out.1]; exact not_has_nil)) ?_
          rintro e w5 ⟨rfl, hr5, hb5⟩
          have I6 : Hid (Own w.heap.size w5 p rk ∧ Below w.heap.size w w5) := ⟨hr5, I5.out.2.trans (hb5.mono I5.out.2.size)⟩
          clear hr5 hb5 I5
          unfold noV
          go_wp2_with fail
          refine Calls.mono (waits_own w.heap.size p rk w5 I6.out.1) ?_
          rintro e w6 ⟨rfl, rfl⟩
          rw [HH.out.1]
          go_wp2_with fail
          refine Calls.mono (TB.out more w6 I6.out.1 I6.out.2) ?_
          rintro e w7 ⟨rfl, hr7, hb7⟩
          have I7 : Hid (Own w.heap.size w7 p rk ∧ Below w.heap.size w w7) := ⟨hr7, hb7⟩
          clear hr7 hb7 I6
          go_wp2_with fail
          refine Calls.mono (TB.out _ w7 I7.out.1 I7.out.2) ?_
          rintro e w8 ⟨rfl, hr8, hb8⟩
          have I8 : Hid (Below w.heap.size w w8) := hb8
          clear hr8 hb8 I7
          go_wp2
          go_ret
          exact ⟨rfl, I8.out⟩
      · have g1 : (k : Int) < (n : Int) := by omega
        have g2 : ¬ (k : Int) < 60 := by omega
        go_wp2_with fail
        go_ret
        exact ⟨rfl, I.out.2.1⟩
    · have g1 : ¬ (k : Int) < (n : Int) := by omega
      go_wp2_with fail
      go_ret
      exact ⟨rfl, I.out.2.1⟩
end Go.Proofs.Ytihfilngbljiaaa
