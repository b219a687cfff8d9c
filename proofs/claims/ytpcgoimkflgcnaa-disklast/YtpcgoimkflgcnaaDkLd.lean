/- DiskLast. -/
import Derived.Test.YtpcgoimkflgcnaaDkLb
namespace Go.Proofs.Ytpcgoimkflgcnaa
open Go.RowKit Go.Proofs.Fd Go.Proofs.Dk
set_option maxRecDepth 20000

theorem want_set {g : Nat → ByteArray} {f : Nat → Bs} {l : List Wt} {N : Nat} (h : ∀ j, j < N → g j = st (lay f l j)) (m : Nat) (b : Bs) : ∀ j, j < N → ug g m (st b) j = st (lay f (l ++ [⟨m, b⟩]) j) := fun j hj => by
  rw [lay_app]
  unfold ug upd
  split
  · rfl
  · exact h j hj
set_option maxHeartbeats 2000000 in
theorem DiskLast_walk (a : Option Addr) (ks : List ByteArray) (len cap : Nat) (hn : ks.length = len) (a1 : Option Addr) (ps : List Int) (len1 cap1 : Nat) (hn1 : ps.length = len1) (w : World) (h : Hid (StrAt w a ks)) (h1 : Hid (IntAt w a1 ps)) :
    Calls Try.prog 7 #[.slice a len cap, .slice a1 len1 cap1] w fun e w' => e = .returned (.bool true) ∧ Below w.heap.size w w' := by
  have HN : Hid (ks.length = len) := hn
  have HN1 : Hid (ps.length = len1) := hn1
  have NW : Hid _ := newL w w 6 (by decide) (by decide) (Below.refl _ _)
  have WK : Hid (∀ w, _) := works_any
  have SN : Hid (∀ w, Calls Try.prog 12 #[.string ⟨#[]⟩] w fun e w' => e = .returned (sv (zs 0)) ∧ Below w.heap.size w w') := sector_any ⟨#[]⟩
  clear hn hn1
  go_enter Try.func7, Try.ntmps7
  go_wp2_with fail
  refine Calls.mono NW.out ?_
  rintro e w1 ⟨p, F, rfl, I1, -, -⟩
  have J1 : Hid _ := I1
  clear NW I1
  go_wp2_with fail
  refine Calls.mono (WK.out _) ?_
  rintro e w2 ⟨rfl, hb⟩
  have J2 : Hid _ := J1.out.later hb
  clear J1 hb WK
  go_upto_block 0 with fail
  have W0 : Hid (Wn w (w2.alloc (.cells #[.string ⟨#[]⟩, .string ⟨#[]⟩, .string ⟨#[]⟩, .string ⟨#[]⟩, .string ⟨#[]⟩, .string ⟨#[]⟩] 55)) p F (ups 6 zs []) w2.heap.size 6 (fun _ => ⟨#[]⟩)) :=
    ⟨J2.out.later ((Below.refl _ _).alloc (Nat.le_refl _) _), fun c => Nat.lt_irrefl _ (J2.out.at_.lt c), J2.out.below.size, fun j hj => by
      rw [World.cell?_alloc_new]
      rcases (by omega : j = 0 ∨ j = 1 ∨ j = 2 ∨ j = 3 ∨ j = 4 ∨ j = 5) with rfl | rfl | rfl | rfl | rfl | rfl <;> rfl, fun j => by simp [go_sem], by decide⟩
  obtain ⟨B, hB⟩ : ∃ B, w2.heap.size = B := ⟨_, rfl⟩
  obtain ⟨w3, hw3⟩ : ∃ w3, w2.alloc (.cells #[.string ⟨#[]⟩, .string ⟨#[]⟩, .string ⟨#[]⟩, .string ⟨#[]⟩, .string ⟨#[]⟩, .string ⟨#[]⟩] 55) = w3 := ⟨_, rfl⟩
  rw [hB] at W0 ⊢
  rw [hw3] at W0 ⊢
  clear J2 hB hw3
  go_cut [8] (fun s8 wx => ∃ g : Nat → ByteArray, Hid (Wn w wx p F (ups 6 zs []) B 6 g ∧ ∀ j, j < 6 → g j = st (lay zs [] j)))
  case first =>
    go_wp2_with fail
    go_loopw [29] (fun i wr => ∃ (k : Nat) (g : Nat → ByteArray), k ≤ 6 ∧ i = .int .i64 (k : Int) ∧ Hid (Wn w wr p F (ups 6 zs []) B 6 g ∧ ∀ j, j < k → g j = st (zs 0))) (fun i wr => 6 - (intOf i).toNat)
    case atStart => exact ⟨0, _, Nat.zero_le _, rfl, W0.out, fun j hj => absurd hj (Nat.not_lt_zero _)⟩
    case round =>
      obtain ⟨k, g, hk, rfl, I⟩ := hrel
      clear W0
      by_cases hk6 : k < 6
      · have g1 : (k : Int) < 6 := by omega
        go_wp2_with fail
        refine Calls.mono (SN.out _) ?_
        rintro e w4 ⟨rfl, hb⟩
        have I2 : Hid (Wn w w4 p F (ups 6 zs []) B 6 g) := I.out.1.later hb
        have cB := I2.out.c k hk6
        have fB := I2.out.fr k
        have I4 : Hid (Wn w (w4.setCell ⟨B, k, none⟩ (sv (zs 0))) p F (ups 6 zs []) B 6 (ug g k (st (zs 0))) ∧ ∀ j, j < k + 1 → ug g k (st (zs 0)) j = st (zs 0)) := by
          refine ⟨I2.out.set k _, fun j hj => ?_⟩
          unfold ug
          split
          · rfl
          · exact I.out.2 j (by omega)
        clear I I2 hb
        go_wp2
        go_roundw
        case rel => exact ⟨k + 1, _, by omega, by go_num, I4.out⟩
        case measure => simp [intOf]; omega
      · obtain rfl : k = 6 := by omega
        go_wp2
        go_meet
        case rel => exact ⟨g, I.out.1, fun j hj => I.out.2 j hj⟩
  case rest =>
    obtain ⟨g, I0⟩ := hcut
    clear W0 SN
    go_wp2_with fail
    go_loopw [9, 10] (fun ws i wr => ∃ (k : Nat) (F : Nat → Prop) (g : Nat → ByteArray) (f : Nat → Bs) (l : List Wt) (q : Nat), k ≤ len ∧ k ≤ 60 ∧ i = .int .i64 (k : Int) ∧ ws = .int .i64 (q : Int) ∧ q ≤ k ∧ Hid (Wn w wr p F (ups 6 f l) B 6 g ∧ (∀ j, j < 6 → g j = st (lay f l j)) ∧ l.length = q)) (fun ws i wr => 60 - (intOf i).toNat)
    case atStart => exact ⟨0, F, g, zs, [], 0, Nat.zero_le _, Nat.zero_le _, rfl, rfl, Nat.le_refl _, I0.out.1, I0.out.2, rfl⟩
    case round =>
      obtain ⟨k, F, g, f, l, q, hk, hk60, rfl, rfl, hq, I⟩ := hrel
      clear I0
      by_cases hl1 : k < len
      · by_cases hl2 : k < 60
        · have g1 : (k : Int) < (len : Int) := by omega
          have g2 : (k : Int) < 60 := by omega
          have hkl : k < ks.length := by have := HN.out; omega
          have HL : Hid (l.length ≤ 1000000) := by have := I.out.2.2; exact (show l.length ≤ 1000000 by omega)
          go_upto_region 15 with fail
          go_cut [49] (fun s49 wx => s49 = .bool (decide (k < len1)) ∧ wr = wx)
          case first =>
            by_cases hai : k < len1
            · have g3 : (k : Int) < (len1 : Int) := by omega
              go_wp2_with fail
              go_meet
              case rel => exact ⟨by rw [decide_eq_true hai], rfl⟩
            · have g3 : ¬ (k : Int) < (len1 : Int) := by omega
              go_wp2_with fail
              go_meet
              case rel => exact ⟨by rw [decide_eq_false hai], rfl⟩
          case rest =>
            obtain ⟨rfl, hwx⟩ := hcut
            subst hwx
            go_upto_if 49 with fail
            go_cut [11] (fun s11 wx => ∃ m : Nat, m < 7 ∧ s11 = .int .i64 (m : Int) ∧ wr = wx)
            case first =>
              by_cases hai : k < len1
              · rw [decide_eq_true hai]
                have g3 : (k : Int) < (len1 : Int) := by omega
                obtain ⟨b, o, rfl, c0⟩ := (h1.out.later I.out.1.dl.below) k (by have := HN1.out; omega)
                obtain ⟨y, hy⟩ : ∃ y, ps[k]'(by have := HN1.out; omega) = y := ⟨_, rfl⟩
                rw [hy] at c0
                obtain ⟨m, hm7, -, AM'⟩ := among_is y 7 (by decide) (by decide)
                have AM : Hid _ := AM'
                clear AM' hy I
                go_wp2_with (go_at_call 11; refine Calls.mono (AM.out _) ?_; rintro e w4 ⟨rfl, rfl⟩)
                go_meet
                case rel => exact ⟨m, hm7, rfl, rfl⟩
              · rw [decide_eq_false hai]
                go_wp2
                go_meet
                case rel => exact ⟨0, by decide, rfl, rfl⟩
            case rest =>
              obtain ⟨m, hm7, rfl, hwx⟩ := hcut
              subst hwx
              by_cases h6 : m = 6
              · subst h6
                go_wp2_with fail
                refine Calls.mono (syncU w _ p F 6 f l HL.out I.out.1.dl) ?_
                rintro e w5 ⟨rfl, F5, k1, k2, k3⟩
                have I5 : Hid (Wn w w5 p F5 (ups 6 (lay f l) []) B 6 g ∧ (∀ j, j < 6 → g j = st (lay (lay f l) [] j)) ∧ ([] : List Wt).length = 0) := ⟨I.out.1.stp k1 k2 k3, I.out.2.1, rfl⟩
                clear I k1 k2 k3
                go_wp2
                go_roundw
                case rel => exact ⟨k + 1, F5, g, _, [], 0, by omega, by omega, by go_num, rfl, Nat.zero_le _, I5.out⟩
                case measure => simp [intOf]; omega
              · have hm6 : m < 6 := by omega
                have g6 : ¬ (m : Int) = 6 := by omega
                have g7 : (m : Int) < 6 := by omega
                obtain ⟨b, o, rfl, c0⟩ := (h.out.later I.out.1.dl.below) k hkl
                obtain ⟨x, hx⟩ : ∃ x, ks[k] = x := ⟨_, rfl⟩
                rw [hx] at c0
                clear hx
                have SX : Hid (∀ w, _) := sector_any x
                have LS : Hid _ := sec_len x.data.toList
                obtain ⟨S, hS⟩ : ∃ S, sec x.data.toList = S := ⟨_, rfl⟩
                rw [hS] at SX LS
                clear hS
                go_wp2_with fail
                refine Calls.mono (SX.out _) ?_
                rintro e w4 ⟨rfl, hb⟩
                have I2 : Hid (Wn w w4 p F (ups 6 f l) B 6 g) := I.out.1.later hb
                have cB := I2.out.c m hm6
                have fB := I2.out.fr m
                have I4 : Hid (Wn w (w4.setCell ⟨B, m, none⟩ (sv S)) p F (ups 6 f l) B 6 (ug g m (st S)) ∧ (∀ j, j < 6 → ug g m (st S) j = st (lay f (l ++ [⟨m, S⟩]) j)) ∧ (l ++ [(⟨m, S⟩ : Wt)]).length = q + 1) := ⟨I2.out.set m _, want_set I.out.2.1 m S, by rw [List.length_append, I.out.2.2]; rfl⟩
                clear I I2 hb SX
                go_wp2_with fail
                refine Calls.mono (writeU w _ p F 6 f l m S hm6 LS.out HL.out I4.out.1.dl) ?_
                rintro e w5 ⟨rfl, F5, k1, k2, k3⟩
                have I5 : Hid (Wn w w5 p F5 (ups 6 f (l ++ [⟨m, S⟩])) B 6 (ug g m (st S)) ∧ (∀ j, j < 6 → ug g m (st S) j = st (lay f (l ++ [⟨m, S⟩]) j)) ∧ (l ++ [(⟨m, S⟩ : Wt)]).length = q + 1) := ⟨I4.out.1.stp k1 k2 k3, I4.out.2.1, I4.out.2.2⟩
                clear I4 k1 k2 k3 cB fB
                have WT := waitsU w w5 p F5 _ I5.out.1.dl
                have e5 : (ups 6 f (l ++ [(⟨m, S⟩ : Wt)])).l.length = q + 1 := I5.out.2.2
                rw [e5] at WT
                have WT' : Hid _ := WT
                clear WT e5
                go_wp2_with fail
                refine Calls.mono WT'.out ?_
                rintro e w6 ⟨rfl, rfl⟩
                clear WT'
                go_wp2_with fail
                go_loopw [82] (fun i wx => ∃ j : Nat, j ≤ 6 ∧ i = .int .i64 (j : Int) ∧ w6 = wx) (fun i wx => 6 - (intOf i).toNat)
                case atStart => exact ⟨0, Nat.zero_le _, rfl, rfl⟩
                case round =>
                  obtain ⟨j, hj, rfl, hwx⟩ := hrel
                  subst hwx
                  by_cases hj6 : j < 6
                  · have g9 : (j : Int) < 6 := by omega
                    have cj := I5.out.1.c j hj6
                    rw [I5.out.2.1 j hj6] at cj
                    go_wp2_with fail
                    refine Calls.mono (readU w _ p F5 6 f _ j hj6 I5.out.1.dl) ?_
                    rintro e w7 ⟨rfl, rfl⟩
                    go_wp2
                    go_roundw
                    case rel => exact ⟨j + 1, by omega, by go_num, trivial⟩
                    case measure => simp [intOf]; omega
                  · obtain rfl : j = 6 := by omega
                    go_wp2
                    go_roundw
                    case rel => exact ⟨k + 1, F5, _, f, _, q + 1, by omega, by omega, by go_num, by go_num, by omega, I5.out⟩
                    case measure => simp [intOf]; omega
        · have g1 : (k : Int) < (len : Int) := by omega
          have g2 : ¬ (k : Int) < 60 := by omega
          have FF : Hid (Below w.heap.size w wr) := I.out.1.dl.below
          go_wp2_with fail
          refine Calls.mono (sizeU w wr p F _ I.out.1.dl) ?_
          rintro e w6 ⟨rfl, rfl⟩
          clear I
          go_wp2
          go_ret
          exact ⟨rfl, FF.out⟩
      · have g1 : ¬ (k : Int) < (len : Int) := by omega
        have FF : Hid (Below w.heap.size w wr) := I.out.1.dl.below
        go_wp2_with fail
        refine Calls.mono (sizeU w wr p F _ I.out.1.dl) ?_
        rintro e w6 ⟨rfl, rfl⟩
        clear I
        go_wp2
        go_ret
        exact ⟨rfl, FF.out⟩
end Go.Proofs.Ytpcgoimkflgcnaa
