/- LogCompacts. -/
import Derived.Test.YtfjchadcpbfmbaaDoorLhH
import Derived.Deep.CutBlock
namespace Go.Proofs.YtfjchadcpbfmbaaDoor
open Go.RowKit Go.Proofs.Fd Go.Proofs.Dk Go.Proofs.Lg
set_option maxRecDepth 20000

set_option maxHeartbeats 4000000 in
theorem LogCompacts_walk (a : Option Addr) (ks : List ByteArray) (len cap : Nat) (hn : ks.length = len) (a1 : Option Addr) (ps : List Int) (len1 cap1 : Nat) (hn1 : ps.length = len1) (w : World) (hk : Hid (Kh w)) (h : Hid (StrAt w a ks)) (h1 : Hid (IntAt w a1 ps)) :
    Calls Tryd.prog 4 #[.slice a len cap, .slice a1 len1 cap1] w fun e w' => e = .returned (.bool true) ∧ Below w.heap.size w w' := by
  have HN : Hid (ks.length = len) := hn
  have HN1 : Hid (ps.length = len1) := hn1
  have NW : Hid _ := newL w w 120 (by decide) (by decide) (Below.refl _ _)
  clear hn hn1
  go_enter Tryd.func4, Tryd.ntmps4
  go_wp2_with fail
  refine Calls.mono NW.out ?_
  rintro e w1 ⟨p, F1, rfl, I1, -, -⟩
  have J1 : Hid (Dl w w1 p F1 (up 120 zs [])) := I1
  clear NW I1
  go_wp2_with fail
  refine Calls.mono (lworks_any w1 (hk.out.later J1.out.below)) ?_
  rintro e w2 ⟨rfl, hb⟩
  have J2 : Hid _ := J1.out.later hb
  clear J1 hb
  go_wp2_with fail
  refine Calls.mono (openU_new w w2 p F1 120 (by decide) (by decide) hk.out J2.out) ?_
  rintro e w3 ⟨q3, v3, F3, rfl, L3, -, -, -⟩
  have J3 : Hid (∃ f3, Cw w w3 p F3 f3 [] q3 v3 ⟨0, 1, []⟩ (.slice none 0 0) []) := ⟨_, L3, owns_nilS _, fun y e => by cases e⟩
  clear J2 L3
  go_upto_block 0 with fail
  go_cut [6, 7, 8, 9, 10, 11, 12] (fun _ qv uv gv _ _ _ wx => ∃ (q : Nat) (F : Nat → Prop) (f : Nat → Bs) (l : List Wt) (v : Value) (x : Lo) (b : Option Addr) (n c : Nat), qv = .pointer (some ⟨q, 0, none⟩) ∧ uv = .slice b n c ∧ gv = .int .i64 (x.g : Int) ∧ Hid (Cw w wx p F f l q v x (.slice b n c) x.ts))
  case first =>
    go_wp2_with fail
    go_loopw [6, 7, 8, 9, 10] (fun _ qv uv gv i wr => ∃ (k q : Nat) (F : Nat → Prop) (f : Nat → Bs) (l : List Wt) (v : Value) (x : Lo) (b : Option Addr) (n c : Nat), k ≤ len ∧ k ≤ 12 ∧ i = .int .i64 (k : Int) ∧ qv = .pointer (some ⟨q, 0, none⟩) ∧ uv = .slice b n c ∧ gv = .int .i64 (x.g : Int) ∧ x.g ≤ k + 1 ∧ Hid (Cw w wr p F f l q v x (.slice b n c) x.ts)) (fun _ _ _ _ i _ => 12 - (intOf i).toNat)
    case atStart =>
      obtain ⟨f3, K3⟩ := J3.out
      exact ⟨0, q3, F3, f3, [], v3, ⟨0, 1, []⟩, none, 0, 0, Nat.zero_le _, Nat.zero_le _, rfl, rfl, rfl, rfl, by show (1 : Nat) ≤ 0 + 1; decide, K3⟩
    case round =>
      obtain ⟨k, q, F, f, l, v, x, b, n, c, hkl, hk12, rfl, rfl, rfl, rfl, hgk, I⟩ := hrel
      clear J3
      by_cases hl1 : k < len
      · have g1 : (k : Int) < (len : Int) := by omega
        by_cases hl2 : k < 12
        · have g2 : (k : Int) < 12 := by omega
          have hkk : k < ks.length := by have := HN.out; omega
          obtain ⟨bb, oo, rfl, c0⟩ := (h.out.later I.out.lu.hd_.dl.below rfl) k hkk
          obtain ⟨X, hX⟩ : ∃ X, ks[k] = X := ⟨_, rfl⟩
          rw [hX] at c0
          clear hX
          by_cases h0 : X.size = 0
          · obtain ⟨n1, n2⟩ := empty_is h0
            go_wp2
            go_roundw
            case rel => exact ⟨k + 1, q, F, f, l, v, x, b, n, c, by omega, by omega, rfl, rfl, rfl, rfl, by omega, I.out⟩
            case measure => simp [intOf]; omega
          · obtain ⟨n1, n2⟩ := full_is h0
            by_cases h2 : 200 < X.size
            · have g3 : (200 : Int) < (X.size : Int) := by omega
              go_wp2
              go_roundw
              case rel => exact ⟨k + 1, q, F, f, l, v, x, b, n, c, by omega, by omega, rfl, rfl, rfl, rfl, by omega, I.out⟩
              case measure => simp [intOf]; omega
            · have g3 : ¬ (200 : Int) < (X.size : Int) := by omega
              have hxs : X.size ≤ 2000 := by omega
              have AP : Hid _ := appendU w wr p F 120 f l q v x X (may_is (by omega) hxs) hk.out I.out.lu
              by_cases hf : 120 / 2 < x.tk + sn X.data.toList
              · rw [if_pos hf, if_pos hf] at AP
                clear hf
                go_wp2_with fail
                refine Calls.mono AP.out ?_
                rintro e w5 ⟨rfl, F5, f5, l5, v5, L5, -, -⟩
                have FF : Hid (Below w.heap.size w w5) := L5.hd_.dl.below
                clear L5 AP I
                go_wp2
                go_ret
                exact ⟨rfl, FF.out⟩
              · rw [if_neg hf, if_neg hf] at AP
                clear hf
                go_wp2_with fail
                refine Calls.mono AP.out ?_
                rintro e w5 ⟨rfl, F5, f5, l5, v5, L5, N5, B5⟩
                have hln := L5.tlen
                have hln2 : x.ts.length ≤ 512 := by
                  have e : (x.ts ++ [X.data.toList]).length ≤ 512 := hln
                  rw [List.length_append] at e
                  omega
                obtain ⟨a6, c6, w6, r6, K6⟩ := (I.out.log L5 N5 B5).app (by omega) X.data.toList
                have HG : Hid (∀ y : Lo, y = { x with ts := x.ts ++ [X.data.toList] } → y.g = x.g ∧ y.ts = x.ts ++ [X.data.toList]) := fun y e => by subst e; exact ⟨rfl, rfl⟩
                obtain ⟨y, hy⟩ : ∃ y : Lo, { x with ts := x.ts ++ [X.data.toList] } = y := ⟨_, rfl⟩
                rw [hy] at K6
                obtain ⟨hyg, hyt⟩ := HG.out y hy.symm
                rw [← hyt] at K6
                have hyl : y.ts.length = x.ts.length + 1 := by rw [hyt, List.length_append, List.length_singleton]
                obtain ⟨n6, hn6⟩ : ∃ n6, x.ts.length + 1 = n6 := ⟨_, rfl⟩
                rw [hn6] at hyl r6 K6
                have hn6b : n6 ≤ 513 := by omega
                have hn61 : 0 < n6 := by omega
                have RR : Hid ((Builtin.append_ #[22, 22] 22 #[.slice b n c, .slice (some ⟨w5.heap.size, 0, none⟩) 1 1]).run Tryd.prog (w5.alloc (.cells #[.string X] 9)) = .ok (.slice a6 n6 c6) w6) := r6
                have J6 : Hid (Cw w w6 p F5 f5 l5 q v5 y (.slice a6 n6 c6) y.ts) := K6
                have HYL : Hid (y.ts.length = n6) := hyl
                rw [← hyg] at hgk ⊢
                clear I HG hy hyg hyt hyl hn6 r6 K6 hln hln2 L5 N5 B5 AP
                by_cases hp : k < len1
                · have g4 : ¬ (len1 : Int) ≤ (k : Int) := by omega
                  have hp1 : k < ps.length := by have := HN1.out; omega
                  obtain ⟨b1, o1, rfl, c1⟩ := (h1.out.later J6.out.lu.hd_.dl.below) k hp1
                  obtain ⟨P, hP⟩ : ∃ P, ps[k] = P := ⟨_, rfl⟩
                  rw [hP] at c1
                  clear hP
                  obtain ⟨m, hm, AM⟩ := lamong_is P 3 (by decide) (by decide)
                  have HAM : Hid (∀ w, Calls Tryd.prog 13 #[.int .i64 P, .int .i64 3] w fun e w' => e = .returned (.int .i64 (m : Int)) ∧ w' = w) := AM
                  clear AM
                  go_wp2_with (at_builtin; refine Go.Lib.wpList_append_run _ rfl _ _ _ _ rfl _ _ rfl rfl _ _ RR.out ?_)
                  refine Calls.mono (HAM.out _) ?_
                  rintro e w7 ⟨rfl, rfl⟩
                  clear RR HAM
                  by_cases hm0 : 0 < m
                  · have g5 : (0 : Int) < (m : Int) := by omega
                    go_wp2
                    go_roundw
                    case rel => exact ⟨k + 1, q, F5, f5, l5, v5, y, a6, n6, c6, by omega, by omega, rfl, rfl, rfl, rfl, by omega, J6.out⟩
                    case measure => simp [intOf]; omega
                  · have g5 : ¬ (0 : Int) < (m : Int) := by omega
                    obtain ⟨j, hj, AM⟩ := lamong_is P (n6 + 1) (by omega) (by omega)
                    have c9 : (w7.alloc (.cells #[] 9)).cell? ⟨b1, o1 + k, none⟩ = some (.int .i64 P) := by
                      rw [World.cell?_alloc_past _ _ _ (World.block_lt_of_cell? _ _ c1)]
                      exact c1
                    have HAM : Hid (∀ w, Calls Tryd.prog 13 #[.int .i64 P, .int .i64 ((n6 : Int) + 1)] w fun e w' => e = .returned (.int .i64 (j : Int)) ∧ w' = w) := AM
                    have z1 : IntKind.i64.wrap ((n6 : Int) + 1) = (n6 : Int) + 1 := by rw [IntKind.wrap_i64]; omega
                    obtain ⟨a2, c2, a8, c8, w8, SL, r8, K8⟩ := J6.out.drop HYL.out hn61 (by omega) j (by omega)
                    have R8 : Hid _ := r8
                    have hus : (y.ts.drop j).length = n6 - j := by rw [List.length_drop, HYL.out]
                    have hok : ∀ t ∈ y.ts.drop j, 1 ≤ t.length ∧ t.length ≤ 2000 := fun t ht => J6.out.lu.ok t (List.mem_of_mem_drop ht)
                    have hsn : 1 + sns (y.ts.drop j) ≤ 120 / 2 := by
                      have e1 := sns_drop y.ts j
                      have e2 : tkn 1 y.ts ≤ 120 / 2 := J6.out.lu.tk
                      rw [tkn_sns] at e2
                      omega
                    obtain ⟨us, hu⟩ : ∃ us, y.ts.drop j = us := ⟨_, rfl⟩
                    obtain ⟨n8, hn8⟩ : ∃ n8, n6 - j = n8 := ⟨_, rfl⟩
                    rw [hu] at hus hok hsn K8
                    rw [hn8] at hus SL R8 K8
                    obtain ⟨G, hG⟩ : ∃ G, y.g + 1 = G := ⟨_, rfl⟩
                    have z2 : IntKind.i64.wrap ((y.g : Int) + 1) = (G : Int) := by rw [IntKind.wrap_i64]; omega
                    have CC := compactC w w8 p F5 f5 l5 q v5 y a8 n8 c8 us hus hok hsn (by omega) hk.out K8
                    rw [hG] at CC
                    have HC : Hid _ := CC
                    have hGk : G ≤ k + 2 := by omega
                    clear AM r8 K8 hus hok hsn hu hn8 hG CC J6 HYL c1 c0
                    go_wp2_with fail
                    refine Calls.mono (HAM.out _) ?_
                    rintro e w9 ⟨rfl, rfl⟩
                    clear HAM
                    go_wp2_with (at_builtin; refine Go.Lib.wpList_append_run _ rfl _ _ _ _ rfl _ _ rfl rfl _ _ R8.out ?_)
                    refine Calls.mono HC.out ?_
                    rintro e w10 ⟨rfl, F10, K10⟩
                    have J10 : Hid _ := K10
                    clear HC R8 K10 SL
                    go_wp2_with fail
                    refine Calls.mono (crashC w w10 p F10 _ _ G us _ J10.out) ?_
                    rintro e w11 ⟨rfl, F11, K11⟩
                    have J11 : Hid _ := K11
                    clear J10 K11
                    go_wp2_with fail
                    refine Calls.mono (openC w w11 p F11 _ _ G us _ hk.out J11.out) ?_
                    rintro e w12 ⟨q12, v12, F12, f12, l12, rfl, K12⟩
                    have J12 : Hid _ := K12
                    clear J11 K12
                    have GG : Hid (Calls Tryd.prog 12 #[.pointer (some ⟨q12, 0, none⟩)] w12 fun e w' => e = .returned (.int .i64 (G : Int)) ∧ w' = w12) := generationU w w12 p F12 120 f12 l12 q12 v12 _ J12.out.lu
                    go_wp2_with fail
                    refine Calls.mono GG.out ?_
                    rintro e w13 ⟨rfl, rfl⟩
                    clear GG
                    go_wp2_with fail
                    refine Calls.mono (recordsC w w13 p F12 f12 l12 q12 v12 _ a8 n8 c8 us rfl J12.out) ?_
                    rintro e w14 ⟨a14, k14, c14, rfl, -, S14⟩
                    have HS : Hid _ := S14
                    clear S14 J12
                    go_wp2_with fail
                    refine Calls.mono HS.out ?_
                    rintro e w15 ⟨rfl, K15⟩
                    have J15 : Hid _ := K15
                    clear HS K15
                    go_wp2
                    go_roundw
                    case rel => exact ⟨k + 1, q12, F12, f12, l12, v12, ⟨1 - y.h, G, us⟩, a8, n8, c8, by omega, by omega, rfl, rfl, rfl, rfl, by show G ≤ k + 1 + 1; omega, J15.out⟩
                    case measure => simp [intOf]; omega
                · have g4 : (len1 : Int) ≤ (k : Int) := by omega
                  go_wp2_with (at_builtin; refine Go.Lib.wpList_append_run _ rfl _ _ _ _ rfl _ _ rfl rfl _ _ RR.out ?_)
                  go_roundw
                  case rel => exact ⟨k + 1, q, F5, f5, l5, v5, y, a6, n6, c6, by omega, by omega, rfl, rfl, rfl, rfl, by omega, J6.out⟩
                  case measure => simp [intOf]; omega
        · have g2 : ¬ (k : Int) < 12 := by omega
          go_wp2
          go_meet
          case rel => exact ⟨q, F, f, l, v, x, b, n, c, rfl, rfl, rfl, I.out⟩
      · have g1 : ¬ (k : Int) < (len : Int) := by omega
        go_wp2
        go_meet
        case rel => exact ⟨q, F, f, l, v, x, b, n, c, rfl, rfl, rfl, I.out⟩
  case rest =>
    obtain ⟨q, F, f, l, v, x, b, n, c, rfl, rfl, rfl, I⟩ := hcut
    clear J3
    go_wp2_with fail
    refine Calls.mono (recordsC w wc p F f l q v x b n c x.ts rfl I.out) ?_
    rintro e w14 ⟨a14, k14, c14, rfl, -, S14⟩
    have HS : Hid _ := S14
    clear S14 I
    go_wp2_with fail
    refine Calls.mono HS.out ?_
    rintro e w15 ⟨rfl, K15⟩
    have J15 : Hid _ := K15
    clear HS K15
    have GG : Hid (Calls Tryd.prog 12 #[.pointer (some ⟨q, 0, none⟩)] w15 fun e w' => e = .returned (.int .i64 (x.g : Int)) ∧ w' = w15) := generationU w w15 p F 120 f l q v _ J15.out.lu
    go_wp2_with fail
    refine Calls.mono GG.out ?_
    rintro e w16 ⟨rfl, rfl⟩
    have FF : Hid (Below w.heap.size w w16) := J15.out.lu.hd_.dl.below
    clear J15 GG
    go_wp2
    go_ret
    exact ⟨rfl, FF.out⟩
end Go.Proofs.YtfjchadcpbfmbaaDoor
