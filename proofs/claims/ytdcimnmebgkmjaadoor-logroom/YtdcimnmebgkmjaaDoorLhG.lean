/- LogRoom. -/
import Derived.Test.YtdcimnmebgkmjaaDoorLhF
import Derived.Deep.CutBlock
namespace Go.Proofs.YtdcimnmebgkmjaaDoor
open Go.RowKit Go.Proofs.Fd Go.Proofs.Dk Go.Proofs.Lg
set_option maxRecDepth 20000

theorem may_of {X : ByteArray} (h1 : 1 ≤ X.size) (h2 : X.size ≤ 2000) : may X.data.toList = 0 := by
  have e : X.data.toList.length = X.size := by simp
  unfold may
  rw [e, if_neg (by omega), if_neg (by omega)]
theorem sn_of (X : ByteArray) : sn X.data.toList = (18 + X.size + 63) / 64 := by
  have e : X.data.toList.length = X.size := by simp
  unfold sn
  rw [e]
theorem empty_of {X : ByteArray} (h : X.size = 0) : X.toList = [] ∧ X.toList.isEmpty = true := by
  have e : X.toList = [] := by
    rw [ByteArray.toList_eq]
    exact List.length_eq_zero_iff.1 (by simpa using h)
  exact ⟨e, by rw [e]; rfl⟩
theorem full_of {X : ByteArray} (h : ¬ X.size = 0) : ¬ X.toList = [] ∧ X.toList.isEmpty = false := by
  have e : ¬ X.toList = [] := fun c => h (by
    rw [ByteArray.toList_eq] at c
    have := congrArg List.length c
    simpa using this)
  exact ⟨e, by cases hx : X.toList with
    | nil => exact absurd hx e
    | cons _ _ => rfl⟩
set_option maxHeartbeats 4000000 in
theorem LogRoom_walk (a : Option Addr) (ks : List ByteArray) (len cap : Nat) (hn : ks.length = len) (w : World) (hk : Hid (Kh w)) (h : Hid (StrAt w a ks)) :
    Calls Tryd.prog 3 #[.slice a len cap] w fun e w' => e = .returned (.bool true) ∧ Below w.heap.size w w' := by
  have HN : Hid (ks.length = len) := hn
  have NW : Hid _ := newL w w 24 (by decide) (by decide) (Below.refl _ _)
  clear hn
  go_enter Tryd.func3, Tryd.ntmps3
  go_wp2_with fail
  refine Calls.mono NW.out ?_
  rintro e w1 ⟨p, F1, rfl, I1, -, -⟩
  have J1 : Hid (Dl w w1 p F1 (up 24 zs [])) := I1
  clear NW I1
  go_wp2_with fail
  refine Calls.mono (lworks_any w1 (hk.out.later J1.out.below)) ?_
  rintro e w2 ⟨rfl, hb⟩
  have J2 : Hid _ := J1.out.later hb
  clear J1 hb
  go_wp2_with fail
  refine Calls.mono (openU_new w w2 p F1 24 (by decide) (by decide) hk.out J2.out) ?_
  rintro e w3 ⟨q, v3, F3, rfl, L3, -, -, -⟩
  have J3 : Hid _ := L3
  clear J2 L3
  go_wp2_with fail
  refine Calls.mono (roomU w w3 p F3 24 _ [] q v3 _ J3.out) ?_
  rintro e w4 ⟨rfl, hb⟩
  have e11 : (24 / 2 - (⟨0, 1, []⟩ : Lo).tk : Nat) = 11 := rfl
  rw [e11]
  have J4 : Hid _ := J3.out.later hb
  clear J3 hb e11
  obtain ⟨f4, hf4⟩ : ∃ f4, bgf 0 (24 / 2) (hd 1 ++ rcs (hm 1) []) zs = f4 := ⟨_, rfl⟩
  rw [hf4] at J4
  clear hf4
  go_upto_block 0 with fail
  go_cut [6, 7, 8, 9, 10, 11] (fun _ _ _ _ _ _ wx => ∃ (F : Nat → Prop) (f : Nat → Bs) (l : List Wt) (v : Value) (ts : List Bs), Hid (Lu w wx p F 24 f l q v ⟨0, 1, ts⟩))
  case first =>
    go_wp2_with fail
    go_loopw [6, 7, 8] (fun fr nn i wr => ∃ (k : Nat) (F : Nat → Prop) (f : Nat → Bs) (l : List Wt) (v : Value) (ts : List Bs), k ≤ len ∧ k ≤ 40 ∧ i = .int .i64 (k : Int) ∧ fr = .int .i64 ((12 - tkn 1 ts : Nat) : Int) ∧ nn = .int .i64 (ts.length : Int) ∧ Hid (Lu w wr p F 24 f l q v ⟨0, 1, ts⟩)) (fun _ _ i _ => 40 - (intOf i).toNat)
    case atStart => exact ⟨0, F3, f4, [], v3, [], Nat.zero_le _, Nat.zero_le _, rfl, rfl, rfl, J4.out⟩
    case round =>
      obtain ⟨k, F, f, l, v, ts, hkl, hk40, rfl, rfl, rfl, I⟩ := hrel
      clear J4
      by_cases hl1 : k < len
      · have g1 : (k : Int) < (len : Int) := by omega
        by_cases hl2 : k < 40
        · have g2 : (k : Int) < 40 := by omega
          have hkk : k < ks.length := by have := HN.out; omega
          obtain ⟨b, o, rfl, c0⟩ := (h.out.later I.out.hd_.dl.below rfl) k hkk
          obtain ⟨X, hX⟩ : ∃ X, ks[k] = X := ⟨_, rfl⟩
          rw [hX] at c0
          clear hX
          by_cases h0 : X.size = 0
          · obtain ⟨n1, n2⟩ := empty_of h0
            go_wp2
            go_roundw
            case rel => exact ⟨k + 1, F, f, l, v, ts, by omega, by omega, rfl, rfl, rfl, I.out⟩
            case measure => simp [intOf]; omega
          · obtain ⟨n1, n2⟩ := full_of h0
            by_cases h2 : 2000 < X.size
            · have g3 : (2000 : Int) < (X.size : Int) := by omega
              go_wp2
              go_roundw
              case rel => exact ⟨k + 1, F, f, l, v, ts, by omega, by omega, rfl, rfl, rfl, I.out⟩
              case measure => simp [intOf]; omega
            · have g3 : ¬ (2000 : Int) < (X.size : Int) := by omega
              have hxs : X.size ≤ 2000 := by omega
              have AP : Hid _ := appendU w wr p F 24 f l q v ⟨0, 1, ts⟩ X (may_of (by omega) hxs) hk.out I.out
              have hsn := sn_of X
              have y1 : (18 + (X.size : Int) + 63) / 64 = (sn X.data.toList : Int) := by omega
              have htk : tkn 1 ts ≤ 12 := I.out.tk
              have hta := tkn_app ts 1 X.data.toList
              obtain ⟨t, ht⟩ : ∃ t, X.data.toList = t := ⟨_, rfl⟩
              rw [ht] at AP y1 hta
              have AP2 : Hid (Calls Tryd.prog 11 #[.pointer (some ⟨q, 0, none⟩), .string X] wr fun e w' => e = .returned (.int .i64 (if 12 < tkn 1 ts + sn t then 151 else 0)) ∧ LuP w wr p F 24 q v (if 12 < tkn 1 ts + sn t then ⟨0, 1, ts⟩ else ⟨0, 1, ts ++ [t]⟩) w') := AP.out
              have hsm : sn t ≤ 40 := by rw [← ht, hsn]; omega
              clear AP ht hsn
              obtain ⟨z, hz⟩ : ∃ z, sn t = z := ⟨_, rfl⟩
              rw [hz] at AP2 y1 hta hsm
              have y2 : IntKind.i64.wrap (z : Int) = (z : Int) := by rw [IntKind.wrap_i64]; omega
              have HTA : Hid (tkn 1 (ts ++ [t]) = tkn 1 ts + z) := hta
              clear hta hz
              by_cases hf : 12 < tkn 1 ts + z
              · rw [if_pos hf, if_pos hf] at AP2
                have g4 : ¬ (z : Int) ≤ ((12 - tkn 1 ts : Nat) : Int) := by omega
                have HD : Hid ((12 - tkn 1 ts : Nat) = 24 / 2 - (⟨0, 1, ts⟩ : Lo).tk) := rfl
                obtain ⟨d, hd⟩ : ∃ d, 12 - tkn 1 ts = d := ⟨_, rfl⟩
                rw [hd] at g4 HD ⊢
                have HDD : Hid (12 - tkn 1 ts = d) := hd
                clear hd hf I
                go_wp2_with fail
                refine Calls.mono AP2.out ?_
                rintro e w5 ⟨rfl, F5, f5, l5, v5, L5, -, -⟩
                have J5 : Hid _ := L5
                clear L5 AP2
                have R5 : Hid _ := roomU w w5 p F5 24 f5 l5 q v5 _ J5.out
                rw [← HD.out] at R5
                go_wp2_with fail
                refine Calls.mono R5.out ?_
                rintro e w6 ⟨rfl, hb⟩
                have J6 : Hid _ := J5.out.later hb
                clear J5 R5 hb
                go_wp2_with fail
                refine Calls.mono (recordsU w w6 p F5 24 f5 l5 q v5 _ J6.out) ?_
                rintro e w7 ⟨a7, c7, rfl, -, hb⟩
                have J7 : Hid _ := J6.out.later hb
                clear J6 hb
                go_wp2
                go_roundw
                case rel => exact ⟨k + 1, F5, f5, l5, v5, ts, by omega, by omega, rfl, by rw [HDD.out], rfl, J7.out⟩
                case measure => simp [intOf]; omega
              · rw [if_neg hf, if_neg hf] at AP2
                have g4 : (z : Int) ≤ ((12 - tkn 1 ts : Nat) : Int) := by omega
                have HD : Hid (((12 - tkn 1 ts : Nat) : Int) - (z : Int) = ((24 / 2 - (⟨0, 1, ts ++ [t]⟩ : Lo).tk : Nat) : Int)) := by
                  show ((12 - tkn 1 ts : Nat) : Int) - (z : Int) = ((12 - tkn 1 (ts ++ [t]) : Nat) : Int)
                  rw [HTA.out]
                  omega
                have HE : Hid (((12 - tkn 1 ts : Nat) : Int) - (z : Int) = ((12 - tkn 1 (ts ++ [t]) : Nat) : Int)) := HD.out
                have y3 : IntKind.i64.wrap (((12 - tkn 1 ts : Nat) : Int) - (z : Int)) = ((12 - tkn 1 ts : Nat) : Int) - (z : Int) := by rw [IntKind.wrap_i64]; omega
                have hlen := I.out.tlen
                have hlen' : ts.length ≤ 512 := hlen
                have y4 : IntKind.i64.wrap ((ts.length : Int) + 1) = (ts.length : Int) + 1 := by rw [IntKind.wrap_i64]; omega
                have HL : Hid (((⟨0, 1, ts ++ [t]⟩ : Lo).ts.length : Int) = (ts.length : Int) + 1) := by
                  show (((ts ++ [t]).length : Nat) : Int) = _
                  rw [List.length_append, List.length_singleton]
                  omega
                obtain ⟨d, hd⟩ : ∃ d : Int, ((12 - tkn 1 ts : Nat) : Int) = d := ⟨_, rfl⟩
                rw [hd] at g4 HD HE y3 ⊢
                obtain ⟨d2, hd2⟩ : ∃ d2 : Int, d - (z : Int) = d2 := ⟨_, rfl⟩
                rw [hd2] at HD HE y3
                clear hd hf I hlen
                go_wp2_with fail
                refine Calls.mono AP2.out ?_
                rintro e w5 ⟨rfl, F5, f5, l5, v5, L5, -, -⟩
                have J5 : Hid _ := L5
                clear L5 AP2
                have R5 : Hid _ := roomU w w5 p F5 24 f5 l5 q v5 _ J5.out
                rw [← HD.out] at R5
                go_wp2_with fail
                refine Calls.mono R5.out ?_
                rintro e w6 ⟨rfl, hb⟩
                have J6 : Hid _ := J5.out.later hb
                clear J5 R5 hb
                go_wp2_with fail
                have R6 := recordsU w w6 p F5 24 f5 l5 q v5 _ J6.out
                refine Calls.mono R6 ?_
                rintro e w7 ⟨a7, c7, rfl, -, hb⟩
                have J7 : Hid _ := J6.out.later hb
                have HL2 := HL.out
                obtain ⟨nn, hnn⟩ : ∃ nn, (⟨0, 1, ts ++ [t]⟩ : Lo).ts.length = nn := ⟨_, rfl⟩
                rw [hnn] at HL2 ⊢
                have HNN : Hid ((ts ++ [t]).length = nn) := hnn
                clear J6 hb R6 hnn
                go_wp2
                go_roundw
                case rel => exact ⟨k + 1, F5, f5, l5, v5, ts ++ [t], by omega, by omega, rfl, by rw [HE.out], by rw [HNN.out, HL2], J7.out⟩
                case measure => simp [intOf]; omega
        · have g2 : ¬ (k : Int) < 40 := by omega
          go_wp2
          go_meet
          case rel => exact ⟨F, f, l, v, ts, I.out⟩
      · have g1 : ¬ (k : Int) < (len : Int) := by omega
        go_wp2
        go_meet
        case rel => exact ⟨F, f, l, v, ts, I.out⟩
  case rest =>
    obtain ⟨F, f, l, v, ts, I⟩ := hcut
    clear J4
    have C1 : Hid _ := compactU w wc p F 24 f l q v ⟨0, 1, ts⟩ none 0 0 [] rfl nofun (by decide) (by show (1 : Nat) < 1000000; decide) hk.out I.out (TxAt.nil _ _) (fun x e => by cases e)
    clear I
    go_wp2_with fail
    refine Calls.mono C1.out ?_
    rintro e w8 ⟨rfl, F8, v8, L8, -, -⟩
    have J8 : Hid (∃ f8, Lu w w8 p F8 24 f8 [] q v8 ⟨1, 2, []⟩) := ⟨_, L8⟩
    obtain ⟨f8, K8⟩ := J8.out
    have J9 : Hid _ := K8
    clear J8 K8 L8 C1
    have R9 : Hid (Calls Tryd.prog 10 #[.pointer (some ⟨q, 0, none⟩)] w8 fun e w' => e = .returned (.int .i64 11) ∧ Below w8.heap.size w8 w') := roomU w w8 p F8 24 f8 [] q v8 _ J9.out
    go_wp2_with fail
    refine Calls.mono R9.out ?_
    rintro e w9 ⟨rfl, hb⟩
    have J10 : Hid _ := J9.out.later hb
    clear J9 R9 hb
    have R10 : Hid (Calls Tryd.prog 12 #[.pointer (some ⟨q, 0, none⟩)] w9 fun e w' => ∃ a c, e = .returned (.slice a 0 c) ∧ Below w9.heap.size w9 w') := (recordsU w w9 p F8 24 f8 [] q v8 _ J10.out).mono fun _ _ ⟨a, c, he, _, hb⟩ => ⟨a, c, he, hb⟩
    go_wp2_with fail
    refine Calls.mono R10.out ?_
    rintro e w10 ⟨a10, c10, rfl, hb⟩
    have J11 : Hid _ := J10.out.later hb
    clear J10 R10 hb
    have R11 : Hid (Calls Tryd.prog 14 #[.pointer (some ⟨q, 0, none⟩)] w10 fun e w' => e = .returned (.int .i64 2) ∧ w' = w10) := generationU w w10 p F8 24 f8 [] q v8 _ J11.out
    go_wp2_with fail
    refine Calls.mono R11.out ?_
    rintro e w11 ⟨rfl, rfl⟩
    have FF : Hid (Below w.heap.size w w11) := J11.out.hd_.dl.below
    clear J11 R11
    go_wp2
    go_ret
    exact ⟨rfl, FF.out⟩
end Go.Proofs.YtdcimnmebgkmjaaDoor
