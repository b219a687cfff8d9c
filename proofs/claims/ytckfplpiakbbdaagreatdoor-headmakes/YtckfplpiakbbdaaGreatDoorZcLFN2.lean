/- Parts: D6, HR2, HR3, HR4, HR5, HL6. -/
import Derived.Test.YtckfplpiakbbdaaGreatDoorZcG16
import Derived.Test.YtckfplpiakbbdaaGreatDoorZcG09
import Derived.Test.YtckfplpiakbbdaaGreatDoorZcG42
import Derived.Test.YtckfplpiakbbdaaGreatDoorZcG43
import Derived.Test.YtckfplpiakbbdaaGreatDoorZcG44
import Derived.Test.YtckfplpiakbbdaaGreatDoorZcG35
import Derived.Test.YtckfplpiakbbdaaGreatDoorZcG41
import Derived.Test.YtckfplpiakbbdaaGreatDoorZcG36
import Derived.Lib.AppendZerosOnto
import Derived.Deep.RegionHeld3
namespace Go.Proofs.YtckfplpiakbbdaaGreatDoor.Crv
open Go.RowKit Go.Proofs.Fd Go.Proofs.Ed
set_option maxRecDepth 20000
def chA (u : ByteArray) (ks : List ByteArray) : Array Value :=
  if u.size = 32 ∧ wh ks = true then (if 16 < ks.length then #[.string ⟨#[]⟩, .int .i64 2] else och (chn ks u)) else #[.string ⟨#[]⟩, .int .i64 3]
set_option maxHeartbeats 1000000 in
theorem rChain_all (u : ByteArray) (a : Option Addr) (ks : List ByteArray) (n cap : Nat) (hn : Hid (ks.length = n)) (hn63 : n ≤ 9223372036854775807) (w : World) (hc : Hid (StrAt w a ks)) :
    Calls Tryz.prog 57 #[.string u, .slice a n cap] w fun e w' => e = .returned (.tuple (chA u ks)) ∧ Below w.heap.size w w' := by
  by_cases hu : u.size = 32
  · have hz1 : ((u.size : Int) != 32) = false := by simp [hu]
    go_enter Tryz.func57, Tryz.ntmps57
    go_wp2
    go_loopw [6] (fun i wr => ∃ k : Nat, k ≤ n ∧ i = .int .i64 (k : Int) ∧ Hid (wh (ks.take k) = true ∧ Below w.heap.size w wr)) (fun i _ => n - (intOf i).toNat)
    case atStart => exact ⟨0, Nat.zero_le _, rfl, rfl, Below.refl _ _⟩
    case round =>
      obtain ⟨k, hk, rfl, I⟩ := hrel
      by_cases hlt : k < n
      · have hk' : k < ks.length := by have := hn.out; omega
        obtain ⟨b, o, rfl, hcell⟩ := StrAt.later hc.out I.out.2 k hk'
        have HT : Hid (ks[k].size = 32 → wh (ks.take (k + 1)) = true) := fun h => wh_take hk' I.out.1 h
        have HN : Hid (¬ ks[k].size = 32 → wh ks = false) := fun h => wh_not hk' h
        generalize ks[k] = s at *
        by_cases h0 : s.size = 32
        · have hz : ((s.size : Int) != 32) = false := by simp [h0]
          have FIN : Hid (wh (ks.take (k + 1)) = true) := HT.out h0
          clear h0
          go_wp2
          go_roundw
          case rel => exact ⟨k + 1, by omega, by go_num, FIN.out, I.out.2⟩
          case measure => simp [intOf]; omega
        · have hz : ((s.size : Int) != 32) = true := by simp; omega
          have FIN : Hid (chA u ks = #[.string ⟨#[]⟩, .int .i64 3]) := by
            have h := HN.out h0
            show _ = _
            unfold chA
            rw [if_neg (fun q => by rw [h] at q; exact absurd q.2 (by decide))]
          clear h0
          go_wp2
          go_ret2
          exact ⟨by rw [FIN.out]; rfl, I.out.2⟩
      · have hkn : k = n := by omega
        subst hkn
        have CA : Hid (wh ks = true) := by
          have := I.out.1; rw [List.take_of_length_le (by have := hn.out; omega)] at this; exact this
        by_cases h16 : k ≤ 16
        · have E : Hid (chA u ks = och (chn ks u)) := by
            show _ = _
            unfold chA; rw [if_pos ⟨hu, CA.out⟩, if_neg (by have := hn.out; omega)]
          have hg : ¬ (16 : Int) < (k : Int) := by omega
          have UU : Hid (u.size = 32) := hu
          clear hu hz1
          go_wp2
          go_loopw [0, 7] (fun at_ i wx => ∃ (j : Nat) (v : ByteArray), j ≤ k ∧ i = .int .i64 (j : Int) ∧ at_ = .string v ∧ Hid (v.size = 32 ∧ chn (ks.take j) u = some v ∧ Below w.heap.size w wx)) (fun _ i _ => k - (intOf i).toNat)
          case atStart => exact ⟨0, u, Nat.zero_le _, rfl, rfl, UU.out, rfl, I.out.2⟩
          case round =>
            obtain ⟨j, v, hj, rfl, rfl, J⟩ := hrel
            by_cases hlt2 : j < k
            · have hk' : j < ks.length := by have := hn.out; omega
              obtain ⟨b, o, rfl, hcell⟩ := StrAt.later hc.out J.out.2.2 j hk'
              have HTT := chn_step ks u v j hk' J.out.2.1
              have HK : Hid (ks[j].size = 32) := wh_mem CA.out j hk'
              generalize ks[j] = x at *
              by_cases h0 : tm x v = 0
              · rw [if_pos h0] at HTT
                have FIN : Hid (chn ks u = none) := chn_none_le ks u (j + 1) HTT
                have H0 : Hid (tm x v = 0) := h0
                clear HTT h0
                go_wp2_with fail
                refine Calls.mono (rShared_weak x v HK.out J.out.1 H0.out _) ?_
                rintro e w5 ⟨rfl, hb⟩
                have B5 : Hid (Below w.heap.size w w5) := chain J.out.2.2 hb
                clear hb
                go_wp2
                go_ret2
                exact ⟨by rw [E.out, FIN.out]; rfl, B5.out⟩
              · rw [if_neg h0] at HTT
                have H0 : Hid (tm x v ≠ 0 ∧ chn (ks.take (j + 1)) u = some (ek (tm x v))) := ⟨h0, HTT⟩
                clear HTT h0
                go_wp2_with fail
                refine Calls.mono (rShared_ok x v HK.out J.out.1 H0.out.1 _) ?_
                rintro e w5 ⟨rfl, hb⟩
                have B5 : Hid (Below w.heap.size w w5) := chain J.out.2.2 hb
                clear hb
                go_wp2
                go_roundw
                case rel => exact ⟨j + 1, ek (tm x v), by omega, by go_num, rfl, ek_size _, H0.out.2, B5.out⟩
                case measure => simp [intOf]; omega
            · have hjn : j = k := by omega
              subst hjn
              have FIN : Hid (chn ks u = some v) := by
                have := J.out.2.1
                rw [List.take_of_length_le (by have := hn.out; omega)] at this
                exact this
              go_wp2
              go_ret2
              exact ⟨by rw [E.out, FIN.out]; rfl, J.out.2.2⟩
        · have E : Hid (chA u ks = #[.string ⟨#[]⟩, .int .i64 2]) := by
            show _ = _
            unfold chA; rw [if_pos ⟨hu, CA.out⟩, if_pos (by have := hn.out; omega)]
          have hg : (16 : Int) < (k : Int) := by omega
          go_wp2
          go_ret2
          exact ⟨by rw [E.out]; rfl, I.out.2⟩
  · have e : chA u ks = #[.string ⟨#[]⟩, .int .i64 3] := by unfold chA; rw [if_neg (fun h => hu h.1)]
    rw [e]
    have hz1 : ((u.size : Int) != 32) = true := by simp; omega
    clear hu e
    go_enter Tryz.func57, Tryz.ntmps57
    go_wp2
    go_ret2
    exact ⟨rfl, Below.refl _ _⟩
end Go.Proofs.YtckfplpiakbbdaaGreatDoor.Crv
namespace Go.Proofs.YtckfplpiakbbdaaGreatDoor
open Go.RowKit Go.Proofs.Fd Go.Proofs.Hs Go.Proofs.Cc Go.Proofs.Hd Go.Proofs.Rt
set_option maxRecDepth 20000
def KyAt (w : World) (a : Option Addr) (ss : List ByteArray) : Prop := ∀ i, i < ss.length → ∃ b o, a = some ⟨b, o, none⟩
    ∧ w.cell? ⟨b, o + i * 5, none⟩ = some (.string (hdk (nth ss i) lFlow 32)) ∧ w.cell? ⟨b, o + i * 5 + 1, none⟩ = some (.string (hdk (nth ss i) lMac 32)) ∧ w.cell? ⟨b, o + i * 5 + 2, none⟩ = some (.string (hdk (nth ss i) lBody 32))
    ∧ w.cell? ⟨b, o + i * 5 + 3, none⟩ = some (.string (bld (nth ss i))) ∧ w.cell? ⟨b, o + i * 5 + 4, none⟩ = some (.string (hdk (nth ss i) lTag 16))
theorem KyAt.later {w w' : World} {a : Option Addr} {ss : List ByteArray} (h : KyAt w a ss) (hb : Below w.heap.size w w') : KyAt w' a ss := fun i hi => by
  obtain ⟨b, o, ha, c0, c1, c2, c3, c4⟩ := h i hi
  exact ⟨b, o, ha, cell_later hb c0, cell_later hb c1, cell_later hb c2, cell_later hb c3, cell_later hb c4⟩
theorem fbs_with (ss : List ByteArray) (i m : Nat) (hi : i ≤ 4) (hm : m + 40 * (i + 1) = 240) : (⟨(xorl (fbs ss i ++ zba 40).data.toList ((hfl (nth ss i)).extract m 240).data.toList).toArray⟩ : ByteArray) = fbs ss (i + 1) := by
  unfold fbs hfl
  rw [fil_succ, ba_app, zba_data, ba_cut, show 240 - 40 * (i + 1) = m by omega, List.take_of_length_le (by rw [List.length_drop, hflow_len]; omega)]
set_option maxHeartbeats 1000000 in
theorem rfiller_any (a : Option Addr) (ss : List ByteArray) (L cap : Nat) (hL : Hid (ss.length = L)) (h5 : L ≤ 5) (n : Nat) (hn : n ≤ L) (w : World) (hc : Hid (KyAt w a ss)) :
    Calls Tryz.prog 33 #[.slice a L cap, .int .i64 (n : Int)] w fun e w' => e = .returned (.string (fbs ss n)) ∧ Below w.heap.size w w' := by
  induction n generalizing w with
  | zero =>
    go_enter Tryz.func33, Tryz.ntmps33
    go_wp2
    go_ret
    exact ⟨by rw [fbs_zero]; rfl, Below.refl _ _⟩
  | succ k ih =>
    have IH : Hid (∀ w', Below w.heap.size w w' → Calls Tryz.prog 33 #[.slice a L cap, .int .i64 (k : Int)] w' fun e w'' => e = .returned (.string (fbs ss k)) ∧ Below w'.heap.size w' w'') := fun w' hb => ih (by omega) w' (hc.out.later hb)
    have Z40 : Hid (∀ w, Calls Tryz.prog 30 #[.int .i64 40] w fun e w' => e = .returned (.string (zba 40)) ∧ Below w.heap.size w w') := fun w => rzeros_any 40 (by decide) w
    have FL : Hid (∀ w, Calls Tryz.prog 32 #[kv (nth ss k)] w fun e w' => e = .returned (.string (hfl (nth ss k))) ∧ Below w.heap.size w w') := fun w => rflow_any (nth ss k) w
    obtain ⟨m, hm⟩ : ∃ m, m + 40 * (k + 1) = 240 := ⟨200 - 40 * k, by omega⟩
    obtain ⟨G, hG⟩ : ∃ G : ByteArray, fbs ss k ++ zba 40 = G := ⟨_, rfl⟩
    have zF := fbs_size ss k (by omega)
    have zG : G.size = 40 * (k + 1) := by rw [← hG, ba_add, zF, zba_size]; omega
    have zH := hfl_size (nth ss k)
    have WI : Hid (∀ w, Calls Tryz.prog 31 #[.string G, .string ((hfl (nth ss k)).extract m 240)] w fun e w' => e = .returned (.string (fbs ss (k + 1))) ∧ Below w.heap.size w w') := fun w => by
      have h := rWith_le G ((hfl (nth ss k)).extract m 240) (by rw [ByteArray.size_extract, zH, zG]; omega) (by omega) w
      rw [← hG, fbs_with ss k m (by omega) hm] at h
      rw [← hG]
      exact h
    have A1 : ∀ w, (Op.stringOp .add (fbs ss k) (zba 40)).run Tryz.prog w = .ok (.string G) w := fun w => by
      rw [← hG]; exact run_string_add_sum _ _ _ (by rw [zF, zba_size]; omega)
    have s1 : IntKind.i64.wrap (240 - (G.size : Int)) = (m : Int) := by rw [IntKind.wrap_i64]; omega
    have s2 : wrap64 (240 - (G.size : Int)) = (m : Int) := by unfold wrap64; omega
    have s3 : IntKind.i64.wrap ((k : Int) + 1 - 1) = (k : Int) := by rw [IntKind.wrap_i64]; omega
    have s4 : wrap64 ((k : Int) + 1 - 1) = (k : Int) := by unfold wrap64; omega
    have s5 : ((k : Int) + 1 == 0) = false := by rw [beq_eq_false_iff_ne]; omega
    have g1 : (k : Int) < (L : Int) := by omega
    have g2 : (0 : Int) ≤ (k : Int) := by omega
    have m240 : (m : Int) ≤ 240 := by omega
    have HC : Hid (∀ w', Below w.heap.size w w' → KyAt w' a ss) := fun w' h => hc.out.later h
    have HK : Hid (k < ss.length) := (show k < ss.length by rw [hL.out]; omega)
    rw [show ((k + 1 : Nat) : Int) = (k : Int) + 1 by omega]
    unfold kv at FL
    generalize fbs ss (k + 1) = R at *
    obtain ⟨F, hF⟩ : ∃ F : ByteArray, fbs ss k = F := ⟨_, rfl⟩
    rw [hF] at A1 IH
    obtain ⟨H, hH⟩ : ∃ H : ByteArray, hfl (nth ss k) = H := ⟨_, rfl⟩
    rw [hH] at FL WI zH
    generalize zba 40 = Z at *
    have zHi : (H.size : Int) = 240 := by omega
    clear hF hH hG zF zG ih hc
    go_enter Tryz.func33, Tryz.ntmps33
    go_wp2_with fail
    refine Calls.mono (IH.out _ (Below.refl _ _)) ?_
    rintro e w1 ⟨rfl, hb1⟩
    have B1 : Hid (Below w.heap.size w w1) := hb1
    clear hb1 IH
    go_wp2_with fail
    refine Calls.mono (Z40.out _) ?_
    rintro e w2 ⟨rfl, hb2⟩
    have B2 : Hid (Below w.heap.size w w2) := chain B1.out hb2
    clear hb2 Z40 B1
    obtain ⟨b, o, rfl, c0, c1, c2, c3, c4⟩ := HC.out w2 B2.out k HK.out
    generalize nth ss k = s at *
    generalize hdk s lFlow 32 = k0 at *
    generalize hdk s lMac 32 = k1 at *
    generalize hdk s lBody 32 = k2 at *
    generalize bld s = k3 at *
    generalize hdk s lTag 16 = k4 at *
    go_wp2_with fail
    refine Calls.mono (FL.out _) ?_
    rintro e w3 ⟨rfl, hb3⟩
    have B3 : Hid (Below w.heap.size w w3) := chain B2.out hb3
    clear hb3 FL B2 c0 c1 c2 c3 c4
    go_wp2_with fail
    refine Calls.mono (WI.out _) ?_
    rintro e w4 ⟨rfl, hb4⟩
    have B4 : Hid (Below w.heap.size w w4) := chain B3.out hb4
    clear hb4 WI B3
    go_wp2
    go_ret
    exact ⟨rfl, B4.out⟩
end Go.Proofs.YtckfplpiakbbdaaGreatDoor
namespace Go.Proofs.YtckfplpiakbbdaaGreatDoor
open Go.RowKit Go.Proofs.Fd Go.Proofs.Hs Go.Proofs.Cc Go.Proofs.Hd Go.Proofs.Rt
set_option maxRecDepth 20000
def ycell (s : ByteArray) : List Value := [.string (hdk s lFlow 32), .string (hdk s lMac 32), .string (hdk s lBody 32), .string (bld s), .string (hdk s lTag 16)]
def ycells (l : List ByteArray) : List Value := l.flatMap ycell
theorem ycells_cons (s : ByteArray) (l : List ByteArray) : ycells (s :: l) = .string (hdk s lFlow 32) :: .string (hdk s lMac 32) :: .string (hdk s lBody 32) :: .string (bld s) :: .string (hdk s lTag 16) :: ycells l := by
  unfold ycells; rw [List.flatMap_cons]; unfold ycell; rw [List.cons_append, List.cons_append, List.cons_append, List.cons_append, List.cons_append, List.nil_append]
theorem ycells_snoc (l : List ByteArray) (s : ByteArray) : ycells (l ++ [s]) = ycells l ++ ycell s := by
  unfold ycells; rw [List.flatMap_append, List.flatMap_cons, List.flatMap_nil, List.append_nil]
theorem ycells_len (l : List ByteArray) : (ycells l).length = l.length * 5 := by
  induction l with
  | nil => rfl
  | cons h l ih => rw [ycells_cons]; simp only [List.length_cons, ih]; omega
theorem ycells_at (l : List ByteArray) (i : Nat) (hi : i < l.length) : (ycells l)[i * 5]? = some (.string (hdk (nth l i) lFlow 32)) ∧ (ycells l)[i * 5 + 1]? = some (.string (hdk (nth l i) lMac 32)) ∧ (ycells l)[i * 5 + 2]? = some (.string (hdk (nth l i) lBody 32)) ∧ (ycells l)[i * 5 + 3]? = some (.string (bld (nth l i))) ∧ (ycells l)[i * 5 + 4]? = some (.string (hdk (nth l i) lTag 16)) := by
  induction l generalizing i with
  | nil => simp at hi
  | cons h l ih =>
    rw [ycells_cons]
    cases i with
    | zero => exact ⟨by simp [nth], by simp [nth], by simp [nth], by simp [nth], by simp [nth]⟩
    | succ i =>
      have := ih i (by simpa using hi)
      have e : (i + 1) * 5 = i * 5 + 5 := by omega
      have e2 : nth (h :: l) (i + 1) = nth l i := by unfold nth; rw [List.getD_cons_succ]
      rw [e, e2]
      simpa using this
theorem owns_kys {w : World} {base n : Nat} {v : Value} {l : List ByteArray} (h : w.ownsRow base 23 5 v n (ycells l)) : l.length = n ∧ ((v = .slice none 0 0 ∧ n = 0) ∨ ∃ g cap, v = .slice (some ⟨g, 0, none⟩) n cap ∧ KyAt w (some ⟨g, 0, none⟩) l ∧ base ≤ g ∧ g < w.heap.size ∧ n ≤ cap ∧ cap ≤ maxLen) := by
  obtain ⟨h1, h2⟩ := h
  have hl : l.length = n := by rw [ycells_len] at h1; omega
  refine ⟨hl, ?_⟩
  rcases h2 with h2 | ⟨g, cap, cur, rfl, hb, hh, hcap, hml, -, ht⟩
  · exact .inl h2
  · have hg : g < w.heap.size := by obtain ⟨q, -⟩ := Array.getElem?_eq_some_iff.1 hh; exact q
    refine .inr ⟨g, cap, rfl, fun i hi => ⟨g, 0, rfl, ?_⟩, hb, hg, hcap, hml⟩
    have key : ∀ j, j < n * 5 → w.cell? ⟨g, 0 + j, none⟩ = (ycells l)[j]? := fun j hj => by
      have e : cur[j]? = (ycells l)[j]? := by
        rw [← ht, List.getElem?_take_of_lt hj]; simp
      rw [Nat.zero_add]
      unfold World.cell?
      rw [hh]
      simp only [Option.isSome_none]
      show cur[j]? = _
      rw [e]
    obtain ⟨g0, g1, g2, g3, g4⟩ := ycells_at l i hi
    refine ⟨?_, ?_, ?_, ?_, ?_⟩
    · rw [key (i * 5) (by omega)]; exact g0
    · rw [Nat.add_assoc, key (i * 5 + 1) (by omega)]; exact g1
    · rw [Nat.add_assoc, key (i * 5 + 2) (by omega)]; exact g2
    · rw [Nat.add_assoc, key (i * 5 + 3) (by omega)]; exact g3
    · rw [Nat.add_assoc, key (i * 5 + 4) (by omega)]; exact g4
theorem infoKy : (Tryz.prog.info? 23).map (fun i => (i.zero, i.size, i.bytes)) = some (some (.agg #[.string ⟨#[]⟩, .string ⟨#[]⟩, .string ⟨#[]⟩, .string ⟨#[]⟩, .string ⟨#[]⟩]), 5, 80) := by kernel_rfl
def ScP (w w' : World) (seed : ByteArray) (pts : List ByteArray) (n : Nat) (e : Ending) : Prop :=
  (secs seed pts [] = none → e = .returned (.tuple #[.slice none 0 0, .int .i64 20])) ∧ (∀ ss, secs seed pts [] = some ss → ∃ v, e = .returned (.tuple #[v, .int .i64 0]) ∧ w'.ownsRow w.heap.size 23 5 v n (ycells ss)) ∧ Below w.heap.size w w'
theorem blds_succ (ss : List ByteArray) (q : Nat) (hq : q < ss.length) : scells ((ss.take (q + 1)).map bld) = scells ((ss.take q).map bld) ++ [.string (bld (nth ss q))] := by
  rw [List.take_succ_eq_append_getElem hq, List.map_append]
  unfold scells nth
  rw [List.map_append, List.getD_eq_getElem?_getD, List.getElem?_eq_getElem hq]
  rfl
set_option maxHeartbeats 1000000 in
theorem rsecrets_any (seed : ByteArray) (zs : Hid (seed.size = 32)) (a : Option Addr) (pts : List ByteArray) (n cap : Nat) (hn : Hid (pts.length = n)) (h5 : n ≤ 5) (hw : Hid (Crv.wh pts = true)) (w : World) (hc : Hid (StrAt w a pts)) :
    Calls Tryz.prog 28 #[.string seed, .slice a n cap] w fun e w' => ScP w w' seed pts n e := by
  obtain ⟨i6, hi6, hz60, hz61, hz62⟩ := info_parts infoKy
  obtain ⟨i7, hi7, hz70, hz71, hz72⟩ := info_parts infoStr
  go_enter Tryz.func28, Tryz.ntmps28
  go_wp2_with fail
  go_loopw [6, 7] (fun v6 iv wr => ∃ (k : Nat) (ss : List ByteArray), k ≤ n ∧ iv = .int .i64 (k : Int) ∧ Hid (Made seed pts k ss ∧ wr.ownsRow w.heap.size 23 5 v6 k (ycells ss) ∧ Below w.heap.size w wr)) (fun _ iv _ => n - (intOf iv).toNat)
  case atStart => exact ⟨0, [], Nat.zero_le _, rfl, Made.zero _ _, ⟨rfl, .inl ⟨rfl, rfl⟩⟩, Below.refl _ _⟩
  case round =>
    obtain ⟨k, ss, hk, rfl, I⟩ := hrel
    by_cases hlt : k < n
    · have g1 : (k : Int) < (n : Int) := by omega
      have hk' : k < pts.length := by have := hn.out; omega
      have lss : Hid (ss.length = k) := I.out.1.1
      go_wp2_with fail
      obtain ⟨A, hA⟩ : ∃ A, wr.alloc (.cells #[.string seed] 9) = A := ⟨_, rfl⟩
      have J0 : Hid (A.ownsRow w.heap.size 23 5 u6 k (ycells ss) ∧ A.ownsRow w.heap.size 9 1 (.slice (some ⟨wr.heap.size, 0, none⟩) 1 1) 1 (scells [seed]) ∧ Below w.heap.size w A) := by
        rw [← hA]
        exact ⟨own_lat I.out.2.1 ((Below.refl _ _).alloc (Nat.le_refl _) _), owns_new wr w.heap.size 9 1 [.string seed] I.out.2.2.size rfl, I.out.2.2.alloc I.out.2.2.size _⟩
      have M0 : Hid (Made seed pts k ss) := I.out.1
      rw [hA]
      clear hA I
      generalize wr.heap.size = g0 at *
      go_loopw [8, 9] (fun v8 iv wx => ∃ q : Nat, q ≤ k ∧ iv = .int .i64 (q : Int) ∧ Hid (wx.ownsRow w.heap.size 23 5 u6 k (ycells ss) ∧ wx.ownsRow w.heap.size 9 1 v8 (q + 1) (scells (seed :: (ss.take q).map bld)) ∧ Below w.heap.size w wx)) (fun _ iv _ => k - (intOf iv).toNat)
      case atStart => exact ⟨0, Nat.zero_le _, rfl, J0.out⟩
      case round =>
        obtain ⟨q, hq, rfl, I⟩ := hrel
        clear J0
        by_cases hqk : q < k
        · have g2 : (q : Int) < (k : Int) := by omega
          obtain ⟨g6, c6, hu6, hky⟩ : ∃ g c, u6 = Value.slice (some ⟨g, 0, none⟩) k c ∧ KyAt wr (some ⟨g, 0, none⟩) ss := by
            obtain ⟨-, hor⟩ := owns_kys I.out.1
            rcases hor with ⟨e1, e2⟩ | ⟨g, c, e1, e2, -⟩
            · omega
            · exact ⟨g, c, e1, e2⟩
          subst hu6
          obtain ⟨b', o', he, d0, d1, d2, d3, d4⟩ := hky q (by rw [lss.out]; exact hqk)
          cases he
          simp only [Nat.zero_add] at d3
          have BS : Hid (scells (seed :: (ss.take (q + 1)).map bld) = scells (seed :: (ss.take q).map bld) ++ [.string (bld (nth ss q))]) := by
            have := blds_succ ss q (by rw [lss.out]; exact hqk)
            unfold scells at this ⊢
            rw [List.map_cons, List.map_cons, this]
            rfl
          generalize bld (nth ss q) = X at *
          clear hky d0 d1 d2 d4
          go_wp2_with (first
            | (at_builtin; refine wpList_append_own _ rfl _ _ 30 rfl w.heap.size 9 i7 (.string ⟨#[]⟩) 1 16 Tryz.underlying30 hi7 hz70 hz71 hz72 rfl (by decide) _ _ _ rfl (I.out.2.1.alloc _) ⟨wr.heap.size, 0, none⟩ 1 1 [.string X] rfl rfl (cells_new _ _ _) (by intro u hu; simp at hu; subst hu; rfl) (by unfold maxLen; omega) (by omega) (by have := I.out.2.2.size; simp; omega) ?_; intro v1 w4 hown1 hgrow1 hnil1))
          have O4 : Hid (w4.ownsRow w.heap.size 23 5 (Value.slice (some ⟨g6, 0, none⟩) k c6) k (ycells ss) ∧ w4.ownsRow w.heap.size 9 1 v1 (q + 1 + 1) (scells (seed :: (ss.take (q + 1)).map bld)) ∧ Below w.heap.size w w4) := by
            refine ⟨own_apart (own_lat I.out.1 ((Below.refl _ _).alloc (Nat.le_refl _) _)) (I.out.2.1.alloc _) (by decide) hgrow1, ?_, (I.out.2.2.alloc I.out.2.2.size _).grown hgrow1 (by have := I.out.2.2.size; simp; omega) (fun j hj => (I.out.2.1.lt j hj).1)⟩
            rw [BS.out]; exact hown1
          clear hown1 hgrow1 hnil1 I BS d3
          go_wp2
          exact ⟨⟨q + 1, by omega, by go_num, O4.out⟩, by simp [intOf]; omega⟩
        · obtain rfl : q = k := by omega
          have g2 : ¬ (q : Int) < (q : Int) := by omega
          have TK : Hid ((ss.take q).map bld = ss.map bld) := (show _ = _ by rw [List.take_of_length_le (by rw [lss.out]; exact Nat.le_refl _)])
          rw [TK.out] at I
          clear TK
          obtain ⟨b, o, rfl, hcell⟩ := StrAt.later hc.out I.out.2.2 rfl q hk'
          obtain ⟨p, hp⟩ : ∃ p, pts[q] = p := ⟨_, rfl⟩
          rw [hp] at hcell
          have zp : Hid (p.size = 32) := by rw [← hp]; exact Crv.wh_mem hw.out q hk'
          obtain ⟨g7, c7, hv7, hst⟩ : ∃ g c, u8 = Value.slice (some ⟨g, 0, none⟩) (q + 1) c ∧ StrAt wr (some ⟨g, 0, none⟩) (seed :: ss.map bld) := by
            obtain ⟨-, hor⟩ := owns_strs I.out.2.1
            rcases hor with ⟨e1, e2⟩ | ⟨g, c, e1, e2⟩
            · omega
            · exact ⟨g, c, e1, e2⟩
          subst hv7
          have CH : Hid (Calls Tryz.prog 57 #[.string p, .slice (some ⟨g7, 0, none⟩) (q + 1) c7] wr fun e w' => e = .returned (.tuple (Crv.och (Crv.chn (seed :: ss.map bld) p))) ∧ Below wr.heap.size wr w') := by
            have lk : (seed :: ss.map bld).length = q + 1 := by simp [lss.out]
            have h := Crv.rChain_all p (some ⟨g7, 0, none⟩) (seed :: ss.map bld) (q + 1) c7 lk (by omega) wr hst
            unfold Crv.chA at h
            rw [if_pos ⟨zp.out, wh_blds seed ss zs.out⟩, if_neg (by rw [lk]; omega)] at h
            exact h
          clear hst
          cases hch : Crv.chn (seed :: ss.map bld) p with
          | none =>
            have FN : Hid (secs seed pts [] = none) := M0.out.none hk' (by rw [hp]; exact hch)
            rw [hch] at CH
            have CH' : Hid (Calls Tryz.prog 57 #[.string p, .slice (some ⟨g7, 0, none⟩) (q + 1) c7] wr fun e w' => e = .returned (.tuple #[.string ⟨#[]⟩, .int .i64 20]) ∧ Below wr.heap.size wr w') := CH
            clear CH hch hp
            go_wp2_with fail
            refine Calls.mono CH'.out ?_
            rintro e w1 ⟨rfl, hb1⟩
            have B1 : Hid (Below w.heap.size w w1) := chain I.out.2.2 hb1
            clear hb1 CH'
            go_wp2
            go_ret2
            exact ⟨fun _ => rfl, fun ss h => by rw [FN.out] at h; (cases h), B1.out⟩
          | some s =>
            have FS : Hid (Made seed pts (q + 1) (ss ++ [s])) := M0.out.succ hk' s (by rw [hp]; exact hch)
            have OF : Hid (∀ w, Calls Tryz.prog 11 #[.string s] w fun e w' => e = .returned (kv s) ∧ Below w.heap.size w w') := fun w => rOf_any s (by
              have := Crv.chn_size _ _ _ zp.out hch
              show s.size + 64 ≤ _
              omega) w
            rw [hch] at CH
            have CH' : Hid (Calls Tryz.prog 57 #[.string p, .slice (some ⟨g7, 0, none⟩) (q + 1) c7] wr fun e w' => e = .returned (.tuple #[.string s, .int .i64 0]) ∧ Below wr.heap.size wr w') := CH
            unfold kv at OF
            have KS : Hid (ycells (ss ++ [s]) = ycells ss ++ ycell s) := ycells_snoc ss s
            unfold ycell at KS
            clear CH hch hp
            go_wp2_with fail
            refine Calls.mono CH'.out ?_
            rintro e w1 ⟨rfl, hb1⟩
            have J1 : Hid (w1.ownsRow w.heap.size 23 5 u6 q (ycells ss) ∧ Below w.heap.size w w1) := ⟨own_lat I.out.1 hb1, chain I.out.2.2 hb1⟩
            clear hb1 CH' I hcell
            go_wp2_with fail
            refine Calls.mono (OF.out _) ?_
            rintro e w2 ⟨rfl, hb2⟩
            have J2 : Hid (w2.ownsRow w.heap.size 23 5 u6 q (ycells ss) ∧ Below w.heap.size w w2) := ⟨own_lat J1.out.1 hb2, chain J1.out.2 hb2⟩
            clear hb2 J1 OF
            generalize hdk s lFlow 32 = k0 at *
            generalize hdk s lMac 32 = k1 at *
            generalize hdk s lBody 32 = k2 at *
            generalize bld s = k3 at *
            generalize hdk s lTag 16 = k4 at *
            go_wp2_with (first
              | (at_builtin; refine wpList_append_own _ rfl _ _ 32 rfl w.heap.size 23 i6 _ 5 80 Tryz.underlying32 hi6 hz60 hz61 hz62 rfl (by decide) _ _ _ rfl (J2.out.1.alloc _) ⟨w2.heap.size, 0, none⟩ 1 1 [.string k0, .string k1, .string k2, .string k3, .string k4] rfl rfl (cells_new _ _ _) (by intro u hu; simp at hu; rcases hu with rfl | rfl | rfl | rfl | rfl <;> rfl) (by unfold maxLen; omega) (by omega) (by have := J2.out.2.size; simp; omega) ?_; intro v1 w4 hown1 hgrow1 hnil1))
            have O4 : Hid (Made seed pts (q + 1) (ss ++ [s]) ∧ w4.ownsRow w.heap.size 23 5 v1 (q + 1) (ycells (ss ++ [s])) ∧ Below w.heap.size w w4) := by
              refine ⟨FS.out, ?_, (J2.out.2.alloc J2.out.2.size _).grown hgrow1 (by have := J2.out.2.size; simp; omega) (fun j hj => (J2.out.1.lt j hj).1)⟩
              rw [KS.out]; exact hown1
            clear hown1 hgrow1 hnil1 J2 KS FS
            go_wp2
            exact ⟨⟨q + 1, ss ++ [s], by omega, by go_num, O4.out⟩, by simp [intOf]; omega⟩
    · obtain rfl : k = n := by omega
      have g1 : ¬ (k : Int) < (k : Int) := by omega
      have FS : Hid (secs seed pts [] = some ss) := Made.all (by rw [hn.out]; exact I.out.1)
      go_wp2
      go_ret2
      exact ⟨fun h => by rw [FS.out] at h; (cases h), fun ss' h => by rw [FS.out] at h; cases h; exact ⟨_, rfl, I.out.2.1⟩, I.out.2.2⟩
end Go.Proofs.YtckfplpiakbbdaaGreatDoor
namespace Go.Proofs.YtckfplpiakbbdaaGreatDoor
open Go.RowKit Go.Proofs.Fd Go.Proofs.Hs Go.Proofs.Cc Go.Proofs.Hd Go.Proofs.Rt
set_option maxRecDepth 20000
theorem ba_assoc (a b c : ByteArray) : a ++ b ++ c = a ++ (b ++ c) := by
  apply ByteArray.ext
  apply Array.toList_inj.1
  rw [ba_app, ba_app, ba_app, ba_app, List.append_assoc]
theorem hfl_data (s : ByteArray) : (hfl s).data.toList = hflow s := by unfold hfl; simp
theorem htn_fl (s t : ByteArray) : (⟨(xorl t.data.toList (hfl s).data.toList).toArray⟩ : ByteArray) = htn s t := by rw [hfl_data]; unfold htn; with_reducible rfl
theorem Lb_with0 (seed : ByteArray) (ss : List ByteArray) (hs : List Hp) (h : hs.all ok = true) (hn : 1 ≤ hs.length ∧ hs.length ≤ 5) (m f : Nat) (hm : m + 1 = hs.length) (hf : f + 40 * m = 200) :
    (⟨(xorl ((⟨(byt (hs.getD m zh)).toArray⟩ ++ zba 16 ++ hdk seed lPad 200).extract 0 f).data.toList (hfl (nth ss m)).data.toList).toArray⟩ : ByteArray) ++ fbs ss m = Lb seed ss hs 0 := by
  have e := Lb_step seed ss hs h hn m 0 m hm (by omega)
  rw [En_size ss m (by omega) 0, if_pos rfl, show 200 - 40 * m = f by omega, Ins_zero, ← ba_assoc] at e
  rw [htn_fl]
  exact e
theorem Lb_with (seed : ByteArray) (ss : List ByteArray) (hs : List Hp) (h : hs.all ok = true) (hn : 1 ≤ hs.length ∧ hs.length ≤ 5) (m j i : Nat) (hm : m + 1 = hs.length) (hi : i + (j + 1) = m) :
    (⟨(xorl (⟨(byt (hs.getD i zh)).toArray⟩ ++ hmb (nth ss (i + 1)) (Lb seed ss hs j) ++ (Lb seed ss hs j).extract 0 160).data.toList (hfl (nth ss i)).data.toList).toArray⟩ : ByteArray) = Lb seed ss hs (j + 1) := by
  have e := Lb_step seed ss hs h hn m (j + 1) i hm (by omega)
  have e0 : En ss m (j + 1) = ⟨#[]⟩ := rfl
  have zl := Lb_size seed ss hs h hn j (by omega)
  have zc : (⟨(byt (hs.getD i zh)).toArray⟩ : ByteArray).size = 24 := by rw [ba_sz]; exact byt_len' hs h i
  have zm := hmb_size (nth ss (i + 1)) (Lb seed ss hs j)
  rw [e0, Ins_succ, show hs.length - 1 - j = i + 1 by omega] at e
  rw [htn_fl, ← e]
  generalize Lb seed ss hs j = L at *
  generalize hmb (nth ss (i + 1)) L = M at *
  generalize (⟨(byt (hs.getD i zh)).toArray⟩ : ByteArray) = C at *
  have x : C ++ M ++ L.extract 0 160 = (C ++ (M ++ L)).extract 0 (200 - (⟨#[]⟩ : ByteArray).size) := by
    apply ByteArray.ext
    apply Array.toList_inj.1
    rw [ByteArray.data_extract, Array.toList_extract, List.extract_eq_take_drop, List.drop_zero, ba_app, ba_app, ba_app, ba_app, ← List.append_assoc, ByteArray.data_extract, Array.toList_extract, List.extract_eq_take_drop, List.drop_zero, List.take_append, List.length_append, list_sz, list_sz, zc, zm, List.take_of_length_le (l := C.data.toList ++ M.data.toList) (by rw [List.length_append, list_sz, list_sz, zc, zm]; decide)]
    rfl
  rw [x]
  apply ByteArray.ext
  apply Array.toList_inj.1
  rw [ba_app]
  show _ = _ ++ []
  rw [List.append_nil]
theorem head_all (seed : ByteArray) (ss : List ByteArray) (hs : List Hp) (m : Nat) (hm : m + 1 = hs.length) : ptB seed [] ++ hmb (nth ss 0) (Lb seed ss hs m) ++ Lb seed ss hs m = ⟨(hhead seed ss hs 0).toArray⟩ := by
  have e := Ins_all seed ss hs (by omega)
  rw [← hm] at e
  rw [Ins_succ, show hs.length - 1 - m = 0 by omega] at e
  rw [ba_assoc]
  exact e
end Go.Proofs.YtckfplpiakbbdaaGreatDoor
namespace Go.Proofs.YtckfplpiakbbdaaGreatDoor
open Go.RowKit Go.Proofs.Fd Go.Proofs.Hs Go.Proofs.Cc Go.Proofs.Hd Go.Proofs.Rt
set_option maxRecDepth 20000
set_option maxHeartbeats 1000000 in
theorem rmake_path (seed : ByteArray) (a : Option Addr) (n cap : Nat) (b : Option Addr) (m cap2 : Nat) (w : World) (e : Int) (he : ¬ e = 0)
    (PA : Hid (Calls Tryz.prog 27 #[.slice b m cap2] w fun x w' => x = .returned (.int .i64 e) ∧ Below w.heap.size w w')) :
    Calls Tryz.prog 13 #[.string seed, .slice a n cap, .slice b m cap2] w fun x w' => x = .returned (.tuple #[.string ⟨#[]⟩, .slice none 0 0, .int .i64 e]) ∧ Below w.heap.size w w' := by
  go_enter Tryz.func13, Tryz.ntmps13
  go_wp2_with fail
  refine Calls.mono PA.out ?_
  rintro x w1 ⟨rfl, hb1⟩
  have B1 : Hid (Below w.heap.size w w1) := hb1
  clear hb1 PA
  go_wp2
  go_ret3
  exact ⟨rfl, B1.out⟩
set_option maxHeartbeats 1000000 in
theorem rmake_shape (seed : ByteArray) (a : Option Addr) (n cap : Nat) (b : Option Addr) (m cap2 : Nat) (w : World) (he : ¬ n = m)
    (PA : Hid (Calls Tryz.prog 27 #[.slice b m cap2] w fun x w' => x = .returned (.int .i64 0) ∧ Below w.heap.size w w')) :
    Calls Tryz.prog 13 #[.string seed, .slice a n cap, .slice b m cap2] w fun x w' => x = .returned (.tuple #[.string ⟨#[]⟩, .slice none 0 0, .int .i64 4]) ∧ Below w.heap.size w w' := by
  have g1 : ((n : Int) != (m : Int)) = true := by simp; omega
  go_enter Tryz.func13, Tryz.ntmps13
  go_wp2_with fail
  refine Calls.mono PA.out ?_
  rintro x w1 ⟨rfl, hb1⟩
  have B1 : Hid (Below w.heap.size w w1) := hb1
  clear hb1 PA
  go_wp2
  go_ret3
  exact ⟨rfl, B1.out⟩
set_option maxHeartbeats 1000000 in
theorem rmake_seed (seed : ByteArray) (a : Option Addr) (n cap : Nat) (b : Option Addr) (cap2 : Nat) (w : World) (he : ¬ seed.size = 32)
    (PA : Hid (Calls Tryz.prog 27 #[.slice b n cap2] w fun x w' => x = .returned (.int .i64 0) ∧ Below w.heap.size w w')) :
    Calls Tryz.prog 13 #[.string seed, .slice a n cap, .slice b n cap2] w fun x w' => x = .returned (.tuple #[.string ⟨#[]⟩, .slice none 0 0, .int .i64 3]) ∧ Below w.heap.size w w' := by
  have g1 : ((n : Int) != (n : Int)) = false := by simp
  have g2 : ((seed.size : Int) != 32) = true := by simp; omega
  go_enter Tryz.func13, Tryz.ntmps13
  go_wp2_with fail
  refine Calls.mono PA.out ?_
  rintro x w1 ⟨rfl, hb1⟩
  have B1 : Hid (Below w.heap.size w w1) := hb1
  clear hb1 PA
  go_wp2
  go_ret3
  exact ⟨rfl, B1.out⟩
def MkP (w w' : World) (seed : ByteArray) (pts : List ByteArray) (hs : List Hp) (e : Ending) : Prop :=
  (Crv.wh pts = false → e = .returned (.tuple #[.string ⟨#[]⟩, .slice none 0 0, .int .i64 3])) ∧ (Crv.wh pts = true → secs seed pts [] = none → e = .returned (.tuple #[.string ⟨#[]⟩, .slice none 0 0, .int .i64 20]))
  ∧ (Crv.wh pts = true → ∀ ss, secs seed pts [] = some ss → ∃ v, e = .returned (.tuple #[.string ⟨(hhead seed ss hs 0).toArray⟩, v, .int .i64 0]) ∧ KeysAt w' v ss) ∧ Below w.heap.size w w'
set_option maxHeartbeats 2000000 in
theorem rmake_main (seed : ByteArray) (zs : seed.size = 32) (a : Option Addr) (pts : List ByteArray) (n cap : Nat) (b : Option Addr) (hs : List Hp) (cap2 : Nat) (w : World) (hl : Hid (pts.length = n ∧ hs.length = n)) (h1 : 1 ≤ n) (h5 : n ≤ 5) (hok : Hid (hs.all ok = true)) (hc : Hid (StrAt w a pts)) (hp : Hid (HopsAt w b hs))
    (PA : Hid (Calls Tryz.prog 27 #[.slice b n cap2] w fun x w' => x = .returned (.int .i64 0) ∧ Below w.heap.size w w')) :
    Calls Tryz.prog 13 #[.string seed, .slice a n cap, .slice b n cap2] w fun x w' => MkP w w' seed pts hs x := by
  have g1 : ((n : Int) != (n : Int)) = false := by simp
  have g2 : ((seed.size : Int) != 32) = false := by simp; omega
  obtain ⟨m, hm⟩ : ∃ m : Nat, m + 1 = n := ⟨n - 1, by omega⟩
  go_enter Tryz.func13, Tryz.ntmps13
  go_wp2_with fail
  refine Calls.mono PA.out ?_
  rintro x w1 ⟨rfl, hb1⟩
  have B1 : Hid (Below w.heap.size w w1) := hb1
  clear hb1 PA
  go_wp2_with fail
  go_loopw [10] (fun iv wr => ∃ k : Nat, k ≤ n ∧ iv = .int .i64 (k : Int) ∧ Hid (Crv.wh (pts.take k) = true ∧ Below w.heap.size w wr)) (fun iv _ => n - (intOf iv).toNat)
  case atStart => exact ⟨0, Nat.zero_le _, rfl, rfl, B1.out⟩
  case round =>
    obtain ⟨k, hk, rfl, I⟩ := hrel
    clear B1
    by_cases hlt : k < n
    · have hk' : k < pts.length := by have := hl.out.1; omega
      have g3 : (k : Int) < (n : Int) := by omega
      obtain ⟨pb, po, rfl, hcell⟩ := StrAt.later hc.out I.out.2 rfl k hk'
      have HT : Hid (pts[k].size = 32 → Crv.wh (pts.take (k + 1)) = true) := fun h => Crv.wh_take hk' I.out.1 h
      have HN : Hid (¬ pts[k].size = 32 → Crv.wh pts = false) := fun h => Crv.wh_not hk' h
      generalize pts[k] = s at *
      by_cases h0 : s.size = 32
      · have hz : ((s.size : Int) != 32) = false := by simp [h0]
        have FIN : Hid (Crv.wh (pts.take (k + 1)) = true) := HT.out h0
        clear h0
        go_wp2
        go_roundw
        case rel => exact ⟨k + 1, by omega, by go_num, FIN.out, I.out.2⟩
        case measure => simp [intOf]; omega
      · have hz : ((s.size : Int) != 32) = true := by simp; omega
        have FIN : Hid (Crv.wh pts = false) := HN.out h0
        clear h0
        go_wp2
        go_ret3
        exact ⟨fun _ => rfl, fun h => by rw [FIN.out] at h; (cases h), fun h => by rw [FIN.out] at h; (cases h), I.out.2⟩
    · obtain rfl : k = n := by omega
      have g3 : ¬ (k : Int) < (k : Int) := by omega
      have WH : Hid (Crv.wh pts = true) := by
        have := I.out.1; rw [List.take_of_length_le (by have := hl.out.1; omega)] at this; exact this
      have SC : Hid (Calls Tryz.prog 28 #[.string seed, .slice a k cap] wr fun e w' => ScP wr w' seed pts k e) := rsecrets_any seed zs a pts k cap hl.out.1 h5 WH wr (hc.out.later I.out.2 rfl)
      cases hsec : secs seed pts [] with
      | none =>
        have SN : Hid (Calls Tryz.prog 28 #[.string seed, .slice a k cap] wr fun e w' => e = .returned (.tuple #[.slice none 0 0, .int .i64 20]) ∧ Below wr.heap.size wr w') := SC.out.mono fun e w' h => ⟨h.1 hsec, h.2.2⟩
        have FS : Hid (secs seed pts [] = none) := hsec
        clear SC hsec
        go_wp2_with fail
        refine Calls.mono SN.out ?_
        rintro x w2 ⟨rfl, hb2⟩
        have B2 : Hid (Below w.heap.size w w2) := chain I.out.2 hb2
        clear hb2 SN
        go_wp2
        go_ret3
        exact ⟨fun h => by rw [WH.out] at h; (cases h), fun _ _ => rfl, fun _ ss h => by rw [FS.out] at h; (cases h), B2.out⟩
      | some ss =>
        have SN : Hid (Calls Tryz.prog 28 #[.string seed, .slice a k cap] wr fun e w' => ∃ g c, e = .returned (.tuple #[.slice (some ⟨g, 0, none⟩) k c, .int .i64 0]) ∧ k ≤ c ∧ c ≤ maxLen ∧ KyAt w' (some ⟨g, 0, none⟩) ss ∧ Below wr.heap.size wr w') := SC.out.mono fun e w' h => by
          obtain ⟨v, hv, ho⟩ := h.2.1 ss hsec
          obtain ⟨-, hor⟩ := owns_kys ho
          rcases hor with ⟨-, q⟩ | ⟨g, c, rfl, hky, -, -, hnc, hcm⟩
          · omega
          · exact ⟨g, c, hv, hnc, hcm, hky, h.2.2⟩
        have FS : Hid (secs seed pts [] = some ss) := hsec
        have LS : Hid (ss.length = k) := (show ss.length = k by rw [← hl.out.1]; exact secsG_len _ _ _ _ _ hsec)
        clear SC hsec
        go_wp2_with fail
        refine Calls.mono SN.out ?_
        rintro x w2 ⟨g, c, rfl, hkc, hcm, hky, hb2⟩
        have B2 : Hid (Below w.heap.size w w2 ∧ KyAt w2 (some ⟨g, 0, none⟩) ss ∧ k ≤ c ∧ c ≤ maxLen) := ⟨chain I.out.2 hb2, hky, hkc, hcm⟩
        clear hb2 SN hky I
        have QN : 1 ≤ hs.length ∧ hs.length ≤ 5 := by rw [hl.out.2]; exact ⟨h1, h5⟩
        have hmh : m + 1 = hs.length := by rw [hl.out.2]; exact hm
        obtain ⟨f, hf⟩ : ∃ f : Nat, f + 40 * m = 200 := ⟨200 - 40 * m, by omega⟩
        have s1 : wrap64 ((k : Int) - 1) = (m : Int) := by unfold wrap64; omega
        have s1' : IntKind.i64.wrap ((k : Int) - 1) = (m : Int) := by rw [IntKind.wrap_i64]; omega
        have s2 : wrap64 (40 * (m : Int)) = 40 * (m : Int) := by unfold wrap64; omega
        have s2' : IntKind.i64.wrap (40 * (m : Int)) = 40 * (m : Int) := by rw [IntKind.wrap_i64]; omega
        have s3 : wrap64 (200 - 40 * (m : Int)) = (f : Int) := by unfold wrap64; omega
        have s3' : IntKind.i64.wrap (200 - 40 * (m : Int)) = (f : Int) := by rw [IntKind.wrap_i64]; omega
        have s4 : wrap64 ((k : Int) - 2) = (m : Int) - 1 - ((0 : Nat) : Int) := by unfold wrap64; omega
        have s4' : IntKind.i64.wrap ((k : Int) - 2) = (m : Int) - 1 - ((0 : Nat) : Int) := by rw [IntKind.wrap_i64]; omega
        have gm : (m : Int) < (k : Int) := by omega
        have gm0 : (0 : Int) ≤ (m : Int) := by omega
        have gm1 : m < k := by omega
        have okx : ∀ i, i < k → ok (hs.getD i zh) = true := fun i hi => by
          rw [List.getD_eq_getElem?_getD, List.getElem?_eq_getElem (by rw [hl.out.2]; exact hi)]
          exact List.all_eq_true.1 hok.out _ (List.getElem_mem _)
        have BY : Hid (∀ i w, i < k → Calls Tryz.prog 29 #[hv (hs.getD i zh)] w fun e w' => e = .returned (.string ⟨(byt (hs.getD i zh)).toArray⟩) ∧ Below w.heap.size w w') := fun i w hi => rBytes_any _ (okx i hi) w
        have zC : ∀ i, i < k → (⟨(byt (hs.getD i zh)).toArray⟩ : ByteArray).size = 24 := fun i hi => by rw [ba_sz]; exact byt_len _ (okx i hi)
        have FL : Hid (∀ i w, Calls Tryz.prog 32 #[kv (nth ss i)] w fun e w' => e = .returned (.string (hfl (nth ss i))) ∧ Below w.heap.size w w') := fun i w => rflow_any _ w
        have MC : Hid (∀ i (l : ByteArray) w, l.size = 200 → Calls Tryz.prog 34 #[kv (nth ss i), .string l] w fun e w' => e = .returned (.string (hmb (nth ss i) l)) ∧ Below w.heap.size w w') := fun i l w hl => rmac_any _ l (by omega) w
        have Z16 : Hid (∀ w, Calls Tryz.prog 30 #[.int .i64 16] w fun e w' => e = .returned (.string (zba 16)) ∧ Below w.heap.size w w') := fun w => rzeros_any 16 (by decide) w
        have KP : Hid (∀ w, Calls Tryz.prog 23 #[.string seed, .string ⟨#[112, 97, 100]⟩, .int .i64 200] w fun e w' => e = .returned (.string (hdk seed lPad 200)) ∧ Below w.heap.size w w') := fun w => rhk seed lPad 200 (by decide) (by decide) (by show _ ≤ _; omega) w
        have FI : Hid (∀ w', KyAt w' (some ⟨g, 0, none⟩) ss → Calls Tryz.prog 33 #[.slice (some ⟨g, 0, none⟩) k c, .int .i64 (m : Int)] w' fun e w'' => e = .returned (.string (fbs ss m)) ∧ Below w'.heap.size w' w'') := fun w' h => rfiller_any _ ss k c LS.out h5 m (by omega) w' h
        have PU : Hid (∀ w, Calls Tryz.prog 35 #[.string seed] w fun e w' => e = .returned (.tuple #[.string (ptB seed []), .int .i64 0]) ∧ Below w.heap.size w w') := fun w => by
          rw [ptB_nil]; exact Crv.rPublic_ok seed zs w
        have HW : Hid (∀ w', Below w.heap.size w w' → HopsAt w' b hs) := fun w' h => hp.out.later h rfl
        have HKY : Hid (∀ w', Below w2.heap.size w2 w' → KyAt w' (some ⟨g, 0, none⟩) ss) := fun w' h => B2.out.2.1.later h
        have zL : ∀ j, j ≤ m → (Lb seed ss hs j).size = 200 := fun j hj => Lb_size seed ss hs hok.out QN j (by rw [hl.out.2]; omega)
        -- the last hop's list
        obtain ⟨C, hC⟩ : ∃ x : ByteArray, ⟨(byt (hs.getD m zh)).toArray⟩ = x := ⟨_, rfl⟩
        have LW := Lb_with0 seed ss hs hok.out QN m f hmh hf
        have zCm := zC m gm1
        rw [hC] at LW zCm
        obtain ⟨P1, hP1⟩ : ∃ x, C ++ zba 16 = x := ⟨_, rfl⟩
        obtain ⟨P2, hP2⟩ : ∃ x, P1 ++ hdk seed lPad 200 = x := ⟨_, rfl⟩
        have zP1 : P1.size = 40 := by rw [← hP1, ba_add, zCm, zba_size]
        have zP2 : P2.size = 240 := by rw [← hP2, ba_add, zP1, hdk_size]
        rw [hP1, hP2] at LW
        have A1 : ∀ w, (Op.stringOp .add C (zba 16)).run Tryz.prog w = .ok (.string P1) w := fun w => by rw [← hP1]; exact run_string_add_sum _ _ _ (by rw [zCm, zba_size]; decide)
        have A2 : ∀ w, (Op.stringOp .add P1 (hdk seed lPad 200)).run Tryz.prog w = .ok (.string P2) w := fun w => by rw [← hP2]; exact run_string_add_sum _ _ _ (by rw [zP1, hdk_size]; decide)
        obtain ⟨Q1, hQ1⟩ : ∃ x : ByteArray, ⟨(xorl (P2.extract 0 f).data.toList (hfl (nth ss m)).data.toList).toArray⟩ = x := ⟨_, rfl⟩
        rw [hQ1] at LW
        have WI : Hid (∀ w, Calls Tryz.prog 31 #[.string (P2.extract 0 f), .string (hfl (nth ss m))] w fun e w' => e = .returned (.string Q1) ∧ Below w.heap.size w w') := fun w => by
          rw [← hQ1]; exact rWith_le _ _ (by rw [ByteArray.size_extract, hfl_size, zP2]; omega) (by rw [ByteArray.size_extract, zP2]; omega) w
        have zQ1 : Q1.size ≤ 240 := by rw [← hQ1, htn_fl, htn_size _ _ (by rw [ByteArray.size_extract, zP2]; omega), ByteArray.size_extract]; omega
        have A3 : ∀ w, (Op.stringOp .add Q1 (fbs ss m)).run Tryz.prog w = .ok (.string (Lb seed ss hs 0)) w := fun w => by
          rw [← LW]; exact run_string_add_sum _ _ _ (by rw [fbs_size ss m (by omega)]; omega)
        have B0 := BY.out m
        rw [hC] at B0
        have BY0 : Hid (∀ w, Calls Tryz.prog 29 #[hv (hs.getD m zh)] w fun e w' => e = .returned (.string C) ∧ Below w.heap.size w w') := fun w => B0 w gm1
        have FL0 : Hid (∀ w, Calls Tryz.prog 32 #[kv (nth ss m)] w fun e w' => e = .returned (.string (hfl (nth ss m))) ∧ Below w.heap.size w w') := FL.out m
        have MC0 : Hid (∀ w, Calls Tryz.prog 34 #[kv (nth ss m), .string (Lb seed ss hs 0)] w fun e w' => e = .returned (.string (hmb (nth ss m) (Lb seed ss hs 0))) ∧ Below w.heap.size w w') := fun w => MC.out m _ w (zL 0 (Nat.zero_le _))
        have zP2i : (P2.size : Int) = 240 := by omega
        have f240 : (f : Int) ≤ 240 := by omega
        have f0 : (0 : Int) ≤ (f : Int) := by omega
        clear B0 hQ1 hP1 hP2 hC zP1 zCm LW
        unfold hv at BY0
        unfold kv at FL0 MC0
        obtain ⟨b2, o2, hb2e, d0, d1, d2, d3, d4⟩ := HW.out w2 B2.out.1 m (by rw [hl.out.2]; exact gm1)
        subst hb2e
        obtain ⟨L0, hL0⟩ : ∃ x, Lb seed ss hs 0 = x := ⟨_, rfl⟩
        obtain ⟨T0, hT0⟩ : ∃ x, hmb (nth ss m) (Lb seed ss hs 0) = x := ⟨_, rfl⟩
        rw [hT0] at MC0
        rw [hL0] at MC0 A3
        go_wp2_with fail
        refine Calls.mono (BY0.out _) ?_
        rintro x w3 ⟨rfl, hb3⟩
        have B3 : Hid (Below w2.heap.size w2 w3) := hb3
        clear hb3 BY0 d0 d1 d2 d3 d4
        go_wp2_with fail
        refine Calls.mono (Z16.out _) ?_
        rintro x w4 ⟨rfl, hb4⟩
        have B4 : Hid (Below w2.heap.size w2 w4) := chain B3.out hb4
        clear hb4 B3 Z16
        go_wp2_with fail
        refine Calls.mono (KP.out _) ?_
        rintro x w5 ⟨rfl, hb5⟩
        have B5 : Hid (Below w2.heap.size w2 w5) := chain B4.out hb5
        clear hb5 B4 KP
        go_wp2_with fail
        obtain ⟨b3, o3, he3, e0, e1, e2, e3, e4⟩ := HKY.out w5 B5.out m (by rw [LS.out]; exact gm1)
        cases he3
        simp only [Nat.zero_add] at e0 e1 e2 e3 e4
        obtain ⟨S, hS⟩ : ∃ x, nth ss m = x := ⟨_, rfl⟩
        rw [hS] at e0 e1 e2 e3 e4 FL0 WI MC0
        clear hS
        generalize hdk S lFlow 32 = k0 at *
        generalize hdk S lMac 32 = k1 at *
        generalize hdk S lBody 32 = k2 at *
        generalize bld S = k3 at *
        generalize hdk S lTag 16 = k4 at *
        obtain ⟨HF, hHF⟩ : ∃ x, hfl S = x := ⟨_, rfl⟩
        rw [hHF] at FL0 WI
        clear hHF
        obtain ⟨FB, hFB⟩ : ∃ x, fbs ss m = x := ⟨_, rfl⟩
        rw [hFB] at FI A3
        clear hFB A1 A2
        go_region_with (first | (go_at_call 32; refine Calls.mono (FL0.out _) ?_; rintro x w6 ⟨rfl, hb6⟩; have B6 : Hid (Below w2.heap.size w2 w6) := chain (chain B5.out (Below.refl _ _).drew) hb6) | (go_at_call 31; refine Calls.mono (WI.out _) ?_; rintro x w7 ⟨rfl, hb7⟩; have B7 : Hid (Below w2.heap.size w2 w7) := chain B6.out hb7) | (go_at_call 33; refine Calls.mono (FI.out _ (HKY.out _ B7.out)) ?_; rintro x w8 ⟨rfl, hb8⟩; have B8 : Hid (Below w2.heap.size w2 w8) := chain B7.out hb8))
        have y0 := cell_later hb8 (cell_later hb7 (cell_later hb6 e0))
        have y1 := cell_later hb8 (cell_later hb7 (cell_later hb6 e1))
        have y2 := cell_later hb8 (cell_later hb7 (cell_later hb6 e2))
        have y3 := cell_later hb8 (cell_later hb7 (cell_later hb6 e3))
        have y4 := cell_later hb8 (cell_later hb7 (cell_later hb6 e4))
        clear hb6 hb7 hb8 B5 B6 B7 FL0 WI FI A3 e0 e1 e2 e3 e4
        go_wp2_with fail
        refine Calls.mono (MC0.out _) ?_
        rintro x w9 ⟨rfl, hb9⟩
        have B9 : Hid (Below w2.heap.size w2 w9) := chain B8.out hb9
        clear hb9 B8 MC0 y0 y1 y2 y3 y4
        have LWs : Hid (∀ j i : Nat, i + (j + 1) = m → (⟨(xorl (⟨(byt (hs.getD i zh)).toArray⟩ ++ hmb (nth ss (i + 1)) (Lb seed ss hs j) ++ (Lb seed ss hs j).extract 0 160).data.toList (hfl (nth ss i)).data.toList).toArray⟩ : ByteArray) = Lb seed ss hs (j + 1)) := fun j i hi => Lb_with seed ss hs hok.out QN m j i hmh hi
        have ZZ : Hid ((∀ j, j ≤ m → (Lb seed ss hs j).size = 200) ∧ ∀ i, i < k → (⟨(byt (hs.getD i zh)).toArray⟩ : ByteArray).size = 24) := ⟨zL, zC⟩
        have HDA : Hid (ptB seed [] ++ hmb (nth ss 0) (Lb seed ss hs m) ++ Lb seed ss hs m = ⟨(hhead seed ss hs 0).toArray⟩) := head_all seed ss hs m hmh
        have MM : Hid (m + 1 = k ∧ k ≤ 5) := ⟨hm, h5⟩
        clear zL zC okx hf s1 s1' s2 s2' s3 s3' zP2 zP2i zQ1 f240 f0 gm gm0 hmh QN hm
        go_wp2_with fail
        clear s4 s4'
        go_loopw [16, 17, 18] (fun vl vt iv wx => ∃ j : Nat, j ≤ m ∧ vl = .string (Lb seed ss hs j) ∧ vt = .string (hmb (nth ss (m - j)) (Lb seed ss hs j)) ∧ iv = .int .i64 ((m : Int) - 1 - (j : Int)) ∧ Hid (Below w2.heap.size w2 wx)) (fun _ _ iv _ => ((intOf iv) + 1).toNat)
        case atStart => exact ⟨0, Nat.zero_le _, by rw [hL0], by rw [← hT0, Nat.sub_zero], by simp, B9.out⟩
        case round =>
          obtain ⟨j, hj, rfl, rfl, hiv, I⟩ := hrel
          clear B9
          by_cases hlt2 : j < m
          · obtain ⟨i, hij⟩ : ∃ i : Nat, i + (j + 1) = m := ⟨m - (j + 1), by omega⟩
            have e1 : (m : Int) - 1 - (j : Int) = (i : Int) := by omega
            rw [e1] at hiv
            subst hiv
            have g0 : (0 : Int) ≤ (i : Int) := by omega
            have gi : i < k := by have := MM.out; omega
            have gI : (i : Int) < (k : Int) := by omega
            obtain ⟨b5, o5, he5, d0, d1, d2, d3, d4⟩ := HW.out wr (chain B2.out.1 I.out) i (by rw [hl.out.2]; exact gi)
            cases he5
            have BYi : Hid (∀ w, Calls Tryz.prog 29 #[hv (hs.getD i zh)] w fun e w' => e = .returned (.string ⟨(byt (hs.getD i zh)).toArray⟩) ∧ Below w.heap.size w w') := fun w => BY.out i w gi
            have FLi : Hid (∀ w, Calls Tryz.prog 32 #[kv (nth ss i)] w fun e w' => e = .returned (.string (hfl (nth ss i))) ∧ Below w.heap.size w w') := FL.out i
            have MCi : Hid (∀ w, Calls Tryz.prog 34 #[kv (nth ss i), .string (Lb seed ss hs (j + 1))] w fun e w' => e = .returned (.string (hmb (nth ss i) (Lb seed ss hs (j + 1)))) ∧ Below w.heap.size w w') := fun w => MC.out i _ w (ZZ.out.1 (j + 1) (by omega))
            have LW := LWs.out j i hij
            have zL := ZZ.out.1 j hj
            have zC := ZZ.out.2 i gi
            have em : m - j = i + 1 := by omega
            rw [em]
            have NX : Hid (hmb (nth ss (m - (j + 1))) (Lb seed ss hs (j + 1)) = hmb (nth ss i) (Lb seed ss hs (j + 1))) := (show _ = _ by rw [show m - (j + 1) = i by omega])
            have zT := hmb_size (nth ss (i + 1)) (Lb seed ss hs j)
            obtain ⟨C, hC⟩ : ∃ x : ByteArray, ⟨(byt (hs.getD i zh)).toArray⟩ = x := ⟨_, rfl⟩
            rw [hC] at LW BYi zC
            obtain ⟨T, hT⟩ : ∃ x, hmb (nth ss (i + 1)) (Lb seed ss hs j) = x := ⟨_, rfl⟩
            rw [hT] at LW zT
            rw [hT]
            obtain ⟨L, hL⟩ : ∃ x, Lb seed ss hs j = x := ⟨_, rfl⟩
            rw [hL] at LW zL
            rw [hL]
            obtain ⟨P1, hP1⟩ : ∃ x, C ++ T = x := ⟨_, rfl⟩
            obtain ⟨P2, hP2⟩ : ∃ x, P1 ++ L.extract 0 160 = x := ⟨_, rfl⟩
            have zP1 : P1.size = 40 := by rw [← hP1, ba_add, zC, zT]
            have zE : (L.extract 0 160).size = 160 := by rw [ByteArray.size_extract, zL]; decide
            have zP2 : P2.size = 200 := by rw [← hP2, ba_add, zP1, zE]
            rw [hP1, hP2] at LW
            have A1 : ∀ w, (Op.stringOp .add C T).run Tryz.prog w = .ok (.string P1) w := fun w => by rw [← hP1]; exact run_string_add_sum _ _ _ (by rw [zC, zT]; decide)
            have A2 : ∀ w, (Op.stringOp .add P1 (L.extract 0 160)).run Tryz.prog w = .ok (.string P2) w := fun w => by rw [← hP2]; exact run_string_add_sum _ _ _ (by rw [zP1, zE]; decide)
            have WI : Hid (∀ w, Calls Tryz.prog 31 #[.string P2, .string (hfl (nth ss i))] w fun e w' => e = .returned (.string (Lb seed ss hs (j + 1))) ∧ Below w.heap.size w w') := fun w => by
              rw [← LW]; exact rWith_le _ _ (by rw [hfl_size, zP2]; decide) (by rw [zP2]; decide) w
            have zLi : (L.size : Int) = 200 := by omega
            have t6 : IntKind.i64.wrap ((i : Int) - 1) = (m : Int) - 1 - ((j + 1 : Nat) : Int) := by rw [IntKind.wrap_i64]; omega
            have t7 : wrap64 ((i : Int) - 1) = (m : Int) - 1 - ((j + 1 : Nat) : Int) := by unfold wrap64; omega
            have EX : Hid ((m : Int) - 1 - ((j + 1 : Nat) : Int) + 1 = (i : Int)) := (show _ = _ by omega)
            have JM : Hid (j + 1 ≤ m) := (show _ ≤ _ by omega)
            have IL : Hid (i < ss.length) := (show i < ss.length by rw [LS.out]; exact gi)
            clear hC hT hL hP1 hP2 LW zC zT zP1 zE zP2 e1 em hij
            generalize hs.getD i zh = h at *
            obtain ⟨hk', hn', hu, hd, hid'⟩ := h
            unfold hv at BYi
            simp only at d0 d1 d2 d3 d4 BYi
            unfold kv at FLi MCi
            obtain ⟨L', hL'⟩ : ∃ x, Lb seed ss hs (j + 1) = x := ⟨_, rfl⟩
            rw [hL'] at WI MCi NX
            have HL : Hid (Lb seed ss hs (j + 1) = L') := hL'
            clear hL'
            go_wp2_with fail
            go_region_with (first | (go_at_call 29; refine Calls.mono (BYi.out _) ?_; rintro x v1 ⟨rfl, hb1⟩; have D1 : Hid (Below w2.heap.size w2 v1) := chain (chain I.out (Below.refl _ _).drew) hb1))
            clear hb1 I BYi A1 A2 d0 d1 d2 d3 d4
            obtain ⟨b6, o6, he6, c0, c1, c2, c3, c4⟩ := HKY.out v1 D1.out i IL.out
            cases he6
            simp only [Nat.zero_add] at c0 c1 c2 c3 c4
            generalize nth ss i = S at *
            generalize hdk S lFlow 32 = k0 at *
            generalize hdk S lMac 32 = k1 at *
            generalize hdk S lBody 32 = k2 at *
            generalize bld S = k3 at *
            generalize hdk S lTag 16 = k4 at *
            generalize hfl S = HF at *
            go_wp2_with fail
            refine Calls.mono (FLi.out _) ?_
            rintro x v2 ⟨rfl, hb2⟩
            have D2 : Hid (Below w2.heap.size w2 v2) := chain D1.out hb2
            replace c0 := cell_later hb2 c0
            replace c1 := cell_later hb2 c1
            replace c2 := cell_later hb2 c2
            replace c3 := cell_later hb2 c3
            replace c4 := cell_later hb2 c4
            clear hb2 D1 FLi
            go_wp2_with fail
            refine Calls.mono (WI.out _) ?_
            rintro x v3 ⟨rfl, hb3⟩
            have D3 : Hid (Below w2.heap.size w2 v3) := chain D2.out hb3
            replace c0 := cell_later hb3 c0
            replace c1 := cell_later hb3 c1
            replace c2 := cell_later hb3 c2
            replace c3 := cell_later hb3 c3
            replace c4 := cell_later hb3 c4
            clear hb3 D2 WI
            go_wp2_with fail
            refine Calls.mono (MCi.out _) ?_
            rintro x v4 ⟨rfl, hb4⟩
            have D4 : Hid (Below w2.heap.size w2 v4) := chain D3.out hb4
            clear hb4 D3 MCi c0 c1 c2 c3 c4
            go_wp2
            exact ⟨⟨j + 1, JM.out, by rw [HL.out], by rw [HL.out, NX.out], by rw [show ((j + 1 : Nat) : Int) = (j : Int) + 1 by omega], D4.out⟩, by simp only [intOf]; have := EX.out; omega⟩
          · obtain rfl : j = m := by omega
            have e1 : (j : Int) - 1 - (j : Int) = -1 := by omega
            rw [e1] at hiv
            subst hiv
            rw [Nat.sub_self]
            have zL := ZZ.out.1 j (Nat.le_refl _)
            have zT := hmb_size (nth ss 0) (Lb seed ss hs j)
            obtain ⟨PT, hPT⟩ : ∃ x, ptB seed [] = x := ⟨_, rfl⟩
            have zPT : PT.size = 32 := by rw [← hPT]; exact ptB_size _ _
            rw [hPT] at PU HDA
            obtain ⟨T, hT⟩ : ∃ x, hmb (nth ss 0) (Lb seed ss hs j) = x := ⟨_, rfl⟩
            rw [hT] at HDA zT
            rw [hT]
            obtain ⟨L, hL⟩ : ∃ x, Lb seed ss hs j = x := ⟨_, rfl⟩
            rw [hL] at HDA zL
            rw [hL]
            obtain ⟨Q1, hQ1⟩ : ∃ x, PT ++ T = x := ⟨_, rfl⟩
            have zQ : Q1.size = 48 := by rw [← hQ1, ba_add, zPT, zT]
            rw [hQ1] at HDA
            have A1 : ∀ w, (Op.stringOp .add PT T).run Tryz.prog w = .ok (.string Q1) w := fun w => by rw [← hQ1]; exact run_string_add_sum _ _ _ (by rw [zPT, zT]; decide)
            have A2 : ∀ w, (Op.stringOp .add Q1 L).run Tryz.prog w = .ok (.string (Q1 ++ L)) w := fun w => run_string_add_sum _ _ _ (by rw [zQ, zL]; decide)
            clear hPT hT hL hQ1 zPT zT zL zQ
            go_wp2_with fail
            refine Calls.mono (PU.out _) ?_
            rintro x v1 ⟨rfl, hb1⟩
            have D1 : Hid (Below w2.heap.size w2 v1) := chain I.out hb1
            clear hb1 I PU
            go_wp2
            go_ret3
            refine ⟨fun h => by rw [WH.out] at h; (cases h), fun _ h => by rw [FS.out] at h; (cases h), fun _ ss' h => ?_, chain B2.out.1 D1.out⟩
            rw [FS.out] at h
            cases h
            exact ⟨_, by rw [HDA.out]; rfl, ⟨some ⟨g, 0, none⟩, c, by rw [LS.out]; rfl, by rw [LS.out]; exact B2.out.2.2.1, by have := B2.out.2.2.2; unfold maxLen at this; omega, HKY.out _ D1.out⟩⟩
theorem rMake_any (seed : ByteArray) (a : Option Addr) (pts : List ByteArray) (n cap : Nat) (b : Option Addr) (hs : List Hp) (m cap2 : Nat) (w : World) (hl : Hid (pts.length = n ∧ hs.length = m)) (hb : Hid (n * 16 ≤ 140737488351232 ∧ m * 48 ≤ 140737488351232)) (hc : Hid (StrAt w a pts)) (hp : Hid (HopsAt w b hs)) :
    Calls Tryz.prog 13 #[.string seed, .slice a n cap, .slice b m cap2] w fun e w' => ∃ v, e = .returned (.tuple #[.string (mkH seed pts hs), v, .int .i64 (mkE seed pts hs)]) ∧ KeysAt w' v (mkS seed pts hs) ∧ Below w.heap.size w w' := by
  have PA := rPath_any b hs m cap2 hl.out.2 (by have := hb.out; omega) w hp
  have none_of : ∀ e : Int, mkE seed pts hs = e → ¬ e = 0 → (Calls Tryz.prog 13 #[.string seed, .slice a n cap, .slice b m cap2] w fun x w' => x = .returned (.tuple #[.string ⟨#[]⟩, .slice none 0 0, .int .i64 e]) ∧ Below w.heap.size w w') →
      Calls Tryz.prog 13 #[.string seed, .slice a n cap, .slice b m cap2] w fun e w' => ∃ v, e = .returned (.tuple #[.string (mkH seed pts hs), v, .int .i64 (mkE seed pts hs)]) ∧ KeysAt w' v (mkS seed pts hs) ∧ Below w.heap.size w w' := fun e he h0 H => by
    have e2 : mkS seed pts hs = [] := by unfold mkS; rw [he, if_neg h0]
    have e3 : mkH seed pts hs = ⟨#[]⟩ := by unfold mkH; rw [he, if_neg h0]
    rw [he, e2, e3]
    refine H.mono ?_
    rintro x w' ⟨rfl, hb'⟩
    exact ⟨_, rfl, ⟨none, 0, rfl, Nat.le_refl _, by decide, fun i hi => by simp at hi⟩, hb'⟩
  by_cases q1 : pth hs = 0
  · rw [q1] at PA
    by_cases q2 : n = m
    · subst q2
      have q2' : pts.length = hs.length := by rw [hl.out.1, hl.out.2]
      obtain ⟨r1, r2, r3, -⟩ := pth_zero hs q1
      have l5 : n ≤ 5 := by rw [← hl.out.2]; exact r3
      have l1 : 1 ≤ n := by rw [← hl.out.2]; exact r2
      by_cases q3 : seed.size = 32
      · have MM := rmake_main seed q3 a pts n cap b hs cap2 w hl l1 l5 r1 hc hp PA
        cases q4 : Crv.wh pts with
        | false =>
          have he : mkE seed pts hs = 3 := by
            unfold mkE
            rw [if_pos q1, if_pos q2', if_neg]
            rintro ⟨-, h⟩
            rw [wh_all, q4] at h
            cases h
          exact none_of 3 he (by decide) (MM.mono fun x w' h => ⟨h.1 q4, h.2.2.2⟩)
        | true =>
          cases hsec : secs seed pts [] with
          | none =>
            have he : mkE seed pts hs = 20 := by unfold mkE; rw [if_pos q1, if_pos q2', if_pos ⟨q3, q4⟩, hsec]
            exact none_of 20 he (by decide) (MM.mono fun x w' h => ⟨h.2.1 q4 hsec, h.2.2.2⟩)
          | some ss =>
            have e1 : mkE seed pts hs = 0 := by unfold mkE; rw [if_pos q1, if_pos q2', if_pos ⟨q3, q4⟩, hsec]
            have e2 : mkS seed pts hs = ss := by unfold mkS; rw [e1, if_pos rfl, hsec]; rfl
            have e3 : mkH seed pts hs = ⟨(hhead seed ss hs 0).toArray⟩ := by unfold mkH; rw [e1, if_pos rfl, e2]
            rw [e1, e2, e3]
            refine MM.mono fun x w' h => ?_
            obtain ⟨v, hv, hk⟩ := h.2.2.1 q4 ss hsec
            exact ⟨v, hv, hk, h.2.2.2⟩
      · have he : mkE seed pts hs = 3 := by
          unfold mkE
          rw [if_pos q1, if_pos q2', if_neg]
          rintro ⟨h, -⟩
          exact q3 h
        exact none_of 3 he (by decide) (rmake_seed seed a n cap b cap2 w q3 PA)
    · have he : mkE seed pts hs = 4 := by unfold mkE; rw [if_pos q1, if_neg (by rw [hl.out.1, hl.out.2]; exact q2)]
      exact none_of 4 he (by decide) (rmake_shape seed a n cap b m cap2 w q2 PA)
  · have he : mkE seed pts hs = pth hs := by unfold mkE; rw [if_neg q1]
    exact none_of _ he q1 (rmake_path seed a n cap b m cap2 w _ q1 PA)
end Go.Proofs.YtckfplpiakbbdaaGreatDoor
namespace Go.Proofs.YtckfplpiakbbdaaGreatDoor
open Go.RowKit Go.Proofs.Fd Go.Proofs.Hs Go.Proofs.Cc Go.Proofs.Hd Go.Proofs.Rt
set_option maxRecDepth 20000
theorem strs_each {w : World} {b o : Nat} {ks : List ByteArray} (hc : StrAt w (some ⟨b, o, none⟩) ks) : ∀ j v, (scells ks)[j]? = some v → w.cell? (Addr.add ⟨b, o, none⟩ j) = some v := by
  intro j v hv
  have hj : j < ks.length := by have := (List.getElem?_eq_some_iff.1 hv).1; simpa [scells] using this
  obtain ⟨b2, o2, he2, hcell⟩ := hc j hj
  cases he2
  have q : Addr.add ⟨b, o, none⟩ j = ⟨b, o + j, none⟩ := by first | (simp [Addr.add]; done) | (simp [Addr.add]; intro h; simp [h])
  rw [q]
  have e : v = .string ks[j] := by
    rw [show (scells ks)[j]? = some (.string ks[j]) by simp [scells, hj]] at hv
    exact (Option.some.inj hv).symm
  rw [e]
  exact hcell
theorem copy_strs (w : World) (a : Option Addr) (pts : List ByteArray) (n cap : Nat) (hn : pts.length = n) (hb : n * 16 ≤ 140737488351232) (hc : StrAt w a pts) (ha : a = none → n = 0 ∧ cap = 0) :
    ∃ x c w', (Builtin.append_ #[30, 30] 30 #[.slice (some ⟨w.heap.size, 0, none⟩) 0 0, .slice a n cap]).run Tryz.prog (w.alloc (.cells #[] 9)) = .ok (.slice x n c) w' ∧ StrAt w' x pts ∧ Below w.heap.size w w' := by
  obtain ⟨i0, hii, hz0, hz1, hz2⟩ := info_parts infoStr
  have OW : (w.alloc (.cells #[] 9)).ownsRow w.heap.size 9 1 (.slice (some ⟨w.heap.size, 0, none⟩) 0 0) 0 [] := ⟨rfl, .inr ⟨_, 0, #[], rfl, Nat.le_refl _, heap_newr _ _, Nat.le_refl _, by decide, rfl, rfl⟩⟩
  have B0 : Below w.heap.size w (w.alloc (.cells #[] 9)) := (Below.refl _ _).alloc (Nat.le_refl _) _
  cases a with
  | none =>
    obtain ⟨rfl, rfl⟩ := ha rfl
    obtain rfl : pts = [] := List.eq_nil_of_length_eq_zero hn
    exact ⟨some ⟨w.heap.size, 0, none⟩, 0, w.alloc (.cells #[] 9), by kernel_rfl, fun i hi => by simp at hi, B0⟩
  | some ad =>
    have key : ∃ b o, ad = ⟨b, o, none⟩ ∨ pts = [] := by
      cases pts with
      | nil => exact ⟨0, 0, .inr rfl⟩
      | cons p ps =>
        obtain ⟨b, o, he, -⟩ := hc 0 (by simp)
        exact ⟨b, o, .inl (Option.some.inj he)⟩
    have hnews : ∀ j u, (scells pts)[j]? = some u → (w.alloc (.cells #[] 9)).cell? (ad.add j) = some u := by
      obtain ⟨b, o, rfl | rfl⟩ := key
      · exact strs_each (hc.later B0 rfl)
      · intro j u hu; simp [scells] at hu
    obtain ⟨v', w', hr, h2, h3, h4⟩ := run_append_own (P := Tryz.prog) (w.alloc (.cells #[] 9)) w.heap.size 30 30 9 i0 (.string ⟨#[]⟩) 1 16 Tryz.underlying30 hii hz0 hz1 hz2 rfl (by decide) _ 0 [] OW ad n cap (scells pts) (by rw [Nat.mul_one]; simpa [scells] using hn) hnews (by intro v hv; simp only [scells, List.mem_map] at hv; obtain ⟨x, -, rfl⟩ := hv; rfl) (by unfold maxLen; omega) (by omega) (by simp)
    simp only [Nat.zero_add, List.nil_append] at h2
    have B1 : Below w.heap.size w w' := B0.grown h3 (by simp) (fun k hk => (OW.lt k hk).1)
    obtain ⟨-, hor⟩ := owns_strs h2
    rcases hor with ⟨rfl, rfl⟩ | ⟨g, c, rfl, hst⟩
    · obtain rfl : pts = [] := List.eq_nil_of_length_eq_zero hn
      exact ⟨none, 0, w', hr, fun i hi => by simp at hi, B1⟩
    · exact ⟨_, c, w', hr, hst, B1⟩
theorem copy_hops (w : World) (a : Option Addr) (hs : List Hp) (n cap : Nat) (hn : hs.length = n) (hb : n * 48 ≤ 140737488351232) (hc : HopsAt w a hs) (ha : a = none → n = 0 ∧ cap = 0) :
    ∃ x c w', (Builtin.append_ #[31, 31] 31 #[.slice (some ⟨w.heap.size, 0, none⟩) 0 0, .slice a n cap]).run Tryz.prog (w.alloc (.cells #[] 37)) = .ok (.slice x n c) w' ∧ HopsAt w' x hs ∧ Below w.heap.size w w' := by
  obtain ⟨i0, hii, hz0, hz1, hz2⟩ := info_parts infoHop
  have OW : (w.alloc (.cells #[] 37)).ownsRow w.heap.size 37 5 (.slice (some ⟨w.heap.size, 0, none⟩) 0 0) 0 [] := ⟨rfl, .inr ⟨_, 0, #[], rfl, Nat.le_refl _, heap_newr _ _, Nat.le_refl _, by decide, rfl, rfl⟩⟩
  have B0 : Below w.heap.size w (w.alloc (.cells #[] 37)) := (Below.refl _ _).alloc (Nat.le_refl _) _
  cases a with
  | none =>
    obtain ⟨rfl, rfl⟩ := ha rfl
    obtain rfl : hs = [] := List.eq_nil_of_length_eq_zero hn
    exact ⟨some ⟨w.heap.size, 0, none⟩, 0, w.alloc (.cells #[] 37), by kernel_rfl, fun i hi => by simp at hi, B0⟩
  | some ad =>
    have key : ∃ b o, ad = ⟨b, o, none⟩ ∨ hs = [] := by
      cases hs with
      | nil => exact ⟨0, 0, .inr rfl⟩
      | cons p ps =>
        obtain ⟨b, o, he, -⟩ := hc 0 (by simp)
        exact ⟨b, o, .inl (Option.some.inj he)⟩
    have hnews : ∀ j u, (hcells hs)[j]? = some u → (w.alloc (.cells #[] 37)).cell? (ad.add j) = some u := by
      obtain ⟨b, o, rfl | rfl⟩ := key
      · exact (hc.later B0 rfl).each
      · intro j u hu; simp [hcells] at hu
    obtain ⟨v', w', hr, h2, h3, h4⟩ := run_append_own (P := Tryz.prog) (w.alloc (.cells #[] 37)) w.heap.size 31 31 37 i0 (.agg #[.int .i64 0, .int .i64 0, .int .i64 0, .int .i64 0, .string ⟨#[]⟩]) 5 48 Tryz.underlying31 hii hz0 hz1 hz2 rfl (by decide) _ 0 [] OW ad n cap (hcells hs) (by rw [hcells_len, hn]) hnews (hcells_one hs) (by unfold maxLen; omega) (by omega) (by simp)
    simp only [Nat.zero_add, List.nil_append] at h2
    have B1 : Below w.heap.size w w' := B0.grown h3 (by simp) (fun k hk => (OW.lt k hk).1)
    obtain ⟨-, hor⟩ := owns_hops h2
    rcases hor with ⟨rfl, rfl⟩ | ⟨g, c, rfl, hst, -⟩
    · obtain rfl : hs = [] := List.eq_nil_of_length_eq_zero hn
      exact ⟨none, 0, w', hr, fun i hi => by simp at hi, B1⟩
    · exact ⟨_, c, w', hr, hst, B1⟩
set_option maxHeartbeats 2000000 in
theorem HeadMakes_walk (CM : Hid MakeC) (CL : Hid PeelC) (seed : ByteArray) (zs : Hid (seed.size + 64 ≤ 140737488355328)) (a : Option Addr) (pts : List ByteArray) (n cap : Nat) (b : Option Addr) (hs : List Hp) (m cap2 : Nat) (w : World) (hl : Hid (pts.length = n ∧ hs.length = m)) (hb : Hid (n * 16 ≤ 140737488351232 ∧ m * 48 ≤ 140737488351232))
    (ha : a = none → n = 0 ∧ cap = 0) (hb2 : b = none → m = 0 ∧ cap2 = 0) (zp : Hid (∀ p ∈ pts, p.size ≤ 140737488355328)) (hid : Hid (∀ h ∈ hs, h.id.size ≤ 140737488355328)) (hK : Hid (Kh w)) (hc : Hid (StrAt w a pts)) (hp : Hid (HopsAt w b hs)) :
    Calls Tryz.prog 4 #[.string seed, .slice a n cap, .slice b m cap2] w fun e w' => e = .returned (.bool true) ∧ Below w.heap.size w w' := by
  have WK : Hid (∀ w, Kh w → Calls Tryz.prog 10 #[] w fun e w' => e = .returned (.bool true) ∧ Below w.heap.size w w') := fun w h => works8_any CM CL w h
  obtain ⟨x1, c1, w1, hr1, hs1, hb1⟩ := copy_strs w a pts n cap hl.out.1 hb.out.1 hc.out ha
  obtain ⟨x2, c2, w2, hr2, hs2, hb3⟩ := copy_hops w1 b hs m cap2 hl.out.2 hb.out.2 (hp.out.later hb1 rfl) hb2
  have HST : Hid (∀ w', Below w2.heap.size w2 w' → StrAt w' x1 pts ∧ StrAt w' a pts ∧ HopsAt w' x2 hs ∧ HopsAt w' b hs ∧ Below w.heap.size w w') := fun w' h => by
    have h1 := chain hb1 hb3
    have h2 := chain h1 h
    exact ⟨(hs1.later hb3 rfl).later h rfl, hc.out.later h2 rfl, hs2.later h rfl, hp.out.later h2 rfl, h2⟩
  have MK : Hid (∀ w', Below w2.heap.size w2 w' → Calls Tryz.prog 12 #[.string seed, .slice x1 n c1, .slice x2 m c2] w' fun e w'' => ∃ v, e = .returned (.tuple #[.string (mkH seed pts hs), v, .int .i64 (mkE seed pts hs)]) ∧ KeysAt w'' v (mkS seed pts hs) ∧ Below w'.heap.size w' w'') := fun w' h => by
    obtain ⟨q1, q2, q3, q4, q5⟩ := HST.out w' h
    exact CM.out seed x1 pts n c1 x2 hs m c2 w' hl hb zs zp hid (hK.out.later q5) q1 q3
  have RM : Hid (∀ w', Below w2.heap.size w2 w' → Calls Tryz.prog 13 #[.string seed, .slice a n cap, .slice b m cap2] w' fun e w'' => ∃ v, e = .returned (.tuple #[.string (mkH seed pts hs), v, .int .i64 (mkE seed pts hs)]) ∧ KeysAt w'' v (mkS seed pts hs) ∧ Below w'.heap.size w' w'') := fun w' h => by
    obtain ⟨q1, q2, q3, q4, q5⟩ := HST.out w' h
    exact rMake_any seed a pts n cap b hs m cap2 w' hl hb q2 q4
  obtain ⟨ss, hss⟩ : ∃ x, mkS seed pts hs = x := ⟨_, rfl⟩
  obtain ⟨H, hH⟩ : ∃ x, mkH seed pts hs = x := ⟨_, rfl⟩
  obtain ⟨E, hE⟩ : ∃ x, mkE seed pts hs = x := ⟨_, rfl⟩
  rw [hss, hH, hE] at MK RM
  obtain ⟨L, hL⟩ : ∃ x, ss.length = x := ⟨_, rfl⟩
  have HL : Hid (ss.length = L) := hL
  have IH : (H.toList == H.toList) = true := by simp
  have nb : n * 16 ≤ 140737488351232 := hb.out.1
  have mb : m * 48 ≤ 140737488351232 := hb.out.2
  clear hss hH hE hL CM CL zs zp hid ha hb2 hb1 hb3 hs1 hs2 hc hp
  go_enter Tryz.func4, Tryz.ntmps4
  go_wp2_with (first | (at_builtin; refine Go.Lib.wpList_append_run _ rfl _ _ _ _ rfl _ _ rfl rfl _ _ hr1 ?_) | (at_builtin; refine Go.Lib.wpList_append_run _ rfl _ _ _ _ rfl _ _ rfl rfl _ _ hr2 ?_))
  refine Calls.mono (MK.out _ (Below.refl _ _)) ?_
  rintro e w3 ⟨v1, rfl, ⟨ka, kc, rfl, kl, -, kcs⟩, hb3⟩
  have B3 : Hid (Below w2.heap.size w2 w3) := hb3
  rw [HL.out] at kl
  rw [HL.out]
  have KA : Hid (∀ w', Below w3.heap.size w3 w' → KyAt w' ka ss) := fun w' h => KyAt.later kcs h
  clear hb3 kcs MK hr1 hr2
  go_wp2_with fail
  refine Calls.mono (RM.out _ B3.out) ?_
  rintro e w4 ⟨v2, rfl, ⟨la, lc, rfl, ll, lx, lcs⟩, hb4⟩
  have B4 : Hid (Below w3.heap.size w3 w4) := hb4
  rw [HL.out] at ll
  rw [HL.out]
  have KB : Hid (∀ w', Below w4.heap.size w4 w' → KyAt w' ka ss ∧ KyAt w' la ss ∧ Below w2.heap.size w2 w') := fun w' h => ⟨KA.out w' (chain B4.out h), KyAt.later lcs h, chain (chain B3.out B4.out) h⟩
  have Lx : L ≤ 9223372036854775807 := by omega
  clear hb4 lcs RM KA B3 B4
  go_wp2_with fail
  go_loopw [15] (fun iv wx => ∃ q : Nat, q ≤ L ∧ iv = .int .i64 (q : Int) ∧ Hid (Below w4.heap.size w4 wx)) (fun iv _ => L - (intOf iv).toNat)
  case atStart => exact ⟨0, Nat.zero_le _, rfl, Below.refl _ _⟩
  case round =>
    obtain ⟨q, hq, rfl, I⟩ := hrel
    by_cases hlt : q < L
    · have g1 : (q : Int) < (L : Int) := by omega
      obtain ⟨b1, o1, he1, c0, c1', c2', c3, c4⟩ := (KB.out _ I.out).1 q (by rw [HL.out]; exact hlt)
      obtain ⟨b2, o2, he2, d0, d1, d2, d3, d4⟩ := (KB.out _ I.out).2.1 q (by rw [HL.out]; exact hlt)
      subst he1
      subst he2
      generalize nth ss q = s at *
      generalize hdk s lFlow 32 = k0 at *
      generalize hdk s lMac 32 = k1 at *
      generalize hdk s lBody 32 = k2 at *
      generalize bld s = k3 at *
      generalize hdk s lTag 16 = k4 at *
      go_wp2_with fail
      refine wp_region_noPanic ?_
      refine wp_region_held_drew (S := fun w' => w'.cell? ⟨b1, o1 + q * 5, none⟩ = some (.string k0) ∧ w'.cell? ⟨b1, o1 + q * 5 + 1, none⟩ = some (.string k1) ∧ w'.cell? ⟨b1, o1 + q * 5 + 2, none⟩ = some (.string k2) ∧ w'.cell? ⟨b1, o1 + q * 5 + 3, none⟩ = some (.string k3) ∧ w'.cell? ⟨b1, o1 + q * 5 + 4, none⟩ = some (.string k4) ∧ w'.cell? ⟨b2, o2 + q * 5, none⟩ = some (.string k0) ∧ w'.cell? ⟨b2, o2 + q * 5 + 1, none⟩ = some (.string k1) ∧ w'.cell? ⟨b2, o2 + q * 5 + 2, none⟩ = some (.string k2) ∧ w'.cell? ⟨b2, o2 + q * 5 + 3, none⟩ = some (.string k3) ∧ w'.cell? ⟨b2, o2 + q * 5 + 4, none⟩ = some (.string k4)) (by kernel_rfl) (⟨c0, c1', c2', c3, c4, d0, d1, d2, d3, d4⟩) (fun hHeld => ?_)
      refine wpAnyH_take (i := 0) (oi := { dst := some 61, op := Go.Op.move (Go.Operand.tmp 10), type := 32, pos := "law.go:28", after := #[], guard := none }) (v := ?_) rfl (by kernel_rfl) (by kernel_rfl) (by kernel_rfl) (fun _ _ _ h => h) (Or.inl ⟨by rfl, ?_⟩) (by assumption) ?_
      rotate_left
      · intro w' hSw
        clear hSw
        first
        | (go_simp; done)
        | (go_simp; with_reducible rfl)
      simp only [Act.put, List.setIfInBounds_toArray, List.set_cons_zero, List.set_cons_succ]
      refine wpAnyH_take (i := 1) (oi := { dst := some 62, op := Go.Op.move (Go.Operand.tmp 15), type := 3, pos := "law.go:28", after := #[], guard := none }) (v := ?_) rfl (by kernel_rfl) (by kernel_rfl) (by kernel_rfl) (fun _ _ _ h => h) (Or.inl ⟨by rfl, ?_⟩) (by assumption) ?_
      rotate_left
      · intro w' hSw
        clear hSw
        first
        | (go_simp; done)
        | (go_simp; with_reducible rfl)
      simp only [Act.put, List.setIfInBounds_toArray, List.set_cons_zero, List.set_cons_succ]
      refine wpAnyH_take (i := 2) (oi := { dst := some 63, op := Go.Op.indexAddr 32 (Go.Operand.tmp 61) (Go.Operand.tmp 62), type := 0, pos := "law.go:28", after := #[{ on := 0, ground := Go.Ground.data }, { on := 1, ground := Go.Ground.data }], guard := none }) (v := ?_) rfl (by kernel_rfl) (by kernel_rfl) (by kernel_rfl) (fun _ _ _ h => h) (Or.inl ⟨by rfl, ?_⟩) (by assumption) ?_
      rotate_left
      · intro w' hSw
        clear hSw
        first
        | (go_simp; done)
        | (go_simp; with_reducible rfl)
      simp only [Act.put, List.setIfInBounds_toArray, List.set_cons_zero, List.set_cons_succ]
      refine wpAnyH_take (i := 3) (oi := { dst := some 64, op := Go.Op.load 23 (Go.Operand.tmp 63), type := 23, pos := "law.go:28", after := #[{ on := 2, ground := Go.Ground.data }], guard := none }) (v := ?_) rfl (by kernel_rfl) (by kernel_rfl) (by kernel_rfl) (fun _ _ _ h => h) (Or.inl ⟨by rfl, ?_⟩) (by assumption) ?_
      rotate_left
      · intro w' hSw
        obtain ⟨p0, p1, p2, p3, p4, p5, p6, p7, p8, p9⟩ := hSw
        first
        | (go_simp; done)
        | (go_simp; with_reducible rfl)
      simp only [Act.put, List.setIfInBounds_toArray, List.set_cons_zero, List.set_cons_succ]
      refine wpAnyH_take (i := 4) (oi := { dst := some 65, op := Go.Op.move (Go.Operand.tmp 13), type := 32, pos := "law.go:28", after := #[], guard := none }) (v := ?_) rfl (by kernel_rfl) (by kernel_rfl) (by kernel_rfl) (fun _ _ _ h => h) (Or.inl ⟨by rfl, ?_⟩) (by assumption) ?_
      rotate_left
      · intro w' hSw
        clear hSw
        first
        | (go_simp; done)
        | (go_simp; with_reducible rfl)
      simp only [Act.put, List.setIfInBounds_toArray, List.set_cons_zero, List.set_cons_succ]
      refine wpAnyH_take (i := 5) (oi := { dst := some 66, op := Go.Op.move (Go.Operand.tmp 15), type := 3, pos := "law.go:28", after := #[], guard := none }) (v := ?_) rfl (by kernel_rfl) (by kernel_rfl) (by kernel_rfl) (fun _ _ _ h => h) (Or.inl ⟨by rfl, ?_⟩) (by assumption) ?_
      rotate_left
      · intro w' hSw
        clear hSw
        first
        | (go_simp; done)
        | (go_simp; with_reducible rfl)
      simp only [Act.put, List.setIfInBounds_toArray, List.set_cons_zero, List.set_cons_succ]
      refine wpAnyH_take (i := 6) (oi := { dst := some 67, op := Go.Op.indexAddr 32 (Go.Operand.tmp 65) (Go.Operand.tmp 66), type := 0, pos := "law.go:28", after := #[{ on := 4, ground := Go.Ground.data }, { on := 5, ground := Go.Ground.data }], guard := none }) (v := ?_) rfl (by kernel_rfl) (by kernel_rfl) (by kernel_rfl) (fun _ _ _ h => h) (Or.inl ⟨by rfl, ?_⟩) (by assumption) ?_
      rotate_left
      · intro w' hSw
        clear hSw
        first
        | (go_simp; done)
        | (go_simp; with_reducible rfl)
      simp only [Act.put, List.setIfInBounds_toArray, List.set_cons_zero, List.set_cons_succ]
      refine wpAnyH_take (i := 7) (oi := { dst := some 68, op := Go.Op.load 23 (Go.Operand.tmp 67), type := 23, pos := "law.go:28", after := #[{ on := 6, ground := Go.Ground.data }], guard := none }) (v := ?_) rfl (by kernel_rfl) (by kernel_rfl) (by kernel_rfl) (fun _ _ _ h => h) (Or.inl ⟨by rfl, ?_⟩) (by assumption) ?_
      rotate_left
      · intro w' hSw
        obtain ⟨p0, p1, p2, p3, p4, p5, p6, p7, p8, p9⟩ := hSw
        first
        | (go_simp; done)
        | (go_simp; with_reducible rfl)
      simp only [Act.put, List.setIfInBounds_toArray, List.set_cons_zero, List.set_cons_succ]
      refine wpAnyH_take (i := 8) (oi := { dst := some 69, op := Go.Op.binOp Go.BinOp.neq 23 (Go.Operand.tmp 64) (Go.Operand.tmp 68) 23, type := 4, pos := "law.go:28", after := #[{ on := 3, ground := Go.Ground.data }, { on := 7, ground := Go.Ground.data }], guard := none }) (v := (.bool false)) rfl (by kernel_rfl) (by kernel_rfl) (by kernel_rfl) (fun _ _ _ h => h) (Or.inl ⟨by rfl, ?_⟩) (by assumption) ?_
      · intro w' hSw
        exact exec_neq_keys _ _ (.tmp 64) (.tmp 68) k0 k1 k2 k3 k4 rfl rfl rfl w'
      simp only [Act.put, List.setIfInBounds_toArray, List.set_cons_zero, List.set_cons_succ]
      refine wpAnyH_done (by kernel_rfl) ?_ _
      refine NoPanic.normal ?_
      clear hHeld
      have BN : Hid (Below w4.heap.size w4 wr.drew) := I.out.drew
      clear I c0 c1' c2' c3 c4 d0 d1 d2 d3 d4
      go_wp2
      exact ⟨⟨q + 1, by omega, by go_num, BN.out⟩, by simp [intOf]; omega⟩
    · obtain rfl : q = L := by omega
      have g1 : ¬ (q : Int) < (q : Int) := by omega
      have I0 : Hid (Below w4.heap.size w4 wr) := I.out
      clear I
      go_wp2_with fail
      go_loopw [16] (fun iv wx => ∃ q : Nat, q ≤ n ∧ iv = .int .i64 (q : Int) ∧ Hid (Below w4.heap.size w4 wx)) (fun iv _ => n - (intOf iv).toNat)
      case atStart => exact ⟨0, Nat.zero_le _, rfl, I0.out⟩
      case round =>
        obtain ⟨q2, hq2, rfl, I⟩ := hrel
        clear I0
        by_cases hlt2 : q2 < n
        · have g2 : (q2 : Int) < (n : Int) := by omega
          have hlt2' : q2 < pts.length := by rw [hl.out.1]; exact hlt2
          obtain ⟨b1, o1, he1, c0⟩ := (HST.out _ (KB.out _ I.out).2.2).1 q2 (by rw [hl.out.1]; exact hlt2)
          obtain ⟨b2, o2, he2, d0⟩ := (HST.out _ (KB.out _ I.out).2.2).2.1 q2 (by rw [hl.out.1]; exact hlt2)
          subst he1
          subst he2
          generalize pts[q2] = s at *
          clear hlt2'
          have Is : (s.toList == s.toList) = true := by simp
          go_wp2
          go_quiet (fail)
          have BN : Hid (Below w4.heap.size w4 (wr.drewN nq)) := below_drewN I.out nq
          clear I c0 d0
          go_wp2
          exact ⟨⟨q2 + 1, by omega, by go_num, BN.out⟩, by simp [intOf]; omega⟩
        · obtain rfl : q2 = n := by omega
          have g2 : ¬ (q2 : Int) < (q2 : Int) := by omega
          have I1 : Hid (Below w4.heap.size w4 wr) := I.out
          clear I
          go_wp2_with fail
          go_loopw [17] (fun iv wx => ∃ q : Nat, q ≤ m ∧ iv = .int .i64 (q : Int) ∧ Hid (Below w4.heap.size w4 wx)) (fun iv _ => m - (intOf iv).toNat)
          case atStart => exact ⟨0, Nat.zero_le _, rfl, I1.out⟩
          case round =>
            obtain ⟨q3, hq3, rfl, I⟩ := hrel
            clear I1
            by_cases hlt3 : q3 < m
            · have g3 : (q3 : Int) < (m : Int) := by omega
              obtain ⟨b1, o1, he1, c0, c1', c2', c3, c4⟩ := (HST.out _ (KB.out _ I.out).2.2).2.2.1 q3 (by rw [hl.out.2]; exact hlt3)
              obtain ⟨b2, o2, he2, d0, d1, d2, d3, d4⟩ := (HST.out _ (KB.out _ I.out).2.2).2.2.2.1 q3 (by rw [hl.out.2]; exact hlt3)
              subst he1
              subst he2
              generalize hs.getD q3 zh = h at *
              obtain ⟨hk, hn, hu, hd, hi⟩ := h
              simp only at c0 c1' c2' c3 c4 d0 d1 d2 d3 d4
              go_wp2_with fail
              refine wp_region_noPanic ?_
              refine wp_region_held_drew (S := fun w' => w'.cell? ⟨b1, o1 + q3 * 5, none⟩ = some (.int .i64 hk) ∧ w'.cell? ⟨b1, o1 + q3 * 5 + 1, none⟩ = some (.int .i64 hn) ∧ w'.cell? ⟨b1, o1 + q3 * 5 + 2, none⟩ = some (.int .i64 hu) ∧ w'.cell? ⟨b1, o1 + q3 * 5 + 3, none⟩ = some (.int .i64 hd) ∧ w'.cell? ⟨b1, o1 + q3 * 5 + 4, none⟩ = some (.string hi) ∧ w'.cell? ⟨b2, o2 + q3 * 5, none⟩ = some (.int .i64 hk) ∧ w'.cell? ⟨b2, o2 + q3 * 5 + 1, none⟩ = some (.int .i64 hn) ∧ w'.cell? ⟨b2, o2 + q3 * 5 + 2, none⟩ = some (.int .i64 hu) ∧ w'.cell? ⟨b2, o2 + q3 * 5 + 3, none⟩ = some (.int .i64 hd) ∧ w'.cell? ⟨b2, o2 + q3 * 5 + 4, none⟩ = some (.string hi)) (by kernel_rfl) (⟨c0, c1', c2', c3, c4, d0, d1, d2, d3, d4⟩) (fun hHeld => ?_)
              refine wpAnyH_take (i := 0) (oi := { dst := some 91, op := Go.Op.move (Go.Operand.tmp 8), type := 31, pos := "law.go:38", after := #[], guard := none }) (v := ?_) rfl (by kernel_rfl) (by kernel_rfl) (by kernel_rfl) (fun _ _ _ h => h) (Or.inl ⟨by rfl, ?_⟩) (by assumption) ?_
              rotate_left
              · intro w' hSw
                clear hSw
                first
                | (go_simp; done)
                | (go_simp; with_reducible rfl)
              simp only [Act.put, List.setIfInBounds_toArray, List.set_cons_zero, List.set_cons_succ]
              refine wpAnyH_take (i := 1) (oi := { dst := some 92, op := Go.Op.move (Go.Operand.tmp 17), type := 3, pos := "law.go:38", after := #[], guard := none }) (v := ?_) rfl (by kernel_rfl) (by kernel_rfl) (by kernel_rfl) (fun _ _ _ h => h) (Or.inl ⟨by rfl, ?_⟩) (by assumption) ?_
              rotate_left
              · intro w' hSw
                clear hSw
                first
                | (go_simp; done)
                | (go_simp; with_reducible rfl)
              simp only [Act.put, List.setIfInBounds_toArray, List.set_cons_zero, List.set_cons_succ]
              refine wpAnyH_take (i := 2) (oi := { dst := some 93, op := Go.Op.indexAddr 31 (Go.Operand.tmp 91) (Go.Operand.tmp 92), type := 0, pos := "law.go:38", after := #[{ on := 0, ground := Go.Ground.data }, { on := 1, ground := Go.Ground.data }], guard := none }) (v := ?_) rfl (by kernel_rfl) (by kernel_rfl) (by kernel_rfl) (fun _ _ _ h => h) (Or.inl ⟨by rfl, ?_⟩) (by assumption) ?_
              rotate_left
              · intro w' hSw
                clear hSw
                first
                | (go_simp; done)
                | (go_simp; with_reducible rfl)
              simp only [Act.put, List.setIfInBounds_toArray, List.set_cons_zero, List.set_cons_succ]
              refine wpAnyH_take (i := 3) (oi := { dst := some 94, op := Go.Op.load 37 (Go.Operand.tmp 93), type := 37, pos := "law.go:38", after := #[{ on := 2, ground := Go.Ground.data }], guard := none }) (v := ?_) rfl (by kernel_rfl) (by kernel_rfl) (by kernel_rfl) (fun _ _ _ h => h) (Or.inl ⟨by rfl, ?_⟩) (by assumption) ?_
              rotate_left
              · intro w' hSw
                obtain ⟨p0, p1, p2, p3, p4, p5, p6, p7, p8, p9⟩ := hSw
                first
                | (go_simp; done)
                | (go_simp; with_reducible rfl)
              simp only [Act.put, List.setIfInBounds_toArray, List.set_cons_zero, List.set_cons_succ]
              refine wpAnyH_take (i := 4) (oi := { dst := some 95, op := Go.Op.move (Go.Operand.tmp 2), type := 31, pos := "law.go:38", after := #[], guard := none }) (v := ?_) rfl (by kernel_rfl) (by kernel_rfl) (by kernel_rfl) (fun _ _ _ h => h) (Or.inl ⟨by rfl, ?_⟩) (by assumption) ?_
              rotate_left
              · intro w' hSw
                clear hSw
                first
                | (go_simp; done)
                | (go_simp; with_reducible rfl)
              simp only [Act.put, List.setIfInBounds_toArray, List.set_cons_zero, List.set_cons_succ]
              refine wpAnyH_take (i := 5) (oi := { dst := some 96, op := Go.Op.move (Go.Operand.tmp 17), type := 3, pos := "law.go:38", after := #[], guard := none }) (v := ?_) rfl (by kernel_rfl) (by kernel_rfl) (by kernel_rfl) (fun _ _ _ h => h) (Or.inl ⟨by rfl, ?_⟩) (by assumption) ?_
              rotate_left
              · intro w' hSw
                clear hSw
                first
                | (go_simp; done)
                | (go_simp; with_reducible rfl)
              simp only [Act.put, List.setIfInBounds_toArray, List.set_cons_zero, List.set_cons_succ]
              refine wpAnyH_take (i := 6) (oi := { dst := some 97, op := Go.Op.indexAddr 31 (Go.Operand.tmp 95) (Go.Operand.tmp 96), type := 0, pos := "law.go:38", after := #[{ on := 4, ground := Go.Ground.data }, { on := 5, ground := Go.Ground.data }], guard := none }) (v := ?_) rfl (by kernel_rfl) (by kernel_rfl) (by kernel_rfl) (fun _ _ _ h => h) (Or.inl ⟨by rfl, ?_⟩) (by assumption) ?_
              rotate_left
              · intro w' hSw
                clear hSw
                first
                | (go_simp; done)
                | (go_simp; with_reducible rfl)
              simp only [Act.put, List.setIfInBounds_toArray, List.set_cons_zero, List.set_cons_succ]
              refine wpAnyH_take (i := 7) (oi := { dst := some 98, op := Go.Op.load 37 (Go.Operand.tmp 97), type := 37, pos := "law.go:38", after := #[{ on := 6, ground := Go.Ground.data }], guard := none }) (v := ?_) rfl (by kernel_rfl) (by kernel_rfl) (by kernel_rfl) (fun _ _ _ h => h) (Or.inl ⟨by rfl, ?_⟩) (by assumption) ?_
              rotate_left
              · intro w' hSw
                obtain ⟨p0, p1, p2, p3, p4, p5, p6, p7, p8, p9⟩ := hSw
                first
                | (go_simp; done)
                | (go_simp; with_reducible rfl)
              simp only [Act.put, List.setIfInBounds_toArray, List.set_cons_zero, List.set_cons_succ]
              refine wpAnyH_take (i := 8) (oi := { dst := some 99, op := Go.Op.binOp Go.BinOp.neq 37 (Go.Operand.tmp 94) (Go.Operand.tmp 98) 37, type := 4, pos := "law.go:38", after := #[{ on := 3, ground := Go.Ground.data }, { on := 7, ground := Go.Ground.data }], guard := none }) (v := (.bool false)) rfl (by kernel_rfl) (by kernel_rfl) (by kernel_rfl) (fun _ _ _ h => h) (Or.inl ⟨by rfl, ?_⟩) (by assumption) ?_
              · intro w' hSw
                exact exec_neq_hops _ _ (.tmp 94) (.tmp 98) hk hn hu hd hi rfl rfl rfl w'
              simp only [Act.put, List.setIfInBounds_toArray, List.set_cons_zero, List.set_cons_succ]
              refine wpAnyH_done (by kernel_rfl) ?_ _
              refine NoPanic.normal ?_
              clear hHeld
              have BN : Hid (Below w4.heap.size w4 wr.drew) := I.out.drew
              clear I c0 c1' c2' c3 c4 d0 d1 d2 d3 d4
              go_wp2
              exact ⟨⟨q3 + 1, by omega, by go_num, BN.out⟩, by simp [intOf]; omega⟩
            · obtain rfl : q3 = m := by omega
              have g3 : ¬ (q3 : Int) < (q3 : Int) := by omega
              have BF : Hid (Below w.heap.size w wr) := (HST.out _ (KB.out _ I.out).2.2).2.2.2.2
              clear I
              go_wp2_with fail
              refine Calls.mono (WK.out _ (hK.out.later BF.out)) ?_
              rintro e w5 ⟨rfl, hb5⟩
              have B5 : Hid (Below w.heap.size w w5) := chain BF.out hb5
              clear hb5 WK
              go_wp2
              go_ret
              exact ⟨rfl, B5.out⟩
end Go.Proofs.YtckfplpiakbbdaaGreatDoor
