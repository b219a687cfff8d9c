/- Parts: LrK, LhB. -/
import Derived.Test.YtdcimnmebgkmjaaGreatDoorZlG27
import Derived.Test.YtdcimnmebgkmjaaGreatDoorZlG29
namespace Go.Proofs.YtdcimnmebgkmjaaGreatDoor
open Go.RowKit Go.Proofs.Fd Go.Proofs.Dk Go.Proofs.Lg
set_option maxRecDepth 20000
structure Rl (w : World) (d : Nat) (G : Nat → Prop) (s : St) (q : Nat) (v : Value) (x : Lo) : Prop where
  rd : Rd w d G s q x.h x.g v x.ts x.tk x.mr
  h1 : x.h ≤ 1
  n4 : 4 ≤ s.n
  n2 : s.n ≤ 1024
  tk : x.tk ≤ s.n / 2
  ok : ∀ t ∈ x.ts, 1 ≤ t.length ∧ t.length ≤ 2000
section
variable {w : World} {d : Nat} {G : Nat → Prop} {s : St} {q : Nat} {v : Value} {x : Lo}
theorem Rl.later (k : Rl w d G s q v x) {w' : World} (hb : Below w.heap.size w w') : Rl w' d G s q v x := ⟨k.rd.later hb, k.h1, k.n4, k.n2, k.tk, k.ok⟩
theorem Rl.tlen (k : Rl w d G s q v x) : x.ts.length ≤ 512 := by
  have h1 := tkn_ge_len x.ts
  have h2 : tkn 1 x.ts ≤ s.n / 2 := k.tk
  have h3 := k.n2
  omega
theorem Rl.fq (k : Rl w d G s q v x) {y : Nat} (hy : FQ G q v y) : y < w.heap.size := by
  rcases hy with e | e
  · exact k.rd.at_.lt e
  · exact k.rd.rf.lt e
theorem Rl.other (k : Rl w d G s q v x) {w' : World} {F : Nat → Prop} (hb : Bf F w w') (hF : ∀ y, FQ G q v y → ¬ F y) : Rl w' d G s q v x :=
  ⟨⟨k.rd.at_.other hb (fun y hy => hF y (.inl hy)), k.rd.rf.bf hb (fun y hy => hF y (.inr hy)), k.rd.ap⟩, k.h1, k.n4, k.n2, k.tk, k.ok⟩
end
def RlP (w : World) (d : Nat) (G : Nat → Prop) (q : Nat) (v : Value) (s : St) (x : Lo) (w' : World) : Prop := ∃ G' v', Rl w' d G' s q v' x ∧ Nx w G G' ∧ Nx w (HFt q v) (HFt q v') ∧ Bf (FQ G q v) w w'
set_option maxHeartbeats 1000000 in
theorem rroom_any (w : World) (d : Nat) (G : Nat → Prop) (s : St) (q : Nat) (v : Value) (x : Lo) (k : Hid (Rl w d G s q v x)) :
    Calls Tryz.prog 28 #[.pointer (some ⟨q, 0, none⟩)] w fun e w' => e = .returned (.int .i64 ((s.n / 2 - x.tk : Nat) : Int)) ∧ Below w.heap.size w w' := by
  have hn2 := k.out.n2
  have htk : x.tk ≤ s.n / 2 := k.out.tk
  have HA : Hid (∀ W, Below w.heap.size w W → Calls Tryz.prog 64 #[.pointer (some ⟨d, 0, none⟩)] W fun e w' => e = .returned (.int .i64 ((s.n / 2 : Nat) : Int)) ∧ w' = W) := fun W hb => rhalf_any d G s W (k.out.rd.at_.later hb) (by omega)
  have k0 := k.out.rd.rf.bk.c 0 _ rfl
  have k5 := k.out.rd.rf.bk.c 5 _ rfl
  obtain ⟨H, hH⟩ : ∃ H, s.n / 2 = H := ⟨_, rfl⟩
  obtain ⟨t, ht⟩ : ∃ t, x.tk = t := ⟨_, rfl⟩
  rw [hH] at HA htk ⊢
  rw [ht] at k5 htk ⊢
  have y1 : IntKind.i64.wrap ((H : Int) - (t : Int)) = ((H - t : Nat) : Int) := by rw [IntKind.wrap_i64]; omega
  clear k ht
  go_enter Tryz.func28, Tryz.ntmps28
  go_wp2_with fail
  go_region_held3 (fun w' => w'.cell? ⟨q, 0, none⟩ = some (.pointer (some ⟨d, 0, none⟩)) ∧ w'.cell? ⟨q, 5, none⟩ = some (.int .i64 (t : Int)) ∧ Below w.heap.size w w') (first | exact ⟨k0, k5, (Below.refl _ _).drew⟩ | assumption) (first | (go_at_call 64; refine Calls.mono (HA.out _ (by first | exact (Below.refl _ _).drew | assumption)) ?_; rintro e w2 ⟨rfl, rfl⟩))
  go_wp2
  go_ret
  exact ⟨rfl, (Below.refl _ _).drew⟩
set_option maxHeartbeats 1000000 in
theorem rappend_any (w : World) (d : Nat) (G : Nat → Prop) (s : St) (q : Nat) (v : Value) (x : Lo) (X : ByteArray) (hl : s.l.length + 100 ≤ 1000000) (k : Hid (Rl w d G s q v x)) :
    Calls Tryz.prog 36 #[.pointer (some ⟨q, 0, none⟩), .string X] w fun e w' => e = .returned (.int .i64 (app s x X.data.toList).1.1) ∧ RlP w d G q v (app s x X.data.toList).1.2 (app s x X.data.toList).2 w' := by
  have MY : Hid _ := rmay_any X w
  obtain ⟨t, ht⟩ : ∃ t, X.data.toList = t := ⟨_, rfl⟩
  have hX : Hid (X = st t) := by show X = st t; rw [← ht]; rfl
  rw [ht] at MY ⊢
  clear ht
  by_cases h0 : may t = 0
  · have hok := may_ok h0
    have RM : Hid _ := rroom_any w d G s q v x k
    have SC : Hid (∀ W, Calls Tryz.prog 76 #[.string X] W fun e w' => e = .returned (.int .i64 (sn t : Int)) ∧ w' = W) := fun W => by rw [hX.out]; exact rsectors_any t (by omega) W
    have htk : x.tk ≤ s.n / 2 := k.out.tk
    have hn2 := k.out.n2
    rw [h0] at MY
    by_cases h2 : s.n / 2 < x.tk + sn t
    · have ea : app s x t = ((151, s), x) := by rw [app, if_neg (by rw [h0]; simp), if_pos h2]
      rw [ea]
      have FF : Hid (∀ W, Below w.heap.size w W → RlP w d G q v s x W) := fun W hb => ⟨G, v, k.out.later hb, Nx.refl _ _, Nx.refl _ _, Bf.of hb⟩
      have g1 : ((s.n / 2 - x.tk : Nat) : Int) < (sn t : Int) := by omega
      obtain ⟨r, hr⟩ : ∃ r : Int, ((s.n / 2 - x.tk : Nat) : Int) = r := ⟨_, rfl⟩
      obtain ⟨z, hz⟩ : ∃ z : Int, (sn t : Int) = z := ⟨_, rfl⟩
      rw [hr] at RM g1
      rw [hz] at SC g1
      clear hr hz ea h2 htk k hok
      go_enter Tryz.func36, Tryz.ntmps36
      go_wp2_with fail
      refine Calls.mono MY.out ?_
      rintro e w1 ⟨rfl, rfl⟩
      go_wp2_with fail
      refine Calls.mono (SC.out _) ?_
      rintro e w1 ⟨rfl, rfl⟩
      go_wp2_with fail
      refine Calls.mono RM.out ?_
      rintro e w2 ⟨rfl, hb⟩
      have F2 : Hid _ := FF.out w2 hb
      clear FF hb RM
      go_wp2
      go_ret
      exact ⟨rfl, F2.out⟩
    · have ea : app s x t = (wrb s (x.h * (s.n / 2) + x.tk) (rcd x.mr t), if (wrb s (x.h * (s.n / 2) + x.tk) (rcd x.mr t)).1 = 0 then { x with ts := x.ts ++ [t] } else x) := by rw [app, if_neg (by rw [h0]; simp), if_neg h2]
      have g1 : ¬ ((s.n / 2 - x.tk : Nat) : Int) < (sn t : Int) := by omega
      have PU : Hid (∀ W, Below w.heap.size w W → Calls Tryz.prog 77 #[.pointer (some ⟨q, 0, none⟩), .string X] W fun e w' => e = .returned (.int .i64 (app s x t).1.1) ∧ RlP w d G q v (app s x t).1.2 (app s x t).2 w') := fun W hb => by
        have kk := k.out.later hb
        have := rput_any d G s q x.h x.g v x.ts x.tk x.mr t W (mks_len _ _ rfl) (by omega) kk.h1 (by omega) (by omega) (by have := kk.tlen; omega) hl kk.rd
        rw [hX.out]
        refine this.mono ?_
        rintro e w' ⟨he, G', v', hc, n1, n2, b1⟩
        rw [ea]
        have hwn := wrb_n s (x.h * (s.n / 2) + x.tk) (rcd x.mr t)
        obtain ⟨⟨y, s2⟩, hy⟩ : ∃ z, wrb s (x.h * (s.n / 2) + x.tk) (rcd x.mr t) = z := ⟨_, rfl⟩
        rw [hy] at he hc hwn ⊢
        have hwn' : s2.n = s.n := hwn
        have hsz := hb.size
        have nx1 : Nx w G G' := fun y hy => (n1 y hy).imp id (fun z => Nat.le_trans hsz z)
        have nx2 : Nx w (HFt q v) (HFt q v') := fun y hy => (n2 y hy).imp id (fun z => Nat.le_trans hsz z)
        refine ⟨he, G', v', ?_, nx1, nx2, (Bf.of hb).trans (Nx.refl _ _) b1⟩
        rcases hc with ⟨c0, c1⟩ | ⟨c0, c1⟩
        · rw [if_pos c0]
          have et : (⟨x.h, x.g, x.ts ++ [t]⟩ : Lo).tk = x.tk + sn t := tkn_app x.ts 1 _
          have em : (⟨x.h, x.g, x.ts ++ [t]⟩ : Lo).mr = rmk x.mr t := mks_app x.ts (hm x.g) _
          refine ⟨?_, kk.h1, by rw [hwn']; exact kk.n4, by rw [hwn']; exact kk.n2, by rw [et, hwn']; omega, fun u hu => ?_⟩
          · show Rd w' d G' s2 q x.h x.g v' (x.ts ++ [t]) (⟨x.h, x.g, x.ts ++ [t]⟩ : Lo).tk (⟨x.h, x.g, x.ts ++ [t]⟩ : Lo).mr
            rw [et, em]
            exact c1
          · rcases List.mem_append.1 hu with hu | hu
            · exact kk.ok u hu
            · rw [List.mem_singleton] at hu
              subst hu
              exact hok
        · rw [if_neg c0]
          exact ⟨c1, kk.h1, by rw [hwn']; exact kk.n4, by rw [hwn']; exact kk.n2, by rw [hwn']; exact kk.tk, kk.ok⟩
      obtain ⟨⟨⟨y, s2⟩, x2⟩, hy⟩ : ∃ z, app s x t = z := ⟨_, rfl⟩
      rw [hy] at PU ⊢
      obtain ⟨r, hr⟩ : ∃ r : Int, ((s.n / 2 - x.tk : Nat) : Int) = r := ⟨_, rfl⟩
      obtain ⟨z, hz⟩ : ∃ z : Int, (sn t : Int) = z := ⟨_, rfl⟩
      rw [hr] at RM g1
      rw [hz] at SC g1
      clear hr hz ea hy h2 htk k hok
      go_enter Tryz.func36, Tryz.ntmps36
      go_wp2_with fail
      refine Calls.mono MY.out ?_
      rintro e w1 ⟨rfl, rfl⟩
      go_wp2_with fail
      refine Calls.mono (SC.out _) ?_
      rintro e w1 ⟨rfl, rfl⟩
      go_wp2_with fail
      refine Calls.mono RM.out ?_
      rintro e w2 ⟨rfl, hb⟩
      have P2 : Hid _ := PU.out w2 hb
      clear PU hb RM
      go_wp2_with fail
      refine Calls.mono P2.out ?_
      rintro e w3 ⟨rfl, f3⟩
      have F3 : Hid _ := f3
      clear f3 P2
      go_wp2
      go_ret
      exact ⟨rfl, F3.out⟩
  · have ea : app s x t = ((may t, s), x) := by rw [app, if_pos h0]
    rw [ea]
    have FF : Hid (RlP w d G q v s x w) := ⟨G, v, k.out, Nx.refl _ _, Nx.refl _ _, Bf.refl _ _⟩
    obtain ⟨z, hz⟩ : ∃ z, may t = z := ⟨_, rfl⟩
    rw [hz] at MY h0 ⊢
    clear hz ea k
    go_enter Tryz.func36, Tryz.ntmps36
    go_wp2_with fail
    refine Calls.mono MY.out ?_
    rintro e w1 ⟨rfl, rfl⟩
    clear MY
    go_wp2
    go_ret
    exact ⟨rfl, FF.out⟩
end Go.Proofs.YtdcimnmebgkmjaaGreatDoor
namespace Go.Proofs.YtdcimnmebgkmjaaGreatDoor
open Go.RowKit Go.Proofs.Fd Go.Proofs.Dk Go.Proofs.Lg
set_option maxRecDepth 20000
theorem owns_tx {w : World} {base : Nat} {v : Value} {l : List Bs} {n : Nat} (hn : l.length = n) (h : w.ownsRow base 9 1 v n (scs l)) : ∃ a cap, v = .slice a n cap ∧ TxAt w a l ∧ (a = none → n = 0 ∧ cap = 0) := by
  obtain ⟨h1, h2⟩ := h
  rcases h2 with ⟨rfl, h0⟩ | ⟨g, cap, cur, rfl, -, hh, -, -, -, ht⟩
  · subst h0
    have : l = [] := List.length_eq_zero_iff.1 hn
    subst this
    exact ⟨none, 0, rfl, TxAt.nil _ _, fun _ => ⟨rfl, rfl⟩⟩
  · refine ⟨_, cap, rfl, fun j hj => ⟨g, 0, rfl, ?_⟩, fun e => by cases e⟩
    have e : cur[j]? = (scs l)[j]? := by
      rw [← ht, List.getElem?_take_of_lt (by omega)]; simp
    rw [Nat.zero_add]
    unfold World.cell?
    rw [hh]
    simp only [Option.isSome_none]
    show cur[j]? = _
    rw [e]; simp [scs, hj]
theorem owns_laterS {w w' : World} {base : Nat} {v : Value} {n : Nat} {xs : List Value} (h : w.ownsRow base 9 1 v n xs) (hb : Below w.heap.size w w') : w'.ownsRow base 9 1 v n xs := by
  refine ⟨h.1, ?_⟩
  rcases h.2 with h2 | ⟨g, cap, cur, rfl, hg, hh, hr⟩
  · exact .inl h2
  · exact .inr ⟨g, cap, cur, rfl, hg, (hb.block g (Array.getElem?_eq_some_iff.1 hh).1).trans hh, hr⟩
theorem one_new (w : World) (x : Value) (t : TypeId) : ∀ j u, [x][j]? = some u → (w.alloc (.cells #[x] t)).cell? (Addr.add ⟨w.heap.size, 0, none⟩ j) = some u := fun j u h => by
  obtain rfl : j = 0 := by
    match j, h with
    | 0, _ => rfl
    | j + 1, h => simp at h
  simp at h
  subst h
  rw [Addr.add_mid, Nat.zero_add, World.cell?_alloc_new]
  rfl
set_option maxHeartbeats 2000000 in
theorem lrecords_any (q p fr mn g : Nat) (v : Value) (ts : List Bs) (tk : Nat) (m : Bs) (more : List Value) (w : World) (hn : ts.length ≤ 100000) (ht : ∀ t ∈ ts, t.length ≤ 2000) (h : Hid (Hf w q p fr mn g v ts tk m more)) :
    Calls Tryz.prog 24 #[.pointer (some ⟨q, 0, none⟩)] w fun e w' => ∃ u, e = .returned u ∧ w'.ownsRow w.heap.size 9 1 u ts.length (scs ts) ∧ Below w.heap.size w w' := by
  obtain ⟨i0, hi, hz0, hz1, hz2⟩ := info_parts infoS
  obtain ⟨a, cap, rfl, tx, -⟩ := owns_tx rfl h.out.row
  have HX : Hid (TxAt w a ts) := tx
  have k4 := h.out.bk.c 4 _ rfl
  have HT : Hid (∀ t ∈ ts, t.length ≤ 2000) := ht
  obtain ⟨n, hnn⟩ : ∃ n, ts.length = n := ⟨_, rfl⟩
  have HN : Hid (ts.length = n) := hnn
  rw [hnn] at k4 hn ⊢
  clear tx h ht hnn
  go_enter Tryz.func24, Tryz.ntmps24
  go_wp2
  go_loopw [3, 12] (fun sl i wr => ∃ k : Nat, k ≤ n ∧ i = .int .i64 (k : Int) ∧ Hid (wr.ownsRow w.heap.size 9 1 sl k (scs (ts.take k)) ∧ Below w.heap.size w wr)) (fun _ i _ => n - (intOf i).toNat)
  case atStart => exact ⟨0, Nat.zero_le _, rfl, ⟨rfl, .inl ⟨rfl, rfl⟩⟩, Below.refl _ _⟩
  case round =>
    obtain ⟨k, hk, rfl, J⟩ := hrel
    clear k4
    by_cases hlt : k < n
    · have hkl : k < ts.length := by rw [HN.out]; exact hlt
      have g1 : (k : Int) < (n : Int) := by omega
      obtain ⟨b, o, rfl, c0⟩ := (HX.out.later J.out.2) k hkl
      have ET : Hid (ts.take (k + 1) = ts.take k ++ [ts[k]]) := List.take_succ_eq_append_getElem hkl
      have hl := HT.out _ (List.getElem_mem hkl)
      obtain ⟨t, htt⟩ : ∃ t, ts[k] = t := ⟨_, rfl⟩
      rw [htt] at c0 ET hl
      have CL : Hid (∀ w, Calls Tryz.prog 63 #[.string (st t)] w fun e w' => e = .returned (.string (st t)) ∧ Below w.heap.size w w') := fun w => sclone_any (st t) (by rw [st_size]; omega) w
      have HSV : Hid (Value.string (st t) = sv t) := (rfl : Value.string (st t) = sv t)
      unfold sv at c0
      obtain ⟨T, hT⟩ : ∃ T, st t = T := ⟨_, rfl⟩
      rw [hT] at c0 CL HSV
      clear htt hT
      go_wp2_with fail
      refine Calls.mono (CL.out _) ?_
      rintro e w1 ⟨rfl, hb⟩
      have J1 : Hid (w1.ownsRow w.heap.size 9 1 u3 k (scs (ts.take k)) ∧ Below w.heap.size w w1) := ⟨owns_laterS J.out.1 hb, chain J.out.2 hb⟩
      clear hb J CL c0
      go_wp2_with (first
        | (at_builtin; refine wpList_append_own _ rfl _ _ 37 rfl w.heap.size 9 i0 (.string ⟨#[]⟩) 1 16 Tryz.underlying37 hi hz0 hz1 hz2 rfl (by decide) _ _ _ rfl (J1.out.1.alloc _) ⟨w1.heap.size, 0, none⟩ 1 1 [.string T] rfl rfl (one_new _ _ _) (by intro u hu; simp at hu; subst hu; rfl) (by unfold maxLen; omega) (by omega) (by have := J1.out.2.size; simp; omega) ?_; intro v1 w2 hown1 hgrow1 hnil1))
      go_roundw
      case rel =>
        refine ⟨k + 1, by omega, rfl, ?_, ?_⟩
        · rw [ET.out, scs_app]
          rw [HSV.out] at hown1
          exact hown1
        · exact (J1.out.2.alloc J1.out.2.size _).grown hgrow1 (by have := J1.out.2.size; simp; omega) (fun q hq => (J1.out.1.lt q hq).1)
      case measure => simp [intOf]; omega
    · obtain rfl : k = n := by omega
      have J2 : Hid (wr.ownsRow w.heap.size 9 1 u3 k (scs ts) ∧ Below w.heap.size w wr) := by
        have := J.out
        rw [List.take_of_length_le (by rw [HN.out]; exact Nat.le_refl _)] at this
        exact this
      clear J
      go_wp2
      go_ret
      exact ⟨u3, rfl, J2.out.1, J2.out.2⟩
end Go.Proofs.YtdcimnmebgkmjaaGreatDoor
