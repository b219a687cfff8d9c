/- Parts: HP3, HP4. -/
import Derived.Test.YtckfplpiakbbdaaGreatDoorZcG42
import Derived.Test.YtckfplpiakbbdaaGreatDoorZcG22
import Derived.Laws.OwnMore
namespace Go.Proofs.YtckfplpiakbbdaaGreatDoor
open Go.RowKit Go.Proofs.Fd Go.Proofs.Hs Go.Proofs.Cc Go.Proofs.Hd Go.Proofs.Rt
set_option maxRecDepth 20000
def HksAt (w : World) (a : Option Addr) (ss : List ByteArray) : Prop := ∀ i, i < ss.length → ∃ b o, a = some ⟨b, o, none⟩
    ∧ w.cell? ⟨b, o + i * 6, none⟩ = some (.string (nth ss i)) ∧ w.cell? ⟨b, o + i * 6 + 1, none⟩ = some (.string (hdk (nth ss i) lFlow 32)) ∧ w.cell? ⟨b, o + i * 6 + 2, none⟩ = some (.string (hdk (nth ss i) lMac 32)) ∧ w.cell? ⟨b, o + i * 6 + 3, none⟩ = some (.string (hdk (nth ss i) lBody 32))
    ∧ w.cell? ⟨b, o + i * 6 + 4, none⟩ = some (.string (bld (nth ss i))) ∧ w.cell? ⟨b, o + i * 6 + 5, none⟩ = some (.string (hdk (nth ss i) lTag 16))
theorem HksAt.later {w w' : World} {a : Option Addr} {ss : List ByteArray} (h : HksAt w a ss) (hb : Below w.heap.size w w') : HksAt w' a ss := fun i hi => by
  obtain ⟨b, o, ha, c0, c1, c2, c3, c4, c5⟩ := h i hi
  exact ⟨b, o, ha, cell_later hb c0, cell_later hb c1, cell_later hb c2, cell_later hb c3, cell_later hb c4, cell_later hb c5⟩
theorem ba_app (a b : ByteArray) : (a ++ b).data.toList = a.data.toList ++ b.data.toList := by simp
theorem ba_add (a b : ByteArray) : (a ++ b).size = a.size + b.size := by simp
def fbs (ss : List ByteArray) (i : Nat) : ByteArray := ⟨(fil (fun i => hflow (nth ss i)) i).toArray⟩
theorem fbs_size (ss : List ByteArray) (i : Nat) (hi : i ≤ 6) : (fbs ss i).size = 40 * i := by
  unfold fbs; rw [ba_sz, fil_len _ (fun _ => hflow_len _) i hi]
theorem fbs_zero (ss : List ByteArray) : fbs ss 0 = ⟨#[]⟩ := rfl
theorem fbs_step (ss : List ByteArray) (i m : Nat) (hi : i ≤ 4) (hm : m + 40 * (i + 1) = 240) : (htn (nth ss i) (zba m ++ (fbs ss i ++ zba 40))).extract m 240 = fbs ss (i + 1) := by
  have hl : (fil (fun i => hflow (nth ss i)) i).length = 40 * i := fil_len _ (fun _ => hflow_len _) i (by omega)
  have e : ((htn (nth ss i) (zba m ++ (fbs ss i ++ zba 40))).extract m 240).data.toList = fil (fun i => hflow (nth ss i)) (i + 1) := by
    unfold htn
    rw [ba_cut, xorl_dp, ba_app, zba_data, List.drop_append_of_le_length (by rw [List.length_replicate]; exact Nat.le_refl _), List.drop_of_length_le (by rw [List.length_replicate]; exact Nat.le_refl _), List.nil_append, ba_app, zba_data, fil_succ, show 240 - 40 * (i + 1) = m by omega]
    have eq : (fbs ss i).data.toList = fil (fun i => hflow (nth ss i)) i := rfl
    rw [eq]
    apply List.take_of_length_le
    rw [xorl_len _ _ (by rw [List.length_append, hl, List.length_replicate, List.length_drop, hflow_len]; omega), List.length_append, hl, List.length_replicate]
    omega
  exact ba_of e
set_option maxHeartbeats 1000000 in
theorem filler_any (a : Option Addr) (ss : List ByteArray) (n cap : Nat) (hn : Hid (n ≤ ss.length)) (h4 : n ≤ 4) (w : World) (hc : Hid (HksAt w a ss)) :
    Calls Tryz.prog 54 #[.slice a n cap] w fun e w' => e = .returned (.string (fbs ss n)) ∧ Below w.heap.size w w' := by
  have Z40 : Hid (∀ w, Calls Tryz.prog 39 #[.int .i64 40] w fun e w' => e = .returned (.string (zba 40)) ∧ Below w.heap.size w w') := fun w => zeros_any 40 (by decide) (by decide) w
  go_enter Tryz.func54, Tryz.ntmps54
  go_wp2_with fail
  go_loopw [3, 9] (fun fv iv wr => ∃ k : Nat, k ≤ n ∧ iv = .int .i64 (k : Int) ∧ fv = .string (fbs ss k) ∧ Hid (Below w.heap.size w wr)) (fun _ iv _ => n - (intOf iv).toNat)
  case atStart => exact ⟨0, Nat.zero_le _, rfl, rfl, Below.refl _ _⟩
  case round =>
    obtain ⟨k, hk, rfl, rfl, I⟩ := hrel
    by_cases hlt : k < n
    · have g1 : (k : Int) < (n : Int) := by omega
      obtain ⟨b, o, rfl, c0, c1, c2, c3, c4, c5⟩ := HksAt.later hc.out I.out k (by have := hn.out; omega)
      obtain ⟨m, hm⟩ : ∃ m, m + 40 * (k + 1) = 240 := ⟨200 - 40 * k, by omega⟩
      obtain ⟨G, hG⟩ : ∃ G : ByteArray, fbs ss k ++ zba 40 = G := ⟨_, rfl⟩
      have zF := fbs_size ss k (by omega)
      have zG : G.size = 40 * (k + 1) := by rw [← hG, ba_add, zF, zba_size]; omega
      obtain ⟨H, hH⟩ : ∃ H : ByteArray, zba m ++ G = H := ⟨_, rfl⟩
      have zH : H.size = 240 := by rw [← hH, ba_add, zba_size, zG]; omega
      obtain ⟨Y, hY⟩ : ∃ Y : ByteArray, htn (nth ss k) H = Y := ⟨_, rfl⟩
      have zY : Y.size = 240 := by rw [← hY, htn_size _ _ (by omega), zH]
      have ST : Hid (Y.extract m 240 = fbs ss (k + 1)) := by
        rw [← hY, ← hH, ← hG]; exact fbs_step ss k m (by omega) hm
      have A1 : ∀ w, (Op.stringOp .add (fbs ss k) (zba 40)).run Tryz.prog w = .ok (.string G) w := fun w => by
        rw [← hG]; exact run_string_add_sum _ _ _ (by rw [zF, zba_size]; omega)
      have A2 : ∀ w, (Op.stringOp .add (zba m) G).run Tryz.prog w = .ok (.string H) w := fun w => by
        rw [← hH]; exact run_string_add_sum _ _ _ (by rw [zba_size, zG]; omega)
      have ZM : Hid (∀ w, Calls Tryz.prog 39 #[.int .i64 (m : Int)] w fun e w' => e = .returned (.string (zba m)) ∧ Below w.heap.size w w') := fun w => zeros_any m (by omega) (by omega) w
      have TU : Hid (∀ w, Calls Tryz.prog 38 #[hk6 (nth ss k), .string H] w fun e w' => e = .returned (.string Y) ∧ Below w.heap.size w w') := fun w => by
        rw [← hY]; exact hturned_any _ _ (by omega) w
      unfold hk6 at TU
      have zM := zba_size m
      have zMi : ((zba m).size : Int) = (m : Int) := by omega
      have zYi : (Y.size : Int) = 240 := by omega
      have s1 : IntKind.i64.wrap (240 - (G.size : Int)) = (m : Int) := by rw [IntKind.wrap_i64]; omega
      have s2 : wrap64 (240 - (G.size : Int)) = (m : Int) := by unfold wrap64; omega
      have m240 : (m : Int) ≤ 240 := by omega
      clear hG hH hY zG zH zF
      generalize zba m = Zm at *
      generalize zba 40 = Z at *
      obtain ⟨F, hF⟩ : ∃ F : ByteArray, fbs ss k = F := ⟨_, rfl⟩
      rw [hF] at A1 ⊢
      clear hF
      generalize nth ss k = s at *
      generalize hdk s lFlow 32 = k1 at *
      generalize hdk s lMac 32 = k2 at *
      generalize hdk s lBody 32 = k3 at *
      generalize bld s = k4 at *
      generalize hdk s lTag 16 = k5 at *
      go_wp2_with fail
      obtain ⟨A, hA⟩ : ∃ A, wr.alloc (.cells #[.string s, .string k1, .string k2, .string k3, .string k4, .string k5] 55) = A := ⟨_, rfl⟩
      have J : Hid (Six A wr.heap.size s k1 k2 k3 k4 k5 ∧ Below w.heap.size w A) := by
        rw [← hA]
        exact ⟨Six.new _ _ _ _ _ _ _ _, I.out.alloc I.out.size _⟩
      rw [hA]
      clear hA c0 c1 c2 c3 c4 c5 I
      generalize wr.heap.size = g at *
      refine Calls.mono (Z40.out _) ?_
      rintro e w1 ⟨rfl, hb1⟩
      have J1 : Hid (Six w1 g s k1 k2 k3 k4 k5 ∧ Below w.heap.size w w1) := ⟨J.out.1.later hb1, chain J.out.2 hb1⟩
      clear hb1 J Z40
      go_wp2_with fail
      refine Calls.mono (ZM.out _) ?_
      rintro e w2 ⟨rfl, hb2⟩
      have J2 : Hid (Six w2 g s k1 k2 k3 k4 k5 ∧ Below w.heap.size w w2) := ⟨J1.out.1.later hb2, chain J1.out.2 hb2⟩
      clear hb2 J1 ZM
      obtain ⟨-, c0, c1, c2, c3, c4, c5⟩ := J2.out.1
      go_wp2_with fail
      refine Calls.mono (TU.out _) ?_
      rintro e w3 ⟨rfl, hb3⟩
      have B3 : Hid (Below w.heap.size w w3) := chain J2.out.2 hb3
      clear hb3 J2 TU c0 c1 c2 c3 c4 c5
      go_wp2
      go_roundw
      case rel => exact ⟨k + 1, by omega, by go_num, by rw [ST.out], B3.out⟩
      case measure => simp [intOf]; omega
    · obtain rfl : k = n := by omega
      have g1 : ¬ (k : Int) < (k : Int) := by omega
      go_wp2
      go_ret
      exact ⟨rfl, I.out⟩
end Go.Proofs.YtckfplpiakbbdaaGreatDoor
namespace Go.Proofs.YtckfplpiakbbdaaGreatDoor
open Go.RowKit Go.Proofs.Fd Go.Proofs.Hs Go.Proofs.Cc Go.Proofs.Hd Go.Proofs.Rt
set_option maxRecDepth 20000
def kcell (s : ByteArray) : List Value := [.string s, .string (hdk s lFlow 32), .string (hdk s lMac 32), .string (hdk s lBody 32), .string (bld s), .string (hdk s lTag 16)]
def kcells (l : List ByteArray) : List Value := l.flatMap kcell
theorem kcells_cons (s : ByteArray) (l : List ByteArray) : kcells (s :: l) = .string s :: .string (hdk s lFlow 32) :: .string (hdk s lMac 32) :: .string (hdk s lBody 32) :: .string (bld s) :: .string (hdk s lTag 16) :: kcells l := by
  unfold kcells; rw [List.flatMap_cons]; unfold kcell; rw [List.cons_append, List.cons_append, List.cons_append, List.cons_append, List.cons_append, List.cons_append, List.nil_append]
theorem kcells_snoc (l : List ByteArray) (s : ByteArray) : kcells (l ++ [s]) = kcells l ++ kcell s := by
  unfold kcells; rw [List.flatMap_append, List.flatMap_cons, List.flatMap_nil, List.append_nil]
theorem kcells_len (l : List ByteArray) : (kcells l).length = l.length * 6 := by
  induction l with
  | nil => rfl
  | cons h l ih => rw [kcells_cons]; simp only [List.length_cons, ih]; omega
theorem kcells_at (l : List ByteArray) (i : Nat) (hi : i < l.length) : (kcells l)[i * 6]? = some (.string (nth l i)) ∧ (kcells l)[i * 6 + 1]? = some (.string (hdk (nth l i) lFlow 32)) ∧ (kcells l)[i * 6 + 2]? = some (.string (hdk (nth l i) lMac 32)) ∧ (kcells l)[i * 6 + 3]? = some (.string (hdk (nth l i) lBody 32)) ∧ (kcells l)[i * 6 + 4]? = some (.string (bld (nth l i))) ∧ (kcells l)[i * 6 + 5]? = some (.string (hdk (nth l i) lTag 16)) := by
  induction l generalizing i with
  | nil => simp at hi
  | cons h l ih =>
    rw [kcells_cons]
    cases i with
    | zero => exact ⟨by simp [nth], by simp [nth], by simp [nth], by simp [nth], by simp [nth], by simp [nth]⟩
    | succ i =>
      have := ih i (by simpa using hi)
      have e : (i + 1) * 6 = i * 6 + 6 := by omega
      have e2 : nth (h :: l) (i + 1) = nth l i := by unfold nth; rw [List.getD_cons_succ]
      rw [e, e2]
      simpa using this
theorem owns_hks {w : World} {base n : Nat} {v : Value} {l : List ByteArray} (h : w.ownsRow base 55 6 v n (kcells l)) : l.length = n ∧ ((v = .slice none 0 0 ∧ n = 0) ∨ ∃ g cap, v = .slice (some ⟨g, 0, none⟩) n cap ∧ HksAt w (some ⟨g, 0, none⟩) l ∧ base ≤ g ∧ g < w.heap.size ∧ n ≤ cap ∧ cap ≤ maxLen) := by
  obtain ⟨h1, h2⟩ := h
  have hl : l.length = n := by rw [kcells_len] at h1; omega
  refine ⟨hl, ?_⟩
  rcases h2 with h2 | ⟨g, cap, cur, rfl, hb, hh, hcap, hml, -, ht⟩
  · exact .inl h2
  · have hg : g < w.heap.size := by obtain ⟨q, -⟩ := Array.getElem?_eq_some_iff.1 hh; exact q
    refine .inr ⟨g, cap, rfl, fun i hi => ⟨g, 0, rfl, ?_⟩, hb, hg, hcap, hml⟩
    have key : ∀ j, j < n * 6 → w.cell? ⟨g, 0 + j, none⟩ = (kcells l)[j]? := fun j hj => by
      have e : cur[j]? = (kcells l)[j]? := by
        rw [← ht, List.getElem?_take_of_lt hj]; simp
      rw [Nat.zero_add]
      unfold World.cell?
      rw [hh]
      simp only [Option.isSome_none]
      show cur[j]? = _
      rw [e]
    obtain ⟨g0, g1, g2, g3, g4, g5⟩ := kcells_at l i hi
    refine ⟨?_, ?_, ?_, ?_, ?_, ?_⟩
    · rw [key (i * 6) (by omega)]; exact g0
    · rw [Nat.add_assoc, key (i * 6 + 1) (by omega)]; exact g1
    · rw [Nat.add_assoc, key (i * 6 + 2) (by omega)]; exact g2
    · rw [Nat.add_assoc, key (i * 6 + 3) (by omega)]; exact g3
    · rw [Nat.add_assoc, key (i * 6 + 4) (by omega)]; exact g4
    · rw [Nat.add_assoc, key (i * 6 + 5) (by omega)]; exact g5
theorem infoHk : (Tryz.prog.info? 55).map (fun i => (i.zero, i.size, i.bytes)) = some (some (.agg #[.string ⟨#[]⟩, .string ⟨#[]⟩, .string ⟨#[]⟩, .string ⟨#[]⟩, .string ⟨#[]⟩, .string ⟨#[]⟩]), 6, 96) := by kernel_rfl
theorem own_lat {w w' : World} {base : Nat} {e : TypeId} {size : Nat} {v : Value} {n : Nat} {xs : List Value} (h : w.ownsRow base e size v n xs) (hb : Below w.heap.size w w') : w'.ownsRow base e size v n xs := by
  refine ⟨h.1, ?_⟩
  rcases h.2 with hn | ⟨g, cap, cur, rfl, hbg, hgg, rest⟩
  · exact .inl hn
  · refine .inr ⟨g, cap, cur, rfl, hbg, ?_, rest⟩
    rw [hb.block g (Array.getElem?_eq_some_iff.1 hgg).1]
    exact hgg
theorem own_apart {w w' : World} {base base2 : Nat} {e e2 : TypeId} {size size2 : Nat} {v v2 : Value} {n n2 : Nat} {xs xs2 : List Value} (h : w.ownsRow base e size v n xs) (h2 : w.ownsRow base2 e2 size2 v2 n2 xs2) (hne : e ≠ e2) (hg : w.grownBy w' v2.ownBlock) : w'.ownsRow base e size v n xs := by
  refine ⟨h.1, ?_⟩
  rcases h.2 with hn | ⟨g, cap, cur, rfl, hbg, hgg, rest⟩
  · exact .inl hn
  · refine .inr ⟨g, cap, cur, rfl, hbg, ?_, rest⟩
    have hl := (Array.getElem?_eq_some_iff.1 hgg).1
    rw [hg.block g hl ?_]
    · exact hgg
    · intro he
      rcases h2.2 with ⟨rfl, -⟩ | ⟨g2, cap2, cur2, rfl, -, hg2, -⟩
      · cases he
      · have : g2 = g := by simpa [Value.ownBlock] using he.symm
        subst this
        rw [hgg] at hg2
        injection hg2 with hg2
        injection hg2 with _ q
        exact hne q
theorem blk_apart {w w' : World} {base2 : Nat} {e e2 : TypeId} {size2 : Nat} {v2 : Value} {n2 : Nat} {xs2 : List Value} {b : Nat} {cs : Array Value} (h : w.heap[b]? = some (.cells cs e)) (h2 : w.ownsRow base2 e2 size2 v2 n2 xs2) (hne : e ≠ e2) (hg : w.grownBy w' v2.ownBlock) : w'.heap[b]? = some (.cells cs e) := by
  have hl := (Array.getElem?_eq_some_iff.1 h).1
  rw [hg.block b hl ?_]
  · exact h
  · intro he
    rcases h2.2 with ⟨rfl, -⟩ | ⟨g2, cap2, cur2, rfl, -, hg2, -⟩
    · cases he
    · have : g2 = b := by simpa [Value.ownBlock] using he.symm
      subst this
      rw [h] at hg2
      injection hg2 with hg2
      injection hg2 with _ q
      exact hne q
theorem cells_of_blk {w : World} {b : Nat} {cs : Array Value} {e : TypeId} (h : w.heap[b]? = some (.cells cs e)) : ∀ j u, cs.toList[j]? = some u → w.cell? (Addr.add ⟨b, 0, none⟩ j) = some u := fun j u hu => by
  have q : Addr.add ⟨b, 0, none⟩ j = ⟨b, j, none⟩ := by first | (simp [Addr.add]; done) | (simp [Addr.add]; intro h; simp [h])
  rw [q]
  unfold World.cell?
  rw [h]
  simp only [Option.isSome_none]
  show cs[j]? = _
  simpa using hu
theorem owns_new (w : World) (base : Nat) (e : TypeId) (size : Nat) (xs : List Value) (hb : base ≤ w.heap.size) (hl : xs.length = size) : (w.alloc (.cells xs.toArray e)).ownsRow base e size (.slice (some ⟨w.heap.size, 0, none⟩) 1 1) 1 xs := by
  refine ⟨by omega, .inr ⟨w.heap.size, 1, xs.toArray, rfl, hb, ?_, Nat.le_refl _, by unfold maxLen; omega, by simp [hl], by simp [← hl]⟩⟩
  show (w.heap.push _)[w.heap.size]? = _
  simp
theorem secs_cons (seed p : ByteArray) (ps bs : List ByteArray) : secs seed (p :: ps) bs = (Crv.chn (seed :: bs) p).bind fun s => (secs seed ps (bs ++ [bld s])).map (s :: ·) := secsG_cons _ _ _ _ _
theorem secs_nil (seed : ByteArray) (bs : List ByteArray) : secs seed [] bs = some [] := secsG_nil _ _ _
def Made (seed : ByteArray) (pts : List ByteArray) (k : Nat) (ss : List ByteArray) : Prop := ss.length = k ∧ secs seed pts [] = (secs seed (pts.drop k) (ss.map bld)).map (ss ++ ·)
theorem Made.zero (seed : ByteArray) (pts : List ByteArray) : Made seed pts 0 [] := ⟨rfl, by
  rw [List.drop_zero, List.map_nil]
  cases secs seed pts [] <;> simp⟩
theorem Made.none {seed : ByteArray} {pts : List ByteArray} {k : Nat} {ss : List ByteArray} (h : Made seed pts k ss) (hk : k < pts.length) (hc : Crv.chn (seed :: ss.map bld) pts[k] = none) : secs seed pts [] = none := by
  rw [h.2, List.drop_eq_getElem_cons hk, secs_cons, hc, Option.bind_none, Option.map_none]
theorem Made.succ {seed : ByteArray} {pts : List ByteArray} {k : Nat} {ss : List ByteArray} (h : Made seed pts k ss) (hk : k < pts.length) (s : ByteArray) (hc : Crv.chn (seed :: ss.map bld) pts[k] = some s) : Made seed pts (k + 1) (ss ++ [s]) := by
  refine ⟨by rw [List.length_append, h.1]; rfl, ?_⟩
  rw [h.2, List.drop_eq_getElem_cons hk, secs_cons, hc, Option.bind_some, List.map_append, List.map_cons, List.map_nil]
  cases secs seed (pts.drop (k + 1)) (ss.map bld ++ [bld s]) with
  | none => rfl
  | some l => simp
theorem Made.all {seed : ByteArray} {pts : List ByteArray} {ss : List ByteArray} (h : Made seed pts pts.length ss) : secs seed pts [] = some ss := by
  rw [h.2, List.drop_length, secs_nil]; simp
theorem bld_size (s : ByteArray) : (bld s).size = 32 := hdk_size _ _ _
theorem wh_blds (seed : ByteArray) (ss : List ByteArray) (h : seed.size = 32) : Crv.wh (seed :: ss.map bld) = true := by
  unfold Crv.wh
  rw [List.all_eq_true]
  intro x hx
  rcases List.mem_cons.1 hx with rfl | hx
  · simpa using h
  · obtain ⟨s, -, rfl⟩ := List.mem_map.1 hx
    simpa using bld_size s
end Go.Proofs.YtckfplpiakbbdaaGreatDoor
