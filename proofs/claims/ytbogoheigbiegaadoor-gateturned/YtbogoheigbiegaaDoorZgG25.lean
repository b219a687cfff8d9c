/- Parts: GtE, GtF, GtG. -/
import Derived.Test.YtbogoheigbiegaaDoorZgG16
import Derived.Test.YtbogoheigbiegaaDoorZgG24
import Derived.Test.YtbogoheigbiegaaDoorZgG12
namespace Go.Proofs.YtbogoheigbiegaaDoor.Gat
open Go.RowKit Go.Proofs.Fd Go.Proofs.Ml Go.Proofs.Hs Go.Proofs.Gt
open Go.Proofs.YtbogoheigbiegaaDoor.Mai (mv MlAt Lists MlV enS chkE encode_any z32)
set_option maxRecDepth 20000
theorem jnd_two (x y : ByteArray) : jnd [x, y] = x.data.toList ++ y.data.toList := by simp [jnd]
theorem tgT_size (key : ByteArray) (t : List UInt8) : (tgT key t).size = 32 := by unfold tgT; rw [ba_size, hmac_len]
theorem en_le (m : Ml) : (enS m).size ≤ 1000 := by
  unfold Mai.enS
  by_cases h : okB m = true
  · rw [if_pos h, mk_size, txt_len h]
    rcases ok_cases h with ⟨k, -⟩ | ⟨k | k | k, -⟩ <;> rw [k] <;> decide
  · rw [if_neg h]; decide
theorem en_by {m : Ml} (h : okB m = true) : (enS m).data.toList = txt m := by unfold Mai.enS; rw [if_pos h]; exact by_mk _
set_option maxHeartbeats 1000000 in
theorem tag_any (g o : Nat) (key text : ByteArray) (hk : key.size = 32) (ht : text.size ≤ 1000000) (w : World) (c1 : w.cell? ⟨g, o + 1, none⟩ = some (.string key)) (K : Hid (Kh w)) :
    Calls Tryd.prog 52 #[.pointer (some ⟨g, o, none⟩), .string text] w fun e w' => e = .returned (.string (tgT key text.data.toList)) ∧ Below w.heap.size w w' := by
  have TG : Hid (∀ (B : Nat) (w2 : World), Kh w2 → w2.cell? ⟨B, 0, none⟩ = some (.string ⟨#[103, 97, 116, 101]⟩) → w2.cell? ⟨B, 1, none⟩ = some (.string text) → Calls Tryd.prog 25 #[.string key, .slice (some ⟨B, 0, none⟩) 2 2] w2 fun e w' => e = .returned (.string (tgT key text.data.toList)) ∧ Below w2.heap.size w2 w') := fun B w2 h h0 h1 => by
    have q := tag_c key (some ⟨B, 0, none⟩) [⟨#[103, 97, 116, 101]⟩, text] 2 2 w2 rfl (by show _ ≤ _; decide) (by show key.size ≤ _; rw [hk]; decide) (fun s hs => by
      rcases List.mem_cons.1 hs with rfl | hs
      · decide
      · rcases List.mem_cons.1 hs with rfl | hs
        · omega
        · cases hs) h (strAt2 h0 h1)
    rw [jnd_two] at q
    exact q
  clear hk ht
  generalize tgT key text.data.toList = R at *
  have BB : Hid (∀ o, Below w.heap.size w (w.alloc o)) := fun o => (Below.refl _ _).alloc (Nat.le_refl _) _
  go_enter Tryd.func52, Tryd.ntmps52
  go_wp2_with fail
  refine Calls.mono (TG.out _ _ (K.out.alloc _) (by simp [go_sem]) (by simp [go_sem])) ?_
  rintro e w1 ⟨rfl, hb⟩
  have B1 : Hid (Below w.heap.size w w1) := chain (BB.out _) hb
  clear hb TG
  go_wp2
  go_ret
  exact ⟨rfl, B1.out⟩
theorem same_dec (a b : ByteArray) : (a.toList == b.toList) = decide (a = b) := by
  rw [ByteArray.toList_eq, ByteArray.toList_eq]
  by_cases h : a = b
  · subst h; simp
  · rw [decide_eq_false h, beq_eq_false_iff_ne]
    intro e
    exact h (ByteArray.ext (Array.toList_inj.1 e))
set_option maxHeartbeats 1000000 in
theorem signed_any (g o : Nat) (key tag text : ByteArray) (hk : key.size = 32) (hg : tag.size ≤ 140737488355328) (ht : text.size ≤ 1000000) (w : World) (c1 : w.cell? ⟨g, o + 1, none⟩ = some (.string key)) (K : Hid (Kh w)) :
    Calls Tryd.prog 34 #[.pointer (some ⟨g, o, none⟩), .string tag, .string text] w fun e w' => e = .returned (.bool (decide (tag = tgT key text.data.toList))) ∧ Below w.heap.size w w' := by
  have TG : Hid _ := tag_any g o key text hk ht w c1 K
  have SM : Hid (∀ w, Calls Tryd.prog 51 #[.string tag, .string (tgT key text.data.toList)] w fun e w' => e = .returned (.bool (decide (tag = tgT key text.data.toList))) ∧ Below w.heap.size w w') := fun w => by
    have q := same_c tag (tgT key text.data.toList) w hg (by show _ ≤ _; rw [tgT_size]; decide)
    rw [same_dec] at q
    exact q
  obtain ⟨d, hd⟩ : ∃ d, decide (tag = tgT key text.data.toList) = d := ⟨_, rfl⟩
  rw [hd] at SM ⊢
  clear hd hk ht hg c1 K
  generalize tgT key text.data.toList = R at *
  go_enter Tryd.func34, Tryd.ntmps34
  go_wp2_with fail
  refine Calls.mono TG.out ?_
  rintro e w1 ⟨rfl, hb⟩
  have B1 : Hid (Below w.heap.size w w1) := hb
  clear hb TG
  go_wp2_with fail
  refine Calls.mono (SM.out _) ?_
  rintro e w2 ⟨rfl, hb⟩
  have B2 : Hid (Below w.heap.size w w2) := chain B1.out hb
  clear hb SM B1
  go_wp2
  go_ret
  exact ⟨rfl, B2.out⟩
set_option maxHeartbeats 1000000 in
theorem goOn_any (g o : Nat) (seq last : Int) (w : World) (c2 : w.cell? ⟨g, o + 2, none⟩ = some (.int .i64 last)) (f2 : w.frozen? ⟨g, o + 2, none⟩ = false) :
    Calls Tryd.prog 35 #[.pointer (some ⟨g, o, none⟩), .int .i64 seq] w fun e w' => e = .returned (.int .i64 (if seq ≤ last then 170 else 0)) ∧ w' = (if seq ≤ last then w else w.setCell ⟨g, o + 2, none⟩ (.int .i64 seq)) := by
  by_cases h : seq ≤ last
  · rw [if_pos h, if_pos h]
    go_enter Tryd.func35, Tryd.ntmps35
    go_wp2
    go_ret
    exact ⟨rfl, rfl⟩
  · rw [if_neg h, if_neg h]
    go_enter Tryd.func35, Tryd.ntmps35
    go_wp2
    go_ret
    exact ⟨rfl, rfl⟩
set_option maxHeartbeats 1000000 in
theorem untagged_any (k u q : Int) (t g : ByteArray) (a : Option Addr) (n c : Nat) (a2 : Option Addr) (n2 c2 : Nat) (ss : List Sl) (is : List ByteArray) (w : World) (L : Hid (Lists w a n c a2 n2 c2 ss is)) :
    Calls Tryd.prog 32 #[mv k u q t g a n c a2 n2 c2] w fun e w' => e = .returned (.tuple #[.string (enS (bare ⟨k, u, q, t, g, ss, is⟩)), .int .i64 (chkE (okB (bare ⟨k, u, q, t, g, ss, is⟩)))]) ∧ Below w.heap.size w w' := by
  have EN : Hid (∀ w2, Below w.heap.size w w2 → Calls Tryd.prog 23 #[mv k u q t ⟨#[0, 0, 0, 0, 0, 0, 0, 0, 0, 0, 0, 0, 0, 0, 0, 0, 0, 0, 0, 0, 0, 0, 0, 0, 0, 0, 0, 0, 0, 0, 0, 0]⟩ a n c a2 n2 c2] w2 fun e w' => e = .returned (.tuple #[.string (enS (bare ⟨k, u, q, t, g, ss, is⟩)), .int .i64 (chkE (okB (bare ⟨k, u, q, t, g, ss, is⟩)))]) ∧ Below w2.heap.size w2 w') := fun w2 h2 => by
    have q := encode_any k u q t (mk (zr 32)) a n c a2 n2 c2 ss is w2 (L.out.later h2)
    rw [z32] at q
    exact q
  obtain ⟨S, hS⟩ : ∃ S, enS (bare ⟨k, u, q, t, g, ss, is⟩) = S := ⟨_, rfl⟩
  obtain ⟨E, hE⟩ : ∃ E, chkE (okB (bare ⟨k, u, q, t, g, ss, is⟩)) = E := ⟨_, rfl⟩
  rw [hS, hE] at EN ⊢
  clear hS hE L
  unfold mv at EN ⊢
  have BB : Hid (∀ o, Below w.heap.size w (w.alloc o)) := fun o => (Below.refl _ _).alloc (Nat.le_refl _) _
  go_enter Tryd.func32, Tryd.ntmps32
  go_wp2_with fail
  refine Calls.mono (EN.out _ (BB.out _)) ?_
  rintro e w1 ⟨rfl, hb⟩
  have B1 : Hid (Below w.heap.size w w1) := chain (BB.out _) hb
  clear hb EN
  go_wp2
  go_ret2
  exact ⟨rfl, B1.out⟩
end Go.Proofs.YtbogoheigbiegaaDoor.Gat
namespace Go.Proofs.YtbogoheigbiegaaDoor.Gat
open Go.RowKit Go.Proofs.Fd Go.Proofs.Ml Go.Proofs.Hs Go.Proofs.Gt
open Go.Proofs.YtbogoheigbiegaaDoor.Mai (mv MlAt Lists MlV SlAt enS chkE encode_any z32 decode_any)
set_option maxRecDepth 20000
theorem dec_bare {m : Ml} (h : okB (bare m) = true) : de (txt (bare m)) = 0 ∧ dm (txt (bare m)) = bare m := by
  have q := (dec_txt h).1
  unfold de dm
  rw [q, if_pos rfl, if_pos rfl]
  exact ⟨rfl, rd_back h⟩
def zml : Obj := .cells #[.int .i64 0, .int .i64 0, .int .i64 0, .string ⟨#[]⟩, .string ⟨#[]⟩, .slice none 0 0, .slice none 0 0] 38
theorem ids_apart {w : World} {b : Nat} {a2 : Option Addr} {is : List ByteArray} (h : Mai.StrAt w a2 is) (hs : ∀ s ∈ is, s.size = 16) (hb : w.heap[b]? = some zml) : is = [] ∨ ∀ x, a2 = some x → b ≠ x.block := by
  cases is with
  | nil => exact .inl rfl
  | cons s r =>
    right
    rintro x rfl e
    obtain ⟨b', o, q, c0⟩ := h 0 (by simp)
    have q' := Option.some.inj q
    subst q'
    simp only at e
    subst e
    have z := hs s List.mem_cons_self
    unfold World.cell? at c0
    rw [hb] at c0
    simp only [zml, Option.isSome_none, Nat.add_zero, List.getElem_cons_zero] at c0
    have c1 : (#[Value.int .i64 0, .int .i64 0, .int .i64 0, .string ⟨#[]⟩, .string ⟨#[]⟩, .slice none 0 0, .slice none 0 0] : Array Value)[o]? = some (.string s) := c0
    have ho : o < 7 := by have := (Array.getElem?_eq_some_iff.1 c1).1; simpa using this
    rcases (by omega : o = 0 ∨ o = 1 ∨ o = 2 ∨ o = 3 ∨ o = 4 ∨ o = 5 ∨ o = 6) with rfl | rfl | rfl | rfl | rfl | rfl | rfl
    · cases Option.some.inj c1
    · cases Option.some.inj c1
    · cases Option.some.inj c1
    · have := Value.string.inj (Option.some.inj c1)
      rw [← this] at z; cases z
    · have := Value.string.inj (Option.some.inj c1)
      rw [← this] at z; cases z
    · cases Option.some.inj c1
    · cases Option.some.inj c1
theorem lists_apart {w : World} {b : Nat} {a : Option Addr} {n c : Nat} {a2 : Option Addr} {n2 c2 : Nat} {is : List ByteArray} (h : Lists w a n c a2 n2 c2 [] is) (hs : ∀ s ∈ is, s.size = 16) (hb : w.heap[b]? = some zml) (w' : World) (hw : ∀ k, k < w.heap.size → k ≠ b → w'.heap[k]? = w.heap[k]?) : Lists w' a n c a2 n2 c2 [] is := by
  refine ⟨Mai.SlAt.nil _ _, ?_, h.ls, h.li, h.zs, h.zi, h.ms, h.mi⟩
  rcases ids_apart h.i hs hb with rfl | q
  · exact Mai.StrAt.nil _ _
  · intro i hi
    obtain ⟨b', o, e, c0⟩ := h.i i hi
    refine ⟨b', o, e, (World.cell?_of_block (a := ⟨b', o + i, none⟩) (hw b' (World.block_lt_of_cell? _ _ c0) ?_)).trans c0⟩
    exact fun z => q _ e z.symm
theorem res_sign (tmps : Array Value) (w : World) (b : Nat) (k u q : Int) (t g : ByteArray) (a : Option Addr) (n c : Nat) (a2 : Option Addr) (n2 c2 : Nat) (h4 : tmps.getD 4 undef = .pointer (some ⟨b, 0, none⟩)) (l : MlAt w b k u q t g a n c a2 n2 c2) :
    (results Tryd.f38 tmps).run Tryd.prog w = .ok (mv k u q t g a n c a2 n2 c2) w := by
  have l1 := run_loadVar_mid (P := Tryd.prog) w b 0 38 _ _ l.range Tryd.underlying38 rfl (by kernel_rfl)
  unfold results
  rw [Tryd.results38]
  have h4' : tmps[4]?.getD undef = .pointer (some ⟨b, 0, none⟩) := by simpa using h4
  simp [h4', l1, asAddr]
theorem MlAt.put4 {w : World} {b : Nat} {k u q : Int} {t g : ByteArray} {a : Option Addr} {n c : Nat} {a2 : Option Addr} {n2 c2 : Nat} (h : MlAt w b k u q t g a n c a2 n2 c2) (g' : ByteArray) : MlAt (w.setCell ⟨b, 4, none⟩ (.string g')) b k u q t g' a n c a2 n2 c2 := by
  obtain ⟨f, h0, h1, h2, h3, h4, h5, h6⟩ := h
  exact ⟨fun o => by simp [go_sem, f], by simp [go_sem, h0], by simp [go_sem, h1], by simp [go_sem, h2], by simp [go_sem, h3], by simp [go_sem, h4], by simp [go_sem, h5], by simp [go_sem, h6]⟩
set_option maxHeartbeats 2000000 in
theorem sign_any (b o : Nat) (key : ByteArray) (m : Ml) (hm : okB (bare m) = true) (hk : key.size = 32) (w : World) (c1 : w.cell? ⟨b, o + 1, none⟩ = some (.string key)) (K : Hid (Kh w)) :
    Calls Tryd.prog 38 #[.pointer (some ⟨b, o, none⟩), .string (enS (bare m))] w fun e w' => ∃ v, e = .returned v ∧ MlV w' v (with' m (tgM key m)) ∧ Below w.heap.size w w' := by
  have DC : Hid (∀ w2, Calls Tryd.prog 24 #[.string (enS (bare m))] w2 fun e w' => ∃ v, e = .returned (.tuple #[v, .int .i64 0]) ∧ MlV w' v (bare m) ∧ Below w2.heap.size w2 w') := fun w2 => by
    have q := decode_any (enS (bare m)) (Nat.le_trans (en_le _) (by decide)) w2
    rw [show by' (enS (bare m)) = txt (bare m) from en_by hm, (dec_bare hm).1, (dec_bare hm).2] at q
    exact q
  have TG : Hid (∀ w2, Below w.heap.size w w2 → Calls Tryd.prog 52 #[.pointer (some ⟨b, o, none⟩), .string (enS (bare m))] w2 fun e w' => e = .returned (.string (tgM key m)) ∧ Below w2.heap.size w2 w') := fun w2 h2 => by
    have q := tag_any b o key (enS (bare m)) hk (Nat.le_trans (en_le _) (by decide)) w2 (cell_later h2 c1) (K.out.later h2)
    rw [en_by hm] at q
    exact q
  obtain ⟨S, hS⟩ : ∃ S, enS (bare m) = S := ⟨_, rfl⟩
  obtain ⟨R, hR⟩ : ∃ R, tgM key m = R := ⟨_, rfl⟩
  have BK := bare_kind hm
  have hids : ∀ s ∈ m.ids, s.size = 16 := by
    rcases ok_cases hm with ⟨k, -⟩ | ⟨-, -, -, ⟨-, -, -, i⟩ | ⟨-, -, -, i, -⟩ | ⟨-, -, -, -, i⟩⟩
    · rcases BK.1 with q | q
      · rw [show m.k = 1 from k] at q; cases q
      · rw [show m.k = 1 from k] at q; cases q
    · rw [show m.ids = [] from i]; intro s hs; cases hs
    · rw [show m.ids = [] from i]; intro s hs; cases hs
    · intro s hs; exact (id_of (ids_each i s hs)).1
  have hsl : m.sl = [] := BK.2.2.2.2.2.2.1
  rw [hS] at DC TG ⊢
  rw [hR] at TG ⊢
  clear hS hR BK hm hk c1 K
  obtain ⟨mk', mu, mq, mt, mg, ms, mi⟩ := m
  simp only at hids hsl
  subst hsl
  unfold bare at DC
  unfold with'
  simp only at DC ⊢
  have HI : Hid (∀ s ∈ mi, s.size = 16) := hids
  clear hids
  go_enter Tryd.func38, Tryd.ntmps38
  go_wp2_with fail
  have A0 : Hid (Below w.heap.size w (w.alloc zml) ∧ (w.alloc zml).heap[w.heap.size]? = some zml) := ⟨(Below.refl _ _).alloc (Nat.le_refl _) _, Mai.heap_made _ _⟩
  have M0 : Hid (MlAt (w.alloc zml) w.heap.size 0 0 0 ⟨#[]⟩ ⟨#[]⟩ none 0 0 none 0 0) := MlAt.new w _ 0 0 0 ⟨#[]⟩ ⟨#[]⟩ none 0 0 none 0 0
  refine Calls.mono (DC.out _) ?_
  rintro e w1 ⟨v, rfl, ⟨a, n, c, a2, n2, c2, rfl, LL⟩, hb⟩
  have z1 : w1.heap[w.heap.size]? = some zml := (hb.block _ (by simp)).trans A0.out.2
  have B1 : Below w.heap.size w w1 := chain A0.out.1 hb
  have M1 : MlAt w1 w.heap.size 0 0 0 ⟨#[]⟩ ⟨#[]⟩ none 0 0 none 0 0 := MlAt.later M0.out hb
  have X1 : Hid (w1.heap[w.heap.size]? = some zml ∧ Below w.heap.size w w1 ∧ MlAt w1 w.heap.size 0 0 0 ⟨#[]⟩ ⟨#[]⟩ none 0 0 none 0 0 ∧ Lists w1 a n c a2 n2 c2 [] mi) := ⟨z1, B1, M1, LL⟩
  have lt1 : w.heap.size < w1.heap.size := M1.lt
  clear hb DC A0 M0 z1 B1 M1 LL
  unfold mv
  go_wp2_with fail
  obtain ⟨W2, hW2⟩ : ∃ W2, w1.alloc (.cells #[.int .i64 mk', .int .i64 mu, .int .i64 mq, .string mt, .string (mk (zr 32)), .slice a n c, .slice a2 n2 c2] 38) = W2 := ⟨_, rfl⟩
  have b12 : Below w1.heap.size w1 W2 := by rw [← hW2]; exact (Below.refl _ _).alloc (Nat.le_refl _) _
  have m2 : MlAt W2 w1.heap.size mk' mu mq mt (mk (zr 32)) a n c a2 n2 c2 := by rw [← hW2]; exact MlAt.new _ _ _ _ _ _ _ _ _ _ _ _ _
  have X2 : Hid (Below w1.heap.size w1 W2 ∧ MlAt W2 w1.heap.size mk' mu mq mt (mk (zr 32)) a n c a2 n2 c2) := ⟨b12, m2⟩
  rw [hW2]
  clear hW2 b12 m2
  refine Calls.mono (TG.out _ (chain X1.out.2.1 X2.out.1)) ?_
  rintro e w3 ⟨rfl, hb⟩
  have b3 : Below w1.heap.size w1 w3 := chain X2.out.1 hb
  have m3 := MlAt.put4 (MlAt.later X2.out.2 hb) R
  have m4 : MlAt (w3.setCell ⟨w1.heap.size, 4, none⟩ (.string R)) w.heap.size 0 0 0 ⟨#[]⟩ ⟨#[]⟩ none 0 0 none 0 0 := MlAt.later X1.out.2.2.1 (b3.setCell (p := ⟨w1.heap.size, 4, none⟩) (Nat.le_refl w1.heap.size) _)
  have b4 : Below w1.heap.size w1 (w3.setCell ⟨w1.heap.size, 4, none⟩ (.string R)) := b3.setCell (p := ⟨w1.heap.size, 4, none⟩) (Nat.le_refl w1.heap.size) _
  have q := MlAt.later X2.out.2 hb
  obtain ⟨f3, c30, c31, c32, c33, c34, c35, c36⟩ := q
  have q4 := MlAt.later X1.out.2.2.1 b3
  obtain ⟨f4, d0, d1, d2, d3, d4, d5, d6⟩ := q4
  have F4 : Hid (MlAt (w3.setCell ⟨w1.heap.size, 4, none⟩ (.string R)) w.heap.size 0 0 0 ⟨#[]⟩ ⟨#[]⟩ none 0 0 none 0 0 ∧ Below w1.heap.size w1 (w3.setCell ⟨w1.heap.size, 4, none⟩ (.string R))) := ⟨m4, b4⟩
  have ne : ¬ w.heap.size = w1.heap.size := by omega
  clear hb b3 m3 m4 b4 TG X2
  go_wp2_with fail
  have FB := Mai.below_whole (chain X1.out.2.1 F4.out.2) (Nat.le_refl w.heap.size) (.int .i64 mk') (.int .i64 mu) (.int .i64 mq) (.string mt) (.string R) (.slice a n c) (.slice a2 n2 c2)
  have FM := Mai.MlAt.whole F4.out.1 mk' mu mq mt R a n c a2 n2 c2
  refine bodyPost_ret (v := mv mk' mu mq mt R a n c a2 n2 c2) ?_ rfl ⟨_, rfl, ⟨a, n, c, a2, n2, c2, rfl, ?_⟩, FB⟩
  · exact res_sign _ _ w.heap.size _ _ _ _ _ _ _ _ _ _ _ (by kernel_rfl) FM
  · refine lists_apart X1.out.2.2.2 HI.out X1.out.1 _ (fun k hk hne => ?_)
    refine Eq.trans ?_ (F4.out.2.block k hk)
    simp only [Below.heap_setCell _ ⟨w.heap.size, _, none⟩ _ k hne]
end Go.Proofs.YtbogoheigbiegaaDoor.Gat
namespace Go.Proofs.YtbogoheigbiegaaDoor.Gat
open Go.RowKit Go.Proofs.Fd Go.Proofs.Ml Go.Proofs.Hs Go.Proofs.Gt
open Go.Proofs.YtbogoheigbiegaaDoor.Mai (mv MlAt Lists MlV SlAt enS chkE encode_any z32 check_any)
set_option maxRecDepth 20000
theorem res_Sign (tmps : Array Value) (w : World) (b : Nat) (k u q : Int) (t g : ByteArray) (a : Option Addr) (n c : Nat) (a2 : Option Addr) (n2 c2 : Nat) (e : Int) (h4 : tmps.getD 4 undef = .pointer (some ⟨b, 0, none⟩)) (h5 : tmps.getD 5 undef = .int .i64 e) (l : MlAt w b k u q t g a n c a2 n2 c2) :
    (results Tryd.f21 tmps).run Tryd.prog w = .ok (.tuple #[mv k u q t g a n c a2 n2 c2, .int .i64 e]) w := by
  have l1 := run_loadVar_mid (P := Tryd.prog) w b 0 38 _ _ l.range Tryd.underlying38 rfl (by kernel_rfl)
  unfold results
  rw [Tryd.results21]
  have h4' : tmps[4]?.getD undef = .pointer (some ⟨b, 0, none⟩) := by simpa using h4
  have h5' : tmps[5]?.getD undef = .int .i64 e := by simpa using h5
  simp [h4', h5', l1, asAddr]
theorem ids16 {m : Ml} (hm : okB (bare m) = true) : ∀ s ∈ m.ids, s.size = 16 := by
  have BK := bare_kind hm
  rcases ok_cases hm with ⟨k, -⟩ | ⟨-, -, -, ⟨-, -, -, i⟩ | ⟨-, -, -, i, -⟩ | ⟨-, -, -, -, i⟩⟩
  · rcases BK.1 with q | q
    · rw [show m.k = 1 from k] at q; cases q
    · rw [show m.k = 1 from k] at q; cases q
  · rw [show m.ids = [] from i]; intro s hs; cases hs
  · rw [show m.ids = [] from i]; intro s hs; cases hs
  · intro s hs; exact (id_of (ids_each i s hs)).1
theorem at_alloc2 (w : World) (A : Obj) : MlAt ((w.alloc A).alloc zml) (w.heap.size + 1) 0 0 0 ⟨#[]⟩ ⟨#[]⟩ none 0 0 none 0 0 ∧ ((w.alloc A).alloc zml).heap[w.heap.size + 1]? = some zml ∧ Below w.heap.size w ((w.alloc A).alloc zml) := by
  have h := MlAt.new (w.alloc A) 38 0 0 0 ⟨#[]⟩ ⟨#[]⟩ none 0 0 none 0 0
  have h2 := Mai.heap_made (w.alloc A) zml
  have e : (w.alloc A).heap.size = w.heap.size + 1 := by simp
  rw [e] at h h2
  exact ⟨h, h2, ((Below.refl _ _).alloc (Nat.le_refl _) _).alloc (by simp) _⟩
set_option maxHeartbeats 2000000 in
theorem Sign_any (key : ByteArray) (k u q : Int) (t g : ByteArray) (a : Option Addr) (n c : Nat) (a2 : Option Addr) (n2 c2 : Nat) (ss : List Sl) (is : List ByteArray) (w : World) (L : Hid (Lists w a n c a2 n2 c2 ss is)) (K : Hid (Kh w)) :
    Calls Tryd.prog 21 #[.string key, mv k u q t g a n c a2 n2 c2] w fun e w' => ∃ v, e = .returned (.tuple #[v, .int .i64 (sgE key ⟨k, u, q, t, g, ss, is⟩)]) ∧ MlV w' v (sgV key ⟨k, u, q, t, g, ss, is⟩) ∧ Below w.heap.size w w' := by
  obtain ⟨A, hA⟩ : ∃ A : Obj, .cells #[.int .i64 k, .int .i64 u, .int .i64 q, .string t, .string g, .slice a n c, .slice a2 n2 c2] 38 = A := ⟨_, rfl⟩
  have Q0 := at_alloc2 w A
  have A0 : Hid _ := Q0
  have UT : Hid (∀ w2, Below w.heap.size w w2 → Calls Tryd.prog 32 #[mv k u q t g a n c a2 n2 c2] w2 fun e w' => e = .returned (.tuple #[.string (enS (bare ⟨k, u, q, t, g, ss, is⟩)), .int .i64 (chkE (okB (bare ⟨k, u, q, t, g, ss, is⟩)))]) ∧ Below w2.heap.size w2 w') := fun w2 h2 => untagged_any k u q t g a n c a2 n2 c2 ss is w2 (L.out.later h2)
  by_cases hk : key.size = 32
  · cases ho : okB (bare ⟨k, u, q, t, g, ss, is⟩) with
    | false =>
      obtain ⟨s1, s2⟩ := sg_no hk ho
      have g1 : (key.size : Int) = 32 := by omega
      rw [s1, s2]
      rw [ho, show chkE false = 110 from rfl] at UT
      subst hA
      obtain ⟨⟨f4, d0, d1, d2, d3, d4, d5, d6⟩, -, -⟩ := Q0
      clear ho s1 s2 hk K L
      generalize enS (bare ⟨k, u, q, t, g, ss, is⟩) = S at UT
      unfold mv at UT ⊢
      unfold zml at *
      go_enter Tryd.func21, Tryd.ntmps21
      go_wp2_with fail
      refine Calls.mono (UT.out _ A0.out.2.2) ?_
      rintro e w1 ⟨rfl, hb⟩
      have M1 := MlAt.later A0.out.1 hb
      have F1 : Hid (MlAt w1 (w.heap.size + 1) 0 0 0 ⟨#[]⟩ ⟨#[]⟩ none 0 0 none 0 0 ∧ Below w.heap.size w w1) := ⟨M1, chain A0.out.2.2 hb⟩
      obtain ⟨f4, d0, d1, d2, d3, d4, d5, d6⟩ := M1
      clear hb UT A0
      go_wp2_with fail
      refine bodyPost_ret (v := .tuple #[mv 0 0 0 ⟨#[]⟩ ⟨#[]⟩ none 0 0 none 0 0, .int .i64 110]) ?_ rfl ⟨mv 0 0 0 ⟨#[]⟩ ⟨#[]⟩ none 0 0 none 0 0, rfl, Mai.MlV.zero _, Mai.below_whole F1.out.2 (Nat.le_succ _) _ _ _ _ _ _ _⟩
      exact res_Sign _ _ (w.heap.size + 1) _ _ _ _ _ _ _ _ _ _ _ _ (by kernel_rfl) (by kernel_rfl) (Mai.zero_store F1.out.1)
    | true =>
      obtain ⟨s1, s2⟩ := sg_ok hk ho
      have g1 : (key.size : Int) = 32 := by omega
      rw [s1, s2]
      rw [ho, show chkE true = 0 from rfl] at UT
      have NS : Hid (∀ w2, Calls Tryd.prog 27 #[av u key] w2 fun e w' => e = .returned (sv3 u key 0) ∧ Below w2.heap.size w2 w') := fun w2 => newSigner_any u key (by rw [hk]; decide) w2
      have SG : Hid (∀ (b : Nat) (w2 : World), w2.cell? ⟨b, 1, none⟩ = some (.string key) → Below w.heap.size w w2 → Calls Tryd.prog 38 #[.pointer (some ⟨b, 0, none⟩), .string (enS (bare ⟨k, u, q, t, g, ss, is⟩))] w2 fun e w' => ∃ v, e = .returned v ∧ MlV w' v (with' ⟨k, u, q, t, g, ss, is⟩ (tgM key ⟨k, u, q, t, g, ss, is⟩)) ∧ Below w2.heap.size w2 w') := fun b w2 h1 h2 => sign_any b 0 key _ ho hk w2 h1 (K.out.later h2)
      have I16 : Hid ((∀ s ∈ is, s.size = 16) ∧ ss = []) := ⟨ids16 ho, (bare_kind ho).2.2.2.2.2.2.1⟩
      subst hA
      clear Q0 ho s1 s2 hk K L
      generalize enS (bare ⟨k, u, q, t, g, ss, is⟩) = S at UT SG
      generalize tgM key ⟨k, u, q, t, g, ss, is⟩ = R at SG ⊢
      unfold with' at SG ⊢
      unfold av sv3 at NS
      simp only at SG ⊢
      unfold mv at UT ⊢
      unfold zml at A0
      go_enter Tryd.func21, Tryd.ntmps21
      go_wp2_with fail
      refine Calls.mono (UT.out _ A0.out.2.2) ?_
      rintro e w1 ⟨rfl, hb⟩
      have c1 : w1.cell? ⟨w.heap.size, 1, none⟩ = some (.int .i64 u) := cell_later hb (by simp [go_sem])
      have X1 : Hid (MlAt w1 (w.heap.size + 1) 0 0 0 ⟨#[]⟩ ⟨#[]⟩ none 0 0 none 0 0 ∧ w1.heap[w.heap.size + 1]? = some zml ∧ Below w.heap.size w w1 ∧ w.heap.size + 1 < w1.heap.size) := ⟨MlAt.later A0.out.1 hb, (hb.block _ (by simp)).trans A0.out.2.1, chain A0.out.2.2 hb, (MlAt.later A0.out.1 hb).lt⟩
      clear hb UT A0
      go_wp2_with fail
      refine Calls.mono (NS.out _) ?_
      rintro e w2 ⟨rfl, hb⟩
      have B2 : Hid (Below w1.heap.size w1 w2) := hb
      clear hb NS c1
      go_wp2_with fail
      obtain ⟨W3, hW3⟩ : ∃ W3, w2.alloc (.cells #[.int .i64 u, .string key, .int .i64 0] 70) = W3 := ⟨_, rfl⟩
      have k3 : W3.cell? ⟨w2.heap.size, 1, none⟩ = some (.string key) := by rw [← hW3]; simp [go_sem]
      have B3 : Hid (Below w1.heap.size w1 W3) := by rw [← hW3]; exact B2.out.alloc B2.out.size _
      rw [hW3]
      clear hW3
      refine Calls.mono (SG.out _ _ k3 (chain X1.out.2.2.1 B3.out)) ?_
      rintro e w4 ⟨v, rfl, ⟨la, ln, lc, la2, ln2, lc2, rfl, LL⟩, hb⟩
      have B4 : Below w1.heap.size w1 w4 := chain B3.out hb
      have M4 := MlAt.later X1.out.1 B4
      have X4 : Hid (MlAt w4 (w.heap.size + 1) 0 0 0 ⟨#[]⟩ ⟨#[]⟩ none 0 0 none 0 0 ∧ w4.heap[w.heap.size + 1]? = some zml ∧ Below w.heap.size w w4 ∧ Lists w4 la ln lc la2 ln2 lc2 ss is) := ⟨M4, (B4.block _ X1.out.2.2.2).trans X1.out.2.1, chain X1.out.2.2.1 B4, LL⟩
      obtain ⟨f4, d0, d1, d2, d3, d4, d5, d6⟩ := M4
      clear hb B4 LL k3 B3 B2 X1 SG
      unfold mv
      go_wp2_with fail
      have FB := Mai.below_whole X4.out.2.2.1 (Nat.le_succ w.heap.size) (.int .i64 k) (.int .i64 u) (.int .i64 q) (.string t) (.string R) (.slice la ln lc) (.slice la2 ln2 lc2)
      have FM := Mai.MlAt.whole X4.out.1 k u q t R la ln lc la2 ln2 lc2
      refine bodyPost_ret (v := .tuple #[mv k u q t R la ln lc la2 ln2 lc2, .int .i64 0]) ?_ rfl ⟨_, rfl, ⟨la, ln, lc, la2, ln2, lc2, rfl, ?_⟩, FB⟩
      · exact res_Sign _ _ (w.heap.size + 1) _ _ _ _ _ _ _ _ _ _ _ _ (by kernel_rfl) (by kernel_rfl) FM
      · have hl := X4.out.2.2.2
        have e0 := I16.out.2
        simp only
        rw [e0] at hl ⊢
        refine lists_apart hl I16.out.1 X4.out.2.1 _ (fun j hj hne => ?_)
        simp only [Below.heap_setCell _ ⟨w.heap.size + 1, _, none⟩ _ j hne]
  · obtain ⟨s1, s2⟩ := sg_len (m := ⟨k, u, q, t, g, ss, is⟩) hk
    have g1 : ¬ (key.size : Int) = 32 := by omega
    rw [s1, s2]
    subst hA
    obtain ⟨⟨f4, d0, d1, d2, d3, d4, d5, d6⟩, -, -⟩ := Q0
    clear UT s1 s2 hk K L
    unfold mv
    unfold zml at *
    go_enter Tryd.func21, Tryd.ntmps21
    go_wp2_with fail
    refine bodyPost_ret (v := .tuple #[mv 0 0 0 ⟨#[]⟩ ⟨#[]⟩ none 0 0 none 0 0, .int .i64 3]) ?_ rfl ⟨mv 0 0 0 ⟨#[]⟩ ⟨#[]⟩ none 0 0 none 0 0, rfl, Mai.MlV.zero _, ?_⟩
    · exact res_Sign _ _ (w.heap.size + 1) _ _ _ _ _ _ _ _ _ _ _ _ (by kernel_rfl) (by kernel_rfl) A0.out.1
    · exact A0.out.2.2
end Go.Proofs.YtbogoheigbiegaaDoor.Gat
