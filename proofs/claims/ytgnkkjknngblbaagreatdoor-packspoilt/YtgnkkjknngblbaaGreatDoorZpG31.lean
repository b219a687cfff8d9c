/- Parts: HdM, HdP, HdQ, HE1, HE2. -/
import Derived.Test.YtgnkkjknngblbaaGreatDoorZpG21
import Derived.Test.YtgnkkjknngblbaaGreatDoorZpG10
import Derived.Test.YtgnkkjknngblbaaGreatDoorZpG11
import Derived.Test.YtgnkkjknngblbaaGreatDoorZpG24
import Derived.Test.YtgnkkjknngblbaaGreatDoorZpG20
import Derived.Test.YtgnkkjknngblbaaGreatDoorZpG23
namespace Go.Proofs.Hd
open Go.Proofs.Cc
theorem xorl_tk (a s : List UInt8) (k : Nat) : (xorl a s).take k = xorl (a.take k) s := by
  unfold xorl
  rw [List.take_zipWith]
  apply List.ext_getElem?
  intro i
  rw [List.getElem?_zipWith, List.getElem?_zipWith]
  by_cases h : i < k
  · rw [List.getElem?_take_of_lt h, List.getElem?_take_of_lt h]
  · rw [List.getElem?_take_eq_none (by omega)]
theorem xorl_dp (a s : List UInt8) (k : Nat) : (xorl a s).drop k = xorl (a.drop k) (s.drop k) := by
  unfold xorl; rw [List.drop_zipWith]
theorem xorl_app (a b s : List UInt8) (_ : a.length ≤ s.length) : xorl (a ++ b) s = xorl a s ++ xorl b (s.drop a.length) := by
  have e1 : (xorl (a ++ b) s).take a.length = xorl a s := by rw [xorl_tk, List.take_left]
  have e2 : (xorl (a ++ b) s).drop a.length = xorl b (s.drop a.length) := by rw [xorl_dp, List.drop_left]
  rw [← e1, ← e2, List.take_append_drop]
theorem xorl_zero (s : List UInt8) (n : Nat) (h : s.length = n) : xorl (List.replicate n 0) s = s := by
  subst h
  unfold xorl
  apply List.ext_getElem?
  intro i
  rw [List.getElem?_zipWith]
  by_cases hi : i < s.length
  · rw [List.getElem?_replicate_of_lt hi, List.getElem?_eq_getElem hi]; simp
  · rw [List.getElem?_eq_none (by simpa using hi), List.getElem?_eq_none (by omega)]
theorem xorl_short (a s : List UInt8) : xorl a s = xorl a (s.take a.length) := by
  unfold xorl
  apply List.ext_getElem?
  intro i
  rw [List.getElem?_zipWith, List.getElem?_zipWith]
  by_cases h : i < a.length
  · rw [List.getElem?_take_of_lt h]
  · rw [List.getElem?_eq_none (by omega)]
def fil (F : Nat → List UInt8) : Nat → List UInt8
  | 0 => []
  | i + 1 => xorl (fil F i ++ List.replicate 40 0) ((F i).drop (240 - 40 * (i + 1)))
theorem fil_succ (F : Nat → List UInt8) (i : Nat) : fil F (i + 1) = xorl (fil F i ++ List.replicate 40 0) ((F i).drop (240 - 40 * (i + 1))) := rfl
theorem fil_len (F : Nat → List UInt8) (hF : ∀ i, (F i).length = 240) (i : Nat) (hi : i ≤ 6) : (fil F i).length = 40 * i := by
  induction i with
  | zero => rfl
  | succ i ih =>
    have := ih (by omega)
    rw [fil_succ, xorl_len _ _ (by rw [List.length_append, this, List.length_replicate, List.length_drop, hF]; omega), List.length_append, this, List.length_replicate]
    omega
theorem fil_parts (F : Nat → List UInt8) (hF : ∀ i, (F i).length = 240) (i : Nat) (hi : i ≤ 5) : fil F (i + 1) = xorl (fil F i) ((F i).drop (200 - 40 * i)) ++ (F i).drop 200 := by
  have hl := fil_len F hF i (by omega)
  rw [fil_succ, show 240 - 40 * (i + 1) = 200 - 40 * i by omega, xorl_app _ _ _ (by rw [hl, List.length_drop, hF]; omega), hl, List.drop_drop, show 200 - 40 * i + 40 * i = 200 by omega, xorl_zero _ _ (by rw [List.length_drop, hF])]
structure Lists (n : Nat) (F C : Nat → List UInt8) (M : Nat → List UInt8 → List UInt8) (Z : List UInt8) (L : Nat → List UInt8) : Prop where
  flow : ∀ i, (F i).length = 240
  cmd : ∀ i, (C i).length = 24
  mac : ∀ i l, (M i l).length = 16
  fill : 160 ≤ Z.length
  many : 1 ≤ n ∧ n ≤ 5
  last : L (n - 1) = xorl ((C (n - 1) ++ List.replicate 16 0 ++ Z).take (200 - 40 * (n - 1))) (F (n - 1)) ++ fil F (n - 1)
  other : ∀ i, i + 1 < n → L i = xorl (C i ++ M (i + 1) (L (i + 1)) ++ (L (i + 1)).take 160) (F i)
theorem Lists.ends {n : Nat} {F C : Nat → List UInt8} {M : Nat → List UInt8 → List UInt8} {Z : List UInt8} {L : Nat → List UInt8} (h : Lists n F C M Z L) :
    ∀ i, i < n → (L i).length = 200 ∧ (L i).drop (200 - 40 * i) = fil F i := by
  have key : ∀ j, j < n → (L (n - 1 - j)).length = 200 ∧ (L (n - 1 - j)).drop (200 - 40 * (n - 1 - j)) = fil F (n - 1 - j) := by
    intro j
    induction j with
    | zero =>
      intro _
      have hm := h.many
      have hl := fil_len F h.flow (n - 1) (by omega)
      have hp : ((C (n - 1) ++ List.replicate 16 0 ++ Z).take (200 - 40 * (n - 1))).length = 200 - 40 * (n - 1) := by
        rw [List.length_take, List.length_append, List.length_append, h.cmd, List.length_replicate]
        have := h.fill
        omega
      have hx : (xorl ((C (n - 1) ++ List.replicate 16 0 ++ Z).take (200 - 40 * (n - 1))) (F (n - 1))).length = 200 - 40 * (n - 1) := by
        rw [xorl_len _ _ (by rw [hp, h.flow]; omega), hp]
      rw [Nat.sub_zero, h.last]
      refine ⟨?_, ?_⟩
      · rw [List.length_append, hx, hl]; omega
      · rw [List.drop_append_of_le_length (by rw [hx]; exact Nat.le_refl _), List.drop_of_length_le (by rw [hx]; exact Nat.le_refl _), List.nil_append]
    | succ j ih =>
      intro hj
      have hm := h.many
      obtain ⟨i1, i2⟩ := ih (by omega)
      obtain ⟨i, hi⟩ : ∃ i, n - 1 - (j + 1) = i := ⟨_, rfl⟩
      have e1 : n - 1 - j = i + 1 := by omega
      rw [hi]
      rw [e1] at i1 i2
      have ho := h.other i (by omega)
      have hp : (C i ++ M (i + 1) (L (i + 1)) ++ (L (i + 1)).take 160).length = 200 := by
        rw [List.length_append, List.length_append, h.cmd, h.mac, List.length_take, i1]; omega
      refine ⟨?_, ?_⟩
      · rw [ho, xorl_len _ _ (by rw [hp, h.flow]; omega), hp]
      · have hfi := fil_len F h.flow i (by omega)
        have a1 : (C i ++ M (i + 1) (L (i + 1)) ++ (L (i + 1)).take 160).drop (200 - 40 * i) = ((L (i + 1)).take 160).drop (160 - 40 * i) := by
          have hcm : (C i ++ M (i + 1) (L (i + 1))).length = 40 := by rw [List.length_append, h.cmd, h.mac]
          rw [show 200 - 40 * i = (C i ++ M (i + 1) (L (i + 1))).length + (160 - 40 * i) by rw [hcm]; omega, ← List.drop_drop, List.drop_left]
        have a2 : ((L (i + 1)).take 160).drop (160 - 40 * i) = xorl (fil F i) ((F i).drop (200 - 40 * i)) := by
          rw [show 200 - 40 * (i + 1) = 160 - 40 * i by omega, fil_parts F h.flow i (by omega)] at i2
          rw [List.drop_take, i2, show 160 - (160 - 40 * i) = 40 * i by omega]
          have hxl : (xorl (fil F i) ((F i).drop (200 - 40 * i))).length = 40 * i := by
            rw [xorl_len _ _ (by rw [hfi, List.length_drop, h.flow]; omega), hfi]
          rw [List.take_append_of_le_length (by rw [hxl]; exact Nat.le_refl _), List.take_of_length_le (by rw [hxl]; exact Nat.le_refl _)]
        rw [ho, xorl_dp, a1, a2, xorl_twice _ _ (by rw [hfi, List.length_drop, h.flow]; omega)]
  intro i hi
  have := key (n - 1 - i) (by omega)
  rw [show n - 1 - (n - 1 - i) = i by omega] at this
  exact this
theorem Lists.peel {n : Nat} {F C : Nat → List UInt8} {M : Nat → List UInt8 → List UInt8} {Z : List UInt8} {L : Nat → List UInt8} (h : Lists n F C M Z L) (i : Nat) (hi : i + 1 < n) :
    xorl (L i ++ List.replicate 40 0) (F i) = C i ++ M (i + 1) (L (i + 1)) ++ L (i + 1) := by
  have hm := h.many
  obtain ⟨i1, i2⟩ := h.ends (i + 1) hi
  obtain ⟨j1, -⟩ := h.ends i (by omega)
  have hp : (C i ++ M (i + 1) (L (i + 1)) ++ (L (i + 1)).take 160).length = 200 := by
    rw [List.length_append, List.length_append, h.cmd, h.mac, List.length_take, i1]; omega
  have a3 : (L (i + 1)).drop 160 = (F i).drop 200 := by
    have hfi := fil_len F h.flow i (by omega)
    have hxl : (xorl (fil F i) ((F i).drop (200 - 40 * i))).length = 40 * i := by
      rw [xorl_len _ _ (by rw [hfi, List.length_drop, h.flow]; omega), hfi]
    rw [show 200 - 40 * (i + 1) = 160 - 40 * i by omega, fil_parts F h.flow i (by omega)] at i2
    have : (L (i + 1)).drop 160 = ((L (i + 1)).drop (160 - 40 * i)).drop (40 * i) := by rw [List.drop_drop]; congr 1; omega
    rw [this, i2, List.drop_append_of_le_length (by rw [hxl]; exact Nat.le_refl _), List.drop_of_length_le (by rw [hxl]; exact Nat.le_refl _), List.nil_append]
  rw [xorl_app _ _ _ (by rw [j1, h.flow]; omega), j1, xorl_zero _ _ (by rw [List.length_drop, h.flow]), h.other i hi, xorl_twice _ _ (by rw [hp, h.flow]; omega), ← a3, List.append_assoc, List.take_append_drop]
theorem Lists.peel_last {n : Nat} {F C : Nat → List UInt8} {M : Nat → List UInt8 → List UInt8} {Z : List UInt8} {L : Nat → List UInt8} (h : Lists n F C M Z L) :
    (xorl (L (n - 1) ++ List.replicate 40 0) (F (n - 1))).take 24 = C (n - 1) := by
  have hm := h.many
  have hp : ((C (n - 1) ++ List.replicate 16 0 ++ Z).take (200 - 40 * (n - 1))).length = 200 - 40 * (n - 1) := by
    rw [List.length_take, List.length_append, List.length_append, h.cmd, List.length_replicate]
    have := h.fill
    omega
  rw [xorl_tk, h.last, List.append_assoc, List.take_append_of_le_length (by rw [xorl_len _ _ (by rw [hp, h.flow]; omega), hp]; omega), xorl_tk, xorl_twice _ _ (by rw [List.length_take, hp, h.flow]; omega), List.take_take, Nat.min_eq_left (by omega), List.append_assoc, List.take_append_of_le_length (by rw [h.cmd]; exact Nat.le_refl _), List.take_of_length_le (by rw [h.cmd]; exact Nat.le_refl _)]
end Go.Proofs.Hd
namespace Go.Proofs.YtgnkkjknngblbaaGreatDoor
open Go.RowKit Go.Proofs.Fd Go.Proofs.Ed Go.Proofs.Hs Go.Proofs.Cc Go.Proofs.Hd Go.Proofs.Rt Go.Proofs.YtgnkkjknngblbaaGreatDoor.Crv
set_option maxRecDepth 20000
def cl (k : ByteArray) : Nat := clampN (num k.data.toList)
theorem cl_cl (k : ByteArray) : Cl (cl k) := clampN_cl _
theorem htm_ek (k : ByteArray) (v : K) : tm k (ek v) = lad (cl k) v := by unfold Crv.tm cl; rw [pt_ek]
theorem cl_map (ks : List ByteArray) : ∀ k ∈ ks.map cl, Cl k := fun k hk => by
  obtain ⟨x, -, rfl⟩ := List.mem_map.1 hk
  exact cl_cl x
theorem itr_last (ks : List Nat) (k : Nat) (u : K) : itr lad (ks ++ [k]) u = lad k (itr lad ks u) := by rw [itr_app, itr_cons, itr_nil]
theorem chn_from (ks : List ByteArray) (ls : List Nat) (hl : ∀ k ∈ ls, Cl k) : chn ks (ek (itr lad ls 9)) = some (ek (itr lad (ls ++ ks.map cl) 9)) := by
  induction ks generalizing ls with
  | nil => rw [List.map_nil, List.append_nil, chn]
  | cons k ks ih =>
    have h2 : ∀ x ∈ ls ++ [cl k], Cl x := fun x hx => by
      rcases List.mem_append.1 hx with h | h
      · exact hl x h
      · simp at h; subst h; exact cl_cl k
    have e : tm k (ek (itr lad ls 9)) = itr lad (ls ++ [cl k]) 9 := by rw [htm_ek, itr_last]
    have hne : tm k (ek (itr lad ls 9)) ≠ 0 := by rw [e]; exact chain_base _ h2
    have e2 : chn (k :: ks) (ek (itr lad ls 9)) = chn ks (ek (tm k (ek (itr lad ls 9)))) := by
      show (if tm k (ek (itr lad ls 9)) = 0 then none else chn ks (ek (tm k (ek (itr lad ls 9))))) = _
      rw [if_neg hne]
    rw [e2, e, ih _ h2, List.append_assoc, List.map_cons, List.singleton_append]
theorem pub_itr (p : ByteArray) : pub p = itr lad [cl p] 9 := by rw [itr_cons, itr_nil]; unfold pub cl; rfl
def ptB (seed : ByteArray) (bs : List ByteArray) : ByteArray := ek (itr lad ((seed :: bs).map cl) 9)
theorem ptB_nil (seed : ByteArray) : ptB seed [] = ek (pub seed) := by unfold ptB; rw [pub_itr, List.map_cons, List.map_nil]
theorem ptB_snoc (seed : ByteArray) (bs : List ByteArray) (b : ByteArray) : ptB seed (bs ++ [b]) = ek (tm b (ptB seed bs)) := by
  unfold ptB
  rw [htm_ek, ← itr_last, ← List.cons_append, List.map_append, List.map_cons (f := cl) (a := b), List.map_nil]
theorem ptB_size (seed : ByteArray) (bs : List ByteArray) : (ptB seed bs).size = 32 := ek_size _
theorem both (seed p : ByteArray) (bs : List ByteArray) : tm p (ptB seed bs) ≠ 0 ∧ chn (seed :: bs) (ek (pub p)) = some (ek (tm p (ptB seed bs))) := by
  have hc := cl_map (seed :: bs)
  have h1 : tm p (ptB seed bs) = lad (cl p) (itr lad ((seed :: bs).map cl) 9) := htm_ek p _
  have h2 := chain_first (cl p) _ (cl_cl p) hc
  constructor
  · rw [h1, ← itr_last]
    refine chain_base _ fun x hx => ?_
    rcases List.mem_append.1 hx with h | h
    · exact hc x h
    · simp at h; subst h; exact cl_cl p
  · rw [pub_itr, chn_from _ _ (fun x hx => by simp at hx; subst hx; exact cl_cl p), h1, ← h2, List.singleton_append, itr_cons]
def lFlow : List UInt8 := [102, 108, 111, 119]
def lMac : List UInt8 := [109, 97, 99]
def lBody : List UInt8 := [98, 111, 100, 121]
def lBlind : List UInt8 := [98, 108, 105, 110, 100]
def lTag : List UInt8 := [116, 97, 103]
def lPad : List UInt8 := [112, 97, 100]
def hdk (s : ByteArray) (l : List UInt8) (n : Nat) : ByteArray := ⟨(drv s.data.toList l n).toArray⟩
def bld (s : ByteArray) : ByteArray := hdk s lBlind 32
def kv (s : ByteArray) : Value := .agg #[.string (hdk s lFlow 32), .string (hdk s lMac 32), .string (hdk s lBody 32), .string (bld s), .string (hdk s lTag 16)]
def hflow (s : ByteArray) : List UInt8 := strm (drv s.data.toList lFlow 32) (List.replicate 12 0) 0 240
def hmacf (s : ByteArray) (l : List UInt8) : List UInt8 := (hmac (drv s.data.toList lMac 32) l).take 16
theorem hflow_len (s : ByteArray) : (hflow s).length = 240 := by unfold hflow; rw [strm_len]
theorem hmacf_len (s : ByteArray) (l : List UInt8) : (hmacf s l).length = 16 := by unfold hmacf; rw [List.length_take, hmac_len, Nat.min_eq_left (by decide)]
def secsG (ch : List ByteArray → ByteArray → Option ByteArray) (bl : ByteArray → ByteArray) : List ByteArray → List ByteArray → Option (List ByteArray)
  | [], _ => some []
  | p :: ps, bs => (ch bs p).bind fun s => (secsG ch bl ps (bs ++ [bl s])).map (s :: ·)
theorem secsG_nil (ch : List ByteArray → ByteArray → Option ByteArray) (bl : ByteArray → ByteArray) (bs : List ByteArray) : secsG ch bl [] bs = some [] := rfl
theorem secsG_cons (ch : List ByteArray → ByteArray → Option ByteArray) (bl : ByteArray → ByteArray) (p : ByteArray) (ps bs : List ByteArray) : secsG ch bl (p :: ps) bs = (ch bs p).bind fun s => (secsG ch bl ps (bs ++ [bl s])).map (s :: ·) := rfl
theorem secsG_len (ch : List ByteArray → ByteArray → Option ByteArray) (bl : ByteArray → ByteArray) (ps bs ss : List ByteArray) (h : secsG ch bl ps bs = some ss) : ss.length = ps.length := by
  induction ps generalizing bs ss with
  | nil => rw [secsG_nil] at h; cases h; rfl
  | cons p ps ih =>
    rw [secsG_cons] at h
    obtain ⟨s, -, h⟩ := Option.bind_eq_some_iff.1 h
    obtain ⟨ts, ht, rfl⟩ := Option.map_eq_some_iff.1 h
    simp [ih _ _ ht]
theorem secsG_pub (ch : List ByteArray → ByteArray → Option ByteArray) (bl pk : ByteArray → ByteArray) (sh : ByteArray → List ByteArray → ByteArray) (H : ∀ bs k, ch bs (pk k) = some (sh k bs)) (ks bs : List ByteArray) :
    ∃ ss, secsG ch bl (ks.map pk) bs = some ss ∧ ss.length = ks.length ∧ ∀ i (hi : i < ks.length), ss.getD i ⟨#[]⟩ = sh ks[i] (bs ++ (ss.take i).map bl) := by
  induction ks generalizing bs with
  | nil => exact ⟨[], rfl, rfl, fun i hi => by simp at hi⟩
  | cons k ks ih =>
    obtain ⟨ts, h1, h2, h3⟩ := ih (bs ++ [bl (sh k bs)])
    refine ⟨sh k bs :: ts, ?_, by simp [h2], fun i hi => ?_⟩
    · rw [List.map_cons, secsG_cons, H, Option.bind_some, h1, Option.map_some]
    · cases i with
      | zero => simp
      | succ i =>
        have := h3 i (by simpa using hi)
        rw [List.getD_cons_succ, this, List.append_assoc, List.take_succ_cons, List.map_cons, List.singleton_append, List.getElem_cons_succ]
def secs (seed : ByteArray) (ps bs : List ByteArray) : Option (List ByteArray) := secsG (fun bs p => chn (seed :: bs) p) bld ps bs
theorem secs_pub (seed : ByteArray) (ks bs : List ByteArray) : ∃ ss, secs seed (ks.map fun k => ek (pub k)) bs = some ss ∧ ss.length = ks.length
    ∧ ∀ i (hi : i < ks.length), ss.getD i ⟨#[]⟩ = ek (tm ks[i] (ptB seed (bs ++ (ss.take i).map bld))) :=
  secsG_pub (fun bs p => chn (seed :: bs) p) bld (fun k => ek (pub k)) (fun k bs => ek (tm k (ptB seed bs))) (fun bs k => (both seed k bs).2) ks bs
def lsts (n : Nat) (F C : Nat → List UInt8) (M : Nat → List UInt8 → List UInt8) (Z : List UInt8) : Nat → List UInt8
  | 0 => xorl ((C (n - 1) ++ List.replicate 16 0 ++ Z).take (200 - 40 * (n - 1))) (F (n - 1)) ++ fil F (n - 1)
  | j + 1 => xorl (C (n - 2 - j) ++ M (n - 1 - j) (lsts n F C M Z j) ++ (lsts n F C M Z j).take 160) (F (n - 2 - j))
theorem lsts_are (n : Nat) (F C : Nat → List UInt8) (M : Nat → List UInt8 → List UInt8) (Z : List UInt8) (hF : ∀ i, (F i).length = 240) (hC : ∀ i, (C i).length = 24) (hM : ∀ i l, (M i l).length = 16) (hZ : 160 ≤ Z.length) (hn : 1 ≤ n ∧ n ≤ 5) :
    Lists n F C M Z (fun i => lsts n F C M Z (n - 1 - i)) where
  flow := hF
  cmd := hC
  mac := hM
  fill := hZ
  many := hn
  last := by simp only [Nat.sub_self]; rw [lsts]
  other := fun i hi => by
    have e : n - 1 - i = (n - 1 - (i + 1)) + 1 := by omega
    rw [e, lsts]
    have e1 : n - 2 - (n - 1 - (i + 1)) = i := by omega
    have e2 : n - 1 - (n - 1 - (i + 1)) = i + 1 := by omega
    rw [e1, e2]
end Go.Proofs.YtgnkkjknngblbaaGreatDoor
namespace Go.Proofs.YtgnkkjknngblbaaGreatDoor
open Go.RowKit Go.Proofs.Fd Go.Proofs.Ed Go.Proofs.Hs Go.Proofs.Cc Go.Proofs.Hd Go.Proofs.Rt Go.Proofs.YtgnkkjknngblbaaGreatDoor.Crv
set_option maxRecDepth 20000
def nth (l : List ByteArray) (i : Nat) : ByteArray := l.getD i ⟨#[]⟩
def hlst (seed : ByteArray) (ss : List ByteArray) (hs : List Hp) (i : Nat) : List UInt8 :=
  lsts hs.length (fun i => hflow (nth ss i)) (fun i => byt (hs.getD i zh)) (fun i l => hmacf (nth ss i) l) (drv seed.data.toList lPad 200) (hs.length - 1 - i)
def hhead (seed : ByteArray) (ss : List ByteArray) (hs : List Hp) (i : Nat) : List UInt8 :=
  (ptB seed ((ss.take i).map bld)).data.toList ++ hmacf (nth ss i) (hlst seed ss hs i) ++ hlst seed ss hs i
theorem byt_len' (hs : List Hp) (h : hs.all ok = true) (i : Nat) : (byt (hs.getD i zh)).length = 24 := by
  by_cases hi : i < hs.length
  · rw [List.getD_eq_getElem?_getD, List.getElem?_eq_getElem hi]
    exact byt_len _ (List.all_eq_true.1 h _ (List.getElem_mem hi))
  · rw [List.getD_eq_getElem?_getD, List.getElem?_eq_none (by omega)]
    rfl
theorem hlst_are (seed : ByteArray) (ss : List ByteArray) (hs : List Hp) (h : hs.all ok = true) (hn : 1 ≤ hs.length ∧ hs.length ≤ 5) :
    Lists hs.length (fun i => hflow (nth ss i)) (fun i => byt (hs.getD i zh)) (fun i l => hmacf (nth ss i) l) (drv seed.data.toList lPad 200) (hlst seed ss hs) :=
  lsts_are hs.length _ _ _ _ (fun _ => hflow_len _) (byt_len' hs h) (fun _ _ => hmacf_len _ _) (by unfold drv; rw [xpn_len]; decide) hn
def kz : Value := .agg #[.string ⟨#[]⟩, .string ⟨#[]⟩, .string ⟨#[]⟩, .string ⟨#[]⟩, .string ⟨#[]⟩]
def hplain (s : ByteArray) (l : List UInt8) : List UInt8 := xorl (l ++ List.replicate 40 0) (hflow s)
def plV (p h : ByteArray) : Array Value :=
  if p.size = 32 ∧ h.size = 248 then
    (if tm p (h.extract 0 32) = 0 then #[hv zh, .string ⟨#[]⟩, kz, .int .i64 20]
    else if hmacf (ek (tm p (h.extract 0 32))) (h.data.toList.drop 48) = (h.data.toList.drop 32).take 16 then
      (match dcd ((hplain (ek (tm p (h.extract 0 32))) (h.data.toList.drop 48)).take 24) with
        | none => #[hv zh, .string ⟨#[]⟩, kz, .int .i64 70]
        | some x => #[hv x, .string (if x.k = 1 then ⟨((ek (tm (bld (ek (tm p (h.extract 0 32)))) (h.extract 0 32))).data.toList ++ (hplain (ek (tm p (h.extract 0 32))) (h.data.toList.drop 48)).drop 24).toArray⟩ else ⟨#[]⟩), kv (ek (tm p (h.extract 0 32))), .int .i64 0])
    else #[hv zh, .string ⟨#[]⟩, kz, .int .i64 81])
  else #[hv zh, .string ⟨#[]⟩, kz, .int .i64 3]
theorem plV_some (p h s : ByteArray) (P M L : List UInt8) (x : Hp) (hp : p.size = 32) (hh : h.data.toList = P ++ M ++ L) (lP : P.length = 32) (lM : M.length = 16) (lL : L.length = 200) (h0 : tm p ⟨P.toArray⟩ ≠ 0) (hs : s = ek (tm p ⟨P.toArray⟩)) (hm : hmacf s L = M) (hx : dcd ((hplain s L).take 24) = some x) :
    plV p h = #[hv x, .string (if x.k = 1 then ⟨((ek (tm (bld s) ⟨P.toArray⟩)).data.toList ++ (hplain s L).drop 24).toArray⟩ else ⟨#[]⟩), kv s, .int .i64 0] := by
  have z : h.size = 248 := by
    have : h.data.toList.length = h.size := by simp
    rw [← this, hh, List.length_append, List.length_append, lP, lM, lL]
  have e1 : h.extract 0 32 = ⟨P.toArray⟩ := by
    apply ByteArray.ext
    rw [ByteArray.data_extract]
    apply Array.toList_inj.1
    rw [Array.toList_extract, List.extract_eq_take_drop, hh, List.drop_zero, List.append_assoc, List.take_append_of_le_length (by omega), List.take_of_length_le (by omega)]
  have e2 : h.data.toList.drop 48 = L := by
    rw [hh, List.drop_append_of_le_length (by rw [List.length_append, lP, lM]; decide), List.drop_of_length_le (by rw [List.length_append, lP, lM]; decide), List.nil_append]
  have e3 : (h.data.toList.drop 32).take 16 = M := by
    rw [hh, List.append_assoc, List.drop_append_of_le_length (by omega), List.drop_of_length_le (by omega), List.nil_append, List.take_append_of_le_length (by omega), List.take_of_length_le (by omega)]
  unfold plV
  rw [if_pos ⟨hp, z⟩, e1, if_neg h0, e2, e3, ← hs, if_pos hm, hx]
theorem peel_whole (seed : ByteArray) (ks : List ByteArray) (hs : List Hp) (hk : ∀ k ∈ ks, k.size = 32) (hp : pth hs = 0) (hl : hs.length = ks.length) :
    ∃ ss, secs seed (ks.map fun k => ek (pub k)) [] = some ss ∧ ss.length = ks.length ∧ ∀ i (hi : i < ks.length),
      plV ks[i] ⟨(hhead seed ss hs i).toArray⟩ = #[hv (hs.getD i zh), .string (if i + 1 < ks.length then ⟨(hhead seed ss hs (i + 1)).toArray⟩ else ⟨#[]⟩), kv (nth ss i), .int .i64 0] ∧ (hhead seed ss hs i).length = 248 := by
  obtain ⟨ss, h1, h2, h3⟩ := secs_pub seed ks []
  refine ⟨ss, h1, h2, fun i hi => ?_⟩
  obtain ⟨g1, g2, g3, g4⟩ := pth_zero hs hp
  have LS := hlst_are seed ss hs g1 ⟨g2, g3⟩
  obtain ⟨e1, -⟩ := LS.ends i (by omega)
  have hsi : nth ss i = ek (tm ks[i] (ptB seed ((ss.take i).map bld))) := by
    have := h3 i hi
    rw [List.nil_append] at this
    exact this
  have okx : ok (hs.getD i zh) = true := by
    rw [List.getD_eq_getElem?_getD, List.getElem?_eq_getElem (by omega)]
    exact List.all_eq_true.1 g1 _ (List.getElem_mem (by omega))
  have lP : (ptB seed ((ss.take i).map bld)).data.toList.length = 32 := by
    have : (ptB seed ((ss.take i).map bld)).data.toList.length = (ptB seed ((ss.take i).map bld)).size := by simp
    rw [this, ptB_size]
  have ePt : (⟨(ptB seed ((ss.take i).map bld)).data.toList.toArray⟩ : ByteArray) = ptB seed ((ss.take i).map bld) := rfl
  have hne : tm ks[i] (ptB seed ((ss.take i).map bld)) ≠ 0 := (both seed ks[i] _).1
  refine ⟨?_, by unfold hhead; rw [List.length_append, List.length_append, lP, hmacf_len, e1]⟩
  by_cases hlast : i + 1 < ks.length
  · have hpl : hplain (nth ss i) (hlst seed ss hs i) = byt (hs.getD i zh) ++ hmacf (nth ss (i + 1)) (hlst seed ss hs (i + 1)) ++ hlst seed ss hs (i + 1) := LS.peel i (by omega)
    have hb := byt_len _ okx
    have hd : dcd ((hplain (nth ss i) (hlst seed ss hs i)).take 24) = some (hs.getD i zh) := by
      rw [hpl, List.append_assoc, List.take_append_of_le_length (by omega), List.take_of_length_le (by omega)]
      exact dcd_byt _ okx
    have hk1 : (hs.getD i zh).k = 1 := (g4 i (by omega)).2 (by omega)
    rw [plV_some ks[i] _ (nth ss i) (ptB seed ((ss.take i).map bld)).data.toList (hmacf (nth ss i) (hlst seed ss hs i)) (hlst seed ss hs i) (hs.getD i zh) (hk _ (List.getElem_mem hi)) rfl lP (hmacf_len _ _) e1 (by rw [ePt]; exact hne) (by rw [ePt]; exact hsi) rfl hd, if_pos hk1, if_pos hlast, ePt]
    congr 4
    unfold hhead
    have e5 : (hplain (nth ss i) (hlst seed ss hs i)).drop 24 = hmacf (nth ss (i + 1)) (hlst seed ss hs (i + 1)) ++ hlst seed ss hs (i + 1) := by
      rw [hpl, List.append_assoc, List.drop_append_of_le_length (by omega), List.drop_of_length_le (by omega), List.nil_append]
    have e6 : (ss.take (i + 1)).map bld = (ss.take i).map bld ++ [bld (nth ss i)] := by
      rw [List.take_succ_eq_append_getElem (by omega : i < ss.length), List.map_append]
      unfold nth
      rw [List.getD_eq_getElem?_getD, List.getElem?_eq_getElem (by omega)]
      rfl
    rw [e5, e6, ptB_snoc, List.append_assoc]
  · have hin : i = hs.length - 1 := by omega
    have hpl : (hplain (nth ss i) (hlst seed ss hs i)).take 24 = byt (hs.getD i zh) := by rw [hin]; exact LS.peel_last
    have hk1 : ¬ (hs.getD i zh).k = 1 := fun q => by have := (g4 i (by omega)).1 q; omega
    rw [plV_some ks[i] _ (nth ss i) (ptB seed ((ss.take i).map bld)).data.toList (hmacf (nth ss i) (hlst seed ss hs i)) (hlst seed ss hs i) (hs.getD i zh) (hk _ (List.getElem_mem hi)) rfl lP (hmacf_len _ _) e1 (by rw [ePt]; exact hne) (by rw [ePt]; exact hsi) rfl (by rw [hpl]; exact dcd_byt _ okx), if_neg hk1, if_neg hlast]
end Go.Proofs.YtgnkkjknngblbaaGreatDoor
namespace Go.Proofs.YtgnkkjknngblbaaGreatDoor
open Go.RowKit Go.Proofs.Fd Go.Proofs.Hs Go.Proofs.Cc Go.Proofs.Hd Go.Proofs.Rt
set_option maxRecDepth 20000
def pvL (i : Nat) : List UInt8 := [112, 114, 105, 118, 97, 116, 101, UInt8.ofNat (48 + i)]
def pv (s : ByteArray) (i : Nat) : ByteArray := ⟨(drv s.data.toList (pvL i) 32).toArray⟩
theorem pv_size (s : ByteArray) (i : Nat) : (pv s i).size = 32 := by
  show (drv s.data.toList (pvL i) 32).toArray.size = 32
  unfold drv
  simp [xpn_len]
def pp (s : ByteArray) (i : Nat) : ByteArray := Crv.ek (Crv.pub (pv s i))
theorem pp_size (s : ByteArray) (i : Nat) : (pp s i).size = 32 := Crv.ek_size _
end Go.Proofs.YtgnkkjknngblbaaGreatDoor
namespace Go.Proofs.YtgnkkjknngblbaaGreatDoor
open Go.RowKit Go.Proofs.Fd Go.Proofs.Hs Go.Proofs.Cc Go.Proofs.Hd Go.Proofs.Rt
set_option maxRecDepth 20000
def KeysAt (w : World) (v : Value) (ss : List ByteArray) : Prop := ∃ a c, v = .slice a ss.length c ∧ ss.length ≤ c ∧ c ≤ 9223372036854775807 ∧ ∀ i, i < ss.length → ∃ b o, a = some ⟨b, o, none⟩
    ∧ w.cell? ⟨b, o + i * 5, none⟩ = some (.string (hdk (nth ss i) lFlow 32)) ∧ w.cell? ⟨b, o + i * 5 + 1, none⟩ = some (.string (hdk (nth ss i) lMac 32)) ∧ w.cell? ⟨b, o + i * 5 + 2, none⟩ = some (.string (hdk (nth ss i) lBody 32))
    ∧ w.cell? ⟨b, o + i * 5 + 3, none⟩ = some (.string (bld (nth ss i))) ∧ w.cell? ⟨b, o + i * 5 + 4, none⟩ = some (.string (hdk (nth ss i) lTag 16))
theorem KeysAt.later {w w' : World} {v : Value} {ss : List ByteArray} (h : KeysAt w v ss) (hb : Below w.heap.size w w') : KeysAt w' v ss := by
  obtain ⟨a, c, rfl, h1, h2, h3⟩ := h
  refine ⟨a, c, rfl, h1, h2, fun i hi => ?_⟩
  obtain ⟨b, o, ha, c0, c1, c2, c3, c4⟩ := h3 i hi
  exact ⟨b, o, ha, cell_later hb c0, cell_later hb c1, cell_later hb c2, cell_later hb c3, cell_later hb c4⟩
def mkE (seed : ByteArray) (pts : List ByteArray) (hs : List Hp) : Int :=
  if pth hs = 0 then (if pts.length = hs.length then (if seed.size = 32 ∧ (pts.all fun p => p.size == 32) = true then (match secs seed pts [] with | none => 20 | some _ => 0) else 3) else 4) else pth hs
def mkS (seed : ByteArray) (pts : List ByteArray) (hs : List Hp) : List ByteArray := if mkE seed pts hs = 0 then (secs seed pts []).getD [] else []
def mkH (seed : ByteArray) (pts : List ByteArray) (hs : List Hp) : ByteArray := if mkE seed pts hs = 0 then ⟨(hhead seed (mkS seed pts hs) hs 0).toArray⟩ else ⟨#[]⟩
def MakeC : Prop := ∀ (seed : ByteArray) (a : Option Addr) (pts : List ByteArray) (n cap : Nat) (b : Option Addr) (hs : List Hp) (m cap2 : Nat) (w : World), Hid (pts.length = n ∧ hs.length = m) → Hid (n * 16 ≤ 140737488351232 ∧ m * 48 ≤ 140737488351232) →
    Hid (seed.size + 64 ≤ 140737488355328) → Hid (∀ p ∈ pts, p.size ≤ 140737488355328) → Hid (∀ h ∈ hs, h.id.size ≤ 140737488355328) → Hid (Kh w) → Hid (StrAt w a pts) → Hid (HopsAt w b hs) →
    Calls Tryz.prog 16 #[.string seed, .slice a n cap, .slice b m cap2] w fun e w' => ∃ v, e = .returned (.tuple #[.string (mkH seed pts hs), v, .int .i64 (mkE seed pts hs)]) ∧ KeysAt w' v (mkS seed pts hs) ∧ Below w.heap.size w w'
def PeelC : Prop := ∀ (p h : ByteArray) (w : World), Hid (p.size ≤ 140737488355328) → Hid (h.size ≤ 140737488355328) → Hid (Kh w) →
    Calls Tryz.prog 21 #[.string p, .string h] w fun e w' => e = .returned (.tuple (plV p h)) ∧ Below w.heap.size w w'
theorem hdk_size (s : ByteArray) (l : List UInt8) (n : Nat) : (hdk s l n).size = n := by
  show (drv s.data.toList l n).toArray.size = n
  unfold drv
  simp [xpn_len]
theorem made_pub (seed : ByteArray) (ks : List ByteArray) (hs : List Hp) (hz : seed.size = 32) (hk : ∀ k ∈ ks, k.size = 32) (hp : pth hs = 0) (hl : hs.length = ks.length) :
    ∃ ss, ss.length = ks.length ∧ mkE seed (ks.map fun k => Crv.ek (Crv.pub k)) hs = 0 ∧ mkS seed (ks.map fun k => Crv.ek (Crv.pub k)) hs = ss ∧ mkH seed (ks.map fun k => Crv.ek (Crv.pub k)) hs = ⟨(hhead seed ss hs 0).toArray⟩
      ∧ ∀ i (hi : i < ks.length), plV ks[i] ⟨(hhead seed ss hs i).toArray⟩ = #[hv (hs.getD i zh), .string (if i + 1 < ks.length then ⟨(hhead seed ss hs (i + 1)).toArray⟩ else ⟨#[]⟩), kv (nth ss i), .int .i64 0] ∧ (hhead seed ss hs i).length = 248 := by
  obtain ⟨ss, h1, h2, h3⟩ := peel_whole seed ks hs hk hp hl
  have e : mkE seed (ks.map fun k => Crv.ek (Crv.pub k)) hs = 0 := by
    have ha : ((ks.map fun k => Crv.ek (Crv.pub k)).all fun p => p.size == 32) = true := by
      rw [List.all_eq_true]
      intro x hx
      obtain ⟨k, -, rfl⟩ := List.mem_map.1 hx
      simp [Crv.ek_size]
    unfold mkE
    rw [if_pos hp, if_pos (by rw [List.length_map]; exact hl.symm), if_pos ⟨hz, ha⟩, h1]
  have es : mkS seed (ks.map fun k => Crv.ek (Crv.pub k)) hs = ss := by unfold mkS; rw [if_pos e, h1]; rfl
  exact ⟨ss, h2, e, es, by unfold mkH; rw [if_pos e, es], h3⟩
end Go.Proofs.YtgnkkjknngblbaaGreatDoor
