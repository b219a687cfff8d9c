/- Logs as pure states, over a disk's: heads, records, halves; what each call answers and leaves. -/
import Derived.Test.YtdcimnmebgkmjaaDoorDkM
import Derived.Test.YtdcimnmebgkmjaaDoorKM
namespace Go.Proofs.Lg
open Go.Proofs.Dk

def mk (l : Bs) : Bs := (Hs.sha l).take 16
theorem mk_len (l : Bs) : (mk l).length = 16 := rfl
def zr (n : Nat) : Bs := List.replicate n 0
theorem zr_len (n : Nat) : (zr n).length = n := List.length_replicate
/-- A number in so many bytes, the highest first. -/
def ben (n m : Nat) : Bs := (List.range m).map fun i => UInt8.ofNat (n / 2 ^ (8 * (m - 1 - i)))
theorem ben_len (n m : Nat) : (ben n m).length = m := by simp [ben]
def nm (l : Bs) : Nat := l.foldl (fun n b => n * 256 + b.toNat) 0
/-- Up to a sector's end. -/
def pdd (b : Bs) : Bs := b ++ zr ((64 - b.length % 64) % 64)
theorem pdd_len (b : Bs) : (pdd b).length = 64 * ((b.length + 63) / 64) := by
  rw [pdd, List.length_append, zr_len]
  omega
def hf (g : Nat) : Bs := [76, 79, 71, 0] ++ ben g 4
theorem hf_len (g : Nat) : (hf g).length = 8 := by rw [hf, List.length_append, ben_len]; rfl
def hm (g : Nat) : Bs := mk (hf g)
def hd (g : Nat) : Bs := pdd (hf g ++ hm g)
theorem hd_len (g : Nat) : (hd g).length = 64 := by
  rw [hd, pdd_len, List.length_append, hf_len, hm, mk_len]
def rmk (a t : Bs) : Bs := mk (a ++ ben t.length 2 ++ t)
def rcd (a t : Bs) : Bs := pdd (ben t.length 2 ++ rmk a t ++ t)
def sn (t : Bs) : Nat := (18 + t.length + 63) / 64
theorem rcd_len (a t : Bs) : (rcd a t).length = 64 * sn t := by
  rw [rcd, pdd_len, List.length_append, List.length_append, ben_len, rmk, mk_len]
  rfl
theorem sn_pos (t : Bs) : 1 ≤ sn t := by unfold sn; omega
/-- The generation of the head that bytes begin with. -/
def gen (b : Bs) : Nat := if nm ((b.drop 4).take 4) ≤ 2147483647 ∧ (hd (nm ((b.drop 4).take 4))).isPrefixOf b = true then nm ((b.drop 4).take 4) else 0
theorem gen_le (b : Bs) : gen b ≤ 2147483647 := by
  unfold gen
  split
  · rename_i h
    exact h.1
  · exact Nat.zero_le _
/-- The text of the record that bytes begin with, behind a mark. -/
def rof (b a : Bs) : Option Bs :=
  if b.length < 64 then none
  else if nm (b.take 2) < 1 ∨ 2000 < nm (b.take 2) ∨ b.length < 18 + nm (b.take 2) then none
  else if (rcd a ((b.drop 18).take (nm (b.take 2)))).isPrefixOf b = true then some ((b.drop 18).take (nm (b.take 2))) else none
theorem rof_le {b a t : Bs} (h : rof b a = some t) : 64 * sn t ≤ b.length ∧ 1 ≤ t.length ∧ t.length ≤ 2000 := by
  unfold rof at h
  split at h
  · cases h
  · split at h
    · cases h
    · split at h
      · rename_i h1 h2 h3
        injection h with h
        obtain ⟨r, hr⟩ := List.isPrefixOf_iff_prefix.1 h3
        have hl := congrArg List.length hr
        rw [List.length_append, rcd_len, h] at hl
        refine ⟨by omega, ?_⟩
        rw [← h, List.length_take, List.length_drop]
        omega
      · cases h
def scan : Nat → Bs → Bs → List Bs
  | 0, _, _ => []
  | m + 1, b, a => match rof b a with
    | none => []
    | some t => t :: scan m (b.drop (64 * sn t)) (rmk a t)
/-- Sectors that a head and texts take; the mark behind them. -/
def tkn : Nat → List Bs → Nat
  | k, [] => k
  | k, t :: l => tkn (k + sn t) l
def mks : Bs → List Bs → Bs
  | a, [] => a
  | a, t :: l => mks (rmk a t) l
theorem tkn_app : ∀ (l : List Bs) (k : Nat) (t : Bs), tkn k (l ++ [t]) = tkn k l + sn t
  | [], _, _ => rfl
  | x :: l, k, t => by rw [List.cons_append, tkn, tkn_app l, tkn]
theorem mks_app : ∀ (l : List Bs) (a : Bs) (t : Bs), mks a (l ++ [t]) = rmk (mks a l) t
  | [], _, _ => rfl
  | x :: l, a, t => by rw [List.cons_append, mks, mks_app l, mks]
theorem tkn_ge : ∀ (l : List Bs) (k : Nat), k ≤ tkn k l
  | [], _ => Nat.le_refl _
  | _ :: l, _ => Nat.le_trans (Nat.le_add_right _ _) (tkn_ge l _)
theorem mks_len : ∀ (l : List Bs) (a : Bs), a.length = 16 → (mks a l).length = 16
  | [], _, h => h
  | _ :: l, _, _ => mks_len l _ (mk_len _)
/-- One step, and if it is OK the next. -/
def thn (x : Int × St) (k : St → Int × St) : Int × St := if x.1 = 0 then k x.2 else x
theorem thn_ok {x : Int × St} {k : St → Int × St} (h : x.1 = 0) : thn x k = k x.2 := if_pos h
theorem thn_no {x : Int × St} {k : St → Int × St} (h : x.1 ≠ 0) : thn x k = x := if_neg h
/-- Bytes in sectors. -/
def chs : Nat → Bs → List Bs
  | 0, _ => []
  | m + 1, b => b.take 64 :: chs m (b.drop 64)
theorem chs_len : ∀ (m : Nat) (b : Bs), (chs m b).length = m
  | 0, _ => rfl
  | m + 1, b => by rw [chs, List.length_cons, chs_len m]
theorem chs_64 : ∀ (m : Nat) (b : Bs), b.length = 64 * m → ∀ x ∈ chs m b, x.length = 64
  | 0, _, _, x, hx => by cases hx
  | m + 1, b, h, x, hx => by
    rcases List.mem_cons.1 hx with rfl | hx
    · rw [List.length_take]
      omega
    · exact chs_64 m (b.drop 64) (by rw [List.length_drop]; omega) x hx
def wrs : St → Nat → List Bs → Int × St
  | s, _, [] => (0, s)
  | s, k, b :: l => thn (wrE s k b, wrS s k b) fun s' => wrs s' (k + 1) l
def wrb (s : St) (k : Nat) (b : Bs) : Int × St := wrs s k (chs (b.length / 64) b)
/-- To clean so many sectors from one on. -/
def cls : St → Nat → Nat → Bool → Int × St
  | s, _, 0, d => if d = true then (syE s, syS s) else (0, s)
  | s, k, m + 1, d => if s.sh k = zr 64 then cls s (k + 1) m d else thn (wrE s k (zr 64), wrS s k (zr 64)) fun s' => cls s' (k + 1) m true
def cln (s : St) (k m : Nat) : Int × St := if s.down = true then (150, s) else cls s k m false
/-- Records, one behind the other. -/
def pts : St → Nat → Nat → Bs → List Bs → Int × St
  | s, _, _, _, [] => (0, s)
  | s, k, tk, a, t :: l => thn (wrb s (k + tk) (rcd a t)) fun s' => pts s' k (tk + sn t) (rmk a t) l
def bgn (s : St) (k H g : Nat) (ts : List Bs) : Int × St :=
  thn (cln s k H) fun s1 => thn (pts s1 k 1 (hm g) ts) fun s2 => thn (syE s2, syS s2) fun s3 => thn (wrb s3 k (hd g)) fun s4 => (syE s4, syS s4)
/-- A half's bytes. -/
def hb (s : St) (k H : Nat) : Bs := (List.range H).flatMap fun i => s.sh (k + i)
theorem hb_succ (s : St) (k H : Nat) : hb s k (H + 1) = hb s k H ++ s.sh (k + H) := by
  simp [hb, List.range_succ]
theorem hb_len {s : St} (h : Ok s) (k H : Nat) : (hb s k H).length = 64 * H := by
  induction H with
  | zero => rfl
  | succ n ih =>
    rw [hb_succ, List.length_append, ih, h.sh64]
    omega
/-- A log: which half, its generation, its texts. -/
structure Lo where
  h : Nat
  g : Nat
  ts : List Bs
def Lo.tk (x : Lo) : Nat := tkn 1 x.ts
def Lo.mr (x : Lo) : Bs := mks (hm x.g) x.ts
/-- Which half is in use: its number and generation (0: none is). -/
def use (s : St) : Nat × Nat := if gen (hb s 0 (s.n / 2)) < gen (hb s (s.n / 2) (s.n / 2)) then (1, gen (hb s (s.n / 2) (s.n / 2))) else (0, gen (hb s 0 (s.n / 2)))
/-- The records of a half. -/
def recs (s : St) (k H g : Nat) : List Bs := scan H ((hb s k H).drop 64) (hm g)
def opn (s : St) : (Int × St) × Lo :=
  if s.n / 2 < 2 then ((4, s), ⟨0, 0, []⟩)
  else if s.down = true then ((150, s), ⟨0, 0, []⟩)
  else if (use s).2 = 0 then (bgn s 0 (s.n / 2) 1 [], ⟨0, 1, []⟩)
  else
    let ts := recs s ((use s).1 * (s.n / 2)) (s.n / 2) (use s).2
    (cln s ((use s).1 * (s.n / 2) + tkn 1 ts) (s.n / 2 - tkn 1 ts), ⟨(use s).1, (use s).2, ts⟩)
/-- What keeps a text from being a record's. -/
def may (t : Bs) : Int := if t.length < 1 then 1 else if 2000 < t.length then 2 else 0
def app (s : St) (x : Lo) (t : Bs) : (Int × St) × Lo :=
  if may t ≠ 0 then ((may t, s), x)
  else if s.n / 2 < x.tk + sn t then ((151, s), x)
  else
    let y := wrb s (x.h * (s.n / 2) + x.tk) (rcd x.mr t)
    (y, if y.1 = 0 then { x with ts := x.ts ++ [t] } else x)
/-- Of a list of texts: the first thing that is wrong, or how many sectors they take. -/
def mays : List Bs → Int
  | [] => 0
  | t :: l => if may t ≠ 0 then may t else mays l
def sns : List Bs → Nat
  | [] => 0
  | t :: l => sn t + sns l
def cmp (s : St) (x : Lo) (ts : List Bs) : (Int × St) × Lo :=
  if mays ts ≠ 0 then ((mays ts, s), x)
  else if s.n / 2 - 1 < sns ts then ((151, s), x)
  else if 2147483647 ≤ x.g then ((2, s), x)
  else
    let y := bgn s ((1 - x.h) * (s.n / 2)) (s.n / 2) (x.g + 1) ts
    (y, if y.1 = 0 then ⟨1 - x.h, x.g + 1, ts⟩ else x)
theorem use_le (s : St) : (use s).2 ≤ 2147483647 := by
  unfold use
  split
  · exact gen_le _
  · exact gen_le _
theorem opn_le (s : St) : (opn s).2.g ≤ 2147483647 := by
  unfold opn
  split
  · exact Nat.zero_le _
  · split
    · exact Nat.zero_le _
    · split
      · show (1 : Nat) ≤ _
        decide
      · exact use_le s
theorem cmp_le (s : St) (x : Lo) (ts : List Bs) (h : x.g ≤ 2147483647) : (cmp s x ts).2.g ≤ 2147483647 := by
  unfold cmp
  split
  · exact h
  · split
    · exact h
    · split
      · exact h
      · rename_i h3
        show (if (bgn s ((1 - x.h) * (s.n / 2)) (s.n / 2) (x.g + 1) ts).1 = 0 then (⟨1 - x.h, x.g + 1, ts⟩ : Lo) else x).g ≤ _
        split
        · show x.g + 1 ≤ _
          omega
        · exact h
theorem app_g (s : St) (x : Lo) (t : Bs) : (app s x t).2.g = x.g := by
  unfold app
  split
  · rfl
  · split
    · rfl
    · show (if _ then _ else _ : Lo).g = _
      split <;> rfl
theorem scan_fits : ∀ (m : Nat) (b a : Bs) (k : Nat), b.length = 64 * m → tkn k (scan m b a) ≤ k + m ∧ ∀ t ∈ scan m b a, 1 ≤ t.length ∧ t.length ≤ 2000
  | 0, _, _, k, _ => ⟨Nat.le_refl _, fun _ h => by cases h⟩
  | m + 1, b, a, k, hb => by
    rw [scan]
    split
    · exact ⟨Nat.le_add_right _ _, fun _ h => by cases h⟩
    · rename_i t ht
      have hl := rof_le ht
      have hp := sn_pos t
      refine ⟨?_, fun x hx => ?_⟩
      · rw [tkn]
        obtain ⟨d, hd⟩ : ∃ d, m = d + (sn t - 1) := ⟨m - (sn t - 1), by omega⟩
        have := scan_le m d (b.drop (64 * sn t)) (rmk a t) (k + sn t) (by rw [List.length_drop]; omega)
        omega
      · rcases List.mem_cons.1 hx with rfl | hx
        · exact hl.2
        · exact scan_ok m _ _ x hx
  where
  scan_ok : ∀ (m : Nat) (b a : Bs), ∀ t ∈ scan m b a, 1 ≤ t.length ∧ t.length ≤ 2000
    | 0, _, _, _, h => by cases h
    | m + 1, b, a, x, hx => by
      rw [scan] at hx
      split at hx
      · cases hx
      · rename_i t ht
        rcases List.mem_cons.1 hx with rfl | hx
        · exact (rof_le ht).2
        · exact scan_ok m _ _ x hx
  scan_le : ∀ (m d : Nat) (b a : Bs) (k : Nat), b.length = 64 * d → tkn k (scan m b a) ≤ k + d
    | 0, _, _, _, _, _ => Nat.le_add_right _ _
    | m + 1, d, b, a, k, hb => by
      rw [scan]
      split
      · exact Nat.le_add_right _ _
      · rename_i t ht
        have hl := rof_le ht
        rw [tkn]
        have := scan_le m (d - sn t) (b.drop (64 * sn t)) (rmk a t) (k + sn t) (by rw [List.length_drop]; omega)
        omega
end Go.Proofs.Lg
