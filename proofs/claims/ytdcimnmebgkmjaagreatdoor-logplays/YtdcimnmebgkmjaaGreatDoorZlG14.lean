/- Parts: DkL0, DkL1, MlK, LgM. -/
import Derived.Test.YtdcimnmebgkmjaaGreatDoorZlG13
import Derived.Shelf.Strings.Repeat
import Derived.Test.YtdcimnmebgkmjaaGreatDoorZlG01
import Derived.Shelf.Pu.Clone
import Derived.Test.YtdcimnmebgkmjaaGreatDoorZlG09
import Derived.Test.YtdcimnmebgkmjaaGreatDoorZlG02
namespace Go.Proofs.YtdcimnmebgkmjaaGreatDoor
open Go.RowKit Go.Proofs.Fd Go.Proofs.Dk
set_option maxRecDepth 20000
def repAt : Go.Shelf.Ren := ⟨fun x => if x = 99 then 130 else if x = 105 then 120 else if x = 165 then 135 else if x = 166 then 118 else if x = 169 then 119 else if x = 170 then 136 else if x = 206 then 141 else if x = 212 then 134 else if x = 240 then 133 else if x = 241 then 146 else if x = 263 then 144 else if x = 264 then 145 else if x = 276 then 143 else if x = 277 then 148 else 0, fun x => if x = 0 then 0 else if x = 3 then 3 else if x = 4 then 4 else if x = 5 then 5 else if x = 9 then 9 else if x = 20 then 20 else if x = 37 then 68 else if x = 46 then 141 else if x = 51 then 163 else if x = 53 then 172 else if x = 70 then 152 else if x = 72 then 154 else if x = 75 then 156 else if x = 76 then 157 else if x = 80 then 139 else if x = 109 then 169 else if x = 127 then 162 else if x = 146 then 180 else if x = 148 then 182 else if x = 164 then 178 else 0, fun n => n⟩
theorem repLies : Lays.n105 Tryz.prog repAt :=
  { mixed := by kernel_rfl, f99 := by kernel_rfl, f105 := by kernel_rfl, f165 := by kernel_rfl, f166 := by kernel_rfl, f169 := by kernel_rfl, f170 := by kernel_rfl, f206 := by kernel_rfl, f212 := by kernel_rfl, f240 := by kernel_rfl, f241 := by kernel_rfl, f263 := by kernel_rfl, f264 := by kernel_rfl, f276 := by kernel_rfl, f277 := by kernel_rfl, t0 := by kernel_rfl, a0 := fun _ => by kernel_rfl, z0 := fun _ => by kernel_rfl, v0 := fun _ => by kernel_rfl, t3 := by kernel_rfl, a3 := fun _ => by kernel_rfl, z3 := fun _ => by kernel_rfl, v3 := fun _ => by kernel_rfl, t4 := by kernel_rfl, a4 := fun _ => by kernel_rfl, z4 := fun _ => by kernel_rfl, v4 := fun _ => by kernel_rfl, t5 := by kernel_rfl, a5 := fun _ => by kernel_rfl, z5 := fun _ => by kernel_rfl, v5 := fun _ => by kernel_rfl, t9 := by kernel_rfl, a9 := fun _ => by kernel_rfl, z9 := fun _ => by kernel_rfl, v9 := fun _ => by kernel_rfl, t20 := by kernel_rfl, a20 := fun _ => by kernel_rfl, z20 := fun _ => by kernel_rfl, v20 := fun _ => by kernel_rfl, t37 := by kernel_rfl, a37 := fun _ => by kernel_rfl, z37 := fun _ => by kernel_rfl, v37 := fun _ => by kernel_rfl, t46 := by kernel_rfl, a46 := fun _ => by kernel_rfl, z46 := fun _ => by kernel_rfl, v46 := fun _ => by kernel_rfl, t51 := by kernel_rfl, a51 := fun _ => by kernel_rfl, z51 := fun _ => by kernel_rfl, v51 := fun _ => by kernel_rfl, t53 := by kernel_rfl, a53 := fun _ => by kernel_rfl, z53 := fun _ => by kernel_rfl, v53 := fun _ => by kernel_rfl, t70 := by kernel_rfl, a70 := fun _ => by kernel_rfl, z70 := fun _ => by kernel_rfl, v70 := fun _ => by kernel_rfl, t72 := by kernel_rfl, a72 := fun _ => by kernel_rfl, z72 := fun _ => by kernel_rfl, v72 := fun _ => by kernel_rfl, t75 := by kernel_rfl, a75 := fun _ => by kernel_rfl, z75 := fun _ => by kernel_rfl, v75 := fun _ => by kernel_rfl, t76 := by kernel_rfl, a76 := fun _ => by kernel_rfl, z76 := fun _ => by kernel_rfl, v76 := fun _ => by kernel_rfl, t109 := by kernel_rfl, a109 := fun _ => by kernel_rfl, z109 := fun _ => by kernel_rfl, v109 := fun _ => by kernel_rfl, t127 := by kernel_rfl, a127 := fun _ => by kernel_rfl, z127 := fun _ => by kernel_rfl, v127 := fun _ => by kernel_rfl, t146 := by kernel_rfl, a146 := fun _ => by kernel_rfl, z146 := fun _ => by kernel_rfl, v146 := fun _ => by kernel_rfl, t148 := by kernel_rfl, a148 := fun _ => by kernel_rfl, z148 := fun _ => by kernel_rfl, v148 := fun _ => by kernel_rfl, t164 := by kernel_rfl, a164 := fun _ => by kernel_rfl, z164 := fun _ => by kernel_rfl, v164 := fun _ => by kernel_rfl }
theorem repMore : Builder.Extra Tryz.prog repAt :=
  { sizeBuilder := by kernel_rfl, liesBuilder := by kernel_rfl, t5 := by kernel_rfl, a5 := fun _ => by kernel_rfl, z5 := fun _ => by kernel_rfl, v5 := fun _ => by kernel_rfl, infoByte := by kernel_rfl, cellsByte := by kernel_rfl, sizeByte := by kernel_rfl, neB5 := by decide }
theorem rep_any (c : UInt8) (n : Nat) (h1 : n ≤ 1000) (w : World) :
    Calls Tryz.prog 120 #[.string ⟨#[c]⟩, .int .i64 (n : Int)] w fun e w' => e = .returned (sv (List.replicate n c)) ∧ Below w.heap.size w w' := by
  have hs : (⟨#[c]⟩ : ByteArray).size = 1 := rfl
  refine (Any.strings_Repeat repLies repMore ⟨#[c]⟩ n w (by omega) (by rw [hs]; omega)).mono fun e w' ⟨he, hb⟩ => ⟨?_, hb⟩
  rw [he]
  have : Lib.repeatL [c] n = List.replicate n c := by
    simpa using Lib.repeatL_replicate c 1 n
  simp [st, this]
theorem infoU8 : (Tryz.prog.info? 5).map (fun i => (i.zero, i.size, i.bytes)) = some (some (.int .u8 0), 1, 1) := by kernel_rfl
theorem make_64 : ∃ M : Array Value, (∀ w : World, (Instr.makeSlice 68 (.int .i64 64) (.int .i64 64)).run Tryz.prog w = .ok (.slice (some ⟨w.heap.size, 0, none⟩) 64 64) (w.alloc (.cells M 5)))
    ∧ ∀ w : World, Sec (w.alloc (.cells M 5)) w.heap.size 1 (fun _ => List.replicate 64 0) := by
  obtain ⟨i0, hi, hz0, hz1, hz2⟩ := info_parts infoU8
  refine ⟨madeCells (Value.int .u8 0).cells 64, fun w => ?_, fun w => ?_⟩
  · have h := run_make (P := Tryz.prog) w 68 5 i0 (.int .u8 0) Tryz.underlying68 hi hz0 .i64 .i64 64 64 (by omega) (Int.le_refl _) (by rw [hz2]; omega) (by omega)
    rw [hz1] at h
    exact h
  · have hc : ∀ j, j < 64 → (w.alloc (.cells (madeCells (Value.int .u8 0).cells 64) 5)).cell? ⟨w.heap.size, j, none⟩ = some (.int .u8 0) := fun j hj => by
      rw [World.cell?_alloc_new]
      exact made_rep 1 64 j _ (by decide) hj
    refine ⟨fun k hk j v hv => ?_, fun j hj => ?_, fun _ => by simp⟩
    · have hj : j < 64 := by
        have := (List.getElem?_eq_some_iff.1 hv).1
        rw [bc_len, List.length_replicate] at this
        exact this
      rw [hc _ (by omega)]
      rw [bc_zeros, List.getElem?_replicate, if_pos hj] at hv
      rw [← hv]
    · rw [Nat.zero_add, hc j (by omega)]
      exact ⟨rfl, by simp [go_sem]⟩
end Go.Proofs.YtdcimnmebgkmjaaGreatDoor
namespace Go.Proofs.YtdcimnmebgkmjaaGreatDoor
open Go.RowKit Go.Proofs.Fd Go.Proofs.Dk
set_option maxRecDepth 20000
structure Dl (w wr : World) (p : Nat) (F : Nat → Prop) (s : St) : Prop where
  at_ : KAt wr p F s
  new : ∀ g, F g → w.heap.size ≤ g
  below : Below w.heap.size w wr
theorem Dl.stp {w wr w' : World} {p : Nat} {F F' : Nat → Prop} {s t : St} (h : Dl w wr p F s) (h1 : KAt w' p F' t) (h2 : Nx wr F F') (h3 : Bf F wr w') : Dl w w' p F' t :=
  ⟨h1, fun g hg => by
    rcases h2 g hg with c | c
    · exact h.new g c
    · exact Nat.le_trans h.below.size c, h.below.trans (h3.below h.new h.below.size)⟩
theorem Dl.later {w wr w' : World} {p : Nat} {F : Nat → Prop} {s : St} (h : Dl w wr p F s) (hb : Below wr.heap.size wr w') : Dl w w' p F s := ⟨h.at_.later hb, h.new, chain h.below hb⟩
theorem newL (w wr : World) (n : Nat) (h1 : 1 ≤ n) (h2 : n ≤ 1024) (hb : Below w.heap.size w wr) :
    Calls Tryz.prog 5 #[.int .i64 (n : Int)] wr fun e w' => ∃ p F, e = .returned (.tuple #[.pointer (some ⟨p, 0, none⟩), .int .i64 0]) ∧ Dl w w' p F (St.init n) ∧ (∀ g, F g → wr.heap.size ≤ g) ∧ Below wr.heap.size wr w' :=
  (new_any n h1 h2 wr).mono fun _ _ ⟨p, F, he, k1, k2, k3⟩ => ⟨p, F, he, ⟨k1, fun g hg => Nat.le_trans hb.size (k2 g hg), chain hb k3⟩, k2, k3⟩
theorem writeL (w wr : World) (p : Nat) (F : Nat → Prop) (s : St) (k : Int) (t : ByteArray) (hl : s.l.length ≤ 1000000) (h : Dl w wr p F s) :
    Calls Tryz.prog 34 #[.pointer (some ⟨p, 0, none⟩), .int .i64 k, .string t] wr fun e w' => e = .returned (.int .i64 (wrE s k t.data.toList)) ∧ ∃ F', Dl w w' p F' (wrS s k t.data.toList) ∧ Nx wr F F' ∧ Bf F wr w' :=
  (write_any p F s k t wr h.at_ hl).mono fun _ _ ⟨he, F', h1, h2, h3⟩ => ⟨he, F', h.stp h1 h2 h3, h2, h3⟩
theorem syncL (w wr : World) (p : Nat) (F : Nat → Prop) (s : St) (hl : s.l.length ≤ 1000000) (h : Dl w wr p F s) :
    Calls Tryz.prog 100 #[.pointer (some ⟨p, 0, none⟩)] wr fun e w' => e = .returned (.int .i64 (syE s)) ∧ ∃ F', Dl w w' p F' (syS s) ∧ Nx wr F F' ∧ Bf F wr w' :=
  (sync_any p F s wr h.at_ hl).mono fun _ _ ⟨he, F', h1, h2, h3⟩ => ⟨he, F', h.stp h1 h2 h3, h2, h3⟩
theorem fuseL (w wr : World) (p : Nat) (F : Nat → Prop) (s : St) (n : Int) (h : Dl w wr p F s) :
    Calls Tryz.prog 31 #[.pointer (some ⟨p, 0, none⟩), .int .i64 n] wr fun e w' => e = .returned (.int .i64 (fuE s n)) ∧ ∃ F', Dl w w' p F' (fuS s n) ∧ Nx wr F F' ∧ Bf F wr w' :=
  (fuse_any p F s n wr h.at_).mono fun _ _ ⟨he, F', h1, h2, h3⟩ => ⟨he, F', h.stp h1 h2 h3, h2, h3⟩
theorem crashL (w wr : World) (p : Nat) (F : Nat → Prop) (s : St) (pa : Option Addr) (pn pc : Nat) (ps : List Int) (hpn : ps.length = pn) (hl : s.l.length ≤ 1000000) (hp : IntAt wr pa ps) (hF : ∀ x, pa = some x → 0 < ps.length → ¬ F x.block) (h : Dl w wr p F s) :
    Calls Tryz.prog 23 #[.pointer (some ⟨p, 0, none⟩), .slice pa pn pc] wr fun e w' => e = .returned (.int .i64 0) ∧ ∃ F', Dl w w' p F' (crS s ps) ∧ Nx wr F F' ∧ Bf F wr w' :=
  (crash_any p F s pa pn pc ps hpn wr h.at_ hl hp hF).mono fun _ _ ⟨he, F', h1, h2, h3⟩ => ⟨he, F', h.stp h1 h2 h3, h2, h3⟩
theorem readL (w wr : World) (p : Nat) (F : Nat → Prop) (s : St) (k : Int) (h : Dl w wr p F s) :
    Calls Tryz.prog 18 #[.pointer (some ⟨p, 0, none⟩), .int .i64 k] wr fun e w' => e = .returned (.tuple #[sv (rdV s k), .int .i64 (rch s k)]) ∧ w' = wr := read_any p F s k wr h.at_
def zs : Nat → Bs := fun _ => List.replicate 64 0
theorem st_app (a b : Bs) : st a ++ st b = st (a ++ b) := by
  apply ByteArray.ext
  rw [ByteArray.data_append]
  simp [st]
theorem st_size (a : Bs) : (st a).size = a.length := by simp [st, ByteArray.size]
theorem st_cut (l : Bs) (i j : Nat) : (st l).extract i j = st ((l.take j).drop i) := by
  apply ByteArray.ext
  apply Array.ext'
  simp [st, ByteArray.data_extract, List.extract_eq_take_drop, List.drop_take]
def cC : Bs := List.replicate 61 97
end Go.Proofs.YtdcimnmebgkmjaaGreatDoor
namespace Go.Proofs.YtdcimnmebgkmjaaGreatDoor
open Go.RowKit Go.Proofs.Fd
set_option maxRecDepth 20000
def scloneAt : Go.Shelf.Ren := ⟨fun _ => 101, fun t => if t = 3 then 3 else if t = 4 then 4 else if t = 5 then 5 else if t = 9 then 9 else if t = 37 then 68 else if t = 47 then 162 else 0, fun n => n⟩
theorem scloneLies : LaysPu.n25 Tryz.prog scloneAt :=
  { mixed := by kernel_rfl, f25 := by kernel_rfl, t0 := by kernel_rfl, a0 := fun _ => by kernel_rfl, z0 := fun _ => by kernel_rfl, v0 := fun _ => by kernel_rfl, i0 := by kernel_rfl, t3 := by kernel_rfl, a3 := fun _ => by kernel_rfl, z3 := fun _ => by kernel_rfl, v3 := fun _ => by kernel_rfl, i3 := by kernel_rfl, t4 := by kernel_rfl, a4 := fun _ => by kernel_rfl, z4 := fun _ => by kernel_rfl, v4 := fun _ => by kernel_rfl, i4 := by kernel_rfl, t5 := by kernel_rfl, a5 := fun _ => by kernel_rfl, z5 := fun _ => by kernel_rfl, v5 := fun _ => by kernel_rfl, i5 := by kernel_rfl, t9 := by kernel_rfl, a9 := fun _ => by kernel_rfl, z9 := fun _ => by kernel_rfl, v9 := fun _ => by kernel_rfl, i9 := by kernel_rfl, t37 := by kernel_rfl, a37 := fun _ => by kernel_rfl, z37 := fun _ => by kernel_rfl, v37 := fun _ => by kernel_rfl, i37 := by kernel_rfl, t47 := by kernel_rfl, a47 := fun _ => by kernel_rfl, z47 := fun _ => by kernel_rfl, v47 := fun _ => by kernel_rfl, i47 := by kernel_rfl }
theorem sclone_in (s : ByteArray) (hs : s.size ≤ 281474976710656) (w : World) :
    Calls Tryz.prog 101 #[.string s] w fun e w' => e = .returned (.string s) ∧ Below w.heap.size w w' := AnyPu.stringslite_Clone scloneLies s w hs
theorem sclone_any (s : ByteArray) (hs : s.size ≤ 281474976710656) (w : World) :
    Calls Tryz.prog 63 #[.string s] w fun e w' => e = .returned (.string s) ∧ Below w.heap.size w w' := by
  go_enter Tryz.func63, Tryz.ntmps63
  go_wp2_with fail
  refine Calls.mono (sclone_in s hs _) ?_
  rintro e w1 ⟨rfl, hb⟩
  have B1 : Hid (Below w.heap.size w w1) := hb
  clear hb
  go_wp2
  go_ret
  exact ⟨rfl, B1.out⟩
end Go.Proofs.YtdcimnmebgkmjaaGreatDoor
namespace Go.Proofs.Lg
open Go.Proofs.Dk
def mk (l : Bs) : Bs := (Hs.sha l).take 16
theorem mk_len (l : Bs) : (mk l).length = 16 := rfl
def zr (n : Nat) : Bs := List.replicate n 0
theorem zr_len (n : Nat) : (zr n).length = n := List.length_replicate
def ben (n m : Nat) : Bs := (List.range m).map fun i => UInt8.ofNat (n / 2 ^ (8 * (m - 1 - i)))
theorem ben_len (n m : Nat) : (ben n m).length = m := by simp [ben]
def nm (l : Bs) : Nat := l.foldl (fun n b => n * 256 + b.toNat) 0
def pdd (b : Bs) : Bs := b ++ zr ((64 - b.length % 64) % 64)
theorem pdd_len (b : Bs) : (pdd b).length = 64 * ((b.length + 63) / 64) := by
  rw [pdd, List.length_append, zr_len]
  omega
def hf (g : Nat) : Bs := [76, 79, 71, 0] ++ ben g 4
theorem hf_len (g : Nat) : (hf g).length = 8 := by rw [hf, List.length_append, ben_len]; rfl
def hm (g : Nat) : Bs := mk (hf g)
def hd (g : Nat) : Bs := pdd (hf g ++ hm g)
theorem hd_len (g : Nat) : (hd g).length = 64 := by
  rw [hd, pdd_len, List.length_append, hf_len, hm, mk_len]
def rmk (a t : Bs) : Bs := mk (a ++ ben t.length 2 ++ t)
def rcd (a t : Bs) : Bs := pdd (ben t.length 2 ++ rmk a t ++ t)
def sn (t : Bs) : Nat := (18 + t.length + 63) / 64
theorem rcd_len (a t : Bs) : (rcd a t).length = 64 * sn t := by
  rw [rcd, pdd_len, List.length_append, List.length_append, ben_len, rmk, mk_len]
  rfl
theorem sn_pos (t : Bs) : 1 ≤ sn t := by unfold sn; omega
def gen (b : Bs) : Nat := if nm ((b.drop 4).take 4) ≤ 2147483647 ∧ (hd (nm ((b.drop 4).take 4))).isPrefixOf b = true then nm ((b.drop 4).take 4) else 0
theorem gen_le (b : Bs) : gen b ≤ 2147483647 := by
  unfold gen
  split
  · rename_i h
    exact h.1
  · exact Nat.zero_le _
def rof (b a : Bs) : Option Bs :=
  if b.length < 64 then none
  else if nm (b.take 2) < 1 ∨ 2000 < nm (b.take 2) ∨ b.length < 18 + nm (b.take 2) then none
  else if (rcd a ((b.drop 18).take (nm (b.take 2)))).isPrefixOf b = true then some ((b.drop 18).take (nm (b.take 2))) else none
theorem rof_le {b a t : Bs} (h : rof b a = some t) : 64 * sn t ≤ b.length ∧ 1 ≤ t.length ∧ t.length ≤ 2000 := by
  unfold rof at h
  split at h
  · cases h
  · split at h
    · cases h
    · split at h
      · rename_i h1 h2 h3
        injection h with h
        obtain ⟨r, hr⟩ := List.isPrefixOf_iff_prefix.1 h3
        have hl := congrArg List.length hr
        rw [List.length_append, rcd_len, h] at hl
        refine ⟨by omega, ?_⟩
        rw [← h, List.length_take, List.length_drop]
        omega
      · cases h
def scan : Nat → Bs → Bs → List Bs
  | 0, _, _ => []
  | m + 1, b, a => match rof b a with
    | none => []
    | some t => t :: scan m (b.drop (64 * sn t)) (rmk a t)
def tkn : Nat → List Bs → Nat
  | k, [] => k
  | k, t :: l => tkn (k + sn t) l
def mks : Bs → List Bs → Bs
  | a, [] => a
  | a, t :: l => mks (rmk a t) l
theorem tkn_app : ∀ (l : List Bs) (k : Nat) (t : Bs), tkn k (l ++ [t]) = tkn k l + sn t
  | [], _, _ => rfl
  | x :: l, k, t => by rw [List.cons_append, tkn, tkn_app l, tkn]
theorem mks_app : ∀ (l : List Bs) (a : Bs) (t : Bs), mks a (l ++ [t]) = rmk (mks a l) t
  | [], _, _ => rfl
  | x :: l, a, t => by rw [List.cons_append, mks, mks_app l, mks]
theorem tkn_ge : ∀ (l : List Bs) (k : Nat), k ≤ tkn k l
  | [], _ => Nat.le_refl _
  | _ :: l, _ => Nat.le_trans (Nat.le_add_right _ _) (tkn_ge l _)
theorem mks_len : ∀ (l : List Bs) (a : Bs), a.length = 16 → (mks a l).length = 16
  | [], _, h => h
  | _ :: l, _, _ => mks_len l _ (mk_len _)
def thn (x : Int × St) (k : St → Int × St) : Int × St := if x.1 = 0 then k x.2 else x
theorem thn_ok {x : Int × St} {k : St → Int × St} (h : x.1 = 0) : thn x k = k x.2 := if_pos h
theorem thn_no {x : Int × St} {k : St → Int × St} (h : x.1 ≠ 0) : thn x k = x := if_neg h
def chs : Nat → Bs → List Bs
  | 0, _ => []
  | m + 1, b => b.take 64 :: chs m (b.drop 64)
theorem chs_len : ∀ (m : Nat) (b : Bs), (chs m b).length = m
  | 0, _ => rfl
  | m + 1, b => by rw [chs, List.length_cons, chs_len m]
theorem chs_64 : ∀ (m : Nat) (b : Bs), b.length = 64 * m → ∀ x ∈ chs m b, x.length = 64
  | 0, _, _, x, hx => by cases hx
  | m + 1, b, h, x, hx => by
    rcases List.mem_cons.1 hx with rfl | hx
    · rw [List.length_take]
      omega
    · exact chs_64 m (b.drop 64) (by rw [List.length_drop]; omega) x hx
def wrs : St → Nat → List Bs → Int × St
  | s, _, [] => (0, s)
  | s, k, b :: l => thn (wrE s k b, wrS s k b) fun s' => wrs s' (k + 1) l
def wrb (s : St) (k : Nat) (b : Bs) : Int × St := wrs s k (chs (b.length / 64) b)
def cls : St → Nat → Nat → Bool → Int × St
  | s, _, 0, d => if d = true then (syE s, syS s) else (0, s)
  | s, k, m + 1, d => if s.sh k = zr 64 then cls s (k + 1) m d else thn (wrE s k (zr 64), wrS s k (zr 64)) fun s' => cls s' (k + 1) m true
def cln (s : St) (k m : Nat) : Int × St := if s.down = true then (150, s) else cls s k m false
def pts : St → Nat → Nat → Bs → List Bs → Int × St
  | s, _, _, _, [] => (0, s)
  | s, k, tk, a, t :: l => thn (wrb s (k + tk) (rcd a t)) fun s' => pts s' k (tk + sn t) (rmk a t) l
def bgn (s : St) (k H g : Nat) (ts : List Bs) : Int × St :=
  thn (cln s k H) fun s1 => thn (pts s1 k 1 (hm g) ts) fun s2 => thn (syE s2, syS s2) fun s3 => thn (wrb s3 k (hd g)) fun s4 => (syE s4, syS s4)
def hb (s : St) (k H : Nat) : Bs := (List.range H).flatMap fun i => s.sh (k + i)
theorem hb_succ (s : St) (k H : Nat) : hb s k (H + 1) = hb s k H ++ s.sh (k + H) := by
  simp [hb, List.range_succ]
theorem hb_len {s : St} (h : Ok s) (k H : Nat) : (hb s k H).length = 64 * H := by
  induction H with
  | zero => rfl
  | succ n ih =>
    rw [hb_succ, List.length_append, ih, h.sh64]
    omega
structure Lo where
  h : Nat
  g : Nat
  ts : List Bs
def Lo.tk (x : Lo) : Nat := tkn 1 x.ts
def Lo.mr (x : Lo) : Bs := mks (hm x.g) x.ts
def use (s : St) : Nat × Nat := if gen (hb s 0 (s.n / 2)) < gen (hb s (s.n / 2) (s.n / 2)) then (1, gen (hb s (s.n / 2) (s.n / 2))) else (0, gen (hb s 0 (s.n / 2)))
def recs (s : St) (k H g : Nat) : List Bs := scan H ((hb s k H).drop 64) (hm g)
def opn (s : St) : (Int × St) × Lo :=
  if s.n / 2 < 2 then ((4, s), ⟨0, 0, []⟩)
  else if s.down = true then ((150, s), ⟨0, 0, []⟩)
  else if (use s).2 = 0 then (bgn s 0 (s.n / 2) 1 [], ⟨0, 1, []⟩)
  else
    let ts := recs s ((use s).1 * (s.n / 2)) (s.n / 2) (use s).2
    (cln s ((use s).1 * (s.n / 2) + tkn 1 ts) (s.n / 2 - tkn 1 ts), ⟨(use s).1, (use s).2, ts⟩)
def may (t : Bs) : Int := if t.length < 1 then 1 else if 2000 < t.length then 2 else 0
def app (s : St) (x : Lo) (t : Bs) : (Int × St) × Lo :=
  if may t ≠ 0 then ((may t, s), x)
  else if s.n / 2 < x.tk + sn t then ((151, s), x)
  else
    let y := wrb s (x.h * (s.n / 2) + x.tk) (rcd x.mr t)
    (y, if y.1 = 0 then { x with ts := x.ts ++ [t] } else x)
def mays : List Bs → Int
  | [] => 0
  | t :: l => if may t ≠ 0 then may t else mays l
def sns : List Bs → Nat
  | [] => 0
  | t :: l => sn t + sns l
def cmp (s : St) (x : Lo) (ts : List Bs) : (Int × St) × Lo :=
  if mays ts ≠ 0 then ((mays ts, s), x)
  else if s.n / 2 - 1 < sns ts then ((151, s), x)
  else if 2147483647 ≤ x.g then ((2, s), x)
  else
    let y := bgn s ((1 - x.h) * (s.n / 2)) (s.n / 2) (x.g + 1) ts
    (y, if y.1 = 0 then ⟨1 - x.h, x.g + 1, ts⟩ else x)
theorem use_le (s : St) : (use s).2 ≤ 2147483647 := by
  unfold use
  split
  · exact gen_le _
  · exact gen_le _
theorem opn_le (s : St) : (opn s).2.g ≤ 2147483647 := by
  unfold opn
  split
  · exact Nat.zero_le _
  · split
    · exact Nat.zero_le _
    · split
      · show (1 : Nat) ≤ _
        decide
      · exact use_le s
theorem scan_fits : ∀ (m : Nat) (b a : Bs) (k : Nat), b.length = 64 * m → tkn k (scan m b a) ≤ k + m ∧ ∀ t ∈ scan m b a, 1 ≤ t.length ∧ t.length ≤ 2000
  | 0, _, _, k, _ => ⟨Nat.le_refl _, fun _ h => by cases h⟩
  | m + 1, b, a, k, hb => by
    rw [scan]
    split
    · exact ⟨Nat.le_add_right _ _, fun _ h => by cases h⟩
    · rename_i t ht
      have hl := rof_le ht
      have hp := sn_pos t
      refine ⟨?_, fun x hx => ?_⟩
      · rw [tkn]
        obtain ⟨d, hd⟩ : ∃ d, m = d + (sn t - 1) := ⟨m - (sn t - 1), by omega⟩
        have := scan_le m d (b.drop (64 * sn t)) (rmk a t) (k + sn t) (by rw [List.length_drop]; omega)
        omega
      · rcases List.mem_cons.1 hx with rfl | hx
        · exact hl.2
        · exact scan_ok m _ _ x hx
  where
  scan_ok : ∀ (m : Nat) (b a : Bs), ∀ t ∈ scan m b a, 1 ≤ t.length ∧ t.length ≤ 2000
    | 0, _, _, _, h => by cases h
    | m + 1, b, a, x, hx => by
      rw [scan] at hx
      split at hx
      · cases hx
      · rename_i t ht
        rcases List.mem_cons.1 hx with rfl | hx
        · exact (rof_le ht).2
        · exact scan_ok m _ _ x hx
  scan_le : ∀ (m d : Nat) (b a : Bs) (k : Nat), b.length = 64 * d → tkn k (scan m b a) ≤ k + d
    | 0, _, _, _, _, _ => Nat.le_add_right _ _
    | m + 1, d, b, a, k, hb => by
      rw [scan]
      split
      · exact Nat.le_add_right _ _
      · rename_i t ht
        have hl := rof_le ht
        rw [tkn]
        have := scan_le m (d - sn t) (b.drop (64 * sn t)) (rmk a t) (k + sn t) (by rw [List.length_drop]; omega)
        omega
end Go.Proofs.Lg
