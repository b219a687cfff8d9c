/- Parts: WM, WM2, WRp, RP, WX, WR1, WE, WQ1, WQ3, WQ4. -/
import Derived.Test.YtgnkkjknngblbaaGreatDoorZpG11
import Derived.Test.YtgnkkjknngblbaaGreatDoorZpG21
import Derived.Test.YtgnkkjknngblbaaGreatDoorZpG23
import Derived.Test.YtgnkkjknngblbaaGreatDoorZpG01
import Derived.Shelf.Strings.Repeat
import Derived.Test.YtgnkkjknngblbaaGreatDoorZpG20
import Derived.Test.YtgnkkjknngblbaaGreatDoorZpG14
namespace Go.Proofs.Wd
open Go.Proofs.Hs Go.Proofs.Cc
def lab : List UInt8 := [119, 105, 100, 101]
def wkey (key : List UInt8) (i : Nat) : List UInt8 := ((drv key lab 128).drop (32 * i)).take 32
theorem wkey_len (key : List UInt8) (i : Nat) (h : i < 4) : (wkey key i).length = 32 := by
  unfold wkey drv
  rw [List.length_take, List.length_drop, xpn_len]; omega
def z12 : List UInt8 := List.replicate 12 0
def stR (k l r : List UInt8) : List UInt8 := xorl r (strm (xorl l k) z12 0 r.length)
def stL (k l r : List UInt8) : List UInt8 := xorl l (hmac k r)
theorem stR_len (k l r : List UInt8) : (stR k l r).length = r.length := by
  unfold stR; exact xorl_len _ _ (by rw [strm_len]; exact Nat.le_refl _)
theorem stL_len (k l r : List UInt8) (h : l.length = 32) : (stL k l r).length = 32 := by
  unfold stL; rw [xorl_len _ _ (by rw [hmac_len, h]; exact Nat.le_refl _), h]
theorem stR_twice (k l r : List UInt8) : stR k l (stR k l r) = r := by
  have e : (stR k l r).length = r.length := stR_len k l r
  unfold stR at *
  rw [e, xorl_twice _ _ (by rw [strm_len]; exact Nat.le_refl _)]
theorem stL_twice (k l r : List UInt8) (h : l.length = 32) : stL k (stL k l r) r = l := by
  unfold stL
  exact xorl_twice _ _ (by rw [hmac_len, h]; exact Nat.le_refl _)
def stp (key : List UInt8) (i : Nat) (p : List UInt8 × List UInt8) : List UInt8 × List UInt8 :=
  if i % 2 = 0 then (p.1, stR (wkey key i) p.1 p.2) else (stL (wkey key i) p.1 p.2, p.2)
theorem stp_even (key : List UInt8) (i : Nat) (l r : List UInt8) (h : i % 2 = 0) : stp key i (l, r) = (l, stR (wkey key i) l r) := by unfold stp; rw [if_pos h]
theorem stp_odd (key : List UInt8) (i : Nat) (l r : List UInt8) (h : ¬ i % 2 = 0) : stp key i (l, r) = (stL (wkey key i) l r, r) := by unfold stp; rw [if_neg h]
theorem stp_len (key : List UInt8) (i : Nat) (p : List UInt8 × List UInt8) (h : p.1.length = 32) : (stp key i p).1.length = 32 ∧ (stp key i p).2.length = p.2.length := by
  unfold stp
  split
  · exact ⟨h, stR_len _ _ _⟩
  · exact ⟨stL_len _ _ _ h, rfl⟩
theorem stp_twice (key : List UInt8) (i : Nat) (p : List UInt8 × List UInt8) (h : p.1.length = 32) : stp key i (stp key i p) = p := by
  obtain ⟨l, r⟩ := p
  by_cases hi : i % 2 = 0
  · rw [stp_even _ _ _ _ hi, stp_even _ _ _ _ hi, stR_twice]
  · rw [stp_odd _ _ _ _ hi, stp_odd _ _ _ _ hi, stL_twice _ _ _ h]
def run (key : List UInt8) (steps : List Nat) (p : List UInt8 × List UInt8) : List UInt8 × List UInt8 := steps.foldl (fun p i => stp key i p) p
theorem run_cons (key : List UInt8) (i : Nat) (steps : List Nat) (p : List UInt8 × List UInt8) : run key (i :: steps) p = run key steps (stp key i p) := rfl
theorem run_nil (key : List UInt8) (p : List UInt8 × List UInt8) : run key [] p = p := rfl
theorem run_snoc (key : List UInt8) (i : Nat) (steps : List Nat) (p : List UInt8 × List UInt8) : run key (steps ++ [i]) p = stp key i (run key steps p) := by
  unfold run; rw [List.foldl_append]; rfl
theorem run_len (key : List UInt8) (steps : List Nat) (p : List UInt8 × List UInt8) (h : p.1.length = 32) : (run key steps p).1.length = 32 ∧ (run key steps p).2.length = p.2.length := by
  induction steps generalizing p with
  | nil => exact ⟨h, rfl⟩
  | cons i s ih =>
    rw [run_cons]
    obtain ⟨h1, h2⟩ := stp_len key i p h
    obtain ⟨h3, h4⟩ := ih (stp key i p) h1
    exact ⟨h3, h4.trans h2⟩
theorem run_back (key : List UInt8) (steps : List Nat) (p : List UInt8 × List UInt8) (h : p.1.length = 32) : run key steps.reverse (run key steps p) = p := by
  induction steps generalizing p with
  | nil => rfl
  | cons i s ih =>
    rw [List.reverse_cons, run_cons, run_snoc, ih (stp key i p) (stp_len key i p h).1, stp_twice key i p h]
def trnd (key : List UInt8) (steps : List Nat) (b : List UInt8) : List UInt8 := (run key steps (b.take 32, b.drop 32)).1 ++ (run key steps (b.take 32, b.drop 32)).2
theorem trnd_len (key : List UInt8) (steps : List Nat) (b : List UInt8) (h : 32 ≤ b.length) : (trnd key steps b).length = b.length := by
  obtain ⟨h1, h2⟩ := run_len key steps (b.take 32, b.drop 32) (by rw [List.length_take]; omega)
  unfold trnd
  rw [List.length_append, h1, h2]
  show 32 + (b.drop 32).length = _
  rw [List.length_drop]; omega
theorem trnd_back (key : List UInt8) (steps : List Nat) (b : List UInt8) (h : 32 ≤ b.length) : trnd key steps.reverse (trnd key steps b) = b := by
  have hl : (b.take 32, b.drop 32).1.length = 32 := by rw [List.length_take]; omega
  obtain ⟨h1, h2⟩ := run_len key steps (b.take 32, b.drop 32) hl
  have e1 : (trnd key steps b).take 32 = (run key steps (b.take 32, b.drop 32)).1 := by
    unfold trnd; rw [List.take_append_of_le_length (by omega), List.take_of_length_le (by omega)]
  have e2 : (trnd key steps b).drop 32 = (run key steps (b.take 32, b.drop 32)).2 := by
    unfold trnd; rw [List.drop_append_of_le_length (by omega), List.drop_of_length_le (by omega), List.nil_append]
  have e3 : trnd key steps.reverse (trnd key steps b) = (run key steps.reverse ((trnd key steps b).take 32, (trnd key steps b).drop 32)).1 ++ (run key steps.reverse ((trnd key steps b).take 32, (trnd key steps b).drop 32)).2 := rfl
  rw [e3, e1, e2]
  have e4 : ((run key steps (b.take 32, b.drop 32)).1, (run key steps (b.take 32, b.drop 32)).2) = run key steps (b.take 32, b.drop 32) := rfl
  rw [e4, run_back key steps _ hl]
  exact List.take_append_drop 32 b
def shutl (key b : List UInt8) : List UInt8 := trnd key [0, 1, 2, 3] b
def openl (key b : List UInt8) : List UInt8 := trnd key [3, 2, 1, 0] b
theorem shutl_len (key b : List UInt8) (h : 32 ≤ b.length) : (shutl key b).length = b.length := trnd_len _ _ _ h
theorem openl_len (key b : List UInt8) (h : 32 ≤ b.length) : (openl key b).length = b.length := trnd_len _ _ _ h
theorem open_shut (key b : List UInt8) (h : 32 ≤ b.length) : openl key (shutl key b) = b := trnd_back key [0, 1, 2, 3] b h
theorem shut_open (key b : List UInt8) (h : 32 ≤ b.length) : shutl key (openl key b) = b := trnd_back key [3, 2, 1, 0] b h
def plainl (t : List UInt8) (n : Nat) : List UInt8 := List.replicate 32 0 ++ [UInt8.ofNat (t.length / 256), UInt8.ofNat t.length] ++ t ++ List.replicate (n - 34 - t.length) 0
theorem plainl_len (t : List UInt8) (n : Nat) (h : t.length + 34 ≤ n) : (plainl t n).length = n := by
  unfold plainl; simp; omega
def told (b : List UInt8) : Nat := (b.getD 32 0).toNat * 256 + (b.getD 33 0).toNat
def textl (b : List UInt8) : Option (List UInt8) :=
  if (b.take 32).all (· == 0) = true ∧ told b + 34 ≤ b.length ∧ (b.drop (34 + told b)).all (· == 0) = true then some ((b.drop 34).take (told b)) else none
theorem text_plain (t : List UInt8) (n : Nat) (h : t.length + 34 ≤ n) (hn : n ≤ 65536) : textl (plainl t n) = some t := by
  have ht : told (plainl t n) = t.length := by
    have e : plainl t n = List.replicate 32 0 ++ (UInt8.ofNat (t.length / 256) :: UInt8.ofNat t.length :: (t ++ List.replicate (n - 34 - t.length) 0)) := by unfold plainl; simp
    rw [e]
    show (UInt8.ofNat (t.length / 256)).toNat * 256 + (UInt8.ofNat t.length).toNat = _
    rw [UInt8.toNat_ofNat', UInt8.toNat_ofNat']
    omega
  have e1 : (plainl t n).take 32 = List.replicate 32 0 := by
    unfold plainl
    rw [List.append_assoc, List.append_assoc, List.take_append_of_le_length (by simp), List.take_of_length_le (by simp)]
  have e2 : (plainl t n).drop 34 = t ++ List.replicate (n - 34 - t.length) 0 := by
    unfold plainl
    rw [List.append_assoc, List.drop_append_of_le_length (by simp), List.drop_of_length_le (by simp), List.nil_append]
  have e3 : (plainl t n).drop (34 + t.length) = List.replicate (n - 34 - t.length) 0 := by
    rw [← List.drop_drop, e2, List.drop_append_of_le_length (Nat.le_refl _), List.drop_length, List.nil_append]
  unfold textl
  rw [ht, e1, e2, e3, plainl_len t n h, if_pos ⟨by simp, by omega, by simp⟩, List.take_append_of_le_length (Nat.le_refl _), List.take_length]
end Go.Proofs.Wd
namespace Go.Proofs.Wd
def pln (t : List UInt8) (n q : Nat) : List UInt8 := List.replicate 32 0 ++ [UInt8.ofNat (t.length / 256), UInt8.ofNat t.length] ++ t.take q ++ List.replicate (n - 34 - q) 0
theorem pln_len (t : List UInt8) (n q : Nat) (h : q ≤ t.length) (hn : t.length + 34 ≤ n) : (pln t n q).length = n := by unfold pln; simp; omega
theorem pln_zero (t : List UInt8) (n : Nat) (hn : 34 ≤ n) : ((List.replicate n (0 : UInt8)).set 32 (UInt8.ofNat (t.length / 256))).set 33 (UInt8.ofNat t.length) = pln t n 0 := by
  obtain ⟨m, rfl⟩ : ∃ m, n = 32 + (m + 2) := ⟨n - 34, by omega⟩
  have e : List.replicate (32 + (m + 2)) (0 : UInt8) = List.replicate 32 0 ++ (0 :: 0 :: List.replicate m 0) := by
    rw [← List.replicate_append_replicate]; rfl
  unfold pln
  rw [e, show 32 + (m + 2) - 34 - 0 = m by omega, List.take_zero, List.append_nil, List.append_assoc]
  rw [List.set_append_right _ _ (by simp), List.set_append_right _ _ (by simp)]
  simp
theorem all_zero (l : List UInt8) : l.all (· == 0) = true ↔ ∀ j, j < l.length → l.getD j 0 = 0 := by
  rw [List.all_eq_true]
  constructor
  · intro h j hj
    rw [List.getD_eq_getElem?_getD, List.getElem?_eq_getElem hj]
    simpa using h l[j] (List.getElem_mem hj)
  · intro h x hx
    obtain ⟨j, hj, rfl⟩ := List.mem_iff_getElem.1 hx
    have := h j hj
    rw [List.getD_eq_getElem?_getD, List.getElem?_eq_getElem hj] at this
    simpa using this
end Go.Proofs.Wd
namespace Go.Proofs.YtgnkkjknngblbaaGreatDoor
open Go.RowKit Go.Proofs.Fd Go.Proofs.Hs Go.Proofs.Cc Go.Proofs.Wd
set_option maxRecDepth 20000
theorem ba_sz (l : List UInt8) : (⟨l.toArray⟩ : ByteArray).size = l.length := by show l.toArray.size = _; simp
theorem ba_cut (l : List UInt8) (a b : Nat) : ((⟨l.toArray⟩ : ByteArray).extract a b).data.toList = (l.drop a).take (b - a) := by
  rw [ByteArray.data_extract, Array.toList_extract, List.extract_eq_take_drop]
theorem ba_of {s : ByteArray} {l : List UInt8} (h : s.data.toList = l) : s = ⟨l.toArray⟩ := by cases s; subst h; simp
theorem list_sz (s : ByteArray) : s.data.toList.length = s.size := by simp
end Go.Proofs.YtgnkkjknngblbaaGreatDoor
namespace Go.Proofs.YtgnkkjknngblbaaGreatDoor
open Go.RowKit Go.Proofs.Fd
set_option maxRecDepth 20000
def repAt : Go.Shelf.Ren := ⟨fun x => if x = 99 then 111 else if x = 105 then 81 else if x = 165 then 112 else if x = 166 then 113 else if x = 169 then 115 else if x = 170 then 114 else if x = 206 then 140 else if x = 212 then 110 else if x = 240 then 141 else if x = 241 then 142 else if x = 263 then 138 else if x = 264 then 139 else if x = 276 then 164 else if x = 277 then 165 else 0, fun x => if x = 0 then 0 else if x = 3 then 3 else if x = 4 then 4 else if x = 5 then 5 else if x = 9 then 9 else if x = 20 then 20 else if x = 37 then 43 else if x = 46 then 110 else if x = 51 then 123 else if x = 53 then 42 else if x = 70 then 131 else if x = 72 then 133 else if x = 75 then 136 else if x = 76 then 137 else if x = 80 then 100 else if x = 109 then 129 else if x = 127 then 173 else if x = 146 then 169 else if x = 148 then 171 else if x = 164 then 187 else 0, fun n => n⟩
theorem repLies : Lays.n105 Tryz.prog repAt :=
  { mixed := by kernel_rfl, f99 := by kernel_rfl, f105 := by kernel_rfl, f165 := by kernel_rfl, f166 := by kernel_rfl, f169 := by kernel_rfl, f170 := by kernel_rfl, f206 := by kernel_rfl, f212 := by kernel_rfl, f240 := by kernel_rfl, f241 := by kernel_rfl, f263 := by kernel_rfl, f264 := by kernel_rfl, f276 := by kernel_rfl, f277 := by kernel_rfl, t0 := by kernel_rfl, a0 := fun _ => by kernel_rfl, z0 := fun _ => by kernel_rfl, v0 := fun _ => by kernel_rfl, t3 := by kernel_rfl, a3 := fun _ => by kernel_rfl, z3 := fun _ => by kernel_rfl, v3 := fun _ => by kernel_rfl, t4 := by kernel_rfl, a4 := fun _ => by kernel_rfl, z4 := fun _ => by kernel_rfl, v4 := fun _ => by kernel_rfl, t5 := by kernel_rfl, a5 := fun _ => by kernel_rfl, z5 := fun _ => by kernel_rfl, v5 := fun _ => by kernel_rfl, t9 := by kernel_rfl, a9 := fun _ => by kernel_rfl, z9 := fun _ => by kernel_rfl, v9 := fun _ => by kernel_rfl, t20 := by kernel_rfl, a20 := fun _ => by kernel_rfl, z20 := fun _ => by kernel_rfl, v20 := fun _ => by kernel_rfl, t37 := by kernel_rfl, a37 := fun _ => by kernel_rfl, z37 := fun _ => by kernel_rfl, v37 := fun _ => by kernel_rfl, t46 := by kernel_rfl, a46 := fun _ => by kernel_rfl, z46 := fun _ => by kernel_rfl, v46 := fun _ => by kernel_rfl, t51 := by kernel_rfl, a51 := fun _ => by kernel_rfl, z51 := fun _ => by kernel_rfl, v51 := fun _ => by kernel_rfl, t53 := by kernel_rfl, a53 := fun _ => by kernel_rfl, z53 := fun _ => by kernel_rfl, v53 := fun _ => by kernel_rfl, t70 := by kernel_rfl, a70 := fun _ => by kernel_rfl, z70 := fun _ => by kernel_rfl, v70 := fun _ => by kernel_rfl, t72 := by kernel_rfl, a72 := fun _ => by kernel_rfl, z72 := fun _ => by kernel_rfl, v72 := fun _ => by kernel_rfl, t75 := by kernel_rfl, a75 := fun _ => by kernel_rfl, z75 := fun _ => by kernel_rfl, v75 := fun _ => by kernel_rfl, t76 := by kernel_rfl, a76 := fun _ => by kernel_rfl, z76 := fun _ => by kernel_rfl, v76 := fun _ => by kernel_rfl, t109 := by kernel_rfl, a109 := fun _ => by kernel_rfl, z109 := fun _ => by kernel_rfl, v109 := fun _ => by kernel_rfl, t127 := by kernel_rfl, a127 := fun _ => by kernel_rfl, z127 := fun _ => by kernel_rfl, v127 := fun _ => by kernel_rfl, t146 := by kernel_rfl, a146 := fun _ => by kernel_rfl, z146 := fun _ => by kernel_rfl, v146 := fun _ => by kernel_rfl, t148 := by kernel_rfl, a148 := fun _ => by kernel_rfl, z148 := fun _ => by kernel_rfl, v148 := fun _ => by kernel_rfl, t164 := by kernel_rfl, a164 := fun _ => by kernel_rfl, z164 := fun _ => by kernel_rfl, v164 := fun _ => by kernel_rfl }
theorem repMore : Builder.Extra Tryz.prog repAt :=
  { sizeBuilder := by kernel_rfl, liesBuilder := by kernel_rfl, t5 := by kernel_rfl, a5 := fun _ => by kernel_rfl, z5 := fun _ => by kernel_rfl, v5 := fun _ => by kernel_rfl, infoByte := by kernel_rfl, cellsByte := by kernel_rfl, sizeByte := by kernel_rfl, neB5 := by decide }
theorem rep12 (w : World) :
    Calls Tryz.prog 81 #[.string ⟨#[0]⟩, .int .i64 12] w fun e w' => e = .returned (.string ⟨#[0, 0, 0, 0, 0, 0, 0, 0, 0, 0, 0, 0]⟩) ∧ Below w.heap.size w w' :=
  Any.strings_Repeat_main repLies repMore ⟨#[0]⟩ 12 w (by decide) (by decide) (by decide) (by decide)
end Go.Proofs.YtgnkkjknngblbaaGreatDoor
namespace Go.Proofs.Wd
open Go.Proofs.Hs Go.Proofs.Cc
end Go.Proofs.Wd
namespace Go.Proofs.YtgnkkjknngblbaaGreatDoor
open Go.RowKit Go.Proofs.Fd Go.Proofs.Hs Go.Proofs.Cc Go.Proofs.Wd
set_option maxRecDepth 20000
def wmay (n : Int) : Int := if n < 64 then 3 else if 8192 < n then 2 else 0
theorem wmay_form (n : Int) (h : n < 64) : wmay n = 3 := if_pos h
theorem wmay_long (n : Int) (h : 8192 < n) : wmay n = 2 := by unfold wmay; rw [if_neg (by omega), if_pos h]
theorem wmay_ok (n : Int) (h1 : 64 ≤ n) (h2 : n ≤ 8192) : wmay n = 0 := by unfold wmay; rw [if_neg (by omega), if_neg (by omega)]
theorem wmay_zero (n : Int) (h : wmay n = 0) : 64 ≤ n ∧ n ≤ 8192 := by
  unfold wmay at h
  split at h
  · exact absurd h (by decide)
  · split at h
    · exact absurd h (by decide)
    · omega
end Go.Proofs.YtgnkkjknngblbaaGreatDoor
namespace Go.Proofs.YtgnkkjknngblbaaGreatDoor
open Go.RowKit Go.Proofs.Fd Go.Proofs.Hs Go.Proofs.Cc Go.Proofs.Wd
set_option maxRecDepth 20000
def shV (k b : ByteArray) : Array Value := if wmay (b.size : Int) = 0 then #[.string ⟨(shutl k.data.toList b.data.toList).toArray⟩, .int .i64 0] else #[.string ⟨#[]⟩, .int .i64 (wmay (b.size : Int))]
def opV (k b : ByteArray) : Array Value := if wmay (b.size : Int) = 0 then #[.string ⟨(openl k.data.toList b.data.toList).toArray⟩, .int .i64 0] else #[.string ⟨#[]⟩, .int .i64 (wmay (b.size : Int))]
def wrV (k t : ByteArray) (n : Int) : Array Value :=
  if wmay n = 0 then (if n - 34 < (t.size : Int) then #[.string ⟨#[]⟩, .int .i64 2] else #[.string ⟨(shutl k.data.toList (plainl t.data.toList n.toNat)).toArray⟩, .int .i64 0]) else #[.string ⟨#[]⟩, .int .i64 (wmay n)]
def uwV (k b : ByteArray) : Array Value :=
  if wmay (b.size : Int) = 0 then (match textl (openl k.data.toList b.data.toList) with
    | some t => #[.string ⟨t.toArray⟩, .int .i64 0]
    | none => #[.string ⟨#[]⟩, .int .i64 90]) else #[.string ⟨#[]⟩, .int .i64 (wmay (b.size : Int))]
theorem shV_ok (k b : ByteArray) (h0 : 64 ≤ b.size) (h1 : b.size ≤ 8192) : shV k b = #[.string ⟨(shutl k.data.toList b.data.toList).toArray⟩, .int .i64 0] := by unfold shV; rw [if_pos (wmay_ok _ (by omega) (by omega))]
theorem opV_ok (k b : ByteArray) (h0 : 64 ≤ b.size) (h1 : b.size ≤ 8192) : opV k b = #[.string ⟨(openl k.data.toList b.data.toList).toArray⟩, .int .i64 0] := by unfold opV; rw [if_pos (wmay_ok _ (by omega) (by omega))]
theorem shV_no (k b : ByteArray) (h : wmay (b.size : Int) ≠ 0) : shV k b = #[.string ⟨#[]⟩, .int .i64 (wmay (b.size : Int))] := by unfold shV; rw [if_neg h]
theorem opV_no (k b : ByteArray) (h : wmay (b.size : Int) ≠ 0) : opV k b = #[.string ⟨#[]⟩, .int .i64 (wmay (b.size : Int))] := by unfold opV; rw [if_neg h]
theorem wrV_ok (k t : ByteArray) (n : Nat) (h0 : 64 ≤ n) (h1 : n ≤ 8192) (ht : t.size + 34 ≤ n) : wrV k t (n : Int) = #[.string ⟨(shutl k.data.toList (plainl t.data.toList n)).toArray⟩, .int .i64 0] := by
  unfold wrV; rw [if_pos (wmay_ok _ (by omega) (by omega)), if_neg (by omega), Int.toNat_natCast]
theorem uwV_some (k b : ByteArray) (t : List UInt8) (h0 : 64 ≤ b.size) (h1 : b.size ≤ 8192) (h : textl (openl k.data.toList b.data.toList) = some t) : uwV k b = #[.string ⟨t.toArray⟩, .int .i64 0] := by
  unfold uwV; rw [if_pos (wmay_ok _ (by omega) (by omega)), h]
theorem uwV_none (k b : ByteArray) (h0 : 64 ≤ b.size) (h1 : b.size ≤ 8192) (h : textl (openl k.data.toList b.data.toList) = none) : uwV k b = #[.string ⟨#[]⟩, .int .i64 90] := by
  unfold uwV; rw [if_pos (wmay_ok _ (by omega) (by omega)), h]
def ShutC : Prop := ∀ (k b : ByteArray) (w : World), Hid (k.size + 64 ≤ 140737488355328) → Hid (b.size ≤ 140737488355328) → Hid (Kh w) →
    Calls Tryz.prog 71 #[.string k, .string b] w fun e w' => e = .returned (.tuple (shV k b)) ∧ Below w.heap.size w w'
def OpenC : Prop := ∀ (k b : ByteArray) (w : World), Hid (k.size + 64 ≤ 140737488355328) → Hid (b.size ≤ 140737488355328) → Hid (Kh w) →
    Calls Tryz.prog 56 #[.string k, .string b] w fun e w' => e = .returned (.tuple (opV k b)) ∧ Below w.heap.size w w'
def WrapC : Prop := ∀ (k t : ByteArray) (n : Int) (w : World), Hid (k.size + 64 ≤ 140737488355328) → Hid (t.size ≤ 140737488355328) → Hid (Kh w) →
    Calls Tryz.prog 70 #[.string k, .string t, .int .i64 n] w fun e w' => e = .returned (.tuple (wrV k t n)) ∧ Below w.heap.size w w'
def UnwrapC : Prop := ∀ (k b : ByteArray) (w : World), Hid (k.size + 64 ≤ 140737488355328) → Hid (b.size ≤ 140737488355328) → Hid (Kh w) →
    Calls Tryz.prog 57 #[.string k, .string b] w fun e w' => e = .returned (.tuple (uwV k b)) ∧ Below w.heap.size w w'
end Go.Proofs.YtgnkkjknngblbaaGreatDoor
namespace Go.Proofs.YtgnkkjknngblbaaGreatDoor
open Go.RowKit Go.Proofs.Fd Go.Proofs.Hs Go.Proofs.Cc Go.Proofs.Wd
set_option maxRecDepth 20000
set_option maxHeartbeats 1000000 in
theorem xored_any (a b : ByteArray) (hs : a.size ≤ 140737488355328) (hab : a.size ≤ b.size) (w : World) :
    Calls Tryz.prog 152 #[.string a, .string b] w fun e w' => e = .returned (.string ⟨(xorl a.data.toList b.data.toList).toArray⟩) ∧ Below w.heap.size w w' := by
  obtain ⟨cap, A, CA, BA, bA, hcap, CB, sA⟩ := bytes_of2 a hs w
  have IA : Hid (BytesAt A w.heap.size (mixd a.data.toList b.data.toList 0) ∧ Below w.heap.size w A) := by
    rw [mixd_zero]; exact ⟨BA, bA⟩
  have HL : Hid (a.data.toList.length ≤ b.data.toList.length ∧ a.data.toList.length = a.size) := ⟨by simpa using hab, by simp⟩
  clear BA bA sA
  go_enter Tryz.func152, Tryz.ntmps152
  go_wp2
  obtain ⟨g, hg⟩ : ∃ g, w.heap.size = g := ⟨_, rfl⟩
  rw [hg] at IA CA ⊢
  have HG : Hid (w.heap.size = g) := hg
  clear hg
  go_loopw [11] (fun iv wr => ∃ q : Nat, q ≤ a.size ∧ iv = .int .i64 (q : Int) ∧ Hid (BytesAt wr g (mixd a.data.toList b.data.toList q) ∧ Below g w wr)) (fun iv _ => a.size - (intOf iv).toNat)
  case atStart => exact ⟨0, Nat.zero_le _, rfl, IA.out⟩
  case round =>
    obtain ⟨q, hq, rfl, I⟩ := hrel
    clear IA CA
    by_cases hlt : q < a.size
    · have g1 : (q : Int) < (a.size : Int) := by omega
      have g2 : (q : Int) < (b.size : Int) := by omega
      have g3 : q < b.size := by omega
      have g4 : q < cap := by omega
      have oT : q < a.data.toList.length := by rw [HL.out.2]; exact hlt
      have lT := mixd_len a.data.toList b.data.toList q HL.out.1 (by omega)
      obtain ⟨cx, fx⟩ := I.out.1 q (by rw [lT]; exact oT)
      have ex : (mixd a.data.toList b.data.toList q)[q]'(by rw [lT]; exact oT) = a.data.toList[q] := by
        have := mixd_get a.data.toList b.data.toList q HL.out.1 oT
        rw [List.getElem?_eq_getElem (by rw [lT]; exact oT)] at this
        exact Option.some.inj this
      rw [ex] at cx
      have MS : Hid (_ = _) := mixd_succ a.data.toList b.data.toList q HL.out.1 oT b[q] (by rw [List.getElem?_eq_getElem (by simpa using g3)]; rfl)
      clear ex
      generalize a.data.toList[q] = x at *
      obtain ⟨y, hy⟩ : ∃ y, b[q] = y := ⟨_, rfl⟩
      rw [hy] at MS
      clear lT oT
      have XY := sxor8 x y
      have NX : Hid (BytesAt ((wr.setCell ⟨g, q, none⟩ (.int .u8 ((x.toNat ^^^ y.toNat : Nat) : Int))).drew) g (mixd a.data.toList b.data.toList (q + 1)) ∧ Below g w ((wr.setCell ⟨g, q, none⟩ (.int .u8 ((x.toNat ^^^ y.toNat : Nat) : Int))).drew)) := by
        obtain ⟨h2, h4⟩ := I.out
        rw [← MS.out]
        exact ⟨h2.set q (x ^^^ y) _ (by rw [UInt8.toNat_xor]), (h4.setCell (p := ⟨g, q, none⟩) (Nat.le_refl _) _).drew⟩
      clear MS I
      go_wp2
      go_region
      all_goals
        go_wp2
        go_roundw
        case rel => exact ⟨q + 1, by omega, by go_num, NX.out⟩
        case measure => simp [intOf]; omega
    · obtain rfl : q = a.size := by omega
      have g1 : ¬ (a.size : Int) < (a.size : Int) := by omega
      have CV : (convert 43 9 (.slice (some ⟨g, 0, none⟩) a.size cap)).run Tryz.prog wr = .ok (.string ⟨(xorl a.data.toList b.data.toList).toArray⟩) wr := by
        have h := I.out.1
        rw [← HL.out.2, mixd_all _ _ HL.out.1] at h
        exact h.string (by rw [xorl_len _ _ HL.out.1]; exact HL.out.2)
      have BF : Hid (Below g w wr) := I.out.2
      clear I
      obtain ⟨R, hR⟩ : ∃ R : ByteArray, ⟨(xorl a.data.toList b.data.toList).toArray⟩ = R := ⟨_, rfl⟩
      rw [hR] at CV
      have HR : Hid (_ = _) := hR
      clear hR
      go_wp2
      go_ret
      exact ⟨by rw [HR.out]; rfl, by have h := BF.out; rw [← HG.out] at h; exact h⟩
set_option maxHeartbeats 1000000 in
theorem blank_any (s : ByteArray) (hs : s.size ≤ 140737488355328) (w : World) :
    Calls Tryz.prog 92 #[.string s] w fun e w' => e = .returned (.bool (s.data.toList.all (· == 0))) ∧ w' = w := by
  have F : Hid (s.data.toList.all (· == 0) = decide (unl s.data.toList [] s.size = 0)) := by
    show _ = _
    have h1 : s.data.toList.length = s.size := by simp
    have h := all_zero s.data.toList
    rw [h1] at h
    have u := unl_zero s.data.toList [] s.size
    by_cases q : unl s.data.toList [] s.size = 0
    · rw [decide_eq_true q]
      exact h.2 fun j hj => by simpa using (u.1 q) j hj
    · rw [decide_eq_false q, Bool.eq_false_iff]
      exact fun z => q (u.2 fun j hj => by simpa using h.1 z j hj)
  rw [F.out]
  clear F
  go_enter Tryz.func92, Tryz.ntmps92
  go_wp2
  go_loopw [3, 7] (fun av iv wr => ∃ k : Nat, k ≤ s.size ∧ iv = .int .i64 (k : Int) ∧ av = .int .u8 ((unl s.data.toList [] k).toNat : Int) ∧ Hid (wr = w)) (fun _ iv _ => s.size - (intOf iv).toNat)
  case atStart => exact ⟨0, Nat.zero_le _, rfl, rfl, rfl⟩
  case round =>
    obtain ⟨k, hk, rfl, rfl, I⟩ := hrel
    by_cases hlt : k < s.size
    · have g1 : (k : Int) < (s.size : Int) := by omega
      have UN : Hid (unl s.data.toList [] (k + 1) = unl s.data.toList [] k ||| s[k]) := by
        show unl s.data.toList [] k ||| (s.data.toList.getD k 0 ^^^ ([] : List UInt8).getD k 0) = _
        rw [List.getD_eq_getElem?_getD, List.getElem?_eq_getElem (by simpa using hlt)]
        simp
        rfl
      generalize unl s.data.toList [] k = u at *
      obtain ⟨c, hc⟩ : ∃ c, s[k] = c := ⟨_, rfl⟩
      rw [hc] at UN
      have gk : (k : Int) < 140737488355328 := by omega
      go_wp2
      go_roundw
      case rel => exact ⟨k + 1, by omega, by go_num, by rw [UN.out, ← por8], I.out⟩
      case measure => simp [intOf]; omega
    · obtain rfl : k = s.size := by omega
      have g1 : ¬ (s.size : Int) < (s.size : Int) := by omega
      have E : Hid ((((unl s.data.toList [] s.size).toNat : Int) == 0) = decide (unl s.data.toList [] s.size = 0)) := by
        generalize unl s.data.toList [] s.size = u
        show _ = _
        by_cases q : u = 0
        · subst q; rfl
        · rw [decide_eq_false q, beq_eq_false_iff_ne]
          intro z
          exact q (UInt8.toNat_inj.1 (by simpa using z))
      go_wp2
      go_ret
      exact ⟨by rw [E.out]; rfl, I.out⟩
end Go.Proofs.YtgnkkjknngblbaaGreatDoor
namespace Go.Proofs.YtgnkkjknngblbaaGreatDoor
open Go.RowKit Go.Proofs.Fd Go.Proofs.Hs Go.Proofs.Cc Go.Proofs.Wd
set_option maxRecDepth 20000
def HAt (w : World) (g : Nat) (k0 k1 k2 k3 l r : ByteArray) : Prop :=
  (∀ o, w.frozen? ⟨g, o, none⟩ = false) ∧ w.cell? ⟨g, 0, none⟩ = some (.string k0) ∧ w.cell? ⟨g, 1, none⟩ = some (.string k1) ∧ w.cell? ⟨g, 2, none⟩ = some (.string k2) ∧ w.cell? ⟨g, 3, none⟩ = some (.string k3) ∧ w.cell? ⟨g, 4, none⟩ = some (.string l) ∧ w.cell? ⟨g, 5, none⟩ = some (.string r)
theorem HAt.later {w w' : World} {g : Nat} {k0 k1 k2 k3 l r : ByteArray} (h : HAt w g k0 k1 k2 k3 l r) (hb : Below w.heap.size w w') : HAt w' g k0 k1 k2 k3 l r := by
  obtain ⟨f, h0, h1, h2, h3, h4, h5⟩ := h
  exact ⟨fun o => (frozen_kept hb (World.block_lt_of_cell? _ _ h0)).trans (f o), cell_later hb h0, cell_later hb h1, cell_later hb h2, cell_later hb h3, cell_later hb h4, cell_later hb h5⟩
theorem HAt.setR {w : World} {g : Nat} {k0 k1 k2 k3 l r : ByteArray} (h : HAt w g k0 k1 k2 k3 l r) (x : ByteArray) : HAt (w.setCell ⟨g, 5, none⟩ (.string x)) g k0 k1 k2 k3 l x := by
  obtain ⟨f, h0, h1, h2, h3, h4, h5⟩ := h
  refine ⟨fun o => by simp [go_sem, f], ?_, ?_, ?_, ?_, ?_, ?_⟩ <;> simp [go_sem, h0, h1, h2, h3, h4, h5]
theorem HAt.setL {w : World} {g : Nat} {k0 k1 k2 k3 l r : ByteArray} (h : HAt w g k0 k1 k2 k3 l r) (x : ByteArray) : HAt (w.setCell ⟨g, 4, none⟩ (.string x)) g k0 k1 k2 k3 x r := by
  obtain ⟨f, h0, h1, h2, h3, h4, h5⟩ := h
  refine ⟨fun o => by simp [go_sem, f], ?_, ?_, ?_, ?_, ?_, ?_⟩ <;> simp [go_sem, h0, h1, h2, h3, h4, h5]
theorem HAt.drew {w : World} {g : Nat} {k0 k1 k2 k3 l r : ByteArray} (h : HAt w g k0 k1 k2 k3 l r) : HAt w.drew g k0 k1 k2 k3 l r := h
theorem HAt.lt {w : World} {g : Nat} {k0 k1 k2 k3 l r : ByteArray} (h : HAt w g k0 k1 k2 k3 l r) : g < w.heap.size := World.block_lt_of_cell? _ _ h.2.1
set_option maxHeartbeats 1000000 in
theorem turnRight_any (g : Nat) (k0 k1 k2 k3 L R k : ByteArray) (hk : Hid (k.size = 32)) (hL : Hid (L.size = 32)) (hR : Hid (R.size ≤ 8192)) (w : World) (hH : Hid (HAt w g k0 k1 k2 k3 L R)) :
    Calls Tryz.prog 121 #[.pointer (some ⟨g, 0, none⟩), .string k] w fun e w' => e = .returned (.tuple #[]) ∧ HAt w' g k0 k1 k2 k3 L ⟨(stR k.data.toList L.data.toList R.data.toList).toArray⟩ ∧ Below g w w' := by
  obtain ⟨X, hX⟩ : ∃ X : ByteArray, ⟨(xorl L.data.toList k.data.toList).toArray⟩ = X := ⟨_, rfl⟩
  have sX : X.size = 32 := by rw [← hX, ba_sz, xorl_len _ _ (by rw [list_sz, list_sz, hL.out, hk.out]; exact Nat.le_refl _), list_sz, hL.out]
  obtain ⟨Z, hZ⟩ : ∃ Z : ByteArray, ⟨#[0, 0, 0, 0, 0, 0, 0, 0, 0, 0, 0, 0]⟩ = Z := ⟨_, rfl⟩
  obtain ⟨Y, hY⟩ : ∃ Y : ByteArray, ⟨(stR k.data.toList L.data.toList R.data.toList).toArray⟩ = Y := ⟨_, rfl⟩
  have XO : Hid (∀ w, Calls Tryz.prog 152 #[.string L, .string k] w fun e w' => e = .returned (.string X) ∧ Below w.heap.size w w') := fun w => by
    rw [← hX]; exact xored_any L k (by rw [hL.out]; decide) (by rw [hL.out, hk.out]; exact Nat.le_refl _) w
  have RE : Hid (∀ w, Calls Tryz.prog 81 #[.string ⟨#[0]⟩, .int .i64 12] w fun e w' => e = .returned (.string Z) ∧ Below w.heap.size w w') := fun w => by
    rw [← hZ]; exact rep12 w
  have SX : Hid (∀ w, Calls Tryz.prog 80 #[.string X, .string Z, .int .i64 0, .string R] w fun e w' => e = .returned (.tuple #[.string Y, .int .i64 0]) ∧ Below w.heap.size w w') := fun w => by
    have h := sXor_ok X Z 0 R (by show X.size = 32; exact sX) (by rw [← hZ]; exact rfl) (by have := hR.out; omega) w
    have e : (⟨(xorl R.data.toList (strm X.data.toList Z.data.toList 0 R.size)).toArray⟩ : ByteArray) = Y := by
      rw [← hY, ← hX, ← hZ]
      unfold stR
      rw [list_sz]
      rfl
    rw [e] at h
    exact h
  rw [hY]
  clear hX hZ hY sX
  obtain ⟨fz, -, -, -, -, c4, c5⟩ := hH.out
  have f5 := fz 5
  go_enter Tryz.func121, Tryz.ntmps121
  go_wp2
  go_region_with (first | (go_at_call 152; refine Calls.mono (XO.out _) ?_; rintro e w1 ⟨rfl, hb1⟩; have H1 : Hid (HAt w1 g k0 k1 k2 k3 L R) := HAt.later (HAt.drew hH.out) hb1; have c51 := H1.out.2.2.2.2.2.2) | (go_at_call 81; refine Calls.mono (RE.out _) ?_; rintro e w2 ⟨rfl, hb2⟩; have H2 : Hid (HAt w2 g k0 k1 k2 k3 L R) := HAt.later H1.out hb2; have c52 := H2.out.2.2.2.2.2.2) | (go_at_call 80; refine Calls.mono (SX.out _) ?_; rintro e w3 ⟨rfl, hb3⟩; have H3 : Hid (HAt w3 g k0 k1 k2 k3 L R) := HAt.later H2.out hb3; have c53 := H3.out.2.2.2.2.2.2; have f53 := H3.out.1 5))
  all_goals
    exact bodyPost_end (results_none Tryz.results121 _ _ _) rfl ⟨rfl, H3.out.setR Y, ((chain (chain (chain (Below.refl _ _).drew hb1) hb2) hb3).mono (Nat.le_of_lt hH.out.lt)).setCell (p := ⟨g, 5, none⟩) (Nat.le_refl _) _⟩
end Go.Proofs.YtgnkkjknngblbaaGreatDoor
namespace Go.Proofs.YtgnkkjknngblbaaGreatDoor
open Go.RowKit Go.Proofs.Fd Go.Proofs.Hs Go.Proofs.Cc Go.Proofs.Wd
set_option maxRecDepth 20000
set_option maxHeartbeats 1000000 in
theorem turnLeft_any (g : Nat) (k0 k1 k2 k3 L R k : ByteArray) (hk : Hid (k.size = 32)) (hL : Hid (L.size = 32)) (hR : Hid (R.size ≤ 8192)) (w : World) (hH : Hid (HAt w g k0 k1 k2 k3 L R)) (hK : Hid (Kh w)) :
    Calls Tryz.prog 120 #[.pointer (some ⟨g, 0, none⟩), .string k] w fun e w' => e = .returned (.tuple #[]) ∧ HAt w' g k0 k1 k2 k3 ⟨(stL k.data.toList L.data.toList R.data.toList).toArray⟩ R ∧ Below g w w' := by
  obtain ⟨T, hT⟩ : ∃ T : ByteArray, ⟨(hmac k.data.toList R.data.toList).toArray⟩ = T := ⟨_, rfl⟩
  have sT : T.size = 32 := by rw [← hT, ba_sz, hmac_len]
  obtain ⟨Y, hY⟩ : ∃ Y : ByteArray, ⟨(stL k.data.toList L.data.toList R.data.toList).toArray⟩ = Y := ⟨_, rfl⟩
  have XO : Hid (∀ w, Calls Tryz.prog 152 #[.string L, .string T] w fun e w' => e = .returned (.string Y) ∧ Below w.heap.size w w') := fun w => by
    have h := xored_any L T (by rw [hL.out]; decide) (by rw [hL.out, sT]; exact Nat.le_refl _) w
    have e : (⟨(xorl L.data.toList T.data.toList).toArray⟩ : ByteArray) = Y := by rw [← hY, ← hT]; rfl
    rw [e] at h
    exact h
  have TG : Hid (∀ (B : Nat) (w : World), Kh w → w.cell? ⟨B, 0, none⟩ = some (.string R) → Calls Tryz.prog 79 #[.string k, .slice (some ⟨B, 0, none⟩) 1 1] w fun e w' => e = .returned (.string T) ∧ Below w.heap.size w w') := fun B w h h0 => by
    have q := tag_c k (some ⟨B, 0, none⟩) [R] 1 1 w rfl (by show (1 : Nat) * 16 + 1024 ≤ _; decide) (by rw [hk.out]; show (32 : Nat) ≤ _; decide) (fun s hs => by
      simp at hs
      subst hs
      have := hR.out; omega) h (strAt1 h0)
    rw [jnd_one, hT] at q
    exact q
  rw [hY]
  clear hT hY sT
  obtain ⟨fz, -, -, -, -, c4, c5⟩ := hH.out
  have gl := hH.out.lt
  have gn : ¬ g = w.heap.size := by omega
  have gn2 : ¬ w.heap.size = g := by omega
  go_enter Tryz.func120, Tryz.ntmps120
  go_wp2
  go_region_with (first | (go_at_call 79; refine Calls.mono (TG.out w.heap.size _ (Kh.later hK.out ((Below.refl _ _).drew.alloc (Nat.le_refl _) _)) ?_) ?_; (focus simp [go_sem]); rintro e w1 ⟨rfl, hb1⟩; have H1 : Hid (HAt w1 g k0 k1 k2 k3 L R) := HAt.later (HAt.later (HAt.drew hH.out) ((Below.refl _ _).alloc (Nat.le_refl _) _)) hb1; have c41 := H1.out.2.2.2.2.2.1) | (go_at_call 152; refine Calls.mono (XO.out _) ?_; rintro e w2 ⟨rfl, hb2⟩; have H2 : Hid (HAt w2 g k0 k1 k2 k3 L R) := HAt.later H1.out hb2; have c42 := H2.out.2.2.2.2.2.1; have f42 := H2.out.1 4))
  all_goals
    exact bodyPost_end (results_none Tryz.results120 _ _ _) rfl ⟨rfl, H2.out.setL Y, ((chain (chain ((Below.refl _ _).drew.alloc (Nat.le_refl _) _) hb1) hb2).mono (Nat.le_of_lt hH.out.lt)).setCell (p := ⟨g, 4, none⟩) (Nat.le_refl _) _⟩
end Go.Proofs.YtgnkkjknngblbaaGreatDoor
