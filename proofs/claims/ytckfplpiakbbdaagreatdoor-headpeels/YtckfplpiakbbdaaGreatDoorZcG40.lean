/- Parts: WM, WM2, WRp, WR1, RP. -/
import Derived.Test.YtckfplpiakbbdaaGreatDoorZcG17
import Derived.Test.YtckfplpiakbbdaaGreatDoorZcG28
import Derived.Test.YtckfplpiakbbdaaGreatDoorZcG30
import Derived.Test.YtckfplpiakbbdaaGreatDoorZcG27
import Derived.Test.YtckfplpiakbbdaaGreatDoorZcG01
import Derived.Shelf.Strings.Repeat
namespace Go.Proofs.Wd
open Go.Proofs.Hs Go.Proofs.Cc
def lab : List UInt8 := [119, 105, 100, 101]
def wkey (key : List UInt8) (i : Nat) : List UInt8 := ((drv key lab 128).drop (32 * i)).take 32
def z12 : List UInt8 := List.replicate 12 0
def stR (k l r : List UInt8) : List UInt8 := xorl r (strm (xorl l k) z12 0 r.length)
def stL (k l r : List UInt8) : List UInt8 := xorl l (hmac k r)
def stp (key : List UInt8) (i : Nat) (p : List UInt8 × List UInt8) : List UInt8 × List UInt8 :=
  if i % 2 = 0 then (p.1, stR (wkey key i) p.1 p.2) else (stL (wkey key i) p.1 p.2, p.2)
def run (key : List UInt8) (steps : List Nat) (p : List UInt8 × List UInt8) : List UInt8 × List UInt8 := steps.foldl (fun p i => stp key i p) p
def told (b : List UInt8) : Nat := (b.getD 32 0).toNat * 256 + (b.getD 33 0).toNat
end Go.Proofs.Wd
namespace Go.Proofs.Wd
end Go.Proofs.Wd
namespace Go.Proofs.YtckfplpiakbbdaaGreatDoor
open Go.RowKit Go.Proofs.Fd Go.Proofs.Hs Go.Proofs.Cc Go.Proofs.Wd
set_option maxRecDepth 20000
theorem ba_sz (l : List UInt8) : (⟨l.toArray⟩ : ByteArray).size = l.length := by show l.toArray.size = _; simp
theorem ba_cut (l : List UInt8) (a b : Nat) : ((⟨l.toArray⟩ : ByteArray).extract a b).data.toList = (l.drop a).take (b - a) := by
  rw [ByteArray.data_extract, Array.toList_extract, List.extract_eq_take_drop]
theorem ba_of {s : ByteArray} {l : List UInt8} (h : s.data.toList = l) : s = ⟨l.toArray⟩ := by cases s; subst h; simp
theorem list_sz (s : ByteArray) : s.data.toList.length = s.size := by simp
end Go.Proofs.YtckfplpiakbbdaaGreatDoor
namespace Go.Proofs.YtckfplpiakbbdaaGreatDoor
open Go.RowKit Go.Proofs.Fd Go.Proofs.Hs Go.Proofs.Cc Go.Proofs.Wd
set_option maxRecDepth 20000
set_option maxHeartbeats 400000 in
theorem rKey_any (s l : ByteArray) (n : Nat) (hn : n ≤ 8160) (hs : Hid (s.size + 64 ≤ 140737488355328)) (hl : Hid (l.size + 97 ≤ 140737488355328)) (w : World) :
    Calls Tryz.prog 23 #[.string s, .string l, .int .i64 (n : Int)] w fun e w' => e = .returned (.string ⟨(drv s.data.toList l.data.toList n).toArray⟩) ∧ Below w.heap.size w w' := by
  have D : Hid (∀ w, Calls Tryz.prog 50 #[.string s, .string l, .int .i64 (n : Int)] w fun e w' => e = .returned (.tuple #[.string ⟨(drv s.data.toList l.data.toList n).toArray⟩, .int .i64 0]) ∧ Below w.heap.size w w') := rDerive_ok s l n hn hs hl
  generalize (⟨(drv s.data.toList l.data.toList n).toArray⟩ : ByteArray) = X at *
  go_enter Tryz.func23, Tryz.ntmps23
  go_wp2_with fail
  refine Calls.mono (D.out _) ?_
  rintro e w1 ⟨rfl, hb⟩
  go_wp2
  go_ret
  exact ⟨rfl, hb⟩
end Go.Proofs.YtckfplpiakbbdaaGreatDoor
namespace Go.Proofs.YtckfplpiakbbdaaGreatDoor
open Go.RowKit Go.Proofs.Fd
set_option maxRecDepth 20000
def repAt : Go.Shelf.Ren := ⟨fun x => if x = 99 then 88 else if x = 105 then 62 else if x = 165 then 89 else if x = 166 then 90 else if x = 169 then 92 else if x = 170 then 91 else if x = 206 then 116 else if x = 212 then 87 else if x = 240 then 117 else if x = 241 then 118 else if x = 263 then 114 else if x = 264 then 115 else if x = 276 then 136 else if x = 277 then 137 else 0, fun x => if x = 0 then 0 else if x = 3 then 3 else if x = 4 then 4 else if x = 5 then 5 else if x = 9 then 9 else if x = 20 then 20 else if x = 37 then 44 else if x = 46 then 99 else if x = 51 then 101 else if x = 53 then 45 else if x = 70 then 109 else if x = 72 then 111 else if x = 75 then 114 else if x = 76 then 115 else if x = 80 then 87 else if x = 109 then 107 else if x = 127 then 154 else if x = 146 then 150 else if x = 148 then 152 else if x = 164 then 167 else 0, fun n => n⟩
theorem repLies : Lays.n105 Tryz.prog repAt :=
  { mixed := by kernel_rfl, f99 := by kernel_rfl, f105 := by kernel_rfl, f165 := by kernel_rfl, f166 := by kernel_rfl, f169 := by kernel_rfl, f170 := by kernel_rfl, f206 := by kernel_rfl, f212 := by kernel_rfl, f240 := by kernel_rfl, f241 := by kernel_rfl, f263 := by kernel_rfl, f264 := by kernel_rfl, f276 := by kernel_rfl, f277 := by kernel_rfl, t0 := by kernel_rfl, a0 := fun _ => by kernel_rfl, z0 := fun _ => by kernel_rfl, v0 := fun _ => by kernel_rfl, t3 := by kernel_rfl, a3 := fun _ => by kernel_rfl, z3 := fun _ => by kernel_rfl, v3 := fun _ => by kernel_rfl, t4 := by kernel_rfl, a4 := fun _ => by kernel_rfl, z4 := fun _ => by kernel_rfl, v4 := fun _ => by kernel_rfl, t5 := by kernel_rfl, a5 := fun _ => by kernel_rfl, z5 := fun _ => by kernel_rfl, v5 := fun _ => by kernel_rfl, t9 := by kernel_rfl, a9 := fun _ => by kernel_rfl, z9 := fun _ => by kernel_rfl, v9 := fun _ => by kernel_rfl, t20 := by kernel_rfl, a20 := fun _ => by kernel_rfl, z20 := fun _ => by kernel_rfl, v20 := fun _ => by kernel_rfl, t37 := by kernel_rfl, a37 := fun _ => by kernel_rfl, z37 := fun _ => by kernel_rfl, v37 := fun _ => by kernel_rfl, t46 := by kernel_rfl, a46 := fun _ => by kernel_rfl, z46 := fun _ => by kernel_rfl, v46 := fun _ => by kernel_rfl, t51 := by kernel_rfl, a51 := fun _ => by kernel_rfl, z51 := fun _ => by kernel_rfl, v51 := fun _ => by kernel_rfl, t53 := by kernel_rfl, a53 := fun _ => by kernel_rfl, z53 := fun _ => by kernel_rfl, v53 := fun _ => by kernel_rfl, t70 := by kernel_rfl, a70 := fun _ => by kernel_rfl, z70 := fun _ => by kernel_rfl, v70 := fun _ => by kernel_rfl, t72 := by kernel_rfl, a72 := fun _ => by kernel_rfl, z72 := fun _ => by kernel_rfl, v72 := fun _ => by kernel_rfl, t75 := by kernel_rfl, a75 := fun _ => by kernel_rfl, z75 := fun _ => by kernel_rfl, v75 := fun _ => by kernel_rfl, t76 := by kernel_rfl, a76 := fun _ => by kernel_rfl, z76 := fun _ => by kernel_rfl, v76 := fun _ => by kernel_rfl, t109 := by kernel_rfl, a109 := fun _ => by kernel_rfl, z109 := fun _ => by kernel_rfl, v109 := fun _ => by kernel_rfl, t127 := by kernel_rfl, a127 := fun _ => by kernel_rfl, z127 := fun _ => by kernel_rfl, v127 := fun _ => by kernel_rfl, t146 := by kernel_rfl, a146 := fun _ => by kernel_rfl, z146 := fun _ => by kernel_rfl, v146 := fun _ => by kernel_rfl, t148 := by kernel_rfl, a148 := fun _ => by kernel_rfl, z148 := fun _ => by kernel_rfl, v148 := fun _ => by kernel_rfl, t164 := by kernel_rfl, a164 := fun _ => by kernel_rfl, z164 := fun _ => by kernel_rfl, v164 := fun _ => by kernel_rfl }
theorem repMore : Builder.Extra Tryz.prog repAt :=
  { sizeBuilder := by kernel_rfl, liesBuilder := by kernel_rfl, t5 := by kernel_rfl, a5 := fun _ => by kernel_rfl, z5 := fun _ => by kernel_rfl, v5 := fun _ => by kernel_rfl, infoByte := by kernel_rfl, cellsByte := by kernel_rfl, sizeByte := by kernel_rfl, neB5 := by decide }
end Go.Proofs.YtckfplpiakbbdaaGreatDoor
