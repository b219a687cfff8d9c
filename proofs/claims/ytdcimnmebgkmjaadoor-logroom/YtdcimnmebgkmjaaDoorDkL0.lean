/- What the laws lean on: strings.Repeat by the library's contract, among, sector; disks of the call's own; the chapter's example. -/
import Derived.Test.YtdcimnmebgkmjaaDoorDkX
import Derived.Shelf.Strings.Repeat
namespace Go.Proofs.YtdcimnmebgkmjaaDoor
open Go.RowKit Go.Proofs.Fd Go.Proofs.Dk
set_option maxRecDepth 20000

/-- Where the library's Repeat lies in this program. -/
def repAt : Go.Shelf.Ren := ⟨fun x => if x = 99 then 82 else if x = 105 then 72 else if x = 165 then 88 else if x = 166 then 70 else if x = 169 then 71 else if x = 170 then 89 else if x = 206 then 91 else if x = 212 then 87 else if x = 240 then 86 else if x = 241 then 96 else if x = 263 then 94 else if x = 264 then 95 else if x = 276 then 93 else if x = 277 then 98 else 0, fun x => if x = 0 then 0 else if x = 3 then 3 else if x = 4 then 4 else if x = 5 then 5 else if x = 9 then 9 else if x = 20 then 20 else if x = 37 then 70 else if x = 46 then 94 else if x = 51 then 125 else if x = 53 then 128 else if x = 70 then 101 else if x = 72 then 103 else if x = 75 then 106 else if x = 76 then 107 else if x = 80 then 88 else if x = 109 then 118 else if x = 127 then 112 else if x = 146 then 126 else if x = 148 then 129 else if x = 164 then 123 else 0, fun n => n⟩
theorem repLies : Lays.n105 Tryd.prog repAt :=
  { mixed := by kernel_rfl, f99 := by kernel_rfl, f105 := by kernel_rfl, f165 := by kernel_rfl, f166 := by kernel_rfl, f169 := by kernel_rfl, f170 := by kernel_rfl, f206 := by kernel_rfl, f212 := by kernel_rfl, f240 := by kernel_rfl, f241 := by kernel_rfl, f263 := by kernel_rfl, f264 := by kernel_rfl, f276 := by kernel_rfl, f277 := by kernel_rfl, t0 := by kernel_rfl, a0 := fun _ => by kernel_rfl, z0 := fun _ => by kernel_rfl, v0 := fun _ => by kernel_rfl, t3 := by kernel_rfl, a3 := fun _ => by kernel_rfl, z3 := fun _ => by kernel_rfl, v3 := fun _ => by kernel_rfl, t4 := by kernel_rfl, a4 := fun _ => by kernel_rfl, z4 := fun _ => by kernel_rfl, v4 := fun _ => by kernel_rfl, t5 := by kernel_rfl, a5 := fun _ => by kernel_rfl, z5 := fun _ => by kernel_rfl, v5 := fun _ => by kernel_rfl, t9 := by kernel_rfl, a9 := fun _ => by kernel_rfl, z9 := fun _ => by kernel_rfl, v9 := fun _ => by kernel_rfl, t20 := by kernel_rfl, a20 := fun _ => by kernel_rfl, z20 := fun _ => by kernel_rfl, v20 := fun _ => by kernel_rfl, t37 := by kernel_rfl, a37 := fun _ => by kernel_rfl, z37 := fun _ => by kernel_rfl, v37 := fun _ => by kernel_rfl, t46 := by kernel_rfl, a46 := fun _ => by kernel_rfl, z46 := fun _ => by kernel_rfl, v46 := fun _ => by kernel_rfl, t51 := by kernel_rfl, a51 := fun _ => by kernel_rfl, z51 := fun _ => by kernel_rfl, v51 := fun _ => by kernel_rfl, t53 := by kernel_rfl, a53 := fun _ => by kernel_rfl, z53 := fun _ => by kernel_rfl, v53 := fun _ => by kernel_rfl, t70 := by kernel_rfl, a70 := fun _ => by kernel_rfl, z70 := fun _ => by kernel_rfl, v70 := fun _ => by kernel_rfl, t72 := by kernel_rfl, a72 := fun _ => by kernel_rfl, z72 := fun _ => by kernel_rfl, v72 := fun _ => by kernel_rfl, t75 := by kernel_rfl, a75 := fun _ => by kernel_rfl, z75 := fun _ => by kernel_rfl, v75 := fun _ => by kernel_rfl, t76 := by kernel_rfl, a76 := fun _ => by kernel_rfl, z76 := fun _ => by kernel_rfl, v76 := fun _ => by kernel_rfl, t109 := by kernel_rfl, a109 := fun _ => by kernel_rfl, z109 := fun _ => by kernel_rfl, v109 := fun _ => by kernel_rfl, t127 := by kernel_rfl, a127 := fun _ => by kernel_rfl, z127 := fun _ => by kernel_rfl, v127 := fun _ => by kernel_rfl, t146 := by kernel_rfl, a146 := fun _ => by kernel_rfl, z146 := fun _ => by kernel_rfl, v146 := fun _ => by kernel_rfl, t148 := by kernel_rfl, a148 := fun _ => by kernel_rfl, z148 := fun _ => by kernel_rfl, v148 := fun _ => by kernel_rfl, t164 := by kernel_rfl, a164 := fun _ => by kernel_rfl, z164 := fun _ => by kernel_rfl, v164 := fun _ => by kernel_rfl }
theorem repMore : Builder.Extra Tryd.prog repAt :=
  { sizeBuilder := by kernel_rfl, liesBuilder := by kernel_rfl, t5 := by kernel_rfl, a5 := fun _ => by kernel_rfl, z5 := fun _ => by kernel_rfl, v5 := fun _ => by kernel_rfl, infoByte := by kernel_rfl, cellsByte := by kernel_rfl, sizeByte := by kernel_rfl, neB5 := by decide }

theorem rep_any (c : UInt8) (n : Nat) (h1 : n ≤ 1000) (w : World) :
    Calls Tryd.prog 72 #[.string ⟨#[c]⟩, .int .i64 (n : Int)] w fun e w' => e = .returned (sv (List.replicate n c)) ∧ Below w.heap.size w w' := by
  have hs : (⟨#[c]⟩ : ByteArray).size = 1 := rfl
  refine (Any.strings_Repeat repLies repMore ⟨#[c]⟩ n w (by omega) (by rw [hs]; omega)).mono fun e w' ⟨he, hb⟩ => ⟨?_, hb⟩
  rw [he]
  have : Lib.repeatL [c] n = List.replicate n c := by
    simpa using Lib.repeatL_replicate c 1 n
  simp [st, this]
theorem infoU8 : (Tryd.prog.info? 5).map (fun i => (i.zero, i.size, i.bytes)) = some (some (.int .u8 0), 1, 1) := by kernel_rfl
/-- A text made 64 long. -/
def sec (l : Bs) : Bs := l.take 64 ++ (List.replicate 64 0).drop (l.take 64).length
theorem sec_len (l : Bs) : (sec l).length = 64 := by
  unfold sec
  rw [List.length_append, List.length_drop, List.length_take, List.length_replicate]
  omega
theorem make_64 : ∃ M : Array Value, (∀ w : World, (Instr.makeSlice 70 (.int .i64 64) (.int .i64 64)).run Tryd.prog w = .ok (.slice (some ⟨w.heap.size, 0, none⟩) 64 64) (w.alloc (.cells M 5)))
    ∧ ∀ w : World, Sec (w.alloc (.cells M 5)) w.heap.size 1 (fun _ => List.replicate 64 0) := by
  obtain ⟨i0, hi, hz0, hz1, hz2⟩ := info_parts infoU8
  refine ⟨madeCells (Value.int .u8 0).cells 64, fun w => ?_, fun w => ?_⟩
  · have h := run_make (P := Tryd.prog) w 70 5 i0 (.int .u8 0) Tryd.underlying70 hi hz0 .i64 .i64 64 64 (by omega) (Int.le_refl _) (by rw [hz2]; omega) (by omega)
    rw [hz1] at h
    exact h
  · have hc : ∀ j, j < 64 → (w.alloc (.cells (madeCells (Value.int .u8 0).cells 64) 5)).cell? ⟨w.heap.size, j, none⟩ = some (.int .u8 0) := fun j hj => by
      rw [World.cell?_alloc_new]
      exact made_rep 1 64 j _ (by decide) hj
    refine ⟨fun k hk j v hv => ?_, fun j hj => ?_, fun _ => by simp⟩
    · have hj : j < 64 := by
        have := (List.getElem?_eq_some_iff.1 hv).1
        rw [bc_len, List.length_replicate] at this
        exact this
      rw [hc _ (by omega)]
      rw [bc_zeros, List.getElem?_replicate, if_pos hj] at hv
      rw [← hv]
    · rw [Nat.zero_add, hc j (by omega)]
      exact ⟨rfl, by simp [go_sem]⟩
theorem copy_str (w : World) (b : Nat) (s : ByteArray) (m : Nat) (hm : Nat.min s.size 64 = m) (hth : w.there b 0 64) :
    (Builtin.copy_ #[70, 9] 3 #[.slice (some ⟨b, 0, none⟩) 64 64, .string s]).run Tryd.prog w = .ok (.int .i64 (m : Int)) (w.setCells b 0 (bc (s.data.toList.take 64))) := by
  have hss : s.data.toList.length = s.size := by simp
  have ht : s.data.toList.take 64 = s.data.toList.take m := by
    rw [← hm]
    by_cases h : s.size ≤ 64
    · have e : Nat.min s.size 64 = s.size := Nat.min_eq_left h
      rw [e, List.take_of_length_le (by omega), List.take_of_length_le (by omega)]
    · have e : Nat.min s.size 64 = 64 := Nat.min_eq_right (by omega)
      rw [e]
  have hmn : m ≤ 64 := by rw [← hm]; exact Nat.min_le_right _ _
  have hms : m ≤ s.size := by rw [← hm]; exact Nat.min_le_left _ _
  have hl : (bc (s.data.toList.take m)).length = m := by
    rw [bc_len, List.length_take]
    omega
  have hst := run_storeCells_cells (P := Tryd.prog) b 0 (bc (s.data.toList.take m)) 0 w
    (by rw [hl]; intro j hj; simpa using (hth j (by omega)).1) (by rw [hl]; intro j hj; simpa using (hth j (by omega)).2) (bc_one _)
  rw [ht]
  simp [Builtin.copy_, run_underlying Tryd.underlying70, Builtin.lenOf, Builtin.firstCells, hm]
  unfold bc at hst
  rw [← List.map_take, hst]
  rfl
end Go.Proofs.YtdcimnmebgkmjaaDoor
