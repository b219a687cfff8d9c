/- A half's bytes, read. -/
import Derived.Test.YtdcimnmebgkmjaaDoorLgQ
namespace Go.Proofs.YtdcimnmebgkmjaaDoor
open Go.RowKit Go.Proofs.Fd Go.Proofs.Dk Go.Proofs.Lg
set_option maxRecDepth 20000

theorem lsync_any (w v : World) (p : Nat) (F : Nat → Prop) (s : St) (fr mn : Nat) (hl : s.l.length ≤ 1000000) (h : Hid (Dl w v p F s)) :
    Calls Tryd.prog 45 #[plc p fr mn] v fun e w' => e = .returned (.int .i64 (syE s)) ∧ Ds w v p F (syS s) w' := by
  have I0 : Hid (Wr w v p F fr mn _ F s) := Wr.begin h.out fr mn 55
  have SY : Hid (∀ wr, Wr w v p F fr mn wr F s → Calls Tryd.prog 64 #[.pointer (some ⟨p, 0, none⟩)] wr fun e w' => e = .returned (.int .i64 (syE s)) ∧ Ds w v p F (syS s) w') := fun wr k =>
    (syncL w wr p F s hl k.dl).mono fun _ _ ⟨he, F', h1, h2, h3⟩ => ⟨he, (k.stp h1 h2 h3).ds⟩
  obtain ⟨x, hx⟩ : ∃ x, syE s = x := ⟨_, rfl⟩
  obtain ⟨t, ht⟩ : ∃ t, syS s = t := ⟨_, rfl⟩
  rw [hx, ht] at SY ⊢
  clear hx ht h hl
  go_enter Tryd.func45, Tryd.ntmps45
  go_wp2_with fail
  refine Calls.mono (SY.out _ I0.out) ?_
  rintro e w1 ⟨rfl, hd⟩
  have FF : Hid _ := hd
  clear hd
  go_wp2
  go_ret
  exact ⟨rfl, FF.out⟩
theorem nb (w : World) (o : Obj) : Below w.heap.size w (w.alloc o) := (Below.refl _ _).alloc (Nat.le_refl _) _
theorem blk_two (w : World) (o : Obj) (cs : List Value) (ty : TypeId) (hn : cs ≠ []) : Blk ((w.alloc o).alloc (.cells cs.toArray ty)) (w.heap.size + 1) cs := by
  have := Blk.new (w.alloc o) cs ty hn
  rw [show (w.alloc o).heap.size = w.heap.size + 1 by simp] at this
  exact this
theorem lother_any (w : World) (p fr mn : Nat) (h1 : fr ≤ mn) (h2 : mn ≤ 4000) : Calls Tryd.prog 30 #[plc p fr mn] w fun e w' => e = .returned (plc p (mn - fr) mn) ∧ Below w.heap.size w w' := by
  have y1 : IntKind.i64.wrap ((mn : Int) - (fr : Int)) = ((mn - fr : Nat) : Int) := by rw [IntKind.wrap_i64]; omega
  have e1 : (mn : Int) - (fr : Int) = ((mn - fr : Nat) : Int) := by omega
  obtain ⟨d, hd⟩ : ∃ d, mn - fr = d := ⟨_, rfl⟩
  rw [hd] at y1 e1 ⊢
  have J1 : Hid (_ ∧ _) := And.intro (blk_two w (.cells #[.pointer (some ⟨p, 0, none⟩), .int .i64 (fr : Int), .int .i64 (mn : Int)] 55) [.pointer (some ⟨p, 0, none⟩), .int .i64 (d : Int), .int .i64 (mn : Int)] 55 (by simp)) (chain (nb w (.cells #[.pointer (some ⟨p, 0, none⟩), .int .i64 (fr : Int), .int .i64 (mn : Int)] 55)) (nb _ (.cells #[.pointer (some ⟨p, 0, none⟩), .int .i64 (d : Int), .int .i64 (mn : Int)] 55)))
  have hf : (fr : Int) ≤ (mn : Int) := by omega
  have hm : (mn : Int) ≤ 4000 := by omega
  clear h1 h2 hd
  unfold plc
  go_enter Tryd.func30, Tryd.ntmps30
  go_wp2
  refine bodyPost_ret (v := plc p d mn) ?_ rfl ⟨rfl, J1.out.2⟩
  exact res_c1 Tryd.results30 _ _ (w.heap.size + 1) _ (by kernel_rfl) (run_loadVar_mid _ (w.heap.size + 1) 0 55 [.pointer (some ⟨p, 0, none⟩), .int .i64 (d : Int), .int .i64 (mn : Int)] _ J1.out.1.r Tryd.underlying55 rfl (by kernel_rfl))
theorem rch_d {s : St} (h : s.down = true) (k : Int) : rch s k = 150 := if_pos h
theorem rch_in {s : St} (h : s.down = false) {k : Nat} (hk : k < s.n) : rch s (k : Int) = 0 := by
  unfold rch
  rw [if_neg (by rw [h]; simp), if_neg (by omega)]
theorem rdV_in {s : St} (h : s.down = false) {k : Nat} (hk : k < s.n) : rdV s (k : Int) = s.sh k := by
  unfold rdV
  rw [if_pos (rch_in h hk), Int.toNat_natCast]
/-- What a place's read answers. -/
def rdA (s : St) (fr mn : Nat) : Value := if s.down = true then .tuple #[sv [], .int .i64 150] else .tuple #[sv (hb s fr mn), .int .i64 0]
theorem builder_new (w : World) : Lib.IsBuilder 103 5 w.heap.size w.heap.size (Lib.byteCells []) (w.alloc (.cells #[.pointer none, .slice none 0 0] 103)) := Lib.fresh_isBuilder _ _ w
theorem builder_write (B : Nat) (l m : Bs) (w : World) (h : Lib.IsBuilder 103 5 B B (Lib.byteCells l) w) (hl : l.length + m.length ≤ 1000000) (hB : B ≤ w.heap.size) :
    Calls Tryd.prog 70 #[.pointer (some ⟨B, 0, none⟩), .string (st m)] w fun e w' => e = .returned (.tuple #[.int .i64 (m.length : Int), .nilIface]) ∧ Lib.IsBuilder 103 5 B B (Lib.byteCells (l ++ m)) w' ∧ Below B w w' := by
  refine (Any.Builder_WriteString (ρ := repAt) { repLies with } repMore B B (Lib.byteCells l) (st m) w h (by rw [Lib.byteCells_length, st_size]; omega) hB).mono fun e w' ⟨he, h1, h2⟩ => ⟨?_, .inr ?_, h2⟩
  · rw [he, st_size]
  · rw [Lib.byteCells_append]
    exact h1
theorem builder_string (B : Nat) (l : Bs) (w : World) (h : Lib.IsBuilder 103 5 B B (Lib.byteCells l) w) (hB : B ≤ w.heap.size) :
    Calls Tryd.prog 71 #[.pointer (some ⟨B, 0, none⟩)] w fun e w' => e = .returned (.string (st l)) ∧ Below B w w' := Any.Builder_String_any (ρ := repAt) { repLies with } repMore B B l w h hB
end Go.Proofs.YtdcimnmebgkmjaaDoor
