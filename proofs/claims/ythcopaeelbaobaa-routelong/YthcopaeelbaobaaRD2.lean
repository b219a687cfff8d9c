/- The document's commands: their bytes. -/
import Derived.Test.YthcopaeelbaobaaRD1
import Derived.Laws.MakeOwn
namespace Go.Proofs.Rt
/-- A command's bytes, as far as they are laid. -/
def bq (h : Hp) (q : Nat) : List UInt8 := [UInt8.ofNat h.k.toNat, UInt8.ofNat (h.n + h.u).toNat, UInt8.ofNat (h.d / 256).toNat, UInt8.ofNat (h.d % 256).toNat] ++ h.id.data.toList.take q ++ List.replicate (20 - q) 0
theorem bq_all (h : Hp) : bq h h.id.size = byt h := by
  unfold bq byt
  rw [List.take_of_length_le (by simp)]
theorem bq_len (h : Hp) (q : Nat) (hq : q ≤ h.id.size) (h2 : h.id.size ≤ 20) : (bq h q).length = 24 := by
  unfold bq; simp; omega
theorem bq_zero (h : Hp) : ((((List.replicate 24 (0 : UInt8)).set 0 (UInt8.ofNat h.k.toNat)).set 1 (UInt8.ofNat (h.n + h.u).toNat)).set 2 (UInt8.ofNat (h.d / 256).toNat)).set 3 (UInt8.ofNat (h.d % 256).toNat) = bq h 0 := by
  unfold bq
  rw [List.take_zero, List.append_nil]
  rfl
theorem bq_succ (h : Hp) (q : Nat) (hq : q < h.id.size) (h2 : h.id.size ≤ 20) : (bq h q).set (4 + q) h.id[q] = bq h (q + 1) := by
  unfold bq
  have hl : q < h.id.data.toList.length := by simpa using hq
  have e : 20 - q = (20 - (q + 1)) + 1 := by omega
  generalize hz : [UInt8.ofNat h.k.toNat, UInt8.ofNat (h.n + h.u).toNat, UInt8.ofNat (h.d / 256).toNat, UInt8.ofNat (h.d % 256).toNat] = Z
  have lz : Z.length = 4 := by rw [← hz]; rfl
  have e2 : (Z ++ h.id.data.toList.take q).length = 4 + q := by simp [lz]; omega
  rw [e, List.replicate_succ, List.set_append_right _ _ (by rw [e2]; exact Nat.le_refl _), e2, Nat.sub_self, List.set_cons_zero, List.take_succ_eq_append_getElem hl]
  simp only [List.append_assoc, List.cons_append, List.nil_append]
  rfl
end Go.Proofs.Rt
namespace Go.Proofs.Ythcopaeelbaobaa
open Go.RowKit Go.Proofs.Fd Go.Proofs.Rt
set_option maxRecDepth 20000

/-- Block g holds a command. -/
def HopAt (w : World) (g : Nat) (h : Hp) : Prop :=
  (∀ o, w.frozen? ⟨g, o, none⟩ = false) ∧ w.cell? ⟨g, 0, none⟩ = some (.int .i64 h.k) ∧ w.cell? ⟨g, 1, none⟩ = some (.int .i64 h.n) ∧ w.cell? ⟨g, 2, none⟩ = some (.int .i64 h.u) ∧ w.cell? ⟨g, 3, none⟩ = some (.int .i64 h.d) ∧ w.cell? ⟨g, 4, none⟩ = some (.string h.id)
theorem HopAt.new (w : World) (t : TypeId) (h : Hp) : HopAt (w.alloc (.cells #[.int .i64 h.k, .int .i64 h.n, .int .i64 h.u, .int .i64 h.d, .string h.id] t)) w.heap.size h :=
  ⟨fun o => by simp [go_sem], by simp [go_sem], by simp [go_sem], by simp [go_sem], by simp [go_sem], by simp [go_sem]⟩
theorem HopAt.later {w w' : World} {g : Nat} {h : Hp} (q : HopAt w g h) (hb : Below w.heap.size w w') : HopAt w' g h := by
  obtain ⟨f, h0, h1, h2, h3, h4⟩ := q
  exact ⟨fun o => (frozen_kept hb (World.block_lt_of_cell? _ _ h0)).trans (f o), cell_later hb h0, cell_later hb h1, cell_later hb h2, cell_later hb h3, cell_later hb h4⟩
theorem HopAt.other {w : World} {g : Nat} {h : Hp} (q : HopAt w g h) {a : Addr} (hne : a.block ≠ g) (v : Value) : HopAt (w.setCell a v) g h := by
  obtain ⟨f, h0, h1, h2, h3, h4⟩ := q
  exact ⟨fun o => (frozen_setCell hne).trans (f o), cell_setCell h0 hne, cell_setCell h1 hne, cell_setCell h2 hne, cell_setCell h3 hne, cell_setCell h4 hne⟩
theorem HopAt.lt {w : World} {g : Nat} {h : Hp} (q : HopAt w g h) : g < w.heap.size := World.block_lt_of_cell? _ _ q.2.1
theorem rinfoByte : (Try.prog.info? 5).map (fun i => (i.zero, i.size, i.bytes)) = some (some (.int .u8 0), 1, 1) := by kernel_rfl
theorem rmake24 (w : World) : ∃ W : World, (Instr.makeSlice 40 (.int .i64 24) (.int .i64 24)).run Try.prog w = .ok (.slice (some ⟨w.heap.size, 0, none⟩) 24 24) W
    ∧ BytesAt W w.heap.size (List.replicate 24 0) ∧ Below w.heap.size w W ∧ w.heap.size < W.heap.size := by
  refine ⟨w.alloc (.cells (Array.replicate 24 (.int .u8 0)) 5), by kernel_rfl, fun j hj => ?_, (Below.refl _ _).alloc (Nat.le_refl _) _, by simp⟩
  have hj' : j < 24 := by simpa using hj
  refine ⟨?_, by simp [go_sem]⟩
  rw [World.cell?_alloc_new, List.getElem_replicate, Array.getElem?_replicate, if_pos hj']
  rfl
theorem BytesAt.cell {w : World} {b : Nat} {l : List UInt8} (h : BytesAt w b l) (j : Nat) (hj : j < l.length) : ∃ v, w.cell? ⟨b, j, none⟩ = some v ∧ w.frozen? ⟨b, j, none⟩ = false := ⟨_, h j hj⟩

set_option maxHeartbeats 1000000 in
theorem rBytes_any (h : Hp) (hk : ok h = true) (w : World) :
    Calls Try.prog 18 #[hv h] w fun e w' => e = .returned (.string ⟨(byt h).toArray⟩) ∧ Below w.heap.size w w' := by
  have hI := id_len h hk
  have hB : 0 ≤ h.k ∧ h.k < 256 ∧ 0 ≤ h.n + h.u ∧ h.n + h.u < 256 ∧ 0 ≤ h.d ∧ h.d ≤ 4096 := by
    rcases ok_cases h hk with g | g | g | g <;> omega
  have K0 : Hid (bq h h.id.size = byt h ∧ (∀ q, q < h.id.size → (bq h q).set (4 + q) h.id[q]! = bq h (q + 1)) ∧ (∀ q, q ≤ h.id.size → (bq h q).length = 24)) := by
    refine ⟨bq_all h, fun q hq => ?_, fun q hq => bq_len h q hq (by omega)⟩
    rw [getElem!_pos h.id q hq]
    exact bq_succ h q hq (by omega)
  have Z0 : Hid (_ = _) := bq_zero h
  obtain ⟨k, n, u, d, id⟩ := h
  simp only at hI hB
  obtain ⟨b1, b2, b3, b4, b5, b6⟩ := hB
  unfold hv
  obtain ⟨A, hA⟩ : ∃ A, w.alloc (.cells #[.int .i64 k, .int .i64 n, .int .i64 u, .int .i64 d, .string id] 23) = A := ⟨_, rfl⟩
  obtain ⟨W, CM, BW, bW, sW⟩ := rmake24 A
  obtain ⟨g, hg⟩ : ∃ g, w.heap.size = g := ⟨_, rfl⟩
  obtain ⟨gb, hgb⟩ : ∃ g, A.heap.size = g := ⟨_, rfl⟩
  have CB : Hid (HopAt W g ⟨k, n, u, d, id⟩ ∧ Below g w W ∧ g < gb) := by
    have h0 := HopAt.new w 23 ⟨k, n, u, d, id⟩
    have hb : Below w.heap.size w A := hA ▸ (Below.refl _ _).alloc (Nat.le_refl _) _
    have hlt : w.heap.size < A.heap.size := by rw [← hA]; simp
    simp only at h0
    rw [hA] at h0
    rw [← hg, ← hgb]
    exact ⟨h0.later bW, chain hb bW, hlt⟩
  rw [hgb] at CM BW
  have ne1 : ¬ gb = g := by have := CB.out.2.2; omega
  have ne2 : ¬ g = gb := by have := CB.out.2.2; omega
  have t1 : IntKind.u8.wrap k = k := by rw [IntKind.wrap_u8]; omega
  have t1' : k % 256 = k := by omega
  have t2 : IntKind.i64.wrap (n + u) = n + u := by rw [IntKind.wrap_i64]; omega
  have t3 : IntKind.u8.wrap (n + u) = n + u := by rw [IntKind.wrap_u8]; omega
  have t3' : (n + u) % 256 = n + u := by omega
  have t4 : Int.tdiv d 256 = d / 256 := Int.tdiv_eq_ediv_of_nonneg b5
  have t5 : Int.tmod d 256 = d % 256 := Int.tmod_eq_emod_of_nonneg b5
  have t6 : IntKind.u8.wrap (d / 256) = d / 256 := by rw [IntKind.wrap_u8]; omega
  have t6' : d / 256 % 256 = d / 256 := by omega
  have t7 : IntKind.u8.wrap (d % 256) = d % 256 := by rw [IntKind.wrap_u8]; omega
  have t7' : d % 256 % 256 = d % 256 := by omega
  obtain ⟨d0, c0, c1, c2, c3, c4⟩ := CB.out.1
  simp only at c0 c1 c2 c3 c4
  obtain ⟨v0, x0, f0⟩ := BW.cell 0 (by decide)
  obtain ⟨v1, x1, f1⟩ := BW.cell 1 (by decide)
  obtain ⟨v2, x2, f2⟩ := BW.cell 2 (by decide)
  obtain ⟨v3, x3, f3⟩ := BW.cell 3 (by decide)
  have I0 : Hid (BytesAt ((((W.setCell ⟨gb, 0, none⟩ (.int .u8 k)).setCell ⟨gb, 1, none⟩ (.int .u8 (n + u))).setCell ⟨gb, 2, none⟩ (.int .u8 (d / 256))).setCell ⟨gb, 3, none⟩ (.int .u8 (d % 256))) gb (bq ⟨k, n, u, d, id⟩ 0) ∧ HopAt ((((W.setCell ⟨gb, 0, none⟩ (.int .u8 k)).setCell ⟨gb, 1, none⟩ (.int .u8 (n + u))).setCell ⟨gb, 2, none⟩ (.int .u8 (d / 256))).setCell ⟨gb, 3, none⟩ (.int .u8 (d % 256))) g ⟨k, n, u, d, id⟩ ∧ Below g w ((((W.setCell ⟨gb, 0, none⟩ (.int .u8 k)).setCell ⟨gb, 1, none⟩ (.int .u8 (n + u))).setCell ⟨gb, 2, none⟩ (.int .u8 (d / 256))).setCell ⟨gb, 3, none⟩ (.int .u8 (d % 256)))) := by
    obtain ⟨h1, h2, h3⟩ := CB.out
    have le : g ≤ gb := by omega
    refine ⟨?_, (((h1.other (a := ⟨gb, 0, none⟩) ne1 _).other (a := ⟨gb, 1, none⟩) ne1 _).other (a := ⟨gb, 2, none⟩) ne1 _).other (a := ⟨gb, 3, none⟩) ne1 _, (((h2.setCell (p := ⟨gb, 0, none⟩) le _).setCell (p := ⟨gb, 1, none⟩) le _).setCell (p := ⟨gb, 2, none⟩) le _).setCell (p := ⟨gb, 3, none⟩) le _⟩
    rw [← Z0.out]
    exact (((BW.set 0 _ _ (by rw [u8_of _ b1 b2])).set 1 _ _ (by rw [u8_of _ b3 b4])).set 2 _ _ (by show _ = ((UInt8.ofNat (d / 256).toNat).toNat : Int); rw [u8_of (d / 256) (by omega) (by omega)])).set 3 _ _ (by show _ = ((UInt8.ofNat (d % 256).toNat).toNat : Int); rw [u8_of (d % 256) (by omega) (by omega)])
  have HG : Hid (w.heap.size = g) := hg
  have HLE : Hid (g ≤ gb) := by have := CB.out.2.2; show _ ≤ _; omega
  clear CB Z0 BW bW sW d0 hgb
  go_enter Try.func18, Try.ntmps18
  go_wp2
  have zI : id.size ≤ 16 := by omega
  go_loopw [4] (fun iv wr => ∃ q : Nat, q ≤ id.size ∧ iv = .int .i64 (q : Int) ∧ Hid (BytesAt wr gb (bq ⟨k, n, u, d, id⟩ q) ∧ HopAt wr g ⟨k, n, u, d, id⟩ ∧ Below g w wr)) (fun iv _ => id.size - (intOf iv).toNat)
  case atStart => exact ⟨0, Nat.zero_le _, rfl, I0.out⟩
  case round =>
    obtain ⟨q, hq, rfl, I⟩ := hrel
    clear I0 CM x0 f0 x1 f1 x2 f2 x3 f3 c0 c1 c2 c3 c4
    obtain ⟨-, c0, c1, c2, c3, c4⟩ := I.out.2.1
    simp only at c0 c1 c2 c3 c4
    by_cases hlt : q < id.size
    · have g1 : (q : Int) < (id.size : Int) := by omega
      have g2 : IntKind.i64.wrap (4 + (q : Int)) = ((4 + q : Nat) : Int) := by rw [IntKind.wrap_i64]; omega
      have g3 : (4 + q : Int) < 24 := by omega
      have g3' : ((4 + q : Nat) : Int) < 24 := by omega
      have g4 : 4 + q < 24 := by omega
      have LB : Hid ((bq ⟨k, n, u, d, id⟩ q).length = 24) := K0.out.2.2 q hq
      obtain ⟨vx, cx, fx⟩ := I.out.1.cell (4 + q) (by rw [LB.out]; exact g4)
      have NB : Hid (_ = _) := K0.out.2.1 q hlt
      rw [getElem!_pos id q hlt] at NB
      obtain ⟨y, hy⟩ : ∃ y, id[q] = y := ⟨_, rfl⟩
      rw [hy] at NB
      have NX : Hid (BytesAt (wr.setCell ⟨gb, 4 + q, none⟩ (.int .u8 (y.toNat : Int))) gb (bq ⟨k, n, u, d, id⟩ (q + 1)) ∧ HopAt (wr.setCell ⟨gb, 4 + q, none⟩ (.int .u8 (y.toNat : Int))) g ⟨k, n, u, d, id⟩ ∧ Below g w (wr.setCell ⟨gb, 4 + q, none⟩ (.int .u8 (y.toNat : Int)))) := by
        obtain ⟨h1, h2, h3⟩ := I.out
        rw [← NB.out]
        exact ⟨h1.set (4 + q) y _ rfl, h2.other (a := ⟨gb, 4 + q, none⟩) ne1 _, h3.setCell (p := ⟨gb, 4 + q, none⟩) HLE.out _⟩
      clear NB LB I
      go_wp2
      exact ⟨⟨q + 1, by omega, by go_num, NX.out⟩, by simp [intOf]; omega⟩
    · obtain rfl : q = id.size := by omega
      have g1 : ¬ (id.size : Int) < (id.size : Int) := by omega
      have CV : (convert 40 9 (.slice (some ⟨gb, 0, none⟩) 24 24)).run Try.prog wr = .ok (.string ⟨(byt ⟨k, n, u, d, id⟩).toArray⟩) wr := by
        have h := I.out.1
        have h2 := K0.out.2.2 id.size (Nat.le_refl _)
        have h3 : bq ⟨k, n, u, d, id⟩ id.size = byt ⟨k, n, u, d, id⟩ := K0.out.1
        rw [h3] at h h2
        exact h.string h2
      have BF : Hid (Below g w wr) := I.out.2.2
      clear I
      obtain ⟨R, hR⟩ : ∃ R : ByteArray, ⟨(byt ⟨k, n, u, d, id⟩).toArray⟩ = R := ⟨_, rfl⟩
      rw [hR] at CV
      have HR : Hid (_ = _) := hR
      clear hR K0
      go_wp2
      go_ret
      exact ⟨by rw [HR.out]; rfl, BF.out⟩
end Go.Proofs.Ythcopaeelbaobaa
