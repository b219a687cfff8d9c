/- The document's wide blocks: texts laid, and looked for. -/
import Derived.Test.YtbkefhfbbhdpcaaDoorGS
import Derived.Test.YtbkefhfbbhdpcaaDoorGW
namespace Go.Proofs.YtbkefhfbbhdpcaaDoor
open Go.RowKit Go.Proofs.Fd Go.Proofs.Hs Go.Proofs.Cc Go.Proofs.Wd
set_option maxRecDepth 20000

theorem ba_sz (l : List UInt8) : (⟨l.toArray⟩ : ByteArray).size = l.length := by show l.toArray.size = _; simp
theorem ba_cut (l : List UInt8) (a b : Nat) : ((⟨l.toArray⟩ : ByteArray).extract a b).data.toList = (l.drop a).take (b - a) := by
  rw [ByteArray.data_extract, Array.toList_extract, List.extract_eq_take_drop]
theorem ba_of {s : ByteArray} {l : List UInt8} (h : s.data.toList = l) : s = ⟨l.toArray⟩ := by cases s; subst h; simp
theorem list_sz (s : ByteArray) : s.data.toList.length = s.size := by simp

set_option maxHeartbeats 1000000 in
theorem rPlain_any (t : ByteArray) (n : Nat) (ht : t.size + 34 ≤ n) (hn : n ≤ 8192) (w : World) :
    Calls Tryd.prog 25 #[.string t, .int .i64 (n : Int)] w fun e w' => e = .returned (.string ⟨(plainl t.data.toList n).toArray⟩) ∧ Below w.heap.size w w' := by
  obtain ⟨A, CA, BA, bA, sA⟩ := make_n n (by omega) w
  have hl : t.data.toList.length = t.size := list_sz t
  obtain ⟨g, hg⟩ : ∃ g, w.heap.size = g := ⟨_, rfl⟩
  obtain ⟨x, hx⟩ : ∃ x, UInt8.ofNat (t.size / 256) = x := ⟨_, rfl⟩
  obtain ⟨y, hy⟩ : ∃ y, UInt8.ofNat t.size = y := ⟨_, rfl⟩
  have vx : ((t.size : Int) / 256) = (x.toNat : Int) := by rw [← hx, UInt8.toNat_ofNat']; omega
  have vy : ((t.size : Int) % 256) = (y.toNat : Int) := by rw [← hy, UInt8.toNat_ofNat']; omega
  obtain ⟨P, hP⟩ : ∃ P, pln t.data.toList n = P := ⟨_, rfl⟩
  have PP : Hid (((List.replicate n (0 : UInt8)).set 32 x).set 33 y = P 0 ∧ (∀ q (hq : q < t.size), (P q).set (34 + q) t[q] = P (q + 1)) ∧ (∀ q, q ≤ t.size → (P q).length = n) ∧ plainl t.data.toList n = P t.size) := by
    rw [← hP]
    refine ⟨?_, fun q hq => pln_succ t.data.toList n q (by rw [hl]; exact hq) (by rw [hl]; exact ht), fun q hq => pln_len _ _ _ (by rw [hl]; exact hq) (by rw [hl]; exact ht), ?_⟩
    · have := pln_zero t.data.toList n (by omega)
      rw [hl, hx, hy] at this
      exact this
    · have := pln_all t.data.toList n
      rw [hl] at this
      exact this.symm
  rw [PP.out.2.2.2]
  have n1 : (32 : Int) < (n : Int) := by omega
  have n2 : (33 : Int) < (n : Int) := by omega
  rw [hg] at CA BA
  obtain ⟨v32, c32, f32⟩ := BA.some 32 (by rw [List.length_replicate]; omega)
  obtain ⟨v33, c33, f33⟩ := BA.some 33 (by rw [List.length_replicate]; omega)
  have IA : Hid (BytesAt A g (List.replicate n 0) ∧ Below w.heap.size w A ∧ w.heap.size = g) := ⟨BA, bA, hg⟩
  clear hx hy hP BA bA sA hl hg
  go_enter Tryd.func25, Tryd.ntmps25
  go_wp2
  obtain ⟨B, hB⟩ : ∃ B, (A.setCell ⟨g, 32, none⟩ (.int .u8 (x.toNat : Int))).setCell ⟨g, 33, none⟩ (.int .u8 (y.toNat : Int)) = B := ⟨_, rfl⟩
  have IB : Hid (BytesAt B g (P 0) ∧ Below w.heap.size w B) := by
    obtain ⟨h1, h2, h3⟩ := IA.out
    rw [← PP.out.1, ← hB]
    exact ⟨(h1.set 32 x _ rfl).set 33 y _ rfl, (h2.setCell (p := ⟨g, 32, none⟩) (Nat.le_of_eq h3) _).setCell (p := ⟨g, 33, none⟩) (Nat.le_of_eq h3) _⟩
  rw [hB]
  have HG : Hid (w.heap.size = g) := IA.out.2.2
  clear hB IA c32 f32 c33 f33 CA
  go_loopw [6] (fun i wr => ∃ q : Nat, q ≤ t.size ∧ i = .int .i64 (q : Int) ∧ Hid (BytesAt wr g (P q) ∧ Below w.heap.size w wr)) (fun i _ => t.size - (intOf i).toNat)
  case atStart => exact ⟨0, Nat.zero_le _, rfl, IB.out⟩
  case round =>
    obtain ⟨q, hq, rfl, I⟩ := hrel
    clear IB
    by_cases hlt : q < t.size
    · obtain ⟨p, hp⟩ : ∃ p, 34 + q = p := ⟨_, rfl⟩
      have z1 : (q : Int) < (t.size : Int) := by omega
      have a0 : IntKind.i64.wrap (34 + (q : Int)) = (p : Int) := by rw [IntKind.wrap_i64]; omega
      have e0 : 34 + (q : Int) = (p : Int) := by omega
      have z2 : (p : Int) < (n : Int) := by omega
      obtain ⟨v, cp, fp⟩ := I.out.1.some p (by rw [PP.out.2.2.1 q hq]; omega)
      have PS : Hid (_ = _) := PP.out.2.1 q hlt
      rw [hp] at PS
      obtain ⟨z, hz⟩ : ∃ z, t[q] = z := ⟨_, rfl⟩
      rw [hz] at PS
      have NX : Hid (BytesAt (wr.setCell ⟨g, p, none⟩ (.int .u8 (z.toNat : Int))) g (P (q + 1)) ∧ Below w.heap.size w (wr.setCell ⟨g, p, none⟩ (.int .u8 (z.toNat : Int)))) := by
        rw [← PS.out]
        exact ⟨I.out.1.set p z _ rfl, I.out.2.setCell (p := ⟨g, p, none⟩) (Nat.le_of_eq HG.out) _⟩
      clear PS I hp
      go_wp2
      go_roundw
      case rel => exact ⟨q + 1, by omega, by go_num, NX.out⟩
      case measure => simp [intOf]; omega
    · have hqt : q = t.size := by omega
      have CV := I.out.1.string (cap := n) (PP.out.2.2.1 q hq)
      have HQ : Hid (q = t.size) := hqt
      have z1 : ¬ (q : Int) < (t.size : Int) := by omega
      have IF : Hid (Below w.heap.size w wr) := I.out.2
      clear I hqt
      go_wp2
      go_ret
      exact ⟨by rw [← HQ.out]; rfl, IF.out⟩

/-- What a text's look answers. -/
def txV (l : List UInt8) : Array Value := match textl l with
  | some t => #[.string ⟨t.toArray⟩, .bool true]
  | none => #[.string ⟨#[]⟩, .bool false]
theorem txV_no (l : List UInt8) (h : textl l = none) : txV l = #[.string ⟨#[]⟩, .bool false] := by unfold txV; rw [h]
theorem txV_yes (l t : List UInt8) (h : textl l = some t) : txV l = #[.string ⟨t.toArray⟩, .bool true] := by unfold txV; rw [h]
theorem ba_getD (b : ByteArray) (j : Nat) (h : j < b.size) : b.data.toList.getD j 0 = b[j] := by
  rw [List.getD_eq_getElem?_getD, List.getElem?_eq_getElem (by rw [list_sz]; exact h)]
  rfl

set_option maxHeartbeats 1000000 in
theorem rText_any (b : ByteArray) (h0 : 64 ≤ b.size) (h1 : b.size ≤ 8192) (w : World) :
    Calls Tryd.prog 27 #[.string b] w fun e w' => e = .returned (.tuple (txV b.data.toList)) ∧ Below w.heap.size w w' := by
  have hl : Hid (b.data.toList.length = b.size) := list_sz b
  obtain ⟨V, hV⟩ : ∃ V, txV b.data.toList = V := ⟨_, rfl⟩
  rw [hV]
  have HV : Hid (txV b.data.toList = V) := hV
  clear hV
  obtain ⟨m, hm⟩ : ∃ m, told b.data.toList = m := ⟨_, rfl⟩
  have HT : Hid (told b.data.toList = m) := hm
  have g32 : (32 : Int) < (b.size : Int) := by omega
  have g33 : (33 : Int) < (b.size : Int) := by omega
  have l32 : 32 < b.size := by omega
  have l33 : 33 < b.size := by omega
  have em : (b[32].toNat : Int) * 256 + (b[33].toNat : Int) = (m : Int) := by
    rw [← hm]
    unfold told
    rw [ba_getD b 32 l32, ba_getD b 33 l33]
    omega
  have mb : m ≤ 65535 := by
    have h1 := b[32].toNat_lt
    have h2 := b[33].toNat_lt
    omega
  obtain ⟨x, hx⟩ : ∃ x, b[32] = x := ⟨_, rfl⟩
  obtain ⟨y, hy⟩ : ∃ y, b[33] = y := ⟨_, rfl⟩
  rw [hx, hy] at em
  have em2 : (x.toNat : Int) * (256 : Int) + (y.toNat : Int) = (m : Int) := by omega
  clear em
  have xb := x.toNat_lt
  have yb := y.toNat_lt
  clear hm
  go_enter Tryd.func27, Tryd.ntmps27
  go_wp2
  go_loopw [4] (fun i wr => ∃ q : Nat, q ≤ 32 ∧ i = .int .i64 (q : Int) ∧ Hid ((∀ j, j < q → b.data.toList.getD j 0 = 0) ∧ Below w.heap.size w wr)) (fun i _ => 32 - (intOf i).toNat)
  case atStart => exact ⟨0, by omega, rfl, fun j hj => by omega, Below.refl _ _⟩
  case round =>
    obtain ⟨q, hq, rfl, I⟩ := hrel
    by_cases hq32 : q = 32
    · subst hq32
      rw [show ((32 : Nat) : Int) = 32 from rfl]
      have B0 : Hid (Below w.heap.size w wr) := I.out.2
      have Z0 : Hid (∀ j, j < 32 → b.data.toList.getD j 0 = 0) := I.out.1
      clear I
      go_wp2
      go_quiet (fail)
      have B1 : Hid (Below w.heap.size w (wr.drewN nq)) := below_drewN B0.out nq
      clear B0
      by_cases hbig : b.size < m + 34
      · have gb : (b.size : Int) - 32 - 2 < (m : Int) := by omega
        have NO : Hid (V = #[.string ⟨#[]⟩, .bool false]) := by
          show _ = _
          rw [← HV.out]
          exact txV_no _ (text_no2 _ (by rw [hl.out, HT.out]; omega))
        go_wp2
        go_ret2
        exact ⟨by rw [NO.out]; rfl, B1.out⟩
      · have gb : ¬ (b.size : Int) - 32 - 2 < (m : Int) := by omega
        have gb2 : (m : Int) ≤ (b.size : Int) - 32 - 2 := by omega
        obtain ⟨p, hp⟩ : ∃ p, 34 + m = p := ⟨_, rfl⟩
        have p0 : 34 + (m : Int) = (p : Int) := by omega
        have p1 : IntKind.i64.wrap (34 + (m : Int)) = (p : Int) := by rw [IntKind.wrap_i64]; omega
        have pb : (p : Int) ≤ (b.size : Int) := by omega
        have p34 : (34 : Int) ≤ (p : Int) := by omega
        go_wp2
        go_loopw [6] (fun i wx => ∃ q : Nat, q ≤ b.size ∧ i = .int .i64 (q : Int) ∧ Hid (34 + m ≤ q ∧ (∀ j, 34 + m ≤ j → j < q → b.data.toList.getD j 0 = 0) ∧ Below w.heap.size w wx)) (fun i _ => b.size - (intOf i).toNat)
        case atStart => exact ⟨p, by omega, rfl, by omega, fun j hj1 hj2 => by omega, B1.out⟩
        case round =>
          obtain ⟨q, hq, rfl, I⟩ := hrel
          by_cases hlt : q < b.size
          · have zq : (q : Int) < (b.size : Int) := by omega
            obtain ⟨z, hz⟩ : ∃ z, b[q] = z := ⟨_, rfl⟩
            have HZ : Hid (b.data.toList.getD q 0 = z) := by show _ = _; rw [ba_getD b q hlt, hz]
            by_cases h0z : z = 0
            · subst h0z
              have HQ : Hid (34 + m ≤ q) := I.out.1
              go_wp2
              go_roundw
              case rel => exact ⟨q + 1, by omega, by go_num, by have := HQ.out; omega, fun j hj1 hj2 => by
                by_cases e : j = q
                · rw [e]; exact HZ.out
                · exact I.out.2.1 j hj1 (by omega), I.out.2.2⟩
              case measure => simp [intOf]; omega
            · have nz : ¬ (z.toNat : Int) = 0 := fun h => h0z (UInt8.toNat_inj.1 (by simpa using h))
              have NO : Hid (V = #[.string ⟨#[]⟩, .bool false]) := by
                show _ = _
                rw [← HV.out]
                exact txV_no _ (text_no3 _ q (by rw [HT.out]; exact I.out.1) (by rw [hl.out]; exact hlt) (by rw [HZ.out]; exact h0z))
              go_wp2
              go_ret2
              exact ⟨by rw [NO.out]; rfl, I.out.2.2⟩
          · have zq : ¬ (q : Int) < (b.size : Int) := by omega
            have YES : Hid (V = #[.string (b.extract 34 p), .bool true]) := by
              show _ = _
              rw [← HV.out]
              have e := text_yes b.data.toList (by rw [hl.out]; omega) Z0.out (by rw [HT.out, hl.out]; omega) (fun j h1 h2 => by rw [HT.out] at h1; rw [hl.out] at h2; exact I.out.2.1 j h1 (by omega))
              rw [HT.out] at e
              rw [txV_yes _ _ e]
              have e2 : b.extract 34 p = ⟨((b.data.toList.drop 34).take m).toArray⟩ := by
                have e3 : (b.extract 34 p).data.toList = (b.data.toList.drop 34).take (p - 34) := by
                  have := ba_cut b.data.toList 34 p
                  rw [← ba_of (rfl : b.data.toList = b.data.toList)] at this
                  exact this
                rw [ba_of e3, ← hp, show 34 + m - 34 = m by omega]
              rw [e2]
            clear hp
            go_wp2
            go_ret2
            exact ⟨by rw [YES.out]; rfl, I.out.2.2⟩
    · have q32 : (q : Int) < 32 := by omega
      have lq : q < b.size := by omega
      have zq : (q : Int) < (b.size : Int) := by omega
      obtain ⟨z, hz⟩ : ∃ z, b[q] = z := ⟨_, rfl⟩
      have HZ : Hid (b.data.toList.getD q 0 = z) := by show _ = _; rw [ba_getD b q lq, hz]
      by_cases h0z : z = 0
      · subst h0z
        go_wp2
        go_roundw
        case rel => exact ⟨q + 1, by omega, by go_num, fun j hj => by
          by_cases e : j = q
          · rw [e]; exact HZ.out
          · exact I.out.1 j (by omega), I.out.2⟩
        case measure => simp [intOf]; omega
      · have nz : ¬ (z.toNat : Int) = 0 := fun h => h0z (UInt8.toNat_inj.1 (by simpa using h))
        have NO : Hid (V = #[.string ⟨#[]⟩, .bool false]) := by
          show _ = _
          rw [← HV.out]
          exact txV_no _ (text_no1 _ q (by omega) (by rw [hl.out]; omega) (by rw [HZ.out]; exact h0z))
        go_wp2
        go_ret2
        exact ⟨by rw [NO.out]; rfl, I.out.2⟩
end Go.Proofs.YtbkefhfbbhdpcaaDoor
