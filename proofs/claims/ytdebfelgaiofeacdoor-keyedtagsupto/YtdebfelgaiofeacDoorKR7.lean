/- Pieces as the document joins and binds them. -/
import Derived.Test.YtdebfelgaiofeacDoorKR6
import Derived.Test.YtdebfelgaiofeacDoorLK4
import Derived.Test.YtdebfelgaiofeacDoorK9
namespace Go.Proofs.YtdebfelgaiofeacDoor
open Go.RowKit Go.Proofs.Fd Go.Proofs.Hs

theorem own_later {w w' : World} {base : Nat} {e : TypeId} {size : Nat} {v : Value} {n : Nat} {xs : List Value} (h : w.ownsRow base e size v n xs) (hb : Below w.heap.size w w') : w'.ownsRow base e size v n xs := by
  refine ⟨h.1, ?_⟩
  rcases h.2 with hn | ⟨g, cap, cur, rfl, hbg, hgg, rest⟩
  · exact .inl hn
  · refine .inr ⟨g, cap, cur, rfl, hbg, ?_, rest⟩
    rw [hb.block g (Array.getElem?_eq_some_iff.1 hgg).1]
    exact hgg

/-- Pieces as one text. -/
def jnd (ks : List ByteArray) : List UInt8 := ks.flatMap fun s => s.data.toList
theorem jnd_step (ks : List ByteArray) (k : Nat) (hk : k < ks.length) : jnd (ks.take (k + 1)) = jnd (ks.take k) ++ ks[k].data.toList := flat_step _ ks k hk
theorem jnd_le (ks : List ByteArray) (k : Nat) : (jnd (ks.take k)).length ≤ (jnd ks).length := flat_le ks k

set_option maxHeartbeats 1000000 in
theorem rJoined_any (a : Option Addr) (ks : List ByteArray) (n cap : Nat) (hn : Hid (ks.length = n)) (hn63 : n < 9223372036854775807) (hz : Hid ((jnd ks).length ≤ 140737488355328)) (w : World) (hc : Hid (StrAt w a ks)) :
    Calls Tryd.prog 13 #[.slice a n cap] w fun e w' => e = .returned (.string ⟨(jnd ks).toArray⟩) ∧ Below w.heap.size w w' := by
  obtain ⟨i0, hi, hz0, hz1, hz2⟩ := info_parts infoByte
  go_enter Tryd.func13, Tryd.ntmps13
  go_wp2
  go_loopw [3, 4] (fun sl i wr => ∃ k : Nat, k ≤ n ∧ i = .int .i64 (k : Int) ∧ Hid (wr.ownsRow w.heap.size 5 1 sl (jnd (ks.take k)).length (bcells (jnd (ks.take k))) ∧ Below w.heap.size w wr)) (fun _ i _ => n - (intOf i).toNat)
  case atStart => exact ⟨0, Nat.zero_le _, rfl, ⟨rfl, .inl ⟨rfl, rfl⟩⟩, Below.refl _ _⟩
  case round =>
    obtain ⟨k, hk1, rfl, I⟩ := hrel
    by_cases hlt : k < n
    · have hk' : k < ks.length := by have := hn.out; omega
      obtain ⟨b, o, rfl, hcell⟩ := StrAt.later hc.out I.out.2 rfl k hk'
      have HF : Hid (jnd (ks.take (k + 1)) = jnd (ks.take k) ++ ks[k].data.toList) := jnd_step ks k hk'
      have HL : Hid ((jnd (ks.take k)).length + ks[k].size ≤ 140737488355328) := by
        have h1 := jnd_le ks (k + 1)
        have h2 := hz.out
        have h3 := HF.out
        have h4 := congrArg List.length h3
        rw [List.length_append] at h4
        have h5 : ks[k].data.toList.length = ks[k].size := by simp
        show _ ≤ _
        omega
      generalize ks[k] = s at *
      have g1 : (k : Int) < (n : Int) := by omega
      obtain ⟨P0, hP0⟩ : ∃ P, jnd (ks.take k) = P := ⟨_, rfl⟩
      rw [hP0] at I HF HL
      clear hP0
      go_wp2_with (first
        | (at_builtin; refine Go.Lib.wpList_append_own_string _ rfl _ _ 36 9 rfl w.heap.size 5 i0 Tryd.underlying36 Tryd.underlying9 hi hz0 hz1 hz2 _ _ _ rfl I.out.1 s rfl (by have := HL.out; unfold maxLen; omega) (by have := HL.out; omega) I.out.2.size ?_; intro v1 w2 hown1 hgrow1 hnil1))
      go_roundw
      case rel =>
        refine ⟨k + 1, by omega, by go_num, ?_, ?_⟩
        · rw [HF.out, List.length_append]
          rw [strCells_eq] at hown1
          unfold bcells at *
          rw [List.map_append, show (s.data.toList.length) = s.size by simp]
          exact hown1
        · exact I.out.2.grown hgrow1 I.out.2.size (fun q hq => (I.out.1.lt q hq).1)
      case measure => simp [intOf]; omega
    · have hkn : k = n := by omega
      subst hkn
      have I2 : Hid (wr.ownsRow w.heap.size 5 1 u3 (jnd ks).length (bcells (jnd ks)) ∧ Below w.heap.size w wr) := by
        have := I.out
        rw [List.take_of_length_le (by have := hn.out; omega)] at this
        exact this
      have CV := own_string I2.out.1 wr (Below.refl _ _)
      go_wp2
      go_ret
      exact ⟨rfl, I2.out.2⟩

end Go.Proofs.YtdebfelgaiofeacDoor
