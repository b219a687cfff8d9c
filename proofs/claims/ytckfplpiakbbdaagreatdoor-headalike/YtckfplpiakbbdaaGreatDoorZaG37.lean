/- Headers: what is made of a path, list by list, the last one first: pure. -/
import Derived.Test.YtckfplpiakbbdaaGreatDoorZaG35
namespace Go.Proofs.YtckfplpiakbbdaaGreatDoor
open Go.RowKit Go.Proofs.Fd Go.Proofs.Hs Go.Proofs.Cc Go.Proofs.Hd Go.Proofs.Rt
set_option maxRecDepth 20000
def Lb (seed : ByteArray) (ss : List ByteArray) (hs : List Hp) (j : Nat) : ByteArray := ⟨(lsts hs.length (fun i => hflow (nth ss i)) (fun i => byt (hs.getD i zh)) (fun i l => hmacf (nth ss i) l) (drv seed.data.toList lPad 200) j).toArray⟩
theorem Lb_data (seed : ByteArray) (ss : List ByteArray) (hs : List Hp) (j : Nat) : (Lb seed ss hs j).data.toList = lsts hs.length (fun i => hflow (nth ss i)) (fun i => byt (hs.getD i zh)) (fun i l => hmacf (nth ss i) l) (drv seed.data.toList lPad 200) j := by unfold Lb; simp
theorem Lb_hlst (seed : ByteArray) (ss : List ByteArray) (hs : List Hp) (i : Nat) : (Lb seed ss hs (hs.length - 1 - i)).data.toList = hlst seed ss hs i := by rw [Lb_data]; unfold hlst; with_reducible rfl
def Ins (seed : ByteArray) (ss : List ByteArray) (hs : List Hp) : Nat → ByteArray
  | 0 => zba 16 ++ hdk seed lPad 200
  | j + 1 => hmb (nth ss (hs.length - 1 - j)) (Lb seed ss hs j) ++ Lb seed ss hs j
def En (ss : List ByteArray) (m : Nat) : Nat → ByteArray
  | 0 => fbs ss m
  | _ + 1 => ⟨#[]⟩
theorem Ins_zero (seed : ByteArray) (ss : List ByteArray) (hs : List Hp) : Ins seed ss hs 0 = zba 16 ++ hdk seed lPad 200 := by rw [Ins]
theorem Ins_succ (seed : ByteArray) (ss : List ByteArray) (hs : List Hp) (j : Nat) : Ins seed ss hs (j + 1) = hmb (nth ss (hs.length - 1 - j)) (Lb seed ss hs j) ++ Lb seed ss hs j := by rw [Ins]
theorem Lb_size (seed : ByteArray) (ss : List ByteArray) (hs : List Hp) (h : hs.all ok = true) (hn : 1 ≤ hs.length ∧ hs.length ≤ 5) (j : Nat) (hj : j < hs.length) : (Lb seed ss hs j).size = 200 := by
  obtain ⟨e, -⟩ := (hlst_are seed ss hs h hn).ends (hs.length - 1 - j) (by omega)
  rw [← Lb_hlst, list_sz, show hs.length - 1 - (hs.length - 1 - j) = j by omega] at e
  exact e
theorem Ins_size (seed : ByteArray) (ss : List ByteArray) (hs : List Hp) (h : hs.all ok = true) (hn : 1 ≤ hs.length ∧ hs.length ≤ 5) (j : Nat) (hj : j ≤ hs.length) : (Ins seed ss hs j).size = 216 := by
  cases j with
  | zero => rw [Ins_zero, ba_add, zba_size, hdk_size]
  | succ j => rw [Ins_succ, ba_add, hmb_size, Lb_size seed ss hs h hn j (by omega)]
theorem En_size (ss : List ByteArray) (m : Nat) (hm : m ≤ 6) (j : Nat) : (En ss m j).size = if j = 0 then 40 * m else 0 := by
  cases j with
  | zero => show (fbs ss m).size = _; rw [fbs_size ss m hm, if_pos rfl]
  | succ j => rw [if_neg (by omega)]; rfl
theorem Lb_step (seed : ByteArray) (ss : List ByteArray) (hs : List Hp) (h : hs.all ok = true) (hn : 1 ≤ hs.length ∧ hs.length ≤ 5) (m j i : Nat) (hm : m + 1 = hs.length) (hi : i + j = m) :
    htn (nth ss i) ((⟨(byt (hs.getD i zh)).toArray⟩ ++ Ins seed ss hs j).extract 0 (200 - (En ss m j).size)) ++ En ss m j = Lb seed ss hs j := by
  have e : (htn (nth ss i) ((⟨(byt (hs.getD i zh)).toArray⟩ ++ Ins seed ss hs j).extract 0 (200 - (En ss m j).size)) ++ En ss m j).data.toList = (Lb seed ss hs j).data.toList := by
    rw [ba_app]
    unfold htn
    have x1 : ∀ l : List UInt8, ((⟨l.toArray⟩ : ByteArray).data.toList) = l := fun l => by simp
    rw [x1]
    have x2 : ((⟨(byt (hs.getD i zh)).toArray⟩ ++ Ins seed ss hs j).extract 0 (200 - (En ss m j).size)).data.toList = (byt (hs.getD i zh) ++ (Ins seed ss hs j).data.toList).take (200 - (En ss m j).size) := by
      rw [ByteArray.data_extract, Array.toList_extract, List.extract_eq_take_drop, List.drop_zero, ba_app, x1, Nat.sub_zero]
    rw [x2, Lb_data, En_size ss m (by omega) j]
    cases j with
    | zero =>
      obtain rfl : i = m := by omega
      rw [lsts, if_pos rfl, Ins_zero, ba_app, zba_data, hdk_data, show hs.length - 1 = i by omega, List.append_assoc]
      rfl
    | succ j =>
      have l1 : (byt (hs.getD i zh)).length = 24 := byt_len' hs h i
      have l2 : (lsts hs.length (fun i => hflow (nth ss i)) (fun i => byt (hs.getD i zh)) (fun i l => hmacf (nth ss i) l) (drv seed.data.toList lPad 200) j).length = 200 := by
        rw [← Lb_data, list_sz, Lb_size seed ss hs h hn j (by omega)]
      rw [lsts, if_neg (by omega), Ins_succ, ba_app, Lb_data]
      have x3 : (hmb (nth ss (hs.length - 1 - j)) (Lb seed ss hs j)).data.toList = hmacf (nth ss (hs.length - 1 - j)) (lsts hs.length (fun i => hflow (nth ss i)) (fun i => byt (hs.getD i zh)) (fun i l => hmacf (nth ss i) l) (drv seed.data.toList lPad 200) j) := by
        unfold hmb; rw [x1, Lb_data]
      rw [x3, show hs.length - 2 - j = i by omega]
      have x4 : (En ss m (j + 1)).data.toList = [] := rfl
      rw [x4, List.append_nil]
      generalize lsts hs.length (fun i => hflow (nth ss i)) (fun i => byt (hs.getD i zh)) (fun i l => hmacf (nth ss i) l) (drv seed.data.toList lPad 200) j = L at *
      have l3 := hmacf_len (nth ss (hs.length - 1 - j)) L
      generalize hmacf (nth ss (hs.length - 1 - j)) L = M at *
      generalize byt (hs.getD i zh) = C at *
      congr 1
      rw [← List.append_assoc, List.take_append, List.length_append, l1, l3, List.take_of_length_le (by rw [List.length_append, l1, l3]; decide)]
  exact ByteArray.ext (Array.toList_inj.1 e)
theorem Ins_all (seed : ByteArray) (ss : List ByteArray) (hs : List Hp) (hn : 1 ≤ hs.length) : ptB seed [] ++ Ins seed ss hs hs.length = ⟨(hhead seed ss hs 0).toArray⟩ := by
  obtain ⟨m, hm⟩ : ∃ m, hs.length = m + 1 := ⟨hs.length - 1, by omega⟩
  apply ba_of
  have e : hs.length - 1 - m = 0 := by omega
  rw [ba_app]
  conv => lhs; rw [hm]
  rw [Ins_succ, e, ba_app]
  unfold hhead
  have x : (hmb (nth ss 0) (Lb seed ss hs m)).data.toList = hmacf (nth ss 0) (Lb seed ss hs m).data.toList := by unfold hmb; simp
  have y : (Lb seed ss hs m).data.toList = hlst seed ss hs 0 := by rw [← Lb_hlst, hm]; rfl
  rw [x, y, List.take_zero, List.map_nil, List.append_assoc]
end Go.Proofs.YtckfplpiakbbdaaGreatDoor
