/- Parts: KR1, KR2, KR3. -/
import Derived.Test.YtbogoheigbiegaaDoorZgG05
import Derived.Test.YtbogoheigbiegaaDoorZgG07
namespace Go.Proofs.YtbogoheigbiegaaDoor
open Go.RowKit Go.Proofs.Fd Go.Proofs.Hs
set_option maxRecDepth 20000
attribute [local go_sem] and32 or32 xor32 add32 add32'
theorem turn_sum (x : UInt32) (n : Nat) : (tv x / 2 ^ n + tv x * 2 ^ (32 - n) % 4294967296) % 4294967296 = tv (trn x n) := by
  unfold tv trn
  rw [UInt32.toNat_ofNat']
  have e1 : (x.toNat : Int) / 2 ^ n = ((x.toNat / 2 ^ n : Nat) : Int) := by simp
  have e2 : (x.toNat : Int) * 2 ^ (32 - n) = ((x.toNat * 2 ^ (32 - n) : Nat) : Int) := by simp
  rw [e1, e2]
  omega
set_option maxHeartbeats 400000 in
theorem rturn_any (x : UInt32) (n : Nat) (h1 : 1 ≤ n) (h2 : n ≤ 31) (w : World) :
    Calls Tryd.prog 79 #[.int .u32 (tv x), .int .i64 (n : Int)] w fun e w' => e = .returned (.int .u32 (tv (trn x n))) ∧ ∃ m, w' = w.drewN m := by
  have HT : Hid (_ = _) := turn_sum x n
  obtain ⟨r, hr⟩ : ∃ r, 32 - n = r := ⟨_, rfl⟩
  rw [hr] at HT
  have g1 : IntKind.i64.wrap (32 - (n : Int)) = (r : Int) := by rw [IntKind.wrap_i64]; omega
  have g1' : 32 - (n : Int) = (r : Int) := by omega
  have g2 : (r : Int) ≤ 32 := by omega
  have g3 : (n : Int) ≤ 32 := by omega
  clear h1 h2 hr
  go_enter Tryd.func79, Tryd.ntmps79
  go_wp2
  go_quiet (fail)
  go_wp2
  go_ret
  exact ⟨by rw [← HT.out]; rfl, nq, rfl⟩
def WordsAt (w : World) (g : Nat) (l : List UInt32) : Prop := ∀ j (hj : j < l.length), w.cell? ⟨g, j, none⟩ = some (.int .u32 (tv l[j]))
theorem WordsAt.later {W w1 : World} {g : Nat} {l : List UInt32} (h : WordsAt W g l) (hb : Below W.heap.size W w1) : WordsAt w1 g l := fun j hj => cell_later hb (h j hj)
theorem kst_cells : kst.map (fun x => Value.int .u32 (tv x)) = (#[.int .u32 1116352408, .int .u32 1899447441, .int .u32 3049323471, .int .u32 3921009573, .int .u32 961987163, .int .u32 1508970993, .int .u32 2453635748, .int .u32 2870763221, .int .u32 3624381080, .int .u32 310598401, .int .u32 607225278, .int .u32 1426881987, .int .u32 1925078388, .int .u32 2162078206, .int .u32 2614888103, .int .u32 3248222580, .int .u32 3835390401, .int .u32 4022224774, .int .u32 264347078, .int .u32 604807628, .int .u32 770255983, .int .u32 1249150122, .int .u32 1555081692, .int .u32 1996064986, .int .u32 2554220882, .int .u32 2821834349, .int .u32 2952996808, .int .u32 3210313671, .int .u32 3336571891, .int .u32 3584528711, .int .u32 113926993, .int .u32 338241895, .int .u32 666307205, .int .u32 773529912, .int .u32 1294757372, .int .u32 1396182291, .int .u32 1695183700, .int .u32 1986661051, .int .u32 2177026350, .int .u32 2456956037, .int .u32 2730485921, .int .u32 2820302411, .int .u32 3259730800, .int .u32 3345764771, .int .u32 3516065817, .int .u32 3600352804, .int .u32 4094571909, .int .u32 275423344, .int .u32 430227734, .int .u32 506948616, .int .u32 659060556, .int .u32 883997877, .int .u32 958139571, .int .u32 1322822218, .int .u32 1537002063, .int .u32 1747873779, .int .u32 1955562222, .int .u32 2024104815, .int .u32 2227730452, .int .u32 2361852424, .int .u32 2428436474, .int .u32 2756734187, .int .u32 3204031479, .int .u32 3329325298] : Array Value).toList := by rfl
set_option maxRecDepth 10000 in
set_option maxHeartbeats 1000000 in
theorem rks_any (w : World) :
    Calls Tryd.prog 78 #[] w fun e w' => e = .returned (.slice (some ⟨w.heap.size, 0, none⟩) 64 64) ∧ WordsAt w' w.heap.size kst ∧ Below w.heap.size w w' := by
  go_enter Tryd.func78, Tryd.ntmps78
  go_wp2
  go_ret
  refine ⟨rfl, ?_, (Below.refl _ _).alloc (Nat.le_refl _) _⟩
  intro j hj
  have hc : (w.alloc (.cells #[.int .u32 1116352408, .int .u32 1899447441, .int .u32 3049323471, .int .u32 3921009573, .int .u32 961987163, .int .u32 1508970993, .int .u32 2453635748, .int .u32 2870763221, .int .u32 3624381080, .int .u32 310598401, .int .u32 607225278, .int .u32 1426881987, .int .u32 1925078388, .int .u32 2162078206, .int .u32 2614888103, .int .u32 3248222580, .int .u32 3835390401, .int .u32 4022224774, .int .u32 264347078, .int .u32 604807628, .int .u32 770255983, .int .u32 1249150122, .int .u32 1555081692, .int .u32 1996064986, .int .u32 2554220882, .int .u32 2821834349, .int .u32 2952996808, .int .u32 3210313671, .int .u32 3336571891, .int .u32 3584528711, .int .u32 113926993, .int .u32 338241895, .int .u32 666307205, .int .u32 773529912, .int .u32 1294757372, .int .u32 1396182291, .int .u32 1695183700, .int .u32 1986661051, .int .u32 2177026350, .int .u32 2456956037, .int .u32 2730485921, .int .u32 2820302411, .int .u32 3259730800, .int .u32 3345764771, .int .u32 3516065817, .int .u32 3600352804, .int .u32 4094571909, .int .u32 275423344, .int .u32 430227734, .int .u32 506948616, .int .u32 659060556, .int .u32 883997877, .int .u32 958139571, .int .u32 1322822218, .int .u32 1537002063, .int .u32 1747873779, .int .u32 1955562222, .int .u32 2024104815, .int .u32 2227730452, .int .u32 2361852424, .int .u32 2428436474, .int .u32 2756734187, .int .u32 3204031479, .int .u32 3329325298] 102)).cell? ⟨w.heap.size, j, none⟩ = (#[.int .u32 1116352408, .int .u32 1899447441, .int .u32 3049323471, .int .u32 3921009573, .int .u32 961987163, .int .u32 1508970993, .int .u32 2453635748, .int .u32 2870763221, .int .u32 3624381080, .int .u32 310598401, .int .u32 607225278, .int .u32 1426881987, .int .u32 1925078388, .int .u32 2162078206, .int .u32 2614888103, .int .u32 3248222580, .int .u32 3835390401, .int .u32 4022224774, .int .u32 264347078, .int .u32 604807628, .int .u32 770255983, .int .u32 1249150122, .int .u32 1555081692, .int .u32 1996064986, .int .u32 2554220882, .int .u32 2821834349, .int .u32 2952996808, .int .u32 3210313671, .int .u32 3336571891, .int .u32 3584528711, .int .u32 113926993, .int .u32 338241895, .int .u32 666307205, .int .u32 773529912, .int .u32 1294757372, .int .u32 1396182291, .int .u32 1695183700, .int .u32 1986661051, .int .u32 2177026350, .int .u32 2456956037, .int .u32 2730485921, .int .u32 2820302411, .int .u32 3259730800, .int .u32 3345764771, .int .u32 3516065817, .int .u32 3600352804, .int .u32 4094571909, .int .u32 275423344, .int .u32 430227734, .int .u32 506948616, .int .u32 659060556, .int .u32 883997877, .int .u32 958139571, .int .u32 1322822218, .int .u32 1537002063, .int .u32 1747873779, .int .u32 1955562222, .int .u32 2024104815, .int .u32 2227730452, .int .u32 2361852424, .int .u32 2428436474, .int .u32 2756734187, .int .u32 3204031479, .int .u32 3329325298] : Array Value)[j]? := World.cell?_alloc_new _ _ _ _
  have h2 : (#[.int .u32 1116352408, .int .u32 1899447441, .int .u32 3049323471, .int .u32 3921009573, .int .u32 961987163, .int .u32 1508970993, .int .u32 2453635748, .int .u32 2870763221, .int .u32 3624381080, .int .u32 310598401, .int .u32 607225278, .int .u32 1426881987, .int .u32 1925078388, .int .u32 2162078206, .int .u32 2614888103, .int .u32 3248222580, .int .u32 3835390401, .int .u32 4022224774, .int .u32 264347078, .int .u32 604807628, .int .u32 770255983, .int .u32 1249150122, .int .u32 1555081692, .int .u32 1996064986, .int .u32 2554220882, .int .u32 2821834349, .int .u32 2952996808, .int .u32 3210313671, .int .u32 3336571891, .int .u32 3584528711, .int .u32 113926993, .int .u32 338241895, .int .u32 666307205, .int .u32 773529912, .int .u32 1294757372, .int .u32 1396182291, .int .u32 1695183700, .int .u32 1986661051, .int .u32 2177026350, .int .u32 2456956037, .int .u32 2730485921, .int .u32 2820302411, .int .u32 3259730800, .int .u32 3345764771, .int .u32 3516065817, .int .u32 3600352804, .int .u32 4094571909, .int .u32 275423344, .int .u32 430227734, .int .u32 506948616, .int .u32 659060556, .int .u32 883997877, .int .u32 958139571, .int .u32 1322822218, .int .u32 1537002063, .int .u32 1747873779, .int .u32 1955562222, .int .u32 2024104815, .int .u32 2227730452, .int .u32 2361852424, .int .u32 2428436474, .int .u32 2756734187, .int .u32 3204031479, .int .u32 3329325298] : Array Value)[j]? = (kst.map (fun x => Value.int .u32 (tv x)))[j]? := by rw [kst_cells]; simp
  exact hc.trans (h2.trans (by rw [List.getElem?_map, List.getElem?_eq_getElem hj]; rfl))
end Go.Proofs.YtbogoheigbiegaaDoor
namespace Go.Proofs.YtbogoheigbiegaaDoor
open Go.RowKit Go.Proofs.Fd Go.Proofs.Hs
set_option maxRecDepth 20000
def wcells (l : List UInt32) : List Value := l.map fun x => .int .u32 (tv x)
theorem infoWord : (Tryd.prog.info? 102).map (fun i => (i.zero, i.size, i.bytes)) = some (some (.int .u32 0), 1, 4) := by kernel_rfl
theorem owns_words {w : World} {base n : Nat} {v : Value} {l : List UInt32} (h : w.ownsRow base 102 1 v n (wcells l)) : l.length = n ∧ ((v = .slice none 0 0 ∧ n = 0) ∨ ∃ g cap, v = .slice (some ⟨g, 0, none⟩) n cap ∧ WordsAt w g l) := by
  obtain ⟨h1, h2⟩ := h
  have hl : l.length = n := by simpa [wcells] using h1
  refine ⟨hl, ?_⟩
  rcases h2 with h2 | ⟨g, cap, cur, rfl, -, hh, -, -, -, ht⟩
  · exact .inl h2
  · refine .inr ⟨g, cap, rfl, fun j hj => ?_⟩
    have e : cur[j]? = (wcells l)[j]? := by
      rw [← ht, List.getElem?_take_of_lt (by omega)]; simp
    unfold World.cell?
    rw [hh]
    simp only [Option.isSome_none]
    show cur[j]? = _
    rw [e]; simp [wcells, hj]
theorem append_keep {w : World} (base : Nat) (ty : TypeId) (i : TypeInfo) (hi : Tryd.prog.info? 102 = some i) (hz : i.zero = some (.int .u32 0)) (hsize : i.size = 1) (hby : i.bytes = 4)
    (g n cap : Nat) (xs : List Value) (hown : w.ownsRow base 102 1 (.slice (some ⟨g, 0, none⟩) n cap) n xs)
    (a : Addr) (m c : Nat) (news : List Value) (hl : news.length = m * 1) (hnews : ∀ j u, news[j]? = some u → w.cell? (a.add j) = some u) (h1 : ∀ u ∈ news, u.oneCell' = true)
    (h63 : n + m ≤ maxLen) (hbytes : (n + m) * 4 ≤ 140737488355328) (hbase : base ≤ w.heap.size) :
    ∃ v' w', (Builtin.append_ #[118, 118] ty #[.slice (some ⟨g, 0, none⟩) n cap, .slice (some a) m c]).run Tryd.prog w = .ok v' w' ∧ w'.ownsRow base 102 1 v' (n + m) (xs ++ news) ∧ w.grownBy w' (some g) ∧
      (∀ j u, xs[j]? = some u → w'.cell? ⟨g, j, none⟩ = some u) := by
  obtain ⟨v', w', hr, ho, hg, -⟩ := run_append_own (P := Tryd.prog) w base 118 ty 102 i (.int .u32 0) 1 4 Tryd.underlying118 hi hz hsize hby rfl (by decide) _ n xs hown a m c news hl hnews h1 h63 hbytes hbase
  refine ⟨v', w', hr, ho, hg, fun j u hu => ?_⟩
  have hxl : xs.length = n := by simpa using hown.1
  have hj : j < n := by have := (List.getElem?_eq_some_iff.1 hu).1; omega
  rcases hown.2 with ⟨h, -⟩ | ⟨g', cap', cur, hv, hbg, hgh, hnc, hcm, hcs, htake⟩
  · cases h
  · cases hv
    have holds := hown.cells (g := g) rfl
    by_cases hroom : n + m ≤ cap
    · have hfit : n * i.size + news.length ≤ cur.size := by rw [hsize, hcs]; omega
      have hr2 := run_append_room (P := Tryd.prog) w 118 ty 102 i Tryd.underlying118 hi g n cap cur hgh a m c news (by rw [hsize]; exact hl) hnews h1 hroom hfit
      rw [hr] at hr2
      obtain ⟨rfl, -⟩ : v' = _ ∧ w' = _ := by injection hr2 with q1 q2; exact ⟨q1, q2⟩
      have := ho.cells (g := g) rfl j u (by rw [List.getElem?_append_left (by omega)]; exact hu)
      have q : Addr.add ⟨g, 0, none⟩ j = ⟨g, j, none⟩ := by simp [Addr.add]; intro h; exact h.symm
      rwa [q] at this
    · have hr2 := run_append_grow (P := Tryd.prog) w 118 ty 102 i (.int .u32 0) Tryd.underlying118 hi hz ⟨g, 0, none⟩ n cap xs (by rw [hsize]; exact hown.1) holds a m c news (by rw [hsize]; exact hl) hnews (by simp only [maxLen] at h63; omega) (by omega) (by rw [hby]; exact growslice_fits (by omega) hbytes)
      rw [hr] at hr2
      obtain ⟨-, rfl⟩ : v' = _ ∧ w' = _ := by injection hr2 with q1 q2; exact ⟨q1, q2⟩
      have := holds j u hu
      have q : Addr.add ⟨g, 0, none⟩ j = ⟨g, j, none⟩ := by simp [Addr.add]; intro h; exact h.symm
      rw [q] at this
      exact cell_alloc (W := w.drew) this
theorem wp_append_keep {w : World} {o : Oper} {a : Act} {K : Act → World → Prop} {Q : Exit → Act → World → Prop} (s x : Operand)
    (ho : o.op = .call { callee := .builtin .append, args := #[s, x], argTypes := #[118, 118] })
    (base : Nat) (i : TypeInfo) (hi : Tryd.prog.info? 102 = some i) (hz : i.zero = some (.int .u32 0)) (hsize : i.size = 1) (hby : i.bytes = 4)
    (g n cap : Nat) (xs : List Value) (hs : a.eval s = .slice (some ⟨g, 0, none⟩) n cap) (hown : w.ownsRow base 102 1 (.slice (some ⟨g, 0, none⟩) n cap) n xs)
    (ad : Addr) (m c : Nat) (news : List Value) (hx : a.eval x = .slice (some ad) m c) (hl : news.length = m * 1) (hnews : ∀ j u, news[j]? = some u → w.cell? (ad.add j) = some u) (h1 : ∀ u ∈ news, u.oneCell' = true)
    (h63 : n + m ≤ maxLen) (hbytes : (n + m) * 4 ≤ 140737488355328) (hbase : base ≤ w.heap.size)
    (h : ∀ v' w', w'.ownsRow base 102 1 v' (n + m) (xs ++ news) → w.grownBy w' (some g) → (∀ j u, xs[j]? = some u → w'.cell? ⟨g, j, none⟩ = some u) → K (a.put o.dst v') w') : o.wp Tryd.prog a w K Q := by
  obtain ⟨v', w', hr, h2, h3, h4⟩ := append_keep base o.type i hi hz hsize hby g n cap xs hown ad m c news hl hnews h1 h63 hbytes hbase
  unfold Oper.wp execOp
  simp only [ho, resolve, invoke, builtin, Sem.run_bind, Sem.run_pure, Result.andThen_ok, List.map_toArray, List.map_cons, List.map_nil, hs, hx, hr]
  exact h v' w' h2 h3 h4
end Go.Proofs.YtbogoheigbiegaaDoor
namespace Go.Proofs.YtbogoheigbiegaaDoor
open Go.RowKit Go.Proofs.Fd Go.Proofs.Hs
set_option maxRecDepth 20000
attribute [local go_sem] and32 or32 xor32 add32 add32'
theorem words_step : ∀ (k : Nat) (l : List UInt8), 4 * k + 4 ≤ l.length → words (l.take (4 * (k + 1))) = words (l.take (4 * k)) ++ [word4 (l.getD (4 * k) 0) (l.getD (4 * k + 1) 0) (l.getD (4 * k + 2) 0) (l.getD (4 * k + 3) 0)] := by
  intro k
  induction k with
  | zero =>
    intro l hl
    match l, hl with
    | a :: b :: c :: d :: r, _ => rfl
  | succ k ih =>
    intro l hl
    match l, hl with
    | a :: b :: c :: d :: r, hl =>
      have h := ih r (by simp at hl; omega)
      show word4 a b c d :: words (r.take (4 * (k + 1))) = word4 a b c d :: (words (r.take (4 * k)) ++ _)
      rw [h]
      congr 2
def lenV : Value → Nat
  | .slice _ n _ => n
  | _ => 0
theorem owns_len {w : World} {base n : Nat} {v : Value} {e : TypeId} {xs : List Value} (h : w.ownsRow base e 1 v n xs) : lenV v = n := by
  rcases h.2 with ⟨rfl, rfl⟩ | ⟨g, cap, cur, rfl, -⟩ <;> rfl
def pj (l : List UInt8) (q : Nat) : Nat → UInt32
  | 0 => 0
  | j + 1 => UInt32.ofNat ((pj l q j).toNat * 256 + (l.getD (q + j) 0).toNat)
theorem pj4 (l : List UInt8) (q : Nat) : pj l q 4 = word4 (l.getD q 0) (l.getD (q + 1) 0) (l.getD (q + 2) 0) (l.getD (q + 3) 0) := push4 0 _ _ _ _
theorem mulstep (x : UInt32) (c : UInt8) : (tv x * 256 % 4294967296 + (c.toNat : Int) % 4294967296) % 4294967296 = tv (UInt32.ofNat (x.toNat * 256 + c.toNat)) := by
  rw [tv_ofNat]
  unfold tv
  have := c.toNat_lt
  omega
theorem sch_step (r : List UInt32) (k : Nat) (hr : r.length = 16) (x16 x15 x7 x2 : UInt32) (h16 : (sch r k).getD k 0 = x16) (h15 : (sch r k).getD (k + 1) 0 = x15) (h7 : (sch r k).getD (k + 9) 0 = x7) (h2 : (sch r k).getD (k + 14) 0 = x2) :
    sch r (k + 1) = sch r k ++ [x16 + (trn x15 7 ^^^ trn x15 18 ^^^ UInt32.ofNat (x15.toNat / 2 ^ 3)) + x7 + (trn x2 17 ^^^ trn x2 19 ^^^ UInt32.ofNat (x2.toNat / 2 ^ 10))] := by
  rw [sch, grow, sch_len, hr]
  rw [show 16 + k - 16 = k by omega, show 16 + k - 15 = k + 1 by omega, show 16 + k - 7 = k + 9 by omega, show 16 + k - 2 = k + 14 by omega, h16, h15, h7, h2]
  rfl
def GrownPost (bk : ByteArray) (w : World) (e : Ending) (w' : World) : Prop := ∃ g cap, e = .returned (.slice (some ⟨g, 0, none⟩) 64 cap) ∧ WordsAt w' g (sch (words bk.data.toList) 48) ∧ Below w.heap.size w w' ∧ w.heap.size ≤ g
set_option maxRecDepth 10000 in
set_option maxHeartbeats 2000000 in
theorem rgrown_any (bk : ByteArray) (hb : bk.size = 64) (w : World) :
    Calls Tryd.prog 77 #[.string bk] w (GrownPost bk w) := by
  obtain ⟨i0, hi, hz0, hz1, hz2⟩ := info_parts infoWord
  have hl : Hid (bk.data.toList.length = 64) := by show bk.data.toList.length = 64; simpa using hb
  go_enter Tryd.func77, Tryd.ntmps77
  go_wp2
  go_loopw [3, 4] (fun sl i wr => ∃ k : Nat, k ≤ 16 ∧ i = .int .i64 ((4 * k : Nat) : Int) ∧ Hid (wr.ownsRow w.heap.size 102 1 sl k (wcells (words (bk.data.toList.take (4 * k)))) ∧ Below w.heap.size w wr)) (fun _ i _ => 64 - (intOf i).toNat)
  case atStart => exact ⟨0, by omega, rfl, ⟨rfl, .inl ⟨rfl, rfl⟩⟩, Below.refl _ _⟩
  case round =>
    obtain ⟨k, hk, rfl, I⟩ := hrel
    by_cases hk16 : k = 16
    · subst hk16
      have I2 : Hid (wr.ownsRow w.heap.size 102 1 u3 16 (wcells (words bk.data.toList)) ∧ Below w.heap.size w wr) := by
        have := I.out
        rw [List.take_of_length_le (by rw [hl.out]; exact Nat.le_refl _)] at this
        exact this
      have HR : Hid ((words bk.data.toList).length = 16) := words_len 16 _ (by rw [hl.out])
      obtain ⟨R, hR⟩ : ∃ R, words bk.data.toList = R := ⟨_, rfl⟩
      rw [hR] at I2 HR
      have HRR : Hid (words bk.data.toList = R) := hR
      clear hR I
      rw [show ((4 * 16 : Nat) : Int) = 64 from rfl]
      go_wp2
      go_loopw [3] (fun sl wx => ∃ k : Nat, k ≤ 48 ∧ Hid (wx.ownsRow w.heap.size 102 1 sl (16 + k) (wcells (sch R k)) ∧ Below w.heap.size w wx)) (fun sl _ => 64 - lenV sl)
      case atStart => exact ⟨0, by omega, I2.out⟩
      case round =>
        obtain ⟨k, hk, J⟩ := hrel
        obtain ⟨hlen, hor⟩ := owns_words J.out.1
        rcases hor with ⟨-, h⟩ | ⟨g, cap, rfl, hw⟩
        · exact absurd h (by omega)
        have HW : Hid (WordsAt wr g (sch R k) ∧ w.heap.size ≤ g) := ⟨hw, (J.out.1.lt g rfl).1⟩
        clear hw hlen
        obtain ⟨n, hn⟩ : ∃ n, 16 + k = n := ⟨_, rfl⟩
        rw [hn] at J
        rw [hn]
        by_cases hk48 : k = 48
        · subst hk48
          obtain rfl : n = 64 := by omega
          go_wp2
          go_ret
          exact ⟨g, cap, rfl, by rw [HRR.out]; exact HW.out.1, J.out.2, HW.out.2⟩
        · have at_ : ∀ j, j < n → wr.cell? ⟨g, j, none⟩ = some (.int .u32 (tv ((sch R k).getD j 0))) := fun j hj => by
            have h := HW.out.1 j (by rw [sch_len, HR.out]; omega)
            rw [List.getD_eq_getElem?_getD, List.getElem?_eq_getElem (by rw [sch_len, HR.out]; omega)]
            exact h
          obtain ⟨p15, hp15⟩ : ∃ p, k + 1 = p := ⟨_, rfl⟩
          obtain ⟨p7, hp7⟩ : ∃ p, k + 9 = p := ⟨_, rfl⟩
          obtain ⟨p2, hp2⟩ : ∃ p, k + 14 = p := ⟨_, rfl⟩
          obtain ⟨x16, h16⟩ : ∃ x, (sch R k).getD k 0 = x := ⟨_, rfl⟩
          obtain ⟨x15, h15⟩ : ∃ x, (sch R k).getD p15 0 = x := ⟨_, rfl⟩
          obtain ⟨x7, h7⟩ : ∃ x, (sch R k).getD p7 0 = x := ⟨_, rfl⟩
          obtain ⟨x2, h2⟩ : ∃ x, (sch R k).getD p2 0 = x := ⟨_, rfl⟩
          have SS : Hid (_ = _) := sch_step R k HR.out x16 x15 x7 x2 h16 (by rw [hp15]; exact h15) (by rw [hp7]; exact h7) (by rw [hp2]; exact h2)
          have C16 := at_ k (by omega)
          have C15 := at_ p15 (by omega)
          have C7 := at_ p7 (by omega)
          have C2 := at_ p2 (by omega)
          rw [h16] at C16
          rw [h15] at C15
          rw [h7] at C7
          rw [h2] at C2
          have X16 : Hid ((wcells (sch R k))[k]? = some (.int .u32 (tv x16)) ∧ (wcells (sch R k))[p7]? = some (.int .u32 (tv x7))) := by
            have hl := sch_len R k
            rw [HR.out] at hl
            constructor
            · rw [← h16]; simp [wcells, List.getElem?_eq_getElem (show k < (sch R k).length by omega)]
            · rw [← h7]; simp [wcells, List.getElem?_eq_getElem (show p7 < (sch R k).length by omega)]
          have a15 : (n : Int) - 15 = (p15 : Int) := by omega
          have a2 : (n : Int) - 2 = (p2 : Int) := by omega
          have a16 : (n : Int) - 16 = (k : Int) := by omega
          have a7 : (n : Int) - 7 = (p7 : Int) := by omega
          have w16 : IntKind.i64.wrap ((n : Int) - 16) = (k : Int) := by rw [IntKind.wrap_i64]; omega
          have w7 : IntKind.i64.wrap ((n : Int) - 7) = (p7 : Int) := by rw [IntKind.wrap_i64]; omega
          have wk : IntKind.i64.wrap (k : Int) = (k : Int) := by rw [IntKind.wrap_i64]; omega
          have wp7 : IntKind.i64.wrap (p7 : Int) = (p7 : Int) := by rw [IntKind.wrap_i64]; omega
          have b15 : (p15 : Int) < (n : Int) := by omega
          have b2 : (p2 : Int) < (n : Int) := by omega
          have b16 : (k : Int) < (n : Int) := by omega
          have b7 : (p7 : Int) < (n : Int) := by omega
          have g1 : (n : Int) < 64 := by omega
          have g2 : (16 : Int) ≤ (n : Int) := by omega
          have M3 : Hid (_ = _) := mov32 x15 3
          have M10 : Hid (_ = _) := mov32 x2 10
          have m3 : tv x15 / 8 = tv (UInt32.ofNat (x15.toNat / 2 ^ 3)) := M3.out
          have m10 : tv x2 / 1024 = tv (UInt32.ofNat (x2.toNat / 2 ^ 10)) := M10.out
          obtain ⟨y3, hy3⟩ : ∃ y, UInt32.ofNat (x15.toNat / 2 ^ 3) = y := ⟨_, rfl⟩
          obtain ⟨y10, hy10⟩ : ∃ y, UInt32.ofNat (x2.toNat / 2 ^ 10) = y := ⟨_, rfl⟩
          rw [hy3] at m3 SS
          rw [hy10] at m10 SS
          have T7 : Hid (∀ w, Calls Tryd.prog 79 #[.int .u32 (tv x15), .int .i64 7] w fun e w' => e = .returned (.int .u32 (tv (trn x15 7))) ∧ ∃ m, w' = w.drewN m) := fun w => rturn_any x15 7 (by decide) (by decide) w
          have T18 : Hid (∀ w, Calls Tryd.prog 79 #[.int .u32 (tv x15), .int .i64 18] w fun e w' => e = .returned (.int .u32 (tv (trn x15 18))) ∧ ∃ m, w' = w.drewN m) := fun w => rturn_any x15 18 (by decide) (by decide) w
          have T17 : Hid (∀ w, Calls Tryd.prog 79 #[.int .u32 (tv x2), .int .i64 17] w fun e w' => e = .returned (.int .u32 (tv (trn x2 17))) ∧ ∃ m, w' = w.drewN m) := fun w => rturn_any x2 17 (by decide) (by decide) w
          have T19 : Hid (∀ w, Calls Tryd.prog 79 #[.int .u32 (tv x2), .int .i64 19] w fun e w' => e = .returned (.int .u32 (tv (trn x2 19))) ∧ ∃ m, w' = w.drewN m) := fun w => rturn_any x2 19 (by decide) (by decide) w
          have HN : Hid (16 + k = n ∧ n < 64) := ⟨hn, by omega⟩
          clear hn hp15 hp7 hp2 h16 h15 h7 h2 at_ M3 M10 hy3 hy10 hk48 hk
          go_wp2
          go_quiet (fail)
          go_wp2
          go_region_held3 (fun w' => w'.cell? ⟨g, k, none⟩ = some (.int .u32 (tv x16)) ∧ w'.cell? ⟨g, p7, none⟩ = some (.int .u32 (tv x7))) (first | exact ⟨C16, C7⟩ | exact ⟨cell_alloc C16, cell_alloc C7⟩ | exact ⟨hkeep _ _ X16.out.1, hkeep _ _ X16.out.2⟩) (first | (go_at_call 79; revert T7; intro T7; refine Calls.mono (T7.out _) ?_; rintro e w7 ⟨rfl, n7, rfl⟩; clear T7) | (go_at_call 79; revert T18; intro T18; refine Calls.mono (T18.out _) ?_; rintro e w18 ⟨rfl, n18, rfl⟩; clear T18) | (go_at_call 79; revert T17; intro T17; refine Calls.mono (T17.out _) ?_; rintro e w17 ⟨rfl, n17, rfl⟩; clear T17) | (go_at_call 79; revert T19; intro T19; refine Calls.mono (T19.out _) ?_; rintro e w19 ⟨rfl, n19, rfl⟩; clear T19) | (rw [if_pos (by kernel_rfl)]; refine wp_append_keep (.tmp 46) (.tmp 76) rfl w.heap.size i0 hi hz0 hz1 hz2 g n cap (wcells (sch R k)) rfl (World.ownsRow.alloc (w := wr.drewN _) J.out.1 _) ⟨wr.heap.size, 0, none⟩ 1 1 [.int .u32 (tv (x16 + (trn x15 7 ^^^ trn x15 18 ^^^ y3) + x7 + (trn x2 17 ^^^ trn x2 19 ^^^ y10)))] rfl rfl (cell_one_new _ _ _) (by intro u hu; simp at hu; subst hu; rfl) (by have := HN.out; unfold maxLen; omega) (by have := HN.out; omega) (by have := J.out.2.size; simp; omega) ?_; intro v1 w2 hown1 hgrow1 hkeep))
          all_goals
            have NW : Hid (w2.ownsRow w.heap.size 102 1 v1 (16 + (k + 1)) (wcells (sch R (k + 1))) ∧ Below w.heap.size w w2) := by
              refine ⟨?_, ((below_drewN J.out.2 _).alloc (by have := J.out.2.size; simp; omega) _).grown hgrow1 (by have := J.out.2.size; simp; omega) (fun j hj => by cases hj; exact HW.out.2)⟩
              rw [SS.out, show 16 + (k + 1) = n + 1 by have := HN.out; omega]
              unfold wcells at *
              rw [List.map_append]
              exact hown1
            have NL : Hid (lenV v1 = 16 + (k + 1)) := owns_len NW.out.1
            clear hown1 hgrow1 hkeep
            go_wp2
            go_roundw
            case rel => exact ⟨k + 1, by have := HN.out; omega, NW.out⟩
            case measure =>
              have h1 := NL.out
              have h2 := HN.out
              simp only [lenV] at h1 ⊢
              simp [h1]
              try omega
    · have q64 : 4 * k < 64 := by omega
      obtain ⟨q, hq⟩ : ∃ q, 4 * k = q := ⟨_, rfl⟩
      have WS : Hid (words (bk.data.toList.take (4 * (k + 1))) = words (bk.data.toList.take (4 * k)) ++ [pj bk.data.toList q 4]) := by
        have h := words_step k bk.data.toList (by rw [hl.out]; omega)
        rw [pj4, ← hq]
        exact h
      have HQ : Hid (4 * k = q ∧ q + 4 ≤ 64) := ⟨hq, by omega⟩
      rw [hq]
      have q1 : (q : Int) < 64 := by omega
      clear hq q64
      go_wp2
      obtain ⟨W, rfl⟩ : ∃ W, W = wr := ⟨_, rfl⟩
      go_loopw [5, 6] (fun n i wx => ∃ j : Nat, j ≤ 4 ∧ i = .int .i64 (j : Int) ∧ n = .int .u32 (tv (pj bk.data.toList q j)) ∧ wx = W) (fun _ i _ => 4 - (intOf i).toNat)
      case atStart => exact ⟨0, by omega, rfl, rfl, rfl⟩
      case round =>
        obtain ⟨j, hj, rfl, rfl, hwx⟩ := hrel
        rw [hwx]
        clear hwx
        by_cases hj4 : j = 4
        · subst hj4
          go_wp2_with (first
            | (at_builtin; refine wpList_append_own _ rfl (.tmp 27) (.tmp 29) 118 rfl w.heap.size 102 i0 (.int .u32 0) 1 4 Tryd.underlying118 hi hz0 hz1 hz2 rfl (by decide) _ _ _ rfl (I.out.1.alloc _) ⟨W.heap.size, 0, none⟩ 1 1 [.int .u32 (tv (pj bk.data.toList q 4))] rfl rfl (cell_one_new _ _ _) (by intro u hu; simp at hu; subst hu; rfl) (by unfold maxLen; omega) (by omega) (by have := I.out.2.size; simp; omega) ?_; intro v1 w2 hown1 hgrow1 hnil1))
          go_roundw
          case rel =>
            refine ⟨k + 1, by omega, ?_, ?_, ?_⟩
            · have := HQ.out.1; congr 1; omega
            · rw [WS.out]; unfold wcells at *; rw [List.map_append]; exact hown1
            · exact (I.out.2.alloc I.out.2.size _).grown hgrow1 (by have := I.out.2.size; simp; omega) (fun j hj => (I.out.1.lt j hj).1)
          case measure => simp [intOf]; omega
        · have hqj : q + j < bk.size := by rw [hb]; have := HQ.out; omega
          have e1 : IntKind.i64.wrap ((q : Int) + (j : Int)) = ((q + j : Nat) : Int) := by rw [IntKind.wrap_i64]; omega
          have e2 : ((q + j : Nat) : Int) < (bk.size : Int) := by omega
          have MS : Hid ((tv (pj bk.data.toList q j) * 256 % 4294967296 + (bk[q + j].toNat : Int) % 4294967296) % 4294967296 = tv (pj bk.data.toList q (j + 1))) := by
            show _ = _
            rw [mulstep]
            show tv (UInt32.ofNat ((pj bk.data.toList q j).toNat * 256 + bk[q + j].toNat)) = tv (UInt32.ofNat ((pj bk.data.toList q j).toNat * 256 + (bk.data.toList.getD (q + j) 0).toNat))
            have : bk.data.toList.getD (q + j) 0 = bk[q + j] := by
              rw [List.getD_eq_getElem?_getD, List.getElem?_eq_getElem (by rw [hl.out]; omega)]; rfl
            rw [this]
          go_wp2
          go_roundw
          case rel => exact ⟨j + 1, by omega, by go_num, by rw [← MS.out], by first | rfl | trivial⟩
          case measure => simp [intOf]; omega
end Go.Proofs.YtbogoheigbiegaaDoor
