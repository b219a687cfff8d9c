/- Parts: W11,W12,W13,W14,W15,W16,W17. -/
import Derived.Test.YtgnkkjknngblbaaGreatDoorZmG03
import Derived.Test.YtgnkkjknngblbaaGreatDoorZmG02
import Derived.Laws.IdiomStrings
namespace Go.Proofs.YtgnkkjknngblbaaGreatDoor.Crv
open Go.RowKit Go.Proofs.Fd
set_option maxRecDepth 20000
attribute [local go_sem ↓] Go.wp_at_zero Go.wp_at_succ
theorem or_word (x b r:Nat) (hx:x < 2 ^ (r*8)) (hb:b < 256) (hr:r < 8) :
  bits .or .u64 (x:Int) (IntKind.u64.wrap (IntKind.u64.wrap (b:Int)*2 ^ (r*8)))=((x+2 ^ (r*8)*b:Nat):Int):=by
 have hlt:2 ^ (r*8)*256≤18446744073709551616:=by
  have e:2 ^ (r*8)*256=2 ^ (r*8+8):=by rw[Nat.pow_add]
  rw[e]
  have:(2:Nat) ^ (r*8+8)≤2 ^ 64:=Nat.pow_le_pow_right (by decide) (by omega)
  simpa using this
 exact or_step x b (r*8) (2 ^ (r*8)) _ (by simp) rfl hx hb hlt
set_option maxHeartbeats 1000000 in
theorem loadWide_any (s:ByteArray) (hs:s.size≤64) (w:World) :
  Calls Tryz.prog 150 #[.string s] w fun e w'=>∃c0 c1 c2 c3 c4 c5 c6 c7:Nat,e = .returned (.agg #[.int .u64 c0,.int .u64 c1,.int .u64 c2,.int .u64 c3,.int .u64 c4,.int .u64 c5,.int .u64 c6,.int .u64 c7])∧u4 c0 c1 c2 c3∧u4 c4 c5 c6 c7∧v4 c0 c1 c2 c3+W256*v4 c4 c5 c6 c7=num s.data.toList∧Below w.heap.size w w':=by
 go_enter Tryz.func150, Tryz.ntmps150
 go_wp2
 go_loopw [7] (fun i wr=>∃k:Nat,k≤s.size∧i = .int .i64 k∧(∀j,j < 8→wr.cell? ⟨w.heap.size+1,j,none⟩=some (.int .u64 (wd s.data.toList k j)))∧(∀o,wr.frozen? ⟨w.heap.size+1,o,none⟩=false)∧At8 wr w.heap.size (.int .u64 0) (.int .u64 0) (.int .u64 0) (.int .u64 0) (.int .u64 0) (.int .u64 0) (.int .u64 0) (.int .u64 0)∧Below w.heap.size w wr) (fun i _=>s.size - (intOf i).toNat)
 case atStart =>
  refine⟨0,Nat.zero_le _,rfl,?_,?_,?_,?_⟩
  ·intro j hj
   have:j=0∨j=1∨j=2∨j=3∨j=4∨j=5∨j=6∨j=7:=by omega
   rcases this with rfl|rfl|rfl|rfl|rfl|rfl|rfl|rfl <;> simp[go_sem,wd_zero]
  ·intro o;simp[go_sem]
  ·simp[At8,go_sem]
  ·exact ((Below.refl _ _).alloc (Nat.le_refl _) _).alloc (by simp) _
 case round =>
  obtain⟨k,hk,rfl,hc,hf,ha,hb⟩:=hrel
  have HA:Hid (At8 _ _ _ _ _ _ _ _ _ _):=ha
  have HB:Hid (Below _ _ _):=hb
  clear ha hb
  by_cases hlt:k < s.size
  ·obtain⟨j,hj⟩:∃j,k / 8=j:=⟨_,rfl⟩
   obtain⟨r,hr⟩:∃r,k % 8=r:=⟨_,rfl⟩
   have hj8:j < 8:=by omega
   have hr8:r < 8:=by omega
   have cj:=hc j hj8
   have HC:Hid (∀j,j < 8→wr.cell? ⟨w.heap.size+1,j,none⟩=some (.int .u64 (wd s.data.toList k j))):=hc
   have t1:Int.tdiv (k:Int) 8=(j:Int):=by rw[←hj];exact (Int.ofNat_tdiv k 8).symm
   have t2:Int.tmod (k:Int) 8=(r:Int):=by rw[←hr];exact (Int.ofNat_tmod k 8).symm
   have hl:s.data.toList.length=s.size:=by simp
   have V1:Hid (wd s.data.toList (k+1) j=wd s.data.toList k j+2 ^ (r*8)*s[k].toNat):=wd_this s.data.toList k j r (by omega) hj hr
   have V2:Hid (∀i,i≠j→wd s.data.toList (k+1) i=wd s.data.toList k i):=fun i hi=>wd_other s.data.toList k i (by omega) (by omega)
   have t3:bits .or .u64 ((wd s.data.toList k j:Nat):Int) (IntKind.u64.wrap (IntKind.u64.wrap (s[k].toNat:Int)*2 ^ (r*8)))=((wd s.data.toList (k+1) j:Nat):Int):=by
    rw[or_word _ _ _ (wd_small s.data.toList k j r (by omega) hj hr) s[k].toNat_lt hr8,V1.out]
   have b1:(0:Int)≤(j:Int):=by omega
   have b2:(j:Int) < 8:=by omega
   have b3:(0:Int)≤(k:Int):=by omega
   have b4:(k:Int) < (s.size:Int):=by omega
   clear hc hj hr hl
   go_wp2
   go_region
   go_wp2
   go_roundw
   case rel =>
    refine⟨k+1,by omega,by go_num,?_,?_,?_,?_⟩
    ·intro i hi
     by_cases hij:i=j
     ·subst hij;simp[go_sem,cj]
     ·rw[V2.out i hij]
      have:=HC.out i hi
      simp only[World.cell?_drew]
      rw[World.cell?_setCell_other _ _ _ _ (by simp;try omega)]
      exact this
    ·intro o;simp[go_sem,hf]
    ·exact (At8.set HA.out (by simp) _).drew
    ·exact ((HB.out.setCell (by simp) _).drew)
   case measure=>simp[intOf];omega
  ·have hks:k=s.size:=by omega
   subst hks
   have c0:=hc 0 (by omega);have c1:=hc 1 (by omega);have c2:=hc 2 (by omega);have c3:=hc 3 (by omega)
   have c4:=hc 4 (by omega);have c5:=hc 5 (by omega);have c6:=hc 6 (by omega);have c7:=hc 7 (by omega)
   obtain⟨rf,r0,r1,r2,r3,r4,r5,r6,r7⟩:=HA.out
   clear hc hf
   go_wp2
   have hl:s.data.toList.length=s.size:=by simp
   have WA:=wd_all s.data.toList (by omega)
   rw[hl] at WA
   refine bodyPost_ret (v := .agg #[.int .u64 (wd s.data.toList s.size 0),.int .u64 (wd s.data.toList s.size 1),.int .u64 (wd s.data.toList s.size 2),.int .u64 (wd s.data.toList s.size 3),.int .u64 (wd s.data.toList s.size 4),.int .u64 (wd s.data.toList s.size 5),.int .u64 (wd s.data.toList s.size 6),.int .u64 (wd s.data.toList s.size 7)]) (by simp[results,Tryz.results150, go_sem, *]) rfl ⟨_,_,_,_,_,_,_,_,rfl,⟨wd_lt _ _ _,wd_lt _ _ _,wd_lt _ _ _,wd_lt _ _ _⟩,⟨wd_lt _ _ _,wd_lt _ _ _,wd_lt _ _ _,wd_lt _ _ _⟩,WA,?_⟩
   repeat (first|refine Below.setCell ?_ (by simp) _|exact HB.out)
end Go.Proofs.YtgnkkjknngblbaaGreatDoor.Crv
namespace Go.Proofs.YtgnkkjknngblbaaGreatDoor.Crv
open Go.RowKit Go.Proofs.Fd
set_option maxRecDepth 20000
theorem byte_cell (x k:Nat):some (Value.int .u8 ((x:Int) / (k:Int) % 256))=some (.int .u8 ((UInt8.ofNat (x / k % 256)).toNat:Int)):=by
 have:(UInt8.ofNat (x / k % 256)).toNat=x / k % 256:=by simp
 rw[this];rfl
theorem byte_cell0 (x:Nat):some (Value.int .u8 ((x:Int) % 256))=some (.int .u8 ((UInt8.ofNat (x % 256)).toNat:Int)):=by
 have:(UInt8.ofNat (x % 256)).toNat=x % 256:=by simp
 rw[this];rfl
theorem conv_back (b:Nat) (l:List UInt8) (hl:l.length=32) (W:World) (hc:∀j (hj:j < l.length),W.cell? ⟨b,j,none⟩=some (.int .u8 (l[j].toNat:Int))) :
  (convert 43 9 (.slice (some ⟨b,0,none⟩) 32 32)).run Tryz.prog W = .ok (.string ⟨l.toArray⟩) W:=by
 have:=run_convert_bytes_back (P:=Tryz.prog) W 43 9 5 ⟨b,0,none⟩ 32 l Tryz.underlying43 Tryz.underlying5 Tryz.underlying9 (fun j hj=>by
  have q:Addr.add ⟨b,0,none⟩ j=⟨b,j,none⟩:=by simp[Addr.add];intro h;exact h.symm
  rw[q];exact hc j hj)
 rw[hl] at this
 exact this
theorem bytes_at (a0 a1 a2 a3 j:Nat) (hj:j < (b8 a0++(b8 a1++(b8 a2++b8 a3))).length) :
  (#[.int .u8 ((a0:Int) % 256),.int .u8 ((a0:Int) / 256 % 256),.int .u8 ((a0:Int) / 65536 % 256),.int .u8 ((a0:Int) / 16777216 % 256),.int .u8 ((a0:Int) / 4294967296 % 256),.int .u8 ((a0:Int) / 1099511627776 % 256),.int .u8 ((a0:Int) / 281474976710656 % 256),.int .u8 ((a0:Int) / 72057594037927936 % 256),.int .u8 ((a1:Int) % 256),.int .u8 ((a1:Int) / 256 % 256),.int .u8 ((a1:Int) / 65536 % 256),.int .u8 ((a1:Int) / 16777216 % 256),.int .u8 ((a1:Int) / 4294967296 % 256),.int .u8 ((a1:Int) / 1099511627776 % 256),.int .u8 ((a1:Int) / 281474976710656 % 256),.int .u8 ((a1:Int) / 72057594037927936 % 256),.int .u8 ((a2:Int) % 256),.int .u8 ((a2:Int) / 256 % 256),.int .u8 ((a2:Int) / 65536 % 256),.int .u8 ((a2:Int) / 16777216 % 256),.int .u8 ((a2:Int) / 4294967296 % 256),.int .u8 ((a2:Int) / 1099511627776 % 256),.int .u8 ((a2:Int) / 281474976710656 % 256),.int .u8 ((a2:Int) / 72057594037927936 % 256),.int .u8 ((a3:Int) % 256),.int .u8 ((a3:Int) / 256 % 256),.int .u8 ((a3:Int) / 65536 % 256),.int .u8 ((a3:Int) / 16777216 % 256),.int .u8 ((a3:Int) / 4294967296 % 256),.int .u8 ((a3:Int) / 1099511627776 % 256),.int .u8 ((a3:Int) / 281474976710656 % 256),.int .u8 ((a3:Int) / 72057594037927936 % 256)]:Array Value)[j]?=some (.int .u8 (((b8 a0++(b8 a1++(b8 a2++b8 a3)))[j]'hj).toNat:Int)):=by
 have hj':j < 32:=hj
 match j,hj' with
 | 0,_=>exact byte_cell0 a0
 | 1,_=>exact byte_cell a0 256
 | 2,_=>exact byte_cell a0 65536
 | 3,_=>exact byte_cell a0 16777216
 | 4,_=>exact byte_cell a0 4294967296
 | 5,_=>exact byte_cell a0 1099511627776
 | 6,_=>exact byte_cell a0 281474976710656
 | 7,_=>exact byte_cell a0 72057594037927936
 | 8,_=>exact byte_cell0 a1
 | 9,_=>exact byte_cell a1 256
 | 10,_=>exact byte_cell a1 65536
 | 11,_=>exact byte_cell a1 16777216
 | 12,_=>exact byte_cell a1 4294967296
 | 13,_=>exact byte_cell a1 1099511627776
 | 14,_=>exact byte_cell a1 281474976710656
 | 15,_=>exact byte_cell a1 72057594037927936
 | 16,_=>exact byte_cell0 a2
 | 17,_=>exact byte_cell a2 256
 | 18,_=>exact byte_cell a2 65536
 | 19,_=>exact byte_cell a2 16777216
 | 20,_=>exact byte_cell a2 4294967296
 | 21,_=>exact byte_cell a2 1099511627776
 | 22,_=>exact byte_cell a2 281474976710656
 | 23,_=>exact byte_cell a2 72057594037927936
 | 24,_=>exact byte_cell0 a3
 | 25,_=>exact byte_cell a3 256
 | 26,_=>exact byte_cell a3 65536
 | 27,_=>exact byte_cell a3 16777216
 | 28,_=>exact byte_cell a3 4294967296
 | 29,_=>exact byte_cell a3 1099511627776
 | 30,_=>exact byte_cell a3 281474976710656
 | 31,_=>exact byte_cell a3 72057594037927936
 | n+32,h=>omega
set_option maxHeartbeats 4000000 in
theorem store_any (a0 a1 a2 a3:Nat) (ha:Hid (u4 a0 a1 a2 a3)) (w:World) :
  Calls Tryz.prog 129 #[.agg #[.int .u64 a0,.int .u64 a1,.int .u64 a2,.int .u64 a3]] w fun e w'=>e = .returned (.string ⟨(byts 32 (v4 a0 a1 a2 a3)).toArray⟩)∧Below w.heap.size w w':=by
 have ia0:∀w,(Instr.index 160 (.agg #[.int .u64 a0,.int .u64 a1,.int .u64 a2,.int .u64 a3]) (.int .i64 0)).run Tryz.prog w = .ok (.int .u64 a0) w:=fun _=>by kernel_rfl
 have ia1:∀w,(Instr.index 160 (.agg #[.int .u64 a0,.int .u64 a1,.int .u64 a2,.int .u64 a3]) (.int .i64 1)).run Tryz.prog w = .ok (.int .u64 a1) w:=fun _=>by kernel_rfl
 have ia2:∀w,(Instr.index 160 (.agg #[.int .u64 a0,.int .u64 a1,.int .u64 a2,.int .u64 a3]) (.int .i64 2)).run Tryz.prog w = .ok (.int .u64 a2) w:=fun _=>by kernel_rfl
 have ia3:∀w,(Instr.index 160 (.agg #[.int .u64 a0,.int .u64 a1,.int .u64 a2,.int .u64 a3]) (.int .i64 3)).run Tryz.prog w = .ok (.int .u64 a3) w:=fun _=>by kernel_rfl
 have hmk:∀w:World,(Instr.makeSlice 43 (.int .i64 0) (.int .i64 32)).run Tryz.prog w = .ok (.slice (some ⟨w.heap.size,0,none⟩) 0 32) (w.alloc (.cells #[.int .u8 0,.int .u8 0,.int .u8 0,.int .u8 0,.int .u8 0,.int .u8 0,.int .u8 0,.int .u8 0,.int .u8 0,.int .u8 0,.int .u8 0,.int .u8 0,.int .u8 0,.int .u8 0,.int .u8 0,.int .u8 0,.int .u8 0,.int .u8 0,.int .u8 0,.int .u8 0,.int .u8 0,.int .u8 0,.int .u8 0,.int .u8 0,.int .u8 0,.int .u8 0,.int .u8 0,.int .u8 0,.int .u8 0,.int .u8 0,.int .u8 0,.int .u8 0] 5)):=fun _=>by kernel_rfl
 go_enter Tryz.func129, Tryz.ntmps129
 go_wp2
 refine wp_loop_rounds 5 ?_
 rw[rounds_succ]
 go_wp2
 rw[rounds_succ]
 go_wp2
 rw[rounds_succ]
 go_wp2
 rw[rounds_succ]
 go_wp2
 rw[rounds_succ]
 go_wp2
 rw[conv_back (w.heap.size+1) (b8 a0++(b8 a1++(b8 a2++b8 a3))) rfl _ ?hc]
 case hc =>
  intro j hj
  refine cell_alloc (cell_alloc (cell_alloc (cell_alloc ?_)))
  rw[show w.heap.size+1=(w.alloc (.cells #[.int .u64 a0,.int .u64 a1,.int .u64 a2,.int .u64 a3] 160)).heap.size by simp,World.cell?_alloc_new]
  exact bytes_at a0 a1 a2 a3 j hj
 go_wp2
 go_ret
 refine⟨by rw[byts32 _ _ _ _ ha.out];rfl,?_⟩
 repeat (first|refine Below.setCell ?_ (by simp;try omega) _|refine Below.drew ?_|refine Below.alloc ?_ (by simp;try omega) _|exact Below.refl _ _)
end Go.Proofs.YtgnkkjknngblbaaGreatDoor.Crv
namespace Go.Proofs.YtgnkkjknngblbaaGreatDoor.Crv
open Go.RowKit Go.Proofs.Fd
set_option maxRecDepth 20000
theorem ret_i64 {a b:Int} (h:a=b):Ending.returned (.int .i64 a) = .returned (.int .i64 b):=by rw[h]
set_option maxHeartbeats 1000000 in
theorem Check_any (s:ByteArray) (w:World) :
  Calls Tryz.prog 183 #[.string s] w fun e w'=>e = .returned (.int .i64 (chk s))∧Below w.heap.size w w':=by
 by_cases hs:s.size=32
 ·have hn:((s.size:Int) != 32)=false:=by simp[hs]
  have HS:Hid (s.size=32):=hs
  clear hs
  go_enter Tryz.func183, Tryz.ntmps183
  go_wp2_with fail
  refine Calls.mono (load_any s HS.out _) ?_
  rintro e w1 ⟨c0,c1,c2,c3,rfl,uc,vc,hb1⟩
  have UC:Hid (u4 c0 c1 c2 c3):=uc
  have VC:Hid (v4 c0 c1 c2 c3=num s.data.toList∧Below w.heap.size w w1):=⟨vc,hb1⟩
  clear uc vc hb1
  go_wp2_with fail
  refine Calls.mono (below_any c0 c1 c2 c3 UC _) ?_
  rintro e w2 ⟨rfl,hb2⟩
  have HB:Hid (Below w.heap.size w w2):=chain VC.out.2 hb2
  clear hb2
  by_cases hlt:v4 c0 c1 c2 c3 < p
  ·have hd:decide (v4 c0 c1 c2 c3 < p)=true:=by simpa using hlt
   have fin:Hid (chk s=0):=by show chk s=0;unfold chk;rw[if_pos HS.out,if_pos (by rw[←VC.out.1];exact hlt)]
   clear hlt
   go_wp2
   go_ret
   exact⟨ret_i64 fin.out.symm,HB.out⟩
  ·have hd:decide (v4 c0 c1 c2 c3 < p)=false:=by simpa using hlt
   have fin:Hid (chk s=1):=by show chk s=1;unfold chk;rw[if_pos HS.out,if_neg (by rw[←VC.out.1];exact hlt)]
   clear hlt
   go_wp2
   go_ret
   exact⟨ret_i64 fin.out.symm,HB.out⟩
 ·have hn:((s.size:Int) != 32)=true:=by simp;omega
  have fin:Hid (chk s=3):=by show chk s=3;unfold chk;rw[if_neg hs]
  clear hs
  go_enter Tryz.func183, Tryz.ntmps183
  go_wp2
  go_ret
  exact⟨ret_i64 fin.out.symm,Below.refl _ _⟩
def StrAt (w:World) (a:Option Addr) (ss:List ByteArray):Prop:=∀i (h:i < ss.length),∃b o,a=some ⟨b,o,none⟩∧w.cell? ⟨b,o+i,none⟩=some (.string ss[i])
theorem StrAt.later {W w1:World} {a:Option Addr} {ss:List ByteArray} (h:StrAt W a ss) (hb:Below W.heap.size W w1):StrAt w1 a ss:=fun i hi=>by
 obtain⟨b,o,e,hc⟩:=h i hi
 exact⟨b,o,e,cell_later hb hc⟩
set_option maxHeartbeats 1000000 in
theorem checkList_any (a:Option Addr) (ss:List ByteArray) (n cap:Nat) (hn:Hid (ss.length=n)) (hm:n≤9223372036854775807) (w:World) (hc:Hid (StrAt w a ss)) :
  Calls Tryz.prog 178 #[.slice a n cap] w fun e w'=>e = .returned (.int .i64 (chkList ss))∧Below w.heap.size w w':=by
 go_enter Tryz.func178, Tryz.ntmps178
 go_wp2
 go_loopw [8] (fun i wr=>∃k:Nat,k≤n∧i = .int .i64 k∧Hid (chkAll (ss.take k)=0∧Below w.heap.size w wr)) (fun i _=>n - (intOf i).toNat)
 case atStart=>exact⟨0,Nat.zero_le _,rfl,rfl,Below.refl _ _⟩
 case round =>
  obtain⟨k,hk,rfl,I⟩:=hrel
  by_cases hlt:k < n
  ·have hk':k < ss.length:=by have:=hn.out;omega
   obtain⟨b,o,rfl,hcell⟩:=StrAt.later hc.out I.out.2 k hk'
   have HI:Hid (∀h:k < ss.length,chkAll (ss.take k)=0→¬chk ss[k]=0→chkAll ss=chk ss[k]):=fun h a b=>chkAll_found ss k h a b
   have HT:Hid (chkAll (ss.take (k+1))=chk ss[k]):=chkAll_take_succ ss k hk' I.out.1
   obtain⟨s,hs⟩:∃s,ss[k]=s:=⟨_,rfl⟩
   rw[hs] at hcell
   have HS:Hid (ss[k]=s):=hs
   clear hs
   go_wp2_with fail
   refine Calls.mono (Check_any s _) ?_
   rintro e w1 ⟨rfl,hb1⟩
   have HB:Hid (Below w.heap.size w w1):=chain I.out.2 hb1
   clear hb1
   by_cases h0:chk s=0
   ·have hz:(chk s != 0)=false:=by simp[h0]
    have H0:Hid (chk s=0):=h0
    clear h0
    go_wp2
    go_roundw
    case rel=>exact⟨k+1,by omega,by go_num,by rw[HT.out,HS.out];exact H0.out,HB.out⟩
    case measure=>simp[intOf];omega
   ·have hz:(chk s != 0)=true:=by simp[h0]
    have fin:Hid (chkList ss=chk s):=by
     show chkList ss=chk s
     have q:=HI.out hk' I.out.1 (by rw[HS.out];exact h0)
     rw[HS.out] at q
     unfold chkList;rw[q,if_neg h0]
    clear h0
    go_wp2
    go_ret
    exact⟨ret_i64 fin.out.symm,HB.out⟩
  ·have hkn:k=n:=by omega
   subst hkn
   have CA:Hid (chkAll ss=0):=by
    have:=I.out.1;rw[List.take_of_length_le (by have:=hn.out;omega)] at this;exact this
   by_cases h1:k≤100
   ·have hg:¬(100:Int) < (k:Int):=by omega
    have fin:Hid (chkList ss=0):=by show chkList ss=0;unfold chkList;rw[if_pos CA.out,if_pos (by have:=hn.out;omega)]
    go_wp2
    go_ret
    exact⟨ret_i64 fin.out.symm,I.out.2⟩
   ·have hg:(100:Int) < (k:Int):=by omega
    have fin:Hid (chkList ss=2):=by show chkList ss=2;unfold chkList;rw[if_pos CA.out,if_neg (by have:=hn.out;omega)]
    go_wp2
    go_ret
    exact⟨ret_i64 fin.out.symm,I.out.2⟩
end Go.Proofs.YtgnkkjknngblbaaGreatDoor.Crv
namespace Go.Proofs.YtgnkkjknngblbaaGreatDoor.Crv
open Go.RowKit Go.Proofs.Fd
set_option maxRecDepth 20000
def two (s:ByteArray) (e:Int):Ending := .returned (.tuple #[.string s,.int .i64 e])
set_option maxHeartbeats 1000000 in
theorem Small_ok (n:Nat) (hn:n≤2147483647) (w:World) :
  Calls Tryz.prog 100 #[.int .i64 n] w fun e w'=>e=two (enc n) 0∧Below w.heap.size w w':=by
 have S0:Hid (∀w,Calls Tryz.prog 129 #[.agg #[.int .u64 n,.int .u64 0,.int .u64 0,.int .u64 0]] w fun e w'=>e = .returned (.string (enc n))∧Below w.heap.size w w'):=fun w=>by
  have q:=store_any n 0 0 0 (by unfold Hid u4;omega) w
  rw[show v4 n 0 0 0=n by unfold v4;omega] at q
  exact q
 have h0:¬(n:Int) < 0:=by omega
 have h1:¬(2147483647:Int) < (n:Int):=by omega
 have d0:decide ((n:Int) < 0)=false:=by simp
 have hw:IntKind.u64.wrap (n:Int)=(n:Int):=by rw[IntKind.wrap_u64];omega
 go_enter Tryz.func100, Tryz.ntmps100
 go_wp2_with fail
 refine Calls.mono (S0.out _) ?_
 rintro e w1 ⟨rfl,hb⟩
 have HB:Hid (Below w.heap.size w w1):=hb
 clear hb
 go_wp2
 go_ret2
 exact⟨rfl,HB.out⟩
set_option maxHeartbeats 1000000 in
theorem Reduce_ok (s:ByteArray) (hs:s.size≤64) (w:World) :
  Calls Tryz.prog 118 #[.string s] w fun e w'=>e=two (enc (num s.data.toList % p)) 0∧Below w.heap.size w w':=by
 have hg:¬(64:Int) < (s.size:Int):=by omega
 have HS:Hid (s.size≤64):=hs
 clear hs
 go_enter Tryz.func118, Tryz.ntmps118
 go_wp2_with fail
 refine Calls.mono (loadWide_any s HS.out _) ?_
 rintro e w1 ⟨c0,c1,c2,c3,c4,c5,c6,c7,rfl,u1,u2,v1,hb1⟩
 have U1:Hid (u4 c0 c1 c2 c3):=u1
 have U2:Hid (u4 c4 c5 c6 c7):=u2
 have V:Hid (v4 c0 c1 c2 c3+W256*v4 c4 c5 c6 c7=num s.data.toList∧Below w.heap.size w w1):=⟨v1,hb1⟩
 clear u1 u2 v1 hb1
 go_wp2_with fail
 refine Calls.mono (fold_any c0 c1 c2 c3 c4 c5 c6 c7 U1 U2 _) ?_
 rintro e w2 ⟨d0,d1,d2,d3,rfl,ud,vd,hb2⟩
 have UD:Hid (u4 d0 d1 d2 d3):=ud
 have VD:Hid (v4 d0 d1 d2 d3=num s.data.toList % p∧Below w.heap.size w w2):=⟨by rw[vd,V.out.1],chain V.out.2 hb2⟩
 clear ud vd hb2 V
 go_wp2_with fail
 refine Calls.mono (store_any d0 d1 d2 d3 UD _) ?_
 rintro e w3 ⟨rfl,hb3⟩
 have HB:Hid (Below w.heap.size w w3):=chain VD.out.2 hb3
 have E:Hid ((⟨(byts 32 (v4 d0 d1 d2 d3)).toArray⟩:ByteArray)=enc (num s.data.toList % p)):=by show _=_;rw[VD.out.1];rfl
 clear hb3
 go_wp2
 go_ret2
 refine⟨?_,HB.out⟩
 show Ending.returned (.tuple #[.string ⟨(byts 32 (v4 d0 d1 d2 d3)).toArray⟩,.int .i64 0])=two (enc (num s.data.toList % p)) 0
 rw[E.out];rfl
set_option maxHeartbeats 1000000 in
theorem Inv_ok (s:ByteArray) (hs:Hid (chk s=0)) (w:World) :
  Calls Tryz.prog 169 #[.string s] w fun e w'=>e=two (enc (num s.data.toList ^ (p - 2) % p)) 0∧Below w.heap.size w w':=by
 have C:Hid (∀w,Calls Tryz.prog 183 #[.string s] w fun e w'=>e = .returned (.int .i64 0)∧Below w.heap.size w w'):=fun w=>by
  have:=Check_any s w;rw[hs.out] at this;exact this
 go_enter Tryz.func169, Tryz.ntmps169
 go_wp2_with fail
 refine Calls.mono (C.out _) ?_
 rintro e w0 ⟨rfl,hb0⟩
 have B0:Hid (Below w.heap.size w w0):=hb0
 clear hb0
 go_wp2_with fail
 refine Calls.mono (load_any s (chk_zero hs.out).1 _) ?_
 rintro e w1 ⟨c0,c1,c2,c3,rfl,u1,v1,hb1⟩
 have U1:Hid (u4 c0 c1 c2 c3):=u1
 have V:Hid (v4 c0 c1 c2 c3=num s.data.toList∧Below w.heap.size w w1):=⟨v1,chain B0.out hb1⟩
 clear u1 v1 hb1
 go_wp2_with fail
 refine Calls.mono (invert_any c0 c1 c2 c3 U1 _) ?_
 rintro e w2 ⟨d0,d1,d2,d3,rfl,ud,vd,hb2⟩
 have UD:Hid (u4 d0 d1 d2 d3):=ud
 have VD:Hid (v4 d0 d1 d2 d3=num s.data.toList ^ (p - 2) % p∧Below w.heap.size w w2):=⟨by rw[vd,V.out.1],chain V.out.2 hb2⟩
 clear ud vd hb2 V
 go_wp2_with fail
 refine Calls.mono (store_any d0 d1 d2 d3 UD _) ?_
 rintro e w3 ⟨rfl,hb3⟩
 have HB:Hid (Below w.heap.size w w3):=chain VD.out.2 hb3
 have E:Hid ((⟨(byts 32 (v4 d0 d1 d2 d3)).toArray⟩:ByteArray)=enc (num s.data.toList ^ (p - 2) % p)):=by show _=_;rw[VD.out.1];rfl
 clear hb3
 go_wp2
 go_ret2
 refine⟨?_,HB.out⟩
 show Ending.returned (.tuple #[.string ⟨(byts 32 (v4 d0 d1 d2 d3)).toArray⟩,.int .i64 0])=two (enc (num s.data.toList ^ (p - 2) % p)) 0
 rw[E.out];rfl
set_option maxHeartbeats 1000000 in
theorem Sub_ok (s t:ByteArray) (hs:Hid (chk s=0)) (ht:Hid (chk t=0)) (w:World) :
  Calls Tryz.prog 167 #[.string s,.string t] w fun e w'=>e=two (enc ((num s.data.toList+p - num t.data.toList) % p)) 0∧Below w.heap.size w w':=by
 have CL:Hid (chkList [s,t]=0):=by
  show chkList [s,t]=0
  have q1:=hs.out;have q2:=ht.out
  unfold chkList chkAll chkAll chkAll;simp[q1,q2]
 have C:Hid (∀(b:Nat) (w:World),StrAt w (some ⟨b,0,none⟩) [s,t]→Calls Tryz.prog 178 #[.slice (some ⟨b,0,none⟩) 2 2] w fun e w'=>e = .returned (.int .i64 0)∧Below w.heap.size w w'):=fun b w hw=>by
  have:=checkList_any (some ⟨b,0,none⟩) [s,t] 2 2 rfl (by omega) w hw;rw[CL.out] at this;exact this
 go_enter Tryz.func167, Tryz.ntmps167
 go_wp2_with fail
 refine Calls.mono (C.out w.heap.size _ ?_) ?_
 ·intro i hi
  have:i=0∨i=1:=by simp at hi;omega
  rcases this with rfl|rfl
  ·exact⟨_,_,rfl,by simp[go_sem]⟩
  ·exact⟨_,_,rfl,by simp[go_sem]⟩
 rintro e w0 ⟨rfl,hb0⟩
 have B0:Hid (Below w.heap.size w w0):=chain ((Below.refl _ _).alloc (Nat.le_refl _) _) hb0
 clear hb0
 go_wp2_with fail
 refine Calls.mono (load_any s (chk_zero hs.out).1 _) ?_
 rintro e w1 ⟨c0,c1,c2,c3,rfl,u1,v1,hb1⟩
 have U1:Hid (u4 c0 c1 c2 c3):=u1
 have V1:Hid (v4 c0 c1 c2 c3=num s.data.toList∧Below w.heap.size w w1):=⟨v1,chain B0.out hb1⟩
 clear u1 v1 hb1
 go_wp2_with fail
 refine Calls.mono (load_any t (chk_zero ht.out).1 _) ?_
 rintro e w2 ⟨d0,d1,d2,d3,rfl,u2,v2,hb2⟩
 have U2:Hid (u4 d0 d1 d2 d3):=u2
 have V2:Hid (v4 d0 d1 d2 d3=num t.data.toList∧Below w.heap.size w w2):=⟨v2,chain V1.out.2 hb2⟩
 clear u2 v2 hb2
 go_wp2_with fail
 refine Calls.mono (sub_any c0 c1 c2 c3 d0 d1 d2 d3 U1 U2 (by show _ < p;rw[V1.out.1];exact (chk_zero hs.out).2) (by show _ < p;rw[V2.out.1];exact (chk_zero ht.out).2) _) ?_
 rintro e w3 ⟨f0,f1,f2,f3,rfl,uf,vf,hb3⟩
 have UF:Hid (u4 f0 f1 f2 f3):=uf
 have VF:Hid (v4 f0 f1 f2 f3=(num s.data.toList+p - num t.data.toList) % p∧Below w.heap.size w w3):=⟨by rw[vf,V1.out.1,V2.out.1],chain V2.out.2 hb3⟩
 clear uf vf hb3
 go_wp2_with fail
 refine Calls.mono (store_any f0 f1 f2 f3 UF _) ?_
 rintro e w4 ⟨rfl,hb4⟩
 have HB:Hid (Below w.heap.size w w4):=chain VF.out.2 hb4
 have E:Hid ((⟨(byts 32 (v4 f0 f1 f2 f3)).toArray⟩:ByteArray)=enc ((num s.data.toList+p - num t.data.toList) % p)):=by show _=_;rw[VF.out.1];rfl
 clear hb4
 go_wp2
 go_ret2
 refine⟨?_,HB.out⟩
 show Ending.returned (.tuple #[.string ⟨(byts 32 (v4 f0 f1 f2 f3)).toArray⟩,.int .i64 0])=two (enc ((num s.data.toList+p - num t.data.toList) % p)) 0
 rw[E.out];rfl
end Go.Proofs.YtgnkkjknngblbaaGreatDoor.Crv
namespace Go.Proofs.YtgnkkjknngblbaaGreatDoor.Crv
open Go.RowKit Go.Proofs.Fd
set_option maxRecDepth 20000
attribute [local go_sem ↓] Go.wp_at_zero Go.wp_at_succ
def RunAt (w wr:World) (a:Option Addr) (ss:List ByteArray) (b s0 s1 s2 s3 v:Nat):Prop :=
 At4 wr b (.int .u64 s0) (.int .u64 s1) (.int .u64 s2) (.int .u64 s3)∧u4 s0 s1 s2 s3∧v4 s0 s1 s2 s3=v∧StrAt w a ss∧w.heap.size≤b∧Below w.heap.size w wr
set_option maxHeartbeats 2000000 in
theorem Add_ok (a:Option Addr) (ss:List ByteArray) (n cap:Nat) (hn:Hid (ss.length=n)) (hm:n≤9223372036854775807) (hs:Hid (chkList ss=0)) (w:World) (hc:Hid (StrAt w a ss)) :
  Calls Tryz.prog 168 #[.slice a n cap] w fun e w'=>e=two (enc (sumOf ss)) 0∧Below w.heap.size w w':=by
 have C:Hid (Calls Tryz.prog 178 #[.slice a n cap] w fun e w'=>e = .returned (.int .i64 0)∧Below w.heap.size w w'):=by
  have:=checkList_any a ss n cap hn hm w hc;rw[hs.out] at this;exact this
 have ALL:Hid (∀s∈ss,chk s=0):=chkAll_mem (chkList_zero hs.out).1
 go_enter Tryz.func168, Tryz.ntmps168
 go_wp2_with fail
 refine Calls.mono C.out ?_
 rintro e w0 ⟨rfl,hb0⟩
 have B0:Hid (Below w.heap.size w w0):=hb0
 clear hb0
 go_wp2
 go_loopw [15] (fun i wr=>∃k s0 s1 s2 s3:Nat,k≤n∧i = .int .i64 k∧Hid (RunAt w wr a ss w0.heap.size s0 s1 s2 s3 (sumOf (ss.take k)))) (fun i _=>n - (intOf i).toNat)
 case atStart =>
  refine⟨0,0,0,0,0,Nat.zero_le _,rfl,?_,?_,?_,hc.out,B0.out.size,B0.out.alloc B0.out.size _⟩
  ·simp[At4,go_sem]
  ·unfold u4;omega
  ·rfl
 case round =>
  obtain⟨k,s0,s1,s2,s3,hk,rfl,I⟩:=hrel
  obtain⟨qf,q0,q1,q2,q3⟩:=I.out.1
  by_cases hlt:k < n
  ·have hk':k < ss.length:=by have:=hn.out;omega
   obtain⟨b,o,rfl,hcell⟩:=StrAt.later I.out.2.2.2.1 I.out.2.2.2.2.2 k hk'
   have HS:Hid (chk ss[k]=0∧sumOf (ss.take (k+1))=(sumOf (ss.take k)+num ss[k].data.toList) % p):=⟨ALL.out _ (List.getElem_mem hk'),sumOf_take_succ ss k hk'⟩
   obtain⟨s,es⟩:∃s,ss[k]=s:=⟨_,rfl⟩
   rw[es] at hcell HS
   clear es
   go_wp2
   go_region_with (first|(go_at_call 179;refine Calls.mono (load_any s (chk_zero HS.out.1).1 _) ?_;rintro e w1 ⟨c0,c1,c2,c3,rfl,uc,vc,hb1⟩;obtain⟨kf,k0,k1,k2,k3⟩:=At4.later (At4.drew I.out.1) hb1)|(go_at_call 182;refine Calls.mono (add_any s0 s1 s2 s3 c0 c1 c2 c3 I.out.2.1 uc (by show _ < p;rw[I.out.2.2.1];exact sumOf_lt _) (by show _ < p;rw[vc];exact (chk_zero HS.out.1).2) _) ?_;rintro e w2 ⟨d0,d1,d2,d3,rfl,ud,vd,hb2⟩;obtain⟨mf,m0,m1,m2,m3⟩:=At4.later (At4.later (At4.drew I.out.1) hb1) hb2))
   all_goals
    have KV:Hid (u4 d0 d1 d2 d3∧v4 d0 d1 d2 d3=sumOf (ss.take (k+1))∧Below w.heap.size w w2∧At4 w2 w0.heap.size (.int .u64 s0) (.int .u64 s1) (.int .u64 s2) (.int .u64 s3)) :=
     ⟨ud,by rw[vd,I.out.2.2.1,vc,HS.out.2],chain (chain I.out.2.2.2.2.2.drew hb1) hb2,At4.later (At4.later (At4.drew I.out.1) hb1) hb2⟩
    clear ud vd vc uc hb1 hb2
    go_wp2
    go_roundw
    case rel=>exact⟨k+1,d0,d1,d2,d3,by omega,by go_num,At4.whole KV.out.2.2.2 _ _ _ _,KV.out.1,KV.out.2.1,I.out.2.2.2.1,I.out.2.2.2.2.1,below_put KV.out.2.2.1 I.out.2.2.2.2.1 _ _ _ _⟩
    case measure=>simp[intOf];omega
  ·have hkn:k=n:=by omega
   subst hkn
   go_wp2_with fail
   refine Calls.mono (store_any s0 s1 s2 s3 I.out.2.1 _) ?_
   rintro e w3 ⟨rfl,hb3⟩
   have HB:Hid (Below w.heap.size w w3):=chain I.out.2.2.2.2.2 hb3
   have E:Hid ((⟨(byts 32 (v4 s0 s1 s2 s3)).toArray⟩:ByteArray)=enc (sumOf ss)):=by
    show _=_;rw[I.out.2.2.1,List.take_of_length_le (by have:=hn.out;omega)];rfl
   clear hb3
   go_wp2
   go_ret2
   refine⟨?_,HB.out⟩
   show Ending.returned (.tuple #[.string ⟨(byts 32 (v4 s0 s1 s2 s3)).toArray⟩,.int .i64 0])=two (enc (sumOf ss)) 0
   rw[E.out];rfl
end Go.Proofs.YtgnkkjknngblbaaGreatDoor.Crv
namespace Go.Proofs.YtgnkkjknngblbaaGreatDoor.Crv
open Go.RowKit Go.Proofs.Fd
set_option maxRecDepth 20000
attribute [local go_sem ↓] Go.wp_at_zero Go.wp_at_succ
set_option maxHeartbeats 2000000 in
theorem Mul_ok (b o:Nat) (ss:List ByteArray) (n cap:Nat) (hn:Hid (ss.length=n)) (hm:n≤9223372036854775807) (hcap:n≤cap) (hcm:cap≤9223372036854775807) (h1:0 < n) (hs:Hid (chkList ss=0)) (w:World) (hc:Hid (StrAt w (some ⟨b,o,none⟩) ss)) :
  Calls Tryz.prog 166 #[.slice (some ⟨b,o,none⟩) n cap] w fun e w'=>e=two (enc (mulFrom (num (ss.headD ByteArray.empty).data.toList) ss.tail)) 0∧Below w.heap.size w w':=by
 have C:Hid (Calls Tryz.prog 178 #[.slice (some ⟨b,o,none⟩) n cap] w fun e w'=>e = .returned (.int .i64 0)∧Below w.heap.size w w'):=by
  have:=checkList_any (some ⟨b,o,none⟩) ss n cap hn hm w hc;rw[hs.out] at this;exact this
 have ALL:Hid (∀s∈ss,chk s=0):=chkAll_mem (chkList_zero hs.out).1
 have hne:((n:Int) == 0)=false:=by simp;omega
 have g1:(0:Int) < (n:Int):=by omega
 have g2:(1:Int)≤(n:Int):=by omega
 have g3:(n:Int)≤(cap:Int):=by omega
 have g4:(1:Int)≤(cap:Int):=by omega
 obtain⟨x,r,rfl⟩:∃x r,ss=x::r:=by
  cases ss with
  | nil=>exact absurd hn.out (by simp;omega)
  | cons x r=>exact⟨x,r,rfl⟩
 have HX:Hid (chk x=0):=ALL.out x (by simp)
 by_cases hc1:cap=1
 ·have hn1:n=1:=by omega
  have hr:Hid (r=[]):=by have q:=hn.out;simp at q;show r=[];exact List.eq_nil_of_length_eq_zero (by omega)
  subst hc1;subst hn1
  go_enter Tryz.func166, Tryz.ntmps166
  go_wp2_with fail
  refine Calls.mono C.out ?_
  rintro e w0 ⟨rfl,hb0⟩
  have B0:Hid (Below w.heap.size w w0):=hb0
  have c0:w0.cell? ⟨b,o,none⟩=some (.string x):=by
   obtain⟨b',o',e,hx⟩:=StrAt.later hc.out hb0 0 (by simp)
   cases e;simpa using hx
  clear hb0
  go_wp2_with fail
  refine Calls.mono (load_any x (chk_zero HX.out).1 _) ?_
  rintro e w1 ⟨t0,t1,t2,t3,rfl,ut,vt,hb1⟩
  have V1:Hid (u4 t0 t1 t2 t3∧v4 t0 t1 t2 t3=num x.data.toList∧Below w.heap.size w w1):=⟨ut,vt,chain B0.out hb1⟩
  clear ut vt hb1 c0
  go_wp2
  refine wp_loop_rounds 1 ?_
  rw[rounds_succ]
  go_wp2_with fail
  refine Calls.mono (store_any t0 t1 t2 t3 V1.out.1 _) ?_
  have BB:Hid (Below w.heap.size w (w1.alloc (.cells #[.int .u64 t0,.int .u64 t1,.int .u64 t2,.int .u64 t3] 160))):=V1.out.2.2.alloc V1.out.2.2.size _
  have E:Hid ((⟨(byts 32 (v4 t0 t1 t2 t3)).toArray⟩:ByteArray)=enc (mulFrom (num x.data.toList) r)):=by
   show _=_;rw[V1.out.2.1,hr.out];rfl
  rintro e w3 ⟨rfl,hb3⟩
  have HB:Hid (Below w.heap.size w w3):=chain BB.out hb3
  clear hb3
  go_wp2
  go_ret2
  refine⟨?_,HB.out⟩
  show Ending.returned (.tuple #[.string ⟨(byts 32 (v4 t0 t1 t2 t3)).toArray⟩,.int .i64 0])=two (enc (mulFrom (num x.data.toList) r)) 0
  rw[E.out];rfl
 ·have hr:Hid (r.length=n - 1):=by have q:=hn.out;simp at q;show r.length=n - 1;omega
  have hcr:Hid (StrAt w (some ⟨b,o+1,none⟩) r):=fun i hi=>by
   obtain⟨b',o',e,hx⟩:=hc.out (i+1) (by simpa using hi)
   cases e
   refine⟨b,o+1,rfl,?_⟩
   rw[show o+1+i=o+(i+1) by omega,hx];simp
  have AR:Hid (∀s∈r,chk s=0):=fun s hs=>ALL.out s (by simp[hs])
  go_enter Tryz.func166, Tryz.ntmps166
  go_wp2_with fail
  refine Calls.mono C.out ?_
  rintro e w0 ⟨rfl,hb0⟩
  have B0:Hid (Below w.heap.size w w0):=hb0
  have c0:w0.cell? ⟨b,o,none⟩=some (.string x):=by
   obtain⟨b',o',e,hx⟩:=StrAt.later hc.out hb0 0 (by simp)
   cases e;simpa using hx
  clear hb0
  go_wp2_with fail
  refine Calls.mono (load_any x (chk_zero HX.out).1 _) ?_
  rintro e w1 ⟨t0,t1,t2,t3,rfl,ut,vt,hb1⟩
  have V1:Hid (u4 t0 t1 t2 t3∧v4 t0 t1 t2 t3=num x.data.toList∧Below w.heap.size w w1):=⟨ut,vt,chain B0.out hb1⟩
  clear ut vt hb1 c0
  go_wp2
  obtain⟨m,hm1⟩:∃m,n - 1=m:=⟨_,rfl⟩
  have hmm:m≤9223372036854775807:=by omega
  rw[hm1] at hr ⊢
  clear hm1
  go_loopw [25] (fun i wr=>∃k s0 s1 s2 s3:Nat,k≤m∧i = .int .i64 k∧Hid (RunAt w wr (some ⟨b,o+1,none⟩) r w1.heap.size s0 s1 s2 s3 (mulFrom (v4 t0 t1 t2 t3) (r.take k)))) (fun i _=>m - (intOf i).toNat)
  case atStart =>
   refine⟨0,t0,t1,t2,t3,Nat.zero_le _,rfl,?_,V1.out.1,rfl,hcr.out,V1.out.2.2.size,V1.out.2.2.alloc V1.out.2.2.size _⟩
   simp[At4,go_sem]
  case round =>
   obtain⟨k,s0,s1,s2,s3,hk,rfl,I⟩:=hrel
   obtain⟨qf,q0,q1,q2,q3⟩:=I.out.1
   by_cases hlt:k < m
   ·have hk':k < r.length:=by have:=hr.out;omega
    obtain⟨b',o',e,hcell⟩:=StrAt.later I.out.2.2.2.1 I.out.2.2.2.2.2 k hk'
    cases e
    have HS:Hid (chk r[k]=0∧mulFrom (v4 t0 t1 t2 t3) (r.take (k+1))=(mulFrom (v4 t0 t1 t2 t3) (r.take k)*num r[k].data.toList) % p):=⟨AR.out _ (List.getElem_mem hk'),mulFrom_take_succ _ r k hk'⟩
    obtain⟨s,es⟩:∃s,r[k]=s:=⟨_,rfl⟩
    rw[es] at hcell HS
    clear es
    go_wp2
    go_region_with (first|(go_at_call 179;refine Calls.mono (load_any s (chk_zero HS.out.1).1 _) ?_;rintro e w2 ⟨c0,c1,c2,c3,rfl,uc,vc,hb1⟩;obtain⟨kf,k0,k1,k2,k3⟩:=At4.later (At4.drew I.out.1) hb1)|(go_at_call 180;refine Calls.mono (mul_any s0 s1 s2 s3 c0 c1 c2 c3 I.out.2.1 uc _) ?_;rintro e w3 ⟨d0,d1,d2,d3,rfl,ud,vd,hb2⟩;obtain⟨mf,m0,m1,m2,m3⟩:=At4.later (At4.later (At4.drew I.out.1) hb1) hb2))
    all_goals
     have KV:Hid (u4 d0 d1 d2 d3∧v4 d0 d1 d2 d3=mulFrom (v4 t0 t1 t2 t3) (r.take (k+1))∧Below w.heap.size w w3∧At4 w3 w1.heap.size (.int .u64 s0) (.int .u64 s1) (.int .u64 s2) (.int .u64 s3)) :=
      ⟨ud,by rw[vd,I.out.2.2.1,vc,HS.out.2],chain (chain I.out.2.2.2.2.2.drew hb1) hb2,At4.later (At4.later (At4.drew I.out.1) hb1) hb2⟩
     clear ud vd vc uc hb1 hb2
     go_wp2
     go_roundw
     case rel=>exact⟨k+1,d0,d1,d2,d3,by omega,by go_num,At4.whole KV.out.2.2.2 _ _ _ _,KV.out.1,KV.out.2.1,I.out.2.2.2.1,I.out.2.2.2.2.1,below_put KV.out.2.2.1 I.out.2.2.2.2.1 _ _ _ _⟩
     case measure=>simp[intOf];omega
   ·have hkn:k=m:=by omega
    subst hkn
    go_wp2_with fail
    refine Calls.mono (store_any s0 s1 s2 s3 I.out.2.1 _) ?_
    have BB:Hid (Below w.heap.size w wr):=I.out.2.2.2.2.2
    have E:Hid ((⟨(byts 32 (v4 s0 s1 s2 s3)).toArray⟩:ByteArray)=enc (mulFrom (num x.data.toList) r)):=by
     show _=_;rw[I.out.2.2.1,List.take_of_length_le (by have:=hr.out;omega),V1.out.2.1];rfl
    rintro e w3 ⟨rfl,hb3⟩
    have HB:Hid (Below w.heap.size w w3):=chain BB.out hb3
    clear hb3
    go_wp2
    go_ret2
    refine⟨?_,HB.out⟩
    show Ending.returned (.tuple #[.string ⟨(byts 32 (v4 s0 s1 s2 s3)).toArray⟩,.int .i64 0])=two (enc (mulFrom (num x.data.toList) r)) 0
    rw[E.out];rfl
end Go.Proofs.YtgnkkjknngblbaaGreatDoor.Crv
namespace Go.Proofs.YtgnkkjknngblbaaGreatDoor.Crv
open Go.RowKit Go.Proofs.Fd
set_option maxRecDepth 20000
theorem Sub_el (a b:Nat) (ha:a < p) (hb:b < p) (w:World) :
  Calls Tryz.prog 167 #[.string (enc a),.string (enc b)] w fun e w'=>e = .returned (.tuple #[.string (enc ((a+p - b) % p)),.int .i64 0])∧Below w.heap.size w w':=by
 have:=Sub_ok (enc a) (enc b) (chk_enc ha) (chk_enc hb) w
 rw[num_enc_p ha,num_enc_p hb] at this
 exact this
theorem Inv_el (a:Nat) (ha:a < p) (w:World) :
  Calls Tryz.prog 169 #[.string (enc a)] w fun e w'=>e = .returned (.tuple #[.string (enc (a ^ (p - 2) % p)),.int .i64 0])∧Below w.heap.size w w':=by
 have:=Inv_ok (enc a) (chk_enc ha) w
 rw[num_enc_p ha] at this
 exact this
theorem chkList2 {a b:Nat} (ha:a < p) (hb:b < p):chkList [enc a,enc b]=0:=by
 unfold chkList chkAll chkAll chkAll;simp[chk_enc ha,chk_enc hb]
theorem chkList3 {a b c:Nat} (ha:a < p) (hb:b < p) (hc:c < p):chkList [enc a,enc b,enc c]=0:=by
 unfold chkList chkAll chkAll chkAll chkAll;simp[chk_enc ha,chk_enc hb,chk_enc hc]
theorem strAt2 {w:World} {B:Nat} {s t:ByteArray} (h0:w.cell? ⟨B,0,none⟩=some (.string s)) (h1:w.cell? ⟨B,1,none⟩=some (.string t)):StrAt w (some ⟨B,0,none⟩) [s,t]:=by
 intro i hi
 have:i=0∨i=1:=by simp at hi;omega
 rcases this with rfl|rfl
 ·exact⟨_,_,rfl,h0⟩
 ·exact⟨_,_,rfl,h1⟩
theorem strAt3 {w:World} {B:Nat} {s t r:ByteArray} (h0:w.cell? ⟨B,0,none⟩=some (.string s)) (h1:w.cell? ⟨B,1,none⟩=some (.string t)) (h2:w.cell? ⟨B,2,none⟩=some (.string r)):StrAt w (some ⟨B,0,none⟩) [s,t,r]:=by
 intro i hi
 have:i=0∨i=1∨i=2:=by simp at hi;omega
 rcases this with rfl|rfl|rfl
 ·exact⟨_,_,rfl,h0⟩
 ·exact⟨_,_,rfl,h1⟩
 ·exact⟨_,_,rfl,h2⟩
theorem Add2_el (a b B:Nat) (ha:a < p) (hb:b < p) (w:World) (h0:w.cell? ⟨B,0,none⟩=some (.string (enc a))) (h1:w.cell? ⟨B,1,none⟩=some (.string (enc b))) :
  Calls Tryz.prog 168 #[.slice (some ⟨B,0,none⟩) 2 2] w fun e w'=>e = .returned (.tuple #[.string (enc ((a+b) % p)),.int .i64 0])∧Below w.heap.size w w':=by
 have:=Add_ok (some ⟨B,0,none⟩) [enc a,enc b] 2 2 rfl (by omega) (chkList2 ha hb) w (strAt2 h0 h1)
 have e:sumOf [enc a,enc b]=(a+b) % p:=by
  show ((0+num (enc a).data.toList) % p+num (enc b).data.toList) % p=_
  rw[num_enc_p ha,num_enc_p hb,sum2]
 rw[e] at this
 exact this
theorem Mul2_el (a b B:Nat) (ha:a < p) (hb:b < p) (w:World) (h0:w.cell? ⟨B,0,none⟩=some (.string (enc a))) (h1:w.cell? ⟨B,1,none⟩=some (.string (enc b))) :
  Calls Tryz.prog 166 #[.slice (some ⟨B,0,none⟩) 2 2] w fun e w'=>e = .returned (.tuple #[.string (enc (a*b % p)),.int .i64 0])∧Below w.heap.size w w':=by
 have:=Mul_ok B 0 [enc a,enc b] 2 2 rfl (by omega) (by omega) (by omega) (by omega) (chkList2 ha hb) w (strAt2 h0 h1)
 have e:mulFrom (num ([enc a,enc b].headD ByteArray.empty).data.toList) [enc a,enc b].tail=a*b % p:=by
  show num (enc a).data.toList*num (enc b).data.toList % p=_
  rw[num_enc_p ha,num_enc_p hb]
 rw[e] at this
 exact this
theorem Mul3_el (a b c B:Nat) (ha:a < p) (hb:b < p) (hc:c < p) (w:World) (h0:w.cell? ⟨B,0,none⟩=some (.string (enc a))) (h1:w.cell? ⟨B,1,none⟩=some (.string (enc b))) (h2:w.cell? ⟨B,2,none⟩=some (.string (enc c))) :
  Calls Tryz.prog 166 #[.slice (some ⟨B,0,none⟩) 3 3] w fun e w'=>e = .returned (.tuple #[.string (enc (a*b % p*c % p)),.int .i64 0])∧Below w.heap.size w w':=by
 have:=Mul_ok B 0 [enc a,enc b,enc c] 3 3 rfl (by omega) (by omega) (by omega) (by omega) (chkList3 ha hb hc) w (strAt3 h0 h1 h2)
 have e:mulFrom (num ([enc a,enc b,enc c].headD ByteArray.empty).data.toList) [enc a,enc b,enc c].tail=a*b % p*c % p:=by
  show num (enc a).data.toList*num (enc b).data.toList % p*num (enc c).data.toList % p=_
  rw[num_enc_p ha,num_enc_p hb,num_enc_p hc]
 rw[e] at this
 exact this
end Go.Proofs.YtgnkkjknngblbaaGreatDoor.Crv
