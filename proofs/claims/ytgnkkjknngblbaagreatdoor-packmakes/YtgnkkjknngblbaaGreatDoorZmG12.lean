/- Parts: R7,W18,W19,R8,R9,D1. -/
import Derived.Test.YtgnkkjknngblbaaGreatDoorZmG11
import Derived.Test.YtgnkkjknngblbaaGreatDoorZmG02
import Derived.Test.YtgnkkjknngblbaaGreatDoorZmG04
import Derived.Test.YtgnkkjknngblbaaGreatDoorZmG05
import Derived.Deep.MidRow
import Derived.Lib.LazyBuf
import Derived.Deep.RegionHeld3
import Derived.Deep.DeepCutAuto
namespace Go.Proofs.YtgnkkjknngblbaaGreatDoor.Crv
open Go.RowKit Go.Proofs.Fd
set_option maxRecDepth 20000
theorem and_one_i64 (a:Nat) (ha:a < 9223372036854775808):bits .and .i64 (a:Int) 1=((a % 2:Nat):Int):=by
 have h1:(BitVec.ofInt 64 (a:Int)).toNat=a:=by
  rw[BitVec.ofInt_natCast,BitVec.toNat_ofNat];exact Nat.mod_eq_of_lt (by omega)
 show IntKind.i64.wrap ((BitVec.ofInt 64 (a:Int) &&& BitVec.ofInt 64 1).toNat:Int)=_
 rw[BitVec.toNat_and,h1,show (BitVec.ofInt 64 1).toNat=1 by decide,Nat.and_one_is_mod,IntKind.wrap_i64]
 omega
theorem pow_le_26 {r:Nat} (h:r < 26):2 ^ r≤33554432:=by
 have:(2:Nat) ^ r≤2 ^ 25:=Nat.pow_le_pow_right (by decide) (by omega)
 simpa using this
theorem of_val (V r8 r26:Nat) (x:Int) (hV:V < 256) (hx:0≤x∧x < 67108864) (hr:r26 < 26) :
  wrap64 (x+wrap64 (bits .and .i64 (wrap64 ((V:Int) / 2 ^ r8)) 1*2 ^ r26))=x+((V / 2 ^ r8 % 2*2 ^ r26:Nat):Int):=by
 have e1:(V:Int) / 2 ^ r8=((V / 2 ^ r8:Nat):Int):=by simp
 have l1:V / 2 ^ r8≤V:=Nat.div_le_self _ _
 rw[e1]
 generalize V / 2 ^ r8=u at *
 rw[w64 (u:Int) (by omega),and_one_i64 _ (by omega)]
 have e2:((u % 2:Nat):Int)*2 ^ r26=((u % 2*2 ^ r26:Nat):Int):=by simp
 rw[e2]
 have l3:u % 2*2 ^ r26≤1*2 ^ r26:=Nat.mul_le_mul_right _ (by omega)
 have l4:=pow_le_26 hr
 generalize u % 2*2 ^ r26=z at *
 rw[w64 (z:Int) (by omega),w64 _ (by omega)]
theorem by_val (y r26 r8:Nat) (x:Int) (hy:y < 67108864) (hx:0≤x∧x+((y / 2 ^ r26 % 2*2 ^ r8:Nat):Int) < 256) :
  (x+bits .and .i64 ((y:Int) / 2 ^ r26) 1 % 256*2 ^ r8) % 256=x+((y / 2 ^ r26 % 2*2 ^ r8:Nat):Int):=by
 have e1:(y:Int) / 2 ^ r26=((y / 2 ^ r26:Nat):Int):=by simp
 have l1:y / 2 ^ r26≤y:=Nat.div_le_self _ _
 rw[e1]
 generalize y / 2 ^ r26=u at *
 rw[and_one_i64 _ (by omega)]
 have e3:((u % 2:Nat):Int) % 256=((u % 2:Nat):Int):=by omega
 have e2:((u % 2:Nat):Int)*2 ^ r8=((u % 2*2 ^ r8:Nat):Int):=by simp
 rw[e3,e2]
 generalize u % 2*2 ^ r8=z at *
 omega
set_option maxRecDepth 100000 in
set_option maxHeartbeats 4000000 in
theorem Of_any (s:ByteArray) (hs:s.size=32) (w:World) :
  Calls Tryz.prog 97 #[.string s] w fun e w'=>∃c:Nat→Int,e = .returned (.agg #[.int .i64 (c 0),.int .i64 (c 1),.int .i64 (c 2),.int .i64 (c 3),.int .i64 (c 4),.int .i64 (c 5),.int .i64 (c 6),.int .i64 (c 7),.int .i64 (c 8),.int .i64 (c 9)])∧dig c (num s.data.toList)∧Below w.heap.size w w':=by
 go_enter Tryz.func97, Tryz.ntmps97
 go_wp2
 go_loopw [4] (fun i wr=>∃k:Nat,k≤256∧i = .int .i64 k∧Hid (RowAt wr (w.heap.size+1) 10 (od (num s.data.toList) k)∧RowAt wr w.heap.size 10 (fun _=>0)∧Below w.heap.size w wr)) (fun i _=>256 - (intOf i).toNat)
 case atStart =>
  refine⟨0,by omega,rfl,RowAt.congr (d:=fun _=>0) ?_ (fun j hj=>(od_zero _ j).symm),(row_zero w 114).later (by omega) (below_alloc _ _),(below_alloc _ _).alloc (by simp) _⟩
  have:=row_zero (w.alloc (.cells #[.int .i64 0,.int .i64 0,.int .i64 0,.int .i64 0,.int .i64 0,.int .i64 0,.int .i64 0,.int .i64 0,.int .i64 0,.int .i64 0] 114)) 114
  simpa using this
 case round =>
  obtain⟨k,hk,rfl,N⟩:=hrel
  by_cases hlt:k < 256
  ·obtain⟨j8,h8⟩:∃j,k / 8=j:=⟨_,rfl⟩
   obtain⟨r8,g8⟩:∃j,k % 8=j:=⟨_,rfl⟩
   obtain⟨j26,h26⟩:∃j,k / 26=j:=⟨_,rfl⟩
   obtain⟨r26,g26⟩:∃j,k % 26=j:=⟨_,rfl⟩
   have ck:=N.out.1.2 j26 (by omega)
   have cf:=N.out.1.1
   have t1:Int.tdiv (k:Int) 8=(j8:Int):=by rw[←h8];exact (Int.ofNat_tdiv k 8).symm
   have t2:Int.tmod (k:Int) 8=(r8:Int):=by rw[←g8];exact (Int.ofNat_tmod k 8).symm
   have t3:Int.tdiv (k:Int) 26=(j26:Int):=by rw[←h26];exact (Int.ofNat_tdiv k 26).symm
   have t4:Int.tmod (k:Int) 26=(r26:Int):=by rw[←g26];exact (Int.ofNat_tmod k 26).symm
   have b1:(j8:Int) < (s.size:Int):=by omega
   have b6:(j8:Int) < 32:=by omega
   have b7:(0:Int)≤(j8:Int):=by omega
   have b8:(0:Int)≤(j26:Int):=by omega
   have b2:(j26:Int) < 10:=by omega
   have b3:r8 < 8:=by omega
   have b4:r26 < 26:=by omega
   have b5:j8 < s.size:=by omega
   have HS:Hid (s.size=32):=hs
   have HK:Hid (k / 8=j8∧k % 8=r8∧k / 26=j26∧k % 26=r26):=⟨h8,g8,h26,g26⟩
   have HB:Hid (s[j8].toNat / 2 ^ r8 % 2=num s.data.toList / 2 ^ k % 2):=by
    have hl:s.data.toList.length=s.size:=by simp
    have q:=num_at s.data.toList j8 (by omega)
    have q2:s.data.toList[j8]'(by omega)=s[j8]:=rfl
    rw[q2] at q
    show s[j8].toNat / 2 ^ r8 % 2=_
    rw[←q,pow8,show (256:Nat)=2 ^ 8 by decide,bit_of _ _ _ _ b3]
    congr 3;omega
   clear hs h8 g8 h26 g26
   obtain⟨X,eX⟩:∃X,od (num s.data.toList) k j26=X:=⟨_,rfl⟩
   have HX:Hid (od (num s.data.toList) k j26=X∧0≤X∧X < 67108864):=⟨eX,by rw[←eX];exact (od_bd _ k j26).1,by rw[←eX];exact (od_bd _ k j26).2⟩
   rw[eX] at ck
   clear eX
   go_wp2
   go_region
   go_wp2
   go_roundw
   case rel =>
    rw[of_val s[j8].toNat r8 r26 X s[j8].toNat_lt HX.out.2 b4,HB.out,←HX.out.1]
    refine⟨k+1,by omega,by go_num,RowAt.congr (RowAt.set (RowAt.drew N.out.1) j26 (by omega) _) (fun j hj => ?_),RowAt.other (RowAt.drew N.out.2.1) (by simp) _,N.out.2.2.drew.setCell (by simp) _⟩
    have q:=od_next (num s.data.toList) k j
    rw[HK.out.2.2.1,HK.out.2.2.2] at q
    exact q
   case measure=>simp[intOf];omega
  ·have hkk:k=256:=by omega
   subst hkk
   have c0:=N.out.1.2 0 (by omega);have c1:=N.out.1.2 1 (by omega);have c2:=N.out.1.2 2 (by omega);have c3:=N.out.1.2 3 (by omega);have c4:=N.out.1.2 4 (by omega);have c5:=N.out.1.2 5 (by omega);have c6:=N.out.1.2 6 (by omega);have c7:=N.out.1.2 7 (by omega);have c8:=N.out.1.2 8 (by omega);have c9:=N.out.1.2 9 (by omega)
   have r0:=N.out.2.1.2 0 (by omega);have r1:=N.out.2.1.2 1 (by omega);have r2:=N.out.2.1.2 2 (by omega);have r3:=N.out.2.1.2 3 (by omega);have r4:=N.out.2.1.2 4 (by omega);have r5:=N.out.2.1.2 5 (by omega);have r6:=N.out.2.1.2 6 (by omega);have r7:=N.out.2.1.2 7 (by omega);have r8:=N.out.2.1.2 8 (by omega);have r9:=N.out.2.1.2 9 (by omega)
   have rf:=N.out.2.1.1
   have hn:num s.data.toList < W256:=by
    have q:=num_lt s.data.toList
    rw[show s.data.toList.length=32 by simpa using hs,pow_w256] at q
    exact q
   have OA:Hid (dig (od (num s.data.toList) 256) (num s.data.toList)):=od_all _ hn
   clear hn
   obtain⟨f,ef⟩:∃f,od (num s.data.toList) 256=f:=⟨_,rfl⟩
   rw[ef] at OA c0 c1 c2 c3 c4 c5 c6 c7 c8 c9
   clear ef
   go_wp2
   refine bodyPost_ret (v := .agg #[.int .i64 (f 0),.int .i64 (f 1),.int .i64 (f 2),.int .i64 (f 3),.int .i64 (f 4),.int .i64 (f 5),.int .i64 (f 6),.int .i64 (f 7),.int .i64 (f 8),.int .i64 (f 9)]) (by simp[results,Tryz.results97, go_sem, *]) rfl ⟨f,rfl,OA.out,?_⟩
   exact below_put10 N.out.2.2 (Nat.le_refl _) f
set_option maxRecDepth 100000 in
set_option maxHeartbeats 4000000 in
theorem Bytes_any (c:Nat→Int) (n:Nat) (hc:Hid (dig c n)) (hn:Hid (n < W256)) (w:World) :
  Calls Tryz.prog 93 #[.agg #[.int .i64 (c 0),.int .i64 (c 1),.int .i64 (c 2),.int .i64 (c 3),.int .i64 (c 4),.int .i64 (c 5),.int .i64 (c 6),.int .i64 (c 7),.int .i64 (c 8),.int .i64 (c 9)]] w fun e w'=>e = .returned (.string (enc n))∧Below w.heap.size w w':=by
 have hmk:∀w:World,(Instr.makeSlice 43 (.int .i64 32) (.int .i64 32)).run Tryz.prog w = .ok (.slice (some ⟨w.heap.size,0,none⟩) 32 32) (w.alloc (.cells #[.int .u8 0,.int .u8 0,.int .u8 0,.int .u8 0,.int .u8 0,.int .u8 0,.int .u8 0,.int .u8 0,.int .u8 0,.int .u8 0,.int .u8 0,.int .u8 0,.int .u8 0,.int .u8 0,.int .u8 0,.int .u8 0,.int .u8 0,.int .u8 0,.int .u8 0,.int .u8 0,.int .u8 0,.int .u8 0,.int .u8 0,.int .u8 0,.int .u8 0,.int .u8 0,.int .u8 0,.int .u8 0,.int .u8 0,.int .u8 0,.int .u8 0,.int .u8 0] 5)):=fun _=>by kernel_rfl
 go_enter Tryz.func93, Tryz.ntmps93
 go_wp2
 go_loopw [4] (fun i wr=>∃k:Nat,k≤256∧i = .int .i64 k∧Hid (RowAt wr w.heap.size 10 c∧(∀o,wr.frozen? ⟨w.heap.size+1,o,none⟩=false)∧(∀j,j < 32→wr.cell? ⟨w.heap.size+1,j,none⟩=some (.int .u8 (bd n k j)))∧Below w.heap.size w wr)) (fun i _=>256 - (intOf i).toNat)
 case atStart =>
  refine⟨0,by omega,rfl,(row_new w c 114).later (by omega) (below_alloc _ _),fun o=>by simp[go_sem],fun j hj => ?_,(below_alloc _ _).alloc (by simp) _⟩
  rw[bd_zero]
  have:j=0∨j=1∨j=2∨j=3∨j=4∨j=5∨j=6∨j=7∨j=8∨j=9∨j=10∨j=11∨j=12∨j=13∨j=14∨j=15∨j=16∨j=17∨j=18∨j=19∨j=20∨j=21∨j=22∨j=23∨j=24∨j=25∨j=26∨j=27∨j=28∨j=29∨j=30∨j=31:=by omega
  rcases this with rfl|rfl|rfl|rfl|rfl|rfl|rfl|rfl|rfl|rfl|rfl|rfl|rfl|rfl|rfl|rfl|rfl|rfl|rfl|rfl|rfl|rfl|rfl|rfl|rfl|rfl|rfl|rfl|rfl|rfl|rfl|rfl <;> simp[go_sem]
 case round =>
  obtain⟨k,hk,rfl,N⟩:=hrel
  by_cases hlt:k < 256
  ·obtain⟨j8,h8⟩:∃j,k / 8=j:=⟨_,rfl⟩
   obtain⟨r8,g8⟩:∃j,k % 8=j:=⟨_,rfl⟩
   obtain⟨j26,h26⟩:∃j,k / 26=j:=⟨_,rfl⟩
   obtain⟨r26,g26⟩:∃j,k % 26=j:=⟨_,rfl⟩
   have ck:=N.out.1.2 j26 (by omega)
   have cb:=N.out.2.2.1 j8 (by omega)
   have cf:=N.out.2.1
   have t1:Int.tdiv (k:Int) 8=(j8:Int):=by rw[←h8];exact (Int.ofNat_tdiv k 8).symm
   have t2:Int.tmod (k:Int) 8=(r8:Int):=by rw[←g8];exact (Int.ofNat_tmod k 8).symm
   have t3:Int.tdiv (k:Int) 26=(j26:Int):=by rw[←h26];exact (Int.ofNat_tdiv k 26).symm
   have t4:Int.tmod (k:Int) 26=(r26:Int):=by rw[←g26];exact (Int.ofNat_tmod k 26).symm
   have b1:(j8:Int) < 32:=by omega
   have b7:(0:Int)≤(j8:Int):=by omega
   have b8:(0:Int)≤(j26:Int):=by omega
   have b2:(j26:Int) < 10:=by omega
   have b3:r8 < 8:=by omega
   have b4:r26 < 26:=by omega
   have HK:Hid (k / 8=j8∧k % 8=r8∧k / 26=j26∧k % 26=r26):=⟨h8,g8,h26,g26⟩
   obtain⟨y,ey⟩:∃y,n / 67108864 ^ j26 % 67108864=y:=⟨_,rfl⟩
   have cy1:c j26=(y:Int):=by rw[←ey];exact can_digit c n hc.out.1 hc.out.2 j26 (by omega)
   have HB:Hid (y / 2 ^ r26 % 2=n / 2 ^ k % 2∧y < 67108864):=by
    refine⟨?_,by rw[←ey];exact Nat.mod_lt _ (by decide)⟩
    rw[←ey,pow26,show (67108864:Nat)=2 ^ 26 by decide,bit_of _ _ _ _ b4]
    congr 3;omega
   clear h8 g8 h26 g26 ey
   rw[cy1] at ck
   clear cy1
   obtain⟨X,eX⟩:∃X,bd n k j8=X:=⟨_,rfl⟩
   have HX:Hid (bd n k j8=X):=eX
   rw[eX] at cb
   clear eX
   go_wp2
   go_region
   go_wp2
   go_roundw
   case rel =>
    have q:=bd_next n k j8
    rw[HK.out.1,HK.out.2.1,if_pos rfl,HX.out] at q
    have q2:=bd_bd n (k+1) j8
    have q3:=bd_bd n k j8
    rw[HX.out] at q3
    have e:(X+bits .and .i64 ((y:Int) / 2 ^ r26) 1 % 256*2 ^ r8) % 256=bd n (k+1) j8:=by
     rw[by_val y r26 r8 X HB.out.2 (by rw[HB.out.1];omega),HB.out.1];exact q
    rw[e]
    refine⟨k+1,by omega,by go_num,RowAt.other (RowAt.drew N.out.1) (by simp) _,fun o=>by simp[go_sem,cf],fun j hj => ?_,N.out.2.2.2.drew.setCell (by simp) _⟩
    by_cases ej:j=j8
    ·subst ej
     simp[go_sem,cb]
    ·have q4:=bd_next n k j
     rw[HK.out.1,if_neg ej] at q4
     rw[←q4]
     simp only[World.cell?_drew]
     rw[World.cell?_setCell_other _ _ _ _ (by simp;try omega)]
     exact N.out.2.2.1 j hj
   case measure=>simp[intOf];omega
  ·have hkk:k=256:=by omega
   subst hkk
   have CC:Hid (∀j (hj:j < (byts 32 n).length),wr.cell? ⟨w.heap.size+1,j,none⟩=some (.int .u8 ((byts 32 n)[j].toNat:Int))):=fun j hj=>by
    have hj':j < 32:=by rw[byts_length] at hj;exact hj
    rw[N.out.2.2.1 j hj',bd_all n j hn.out]
    have q:=num_at (byts 32 n) j hj
    rw[num_byts,pow_w256,Nat.mod_eq_of_lt hn.out] at q
    rw[q]
   go_wp2
   rw[conv_back (w.heap.size+1) (byts 32 n) (byts_length 32 n) _ CC.out]
   go_wp2
   go_ret
   exact⟨rfl,N.out.2.2.2⟩
end Go.Proofs.YtgnkkjknngblbaaGreatDoor.Crv
namespace Go.Proofs.YtgnkkjknngblbaaGreatDoor.Crv
open Go.RowKit Go.Proofs.Fd
set_option maxRecDepth 20000
end Go.Proofs.YtgnkkjknngblbaaGreatDoor.Crv
namespace Go.Proofs.YtgnkkjknngblbaaGreatDoor.Crv
open Go.RowKit Go.Proofs.Fd
set_option maxRecDepth 20000
end Go.Proofs.YtgnkkjknngblbaaGreatDoor.Crv
namespace Go.Proofs.YtgnkkjknngblbaaGreatDoor.Crv
open Go.RowKit Go.Proofs.Fd
set_option maxRecDepth 20000
theorem rBytes (c:Nat→Int) (n:Nat) (hc:Hid (dig c (n % p))) (w:World) :
  Calls Tryz.prog 93 #[.agg #[.int .i64 (c 0),.int .i64 (c 1),.int .i64 (c 2),.int .i64 (c 3),.int .i64 (c 4),.int .i64 (c 5),.int .i64 (c 6),.int .i64 (c 7),.int .i64 (c 8),.int .i64 (c 9)]] w fun e w'=>e = .returned (.string (enc (n % p)))∧Below w.heap.size w w' :=
 Bytes_any c (n % p) hc (Nat.lt_trans (Nat.mod_lt _ p_pos) p_lt) w
theorem rLess (a b:Nat→Int) (x y:Nat) (ha:Hid (dig a x)) (hb:Hid (dig b y)) (hy:y < p) (w:World) :
  Calls Tryz.prog 154 #[.agg #[.int .i64 (a 0),.int .i64 (a 1),.int .i64 (a 2),.int .i64 (a 3),.int .i64 (a 4),.int .i64 (a 5),.int .i64 (a 6),.int .i64 (a 7),.int .i64 (a 8),.int .i64 (a 9)],.agg #[.int .i64 (b 0),.int .i64 (b 1),.int .i64 (b 2),.int .i64 (b 3),.int .i64 (b 4),.int .i64 (b 5),.int .i64 (b 6),.int .i64 (b 7),.int .i64 (b 8),.int .i64 (b 9)]] w fun e w'=>∃c:Nat→Int,e = .returned (.agg #[.int .i64 (c 0),.int .i64 (c 1),.int .i64 (c 2),.int .i64 (c 3),.int .i64 (c 4),.int .i64 (c 5),.int .i64 (c 6),.int .i64 (c 7),.int .i64 (c 8),.int .i64 (c 9)])∧dig c ((x+p - y) % p)∧Below w.heap.size w w':=by
 refine Calls.mono (Less_any a b ha.out.1 hb.out.1 (by show _≤_;rw[hb.out.2];omega) w) ?_
 rintro e w1 ⟨c,rfl,hc,hb1⟩
 exact⟨c,rfl,dig_less ha.out hb.out (by omega) hc,hb1⟩
end Go.Proofs.YtgnkkjknngblbaaGreatDoor.Crv
namespace Go.Proofs.YtgnkkjknngblbaaGreatDoor.Crv
open Go.RowKit Go.Proofs.Fd
set_option maxRecDepth 20000
attribute [local go_sem ↓] Go.wp_at_zero Go.wp_at_succ
theorem rPlus (a b:Nat→Int) (x y:Nat) (ha:Hid (dig a x)) (hb:Hid (dig b y)) (w:World) :
  Calls Tryz.prog 122 #[.agg #[.int .i64 (a 0),.int .i64 (a 1),.int .i64 (a 2),.int .i64 (a 3),.int .i64 (a 4),.int .i64 (a 5),.int .i64 (a 6),.int .i64 (a 7),.int .i64 (a 8),.int .i64 (a 9)],.agg #[.int .i64 (b 0),.int .i64 (b 1),.int .i64 (b 2),.int .i64 (b 3),.int .i64 (b 4),.int .i64 (b 5),.int .i64 (b 6),.int .i64 (b 7),.int .i64 (b 8),.int .i64 (b 9)]] w fun e w'=>∃c:Nat→Int,e = .returned (.agg #[.int .i64 (c 0),.int .i64 (c 1),.int .i64 (c 2),.int .i64 (c 3),.int .i64 (c 4),.int .i64 (c 5),.int .i64 (c 6),.int .i64 (c 7),.int .i64 (c 8),.int .i64 (c 9)])∧dig c ((x+y) % p)∧Below w.heap.size w w':=by
 refine Calls.mono (Plus_any a b ha.out.1 hb.out.1 w) ?_
 rintro e w1 ⟨c,rfl,hc,hb1⟩
 exact⟨c,rfl,dig_plus ha.out hb.out hc,hb1⟩
def lowd (v:Int) (j:Nat):Int:=if j=0 then v else 0
theorem lowd_dig (n:Nat) (h:n < 67108864):dig (lowd n) n:=by
 refine⟨fun j hj => ?_,?_⟩
 ·unfold lowd;split <;> omega
 ·rw[vN10]
  have f0:lowd n 0=(n:Int):=rfl
  have f1:lowd n 1=0:=rfl
  have f2:lowd n 2=0:=rfl
  have f3:lowd n 3=0:=rfl
  have f4:lowd n 4=0:=rfl
  have f5:lowd n 5=0:=rfl
  have f6:lowd n 6=0:=rfl
  have f7:lowd n 7=0:=rfl
  have f8:lowd n 8=0:=rfl
  have f9:lowd n 9=0:=rfl
  rw[f0,f1,f2,f3,f4,f5,f6,f7,f8,f9];omega
theorem times256 (f:Nat→Int) (x:Nat) (hf:Hid (dig f x)) (w:World) :
  Calls Tryz.prog 123 #[.agg #[.int .i64 (f 0),.int .i64 (f 1),.int .i64 (f 2),.int .i64 (f 3),.int .i64 (f 4),.int .i64 (f 5),.int .i64 (f 6),.int .i64 (f 7),.int .i64 (f 8),.int .i64 (f 9)],.agg #[.int .i64 256,.int .i64 0,.int .i64 0,.int .i64 0,.int .i64 0,.int .i64 0,.int .i64 0,.int .i64 0,.int .i64 0,.int .i64 0]] w fun e w'=>∃c:Nat→Int,e = .returned (.agg #[.int .i64 (c 0),.int .i64 (c 1),.int .i64 (c 2),.int .i64 (c 3),.int .i64 (c 4),.int .i64 (c 5),.int .i64 (c 6),.int .i64 (c 7),.int .i64 (c 8),.int .i64 (c 9)])∧dig c (x*256 % p)∧Below w.heap.size w w' :=
 rTimes f (lowd 256) x 256 hf (lowd_dig 256 (by decide)) w
theorem plusByte (f:Nat→Int) (x b:Nat) (hf:Hid (dig f x)) (hb:b < 67108864) (w:World) :
  Calls Tryz.prog 122 #[.agg #[.int .i64 (f 0),.int .i64 (f 1),.int .i64 (f 2),.int .i64 (f 3),.int .i64 (f 4),.int .i64 (f 5),.int .i64 (f 6),.int .i64 (f 7),.int .i64 (f 8),.int .i64 (f 9)],.agg #[.int .i64 b,.int .i64 0,.int .i64 0,.int .i64 0,.int .i64 0,.int .i64 0,.int .i64 0,.int .i64 0,.int .i64 0,.int .i64 0]] w fun e w'=>∃c:Nat→Int,e = .returned (.agg #[.int .i64 (c 0),.int .i64 (c 1),.int .i64 (c 2),.int .i64 (c 3),.int .i64 (c 4),.int .i64 (c 5),.int .i64 (c 6),.int .i64 (c 7),.int .i64 (c 8),.int .i64 (c 9)])∧dig c ((x+b) % p)∧Below w.heap.size w w' :=
 rPlus f (lowd b) x b hf (lowd_dig b hb) w
theorem red_step (l:List UInt8) (k:Nat) (h:k < l.length):(num (l.drop (k+1)) % p*256 % p+l[k].toNat) % p=num (l.drop k) % p:=by
 have e:l.drop k=l[k]::l.drop (k+1):=List.drop_eq_getElem_cons h
 rw[e]
 simp only[num]
 rw[Nat.mod_add_mod,Nat.add_mod,Nat.mod_mul_mod,←Nat.add_mod]
 congr 1;omega
theorem zero_dig:dig (fun _=>0) 0:=⟨fun _ _=>⟨Int.le_refl 0,by show (0:Int) < 67108864;omega⟩,by decide⟩
set_option maxRecDepth 100000 in
set_option maxHeartbeats 4000000 in
theorem rReduce_ok (s:ByteArray) (hs:s.size≤64) (w:World) :
  Calls Tryz.prog 94 #[.string s] w fun e w'=>e = .returned (.tuple #[.string (enc (num s.data.toList % p)),.int .i64 0])∧Below w.heap.size w w':=by
 have hg:¬(64:Int) < (s.size:Int):=by omega
 have hs2:(s.size:Int)≤64:=by omega
 go_enter Tryz.func94, Tryz.ntmps94
 go_wp2
 go_loopw [5] (fun i wr=>∃(x:Int) (f:Nat→Int),i = .int .i64 x ∧ -1≤x∧x < (s.size:Int)∧Hid (RowAt wr w.heap.size 10 f∧dig f (num (s.data.toList.drop (x+1).toNat) % p)∧Below w.heap.size w wr)) (fun i _=>(intOf i+1).toNat)
 case atStart =>
  refine⟨(s.size:Int) - 1,fun _=>0,rfl,by omega,by omega,row_zero w _,?_,below_alloc _ _⟩
  rw[show ((s.size:Int) - 1+1).toNat=s.size by omega,List.drop_of_length_le (by simp)]
  exact zero_dig
 case round =>
  obtain⟨x,f,rfl,lo,hi,N⟩:=hrel
  have c0:=N.out.1.2 0 (by omega);have c1:=N.out.1.2 1 (by omega);have c2:=N.out.1.2 2 (by omega);have c3:=N.out.1.2 3 (by omega);have c4:=N.out.1.2 4 (by omega);have c5:=N.out.1.2 5 (by omega);have c6:=N.out.1.2 6 (by omega);have c7:=N.out.1.2 7 (by omega);have c8:=N.out.1.2 8 (by omega);have c9:=N.out.1.2 9 (by omega)
  by_cases hlt:x < 0
  ·have hge:¬(0:Int)≤x:=by omega
   have DF:Hid (dig f (num s.data.toList % p)):=by
    have:=N.out.2.1
    rw[show (x+1).toNat=0 by omega,List.drop_zero] at this
    exact this
   go_wp2_with fail
   refine Calls.mono (rBytes f _ DF _) ?_
   rintro e w3 ⟨rfl,hb3⟩
   have B3:Hid (Below w.heap.size w w3):=chain N.out.2.2 hb3
   clear hb3
   go_wp2
   go_ret2
   exact⟨rfl,B3.out⟩
  ·have hge:(0:Int)≤x:=by omega
   obtain⟨k,rfl⟩:=Int.eq_ofNat_of_zero_le hge
   have hks:k < s.size:=by omega
   have DF:Hid (dig f (num (s.data.toList.drop (k+1)) % p)):=by
    have:=N.out.2.1
    rw[show ((k:Int)+1).toNat=k+1 by omega] at this
    exact this
   have RS:Hid ((num (s.data.toList.drop (k+1)) % p*256 % p+s[k].toNat) % p=num (s.data.toList.drop k) % p):=red_step s.data.toList k (by simpa using hks)
   have hbb:s[k].toNat < 256:=s[k].toNat_lt
   have hbk:IntKind.i64.wrap (s[k].toNat:Int)=(s[k].toNat:Int):=by rw[IntKind.wrap_i64];omega
   have cf:=N.out.1.1
   clear hlt
   go_wp2
   go_region_with (first|(go_at_call 123;refine Calls.mono (times256 f _ DF _) ?_;rintro e w1 ⟨g,rfl,dg,hb1⟩;have G:=RowAt.later (RowAt.drew N.out.1) (by omega) hb1;have k0:=G.2 0 (by omega);have k1:=G.2 1 (by omega);have k2:=G.2 2 (by omega);have k3:=G.2 3 (by omega);have k4:=G.2 4 (by omega);have k5:=G.2 5 (by omega);have k6:=G.2 6 (by omega);have k7:=G.2 7 (by omega);have k8:=G.2 8 (by omega);have k9:=G.2 9 (by omega);have gf:=G.1)|(go_at_call 122;refine Calls.mono (plusByte g _ s[k].toNat dg (by omega) _) ?_;rintro e w2 ⟨h,rfl,dh,hb2⟩;have G2:=RowAt.later G (by omega) hb2;have m0:=G2.2 0 (by omega);have m1:=G2.2 1 (by omega);have m2:=G2.2 2 (by omega);have m3:=G2.2 3 (by omega);have m4:=G2.2 4 (by omega);have m5:=G2.2 5 (by omega);have m6:=G2.2 6 (by omega);have m7:=G2.2 7 (by omega);have m8:=G2.2 8 (by omega);have m9:=G2.2 9 (by omega);have mf:=G2.1))
   all_goals
    have K:Hid (RowAt w2 w.heap.size 10 f∧dig h (num (s.data.toList.drop k) % p)∧Below w.heap.size w w2):=⟨G2,by rw[←RS.out];exact dh,chain (chain N.out.2.2.drew hb1) hb2⟩
    clear hb1 hb2 dg dh G G2
    go_wp2
    go_roundw
    case rel =>
     refine⟨(k:Int) - 1,h,by go_num,by omega,by omega,RowAt.whole K.out.1 h,?_,below_put10 K.out.2.2 (Nat.le_refl _) h⟩
     rw[show ((k:Int) - 1+1).toNat=k by omega]
     exact K.out.2.1
    case measure=>simp[intOf];try omega
end Go.Proofs.YtgnkkjknngblbaaGreatDoor.Crv
namespace Go.Proofs.YtgnkkjknngblbaaGreatDoor.Crv
open Go.RowKit Go.Proofs.Fd Go.Proofs.Ed
set_option maxRecDepth 20000
def dk (c:Nat→Int) (a:K):Prop:=dig c a.val
def nl (f:Nat→Int):List Value:=[.int .i64 (f 0),.int .i64 (f 1),.int .i64 (f 2),.int .i64 (f 3),.int .i64 (f 4),.int .i64 (f 5),.int .i64 (f 6),.int .i64 (f 7),.int .i64 (f 8),.int .i64 (f 9)]
theorem nl_len (f:Nat→Int):(nl f).length=10:=rfl
theorem nl_one (f:Nat→Int):∀v∈nl f,v.oneCell'=true:=by
 intro v hv
 simp only[nl,List.mem_cons,List.not_mem_nil,or_false] at hv
 rcases hv with rfl|rfl|rfl|rfl|rfl|rfl|rfl|rfl|rfl|rfl <;> rfl
theorem sub_val (a b:K):(a - b).val=(a.val+p - b.val) % p:=by
 have h1:=a.isLt;have h2:=b.isLt
 show ((q - b.val)+a.val) % q=_
 congr 1
 show q - b.val+a.val=a.val+q - b.val
 omega
theorem kPlus (f g:Nat→Int) (a b:K) (hf:Hid (dk f a)) (hg:Hid (dk g b)) (w:World) :
  Calls Tryz.prog 122 #[.agg (nl f).toArray,.agg (nl g).toArray] w fun e w'=>∃c:Nat→Int,e = .returned (.agg (nl c).toArray)∧dk c (a+b)∧Below w.heap.size w w':=rPlus f g a.val b.val hf hg w
theorem kLess (f g:Nat→Int) (a b:K) (hf:Hid (dk f a)) (hg:Hid (dk g b)) (w:World) :
  Calls Tryz.prog 154 #[.agg (nl f).toArray,.agg (nl g).toArray] w fun e w'=>∃c:Nat→Int,e = .returned (.agg (nl c).toArray)∧dk c (a - b)∧Below w.heap.size w w':=by
 have h:=rLess f g a.val b.val hf hg b.isLt w
 rw[←sub_val] at h
 exact h
theorem kTimes (f g:Nat→Int) (a b:K) (hf:Hid (dk f a)) (hg:Hid (dk g b)) (w:World) :
  Calls Tryz.prog 123 #[.agg (nl f).toArray,.agg (nl g).toArray] w fun e w'=>∃c:Nat→Int,e = .returned (.agg (nl c).toArray)∧dk c (a*b)∧Below w.heap.size w w':=rTimes f g a.val b.val hf hg w
theorem kInverse (f:Nat→Int) (a:K) (hf:Hid (dk f a)) (w:World) :
  Calls Tryz.prog 126 #[.agg (nl f).toArray] w fun e w'=>∃c:Nat→Int,e = .returned (.agg (nl c).toArray)∧dk c (kinv a)∧Below w.heap.size w w':=Inverse_any f a.val hf w
theorem kBytes (f:Nat→Int) (a:K) (hf:Hid (dk f a)) (w:World) :
  Calls Tryz.prog 93 #[.agg (nl f).toArray] w fun e w'=>e = .returned (.string (enc a.val))∧Below w.heap.size w w':=Bytes_any f a.val hf (Nat.lt_trans a.isLt p_lt) w
theorem kOne (w:World):Calls Tryz.prog 124 #[] w fun e w'=>e = .returned (.agg (nl od1).toArray)∧Below w.heap.size w w':=One_any w
theorem dk_one:dk od1 1:=od1_dig
def Rg (w:World) (L:List (Nat×Nat×List Value)):Prop:=∀x∈L,w.rangeAt x.1 x.2.1 x.2.2
theorem range_later {W w1:World} {b o:Nat} {cs:List Value} (h:W.rangeAt b o cs) (hb:Below W.heap.size W w1):w1.rangeAt b o cs:=fun j v hv=>cell_later hb (h j v hv)
theorem Rg.later {W w1:World} {L:List (Nat×Nat×List Value)} (h:Rg W L) (hb:Below W.heap.size W w1):Rg w1 L:=fun x hx=>range_later (h x hx) hb
theorem range_new (w:World) (cs:List Value) (t:TypeId):(w.alloc (.cells cs.toArray t)).rangeAt w.heap.size 0 cs:=fun j v hv=>by
 rw[Nat.zero_add,World.cell?_alloc_new];simpa using hv
theorem Rg.new {w:World} {L:List (Nat×Nat×List Value)} (h:Rg w L) (cs:List Value) (t:TypeId):Rg (w.alloc (.cells cs.toArray t)) ((w.heap.size,0,cs)::L):=fun x hx=>by
 rcases List.mem_cons.1 hx with rfl|hx
 ·exact range_new w cs t
 ·exact World.rangeAt_alloc (h x hx) _
theorem range_fst {w:World} {b:Nat} {xs zs:List Value} (h:w.rangeAt b 0 (xs++zs)):w.rangeAt b 0 xs:=fun j v hv=>h j v (by
 rw[List.getElem?_append_left (List.getElem?_eq_some_iff.1 hv).1];exact hv)
theorem range_snd {w:World} {b n:Nat} {xs zs:List Value} (h:w.rangeAt b 0 (xs++zs)) (hn:xs.length=n):w.rangeAt b n zs:=fun j v hv=>by
 have:=h (n+j) v (by rw[List.getElem?_append_right (by omega),←hn];simpa using hv)
 rwa [Nat.zero_add] at this
theorem sizeNum:(Tryz.prog.info? 114).map (·.size)=some 10:=by kernel_rfl
theorem sizePair:(Tryz.prog.info? 152).map (·.size)=some 20:=by kernel_rfl
theorem cells0 {w:World} {b:Nat} {f:Nat→Int} (h:w.rangeAt b 0 (nl f)):w.cell? ⟨b,0,none⟩=some (.int .i64 (f 0))∧w.cell? ⟨b,1,none⟩=some (.int .i64 (f 1))∧w.cell? ⟨b,2,none⟩=some (.int .i64 (f 2))∧w.cell? ⟨b,3,none⟩=some (.int .i64 (f 3))∧w.cell? ⟨b,4,none⟩=some (.int .i64 (f 4))∧w.cell? ⟨b,5,none⟩=some (.int .i64 (f 5))∧w.cell? ⟨b,6,none⟩=some (.int .i64 (f 6))∧w.cell? ⟨b,7,none⟩=some (.int .i64 (f 7))∧w.cell? ⟨b,8,none⟩=some (.int .i64 (f 8))∧w.cell? ⟨b,9,none⟩=some (.int .i64 (f 9)) :=
 ⟨h 0 _ rfl,h 1 _ rfl,h 2 _ rfl,h 3 _ rfl,h 4 _ rfl,h 5 _ rfl,h 6 _ rfl,h 7 _ rfl,h 8 _ rfl,h 9 _ rfl⟩
theorem cells10 {w:World} {b:Nat} {f:Nat→Int} (h:w.rangeAt b 10 (nl f)):w.cell? ⟨b,10,none⟩=some (.int .i64 (f 0))∧w.cell? ⟨b,11,none⟩=some (.int .i64 (f 1))∧w.cell? ⟨b,12,none⟩=some (.int .i64 (f 2))∧w.cell? ⟨b,13,none⟩=some (.int .i64 (f 3))∧w.cell? ⟨b,14,none⟩=some (.int .i64 (f 4))∧w.cell? ⟨b,15,none⟩=some (.int .i64 (f 5))∧w.cell? ⟨b,16,none⟩=some (.int .i64 (f 6))∧w.cell? ⟨b,17,none⟩=some (.int .i64 (f 7))∧w.cell? ⟨b,18,none⟩=some (.int .i64 (f 8))∧w.cell? ⟨b,19,none⟩=some (.int .i64 (f 9)) :=
 ⟨h 0 _ rfl,h 1 _ rfl,h 2 _ rfl,h 3 _ rfl,h 4 _ rfl,h 5 _ rfl,h 6 _ rfl,h 7 _ rfl,h 8 _ rfl,h 9 _ rfl⟩
theorem store_new (w:World) (f:Nat→Int) (t:TypeId):(storeCells ⟨w.heap.size,0,none⟩ (nl f)).run Tryz.prog (w.alloc (.cells #[.int .i64 0,.int .i64 0,.int .i64 0,.int .i64 0,.int .i64 0,.int .i64 0,.int .i64 0,.int .i64 0,.int .i64 0,.int .i64 0] t)) = .ok () (w.alloc (.cells (nl f).toArray t)):=by
 simp[nl,storeCells,go_sem]
theorem there_later {W w1:World} {b o n:Nat} (h:W.there b o n) (hb:Below W.heap.size W w1):w1.there b o n:=fun j hj=>by
 obtain⟨h1,h2⟩:=h j hj
 obtain⟨v,hv⟩:=Option.isSome_iff_exists.1 h1
 exact⟨by rw[cell_later hb hv];rfl,(frozen_kept hb (World.block_lt_of_cell? _ _ hv)).trans h2⟩
theorem there10 (w:World) (t:TypeId):(w.alloc (.cells #[.int .i64 0,.int .i64 0,.int .i64 0,.int .i64 0,.int .i64 0,.int .i64 0,.int .i64 0,.int .i64 0,.int .i64 0,.int .i64 0] t)).there w.heap.size 0 10:=fun j hj=>by
 refine⟨?_,by simp[go_sem]⟩
 rw[Nat.zero_add,World.cell?_alloc_new]
 have:j=0∨j=1∨j=2∨j=3∨j=4∨j=5∨j=6∨j=7∨j=8∨j=9:=by omega
 rcases this with rfl|rfl|rfl|rfl|rfl|rfl|rfl|rfl|rfl|rfl <;> rfl
theorem there20 (w:World) (t:TypeId):(w.alloc (.cells #[.int .i64 0,.int .i64 0,.int .i64 0,.int .i64 0,.int .i64 0,.int .i64 0,.int .i64 0,.int .i64 0,.int .i64 0,.int .i64 0,.int .i64 0,.int .i64 0,.int .i64 0,.int .i64 0,.int .i64 0,.int .i64 0,.int .i64 0,.int .i64 0,.int .i64 0,.int .i64 0] t)).there w.heap.size 0 20:=fun j hj=>by
 refine⟨?_,by simp[go_sem]⟩
 rw[Nat.zero_add,World.cell?_alloc_new]
 have:j=0∨j=1∨j=2∨j=3∨j=4∨j=5∨j=6∨j=7∨j=8∨j=9∨j=10∨j=11∨j=12∨j=13∨j=14∨j=15∨j=16∨j=17∨j=18∨j=19:=by omega
 rcases this with rfl|rfl|rfl|rfl|rfl|rfl|rfl|rfl|rfl|rfl|rfl|rfl|rfl|rfl|rfl|rfl|rfl|rfl|rfl|rfl <;> rfl
def Tr (w w':World) (L:List (Nat×Nat×List Value)):Prop :=
 Rg w' L∧Below w.heap.size w w'∧w'.there (w.heap.size+1+1+1) 0 20∧w'.there (w.heap.size+1+1+1+1) 0 20∧(∀x∈L,x.1 < w'.heap.size)∧w.heap.size+1+1+1+1 < w'.heap.size
theorem Tr.later {w W w1:World} {L:List (Nat×Nat×List Value)} (h:Tr w W L) (hb:Below W.heap.size W w1):Tr w w1 L :=
 ⟨h.1.later hb,chain h.2.1 hb,there_later h.2.2.1 hb,there_later h.2.2.2.1 hb,fun x hx=>Nat.lt_of_lt_of_le (h.2.2.2.2.1 x hx) hb.size,Nat.lt_of_lt_of_le h.2.2.2.2.2 hb.size⟩
theorem Tr.add {w W:World} {L:List (Nat×Nat×List Value)} (h:Tr w W L) {b:Nat} {cs:List Value} (hr:W.rangeAt b 0 cs) (h0:0 < cs.length):Tr w W ((b,0,cs)::L):=by
 refine⟨fun x hx => ?_,h.2.1,h.2.2.1,h.2.2.2.1,fun x hx => ?_,h.2.2.2.2.2⟩
 ·rcases List.mem_cons.1 hx with rfl|hx
  ·exact hr
  ·exact h.1 x hx
 ·rcases List.mem_cons.1 hx with rfl|hx
  ·exact World.block_lt_of_cell? _ _ (hr 0 _ (List.getElem?_eq_getElem h0))
  ·exact h.2.2.2.2.1 x hx
theorem Tr.new {w W:World} {L:List (Nat×Nat×List Value)} (h:Tr w W L) (cs:List Value) (t:TypeId) (h0:0 < cs.length):Tr w (W.alloc (.cells cs.toArray t)) ((W.heap.size,0,cs)::L) :=
 (h.later ((Below.refl _ _).alloc (Nat.le_refl _) _)).add (range_new W cs t) h0
def Trk (w W w':World) (L:List (Nat×Nat×List Value)):Prop:=Tr w w' L∧W.heap.size≤w'.heap.size
theorem Trk.later {w W wc w1:World} {L:List (Nat×Nat×List Value)} (h:Trk w W wc L) (hb:Below wc.heap.size wc w1):Trk w W w1 L:=⟨h.1.later hb,Nat.le_trans h.2 hb.size⟩
theorem Trk.put {w W wc:World} {L:List (Nat×Nat×List Value)} (hL:Tr w W L) (h:Trk w W wc L) {b:Nat} (hb:W.heap.size≤b) (cs:List Value):Trk w W (wc.setCells b 0 cs) L:=by
 have hsz:(wc.setCells b 0 cs).heap.size=wc.heap.size:=by
  have:∀(vs:List Value) (o:Nat) (v:World),(v.setCells b o vs).heap.size=v.heap.size:=by
   intro vs
   induction vs with
   | nil=>intro o v;rfl
   | cons x r ih=>intro o v;rw[World.setCells,ih];simp[World.setCell]
  exact this cs 0 wc
 have hlt:=hL.2.2.2.2.1
 have hr2:=hL.2.2.2.2.2
 have hw:=hL.2.1.size
 refine⟨⟨fun x hx=>World.rangeAt_setCells_apart (h.1.1 x hx) b 0 cs (.inl (by have:=hlt x hx;omega)),below_setCells (by omega) _ _ _ h.1.2.1,fun j hj => ?_,fun j hj => ?_,fun x hx=>by rw[hsz];exact h.1.2.2.2.2.1 x hx,by rw[hsz];exact h.1.2.2.2.2.2⟩,by rw[hsz];exact h.2⟩
 ·rw[World.cell?_setCells_out b cs 0 wc _ (fun e _=>absurd e (by show ¬(w.heap.size+1+1+1)=b;omega)),World.frozen?_setCells];exact h.1.2.2.1 j hj
 ·rw[World.cell?_setCells_out b cs 0 wc _ (fun e _=>absurd e (by show ¬(w.heap.size+1+1+1+1)=b;omega)),World.frozen?_setCells];exact h.1.2.2.2.1 j hj
end Go.Proofs.YtgnkkjknngblbaaGreatDoor.Crv
