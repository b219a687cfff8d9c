/- Parts: SD1,SD2. -/
import Derived.Test.YtgnkkjknngblbaaGreatDoorZmG27
import Derived.Test.YtgnkkjknngblbaaGreatDoorZmG28
import Derived.Test.YtgnkkjknngblbaaGreatDoorZmG25
import Derived.Laws.OwnMore
import Derived.Test.YtgnkkjknngblbaaGreatDoorZmG26
import Derived.Lib.AppendStr
namespace Go.Proofs.YtgnkkjknngblbaaGreatDoor
open Go.RowKit Go.Proofs.Fd Go.Proofs.Hs Go.Proofs.Cc
set_option maxRecDepth 20000
theorem rown_later {w w':World} {base:Nat} {e:TypeId} {size:Nat} {v:Value} {n:Nat} {xs:List Value} (h:w.ownsRow base e size v n xs) (hb:Below w.heap.size w w'):w'.ownsRow base e size v n xs:=by
 refine⟨h.1,?_⟩
 rcases h.2 with hn|⟨g,cap,cur,rfl,hbg,hgg,rest⟩
 ·exact .inl hn
 ·refine .inr ⟨g,cap,cur,rfl,hbg,?_,rest⟩
  rw[hb.block g (Array.getElem?_eq_some_iff.1 hgg).1]
  exact hgg
theorem rown_string {V:World} {base n:Nat} {v:Value} {l:List UInt8} (h:V.ownsRow base 5 1 v n (bcells l)):∀w',Below V.heap.size V w'→(convert 43 9 v).run Tryz.prog w' = .ok (.string ⟨l.toArray⟩) w':=by
 intro w' hb
 obtain⟨hlen,hor⟩:=owns_bytes h
 rcases hor with ⟨rfl,h0⟩|⟨g,cap,rfl,hcell⟩
 ·obtain rfl:l=[]:=List.length_eq_zero_iff.1 (by omega)
  kernel_rfl
 ·have:=run_convert_bytes_back (P:=Tryz.prog) w' 43 9 5 ⟨g,0,none⟩ cap l Tryz.underlying43 Tryz.underlying5 Tryz.underlying9 (fun j hj=>by
   have q:Addr.add ⟨g,0,none⟩ j=⟨g,j,none⟩:=by simp[Addr.add];intro h;exact h.symm
   rw[q];exact cell_later hb (hcell j hj))
  rw[hlen] at this;exact this
theorem rown_words {w:World} {base n:Nat} {v:Value} {l:List UInt32} (h:w.ownsRow base 123 1 v n (qcells l)) (hn:0 < n):∃g cap,v = .slice (some ⟨g,0,none⟩) n cap∧base≤g∧g < w.heap.size∧l.length=n∧QAt w g l:=by
 obtain⟨h1,h2⟩:=h
 have hl:l.length=n:=by simpa[qcells] using h1
 rcases h2 with ⟨-,h0⟩|⟨g,cap,cur,rfl,hb,hh,-,-,-,ht⟩
 ·omega
 ·refine⟨g,cap,rfl,hb,(Array.getElem?_eq_some_iff.1 hh).1,hl,fun j hj=>⟨?_,?_⟩⟩
  ·have e:cur[j]?=(qcells l)[j]?:=by
    rw[←ht,List.getElem?_take_of_lt (by omega)];simp
   unfold World.cell?
   rw[hh]
   simp only[Option.isSome_none]
   show cur[j]?=_
   rw[e];simp[qcells,hj]
  ·unfold World.frozen?
   rw[hh]
   simp
theorem QAt.keep {B:Nat} {w w':World} {b:Nat} {l:List UInt32} (h:QAt w b l) (hb:Below B w w') (hlt:b < B):QAt w' b l:=fun j hj =>
 ⟨(hb.cell (p:=⟨b,j,none⟩) hlt).trans (h j hj).1,(hb.frozen (p:=⟨b,j,none⟩) hlt).trans (h j hj).2⟩
theorem qcells_app (a b:List UInt32):qcells a++qcells b=qcells (a++b):=by simp[qcells]
theorem qcells_len (l:List UInt32):(qcells l).length=l.length:=by simp[qcells]
theorem qcells_one (l:List UInt32):∀v∈qcells l,v.oneCell'=true:=fun v hv=>by
 obtain⟨x,_,rfl⟩:=List.mem_map.1 hv;rfl
theorem QAt.adds {w:World} {g:Nat} {l:List UInt32} (h:QAt w g l):∀j u,(qcells l)[j]?=Option.some u→w.cell? ((⟨g,0,none⟩:Addr).add j)=Option.some u:=fun j u hu=>by
 have hj:j < l.length:=by have:=(List.getElem?_eq_some_iff.1 hu).1;simpa[qcells] using this
 have q:Addr.add ⟨g,0,none⟩ j=⟨g,j,none⟩:=by simp[Addr.add];intro h;exact h.symm
 rw[q,(h j hj).1]
 simp[qcells,hj] at hu
 rw[hu]
theorem le4_cells (x:UInt32):[Value.int .u8 (tv x % 256),.int .u8 (tv x / 256 % 256),.int .u8 (tv x / 65536 % 256),.int .u8 (tv x / 16777216)]=bcells (le4 x):=by
 rw[byte_tv1,byte_tv3]
 have e1:=byte_tv x 256
 have e2:=byte_tv x 65536
 rw[show ((256:Nat):Int)=256 from rfl] at e1
 rw[show ((65536:Nat):Int)=65536 from rfl] at e2
 rw[e1,e2]
 rfl
set_option maxRecDepth 20000 in
set_option maxHeartbeats 2000000 in
theorem rblock_any (k n:ByteArray) (c:UInt32) (hk:Hid (k.size=32)) (hn:Hid (n.size=12)) (w:World) :
  Calls Tryz.prog 105 #[.string k,.string n,.int .u32 (tv c)] w fun e w'=>e = .returned (.string ⟨(blk k.data.toList n.data.toList c).toArray⟩)∧Below w.heap.size w w':=by
 obtain⟨i0,hi,hz0,hz1,hz2⟩:=info_parts qinfo
 obtain⟨i1,hi1,hy0,hy1,hy2⟩:=info_parts infoByte
 obtain⟨F,hF⟩:∃F,fstw k.data.toList n.data.toList c=F:=⟨_,rfl⟩
 obtain⟨M,hM⟩:∃M,Cc.rounds F 10=M:=⟨_,rfl⟩
 have LF:Hid (F.length=16):=by show _=_;rw[←hF,fstw_len]
 have LM:Hid (M.length=16):=by show _=_;rw[←hM,rounds_len];exact LF.out
 obtain⟨G,hG⟩:∃G:Nat→List UInt8,blkn k.data.toList n.data.toList c=G:=⟨_,rfl⟩
 have HG1:Hid (G 0=[]∧blk k.data.toList n.data.toList c=G 16∧(∀q,G (q+1)=G q++le4 (M.getD q 0+F.getD q 0))∧∀q,(G q).length=4*q):=by
  rw[←hG]
  refine⟨rfl,rfl,fun q => ?_,fun q=>blkn_len _ _ _ q⟩
  rw[blkn_succ]
  unfold outw
  rw[hF,hM]
 have HFM:Hid (fstw k.data.toList n.data.toList c=F∧Cc.rounds F 10=M):=⟨hF,hM⟩
 rw[HG1.out.2.1]
 clear hG hM hF
 have R1:Hid (∀w,Calls Tryz.prog 132 #[.string k] w fun e w'=>∃v,e = .returned v∧w'.ownsRow w.heap.size 123 1 v 8 (qcells (rd k.data.toList 8))∧Below w.heap.size w w'):=rRead_any k 8 hk.out (by decide)
 have R2:Hid (∀w,Calls Tryz.prog 132 #[.string n] w fun e w'=>∃v,e = .returned v∧w'.ownsRow w.heap.size 123 1 v 3 (qcells (rd n.data.toList 3))∧Below w.heap.size w w'):=rRead_any n 3 hn.out (by decide)
 obtain⟨A,hA⟩:∃A,w.alloc (.cells #[.int .u32 1634760805,.int .u32 857760878,.int .u32 2036477234,.int .u32 1797285236] 123)=A:=⟨_,rfl⟩
 have IA:Hid (A.ownsRow w.heap.size 123 1 (.slice (some ⟨w.heap.size,0,none⟩) 4 4) 4 (qcells [1634760805,857760878,2036477234,1797285236])∧Below w.heap.size w A):=by
  rw[←hA]
  exact⟨World.ownsRow_lit (base:=w.heap.size) (e := 123) (size:=1) w #[.int .u32 1634760805,.int .u32 857760878,.int .u32 2036477234,.int .u32 1797285236] 4 (Nat.le_refl _) (by unfold maxLen;omega) rfl,(Below.refl _ _).alloc (Nat.le_refl _) _⟩
 go_enter Tryz.func105, Tryz.ntmps105
 go_wp2_with fail
 refine Calls.mono (R1.out _) ?_
 rintro e w1 ⟨v1,rfl,ow1,hb1⟩
 obtain⟨g1,cap1,rfl,hg1,-,hl1,qa1⟩:=rown_words ow1 (by decide)
 have I1:Hid (w1.ownsRow w.heap.size 123 1 (.slice (some ⟨w.heap.size,0,none⟩) 4 4) 4 (qcells [1634760805,857760878,2036477234,1797285236])∧Below w.heap.size w w1∧QAt w1 g1 (rd k.data.toList 8)):=⟨rown_later IA.out.1 hb1,chain IA.out.2 hb1,qa1⟩
 clear ow1 hb1 qa1 IA R1 hA
 go_wp2_with (first
  | (at_builtin;revert I1;intro I1;refine wpList_append_own _ rfl _ _ 162 rfl w.heap.size 123 i0 (.int .u32 0) 1 4 Tryz.underlying162 hi hz0 hz1 hz2 rfl (by decide) _ _ _ rfl I1.out.1 ⟨g1,0,none⟩ 8 cap1 (qcells (rd k.data.toList 8)) rfl (by rw[qcells_len,rd_len]) I1.out.2.2.adds (qcells_one _) (by unfold maxLen;omega) (by omega) I1.out.2.1.size ?_;intro v2 w2 hown2 hgrow2 _;have I2:Hid (w2.ownsRow w.heap.size 123 1 v2 12 (qcells ([1634760805,857760878,2036477234,1797285236]++rd k.data.toList 8))∧Below w.heap.size w w2):=⟨qcells_app [1634760805,857760878,2036477234,1797285236] (rd k.data.toList 8) ▸ hown2,I1.out.2.1.grown hgrow2 I1.out.2.1.size (fun q hq=>(I1.out.1.lt q hq).1)⟩;clear hown2 hgrow2 I1)
  | (at_builtin;revert I2;intro I2;refine wpList_append_own _ rfl _ _ 162 rfl w.heap.size 123 i0 (.int .u32 0) 1 4 Tryz.underlying162 hi hz0 hz1 hz2 rfl (by decide) _ _ _ rfl (I2.out.1.alloc _) ⟨w2.heap.size,0,none⟩ 1 1 (qcells [c]) rfl rfl (cells_new _ _ _) (qcells_one _) (by unfold maxLen;omega) (by omega) (by have:=I2.out.2.size;simp;omega) ?_;intro v3 w3 hown3 hgrow3 _;have I3:Hid (w3.ownsRow w.heap.size 123 1 v3 13 (qcells ([1634760805,857760878,2036477234,1797285236]++rd k.data.toList 8++[c]))∧Below w.heap.size w w3):=⟨qcells_app ([1634760805,857760878,2036477234,1797285236]++rd k.data.toList 8) [c] ▸ hown3,(I2.out.2.alloc I2.out.2.size _).grown hgrow3 (by have:=I2.out.2.size;simp;omega) (fun q hq=>(I2.out.1.lt q hq).1)⟩;clear hown3 hgrow3 I2))
 refine Calls.mono (R2.out _) ?_
 rintro e w4 ⟨v4,rfl,ow4,hb4⟩
 obtain⟨g4,cap4,rfl,hg4,-,hl4,qa4⟩:=rown_words ow4 (by decide)
 have I4:Hid (w4.ownsRow w.heap.size 123 1 v3 13 (qcells ([1634760805,857760878,2036477234,1797285236]++rd k.data.toList 8++[c]))∧Below w.heap.size w w4∧QAt w4 g4 (rd n.data.toList 3)):=⟨rown_later I3.out.1 hb4,chain I3.out.2 hb4,qa4⟩
 clear ow4 hb4 qa4 I3 R2 hl1 hg1 hg4 hl4
 go_wp2_with (first
  | (at_builtin;revert I4;intro I4;refine wpList_append_own _ rfl _ _ 162 rfl w.heap.size 123 i0 (.int .u32 0) 1 4 Tryz.underlying162 hi hz0 hz1 hz2 rfl (by decide) _ _ _ rfl I4.out.1 ⟨g4,0,none⟩ 3 cap4 (qcells (rd n.data.toList 3)) rfl (by rw[qcells_len,rd_len]) I4.out.2.2.adds (qcells_one _) (by unfold maxLen;omega) (by omega) I4.out.2.1.size ?_;intro v5 w5 hown5 hgrow5 _;have I5:Hid (w5.ownsRow w.heap.size 123 1 v5 16 (qcells F)∧Below w.heap.size w w5):=⟨by rw[←HFM.out.1];exact qcells_app ([1634760805,857760878,2036477234,1797285236]++rd k.data.toList 8++[c]) (rd n.data.toList 3) ▸ hown5,I4.out.2.1.grown hgrow5 I4.out.2.1.size (fun q hq=>(I4.out.1.lt q hq).1)⟩;obtain⟨gf,capf,rfl,-,hgf,hlf,qf⟩:=rown_words I5.out.1 (by decide);have I6:Hid (QAt w5 gf F∧Below w.heap.size w w5∧gf < w5.heap.size):=⟨qf,I5.out.2,hgf⟩;clear hown5 hgrow5 I4 I5 hlf qf hgf)
  | (at_builtin;revert I6;intro I6;refine wpList_append_own _ rfl _ _ 162 rfl w5.heap.size 123 i0 (.int .u32 0) 1 4 Tryz.underlying162 hi hz0 hz1 hz2 rfl (by decide) _ _ _ rfl (World.ownsRow_lit (base:=w5.heap.size) (e := 123) (size:=1) w5 #[] 0 (Nat.le_refl _) (by unfold maxLen;omega) rfl) ⟨gf,0,none⟩ 16 capf (qcells F) rfl (by rw[qcells_len];exact LF.out) (QAt.later I6.out.1 ((Below.refl _ _).alloc (Nat.le_refl _) _)).adds (qcells_one _) (by unfold maxLen;omega) (by omega) (by simp) ?_;intro v7 w7 hown7 hgrow7 _;have B7:Below w5.heap.size w5 w7:=((Below.refl _ _).alloc (Nat.le_refl _) _).grown hgrow7 (by simp) (fun q hq=>(World.ownsRow.lt (World.ownsRow_lit (base:=w5.heap.size) (e := 123) (size:=1) w5 #[] 0 (Nat.le_refl _) (by unfold maxLen;omega) rfl) q hq).1);simp only[Nat.zero_add,List.nil_append] at hown7;obtain⟨gw,capw,rfl,hgw,-,-,qw⟩:=rown_words hown7 (by decide);have I7:Hid (QAt w7 gf F∧QAt w7 gw F∧Below w.heap.size w w7∧gf < gw∧w.heap.size≤gw):=⟨I6.out.1.later B7,qw,chain I6.out.2.1 B7,Nat.lt_of_lt_of_le I6.out.2.2 hgw,Nat.le_trans I6.out.2.1.size hgw⟩;clear hown7 hgrow7 B7 qw hgw I6))
 have HN:Hid (gf < gw∧w.heap.size≤gw):=I7.out.2.2.2
 have I8:Hid (QAt w7 gf F∧QAt w7 gw (Cc.rounds F 0)∧Below w.heap.size w w7):=⟨I7.out.1,I7.out.2.1,I7.out.2.2.1⟩
 clear I7
 go_loopw [9] (fun i wr=>∃q:Nat,q≤10∧i = .int .i64 (q:Int)∧Hid (QAt wr gf F∧QAt wr gw (Cc.rounds F q)∧Below w.heap.size w wr)) (fun i _=>10 - (intOf i).toNat)
 case atStart=>exact⟨0,by omega,rfl,I8.out⟩
 case round =>
  obtain⟨q,hq,rfl,I⟩:=hrel
  clear I8
  by_cases hq10:q=10
  ·subst hq10
   rw[show ((10:Nat):Int)=10 from rfl]
   have J:Hid (QAt wr gf F∧QAt wr gw M∧Below w.heap.size w wr):=by rw[←HFM.out.2];exact I.out
   clear I HFM
   go_wp2
   obtain⟨wb,rfl⟩:∃W,W=wr:=⟨_,rfl⟩
   go_loopw [12,13] (fun sl i wx=>∃q:Nat,q≤16∧i = .int .i64 (q:Int)∧Hid (wx.ownsRow wb.heap.size 5 1 sl (4*q) (bcells (G q))∧Below wb.heap.size wb wx)) (fun _ i _=>16 - (intOf i).toNat)
   case atStart=>exact⟨0,by omega,rfl,by rw[HG1.out.1];exact⟨rfl,.inl ⟨rfl,rfl⟩⟩,Below.refl _ _⟩
   case round =>
    obtain⟨q,hq,rfl,I⟩:=hrel
    by_cases hq16:q=16
    ·subst hq16
     have CV:=rown_string I.out.1 wr (Below.refl _ _)
     have BF:Hid (Below w.heap.size w wr):=chain J.out.2.2 I.out.2
     clear J I HG1
     go_wp2
     go_ret
     exact⟨rfl,BF.out⟩
    ·have z16:(q:Int) < 16:=by omega
     have CM:=(J.out.2.1.later I.out.2).at q (by rw[LM.out];omega)
     have CF:=(J.out.1.later I.out.2).at q (by rw[LF.out];omega)
     obtain⟨cm,-⟩:=CM
     obtain⟨cf,-⟩:=CF
     have GS:Hid (_=_):=HG1.out.2.2.1 q
     obtain⟨x,hx⟩:∃x,M.getD q 0+F.getD q 0=x:=⟨_,rfl⟩
     rw[hx] at GS
     have hm:=add32 (M.getD q 0) (F.getD q 0)
     rw[hx] at hm
     have hm':=add32' (M.getD q 0) (F.getD q 0)
     rw[hx] at hm'
     clear hx
     generalize M.getD q 0=m0 at *
     generalize F.getD q 0=l0 at *
     go_wp2
     go_quiet (fail)
     go_wp2_with (first
      | (at_builtin;refine wpList_append_own _ rfl _ _ 43 rfl wb.heap.size 5 i1 (.int .u8 0) 1 1 Tryz.underlying43 hi1 hy0 hy1 hy2 rfl (by decide) _ _ _ rfl (World.ownsRow.alloc (w:=wr.drewN nq) I.out.1 _) ⟨wr.heap.size,0,none⟩ 4 4 [.int .u8 (tv x % 256),.int .u8 (tv x / 256 % 256),.int .u8 (tv x / 65536 % 256),.int .u8 (tv x / 16777216)] rfl rfl (cells_new (wr.drewN nq) _ _) (by intro u hu;simp at hu;rcases hu with rfl|rfl|rfl|rfl <;> rfl) (by unfold maxLen;omega) (by omega) (by have:=I.out.2.size;simp;omega) ?_;intro v1 w1 hown1 hgrow1 hnil1))
     go_roundw
     case rel =>
      refine⟨q+1,by omega,by go_num,?_,?_⟩
      ·rw[GS.out];unfold bcells;rw[List.map_append,show 4*(q+1)=4*q+4 by omega];rw[le4_cells] at hown1;exact hown1
      ·exact ((below_drewN I.out.2 nq).alloc (by have:=I.out.2.size;exact this) _).grown hgrow1 (by have:=I.out.2.size;simp;omega) (fun j hj=>(I.out.1.lt j hj).1)
     case measure=>simp[intOf];omega
  ·have q10:(q:Int) < 10:=by omega
   obtain⟨R,hR⟩:∃R,Cc.rounds F q=R:=⟨_,rfl⟩
   have LR:Hid (R.length=16):=by show _=_;rw[←hR,rounds_len];exact LF.out
   have NR:Hid (Cc.rounds F (q+1)=dias (cols R 4) 4):=by show _=_;rw[←hR];rfl
   have J:Hid (QAt wr gf F∧QAt wr gw (cols R 0)∧Below w.heap.size w wr):=by have:=I.out;rw[hR] at this;exact this
   clear I hR
   go_wp2
   go_loopw [10] (fun i wx=>∃j:Nat,(j=0∧i = .int .i64 0∨j=1∧i = .int .i64 1∨j=2∧i = .int .i64 2∨j=3∧i = .int .i64 3∨j=4∧i = .int .i64 4)∧Hid (QAt wx gf F∧QAt wx gw (cols R j)∧Below w.heap.size w wx)) (fun i _=>4 - (intOf i).toNat)
   case atStart=>exact⟨0,.inl ⟨rfl,rfl⟩,J.out⟩
   case round =>
    obtain⟨j,hj,I⟩:=hrel
    clear J
    rcases hj with ⟨rfl,rfl⟩|⟨rfl,rfl⟩|⟨rfl,rfl⟩|⟨rfl,rfl⟩|⟨rfl,rfl⟩
    ·go_wp2_with fail
     refine Calls.mono (rQuarter_any gw capw (cols R 0) 0 4 8 12 (by show _=_;rw[cols_len];exact LR.out) (by show _∧_;decide) _ I.out.2.1) ?_
     rintro e w1 ⟨rfl,hq1,hb1⟩
     have NX:Hid (QAt w1 gf F∧QAt w1 gw (cols R 1)∧Below w.heap.size w w1):=⟨I.out.1.keep hb1 HN.out.1,hq1,I.out.2.2.trans (hb1.mono HN.out.2)⟩
     clear hq1 hb1 I
     go_wp2
     go_roundw
     case rel=>exact⟨1,.inr (.inl ⟨rfl,by go_num⟩),NX.out⟩
     case measure=>simp[intOf]
    ·go_wp2_with fail
     refine Calls.mono (rQuarter_any gw capw (cols R 1) 1 5 9 13 (by show _=_;rw[cols_len];exact LR.out) (by show _∧_;decide) _ I.out.2.1) ?_
     rintro e w1 ⟨rfl,hq1,hb1⟩
     have NX:Hid (QAt w1 gf F∧QAt w1 gw (cols R 2)∧Below w.heap.size w w1):=⟨I.out.1.keep hb1 HN.out.1,hq1,I.out.2.2.trans (hb1.mono HN.out.2)⟩
     clear hq1 hb1 I
     go_wp2
     go_roundw
     case rel=>exact⟨2,.inr (.inr (.inl ⟨rfl,by go_num⟩)),NX.out⟩
     case measure=>simp[intOf]
    ·go_wp2_with fail
     refine Calls.mono (rQuarter_any gw capw (cols R 2) 2 6 10 14 (by show _=_;rw[cols_len];exact LR.out) (by show _∧_;decide) _ I.out.2.1) ?_
     rintro e w1 ⟨rfl,hq1,hb1⟩
     have NX:Hid (QAt w1 gf F∧QAt w1 gw (cols R 3)∧Below w.heap.size w w1):=⟨I.out.1.keep hb1 HN.out.1,hq1,I.out.2.2.trans (hb1.mono HN.out.2)⟩
     clear hq1 hb1 I
     go_wp2
     go_roundw
     case rel=>exact⟨3,.inr (.inr (.inr (.inl ⟨rfl,by go_num⟩))),NX.out⟩
     case measure=>simp[intOf]
    ·go_wp2_with fail
     refine Calls.mono (rQuarter_any gw capw (cols R 3) 3 7 11 15 (by show _=_;rw[cols_len];exact LR.out) (by show _∧_;decide) _ I.out.2.1) ?_
     rintro e w1 ⟨rfl,hq1,hb1⟩
     have NX:Hid (QAt w1 gf F∧QAt w1 gw (cols R 4)∧Below w.heap.size w w1):=⟨I.out.1.keep hb1 HN.out.1,hq1,I.out.2.2.trans (hb1.mono HN.out.2)⟩
     clear hq1 hb1 I
     go_wp2
     go_roundw
     case rel=>exact⟨4,.inr (.inr (.inr (.inr (⟨rfl,by go_num⟩)))),NX.out⟩
     case measure=>simp[intOf]
    ·have K0:Hid (QAt wr gf F∧QAt wr gw (dias (cols R 4) 0)∧Below w.heap.size w wr):=I
     clear I
     go_wp2
     go_loopw [11] (fun i wx=>∃j:Nat,(j=0∧i = .int .i64 0∨j=1∧i = .int .i64 1∨j=2∧i = .int .i64 2∨j=3∧i = .int .i64 3∨j=4∧i = .int .i64 4)∧Hid (QAt wx gf F∧QAt wx gw (dias (cols R 4) j)∧Below w.heap.size w wx)) (fun i _=>4 - (intOf i).toNat)
     case atStart=>exact⟨0,.inl ⟨rfl,rfl⟩,K0.out⟩
     case round =>
      obtain⟨j,hj,I⟩:=hrel
      clear K0
      rcases hj with ⟨rfl,rfl⟩|⟨rfl,rfl⟩|⟨rfl,rfl⟩|⟨rfl,rfl⟩|⟨rfl,rfl⟩
      ·go_wp2_with fail
       refine Calls.mono (rQuarter_any gw capw (dias (cols R 4) 0) 0 5 10 15 (by show _=_;rw[dias_len];rw[cols_len];exact LR.out) (by show _∧_;decide) _ I.out.2.1) ?_
       rintro e w1 ⟨rfl,hq1,hb1⟩
       have NX:Hid (QAt w1 gf F∧QAt w1 gw (dias (cols R 4) 1)∧Below w.heap.size w w1):=⟨I.out.1.keep hb1 HN.out.1,hq1,I.out.2.2.trans (hb1.mono HN.out.2)⟩
       clear hq1 hb1 I
       go_wp2
       go_roundw
       case rel=>exact⟨1,.inr (.inl ⟨rfl,by go_num⟩),NX.out⟩
       case measure=>simp[intOf]
      ·go_wp2_with fail
       refine Calls.mono (rQuarter_any gw capw (dias (cols R 4) 1) 1 6 11 12 (by show _=_;rw[dias_len];rw[cols_len];exact LR.out) (by show _∧_;decide) _ I.out.2.1) ?_
       rintro e w1 ⟨rfl,hq1,hb1⟩
       have NX:Hid (QAt w1 gf F∧QAt w1 gw (dias (cols R 4) 2)∧Below w.heap.size w w1):=⟨I.out.1.keep hb1 HN.out.1,hq1,I.out.2.2.trans (hb1.mono HN.out.2)⟩
       clear hq1 hb1 I
       go_wp2
       go_roundw
       case rel=>exact⟨2,.inr (.inr (.inl ⟨rfl,by go_num⟩)),NX.out⟩
       case measure=>simp[intOf]
      ·go_wp2_with fail
       refine Calls.mono (rQuarter_any gw capw (dias (cols R 4) 2) 2 7 8 13 (by show _=_;rw[dias_len];rw[cols_len];exact LR.out) (by show _∧_;decide) _ I.out.2.1) ?_
       rintro e w1 ⟨rfl,hq1,hb1⟩
       have NX:Hid (QAt w1 gf F∧QAt w1 gw (dias (cols R 4) 3)∧Below w.heap.size w w1):=⟨I.out.1.keep hb1 HN.out.1,hq1,I.out.2.2.trans (hb1.mono HN.out.2)⟩
       clear hq1 hb1 I
       go_wp2
       go_roundw
       case rel=>exact⟨3,.inr (.inr (.inr (.inl ⟨rfl,by go_num⟩))),NX.out⟩
       case measure=>simp[intOf]
      ·go_wp2_with fail
       refine Calls.mono (rQuarter_any gw capw (dias (cols R 4) 3) 3 4 9 14 (by show _=_;rw[dias_len];rw[cols_len];exact LR.out) (by show _∧_;decide) _ I.out.2.1) ?_
       rintro e w1 ⟨rfl,hq1,hb1⟩
       have NX:Hid (QAt w1 gf F∧QAt w1 gw (dias (cols R 4) 4)∧Below w.heap.size w w1):=⟨I.out.1.keep hb1 HN.out.1,hq1,I.out.2.2.trans (hb1.mono HN.out.2)⟩
       clear hq1 hb1 I
       go_wp2
       go_roundw
       case rel=>exact⟨4,.inr (.inr (.inr (.inr (⟨rfl,by go_num⟩)))),NX.out⟩
       case measure=>simp[intOf]
      ·have NX:Hid (QAt wr gf F∧QAt wr gw (Cc.rounds F (q+1))∧Below w.heap.size w wr):=by rw[NR.out];exact I.out
       clear I
       go_wp2
       go_roundw
       case rel=>exact⟨q+1,by omega,by go_num,NX.out⟩
       case measure=>simp[intOf];omega
end Go.Proofs.YtgnkkjknngblbaaGreatDoor
namespace Go.Proofs.YtgnkkjknngblbaaGreatDoor
open Go.RowKit Go.Proofs.Fd Go.Proofs.Hs Go.Proofs.Cc
set_option maxRecDepth 20000
theorem rown_bytes {w:World} {base n:Nat} {v:Value} {l:List UInt8} (h:w.ownsRow base 5 1 v n (bcells l)):l.length=n∧((v = .slice none 0 0∧n=0)∨∃g cap,v = .slice (some ⟨g,0,none⟩) n cap∧n≤cap∧cap≤9223372036854775807∧∀j (hj:j < l.length),w.cell? ⟨g,j,none⟩=some (.int .u8 (l[j].toNat:Int))):=by
 obtain⟨hl,hor⟩:=owns_bytes h
 refine⟨hl,?_⟩
 rcases hor with h0|⟨g,cap,rfl,hc⟩
 ·exact .inl h0
 ·refine .inr ⟨g,cap,rfl,?_,?_,hc⟩
  ·rcases h.2 with ⟨h1,-⟩|⟨g',cap',cur,h1,-,-,hn,-⟩
   ·cases h1
   ·injection h1 with _ _ h4;omega
  ·rcases h.2 with ⟨h1,-⟩|⟨g',cap',cur,h1,-,-,-,hm,-⟩
   ·cases h1
   ·injection h1 with _ _ h4;unfold maxLen at hm;omega
theorem rstr_cells (s:ByteArray):Go.Lib.strCells s=bcells s.data.toList:=by simp[Go.Lib.strCells,bcells]
theorem bcells_app (a b:List UInt8):bcells a++bcells b=bcells (a++b):=by simp[bcells]
set_option maxHeartbeats 1000000 in
theorem rStream_any (k n:ByteArray) (c:UInt32) (m:Nat) (hk:Hid (k.size=32)) (hn:Hid (n.size=12)) (hm:m≤65536) (w:World) :
  Calls Tryz.prog 75 #[.string k,.string n,.int .i64 (tv c),.int .i64 (m:Int)] w fun e w'=>e = .returned (.string ⟨(strm k.data.toList n.data.toList c m).toArray⟩)∧Below w.heap.size w w':=by
 obtain⟨i0,hi,hz0,hz1,hz2⟩:=info_parts infoByte
 obtain⟨G,hG⟩:∃G:Nat→List UInt8,blks k.data.toList n.data.toList c=G:=⟨_,rfl⟩
 obtain⟨X,hX⟩:∃X,strm k.data.toList n.data.toList c m=X:=⟨_,rfl⟩
 have HG:Hid (G 0=[]∧(∀q,G (q+1)=G q++blk k.data.toList n.data.toList (c+UInt32.ofNat q))∧(∀q,(G q).length=64*q)∧∀q,m≤64*q→(G q).take m=X):=by
  rw[←hG,←hX]
  exact⟨rfl,fun q=>rfl,fun q=>blks_len _ _ _ q,fun q h=>strm_of _ _ _ m q h⟩
 have LX:Hid (X.length=m):=by show _=_;rw[←hX,strm_len]
 rw[hX]
 clear hG hX
 have W1:=wrap_tv c
 have W2:=tv_mod c
 go_enter Tryz.func75, Tryz.ntmps75
 go_wp2
 go_loopw [9,10] (fun sl i wr=>∃q:Nat,q≤1024∧i = .int .i64 (q:Int)∧Hid (wr.ownsRow w.heap.size 5 1 sl (64*q) (bcells (G q))∧Below w.heap.size w wr)) (fun _ i _=>1024 - (intOf i).toNat)
 case atStart=>exact⟨0,by omega,rfl,by rw[HG.out.1];exact⟨rfl,.inl ⟨rfl,rfl⟩⟩,Below.refl _ _⟩
 case round =>
  obtain⟨q,hq,rfl,I⟩:=hrel
  obtain⟨hl,hor⟩:=rown_bytes I.out.1
  by_cases hlt:64*q < m
  ·have hqb:q < 1024:=by omega
   have C1:IntKind.u32.wrap (tv c+(q:Int))=tv (c+UInt32.ofNat q):=by
    have:=add32 c (UInt32.ofNat q)
    rw[tv_ofNat,Nat.mod_eq_of_lt (by omega)] at this
    exact this
   have C2:(tv c+(q:Int)) % 4294967296=tv (c+UInt32.ofNat q):=by
    have:=add32' c (UInt32.ofNat q)
    rw[tv_ofNat,Nat.mod_eq_of_lt (by omega)] at this
    exact this
   have qi:(q:Int) < 1024:=by omega
   have GS:Hid (_=_):=HG.out.2.1 q
   have BK:Hid (∀w,Calls Tryz.prog 105 #[.string k,.string n,.int .u32 (tv (c+UInt32.ofNat q))] w fun e w'=>e = .returned (.string ⟨(blk k.data.toList n.data.toList (c+UInt32.ofNat q)).toArray⟩)∧Below w.heap.size w w'):=rblock_any k n _ hk hn
   obtain⟨B,hB⟩:∃B:ByteArray,⟨(blk k.data.toList n.data.toList (c+UInt32.ofNat q)).toArray⟩=B:=⟨_,rfl⟩
   have sB:B.size=64:=by rw[←hB];show (_:List UInt8).toArray.size=64;rw[List.size_toArray,blk_len]
   have dB:Hid (B.data.toList=blk k.data.toList n.data.toList (c+UInt32.ofNat q)∧B.size=64):=⟨by rw[←hB],sB⟩
   rw[hB] at BK
   obtain⟨C,hC⟩:∃C,c+UInt32.ofNat q=C:=⟨_,rfl⟩
   rw[hC] at C1 C2 BK dB GS
   have HC:Hid (c+UInt32.ofNat q=C):=hC
   clear hB sB hC
   rcases hor with ⟨rfl,h0⟩|⟨g,cap,rfl,hcap,hcapm,hcell⟩
   ·have hq0:q=0:=by omega
    subst hq0
    have hCc:C=c:=by rw[←HC.out];simp
    rw[hCc] at BK
    clear C1 C2 hCc
    have m0:(0:Int) < (m:Int):=by omega
    rw[show ((0:Nat):Int)=0 from rfl]
    go_wp2_with fail
    refine Calls.mono (BK.out _) ?_
    rintro e w1 ⟨rfl,hb1⟩
    have I1:Hid (w1.ownsRow w.heap.size 5 1 (.slice none 0 0) (64*0) (bcells (G 0))∧Below w.heap.size w w1):=⟨rown_later I.out.1 hb1,chain I.out.2 hb1⟩
    clear hb1 BK I
    go_wp2_with (first
     | (at_builtin;refine Go.Lib.wpList_append_own_string _ rfl _ _ 43 9 rfl w.heap.size 5 i0 Tryz.underlying43 Tryz.underlying9 hi hz0 hz1 hz2 _ _ _ rfl I1.out.1 B rfl (by have:=dB.out.2;unfold maxLen;omega) (by have:=dB.out.2;omega) I1.out.2.size ?_;intro v1 w2 hown1 hgrow1 hnil1))
    go_roundw
    case rel =>
     refine⟨0+1,by omega,by go_num,?_,I1.out.2.grown hgrow1 I1.out.2.size (fun q hq=>(I1.out.1.lt q hq).1)⟩
     rw[rstr_cells,bcells_app,dB.out.1,dB.out.2] at hown1
     rw[GS.out]
     exact hown1
    case measure=>simp[intOf]
   ·obtain⟨r,hr⟩:∃r,64*q=r:=⟨_,rfl⟩
    rw[hr] at I hlt ⊢
    have m0:(r:Int) < (m:Int):=by omega
    go_wp2_with fail
    refine Calls.mono (BK.out _) ?_
    rintro e w1 ⟨rfl,hb1⟩
    have I1:Hid (w1.ownsRow w.heap.size 5 1 (.slice (some ⟨g,0,none⟩) r cap) r (bcells (G q))∧Below w.heap.size w w1):=⟨rown_later I.out.1 hb1,chain I.out.2 hb1⟩
    clear hb1 BK I hcell
    go_wp2_with (first
     | (at_builtin;refine Go.Lib.wpList_append_own_string _ rfl _ _ 43 9 rfl w.heap.size 5 i0 Tryz.underlying43 Tryz.underlying9 hi hz0 hz1 hz2 _ _ _ rfl I1.out.1 B rfl (by have:=dB.out.2;unfold maxLen;omega) (by have:=dB.out.2;omega) I1.out.2.size ?_;intro v1 w2 hown1 hgrow1 hnil1))
    go_roundw
    case rel =>
     refine⟨q+1,by omega,by go_num,?_,I1.out.2.grown hgrow1 I1.out.2.size (fun q hq=>(I1.out.1.lt q hq).1)⟩
     rw[rstr_cells,bcells_app,dB.out.1,dB.out.2] at hown1
     rw[GS.out,show 64*(q+1)=r+64 by omega]
     exact hown1
    case measure=>simp[intOf];omega
  ·have HX:Hid ((G q).take m=X):=HG.out.2.2.2 q (by omega)
   rcases hor with ⟨rfl,h0⟩|⟨g,cap,rfl,hcap,hcapm,hcell⟩
   ·have hm0:m=0:=by omega
    subst hm0
    have X0:Hid (X=[]):=List.length_eq_zero_iff.1 LX.out
    rw[show ((0:Nat):Int)=0 from rfl]
    have CV:(convert 43 9 (.slice none 0 0)).run Tryz.prog wr = .ok (.string ⟨#[]⟩) wr:=by kernel_rfl
    go_wp2
    go_ret
    exact⟨by rw[X0.out];rfl,I.out.2⟩
   ·obtain⟨r,hr⟩:∃r,64*q=r:=⟨_,rfl⟩
    rw[hr] at hcap hl ⊢
    have m0:¬(r:Int) < (m:Int):=by omega
    have m1:(m:Int)≤(cap:Int):=by omega
    have cb:(cap:Int)≤9223372036854775807:=by omega
    have CV:(convert 43 9 (.slice (some ⟨g,0,none⟩) m cap)).run Tryz.prog wr = .ok (.string ⟨X.toArray⟩) wr:=by
     have:=run_convert_bytes_back (P:=Tryz.prog) wr 43 9 5 ⟨g,0,none⟩ cap X Tryz.underlying43 Tryz.underlying5 Tryz.underlying9 (fun j hj=>by
      have q':Addr.add ⟨g,0,none⟩ j=⟨g,j,none⟩:=by simp[Addr.add];intro h;exact h.symm
      have hj':j < (G q).length:=by have:=LX.out;omega
      rw[q',hcell j hj']
      have e:X[j]=(G q)[j]:=by
       have:X[j]?=(G q)[j]?:=by rw[←HX.out,List.getElem?_take_of_lt (by have:=LX.out;omega)]
       rw[List.getElem?_eq_getElem hj,List.getElem?_eq_getElem hj'] at this
       exact Option.some.inj this
      rw[e])
     rw[LX.out] at this;exact this
    clear hcell
    go_wp2
    go_ret
    exact⟨rfl,I.out.2⟩
theorem sapp_one {o:Oper} {a:Act} {K:Act→World→Prop} {Q:Exit→Act→World→Prop} (base:Nat) (wr:World) (R:Int) (x:UInt8) (hR:R=(x.toNat:Int)) (i0:TypeInfo) (hi:Tryz.prog.info? 5 = some i0) (hz0:i0.zero=some (.int .u8 0)) (hz1:i0.size=1) (hz2:i0.bytes=1)
  (s y:Operand) (ho:o.op = .call { callee := .builtin .append,args:=#[s,y],argTypes:=#[43, 43] }) (v:Value) (n:Nat) (l:List UInt8) (hs:a.eval s=v) (hown:wr.ownsRow base 5 1 v n (bcells l)) (hy:a.eval y = .slice (some ⟨wr.heap.size,0,none⟩) 1 1) (hn:n≤140737488355000) (hb:base≤wr.heap.size)
  (h:∀v' w',w'.ownsRow base 5 1 v' (n+1) (bcells (l++[x]))→(∀w0,w0.heap.size=base→Below base w0 wr→Below base w0 w')→K (a.put o.dst v') w'):o.wp Tryz.prog a (wr.alloc (.cells #[.int .u8 R] 5)).drew K Q:=by
 subst hR
 refine wp_append_own _ s y 43 ho base 5 i0 (.int .u8 0) 1 1 Tryz.underlying43 hi hz0 hz1 hz2 rfl (by decide) v n (bcells l) hs (hown.alloc _) ⟨wr.heap.size,0,none⟩ 1 1 [.int .u8 (x.toNat:Int)] hy rfl (cells_newd _ _ _) (by intro u hu;simp at hu;subst hu;rfl) (by unfold maxLen;omega) (by omega) (by show base≤(wr.alloc _).heap.size;simp;omega) ?_
 intro v1 w1 hown1 hgrow1 _
 refine h v1 w1 ?_ (fun w0 hw0 hbel => ?_)
 ·unfold bcells at *
  rw[List.map_append]
  exact hown1
 ·exact ((hbel.alloc (by omega) _).drew).grown hgrow1 (by show base≤(wr.alloc _).heap.size;simp;omega) (fun q hq=>(hown.lt q hq).1)
theorem xorl_take (a b:List UInt8) (q:Nat) (h1:q < a.length) (h2:q < b.length):xorl (a.take (q+1)) (b.take (q+1))=xorl (a.take q) (b.take q)++[a[q] ^^^ b[q]]:=by
 rw[List.take_succ_eq_append_getElem h1,List.take_succ_eq_append_getElem h2]
 unfold xorl
 rw[List.zipWith_append (by rw[List.length_take,List.length_take];omega)]
 rfl
theorem xorl_cut (a b:List UInt8):xorl a (b.take a.length)=xorl a b:=by
 unfold xorl
 apply List.ext_getElem?
 intro i
 rw[List.getElem?_zipWith,List.getElem?_zipWith]
 by_cases h:i < a.length
 ·rw[List.getElem?_take_of_lt h]
 ·rw[List.getElem?_eq_none (by omega)]
set_option maxHeartbeats 1000000 in
theorem rWith_le (a b:ByteArray) (hab:a.size≤b.size) (ha:a.size≤65536) (w:World) :
  Calls Tryz.prog 39 #[.string a,.string b] w fun e w'=>e = .returned (.string ⟨(xorl a.data.toList b.data.toList).toArray⟩)∧Below w.heap.size w w':=by
 obtain⟨i0,hi,hz0,hz1,hz2⟩:=info_parts infoByte
 have la:Hid (a.data.toList.length=a.size∧b.data.toList.length=b.size):=⟨by simp,by simp⟩
 have HAB:Hid (a.size≤b.size):=hab
 clear hab
 go_enter Tryz.func39, Tryz.ntmps39
 go_wp2
 go_loopw [5,6] (fun sl i wr=>∃q:Nat,q≤a.size∧i = .int .i64 (q:Int)∧Hid (wr.ownsRow w.heap.size 5 1 sl q (bcells (xorl (a.data.toList.take q) (b.data.toList.take q)))∧Below w.heap.size w wr)) (fun _ i _=>a.size - (intOf i).toNat)
 case atStart=>exact⟨0,Nat.zero_le _,rfl,⟨rfl,.inl ⟨rfl,rfl⟩⟩,Below.refl _ _⟩
 case round =>
  obtain⟨q,hq,rfl,I⟩:=hrel
  by_cases hlt:q < a.size
  ·have l2:q < b.size:=by have:=HAB.out;omega
   have z1:(q:Int) < (a.size:Int):=by omega
   have z2:(q:Int) < (b.size:Int):=by omega
   have XT:Hid (_=_):=xorl_take a.data.toList b.data.toList q (by rw[la.out.1];exact hlt) (by rw[la.out.2];exact l2)
   obtain⟨x,hx⟩:∃x,a[q]=x:=⟨_,rfl⟩
   obtain⟨y,hy⟩:∃y,b[q]=y:=⟨_,rfl⟩
   have e1:a.data.toList[q]'(by rw[la.out.1];exact hlt)=x:=hx
   have e2:b.data.toList[q]'(by rw[la.out.2];exact l2)=y:=hy
   rw[e1,e2] at XT
   have XY:Hid (((x.toNat ^^^ y.toNat:Nat):Int)=((x ^^^ y).toNat:Int)):=by show _=_;rw[UInt8.toNat_xor]
   have XZ:Hid (bits .xor .u8 (x.toNat:Int) (y.toNat:Int)=((x ^^^ y).toNat:Int)):=sxor8 x y
   clear e1 e2
   go_wp2
   refine (fun (KEY:∀(v1:Value) (w1:World),Hid (w1.ownsRow w.heap.size 5 1 v1 (q+1) (bcells (xorl (a.data.toList.take (q+1)) (b.data.toList.take (q+1))))∧Below w.heap.size w w1)→(?KK:Value→World→Prop) v1 w1) => ?mainA) ?keyA
   case mainA =>
    go_region_held3 (fun _=>True) (trivial) (first|(rw[if_pos (by kernel_rfl)];refine sapp_one w.heap.size wr _ (x ^^^ y) ?_ i0 hi hz0 hz1 hz2 (.tmp 13) (.tmp 21) rfl _ q _ rfl I.out.1 rfl (by omega) I.out.2.size ?_;(focus first|exact XY.out|exact XZ.out);intro v1 w1 hown1 hbel1))
    all_goals exact KEY v1 w1 ⟨by rw[XT.out];exact hown1,hbel1 w rfl I.out.2⟩
   intro v1 w1 NX
   go_wp2
   go_roundw
   case rel=>exact⟨q+1,by omega,by go_num,NX.out⟩
   case measure=>simp[intOf];omega
  ·have hqa:q=a.size:=by omega
   have z1:¬(q:Int) < (a.size:Int):=by omega
   have CV:=rown_string I.out.1 wr (Below.refl _ _)
   have FE:Hid (xorl (a.data.toList.take q) (b.data.toList.take q)=xorl a.data.toList b.data.toList):=by
    show _=_
    rw[List.take_of_length_le (by rw[la.out.1];omega),hqa,←la.out.1,xorl_cut]
   rw[FE.out] at CV
   have HQ:Hid (q=a.size):=hqa
   clear hqa
   go_wp2
   go_ret
   exact⟨rfl,I.out.2⟩
theorem rWith_any (a b:ByteArray) (hab:a.size=b.size) (ha:a.size≤65536) (w:World) :
  Calls Tryz.prog 39 #[.string a,.string b] w fun e w'=>e = .returned (.string ⟨(xorl a.data.toList b.data.toList).toArray⟩)∧Below w.heap.size w w':=rWith_le a b (Nat.le_of_eq hab) ha w
end Go.Proofs.YtgnkkjknngblbaaGreatDoor
