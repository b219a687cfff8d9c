/- The document's headers: Make. -/
import Derived.Test.YtgnkkjknngblbaaGreatDoorZmG38
import Derived.Test.YtgnkkjknngblbaaGreatDoorZmG30
namespace Go.Proofs.YtgnkkjknngblbaaGreatDoor
open Go.RowKit Go.Proofs.Fd Go.Proofs.Hs Go.Proofs.Cc Go.Proofs.Hd Go.Proofs.Rt
set_option maxRecDepth 20000
set_option maxHeartbeats 1000000 in
theorem rmake_path (seed:ByteArray) (a:Option Addr) (n cap:Nat) (b:Option Addr) (m cap2:Nat) (w:World) (e:Int) (he:¬e=0)
  (PA:Hid (Calls Tryz.prog 34 #[.slice b m cap2] w fun x w'=>x = .returned (.int .i64 e)∧Below w.heap.size w w')) :
  Calls Tryz.prog 18 #[.string seed,.slice a n cap,.slice b m cap2] w fun x w'=>x = .returned (.tuple #[.string ⟨#[]⟩,.slice none 0 0,.int .i64 e])∧Below w.heap.size w w':=by
 go_enter Tryz.func18, Tryz.ntmps18
 go_wp2_with fail
 refine Calls.mono PA.out ?_
 rintro x w1 ⟨rfl,hb1⟩
 have B1:Hid (Below w.heap.size w w1):=hb1
 clear hb1 PA
 go_wp2
 go_ret3
 exact⟨rfl,B1.out⟩
set_option maxHeartbeats 1000000 in
theorem rmake_shape (seed:ByteArray) (a:Option Addr) (n cap:Nat) (b:Option Addr) (m cap2:Nat) (w:World) (he:¬n=m)
  (PA:Hid (Calls Tryz.prog 34 #[.slice b m cap2] w fun x w'=>x = .returned (.int .i64 0)∧Below w.heap.size w w')) :
  Calls Tryz.prog 18 #[.string seed,.slice a n cap,.slice b m cap2] w fun x w'=>x = .returned (.tuple #[.string ⟨#[]⟩,.slice none 0 0,.int .i64 4])∧Below w.heap.size w w':=by
 have g1:((n:Int) != (m:Int))=true:=by simp;omega
 go_enter Tryz.func18, Tryz.ntmps18
 go_wp2_with fail
 refine Calls.mono PA.out ?_
 rintro x w1 ⟨rfl,hb1⟩
 have B1:Hid (Below w.heap.size w w1):=hb1
 clear hb1 PA
 go_wp2
 go_ret3
 exact⟨rfl,B1.out⟩
set_option maxHeartbeats 1000000 in
theorem rmake_seed (seed:ByteArray) (a:Option Addr) (n cap:Nat) (b:Option Addr) (cap2:Nat) (w:World) (he:¬seed.size=32)
  (PA:Hid (Calls Tryz.prog 34 #[.slice b n cap2] w fun x w'=>x = .returned (.int .i64 0)∧Below w.heap.size w w')) :
  Calls Tryz.prog 18 #[.string seed,.slice a n cap,.slice b n cap2] w fun x w'=>x = .returned (.tuple #[.string ⟨#[]⟩,.slice none 0 0,.int .i64 3])∧Below w.heap.size w w':=by
 have g1:((n:Int) != (n:Int))=false:=by simp
 have g2:((seed.size:Int) != 32)=true:=by simp;omega
 go_enter Tryz.func18, Tryz.ntmps18
 go_wp2_with fail
 refine Calls.mono PA.out ?_
 rintro x w1 ⟨rfl,hb1⟩
 have B1:Hid (Below w.heap.size w w1):=hb1
 clear hb1 PA
 go_wp2
 go_ret3
 exact⟨rfl,B1.out⟩
def MkP (w w':World) (seed:ByteArray) (pts:List ByteArray) (hs:List Hp) (e:Ending):Prop :=
 (Crv.wh pts=false→e = .returned (.tuple #[.string ⟨#[]⟩,.slice none 0 0,.int .i64 3]))∧(Crv.wh pts=true→secs seed pts []=none→e = .returned (.tuple #[.string ⟨#[]⟩,.slice none 0 0,.int .i64 20]))
 ∧ (Crv.wh pts=true→∀ss,secs seed pts []=some ss→∃v,e = .returned (.tuple #[.string ⟨(hhead seed ss hs 0).toArray⟩,v,.int .i64 0])∧KeysAt w' v ss)∧Below w.heap.size w w'
set_option maxHeartbeats 2000000 in
theorem rmake_main (seed:ByteArray) (zs:seed.size=32) (a:Option Addr) (pts:List ByteArray) (n cap:Nat) (b:Option Addr) (hs:List Hp) (cap2:Nat) (w:World) (hl:Hid (pts.length=n∧hs.length=n)) (h1:1≤n) (h5:n≤5) (hok:Hid (hs.all ok=true)) (hc:Hid (StrAt w a pts)) (hp:Hid (HopsAt w b hs))
  (PA:Hid (Calls Tryz.prog 34 #[.slice b n cap2] w fun x w'=>x = .returned (.int .i64 0)∧Below w.heap.size w w')) :
  Calls Tryz.prog 18 #[.string seed,.slice a n cap,.slice b n cap2] w fun x w'=>MkP w w' seed pts hs x:=by
 have g1:((n:Int) != (n:Int))=false:=by simp
 have g2:((seed.size:Int) != 32)=false:=by simp;omega
 obtain⟨m,hm⟩:∃m:Nat,m+1=n:=⟨n - 1,by omega⟩
 go_enter Tryz.func18, Tryz.ntmps18
 go_wp2_with fail
 refine Calls.mono PA.out ?_
 rintro x w1 ⟨rfl,hb1⟩
 have B1:Hid (Below w.heap.size w w1):=hb1
 clear hb1 PA
 go_wp2_with fail
 go_loopw [10] (fun iv wr=>∃k:Nat,k≤n∧iv = .int .i64 (k:Int)∧Hid (Crv.wh (pts.take k)=true∧Below w.heap.size w wr)) (fun iv _=>n - (intOf iv).toNat)
 case atStart=>exact⟨0,Nat.zero_le _,rfl,rfl,B1.out⟩
 case round =>
  obtain⟨k,hk,rfl,I⟩:=hrel
  clear B1
  by_cases hlt:k < n
  ·have hk':k < pts.length:=by have:=hl.out.1;omega
   have g3:(k:Int) < (n:Int):=by omega
   obtain⟨pb,po,rfl,hcell⟩:=StrAt.later hc.out I.out.2 rfl k hk'
   have HT:Hid (pts[k].size=32→Crv.wh (pts.take (k+1))=true):=fun h=>Crv.wh_take hk' I.out.1 h
   have HN:Hid (¬pts[k].size=32→Crv.wh pts=false):=fun h=>Crv.wh_not hk' h
   generalize pts[k]=s at *
   by_cases h0:s.size=32
   ·have hz:((s.size:Int) != 32)=false:=by simp[h0]
    have FIN:Hid (Crv.wh (pts.take (k+1))=true):=HT.out h0
    clear h0
    go_wp2
    go_roundw
    case rel=>exact⟨k+1,by omega,by go_num,FIN.out,I.out.2⟩
    case measure=>simp[intOf];omega
   ·have hz:((s.size:Int) != 32)=true:=by simp;omega
    have FIN:Hid (Crv.wh pts=false):=HN.out h0
    clear h0
    go_wp2
    go_ret3
    exact⟨fun _=>rfl,fun h=>by rw[FIN.out] at h;(cases h),fun h=>by rw[FIN.out] at h;(cases h),I.out.2⟩
  ·obtain rfl:k=n:=by omega
   have g3:¬(k:Int) < (k:Int):=by omega
   have WH:Hid (Crv.wh pts=true):=by
    have:=I.out.1;rw[List.take_of_length_le (by have:=hl.out.1;omega)] at this;exact this
   have SC:Hid (Calls Tryz.prog 35 #[.string seed,.slice a k cap] wr fun e w'=>ScP wr w' seed pts k e):=rsecrets_any seed zs a pts k cap hl.out.1 h5 WH wr (hc.out.later I.out.2 rfl)
   cases hsec:secs seed pts [] with
   | none =>
    have SN:Hid (Calls Tryz.prog 35 #[.string seed,.slice a k cap] wr fun e w'=>e = .returned (.tuple #[.slice none 0 0,.int .i64 20])∧Below wr.heap.size wr w'):=SC.out.mono fun e w' h=>⟨h.1 hsec,h.2.2⟩
    have FS:Hid (secs seed pts []=none):=hsec
    clear SC hsec
    go_wp2_with fail
    refine Calls.mono SN.out ?_
    rintro x w2 ⟨rfl,hb2⟩
    have B2:Hid (Below w.heap.size w w2):=chain I.out.2 hb2
    clear hb2 SN
    go_wp2
    go_ret3
    exact⟨fun h=>by rw[WH.out] at h;(cases h),fun _ _=>rfl,fun _ ss h=>by rw[FS.out] at h;(cases h),B2.out⟩
   | some ss =>
    have SN:Hid (Calls Tryz.prog 35 #[.string seed,.slice a k cap] wr fun e w'=>∃g c,e = .returned (.tuple #[.slice (some ⟨g,0,none⟩) k c,.int .i64 0])∧k≤c∧c≤maxLen∧KyAt w' (some ⟨g,0,none⟩) ss∧Below wr.heap.size wr w'):=SC.out.mono fun e w' h=>by
     obtain⟨v,hv,ho⟩:=h.2.1 ss hsec
     obtain⟨-,hor⟩:=owns_kys ho
     rcases hor with ⟨-,q⟩|⟨g,c,rfl,hky,-,-,hnc,hcm⟩
     ·omega
     ·exact⟨g,c,hv,hnc,hcm,hky,h.2.2⟩
    have FS:Hid (secs seed pts []=some ss):=hsec
    have LS:Hid (ss.length=k):=(show ss.length=k by rw[←hl.out.1];exact secsG_len _ _ _ _ _ hsec)
    clear SC hsec
    go_wp2_with fail
    refine Calls.mono SN.out ?_
    rintro x w2 ⟨g,c,rfl,hkc,hcm,hky,hb2⟩
    have B2:Hid (Below w.heap.size w w2∧KyAt w2 (some ⟨g,0,none⟩) ss∧k≤c∧c≤maxLen):=⟨chain I.out.2 hb2,hky,hkc,hcm⟩
    clear hb2 SN hky I
    have QN:1≤hs.length∧hs.length≤5:=by rw[hl.out.2];exact⟨h1,h5⟩
    have hmh:m+1=hs.length:=by rw[hl.out.2];exact hm
    obtain⟨f,hf⟩:∃f:Nat,f+40*m=200:=⟨200 - 40*m,by omega⟩
    have s1:wrap64 ((k:Int) - 1)=(m:Int):=by unfold wrap64;omega
    have s1':IntKind.i64.wrap ((k:Int) - 1)=(m:Int):=by rw[IntKind.wrap_i64];omega
    have s2:wrap64 (40*(m:Int))=40*(m:Int):=by unfold wrap64;omega
    have s2':IntKind.i64.wrap (40*(m:Int))=40*(m:Int):=by rw[IntKind.wrap_i64];omega
    have s3:wrap64 (200 - 40*(m:Int))=(f:Int):=by unfold wrap64;omega
    have s3':IntKind.i64.wrap (200 - 40*(m:Int))=(f:Int):=by rw[IntKind.wrap_i64];omega
    have s4:wrap64 ((k:Int) - 2)=(m:Int) - 1 - ((0:Nat):Int):=by unfold wrap64;omega
    have s4':IntKind.i64.wrap ((k:Int) - 2)=(m:Int) - 1 - ((0:Nat):Int):=by rw[IntKind.wrap_i64];omega
    have gm:(m:Int) < (k:Int):=by omega
    have gm0:(0:Int)≤(m:Int):=by omega
    have gm1:m < k:=by omega
    have okx:∀i,i < k→ok (hs.getD i zh)=true:=fun i hi=>by
     rw[List.getD_eq_getElem?_getD,List.getElem?_eq_getElem (by rw[hl.out.2];exact hi)]
     exact List.all_eq_true.1 hok.out _ (List.getElem_mem _)
    have BY:Hid (∀i w,i < k→Calls Tryz.prog 36 #[hv (hs.getD i zh)] w fun e w'=>e = .returned (.string ⟨(byt (hs.getD i zh)).toArray⟩)∧Below w.heap.size w w'):=fun i w hi=>rBytes_any _ (okx i hi) w
    have zC:∀i,i < k→(⟨(byt (hs.getD i zh)).toArray⟩:ByteArray).size=24:=fun i hi=>by rw[ba_sz];exact byt_len _ (okx i hi)
    have FL:Hid (∀i w,Calls Tryz.prog 40 #[kv (nth ss i)] w fun e w'=>e = .returned (.string (hfl (nth ss i)))∧Below w.heap.size w w'):=fun i w=>rflow_any _ w
    have MC:Hid (∀i (l:ByteArray) w,l.size=200→Calls Tryz.prog 42 #[kv (nth ss i),.string l] w fun e w'=>e = .returned (.string (hmb (nth ss i) l))∧Below w.heap.size w w'):=fun i l w hl=>rmac_any _ l (by omega) w
    have Z16:Hid (∀w,Calls Tryz.prog 37 #[.int .i64 16] w fun e w'=>e = .returned (.string (zba 16))∧Below w.heap.size w w'):=fun w=>rzeros_any 16 (by decide) w
    have KP:Hid (∀w,Calls Tryz.prog 38 #[.string seed,.string ⟨#[112,97,100]⟩,.int .i64 200] w fun e w'=>e = .returned (.string (hdk seed lPad 200))∧Below w.heap.size w w'):=fun w=>rhk seed lPad 200 (by decide) (by decide) (by show _≤_;omega) w
    have FI:Hid (∀w',KyAt w' (some ⟨g,0,none⟩) ss→Calls Tryz.prog 41 #[.slice (some ⟨g,0,none⟩) k c,.int .i64 (m:Int)] w' fun e w''=>e = .returned (.string (fbs ss m))∧Below w'.heap.size w' w''):=fun w' h=>rfiller_any _ ss k c LS.out h5 m (by omega) w' h
    have PU:Hid (∀w,Calls Tryz.prog 43 #[.string seed] w fun e w'=>e = .returned (.tuple #[.string (ptB seed []),.int .i64 0])∧Below w.heap.size w w'):=fun w=>by
     rw[ptB_nil];exact Crv.rPublic_ok seed zs w
    have HW:Hid (∀w',Below w.heap.size w w'→HopsAt w' b hs):=fun w' h=>hp.out.later h rfl
    have HKY:Hid (∀w',Below w2.heap.size w2 w'→KyAt w' (some ⟨g,0,none⟩) ss):=fun w' h=>B2.out.2.1.later h
    have zL:∀j,j≤m→(Lb seed ss hs j).size=200:=fun j hj=>Lb_size seed ss hs hok.out QN j (by rw[hl.out.2];omega)
    -- the last hop's list
    obtain⟨C,hC⟩:∃x:ByteArray,⟨(byt (hs.getD m zh)).toArray⟩=x:=⟨_,rfl⟩
    have LW:=Lb_with0 seed ss hs hok.out QN m f hmh hf
    have zCm:=zC m gm1
    rw[hC] at LW zCm
    obtain⟨P1,hP1⟩:∃x,C++zba 16=x:=⟨_,rfl⟩
    obtain⟨P2,hP2⟩:∃x,P1++hdk seed lPad 200=x:=⟨_,rfl⟩
    have zP1:P1.size=40:=by rw[←hP1,ba_add,zCm,zba_size]
    have zP2:P2.size=240:=by rw[←hP2,ba_add,zP1,hdk_size]
    rw[hP1,hP2] at LW
    have A1:∀w,(Op.stringOp .add C (zba 16)).run Tryz.prog w = .ok (.string P1) w:=fun w=>by rw[←hP1];exact run_string_add_sum _ _ _ (by rw[zCm,zba_size];decide)
    have A2:∀w,(Op.stringOp .add P1 (hdk seed lPad 200)).run Tryz.prog w = .ok (.string P2) w:=fun w=>by rw[←hP2];exact run_string_add_sum _ _ _ (by rw[zP1,hdk_size];decide)
    obtain⟨Q1,hQ1⟩:∃x:ByteArray,⟨(xorl (P2.extract 0 f).data.toList (hfl (nth ss m)).data.toList).toArray⟩=x:=⟨_,rfl⟩
    rw[hQ1] at LW
    have WI:Hid (∀w,Calls Tryz.prog 39 #[.string (P2.extract 0 f),.string (hfl (nth ss m))] w fun e w'=>e = .returned (.string Q1)∧Below w.heap.size w w'):=fun w=>by
     rw[←hQ1];exact rWith_le _ _ (by rw[ByteArray.size_extract,hfl_size,zP2];omega) (by rw[ByteArray.size_extract,zP2];omega) w
    have zQ1:Q1.size≤240:=by rw[←hQ1,htn_fl,htn_size _ _ (by rw[ByteArray.size_extract,zP2];omega),ByteArray.size_extract];omega
    have A3:∀w,(Op.stringOp .add Q1 (fbs ss m)).run Tryz.prog w = .ok (.string (Lb seed ss hs 0)) w:=fun w=>by
     rw[←LW];exact run_string_add_sum _ _ _ (by rw[fbs_size ss m (by omega)];omega)
    have B0:=BY.out m
    rw[hC] at B0
    have BY0:Hid (∀w,Calls Tryz.prog 36 #[hv (hs.getD m zh)] w fun e w'=>e = .returned (.string C)∧Below w.heap.size w w'):=fun w=>B0 w gm1
    have FL0:Hid (∀w,Calls Tryz.prog 40 #[kv (nth ss m)] w fun e w'=>e = .returned (.string (hfl (nth ss m)))∧Below w.heap.size w w'):=FL.out m
    have MC0:Hid (∀w,Calls Tryz.prog 42 #[kv (nth ss m),.string (Lb seed ss hs 0)] w fun e w'=>e = .returned (.string (hmb (nth ss m) (Lb seed ss hs 0)))∧Below w.heap.size w w'):=fun w=>MC.out m _ w (zL 0 (Nat.zero_le _))
    have zP2i:(P2.size:Int)=240:=by omega
    have f240:(f:Int)≤240:=by omega
    have f0:(0:Int)≤(f:Int):=by omega
    clear B0 hQ1 hP1 hP2 hC zP1 zCm LW
    unfold hv at BY0
    unfold kv at FL0 MC0
    obtain⟨b2,o2,hb2e,d0,d1,d2,d3,d4⟩:=HW.out w2 B2.out.1 m (by rw[hl.out.2];exact gm1)
    subst hb2e
    obtain⟨L0,hL0⟩:∃x,Lb seed ss hs 0=x:=⟨_,rfl⟩
    obtain⟨T0,hT0⟩:∃x,hmb (nth ss m) (Lb seed ss hs 0)=x:=⟨_,rfl⟩
    rw[hT0] at MC0
    rw[hL0] at MC0 A3
    go_wp2_with fail
    refine Calls.mono (BY0.out _) ?_
    rintro x w3 ⟨rfl,hb3⟩
    have B3:Hid (Below w2.heap.size w2 w3):=hb3
    clear hb3 BY0 d0 d1 d2 d3 d4
    go_wp2_with fail
    refine Calls.mono (Z16.out _) ?_
    rintro x w4 ⟨rfl,hb4⟩
    have B4:Hid (Below w2.heap.size w2 w4):=chain B3.out hb4
    clear hb4 B3 Z16
    go_wp2_with fail
    refine Calls.mono (KP.out _) ?_
    rintro x w5 ⟨rfl,hb5⟩
    have B5:Hid (Below w2.heap.size w2 w5):=chain B4.out hb5
    clear hb5 B4 KP
    go_wp2_with fail
    obtain⟨b3,o3,he3,e0,e1,e2,e3,e4⟩:=HKY.out w5 B5.out m (by rw[LS.out];exact gm1)
    cases he3
    simp only[Nat.zero_add] at e0 e1 e2 e3 e4
    obtain⟨S,hS⟩:∃x,nth ss m=x:=⟨_,rfl⟩
    rw[hS] at e0 e1 e2 e3 e4 FL0 WI MC0
    clear hS
    generalize hdk S lFlow 32=k0 at *
    generalize hdk S lMac 32=k1 at *
    generalize hdk S lBody 32=k2 at *
    generalize bld S=k3 at *
    generalize hdk S lTag 16=k4 at *
    obtain⟨HF,hHF⟩:∃x,hfl S=x:=⟨_,rfl⟩
    rw[hHF] at FL0 WI
    clear hHF
    obtain⟨FB,hFB⟩:∃x,fbs ss m=x:=⟨_,rfl⟩
    rw[hFB] at FI A3
    clear hFB A1 A2
    go_region_with (first|(go_at_call 40;refine Calls.mono (FL0.out _) ?_;rintro x w6 ⟨rfl,hb6⟩;have B6:Hid (Below w2.heap.size w2 w6):=chain (chain B5.out (Below.refl _ _).drew) hb6)|(go_at_call 39;refine Calls.mono (WI.out _) ?_;rintro x w7 ⟨rfl,hb7⟩;have B7:Hid (Below w2.heap.size w2 w7):=chain B6.out hb7)|(go_at_call 41;refine Calls.mono (FI.out _ (HKY.out _ B7.out)) ?_;rintro x w8 ⟨rfl,hb8⟩;have B8:Hid (Below w2.heap.size w2 w8):=chain B7.out hb8))
    have y0:=cell_later hb8 (cell_later hb7 (cell_later hb6 e0))
    have y1:=cell_later hb8 (cell_later hb7 (cell_later hb6 e1))
    have y2:=cell_later hb8 (cell_later hb7 (cell_later hb6 e2))
    have y3:=cell_later hb8 (cell_later hb7 (cell_later hb6 e3))
    have y4:=cell_later hb8 (cell_later hb7 (cell_later hb6 e4))
    clear hb6 hb7 hb8 B5 B6 B7 FL0 WI FI A3 e0 e1 e2 e3 e4
    go_wp2_with fail
    refine Calls.mono (MC0.out _) ?_
    rintro x w9 ⟨rfl,hb9⟩
    have B9:Hid (Below w2.heap.size w2 w9):=chain B8.out hb9
    clear hb9 B8 MC0 y0 y1 y2 y3 y4
    have LWs:Hid (∀j i:Nat,i+(j+1)=m→(⟨(xorl (⟨(byt (hs.getD i zh)).toArray⟩++hmb (nth ss (i+1)) (Lb seed ss hs j)++(Lb seed ss hs j).extract 0 160).data.toList (hfl (nth ss i)).data.toList).toArray⟩:ByteArray)=Lb seed ss hs (j+1)):=fun j i hi=>Lb_with seed ss hs hok.out QN m j i hmh hi
    have ZZ:Hid ((∀j,j≤m→(Lb seed ss hs j).size=200)∧∀i,i < k→(⟨(byt (hs.getD i zh)).toArray⟩:ByteArray).size=24):=⟨zL,zC⟩
    have HDA:Hid (ptB seed []++hmb (nth ss 0) (Lb seed ss hs m)++Lb seed ss hs m=⟨(hhead seed ss hs 0).toArray⟩):=head_all seed ss hs m hmh
    have MM:Hid (m+1=k∧k≤5):=⟨hm,h5⟩
    clear zL zC okx hf s1 s1' s2 s2' s3 s3' zP2 zP2i zQ1 f240 f0 gm gm0 hmh QN hm
    go_wp2_with fail
    clear s4 s4'
    go_loopw [16,17,18] (fun vl vt iv wx=>∃j:Nat,j≤m∧vl = .string (Lb seed ss hs j)∧vt = .string (hmb (nth ss (m - j)) (Lb seed ss hs j))∧iv = .int .i64 ((m:Int) - 1 - (j:Int))∧Hid (Below w2.heap.size w2 wx)) (fun _ _ iv _=>((intOf iv)+1).toNat)
    case atStart=>exact⟨0,Nat.zero_le _,by rw[hL0],by rw[←hT0,Nat.sub_zero],by simp,B9.out⟩
    case round =>
     obtain⟨j,hj,rfl,rfl,hiv,I⟩:=hrel
     clear B9
     by_cases hlt2:j < m
     ·obtain⟨i,hij⟩:∃i:Nat,i+(j+1)=m:=⟨m - (j+1),by omega⟩
      have e1:(m:Int) - 1 - (j:Int)=(i:Int):=by omega
      rw[e1] at hiv
      subst hiv
      have g0:(0:Int)≤(i:Int):=by omega
      have gi:i < k:=by have:=MM.out;omega
      have gI:(i:Int) < (k:Int):=by omega
      obtain⟨b5,o5,he5,d0,d1,d2,d3,d4⟩:=HW.out wr (chain B2.out.1 I.out) i (by rw[hl.out.2];exact gi)
      cases he5
      have BYi:Hid (∀w,Calls Tryz.prog 36 #[hv (hs.getD i zh)] w fun e w'=>e = .returned (.string ⟨(byt (hs.getD i zh)).toArray⟩)∧Below w.heap.size w w'):=fun w=>BY.out i w gi
      have FLi:Hid (∀w,Calls Tryz.prog 40 #[kv (nth ss i)] w fun e w'=>e = .returned (.string (hfl (nth ss i)))∧Below w.heap.size w w'):=FL.out i
      have MCi:Hid (∀w,Calls Tryz.prog 42 #[kv (nth ss i),.string (Lb seed ss hs (j+1))] w fun e w'=>e = .returned (.string (hmb (nth ss i) (Lb seed ss hs (j+1))))∧Below w.heap.size w w'):=fun w=>MC.out i _ w (ZZ.out.1 (j+1) (by omega))
      have LW:=LWs.out j i hij
      have zL:=ZZ.out.1 j hj
      have zC:=ZZ.out.2 i gi
      have em:m - j=i+1:=by omega
      rw[em]
      have NX:Hid (hmb (nth ss (m - (j+1))) (Lb seed ss hs (j+1))=hmb (nth ss i) (Lb seed ss hs (j+1))):=(show _=_ by rw[show m - (j+1)=i by omega])
      have zT:=hmb_size (nth ss (i+1)) (Lb seed ss hs j)
      obtain⟨C,hC⟩:∃x:ByteArray,⟨(byt (hs.getD i zh)).toArray⟩=x:=⟨_,rfl⟩
      rw[hC] at LW BYi zC
      obtain⟨T,hT⟩:∃x,hmb (nth ss (i+1)) (Lb seed ss hs j)=x:=⟨_,rfl⟩
      rw[hT] at LW zT
      rw[hT]
      obtain⟨L,hL⟩:∃x,Lb seed ss hs j=x:=⟨_,rfl⟩
      rw[hL] at LW zL
      rw[hL]
      obtain⟨P1,hP1⟩:∃x,C++T=x:=⟨_,rfl⟩
      obtain⟨P2,hP2⟩:∃x,P1++L.extract 0 160=x:=⟨_,rfl⟩
      have zP1:P1.size=40:=by rw[←hP1,ba_add,zC,zT]
      have zE:(L.extract 0 160).size=160:=by rw[ByteArray.size_extract,zL];decide
      have zP2:P2.size=200:=by rw[←hP2,ba_add,zP1,zE]
      rw[hP1,hP2] at LW
      have A1:∀w,(Op.stringOp .add C T).run Tryz.prog w = .ok (.string P1) w:=fun w=>by rw[←hP1];exact run_string_add_sum _ _ _ (by rw[zC,zT];decide)
      have A2:∀w,(Op.stringOp .add P1 (L.extract 0 160)).run Tryz.prog w = .ok (.string P2) w:=fun w=>by rw[←hP2];exact run_string_add_sum _ _ _ (by rw[zP1,zE];decide)
      have WI:Hid (∀w,Calls Tryz.prog 39 #[.string P2,.string (hfl (nth ss i))] w fun e w'=>e = .returned (.string (Lb seed ss hs (j+1)))∧Below w.heap.size w w'):=fun w=>by
       rw[←LW];exact rWith_le _ _ (by rw[hfl_size,zP2];decide) (by rw[zP2];decide) w
      have zLi:(L.size:Int)=200:=by omega
      have t6:IntKind.i64.wrap ((i:Int) - 1)=(m:Int) - 1 - ((j+1:Nat):Int):=by rw[IntKind.wrap_i64];omega
      have t7:wrap64 ((i:Int) - 1)=(m:Int) - 1 - ((j+1:Nat):Int):=by unfold wrap64;omega
      have EX:Hid ((m:Int) - 1 - ((j+1:Nat):Int)+1=(i:Int)):=(show _=_ by omega)
      have JM:Hid (j+1≤m):=(show _≤_ by omega)
      have IL:Hid (i < ss.length):=(show i < ss.length by rw[LS.out];exact gi)
      clear hC hT hL hP1 hP2 LW zC zT zP1 zE zP2 e1 em hij
      generalize hs.getD i zh=h at *
      obtain⟨hk',hn',hu,hd,hid'⟩:=h
      unfold hv at BYi
      simp only at d0 d1 d2 d3 d4 BYi
      unfold kv at FLi MCi
      obtain⟨L',hL'⟩:∃x,Lb seed ss hs (j+1)=x:=⟨_,rfl⟩
      rw[hL'] at WI MCi NX
      have HL:Hid (Lb seed ss hs (j+1)=L'):=hL'
      clear hL'
      go_wp2_with fail
      go_region_with (first|(go_at_call 36;refine Calls.mono (BYi.out _) ?_;rintro x v1 ⟨rfl,hb1⟩;have D1:Hid (Below w2.heap.size w2 v1):=chain (chain I.out (Below.refl _ _).drew) hb1))
      clear hb1 I BYi A1 A2 d0 d1 d2 d3 d4
      obtain⟨b6,o6,he6,c0,c1,c2,c3,c4⟩:=HKY.out v1 D1.out i IL.out
      cases he6
      simp only[Nat.zero_add] at c0 c1 c2 c3 c4
      generalize nth ss i=S at *
      generalize hdk S lFlow 32=k0 at *
      generalize hdk S lMac 32=k1 at *
      generalize hdk S lBody 32=k2 at *
      generalize bld S=k3 at *
      generalize hdk S lTag 16=k4 at *
      generalize hfl S=HF at *
      go_wp2_with fail
      refine Calls.mono (FLi.out _) ?_
      rintro x v2 ⟨rfl,hb2⟩
      have D2:Hid (Below w2.heap.size w2 v2):=chain D1.out hb2
      replace c0:=cell_later hb2 c0
      replace c1:=cell_later hb2 c1
      replace c2:=cell_later hb2 c2
      replace c3:=cell_later hb2 c3
      replace c4:=cell_later hb2 c4
      clear hb2 D1 FLi
      go_wp2_with fail
      refine Calls.mono (WI.out _) ?_
      rintro x v3 ⟨rfl,hb3⟩
      have D3:Hid (Below w2.heap.size w2 v3):=chain D2.out hb3
      replace c0:=cell_later hb3 c0
      replace c1:=cell_later hb3 c1
      replace c2:=cell_later hb3 c2
      replace c3:=cell_later hb3 c3
      replace c4:=cell_later hb3 c4
      clear hb3 D2 WI
      go_wp2_with fail
      refine Calls.mono (MCi.out _) ?_
      rintro x v4 ⟨rfl,hb4⟩
      have D4:Hid (Below w2.heap.size w2 v4):=chain D3.out hb4
      clear hb4 D3 MCi c0 c1 c2 c3 c4
      go_wp2
      exact⟨⟨j+1,JM.out,by rw[HL.out],by rw[HL.out,NX.out],by rw[show ((j+1:Nat):Int)=(j:Int)+1 by omega],D4.out⟩,by simp only[intOf];have:=EX.out;omega⟩
     ·obtain rfl:j=m:=by omega
      have e1:(j:Int) - 1 - (j:Int) = -1:=by omega
      rw[e1] at hiv
      subst hiv
      rw[Nat.sub_self]
      have zL:=ZZ.out.1 j (Nat.le_refl _)
      have zT:=hmb_size (nth ss 0) (Lb seed ss hs j)
      obtain⟨PT,hPT⟩:∃x,ptB seed []=x:=⟨_,rfl⟩
      have zPT:PT.size=32:=by rw[←hPT];exact ptB_size _ _
      rw[hPT] at PU HDA
      obtain⟨T,hT⟩:∃x,hmb (nth ss 0) (Lb seed ss hs j)=x:=⟨_,rfl⟩
      rw[hT] at HDA zT
      rw[hT]
      obtain⟨L,hL⟩:∃x,Lb seed ss hs j=x:=⟨_,rfl⟩
      rw[hL] at HDA zL
      rw[hL]
      obtain⟨Q1,hQ1⟩:∃x,PT++T=x:=⟨_,rfl⟩
      have zQ:Q1.size=48:=by rw[←hQ1,ba_add,zPT,zT]
      rw[hQ1] at HDA
      have A1:∀w,(Op.stringOp .add PT T).run Tryz.prog w = .ok (.string Q1) w:=fun w=>by rw[←hQ1];exact run_string_add_sum _ _ _ (by rw[zPT,zT];decide)
      have A2:∀w,(Op.stringOp .add Q1 L).run Tryz.prog w = .ok (.string (Q1++L)) w:=fun w=>run_string_add_sum _ _ _ (by rw[zQ,zL];decide)
      clear hPT hT hL hQ1 zPT zT zL zQ
      go_wp2_with fail
      refine Calls.mono (PU.out _) ?_
      rintro x v1 ⟨rfl,hb1⟩
      have D1:Hid (Below w2.heap.size w2 v1):=chain I.out hb1
      clear hb1 I PU
      go_wp2
      go_ret3
      refine⟨fun h=>by rw[WH.out] at h;(cases h),fun _ h=>by rw[FS.out] at h;(cases h),fun _ ss' h => ?_,chain B2.out.1 D1.out⟩
      rw[FS.out] at h
      cases h
      exact⟨_,by rw[HDA.out];rfl,⟨some ⟨g,0,none⟩,c,by rw[LS.out];rfl,by rw[LS.out];exact B2.out.2.2.1,by have:=B2.out.2.2.2;unfold maxLen at this;omega,HKY.out _ D1.out⟩⟩
theorem rMake_any (seed:ByteArray) (a:Option Addr) (pts:List ByteArray) (n cap:Nat) (b:Option Addr) (hs:List Hp) (m cap2:Nat) (w:World) (hl:Hid (pts.length=n∧hs.length=m)) (hb:Hid (n*16≤140737488351232∧m*48≤140737488351232)) (hc:Hid (StrAt w a pts)) (hp:Hid (HopsAt w b hs)) :
  Calls Tryz.prog 18 #[.string seed,.slice a n cap,.slice b m cap2] w fun e w'=>∃v,e = .returned (.tuple #[.string (mkH seed pts hs),v,.int .i64 (mkE seed pts hs)])∧KeysAt w' v (mkS seed pts hs)∧Below w.heap.size w w':=by
 have PA:=rPath_any b hs m cap2 hl.out.2 (by have:=hb.out;omega) w hp
 have none_of:∀e:Int,mkE seed pts hs=e→¬e=0→(Calls Tryz.prog 18 #[.string seed,.slice a n cap,.slice b m cap2] w fun x w'=>x = .returned (.tuple #[.string ⟨#[]⟩,.slice none 0 0,.int .i64 e])∧Below w.heap.size w w') →
   Calls Tryz.prog 18 #[.string seed,.slice a n cap,.slice b m cap2] w fun e w'=>∃v,e = .returned (.tuple #[.string (mkH seed pts hs),v,.int .i64 (mkE seed pts hs)])∧KeysAt w' v (mkS seed pts hs)∧Below w.heap.size w w':=fun e he h0 H=>by
  have e2:mkS seed pts hs=[]:=by unfold mkS;rw[he,if_neg h0]
  have e3:mkH seed pts hs=⟨#[]⟩:=by unfold mkH;rw[he,if_neg h0]
  rw[he,e2,e3]
  refine H.mono ?_
  rintro x w' ⟨rfl,hb'⟩
  exact⟨_,rfl,⟨none,0,rfl,Nat.le_refl _,by decide,fun i hi=>by simp at hi⟩,hb'⟩
 by_cases q1:pth hs=0
 ·rw[q1] at PA
  by_cases q2:n=m
  ·subst q2
   have q2':pts.length=hs.length:=by rw[hl.out.1,hl.out.2]
   obtain⟨r1,r2,r3,-⟩:=pth_zero hs q1
   have l5:n≤5:=by rw[←hl.out.2];exact r3
   have l1:1≤n:=by rw[←hl.out.2];exact r2
   by_cases q3:seed.size=32
   ·have MM:=rmake_main seed q3 a pts n cap b hs cap2 w hl l1 l5 r1 hc hp PA
    cases q4:Crv.wh pts with
    | false =>
     have he:mkE seed pts hs=3:=by
      unfold mkE
      rw[if_pos q1,if_pos q2',if_neg]
      rintro ⟨-,h⟩
      rw[wh_all,q4] at h
      cases h
     exact none_of 3 he (by decide) (MM.mono fun x w' h=>⟨h.1 q4,h.2.2.2⟩)
    | true =>
     cases hsec:secs seed pts [] with
     | none =>
      have he:mkE seed pts hs=20:=by unfold mkE;rw[if_pos q1,if_pos q2',if_pos ⟨q3,q4⟩,hsec]
      exact none_of 20 he (by decide) (MM.mono fun x w' h=>⟨h.2.1 q4 hsec,h.2.2.2⟩)
     | some ss =>
      have e1:mkE seed pts hs=0:=by unfold mkE;rw[if_pos q1,if_pos q2',if_pos ⟨q3,q4⟩,hsec]
      have e2:mkS seed pts hs=ss:=by unfold mkS;rw[e1,if_pos rfl,hsec];rfl
      have e3:mkH seed pts hs=⟨(hhead seed ss hs 0).toArray⟩:=by unfold mkH;rw[e1,if_pos rfl,e2]
      rw[e1,e2,e3]
      refine MM.mono fun x w' h => ?_
      obtain⟨v,hv,hk⟩:=h.2.2.1 q4 ss hsec
      exact⟨v,hv,hk,h.2.2.2⟩
   ·have he:mkE seed pts hs=3:=by
     unfold mkE
     rw[if_pos q1,if_pos q2',if_neg]
     rintro ⟨h,-⟩
     exact q3 h
    exact none_of 3 he (by decide) (rmake_seed seed a n cap b cap2 w q3 PA)
  ·have he:mkE seed pts hs=4:=by unfold mkE;rw[if_pos q1,if_neg (by rw[hl.out.1,hl.out.2];exact q2)]
   exact none_of 4 he (by decide) (rmake_shape seed a n cap b m cap2 w q2 PA)
 ·have he:mkE seed pts hs=pth hs:=by unfold mkE;rw[if_neg q1]
  exact none_of _ he q1 (rmake_path seed a n cap b m cap2 w _ q1 PA)
end Go.Proofs.YtgnkkjknngblbaaGreatDoor
