/- Parts: RD3,RD4,RE,RP1. -/
import Derived.Test.YtgnkkjknngblbaaGreatDoorZnG30
namespace Go.Proofs.YtgnkkjknngblbaaGreatDoor
open Go.RowKit Go.Proofs.Fd Go.Proofs.Rt
set_option maxRecDepth 20000
def enV (h:Hp):Array Value:=if ok h=true then #[.string ⟨(byt h).toArray⟩,.int .i64 0] else #[.string ⟨#[]⟩,.int .i64 70]
theorem enV_ok (h:Hp) (e:ok h=true):enV h=#[.string ⟨(byt h).toArray⟩,.int .i64 0]:=if_pos e
theorem enV_no (h:Hp) (e:¬ok h=true):enV h=#[.string ⟨#[]⟩,.int .i64 70]:=if_neg e
theorem chk_ok (h:Hp) (e:ok h=true):chk h=0:=if_pos e
theorem chk_no (h:Hp) (e:¬ok h=true):chk h=70:=if_neg e
def dcV (b:ByteArray):Array Value:=if b.size=24 then (match dcd b.data.toList with
  | some x=>#[hv x,.int .i64 0]
  | none=>#[hv zh,.int .i64 70]) else #[hv zh,.int .i64 3]
theorem dcV_form (b:ByteArray) (h:¬b.size=24):dcV b=#[hv zh,.int .i64 3]:=if_neg h
theorem dcV_some (b:ByteArray) (x:Hp) (h:b.size=24) (e:dcd b.data.toList=some x):dcV b=#[hv x,.int .i64 0]:=by unfold dcV;rw[if_pos h,e]
theorem dcV_none (b:ByteArray) (h:b.size=24) (e:dcd b.data.toList=none):dcV b=#[hv zh,.int .i64 70]:=by unfold dcV;rw[if_pos h,e]
theorem HopAt.cells {w:World} {g:Nat} {k n u d:Int} {id:ByteArray} (q:HopAt w g ⟨k,n,u,d,id⟩):w.cell? ⟨g,0,none⟩=some (.int .i64 k)∧w.cell? ⟨g,1,none⟩=some (.int .i64 n)∧w.cell? ⟨g,2,none⟩=some (.int .i64 u)∧w.cell? ⟨g,3,none⟩=some (.int .i64 d)∧w.cell? ⟨g,4,none⟩=some (.string id):=q.2
theorem HopAt.fresh (w:World) (t:TypeId) (k n u d:Int) (id:ByteArray):HopAt (w.alloc (.cells #[.int .i64 k,.int .i64 n,.int .i64 u,.int .i64 d,.string id] t)) w.heap.size ⟨k,n,u,d,id⟩:=HopAt.new w t ⟨k,n,u,d,id⟩
theorem cand_kinds (b:ByteArray) (c0 c1 c2 c3:UInt8) (h0:b.data.toList.getD 0 0=c0) (h1:b.data.toList.getD 1 0=c1) (h2:b.data.toList.getD 2 0=c2) (h3:b.data.toList.getD 3 0=c3) :
  (c0=1→cand b.data.toList=⟨1,(c1.toNat:Int),0,(c2.toNat:Int)*256+(c3.toNat:Int),⟨#[]⟩⟩)∧(c0=2→cand b.data.toList=⟨2,0,(c1.toNat:Int),(c2.toNat:Int)*256+(c3.toNat:Int),b.extract 4 20⟩)
  ∧ (c0=3→cand b.data.toList=⟨3,0,0,0,b.extract 4 20⟩)∧(c0≠1→c0≠2→c0≠3→cand b.data.toList=⟨(c0.toNat:Int),0,0,0,⟨#[]⟩⟩):=by
 have e:b.extract 4 20=⟨((b.data.toList.drop 4).take 16).toArray⟩:=by
  apply ByteArray.ext
  rw[ByteArray.data_extract]
  apply Array.toList_inj.1
  rw[Array.toList_extract,List.extract_eq_take_drop]
 unfold cand
 rw[h0,h1,h2,h3,e]
 refine⟨fun h=>if_pos h,fun h => ?_,fun h => ?_,fun g1 g2 g3 => ?_⟩
 ·rw[if_neg (by rw[h];decide),if_pos h]
 ·rw[if_neg (by rw[h];decide),if_neg (by rw[h];decide),if_pos h]
 ·rw[if_neg g1,if_neg g2,if_neg g3]
theorem HopAt.whole {w:World} {b:Nat} {h:Hp} (q:HopAt w b h) (k n u d:Int) (id:ByteArray) :
  HopAt (((((w.setCell ⟨b,0,none⟩ (.int .i64 k)).setCell ⟨b,1,none⟩ (.int .i64 n)).setCell ⟨b,2,none⟩ (.int .i64 u)).setCell ⟨b,3,none⟩ (.int .i64 d)).setCell ⟨b,4,none⟩ (.string id)) b ⟨k,n,u,d,id⟩:=by
 obtain⟨f,h0,h1,h2,h3,h4⟩:=q
 refine⟨fun o=>by simp[go_sem,f],?_,?_,?_,?_,?_⟩ <;> simp[go_sem,h0,h1,h2,h3,h4]
theorem below_put5 {B:Nat} {a w:World} (h:Below B a w) {c:Nat} (hc:B≤c) (y0 y1 y2 y3 y4:Value) :
  Below B a (((((w.setCell ⟨c,0,none⟩ y0).setCell ⟨c,1,none⟩ y1).setCell ⟨c,2,none⟩ y2).setCell ⟨c,3,none⟩ y3).setCell ⟨c,4,none⟩ y4) :=
 ((((h.setCell (p:=⟨c,0,none⟩) hc _).setCell (p:=⟨c,1,none⟩) hc _).setCell (p:=⟨c,2,none⟩) hc _).setCell (p:=⟨c,3,none⟩) hc _).setCell (p:=⟨c,4,none⟩) hc _
theorem HopAt.range {w:World} {b:Nat} {k n u d:Int} {id:ByteArray} (h:HopAt w b ⟨k,n,u,d,id⟩):w.rangeAt b 0 [.int .i64 k,.int .i64 n,.int .i64 u,.int .i64 d,.string id]:=by
 obtain⟨h0,h1,h2,h3,h4⟩:=h.cells
 intro j v hv
 rcases (by have:=(List.getElem?_eq_some_iff.1 hv).1;simp at this;omega:j=0∨j=1∨j=2∨j=3∨j=4) with rfl|rfl|rfl|rfl|rfl
 ·simp at hv;subst hv;simpa using h0
 ·simp at hv;subst hv;simpa using h1
 ·simp at hv;subst hv;simpa using h2
 ·simp at hv;subst hv;simpa using h3
 ·simp at hv;subst hv;simpa using h4
theorem res_rdec (tmps:Array Value) (w:World) (b:Nat) (k n u d:Int) (id:ByteArray) (e:Int) (h2:tmps.getD 2 undef = .pointer (some ⟨b,0,none⟩)) (h3:tmps.getD 3 undef = .int .i64 e) (l:HopAt w b ⟨k,n,u,d,id⟩) :
  (results Tryz.f60 tmps).run Tryz.prog w = .ok (.tuple #[.agg #[.int .i64 k,.int .i64 n,.int .i64 u,.int .i64 d,.string id],.int .i64 e]) w:=by
 have l1:=run_loadVar_mid (P:=Tryz.prog) w b 0 34 [.int .i64 k,.int .i64 n,.int .i64 u,.int .i64 d,.string id] _ l.range Tryz.underlying34 rfl (by kernel_rfl)
 unfold results
 rw[Tryz.results60]
 have h2':tmps[2]?.getD undef = .pointer (some ⟨b,0,none⟩):=by simpa using h2
 have h3':tmps[3]?.getD undef = .int .i64 e:=by simpa using h3
 simp[h2',h3',l1,asAddr]
set_option maxHeartbeats 1000000 in
theorem rDecode_form (b:ByteArray) (h:¬b.size=24) (w:World) :
  Calls Tryz.prog 60 #[.string b] w fun e w'=>e = .returned (.tuple #[hv zh,.int .i64 3])∧Below w.heap.size w w':=by
 have h':¬(b.size:Int)=24:=by omega
 unfold hv zh
 simp only
 go_enter Tryz.func60, Tryz.ntmps60
 go_wp2
 refine bodyPost_ret ?_ rfl ⟨rfl,(Below.refl _ _).alloc (Nat.le_refl _) _⟩
 exact res_rdec _ _ w.heap.size 0 0 0 0 ⟨#[]⟩ 3 (by kernel_rfl) (by kernel_rfl) (HopAt.fresh _ _ _ _ _ _ _)
set_option maxHeartbeats 2000000 in
theorem rDecode_ok (b:ByteArray) (hb:b.size=24) (w:World) :
  Calls Tryz.prog 60 #[.string b] w fun e w'=>e = .returned (.tuple (dcV b))∧Below w.heap.size w w':=by
 have l0:0 < b.size:=by omega
 have l1:1 < b.size:=by omega
 have l2:2 < b.size:=by omega
 have l3:3 < b.size:=by omega
 have CK:Hid (∀(k n u d:Int) (id:ByteArray) (w:World),Calls Tryz.prog 72 #[.agg #[.int .i64 k,.int .i64 n,.int .i64 u,.int .i64 d,.string id]] w fun e w'=>e = .returned (.int .i64 (chk ⟨k,n,u,d,id⟩))∧Below w.heap.size w w'):=fun k n u d id w=>rCheck_any ⟨k,n,u,d,id⟩ w
 have BY:Hid (∀(k n u d:Int) (id:ByteArray) (w:World),ok ⟨k,n,u,d,id⟩=true→Calls Tryz.prog 36 #[.agg #[.int .i64 k,.int .i64 n,.int .i64 u,.int .i64 d,.string id]] w fun e w'=>e = .returned (.string ⟨(byt ⟨k,n,u,d,id⟩).toArray⟩)∧Below w.heap.size w w'):=fun k n u d id w h=>rBytes_any ⟨k,n,u,d,id⟩ h w
 obtain⟨c0,hc0⟩:∃c,b[0]=c:=⟨_,rfl⟩
 obtain⟨c1,hc1⟩:∃c,b[1]=c:=⟨_,rfl⟩
 obtain⟨c2,hc2⟩:∃c,b[2]=c:=⟨_,rfl⟩
 obtain⟨c3,hc3⟩:∃c,b[3]=c:=⟨_,rfl⟩
 have CD:Hid (_∧_):=cand_kinds b c0 c1 c2 c3 (by rw[List.getD_eq_getElem?_getD,List.getElem?_eq_getElem (by simpa using l0),←hc0];rfl) (by rw[List.getD_eq_getElem?_getD,List.getElem?_eq_getElem (by simpa using l1),←hc1];rfl) (by rw[List.getD_eq_getElem?_getD,List.getElem?_eq_getElem (by simpa using l2),←hc2];rfl) (by rw[List.getD_eq_getElem?_getD,List.getElem?_eq_getElem (by simpa using l3),←hc3];rfl)
 have FIN:Hid (∀(k n u d:Int) (id:ByteArray),cand b.data.toList=⟨k,n,u,d,id⟩→(¬ok ⟨k,n,u,d,id⟩=true→dcV b=#[hv zh,.int .i64 70])∧(¬byt ⟨k,n,u,d,id⟩=b.data.toList→dcV b=#[hv zh,.int .i64 70])∧(ok ⟨k,n,u,d,id⟩=true→byt ⟨k,n,u,d,id⟩=b.data.toList→dcV b=#[hv ⟨k,n,u,d,id⟩,.int .i64 0])):=fun k n u d id hc=>by
  have hl:b.data.toList.length=24:=by simpa using hb
  refine⟨fun h=>dcV_none b hb ?_,fun h=>dcV_none b hb ?_,fun h1 h2=>dcV_some b _ hb ?_⟩
  ·unfold dcd;rw[hc,if_neg (fun g=>h g.2.1)]
  ·unfold dcd;rw[hc,if_neg (fun g=>h g.2.2)]
  ·unfold dcd;rw[hc,if_pos ⟨hl,h1,h2⟩]
 have zb:(b.size:Int)=24:=by omega
 have z0:(0:Int) < (b.size:Int):=by omega
 have z1:(1:Int) < (b.size:Int):=by omega
 have z2:(2:Int) < (b.size:Int):=by omega
 have z3:(3:Int) < (b.size:Int):=by omega
 have q0:=c0.toNat_lt
 have q1:=c1.toNat_lt
 have q2:=c2.toNat_lt
 have q3:=c3.toNat_lt
 by_cases k1:c0=1
 ·subst k1
  have CE:=CD.out.1 rfl
  have FN:Hid (_∧_):=FIN.out _ _ _ _ _ CE
  clear FIN CD CE
  go_enter Tryz.func60, Tryz.ntmps60
  go_wp2_with fail
  go_region
  go_wp2_with fail
  obtain⟨D,hD⟩:∃D,((w.alloc (.cells #[.int .i64 0,.int .i64 0,.int .i64 0,.int .i64 0,.string ⟨#[]⟩] 34)).alloc (.cells #[.int .i64 1,.int .i64 (c1.toNat:Int),.int .i64 0,.int .i64 ((c2.toNat:Int)*256+(c3.toNat:Int)),.string ⟨#[]⟩] 34)).drew=D:=⟨_,rfl⟩
  rw[hD]
  have HD:Hid (HopAt D w.heap.size ⟨0,0,0,0,⟨#[]⟩⟩∧HopAt D (w.heap.size+1) ⟨1,(c1.toNat:Int),0,((c2.toNat:Int)*256+(c3.toNat:Int)),⟨#[]⟩⟩∧Below w.heap.size w D):=by
   have h0:=HopAt.fresh w 34 0 0 0 0 ⟨#[]⟩
   have b0:Below w.heap.size w (w.alloc (.cells #[.int .i64 0,.int .i64 0,.int .i64 0,.int .i64 0,.string ⟨#[]⟩] 34)):=(Below.refl _ _).alloc (Nat.le_refl _) _
   have h1:=HopAt.fresh (w.alloc (.cells #[.int .i64 0,.int .i64 0,.int .i64 0,.int .i64 0,.string ⟨#[]⟩] 34)) 34 1 (c1.toNat:Int) 0 ((c2.toNat:Int)*256+(c3.toNat:Int)) ⟨#[]⟩
   have e:(w.alloc (.cells #[.int .i64 0,.int .i64 0,.int .i64 0,.int .i64 0,.string ⟨#[]⟩] 34)).heap.size=w.heap.size+1:=by simp
   rw[e] at h1
   have b1:=(Below.refl _ (w.alloc (.cells #[.int .i64 0,.int .i64 0,.int .i64 0,.int .i64 0,.string ⟨#[]⟩] 34))).alloc (Nat.le_refl _) (.cells #[.int .i64 1,.int .i64 (c1.toNat:Int),.int .i64 0,.int .i64 ((c2.toNat:Int)*256+(c3.toNat:Int)),.string ⟨#[]⟩] 34)
   rw[←hD]
   exact⟨h0.later b1.drew,h1,chain b0 b1.drew⟩
  clear hD
  have CK1:Hid (∀w,Calls Tryz.prog 72 #[.agg #[.int .i64 1,.int .i64 (c1.toNat:Int),.int .i64 0,.int .i64 ((c2.toNat:Int)*256+(c3.toNat:Int)),.string ⟨#[]⟩]] w fun e w'=>e = .returned (.int .i64 (chk ⟨1,(c1.toNat:Int),0,((c2.toNat:Int)*256+(c3.toNat:Int)),⟨#[]⟩⟩))∧Below w.heap.size w w'):=fun w=>CK.out _ _ _ _ _ w
  have BY1:Hid (ok ⟨1,(c1.toNat:Int),0,((c2.toNat:Int)*256+(c3.toNat:Int)),⟨#[]⟩⟩=true→∀w,Calls Tryz.prog 36 #[.agg #[.int .i64 1,.int .i64 (c1.toNat:Int),.int .i64 0,.int .i64 ((c2.toNat:Int)*256+(c3.toNat:Int)),.string ⟨#[]⟩]] w fun e w'=>e = .returned (.string ⟨(byt ⟨1,(c1.toNat:Int),0,((c2.toNat:Int)*256+(c3.toNat:Int)),⟨#[]⟩⟩).toArray⟩)∧Below w.heap.size w w'):=fun h w=>BY.out _ _ _ _ _ w h
  clear CK BY
  by_cases hok:ok ⟨1,(c1.toNat:Int),0,((c2.toNat:Int)*256+(c3.toNat:Int)),⟨#[]⟩⟩=true
  ·rw[chk_ok _ hok] at CK1
   have BY2:Hid (∀w,Calls Tryz.prog 36 #[.agg #[.int .i64 1,.int .i64 (c1.toNat:Int),.int .i64 0,.int .i64 ((c2.toNat:Int)*256+(c3.toNat:Int)),.string ⟨#[]⟩]] w fun e w'=>e = .returned (.string ⟨(byt ⟨1,(c1.toNat:Int),0,((c2.toNat:Int)*256+(c3.toNat:Int)),⟨#[]⟩⟩).toArray⟩)∧Below w.heap.size w w'):=BY1.out hok
   refine Calls.mono (CK1.out _) ?_
   rintro e w1 ⟨rfl,hb1⟩
   have H1:Hid (HopAt w1 w.heap.size ⟨0,0,0,0,⟨#[]⟩⟩∧HopAt w1 (w.heap.size+1) ⟨1,(c1.toNat:Int),0,((c2.toNat:Int)*256+(c3.toNat:Int)),⟨#[]⟩⟩∧Below w.heap.size w w1):=⟨HD.out.1.later hb1,HD.out.2.1.later hb1,chain HD.out.2.2 hb1⟩
   obtain⟨p0,p1,p2,p3,p4⟩:=H1.out.2.1.cells
   obtain⟨X,hX⟩:∃X:ByteArray,⟨(byt ⟨1,(c1.toNat:Int),0,((c2.toNat:Int)*256+(c3.toNat:Int)),⟨#[]⟩⟩).toArray⟩=X:=⟨_,rfl⟩
   have EX:Hid ((X.toList=b.toList)=(byt ⟨1,(c1.toNat:Int),0,((c2.toNat:Int)*256+(c3.toNat:Int)),⟨#[]⟩⟩=b.data.toList)):=by
    show _=_
    rw[ByteArray.toList_eq,ByteArray.toList_eq,←hX]
   rw[hX] at BY2
   have OK1:Hid (ok ⟨1,(c1.toNat:Int),0,((c2.toNat:Int)*256+(c3.toNat:Int)),⟨#[]⟩⟩=true):=hok
   clear hb1 CK1 HD hX BY1 hok
   go_wp2_with fail
   refine Calls.mono (BY2.out _) ?_
   rintro e w2 ⟨rfl,hb2⟩
   have H2:Hid (HopAt w2 w.heap.size ⟨0,0,0,0,⟨#[]⟩⟩∧HopAt w2 (w.heap.size+1) ⟨1,(c1.toNat:Int),0,((c2.toNat:Int)*256+(c3.toNat:Int)),⟨#[]⟩⟩∧Below w.heap.size w w2):=⟨H1.out.1.later hb2,H1.out.2.1.later hb2,chain H1.out.2.2 hb2⟩
   obtain⟨r0,r1,r2,r3,r4⟩:=H2.out.2.1.cells
   obtain⟨s0,s1,s2,s3,s4⟩:=H2.out.1.cells
   have fz:=H2.out.1.1
   have f0:=fz 0
   have f1:=fz 1
   have f2:=fz 2
   have f3:=fz 3
   have f4:=fz 4
   clear hb2 H1 p0 p1 p2 p3 p4 BY2 fz
   by_cases hq:X.toList=b.toList
   ·have E:Hid (dcV b=#[.agg #[.int .i64 1,.int .i64 (c1.toNat:Int),.int .i64 0,.int .i64 ((c2.toNat:Int)*256+(c3.toNat:Int)),.string ⟨#[]⟩],.int .i64 0]):=FN.out.2.2 OK1.out (EX.out ▸ hq)
    have HW:Hid (_∧_):=And.intro (HopAt.whole H2.out.1 1 (c1.toNat:Int) 0 ((c2.toNat:Int)*256+(c3.toNat:Int)) ⟨#[]⟩) (below_put5 H2.out.2.2 (Nat.le_refl w.heap.size) (.int .i64 1) (.int .i64 (c1.toNat:Int)) (.int .i64 0) (.int .i64 ((c2.toNat:Int)*256+(c3.toNat:Int))) (.string ⟨#[]⟩))
    clear FN EX OK1 H2
    go_wp2
    refine bodyPost_ret (v := .tuple #[.agg #[.int .i64 1,.int .i64 (c1.toNat:Int),.int .i64 0,.int .i64 ((c2.toNat:Int)*256+(c3.toNat:Int)),.string ⟨#[]⟩],.int .i64 0]) ?_ rfl ⟨by rw[E.out],HW.out.2⟩
    exact res_rdec _ _ w.heap.size _ _ _ _ _ 0 (by kernel_rfl) (by kernel_rfl) HW.out.1
   ·have hq2:(X.toList == b.toList)=false:=beq_eq_false_iff_ne.2 hq
    have E:Hid (dcV b=#[.agg #[.int .i64 0,.int .i64 0,.int .i64 0,.int .i64 0,.string ⟨#[]⟩],.int .i64 70]):=FN.out.2.1 (fun h=>hq (EX.out ▸ h))
    have HW:Hid (_∧_):=And.intro (HopAt.whole H2.out.1 0 0 0 0 ⟨#[]⟩) (below_put5 H2.out.2.2 (Nat.le_refl w.heap.size) (.int .i64 0) (.int .i64 0) (.int .i64 0) (.int .i64 0) (.string ⟨#[]⟩))
    clear FN EX OK1 H2
    go_wp2
    refine bodyPost_ret (v := .tuple #[.agg #[.int .i64 0,.int .i64 0,.int .i64 0,.int .i64 0,.string ⟨#[]⟩],.int .i64 70]) ?_ rfl ⟨by rw[E.out],HW.out.2⟩
    exact res_rdec _ _ w.heap.size 0 0 0 0 ⟨#[]⟩ 70 (by kernel_rfl) (by kernel_rfl) HW.out.1
  ·rw[chk_no _ hok] at CK1
   refine Calls.mono (CK1.out _) ?_
   rintro e w1 ⟨rfl,hb1⟩
   have H2:Hid (HopAt w1 w.heap.size ⟨0,0,0,0,⟨#[]⟩⟩∧Below w.heap.size w w1):=⟨HD.out.1.later hb1,chain HD.out.2.2 hb1⟩
   obtain⟨s0,s1,s2,s3,s4⟩:=H2.out.1.cells
   have fz:=H2.out.1.1
   have f0:=fz 0
   have f1:=fz 1
   have f2:=fz 2
   have f3:=fz 3
   have f4:=fz 4
   have E:Hid (dcV b=#[.agg #[.int .i64 0,.int .i64 0,.int .i64 0,.int .i64 0,.string ⟨#[]⟩],.int .i64 70]):=FN.out.1 hok
   have HW:Hid (_∧_):=And.intro (HopAt.whole H2.out.1 0 0 0 0 ⟨#[]⟩) (below_put5 H2.out.2 (Nat.le_refl w.heap.size) (.int .i64 0) (.int .i64 0) (.int .i64 0) (.int .i64 0) (.string ⟨#[]⟩))
   clear FN hb1 CK1 HD BY1 H2 fz hok
   go_wp2
   refine bodyPost_ret (v := .tuple #[.agg #[.int .i64 0,.int .i64 0,.int .i64 0,.int .i64 0,.string ⟨#[]⟩],.int .i64 70]) ?_ rfl ⟨by rw[E.out],HW.out.2⟩
   exact res_rdec _ _ w.heap.size 0 0 0 0 ⟨#[]⟩ 70 (by kernel_rfl) (by kernel_rfl) HW.out.1
 ·by_cases k2:c0=2
  ·subst k2
   have CE:=CD.out.2.1 rfl
   have FN:Hid (_∧_):=FIN.out _ _ _ _ _ CE
   clear FIN CD CE k1
   go_enter Tryz.func60, Tryz.ntmps60
   go_wp2_with fail
   go_region
   go_wp2_with fail
   obtain⟨D,hD⟩:∃D,((w.alloc (.cells #[.int .i64 0,.int .i64 0,.int .i64 0,.int .i64 0,.string ⟨#[]⟩] 34)).alloc (.cells #[.int .i64 2,.int .i64 0,.int .i64 (c1.toNat:Int),.int .i64 ((c2.toNat:Int)*256+(c3.toNat:Int)),.string (b.extract 4 20)] 34)).drew=D:=⟨_,rfl⟩
   rw[hD]
   have HD:Hid (HopAt D w.heap.size ⟨0,0,0,0,⟨#[]⟩⟩∧HopAt D (w.heap.size+1) ⟨2,0,(c1.toNat:Int),((c2.toNat:Int)*256+(c3.toNat:Int)),(b.extract 4 20)⟩∧Below w.heap.size w D):=by
    have h0:=HopAt.fresh w 34 0 0 0 0 ⟨#[]⟩
    have b0:Below w.heap.size w (w.alloc (.cells #[.int .i64 0,.int .i64 0,.int .i64 0,.int .i64 0,.string ⟨#[]⟩] 34)):=(Below.refl _ _).alloc (Nat.le_refl _) _
    have h1:=HopAt.fresh (w.alloc (.cells #[.int .i64 0,.int .i64 0,.int .i64 0,.int .i64 0,.string ⟨#[]⟩] 34)) 34 2 0 (c1.toNat:Int) ((c2.toNat:Int)*256+(c3.toNat:Int)) (b.extract 4 20)
    have e:(w.alloc (.cells #[.int .i64 0,.int .i64 0,.int .i64 0,.int .i64 0,.string ⟨#[]⟩] 34)).heap.size=w.heap.size+1:=by simp
    rw[e] at h1
    have b1:=(Below.refl _ (w.alloc (.cells #[.int .i64 0,.int .i64 0,.int .i64 0,.int .i64 0,.string ⟨#[]⟩] 34))).alloc (Nat.le_refl _) (.cells #[.int .i64 2,.int .i64 0,.int .i64 (c1.toNat:Int),.int .i64 ((c2.toNat:Int)*256+(c3.toNat:Int)),.string (b.extract 4 20)] 34)
    rw[←hD]
    exact⟨h0.later b1.drew,h1,chain b0 b1.drew⟩
   clear hD
   have CK1:Hid (∀w,Calls Tryz.prog 72 #[.agg #[.int .i64 2,.int .i64 0,.int .i64 (c1.toNat:Int),.int .i64 ((c2.toNat:Int)*256+(c3.toNat:Int)),.string (b.extract 4 20)]] w fun e w'=>e = .returned (.int .i64 (chk ⟨2,0,(c1.toNat:Int),((c2.toNat:Int)*256+(c3.toNat:Int)),(b.extract 4 20)⟩))∧Below w.heap.size w w'):=fun w=>CK.out _ _ _ _ _ w
   have BY1:Hid (ok ⟨2,0,(c1.toNat:Int),((c2.toNat:Int)*256+(c3.toNat:Int)),(b.extract 4 20)⟩=true→∀w,Calls Tryz.prog 36 #[.agg #[.int .i64 2,.int .i64 0,.int .i64 (c1.toNat:Int),.int .i64 ((c2.toNat:Int)*256+(c3.toNat:Int)),.string (b.extract 4 20)]] w fun e w'=>e = .returned (.string ⟨(byt ⟨2,0,(c1.toNat:Int),((c2.toNat:Int)*256+(c3.toNat:Int)),(b.extract 4 20)⟩).toArray⟩)∧Below w.heap.size w w'):=fun h w=>BY.out _ _ _ _ _ w h
   clear CK BY
   by_cases hok:ok ⟨2,0,(c1.toNat:Int),((c2.toNat:Int)*256+(c3.toNat:Int)),(b.extract 4 20)⟩=true
   ·rw[chk_ok _ hok] at CK1
    have BY2:Hid (∀w,Calls Tryz.prog 36 #[.agg #[.int .i64 2,.int .i64 0,.int .i64 (c1.toNat:Int),.int .i64 ((c2.toNat:Int)*256+(c3.toNat:Int)),.string (b.extract 4 20)]] w fun e w'=>e = .returned (.string ⟨(byt ⟨2,0,(c1.toNat:Int),((c2.toNat:Int)*256+(c3.toNat:Int)),(b.extract 4 20)⟩).toArray⟩)∧Below w.heap.size w w'):=BY1.out hok
    refine Calls.mono (CK1.out _) ?_
    rintro e w1 ⟨rfl,hb1⟩
    have H1:Hid (HopAt w1 w.heap.size ⟨0,0,0,0,⟨#[]⟩⟩∧HopAt w1 (w.heap.size+1) ⟨2,0,(c1.toNat:Int),((c2.toNat:Int)*256+(c3.toNat:Int)),(b.extract 4 20)⟩∧Below w.heap.size w w1):=⟨HD.out.1.later hb1,HD.out.2.1.later hb1,chain HD.out.2.2 hb1⟩
    obtain⟨p0,p1,p2,p3,p4⟩:=H1.out.2.1.cells
    obtain⟨X,hX⟩:∃X:ByteArray,⟨(byt ⟨2,0,(c1.toNat:Int),((c2.toNat:Int)*256+(c3.toNat:Int)),(b.extract 4 20)⟩).toArray⟩=X:=⟨_,rfl⟩
    have EX:Hid ((X.toList=b.toList)=(byt ⟨2,0,(c1.toNat:Int),((c2.toNat:Int)*256+(c3.toNat:Int)),(b.extract 4 20)⟩=b.data.toList)):=by
     show _=_
     rw[ByteArray.toList_eq,ByteArray.toList_eq,←hX]
    rw[hX] at BY2
    have OK1:Hid (ok ⟨2,0,(c1.toNat:Int),((c2.toNat:Int)*256+(c3.toNat:Int)),(b.extract 4 20)⟩=true):=hok
    clear hb1 CK1 HD hX BY1 hok
    go_wp2_with fail
    refine Calls.mono (BY2.out _) ?_
    rintro e w2 ⟨rfl,hb2⟩
    have H2:Hid (HopAt w2 w.heap.size ⟨0,0,0,0,⟨#[]⟩⟩∧HopAt w2 (w.heap.size+1) ⟨2,0,(c1.toNat:Int),((c2.toNat:Int)*256+(c3.toNat:Int)),(b.extract 4 20)⟩∧Below w.heap.size w w2):=⟨H1.out.1.later hb2,H1.out.2.1.later hb2,chain H1.out.2.2 hb2⟩
    obtain⟨r0,r1,r2,r3,r4⟩:=H2.out.2.1.cells
    obtain⟨s0,s1,s2,s3,s4⟩:=H2.out.1.cells
    have fz:=H2.out.1.1
    have f0:=fz 0
    have f1:=fz 1
    have f2:=fz 2
    have f3:=fz 3
    have f4:=fz 4
    clear hb2 H1 p0 p1 p2 p3 p4 BY2 fz
    by_cases hq:X.toList=b.toList
    ·have E:Hid (dcV b=#[.agg #[.int .i64 2,.int .i64 0,.int .i64 (c1.toNat:Int),.int .i64 ((c2.toNat:Int)*256+(c3.toNat:Int)),.string (b.extract 4 20)],.int .i64 0]):=FN.out.2.2 OK1.out (EX.out ▸ hq)
     have HW:Hid (_∧_):=And.intro (HopAt.whole H2.out.1 2 0 (c1.toNat:Int) ((c2.toNat:Int)*256+(c3.toNat:Int)) (b.extract 4 20)) (below_put5 H2.out.2.2 (Nat.le_refl w.heap.size) (.int .i64 2) (.int .i64 0) (.int .i64 (c1.toNat:Int)) (.int .i64 ((c2.toNat:Int)*256+(c3.toNat:Int))) (.string (b.extract 4 20)))
     clear FN EX OK1 H2
     go_wp2
     refine bodyPost_ret (v := .tuple #[.agg #[.int .i64 2,.int .i64 0,.int .i64 (c1.toNat:Int),.int .i64 ((c2.toNat:Int)*256+(c3.toNat:Int)),.string (b.extract 4 20)],.int .i64 0]) ?_ rfl ⟨by rw[E.out],HW.out.2⟩
     exact res_rdec _ _ w.heap.size _ _ _ _ _ 0 (by kernel_rfl) (by kernel_rfl) HW.out.1
    ·have hq2:(X.toList == b.toList)=false:=beq_eq_false_iff_ne.2 hq
     have E:Hid (dcV b=#[.agg #[.int .i64 0,.int .i64 0,.int .i64 0,.int .i64 0,.string ⟨#[]⟩],.int .i64 70]):=FN.out.2.1 (fun h=>hq (EX.out ▸ h))
     have HW:Hid (_∧_):=And.intro (HopAt.whole H2.out.1 0 0 0 0 ⟨#[]⟩) (below_put5 H2.out.2.2 (Nat.le_refl w.heap.size) (.int .i64 0) (.int .i64 0) (.int .i64 0) (.int .i64 0) (.string ⟨#[]⟩))
     clear FN EX OK1 H2
     go_wp2
     refine bodyPost_ret (v := .tuple #[.agg #[.int .i64 0,.int .i64 0,.int .i64 0,.int .i64 0,.string ⟨#[]⟩],.int .i64 70]) ?_ rfl ⟨by rw[E.out],HW.out.2⟩
     exact res_rdec _ _ w.heap.size 0 0 0 0 ⟨#[]⟩ 70 (by kernel_rfl) (by kernel_rfl) HW.out.1
   ·rw[chk_no _ hok] at CK1
    refine Calls.mono (CK1.out _) ?_
    rintro e w1 ⟨rfl,hb1⟩
    have H2:Hid (HopAt w1 w.heap.size ⟨0,0,0,0,⟨#[]⟩⟩∧Below w.heap.size w w1):=⟨HD.out.1.later hb1,chain HD.out.2.2 hb1⟩
    obtain⟨s0,s1,s2,s3,s4⟩:=H2.out.1.cells
    have fz:=H2.out.1.1
    have f0:=fz 0
    have f1:=fz 1
    have f2:=fz 2
    have f3:=fz 3
    have f4:=fz 4
    have E:Hid (dcV b=#[.agg #[.int .i64 0,.int .i64 0,.int .i64 0,.int .i64 0,.string ⟨#[]⟩],.int .i64 70]):=FN.out.1 hok
    have HW:Hid (_∧_):=And.intro (HopAt.whole H2.out.1 0 0 0 0 ⟨#[]⟩) (below_put5 H2.out.2 (Nat.le_refl w.heap.size) (.int .i64 0) (.int .i64 0) (.int .i64 0) (.int .i64 0) (.string ⟨#[]⟩))
    clear FN hb1 CK1 HD BY1 H2 fz hok
    go_wp2
    refine bodyPost_ret (v := .tuple #[.agg #[.int .i64 0,.int .i64 0,.int .i64 0,.int .i64 0,.string ⟨#[]⟩],.int .i64 70]) ?_ rfl ⟨by rw[E.out],HW.out.2⟩
    exact res_rdec _ _ w.heap.size 0 0 0 0 ⟨#[]⟩ 70 (by kernel_rfl) (by kernel_rfl) HW.out.1
  ·by_cases k3:c0=3
   ·subst k3
    have CE:=CD.out.2.2.1 rfl
    have FN:Hid (_∧_):=FIN.out _ _ _ _ _ CE
    clear FIN CD CE k1 k2
    go_enter Tryz.func60, Tryz.ntmps60
    go_wp2_with fail
    obtain⟨D,hD⟩:∃D,((w.alloc (.cells #[.int .i64 0,.int .i64 0,.int .i64 0,.int .i64 0,.string ⟨#[]⟩] 34)).alloc (.cells #[.int .i64 3,.int .i64 0,.int .i64 0,.int .i64 0,.string (b.extract 4 20)] 34))=D:=⟨_,rfl⟩
    rw[hD]
    have HD:Hid (HopAt D w.heap.size ⟨0,0,0,0,⟨#[]⟩⟩∧HopAt D (w.heap.size+1) ⟨3,0,0,0,(b.extract 4 20)⟩∧Below w.heap.size w D):=by
     have h0:=HopAt.fresh w 34 0 0 0 0 ⟨#[]⟩
     have b0:Below w.heap.size w (w.alloc (.cells #[.int .i64 0,.int .i64 0,.int .i64 0,.int .i64 0,.string ⟨#[]⟩] 34)):=(Below.refl _ _).alloc (Nat.le_refl _) _
     have h1:=HopAt.fresh (w.alloc (.cells #[.int .i64 0,.int .i64 0,.int .i64 0,.int .i64 0,.string ⟨#[]⟩] 34)) 34 3 0 0 0 (b.extract 4 20)
     have e:(w.alloc (.cells #[.int .i64 0,.int .i64 0,.int .i64 0,.int .i64 0,.string ⟨#[]⟩] 34)).heap.size=w.heap.size+1:=by simp
     rw[e] at h1
     have b1:=(Below.refl _ (w.alloc (.cells #[.int .i64 0,.int .i64 0,.int .i64 0,.int .i64 0,.string ⟨#[]⟩] 34))).alloc (Nat.le_refl _) (.cells #[.int .i64 3,.int .i64 0,.int .i64 0,.int .i64 0,.string (b.extract 4 20)] 34)
     rw[←hD]
     exact⟨h0.later b1,h1,chain b0 b1⟩
    clear hD
    have CK1:Hid (∀w,Calls Tryz.prog 72 #[.agg #[.int .i64 3,.int .i64 0,.int .i64 0,.int .i64 0,.string (b.extract 4 20)]] w fun e w'=>e = .returned (.int .i64 (chk ⟨3,0,0,0,(b.extract 4 20)⟩))∧Below w.heap.size w w'):=fun w=>CK.out _ _ _ _ _ w
    have BY1:Hid (ok ⟨3,0,0,0,(b.extract 4 20)⟩=true→∀w,Calls Tryz.prog 36 #[.agg #[.int .i64 3,.int .i64 0,.int .i64 0,.int .i64 0,.string (b.extract 4 20)]] w fun e w'=>e = .returned (.string ⟨(byt ⟨3,0,0,0,(b.extract 4 20)⟩).toArray⟩)∧Below w.heap.size w w'):=fun h w=>BY.out _ _ _ _ _ w h
    clear CK BY
    by_cases hok:ok ⟨3,0,0,0,(b.extract 4 20)⟩=true
    ·rw[chk_ok _ hok] at CK1
     have BY2:Hid (∀w,Calls Tryz.prog 36 #[.agg #[.int .i64 3,.int .i64 0,.int .i64 0,.int .i64 0,.string (b.extract 4 20)]] w fun e w'=>e = .returned (.string ⟨(byt ⟨3,0,0,0,(b.extract 4 20)⟩).toArray⟩)∧Below w.heap.size w w'):=BY1.out hok
     refine Calls.mono (CK1.out _) ?_
     rintro e w1 ⟨rfl,hb1⟩
     have H1:Hid (HopAt w1 w.heap.size ⟨0,0,0,0,⟨#[]⟩⟩∧HopAt w1 (w.heap.size+1) ⟨3,0,0,0,(b.extract 4 20)⟩∧Below w.heap.size w w1):=⟨HD.out.1.later hb1,HD.out.2.1.later hb1,chain HD.out.2.2 hb1⟩
     obtain⟨p0,p1,p2,p3,p4⟩:=H1.out.2.1.cells
     obtain⟨X,hX⟩:∃X:ByteArray,⟨(byt ⟨3,0,0,0,(b.extract 4 20)⟩).toArray⟩=X:=⟨_,rfl⟩
     have EX:Hid ((X.toList=b.toList)=(byt ⟨3,0,0,0,(b.extract 4 20)⟩=b.data.toList)):=by
      show _=_
      rw[ByteArray.toList_eq,ByteArray.toList_eq,←hX]
     rw[hX] at BY2
     have OK1:Hid (ok ⟨3,0,0,0,(b.extract 4 20)⟩=true):=hok
     clear hb1 CK1 HD hX BY1 hok
     go_wp2_with fail
     refine Calls.mono (BY2.out _) ?_
     rintro e w2 ⟨rfl,hb2⟩
     have H2:Hid (HopAt w2 w.heap.size ⟨0,0,0,0,⟨#[]⟩⟩∧HopAt w2 (w.heap.size+1) ⟨3,0,0,0,(b.extract 4 20)⟩∧Below w.heap.size w w2):=⟨H1.out.1.later hb2,H1.out.2.1.later hb2,chain H1.out.2.2 hb2⟩
     obtain⟨r0,r1,r2,r3,r4⟩:=H2.out.2.1.cells
     obtain⟨s0,s1,s2,s3,s4⟩:=H2.out.1.cells
     have fz:=H2.out.1.1
     have f0:=fz 0
     have f1:=fz 1
     have f2:=fz 2
     have f3:=fz 3
     have f4:=fz 4
     clear hb2 H1 p0 p1 p2 p3 p4 BY2 fz
     by_cases hq:X.toList=b.toList
     ·have E:Hid (dcV b=#[.agg #[.int .i64 3,.int .i64 0,.int .i64 0,.int .i64 0,.string (b.extract 4 20)],.int .i64 0]):=FN.out.2.2 OK1.out (EX.out ▸ hq)
      have HW:Hid (_∧_):=And.intro (HopAt.whole H2.out.1 3 0 0 0 (b.extract 4 20)) (below_put5 H2.out.2.2 (Nat.le_refl w.heap.size) (.int .i64 3) (.int .i64 0) (.int .i64 0) (.int .i64 0) (.string (b.extract 4 20)))
      clear FN EX OK1 H2
      go_wp2
      refine bodyPost_ret (v := .tuple #[.agg #[.int .i64 3,.int .i64 0,.int .i64 0,.int .i64 0,.string (b.extract 4 20)],.int .i64 0]) ?_ rfl ⟨by rw[E.out],HW.out.2⟩
      exact res_rdec _ _ w.heap.size _ _ _ _ _ 0 (by kernel_rfl) (by kernel_rfl) HW.out.1
     ·have hq2:(X.toList == b.toList)=false:=beq_eq_false_iff_ne.2 hq
      have E:Hid (dcV b=#[.agg #[.int .i64 0,.int .i64 0,.int .i64 0,.int .i64 0,.string ⟨#[]⟩],.int .i64 70]):=FN.out.2.1 (fun h=>hq (EX.out ▸ h))
      have HW:Hid (_∧_):=And.intro (HopAt.whole H2.out.1 0 0 0 0 ⟨#[]⟩) (below_put5 H2.out.2.2 (Nat.le_refl w.heap.size) (.int .i64 0) (.int .i64 0) (.int .i64 0) (.int .i64 0) (.string ⟨#[]⟩))
      clear FN EX OK1 H2
      go_wp2
      refine bodyPost_ret (v := .tuple #[.agg #[.int .i64 0,.int .i64 0,.int .i64 0,.int .i64 0,.string ⟨#[]⟩],.int .i64 70]) ?_ rfl ⟨by rw[E.out],HW.out.2⟩
      exact res_rdec _ _ w.heap.size 0 0 0 0 ⟨#[]⟩ 70 (by kernel_rfl) (by kernel_rfl) HW.out.1
    ·rw[chk_no _ hok] at CK1
     refine Calls.mono (CK1.out _) ?_
     rintro e w1 ⟨rfl,hb1⟩
     have H2:Hid (HopAt w1 w.heap.size ⟨0,0,0,0,⟨#[]⟩⟩∧Below w.heap.size w w1):=⟨HD.out.1.later hb1,chain HD.out.2.2 hb1⟩
     obtain⟨s0,s1,s2,s3,s4⟩:=H2.out.1.cells
     have fz:=H2.out.1.1
     have f0:=fz 0
     have f1:=fz 1
     have f2:=fz 2
     have f3:=fz 3
     have f4:=fz 4
     have E:Hid (dcV b=#[.agg #[.int .i64 0,.int .i64 0,.int .i64 0,.int .i64 0,.string ⟨#[]⟩],.int .i64 70]):=FN.out.1 hok
     have HW:Hid (_∧_):=And.intro (HopAt.whole H2.out.1 0 0 0 0 ⟨#[]⟩) (below_put5 H2.out.2 (Nat.le_refl w.heap.size) (.int .i64 0) (.int .i64 0) (.int .i64 0) (.int .i64 0) (.string ⟨#[]⟩))
     clear FN hb1 CK1 HD BY1 H2 fz hok
     go_wp2
     refine bodyPost_ret (v := .tuple #[.agg #[.int .i64 0,.int .i64 0,.int .i64 0,.int .i64 0,.string ⟨#[]⟩],.int .i64 70]) ?_ rfl ⟨by rw[E.out],HW.out.2⟩
     exact res_rdec _ _ w.heap.size 0 0 0 0 ⟨#[]⟩ 70 (by kernel_rfl) (by kernel_rfl) HW.out.1
   ·have CE:=CD.out.2.2.2 k1 k2 k3
    have FN:Hid (_∧_):=FIN.out _ _ _ _ _ CE
    have m1:¬(c0.toNat:Int)=1:=fun h=>k1 (UInt8.toNat_inj.1 (by show c0.toNat=1;omega))
    have m2:¬(c0.toNat:Int)=2:=fun h=>k2 (UInt8.toNat_inj.1 (by show c0.toNat=2;omega))
    have m3:¬(c0.toNat:Int)=3:=fun h=>k3 (UInt8.toNat_inj.1 (by show c0.toNat=3;omega))
    clear FIN CD CE k1 k2 k3
    go_enter Tryz.func60, Tryz.ntmps60
    go_wp2_with fail
    obtain⟨D,hD⟩:∃D,((w.alloc (.cells #[.int .i64 0,.int .i64 0,.int .i64 0,.int .i64 0,.string ⟨#[]⟩] 34)).alloc (.cells #[.int .i64 (c0.toNat:Int),.int .i64 0,.int .i64 0,.int .i64 0,.string ⟨#[]⟩] 34))=D:=⟨_,rfl⟩
    rw[hD]
    have HD:Hid (HopAt D w.heap.size ⟨0,0,0,0,⟨#[]⟩⟩∧HopAt D (w.heap.size+1) ⟨(c0.toNat:Int),0,0,0,⟨#[]⟩⟩∧Below w.heap.size w D):=by
     have h0:=HopAt.fresh w 34 0 0 0 0 ⟨#[]⟩
     have b0:Below w.heap.size w (w.alloc (.cells #[.int .i64 0,.int .i64 0,.int .i64 0,.int .i64 0,.string ⟨#[]⟩] 34)):=(Below.refl _ _).alloc (Nat.le_refl _) _
     have h1:=HopAt.fresh (w.alloc (.cells #[.int .i64 0,.int .i64 0,.int .i64 0,.int .i64 0,.string ⟨#[]⟩] 34)) 34 (c0.toNat:Int) 0 0 0 ⟨#[]⟩
     have e:(w.alloc (.cells #[.int .i64 0,.int .i64 0,.int .i64 0,.int .i64 0,.string ⟨#[]⟩] 34)).heap.size=w.heap.size+1:=by simp
     rw[e] at h1
     have b1:=(Below.refl _ (w.alloc (.cells #[.int .i64 0,.int .i64 0,.int .i64 0,.int .i64 0,.string ⟨#[]⟩] 34))).alloc (Nat.le_refl _) (.cells #[.int .i64 (c0.toNat:Int),.int .i64 0,.int .i64 0,.int .i64 0,.string ⟨#[]⟩] 34)
     rw[←hD]
     exact⟨h0.later b1,h1,chain b0 b1⟩
    clear hD
    have CK1:Hid (∀w,Calls Tryz.prog 72 #[.agg #[.int .i64 (c0.toNat:Int),.int .i64 0,.int .i64 0,.int .i64 0,.string ⟨#[]⟩]] w fun e w'=>e = .returned (.int .i64 (chk ⟨(c0.toNat:Int),0,0,0,⟨#[]⟩⟩))∧Below w.heap.size w w'):=fun w=>CK.out _ _ _ _ _ w
    have BY1:Hid (ok ⟨(c0.toNat:Int),0,0,0,⟨#[]⟩⟩=true→∀w,Calls Tryz.prog 36 #[.agg #[.int .i64 (c0.toNat:Int),.int .i64 0,.int .i64 0,.int .i64 0,.string ⟨#[]⟩]] w fun e w'=>e = .returned (.string ⟨(byt ⟨(c0.toNat:Int),0,0,0,⟨#[]⟩⟩).toArray⟩)∧Below w.heap.size w w'):=fun h w=>BY.out _ _ _ _ _ w h
    clear CK BY
    by_cases hok:ok ⟨(c0.toNat:Int),0,0,0,⟨#[]⟩⟩=true
    ·rw[chk_ok _ hok] at CK1
     have BY2:Hid (∀w,Calls Tryz.prog 36 #[.agg #[.int .i64 (c0.toNat:Int),.int .i64 0,.int .i64 0,.int .i64 0,.string ⟨#[]⟩]] w fun e w'=>e = .returned (.string ⟨(byt ⟨(c0.toNat:Int),0,0,0,⟨#[]⟩⟩).toArray⟩)∧Below w.heap.size w w'):=BY1.out hok
     refine Calls.mono (CK1.out _) ?_
     rintro e w1 ⟨rfl,hb1⟩
     have H1:Hid (HopAt w1 w.heap.size ⟨0,0,0,0,⟨#[]⟩⟩∧HopAt w1 (w.heap.size+1) ⟨(c0.toNat:Int),0,0,0,⟨#[]⟩⟩∧Below w.heap.size w w1):=⟨HD.out.1.later hb1,HD.out.2.1.later hb1,chain HD.out.2.2 hb1⟩
     obtain⟨p0,p1,p2,p3,p4⟩:=H1.out.2.1.cells
     obtain⟨X,hX⟩:∃X:ByteArray,⟨(byt ⟨(c0.toNat:Int),0,0,0,⟨#[]⟩⟩).toArray⟩=X:=⟨_,rfl⟩
     have EX:Hid ((X.toList=b.toList)=(byt ⟨(c0.toNat:Int),0,0,0,⟨#[]⟩⟩=b.data.toList)):=by
      show _=_
      rw[ByteArray.toList_eq,ByteArray.toList_eq,←hX]
     rw[hX] at BY2
     have OK1:Hid (ok ⟨(c0.toNat:Int),0,0,0,⟨#[]⟩⟩=true):=hok
     clear hb1 CK1 HD hX BY1 hok
     go_wp2_with fail
     refine Calls.mono (BY2.out _) ?_
     rintro e w2 ⟨rfl,hb2⟩
     have H2:Hid (HopAt w2 w.heap.size ⟨0,0,0,0,⟨#[]⟩⟩∧HopAt w2 (w.heap.size+1) ⟨(c0.toNat:Int),0,0,0,⟨#[]⟩⟩∧Below w.heap.size w w2):=⟨H1.out.1.later hb2,H1.out.2.1.later hb2,chain H1.out.2.2 hb2⟩
     obtain⟨r0,r1,r2,r3,r4⟩:=H2.out.2.1.cells
     obtain⟨s0,s1,s2,s3,s4⟩:=H2.out.1.cells
     have fz:=H2.out.1.1
     have f0:=fz 0
     have f1:=fz 1
     have f2:=fz 2
     have f3:=fz 3
     have f4:=fz 4
     clear hb2 H1 p0 p1 p2 p3 p4 BY2 fz
     by_cases hq:X.toList=b.toList
     ·have E:Hid (dcV b=#[.agg #[.int .i64 (c0.toNat:Int),.int .i64 0,.int .i64 0,.int .i64 0,.string ⟨#[]⟩],.int .i64 0]):=FN.out.2.2 OK1.out (EX.out ▸ hq)
      have HW:Hid (_∧_):=And.intro (HopAt.whole H2.out.1 (c0.toNat:Int) 0 0 0 ⟨#[]⟩) (below_put5 H2.out.2.2 (Nat.le_refl w.heap.size) (.int .i64 (c0.toNat:Int)) (.int .i64 0) (.int .i64 0) (.int .i64 0) (.string ⟨#[]⟩))
      clear FN EX OK1 H2
      go_wp2
      refine bodyPost_ret (v := .tuple #[.agg #[.int .i64 (c0.toNat:Int),.int .i64 0,.int .i64 0,.int .i64 0,.string ⟨#[]⟩],.int .i64 0]) ?_ rfl ⟨by rw[E.out],HW.out.2⟩
      exact res_rdec _ _ w.heap.size _ _ _ _ _ 0 (by kernel_rfl) (by kernel_rfl) HW.out.1
     ·have hq2:(X.toList == b.toList)=false:=beq_eq_false_iff_ne.2 hq
      have E:Hid (dcV b=#[.agg #[.int .i64 0,.int .i64 0,.int .i64 0,.int .i64 0,.string ⟨#[]⟩],.int .i64 70]):=FN.out.2.1 (fun h=>hq (EX.out ▸ h))
      have HW:Hid (_∧_):=And.intro (HopAt.whole H2.out.1 0 0 0 0 ⟨#[]⟩) (below_put5 H2.out.2.2 (Nat.le_refl w.heap.size) (.int .i64 0) (.int .i64 0) (.int .i64 0) (.int .i64 0) (.string ⟨#[]⟩))
      clear FN EX OK1 H2
      go_wp2
      refine bodyPost_ret (v := .tuple #[.agg #[.int .i64 0,.int .i64 0,.int .i64 0,.int .i64 0,.string ⟨#[]⟩],.int .i64 70]) ?_ rfl ⟨by rw[E.out],HW.out.2⟩
      exact res_rdec _ _ w.heap.size 0 0 0 0 ⟨#[]⟩ 70 (by kernel_rfl) (by kernel_rfl) HW.out.1
    ·rw[chk_no _ hok] at CK1
     refine Calls.mono (CK1.out _) ?_
     rintro e w1 ⟨rfl,hb1⟩
     have H2:Hid (HopAt w1 w.heap.size ⟨0,0,0,0,⟨#[]⟩⟩∧Below w.heap.size w w1):=⟨HD.out.1.later hb1,chain HD.out.2.2 hb1⟩
     obtain⟨s0,s1,s2,s3,s4⟩:=H2.out.1.cells
     have fz:=H2.out.1.1
     have f0:=fz 0
     have f1:=fz 1
     have f2:=fz 2
     have f3:=fz 3
     have f4:=fz 4
     have E:Hid (dcV b=#[.agg #[.int .i64 0,.int .i64 0,.int .i64 0,.int .i64 0,.string ⟨#[]⟩],.int .i64 70]):=FN.out.1 hok
     have HW:Hid (_∧_):=And.intro (HopAt.whole H2.out.1 0 0 0 0 ⟨#[]⟩) (below_put5 H2.out.2 (Nat.le_refl w.heap.size) (.int .i64 0) (.int .i64 0) (.int .i64 0) (.int .i64 0) (.string ⟨#[]⟩))
     clear FN hb1 CK1 HD BY1 H2 fz hok
     go_wp2
     refine bodyPost_ret (v := .tuple #[.agg #[.int .i64 0,.int .i64 0,.int .i64 0,.int .i64 0,.string ⟨#[]⟩],.int .i64 70]) ?_ rfl ⟨by rw[E.out],HW.out.2⟩
     exact res_rdec _ _ w.heap.size 0 0 0 0 ⟨#[]⟩ 70 (by kernel_rfl) (by kernel_rfl) HW.out.1
theorem rDecode_any (b:ByteArray) (w:World) :
  Calls Tryz.prog 60 #[.string b] w fun e w'=>e = .returned (.tuple (dcV b))∧Below w.heap.size w w':=by
 by_cases hb:b.size=24
 ·exact rDecode_ok b hb w
 ·rw[dcV_form b hb];exact rDecode_form b hb w
end Go.Proofs.YtgnkkjknngblbaaGreatDoor
namespace Go.Proofs.YtgnkkjknngblbaaGreatDoor
open Go.RowKit Go.Proofs.Fd Go.Proofs.Rt
set_option maxRecDepth 20000
def HopsAt (w:World) (a:Option Addr) (hs:List Hp):Prop:=∀i,i < hs.length→∃b o,a=some ⟨b,o,none⟩
  ∧ w.cell? ⟨b,o+i*5,none⟩=some (.int .i64 (hs.getD i zh).k)∧w.cell? ⟨b,o+i*5+1,none⟩=some (.int .i64 (hs.getD i zh).n)∧w.cell? ⟨b,o+i*5+2,none⟩=some (.int .i64 (hs.getD i zh).u)
  ∧ w.cell? ⟨b,o+i*5+3,none⟩=some (.int .i64 (hs.getD i zh).d)∧w.cell? ⟨b,o+i*5+4,none⟩=some (.string (hs.getD i zh).id)
theorem HopsAt.later {B:Nat} {w w':World} {a:Option Addr} {hs:List Hp} (h:HopsAt w a hs) (hb:Below B w w') (hB:B=w.heap.size):HopsAt w' a hs:=fun i hi=>by
 subst hB
 obtain⟨b,o,ha,h0,h1,h2,h3,h4⟩:=h i hi
 exact⟨b,o,ha,cell_later hb h0,cell_later hb h1,cell_later hb h2,cell_later hb h3,cell_later hb h4⟩
end Go.Proofs.YtgnkkjknngblbaaGreatDoor
namespace Go.Proofs.YtgnkkjknngblbaaGreatDoor
open Go.RowKit Go.Proofs.Fd Go.Proofs.Rt
set_option maxRecDepth 20000
def CheckC:Prop:=∀(h:Hp) (w:World),Hid (h.id.size≤140737488355328) →
  Calls Tryz.prog 101 #[hv h] w fun e w'=>e = .returned (.int .i64 (chk h))∧Below w.heap.size w w'
def EncodeC:Prop:=∀(h:Hp) (w:World),Hid (h.id.size≤140737488355328) →
  Calls Tryz.prog 69 #[hv h] w fun e w'=>e = .returned (.tuple (enV h))∧Below w.heap.size w w'
def DecodeC:Prop:=∀(b:ByteArray) (w:World),Hid (b.size≤140737488355328) →
  Calls Tryz.prog 54 #[.string b] w fun e w'=>e = .returned (.tuple (dcV b))∧Below w.heap.size w w'
def PathC:Prop:=∀(a:Option Addr) (hs:List Hp) (n cap:Nat) (w:World),Hid (hs.length=n)→Hid (n≤140737488355328)→Hid (∀h∈hs,h.id.size≤140737488355328)→Hid (HopsAt w a hs) →
  Calls Tryz.prog 65 #[.slice a n cap] w fun e w'=>e = .returned (.int .i64 (pth hs))∧Below w.heap.size w w'
theorem hops_two (w:World) (t:TypeId) (x y:Hp):HopsAt (w.alloc (.cells #[.int .i64 x.k,.int .i64 x.n,.int .i64 x.u,.int .i64 x.d,.string x.id,.int .i64 y.k,.int .i64 y.n,.int .i64 y.u,.int .i64 y.d,.string y.id] t)) (some ⟨w.heap.size,0,none⟩) [x,y]:=fun i hi=>by
 rcases (by simp at hi;omega:i=0∨i=1) with rfl|rfl
 ·exact⟨w.heap.size,0,rfl,by simp[go_sem],by simp[go_sem],by simp[go_sem],by simp[go_sem],by simp[go_sem]⟩
 ·exact⟨w.heap.size,0,rfl,by simp[go_sem],by simp[go_sem],by simp[go_sem],by simp[go_sem],by simp[go_sem]⟩
end Go.Proofs.YtgnkkjknngblbaaGreatDoor
namespace Go.Proofs.Rt
def nm (h:Hp):Hp :=
 if h.k=1 then ⟨h.k,h.n,0,h.d,⟨#[]⟩⟩ else if h.k=2 then ⟨h.k,0,h.u,h.d,h.id⟩ else if h.k=3 then ⟨h.k,0,0,0,h.id⟩ else ⟨h.k,0,0,0,⟨#[]⟩⟩
def wi (h:Hp):Bool :=
 (!((h.k == 2 || h.k == 3) && !(h.id.size == 16))) && (decide (0≤h.n) && decide (h.n < 32) && decide (0≤h.u) && decide (h.u < 64) && decide (0≤h.d) && decide (h.d≤4096))
theorem ok_wi (h:Hp) (e:ok h=true):wi h=true∧nm h=h∧1≤h.k∧h.k≤4:=by
 obtain⟨k,n,u,d,id⟩:=h
 rcases ok_cases _ e with ⟨h1,h2,h3,h4,h5,h6,h7⟩|⟨h1,h2,h3,h4,h5,h6,h7⟩|⟨h1,h2,h3,h4,h5⟩|⟨h1,h2,h3,h4,h5⟩ <;> simp only at h1 h2 h3 h4 h5 <;> (try simp only at h6 h7)
 ·subst h1 h6 h7;simp[wi,nm];omega
 ·subst h1 h7;simp[wi,nm];omega
 ·subst h1 h3 h4 h5;simp[wi,nm];omega
 ·subst h1 h2 h3 h4 h5;simp[wi,nm]
theorem wi_ok (h:Hp) (h1:1≤h.k) (h4:h.k≤4) (e:nm h=h) (hw:wi h=true):ok h=true:=by
 obtain⟨k,n,u,d,id⟩:=h
 simp only at h1 h4
 unfold wi at hw
 simp only[Bool.and_eq_true,decide_eq_true_eq,Bool.not_eq_true',Bool.and_eq_false_iff,Bool.or_eq_false_iff,beq_eq_false_iff_ne,Bool.not_eq_false',beq_iff_eq] at hw
 obtain⟨g,⟨⟨⟨⟨g1,g2⟩,g3⟩,g4⟩,g5⟩,g6⟩:=hw
 rcases (by omega:k=1∨k=2∨k=3∨k=4) with rfl|rfl|rfl|rfl
 ·simp[nm] at e;obtain⟨rfl,rfl⟩:=e;exact ok_on _ _ g1 g2 g5 g6
 ·simp[nm] at e;subst e;exact ok_home _ _ _ g3 g4 g5 g6 (by simpa using g)
 ·simp[nm] at e;obtain⟨rfl,rfl,rfl⟩:=e;exact ok_loop _ (by simpa using g)
 ·simp[nm] at e;obtain⟨rfl,rfl,rfl,rfl⟩:=e;exact ok_drop
end Go.Proofs.Rt
namespace Go.Proofs.YtgnkkjknngblbaaGreatDoor
open Go.RowKit Go.Proofs.Fd Go.Proofs.Rt
set_option maxRecDepth 20000
theorem res_named (tmps:Array Value) (w:World) (b:Nat) (k n u d:Int) (id:ByteArray) (h2:tmps.getD 2 undef = .pointer (some ⟨b,0,none⟩)) (l:HopAt w b ⟨k,n,u,d,id⟩) :
  (results Tryz.f82 tmps).run Tryz.prog w = .ok (.agg #[.int .i64 k,.int .i64 n,.int .i64 u,.int .i64 d,.string id]) w:=by
 have l1:=run_loadVar_mid (P:=Tryz.prog) w b 0 34 [.int .i64 k,.int .i64 n,.int .i64 u,.int .i64 d,.string id] _ l.range Tryz.underlying34 rfl (by kernel_rfl)
 unfold results
 rw[Tryz.results82]
 have h2':tmps[2]?.getD undef = .pointer (some ⟨b,0,none⟩):=by simpa using h2
 simp[h2',l1,asAddr]
theorem fresh2 (w:World) (o:Obj) (t:TypeId) (k n u d:Int) (id:ByteArray):HopAt ((w.alloc o).alloc (.cells #[.int .i64 k,.int .i64 n,.int .i64 u,.int .i64 d,.string id] t)) (w.heap.size+1) ⟨k,n,u,d,id⟩:=by
 have h:=HopAt.fresh (w.alloc o) t k n u d id
 have e:(w.alloc o).heap.size=w.heap.size+1:=by simp
 rw[e] at h
 exact h
set_option maxHeartbeats 1000000 in
theorem named_any (h:Hp) (w:World) :
  Calls Tryz.prog 82 #[hv h] w fun e w'=>e = .returned (hv (nm h))∧Below w.heap.size w w':=by
 have B0:Hid (∀o p,Below w.heap.size w ((w.alloc o).alloc p)):=fun o p=>((Below.refl _ _).alloc (Nat.le_refl _) o).alloc (by simp) p
 obtain⟨k,n,u,d,id⟩:=h
 unfold hv nm
 simp only
 by_cases h1:k=1
 ·subst h1
  simp only[if_true]
  go_enter Tryz.func82, Tryz.ntmps82
  go_wp2
  refine bodyPost_ret (v := .agg #[.int .i64 1,.int .i64 n,.int .i64 0,.int .i64 d,.string ⟨#[]⟩]) ?_ rfl ⟨rfl,B0.out _ _⟩
  exact res_named _ _ (w.heap.size+1) _ _ _ _ _ (by kernel_rfl) (fresh2 _ _ _ _ _ _ _ _)
 by_cases h2:k=2
 ·subst h2
  simp only[if_true,if_neg h1]
  clear h1
  go_enter Tryz.func82, Tryz.ntmps82
  go_wp2
  refine bodyPost_ret (v := .agg #[.int .i64 2,.int .i64 0,.int .i64 u,.int .i64 d,.string id]) ?_ rfl ⟨rfl,B0.out _ _⟩
  exact res_named _ _ (w.heap.size+1) _ _ _ _ _ (by kernel_rfl) (fresh2 _ _ _ _ _ _ _ _)
 by_cases h3:k=3
 ·subst h3
  simp only[if_true,if_neg h1,if_neg h2]
  clear h1 h2
  go_enter Tryz.func82, Tryz.ntmps82
  go_wp2
  refine bodyPost_ret (v := .agg #[.int .i64 3,.int .i64 0,.int .i64 0,.int .i64 0,.string id]) ?_ rfl ⟨rfl,B0.out _ _⟩
  exact res_named _ _ (w.heap.size+1) _ _ _ _ _ (by kernel_rfl) (fresh2 _ _ _ _ _ _ _ _)
 simp only[if_neg h1,if_neg h2,if_neg h3]
 go_enter Tryz.func82, Tryz.ntmps82
 go_wp2
 refine bodyPost_ret (v := .agg #[.int .i64 k,.int .i64 0,.int .i64 0,.int .i64 0,.string ⟨#[]⟩]) ?_ rfl ⟨rfl,B0.out _ _⟩
 exact res_named _ _ (w.heap.size+1) _ _ _ _ _ (by kernel_rfl) (fresh2 _ _ _ _ _ _ _ _)
set_option maxHeartbeats 1000000 in
theorem within_t (h:Hp) (hw:wi h=true) (w:World) :
  Calls Tryz.prog 130 #[hv h] w fun e w'=>e = .returned (.bool true)∧Below w.heap.size w w':=by
 have B0:Hid (∀o,Below w.heap.size w (w.alloc o)):=fun o=>(Below.refl _ _).alloc (Nat.le_refl _) o
 obtain⟨k,n,u,d,id⟩:=h
 unfold wi at hw
 simp only[Bool.and_eq_true,decide_eq_true_eq,Bool.not_eq_true',Bool.and_eq_false_iff,Bool.or_eq_false_iff,beq_eq_false_iff_ne,Bool.not_eq_false',beq_iff_eq] at hw
 obtain⟨g,⟨⟨⟨⟨g1,g2⟩,g3⟩,g4⟩,g5⟩,g6⟩:=hw
 unfold hv
 rcases g with ⟨q1,q2⟩|q
 ·go_enter Tryz.func130, Tryz.ntmps130
  go_wp2
  all_goals (go_ret;exact⟨rfl,B0.out _⟩)
 ·have z:(id.size:Int)=16:=by omega
  go_enter Tryz.func130, Tryz.ntmps130
  go_wp2
  all_goals (go_ret;exact⟨rfl,B0.out _⟩)
set_option maxHeartbeats 1000000 in
theorem within_f (h:Hp) (hw:¬wi h=true) (w:World) :
  Calls Tryz.prog 130 #[hv h] w fun e w'=>e = .returned (.bool false)∧Below w.heap.size w w':=by
 have B0:Hid (∀o,Below w.heap.size w (w.alloc o)):=fun o=>(Below.refl _ _).alloc (Nat.le_refl _) o
 obtain⟨k,n,u,d,id⟩:=h
 have HK:Hid (¬wi ⟨k,n,u,d,id⟩=true):=hw
 clear hw
 unfold hv
 go_enter Tryz.func130, Tryz.ntmps130
 go_wp2
 all_goals (first
  | (go_ret;exact⟨rfl,B0.out _⟩)
  | (exfalso;apply HK.out;unfold wi;simp_all;done)
  | (go_ret;refine⟨?_,B0.out _⟩;show Ending.returned (.bool (decide (d≤4096)))=_;rw[decide_eq_false];intro q;apply HK.out;unfold wi;simp_all;try omega))
end Go.Proofs.YtgnkkjknngblbaaGreatDoor
