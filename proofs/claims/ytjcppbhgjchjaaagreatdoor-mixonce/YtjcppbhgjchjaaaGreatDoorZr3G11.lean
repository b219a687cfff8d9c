/- A part of the walk. -/
import Derived.Test.YtjcppbhgjchjaaaGreatDoorZr3G10
import Derived.Deep.MidRow
import Derived.Lib.LazyBuf
import Derived.Laws.MakeOwn
set_option maxHeartbeats 8000000
set_option maxRecDepth 20000
namespace Go.Proofs.YtjcppbhgjchjaaaGreatDoor
open Go.RowKit Go.Proofs.Fd Go.Proofs.Hs
theorem zoN (x:UInt32):bits .xor .u32 IntKind.u32.max (tv x)=tv (~~~x):=by
 have e:IntKind.u32.max=tv 4294967295:=by decide
 rw[e,zcf];congr 1
def zqz (v x:V8) (k:Nat):V8:=⟨if 0 < k then v.a+x.a else v.a,if 1 < k then v.b+x.b else v.b,if 2 < k then v.c+x.c else v.c,if 3 < k then v.d+x.d else v.d,if 4 < k then v.e+x.e else v.e,if 5 < k then v.f+x.f else v.f,if 6 < k then v.g+x.g else v.g,if 7 < k then v.h+x.h else v.h⟩
theorem zbC (w:Wo) (b k:Nat) (x:Value):∀j,j≠k->(w.setCell ⟨b,k,none⟩ x).cell? ⟨b,j,none⟩=w.cell? ⟨b,j,none⟩:=fun j hj=>by
 have hne:(⟨b,k,none⟩:Addr)≠⟨b,j,none⟩:=fun q=>hj (by injection q with _ q2;exact q2.symm)
 exact World.cell?_setCell_other _ _ _ _ hne
theorem Mc.set0 {w:Wo} {b:Nat} {m:zax} (h:Mc w b m) (x:UInt32):Mc (w.setCell ⟨b,0,none⟩ (.int .u32 (tv x))) b ⟨{ m.v with a:=x },m.r,m.n⟩:=by
 have ne:=zbC w b 0 (.int .u32 (tv x));refine⟨h.pos,h.kst.later ((bQ b w).setCell (nL _) _) h.pos,by have:=h.c0;simp[go_sem,this],(ne 1 (by decide)).trans h.c1,(ne 2 (by decide)).trans h.c2,(ne 3 (by decide)).trans h.c3,(ne 4 (by decide)).trans h.c4,(ne 5 (by decide)).trans h.c5,(ne 6 (by decide)).trans h.c6,(ne 7 (by decide)).trans h.c7,fun j hj=>(ne (8+j) (by omega)).trans (h.ring j hj),(ne 24 (by decide)).trans h.cn,fun o=>by simp[h.fz],h.len,h.lt⟩
theorem Mc.set1 {w:Wo} {b:Nat} {m:zax} (h:Mc w b m) (x:UInt32):Mc (w.setCell ⟨b,1,none⟩ (.int .u32 (tv x))) b ⟨{ m.v with b:=x },m.r,m.n⟩:=by
 have ne:=zbC w b 1 (.int .u32 (tv x));refine⟨h.pos,h.kst.later ((bQ b w).setCell (nL _) _) h.pos,(ne 0 (by decide)).trans h.c0,by have:=h.c1;simp[go_sem,this],(ne 2 (by decide)).trans h.c2,(ne 3 (by decide)).trans h.c3,(ne 4 (by decide)).trans h.c4,(ne 5 (by decide)).trans h.c5,(ne 6 (by decide)).trans h.c6,(ne 7 (by decide)).trans h.c7,fun j hj=>(ne (8+j) (by omega)).trans (h.ring j hj),(ne 24 (by decide)).trans h.cn,fun o=>by simp[h.fz],h.len,h.lt⟩
theorem Mc.set2 {w:Wo} {b:Nat} {m:zax} (h:Mc w b m) (x:UInt32):Mc (w.setCell ⟨b,2,none⟩ (.int .u32 (tv x))) b ⟨{ m.v with c:=x },m.r,m.n⟩:=by
 have ne:=zbC w b 2 (.int .u32 (tv x));refine⟨h.pos,h.kst.later ((bQ b w).setCell (nL _) _) h.pos,(ne 0 (by decide)).trans h.c0,(ne 1 (by decide)).trans h.c1,by have:=h.c2;simp[go_sem,this],(ne 3 (by decide)).trans h.c3,(ne 4 (by decide)).trans h.c4,(ne 5 (by decide)).trans h.c5,(ne 6 (by decide)).trans h.c6,(ne 7 (by decide)).trans h.c7,fun j hj=>(ne (8+j) (by omega)).trans (h.ring j hj),(ne 24 (by decide)).trans h.cn,fun o=>by simp[h.fz],h.len,h.lt⟩
theorem Mc.set3 {w:Wo} {b:Nat} {m:zax} (h:Mc w b m) (x:UInt32):Mc (w.setCell ⟨b,3,none⟩ (.int .u32 (tv x))) b ⟨{ m.v with d:=x },m.r,m.n⟩:=by
 have ne:=zbC w b 3 (.int .u32 (tv x));refine⟨h.pos,h.kst.later ((bQ b w).setCell (nL _) _) h.pos,(ne 0 (by decide)).trans h.c0,(ne 1 (by decide)).trans h.c1,(ne 2 (by decide)).trans h.c2,by have:=h.c3;simp[go_sem,this],(ne 4 (by decide)).trans h.c4,(ne 5 (by decide)).trans h.c5,(ne 6 (by decide)).trans h.c6,(ne 7 (by decide)).trans h.c7,fun j hj=>(ne (8+j) (by omega)).trans (h.ring j hj),(ne 24 (by decide)).trans h.cn,fun o=>by simp[h.fz],h.len,h.lt⟩
theorem Mc.set4 {w:Wo} {b:Nat} {m:zax} (h:Mc w b m) (x:UInt32):Mc (w.setCell ⟨b,4,none⟩ (.int .u32 (tv x))) b ⟨{ m.v with e:=x },m.r,m.n⟩:=by
 have ne:=zbC w b 4 (.int .u32 (tv x));refine⟨h.pos,h.kst.later ((bQ b w).setCell (nL _) _) h.pos,(ne 0 (by decide)).trans h.c0,(ne 1 (by decide)).trans h.c1,(ne 2 (by decide)).trans h.c2,(ne 3 (by decide)).trans h.c3,by have:=h.c4;simp[go_sem,this],(ne 5 (by decide)).trans h.c5,(ne 6 (by decide)).trans h.c6,(ne 7 (by decide)).trans h.c7,fun j hj=>(ne (8+j) (by omega)).trans (h.ring j hj),(ne 24 (by decide)).trans h.cn,fun o=>by simp[h.fz],h.len,h.lt⟩
theorem Mc.set5 {w:Wo} {b:Nat} {m:zax} (h:Mc w b m) (x:UInt32):Mc (w.setCell ⟨b,5,none⟩ (.int .u32 (tv x))) b ⟨{ m.v with f:=x },m.r,m.n⟩:=by
 have ne:=zbC w b 5 (.int .u32 (tv x));refine⟨h.pos,h.kst.later ((bQ b w).setCell (nL _) _) h.pos,(ne 0 (by decide)).trans h.c0,(ne 1 (by decide)).trans h.c1,(ne 2 (by decide)).trans h.c2,(ne 3 (by decide)).trans h.c3,(ne 4 (by decide)).trans h.c4,by have:=h.c5;simp[go_sem,this],(ne 6 (by decide)).trans h.c6,(ne 7 (by decide)).trans h.c7,fun j hj=>(ne (8+j) (by omega)).trans (h.ring j hj),(ne 24 (by decide)).trans h.cn,fun o=>by simp[h.fz],h.len,h.lt⟩
theorem Mc.set6 {w:Wo} {b:Nat} {m:zax} (h:Mc w b m) (x:UInt32):Mc (w.setCell ⟨b,6,none⟩ (.int .u32 (tv x))) b ⟨{ m.v with g:=x },m.r,m.n⟩:=by
 have ne:=zbC w b 6 (.int .u32 (tv x));refine⟨h.pos,h.kst.later ((bQ b w).setCell (nL _) _) h.pos,(ne 0 (by decide)).trans h.c0,(ne 1 (by decide)).trans h.c1,(ne 2 (by decide)).trans h.c2,(ne 3 (by decide)).trans h.c3,(ne 4 (by decide)).trans h.c4,(ne 5 (by decide)).trans h.c5,by have:=h.c6;simp[go_sem,this],(ne 7 (by decide)).trans h.c7,fun j hj=>(ne (8+j) (by omega)).trans (h.ring j hj),(ne 24 (by decide)).trans h.cn,fun o=>by simp[h.fz],h.len,h.lt⟩
theorem Mc.set7 {w:Wo} {b:Nat} {m:zax} (h:Mc w b m) (x:UInt32):Mc (w.setCell ⟨b,7,none⟩ (.int .u32 (tv x))) b ⟨{ m.v with h:=x },m.r,m.n⟩:=by
 have ne:=zbC w b 7 (.int .u32 (tv x));refine⟨h.pos,h.kst.later ((bQ b w).setCell (nL _) _) h.pos,(ne 0 (by decide)).trans h.c0,(ne 1 (by decide)).trans h.c1,(ne 2 (by decide)).trans h.c2,(ne 3 (by decide)).trans h.c3,(ne 4 (by decide)).trans h.c4,(ne 5 (by decide)).trans h.c5,(ne 6 (by decide)).trans h.c6,by have:=h.c7;simp[go_sem,this],fun j hj=>(ne (8+j) (by omega)).trans (h.ring j hj),(ne 24 (by decide)).trans h.cn,fun o=>by simp[h.fz],h.len,h.lt⟩
attribute [local go_sem] zoN zc7 zj3 zcf zc8 zbB
set_option maxRecDepth 10000 in
theorem zmz (b:Nat) (m:zax) (w:Wo) (hm:Hid (Mc w b m)) :
  Cl 346 #[.pointer (some ⟨b,0,none⟩)] w fun e w'=>e = .returned (.tuple #[])/\Mc w' b m.mix/\Below b w w':=by
 have c0:=hm.out.c0;have c1:=hm.out.c1;have c2:=hm.out.c2;have c3:=hm.out.c3;have c4:=hm.out.c4;have c5:=hm.out.c5;have c6:=hm.out.c6;have c7:=hm.out.c7;go_enter Tryz.func346, Tryz.ntmps346;go_wp2;go_quiet (fail);go_wp2;go_quiet (fail);go_wp2;go_loopw [2,3,4,5,6,7,8,9,55] (fun sa sb sc sd se sf sg sh si wr=>∃(k:Nat) (v:V8) (r:List UInt32),k<=64/\si = .int .i64 (k:Int)/\sa = .int .u32 (tv v.a)/\sb = .int .u32 (tv v.b)/\sc = .int .u32 (tv v.c)/\sd = .int .u32 (tv v.d)/\se = .int .u32 (tv v.e)/\sf = .int .u32 (tv v.f)/\sg = .int .u32 (tv v.g)/\sh = .int .u32 (tv v.h)/\Hid (rounds m.v m.r k=(v,r)/\Mc wr b ⟨m.v,r,m.n⟩/\Below b w wr)) (fun _ _ _ _ _ _ _ _ si _=>64 - (intOf si).toNat)
 case atStart=>exact⟨0,m.v,m.r,by omega,rfl,rfl,rfl,rfl,rfl,rfl,rfl,rfl,rfl,rfl,(hm.out.drewN _).drewN _,below_drewN (below_drewN (bQ _ _) _) _⟩
 case round =>
  obtain⟨k,v,r,hk,rfl,rfl,rfl,rfl,rfl,rfl,rfl,rfl,rfl,I⟩:=hrel;clear c0 c1 c2 c3 c4 c5 c6 c7;by_cases hk2:k=64
  ·subst hk2
   obtain⟨v0,v1,v2,v3,v4,v5,v6,v7⟩:=v;go_wp2;go_loopw [115] (fun i wx=>∃j:Nat,j<=8/\i = .int .i64 (j:Int)/\Hid (Mc wx b ⟨zqz m.v ⟨v0,v1,v2,v3,v4,v5,v6,v7⟩ j,r,m.n⟩/\Below b w wx)) (fun i _=>8 - (intOf i).toNat)
   case atStart=>exact⟨0,by omega,rfl,I.out.2⟩
   case round =>
    obtain⟨j,hj,rfl,J⟩:=hrel;rcases (by omega:j=0\/j=1\/j=2\/j=3\/j=4\/j=5\/j=6\/j=7\/j=8) with rfl|rfl|rfl|rfl|rfl|rfl|rfl|rfl|rfl
    ·have c:wr.cell? ⟨b,0,none⟩=some (.int .u32 (tv m.v.a)):=J.out.1.c0
     have f:=J.out.1.fz 0;have ix:∀w:Wo,(Instr.index 313 (.agg #[.int .u32 (tv v0),.int .u32 (tv v1),.int .u32 (tv v2),.int .u32 (tv v3),.int .u32 (tv v4),.int .u32 (tv v5),.int .u32 (tv v6),.int .u32 (tv v7)]) (.int .i64 0)).run Tryz.prog w = .ok (.int .u32 (tv v0)) w:=fun _=>by kernel_rfl
     go_wp2;go_region
     all_goals
      go_wp2;go_roundw
      case rel=>exact⟨1,by omega,by go_num,J.out.1.drew.set0 _,J.out.2.drew.setCell (p:=⟨b,0,none⟩) (nL _) _⟩
      case measure=>simp[intOf]
    ·have c:wr.cell? ⟨b,1,none⟩=some (.int .u32 (tv m.v.b)):=J.out.1.c1
     have f:=J.out.1.fz 1;have ix:∀w:Wo,(Instr.index 313 (.agg #[.int .u32 (tv v0),.int .u32 (tv v1),.int .u32 (tv v2),.int .u32 (tv v3),.int .u32 (tv v4),.int .u32 (tv v5),.int .u32 (tv v6),.int .u32 (tv v7)]) (.int .i64 1)).run Tryz.prog w = .ok (.int .u32 (tv v1)) w:=fun _=>by kernel_rfl
     go_wp2;go_region
     all_goals
      go_wp2;go_roundw
      case rel=>exact⟨2,by omega,by go_num,J.out.1.drew.set1 _,J.out.2.drew.setCell (p:=⟨b,1,none⟩) (nL _) _⟩
      case measure=>simp[intOf]
    ·have c:wr.cell? ⟨b,2,none⟩=some (.int .u32 (tv m.v.c)):=J.out.1.c2
     have f:=J.out.1.fz 2;have ix:∀w:Wo,(Instr.index 313 (.agg #[.int .u32 (tv v0),.int .u32 (tv v1),.int .u32 (tv v2),.int .u32 (tv v3),.int .u32 (tv v4),.int .u32 (tv v5),.int .u32 (tv v6),.int .u32 (tv v7)]) (.int .i64 2)).run Tryz.prog w = .ok (.int .u32 (tv v2)) w:=fun _=>by kernel_rfl
     go_wp2;go_region
     all_goals
      go_wp2;go_roundw
      case rel=>exact⟨3,by omega,by go_num,J.out.1.drew.set2 _,J.out.2.drew.setCell (p:=⟨b,2,none⟩) (nL _) _⟩
      case measure=>simp[intOf]
    ·have c:wr.cell? ⟨b,3,none⟩=some (.int .u32 (tv m.v.d)):=J.out.1.c3
     have f:=J.out.1.fz 3;have ix:∀w:Wo,(Instr.index 313 (.agg #[.int .u32 (tv v0),.int .u32 (tv v1),.int .u32 (tv v2),.int .u32 (tv v3),.int .u32 (tv v4),.int .u32 (tv v5),.int .u32 (tv v6),.int .u32 (tv v7)]) (.int .i64 3)).run Tryz.prog w = .ok (.int .u32 (tv v3)) w:=fun _=>by kernel_rfl
     go_wp2;go_region
     all_goals
      go_wp2;go_roundw
      case rel=>exact⟨4,by omega,by go_num,J.out.1.drew.set3 _,J.out.2.drew.setCell (p:=⟨b,3,none⟩) (nL _) _⟩
      case measure=>simp[intOf]
    ·have c:wr.cell? ⟨b,4,none⟩=some (.int .u32 (tv m.v.e)):=J.out.1.c4
     have f:=J.out.1.fz 4;have ix:∀w:Wo,(Instr.index 313 (.agg #[.int .u32 (tv v0),.int .u32 (tv v1),.int .u32 (tv v2),.int .u32 (tv v3),.int .u32 (tv v4),.int .u32 (tv v5),.int .u32 (tv v6),.int .u32 (tv v7)]) (.int .i64 4)).run Tryz.prog w = .ok (.int .u32 (tv v4)) w:=fun _=>by kernel_rfl
     go_wp2;go_region
     all_goals
      go_wp2;go_roundw
      case rel=>exact⟨5,by omega,by go_num,J.out.1.drew.set4 _,J.out.2.drew.setCell (p:=⟨b,4,none⟩) (nL _) _⟩
      case measure=>simp[intOf]
    ·have c:wr.cell? ⟨b,5,none⟩=some (.int .u32 (tv m.v.f)):=J.out.1.c5
     have f:=J.out.1.fz 5;have ix:∀w:Wo,(Instr.index 313 (.agg #[.int .u32 (tv v0),.int .u32 (tv v1),.int .u32 (tv v2),.int .u32 (tv v3),.int .u32 (tv v4),.int .u32 (tv v5),.int .u32 (tv v6),.int .u32 (tv v7)]) (.int .i64 5)).run Tryz.prog w = .ok (.int .u32 (tv v5)) w:=fun _=>by kernel_rfl
     go_wp2;go_region
     all_goals
      go_wp2;go_roundw
      case rel=>exact⟨6,by omega,by go_num,J.out.1.drew.set5 _,J.out.2.drew.setCell (p:=⟨b,5,none⟩) (nL _) _⟩
      case measure=>simp[intOf]
    ·have c:wr.cell? ⟨b,6,none⟩=some (.int .u32 (tv m.v.g)):=J.out.1.c6
     have f:=J.out.1.fz 6;have ix:∀w:Wo,(Instr.index 313 (.agg #[.int .u32 (tv v0),.int .u32 (tv v1),.int .u32 (tv v2),.int .u32 (tv v3),.int .u32 (tv v4),.int .u32 (tv v5),.int .u32 (tv v6),.int .u32 (tv v7)]) (.int .i64 6)).run Tryz.prog w = .ok (.int .u32 (tv v6)) w:=fun _=>by kernel_rfl
     go_wp2;go_region
     all_goals
      go_wp2;go_roundw
      case rel=>exact⟨7,by omega,by go_num,J.out.1.drew.set6 _,J.out.2.drew.setCell (p:=⟨b,6,none⟩) (nL _) _⟩
      case measure=>simp[intOf]
    ·have c:wr.cell? ⟨b,7,none⟩=some (.int .u32 (tv m.v.h)):=J.out.1.c7
     have f:=J.out.1.fz 7;have ix:∀w:Wo,(Instr.index 313 (.agg #[.int .u32 (tv v0),.int .u32 (tv v1),.int .u32 (tv v2),.int .u32 (tv v3),.int .u32 (tv v4),.int .u32 (tv v5),.int .u32 (tv v6),.int .u32 (tv v7)]) (.int .i64 7)).run Tryz.prog w = .ok (.int .u32 (tv v7)) w:=fun _=>by kernel_rfl
     go_wp2;go_region
     all_goals
      go_wp2;go_roundw
      case rel=>exact⟨8,by omega,by go_num,J.out.1.drew.set7 _,J.out.2.drew.setCell (p:=⟨b,7,none⟩) (nL _) _⟩
      case measure=>simp[intOf]
    ·go_wp2
     refine bodyPost_end (results_none Tryz.results346 _ _ _) rfl ⟨rfl,?_,J.out.2⟩;unfold zax.mix;rw[I.out.1];exact J.out.1
  ·have hk3:k < 64:=by omega
   have g0:(0:Int)<=(k:Int):=by omega
   have g1:(k:Int) < 64:=by omega
   have HK:=I.out.2.1.kst k hk3;obtain⟨kk,hkk⟩:∃x,kst.getD k 0=x:=⟨_,rfl⟩;rw[hkk] at HK;obtain⟨v0,v1,v2,v3,v4,v5,v6,v7⟩:=v;have T1:Hid (∀w,Cl 371 #[.int .u32 (tv v4),.int .i64 6,.int .i64 11,.int .i64 25] w fun e w'=>e = .returned (.int .u32 (tv (zbA v4 6 11 25)))/\w'=w):=fun w=>zcK v4 6 11 25 (by omega) (by omega) (by omega) w
   have T2:Hid (∀w,Cl 371 #[.int .u32 (tv v0),.int .i64 2,.int .i64 13,.int .i64 22] w fun e w'=>e = .returned (.int .u32 (tv (zbA v0 2 13 22)))/\w'=w):=fun w=>zcK v0 2 13 22 (by omega) (by omega) (by omega) w
   have P0:Hid (0 < b/\k < 64):=⟨I.out.2.1.pos,hk3⟩;obtain⟨y4,hy4⟩:∃x,zbA v4 6 11 25=x:=⟨_,rfl⟩;obtain⟨y0,hy0⟩:∃x,zbA v0 2 13 22=x:=⟨_,rfl⟩;rw[hy4] at T1;rw[hy0] at T2;go_wp2;go_region_held3 (fun w'=>w'.cell? ⟨0, k,none⟩=some (.int .u32 (tv kk))) (first|exact HK|exact (Below.cell hb1 P0.out.1).trans HK) (first|(go_at_call 371;refine cM (T1.out _) ?_;rintro e w' ⟨rfl,rfl⟩)|(go_at_call 372;refine cM (word_any b ⟨m.v,r,m.n⟩ k P0.out.2 _ ?_) ?_;(focus exact I.out.2.1.drew);rintro e w1 ⟨rfl,M1,hb1⟩));obtain⟨T,hT⟩:∃T,v7+y4+((v4 &&& v5) ^^^ (~~~v4 &&& v6))+kk+rat (zbp r k) k=T:=⟨_,rfl⟩;rw[hT];have HT:Hid (v7+y4+((v4 &&& v5) ^^^ (~~~v4 &&& v6))+kk+rat (zbp r k) k=T):=hT;have HY:Hid (kst.getD k 0=kk/\zbA v4 6 11 25=y4/\zbA v0 2 13 22=y0):=⟨hkk,hy4,hy0⟩;have HM1:Hid (Mc w1 b { v:=m.v,r:=zbp r k,n:=m.n }/\Below b wr.drew w1):=⟨M1,hb1⟩;clear hT hkk hy4 hy0 M1 hb1 HK T1;go_wp2_with fail;refine cM (T2.out _) ?_;rintro e w2 ⟨rfl,rfl⟩;go_wp2;go_roundw
   case rel =>
    refine⟨k+1,⟨T+(y0+((v0 &&& v1) ^^^ (v0 &&& v2) ^^^ (v1 &&& v2))),v0,v1,v2,v3+T,v4,v5,v6⟩,zbp r k,by omega,by go_num,rfl,rfl,rfl,rfl,rfl,rfl,rfl,rfl,?_,HM1.out.1,?_⟩
    ·show ((rounds m.v m.r k |> fun p=>(rnd p.1 (kst.getD k 0) (rat (zbp p.2 k) k),zbp p.2 k)):V8×List UInt32)=_
     rw[I.out.1];show (rnd ⟨v0,v1,v2,v3,v4,v5,v6,v7⟩ (kst.getD k 0) (rat (zbp r k) k),zbp r k)=_
     unfold rnd;rw[HY.out.1,HY.out.2.1,HY.out.2.2,HT.out]
    ·exact I.out.2.2.drew.trans HM1.out.2
   case measure=>simp[intOf];omega
theorem zoO (x:UInt32) (c:UInt8):bits .or .u32 (tv x*256 % 4294967296) ((c.toNat:Int) % 4294967296)=tv (UInt32.ofNat (x.toNat*256+c.toNat)):=by
 have hx:=x.toNat_lt;have hc:=c.toNat_lt;rw[zj2];unfold tv;have e1:(x.toNat:Int)*256 % 4294967296=((x.toNat*256 % 4294967296:Nat):Int):=by omega
 have e0:(c.toNat:Int) % 4294967296=(c.toNat:Int):=by omega
 rw[e1,e0,(bits_nat .u32 32 (by decide) zp9 _ _ (by omega) (by omega)).2];have:=Nat.shiftLeft_add_eq_or_of_lt (show c.toNat < 2 ^ 8 from hc) (x.toNat % 2 ^ 24);rw[Nat.shiftLeft_eq] at this;have e2:x.toNat*256 % 4294967296=x.toNat % 2 ^ 24*2 ^ 8:=by omega
 rw[e2,<-this];omega
theorem Mc.setN {w:Wo} {b:Nat} {m:zax} (h:Mc w b m) (n:Nat) (hn:n < 18446744073709551616):Mc (w.setCell ⟨b,24,none⟩ (.int .u64 (n:Int))) b ⟨m.v,m.r,n⟩:=by
 have ne:=zbC w b 24 (.int .u64 (n:Int));refine⟨h.pos,h.kst.later ((bQ b w).setCell (nL _) _) h.pos,(ne 0 (by decide)).trans h.c0,(ne 1 (by decide)).trans h.c1,(ne 2 (by decide)).trans h.c2,(ne 3 (by decide)).trans h.c3,(ne 4 (by decide)).trans h.c4,(ne 5 (by decide)).trans h.c5,(ne 6 (by decide)).trans h.c6,(ne 7 (by decide)).trans h.c7,fun j hj=>(ne (8+j) (by omega)).trans (h.ring j hj),by have:=h.cn;simp[go_sem,this],fun o=>by simp[h.fz],h.len,hn⟩
theorem put_any (b:Nat) (m:zax) (c:UInt8) (w:Wo) (hm:Hid (Mc w b m)) :
  Cl 307 #[.pointer (some ⟨b,0,none⟩),.int .u8 (c.toNat:Int)] w fun e w'=>e = .returned (.tuple #[])/\Mc w' b (m.put c)/\Below b w w':=by
 obtain⟨k,hk⟩:∃k,m.n / 4 % 16=k:=⟨_,rfl⟩;have hk16:k < 16:=hk ▸ Nat.mod_lt _ (by decide);have R:=hm.out.ring k hk16;have CN:=hm.out.cn;obtain⟨x,hx⟩:∃x,m.r.getD k 0=x:=⟨_,rfl⟩;rw[hx] at R;obtain⟨n,hn⟩:∃n,m.n=n:=⟨_,rfl⟩;rw[hn] at CN hk;have hlt:=hm.out.lt;rw[hn] at hlt;have e0:(n:Int) / 4 % 16=(k:Int):=by omega
 have e0':IntKind.u64.wrap ((n:Int) / 4)=(n:Int) / 4:=by rw[IntKind.wrap_u64];omega
 have e0'':((n:Int) / 4).tmod 16=(k:Int):=by rw[Int.tmod_eq_emod_of_nonneg (by omega)];exact e0
 have b0:(k:Int) < 16:=by omega
 obtain⟨n1,hn1⟩:∃n1,(n+1) % 18446744073709551616=n1:=⟨_,rfl⟩;have e1:IntKind.u64.wrap ((n:Int)+1)=(n1:Int):=by rw[IntKind.wrap_u64];omega
 have e2:((n:Int)+1) % 18446744073709551616=(n1:Int):=by omega
 have PV:Hid (_=_):=zoO x c;have F:=hm.out.fz (8+k);have F2:=hm.out.fz 24;obtain⟨y,hy⟩:∃y,UInt32.ofNat (x.toNat*256+c.toNat)=y:=⟨_,rfl⟩;rw[hy] at PV;have PU:Hid (m.push c=⟨m.v,m.r.set k y,n1⟩):=by
  show _=_;unfold zax.push;simp only[hn,hk,hx,hy];rw[show (2:Nat) ^ 64=18446744073709551616 by decide,hn1]
 have HN:Hid (m.n=n):=hn;have HK:Hid (k < 16/\n1 < 18446744073709551616):=⟨hk16,by omega⟩;by_cases h0:n1 % 64=0
 ·have PT:Hid (m.put c=(⟨m.v,m.r.set k y,n1⟩:zax).mix):=by
   show _=_;unfold zax.put;rw[PU.out];exact if_pos h0
  have h0':(n1:Int) % 64=0:=by omega
  have h0'':(n1:Int).tmod 64=0:=by rw[Int.tmod_eq_emod_of_nonneg (by omega)];exact h0'
  clear hk hx hn hy hn1 hlt hk16;go_enter Tryz.func307, Tryz.ntmps307;go_wp2;go_region
  all_goals
   rw[PV.out];obtain⟨W,hW⟩:∃W,(w.setCell ⟨b,8+k,none⟩ (.int .u32 (tv y))).drew=W:=⟨_,rfl⟩;have M1:Hid (Mc W b ⟨m.v,m.r.set k y,n⟩/\Below b w W):=by
    rw[<-hW];refine⟨?_,((bQ _ _).setCell (p:=⟨b,8+k,none⟩) (nL _) _).drew⟩;have:=(hm.out.setRing k HK.out.1 y _ rfl).drew;rw[HN.out] at this;exact this
   rw[hW];clear hW R CN F F2 PV;have CN:=M1.out.1.cn;have F2:=M1.out.1.fz 24;go_wp2_with fail;refine cM (zmz b ⟨m.v,m.r.set k y,n1⟩ _ (M1.out.1.setN n1 HK.out.2)) ?_;rintro e w1 ⟨rfl,M2,hb2⟩;have M3:Hid (Mc w1 b (m.put c)/\Below b w w1):=⟨PT.out ▸ M2,(M1.out.2.setCell (p:=⟨b,24,none⟩) (nL _) _).trans hb2⟩;clear M2 hb2;go_wp2;refine bodyPost_end (results_none Tryz.results307 _ _ _) rfl ⟨rfl,M3.out⟩
 ·have PT:Hid (m.put c=(⟨m.v,m.r.set k y,n1⟩:zax)):=by
   show _=_;unfold zax.put;rw[PU.out];exact if_neg h0
  have h0':¬(n1:Int) % 64=0:=by omega
  have h0'':¬(n1:Int).tmod 64=0:=by rw[Int.tmod_eq_emod_of_nonneg (by omega)];exact h0'
  clear hk hx hn hy hn1 hlt hk16;go_enter Tryz.func307, Tryz.ntmps307;go_wp2;go_region
  all_goals
   rw[PV.out];obtain⟨W,hW⟩:∃W,(w.setCell ⟨b,8+k,none⟩ (.int .u32 (tv y))).drew=W:=⟨_,rfl⟩;have M1:Hid (Mc W b ⟨m.v,m.r.set k y,n⟩/\Below b w W):=by
    rw[<-hW];refine⟨?_,((bQ _ _).setCell (p:=⟨b,8+k,none⟩) (nL _) _).drew⟩;have:=(hm.out.setRing k HK.out.1 y _ rfl).drew;rw[HN.out] at this;exact this
   rw[hW];clear hW R CN F F2 PV;have CN:=M1.out.1.cn;have F2:=M1.out.1.fz 24;have M3:Hid (Mc (W.setCell ⟨b,24,none⟩ (.int .u64 (n1:Int))) b (m.put c)/\Below b w (W.setCell ⟨b,24,none⟩ (.int .u64 (n1:Int)))):=⟨PT.out ▸ M1.out.1.setN n1 HK.out.2,M1.out.2.setCell (p:=⟨b,24,none⟩) (nL _) _⟩;go_wp2;refine bodyPost_end (results_none Tryz.results307 _ _ _) rfl ⟨rfl,M3.out⟩
theorem zd4 (m:zax) (s:List UInt8) (k:Nat) (hk:k < s.length):m.text (s.take (k+1))=(m.text (s.take k)).put s[k]:=by
 unfold zax.text;rw[List.take_succ_eq_append_getElem hk,List.foldl_append];rfl
theorem zj5 (b:Nat) (m:zax) (s:Ba) (hs:s.size < 9223372036854775807) (w:Wo) (hm:Hid (Mc w b m)) :
  Cl 253 #[.pointer (some ⟨b,0,none⟩),.string s] w fun e w'=>e = .returned (.tuple #[])/\Mc w' b (m.text s.data.toList)/\Below b w w':=by
 have hl:Hid (s.data.toList.length=s.size):=by show s.data.toList.length=s.size;simp
 go_enter Tryz.func253, Tryz.ntmps253;go_wp2;go_loopw [7] (fun i wr=>∃k:Nat,k<=s.size/\i = .int .i64 (k:Int)/\Hid (Mc wr b (m.text (s.data.toList.take k))/\Below b w wr)) (fun i _=>s.size - (intOf i).toNat)
 case atStart=>exact⟨0,Nat.zero_le _,rfl,hm.out,bQ _ _⟩
 case round =>
  obtain⟨k,hk,rfl,I⟩:=hrel;by_cases hlt:k < s.size
  ·have TS:Hid (m.text (s.data.toList.take (k+1))=(m.text (s.data.toList.take k)).put s[k]):=zd4 m s.data.toList k (by rw[hl.out];exact hlt)
   obtain⟨c,hc⟩:∃c,s[k]=c:=⟨_,rfl⟩;rw[hc] at TS;go_wp2_with fail;refine cM (put_any b _ c _ I.out.1) ?_;rintro e w1 ⟨rfl,M2,hb2⟩;have M3:Hid (Mc w1 b (m.text (s.data.toList.take (k+1)))/\Below b w w1):=⟨TS.out ▸ M2,I.out.2.trans hb2⟩;clear M2 hb2;go_wp2;go_roundw
   case rel=>exact⟨k+1,by omega,by go_num,M3.out⟩
   case measure=>simp[intOf];omega
  ·have hkn:k=s.size:=by omega
   subst hkn;have M3:Hid (Mc wr b (m.text s.data.toList)/\Below b w wr):=by
    have:=I.out;rw[List.take_of_length_le (by rw[hl.out];exact nL _)] at this;exact this
   go_wp2;refine bodyPost_end (results_none Tryz.results253 _ _ _) rfl ⟨rfl,M3.out⟩
theorem zeV (n:Nat):(be8 n).length=8:=by simp[be8]
theorem zoP (n j:Nat) (hj:j < 8):(be8 n)[j]'(by rw[zeV];exact hj)=UInt8.ofNat (n / 2 ^ (8*(7 - j))):=by simp[be8]
theorem zgE (b:Nat) (m:zax) (n:Nat) (w:Wo) (hm:Hid (Mc w b m)) :
  Cl 308 #[.pointer (some ⟨b,0,none⟩),.int .u64 (n:Int)] w fun e w'=>e = .returned (.tuple #[])/\Mc w' b (m.text (be8 n))/\Below b w w':=by
 go_enter Tryz.func308, Tryz.ntmps308;go_wp2;go_loopw [4] (fun i wr=>∃j:Nat,j<=8/\i = .int .i64 (7 - (j:Int))/\Hid (Mc wr b (m.text ((be8 n).take j))/\Below b w wr)) (fun i _=>(intOf i+1).toNat)
 case atStart=>exact⟨0,by omega,rfl,hm.out,bQ _ _⟩
 case round =>
  obtain⟨j,hj,rfl,I⟩:=hrel;by_cases hj8:j=8
  ·subst hj8
   have M3:Hid (Mc wr b (m.text (be8 n))/\Below b w wr):=by
    have:=I.out;rw[List.take_of_length_le (by rw[zeV];exact nL _)] at this;exact this
   rw[show (7:Int) - ((8:Nat):Int) = -1 by decide];go_wp2;refine bodyPost_end (results_none Tryz.results308 _ _ _) rfl ⟨rfl,M3.out⟩
  ·obtain⟨t,ht⟩:∃t,7 - j=t:=⟨_,rfl⟩
   have e0:(7:Int) - (j:Int)=(t:Int):=by omega
   have TS:Hid (m.text ((be8 n).take (j+1))=(m.text ((be8 n).take j)).put (UInt8.ofNat (n / 2 ^ (8*t)))):=by
    have:=zd4 m (be8 n) j (by rw[zeV];omega);rw[zoP n j (by omega),ht] at this;exact this
   have t7:(t:Int)<=7:=by omega
   have e1:IntKind.i64.wrap (8*(t:Int))=((8*t:Nat):Int):=by rw[IntKind.wrap_i64];omega
   have e2:((8*t:Nat):Int)<=64:=by omega
   have e3:IntKind.i64.wrap ((t:Int) - 1)=7 - ((j+1:Nat):Int):=by rw[IntKind.wrap_i64];omega
   rw[e0];have BV:(n:Int) / 2 ^ (8*t) % 256=((UInt8.ofNat (n / 2 ^ (8*t))).toNat:Int):=by rw[UInt8.toNat_ofNat'];simp
   obtain⟨c,hc⟩:∃c,UInt8.ofNat (n / 2 ^ (8*t))=c:=⟨_,rfl⟩;rw[hc] at BV TS;clear hc;go_wp2_with fail;rw[BV];refine cM (put_any b _ c _ I.out.1) ?_;rintro e w1 ⟨rfl,M2,hb2⟩;have M3:Hid (Mc w1 b (m.text ((be8 n).take (j+1)))/\Below b w w1):=⟨TS.out ▸ M2,I.out.2.trans hb2⟩;clear M2 hb2;go_wp2;go_roundw
   case rel=>exact⟨j+1,by omega,by first|rfl|(congr 1;omega),M3.out⟩
   case measure=>simp[intOf];omega
theorem zqA (m:zax) (c:UInt8):(m.put c).n=(m.n+1) % 18446744073709551616:=by
 unfold zax.put zax.push zax.mix;simp only
 split <;> rfl
theorem zj6 (m:zax) (s t:List UInt8):m.text (s++t)=(m.text s).text t:=by unfold zax.text;rw[List.foldl_append]
theorem zgF (m:zax) (k:Nat):m.text (List.replicate (k+1) 0)=(m.put 0).text (List.replicate k 0):=rfl
theorem zmA (m:zax) (h:m.n % 64≠56):(m.put 0).pad=m.pad/\zgC (m.put 0).n < zgC m.n:=by
 have e:zgC m.n=zgC (m.put 0).n+1:=by rw[zqA];unfold zgC;omega
 refine⟨?_,by omega⟩;unfold zax.pad;rw[e,zgF]
theorem zj7 (m:zax) (h:m.n % 64=56):m.pad=m:=by
 unfold zax.pad;rw[show zgC m.n=0 by unfold zgC;omega];rfl
def zqa (b:Nat) (w:Wo):Nat:=zgC (intOf ((w.cell? ⟨b,24,none⟩).getD undef)).toNat
theorem zhF {w:Wo} {b:Nat} {m:zax} (h:Mc w b m):zqa b w=zgC m.n:=by
 unfold zqa;rw[h.cn];rfl
def V8.l (v:V8):List UInt32:=[v.a,v.b,v.c,v.d,v.e,v.f,v.g,v.h]
def zmB (v:V8) (k:Nat):List UInt8:=((V8.l v).take k).flatMap w4
theorem Mc.alloc {w:Wo} {b:Nat} {m:zax} (h:Mc w b m) (o:Obj):Mc (w.alloc o) b m:=by
 have hl:b < w.heap.size:=World.block_lt_of_cell? _ _ h.c0;refine⟨h.pos,h.kst.later ((bQ _ w).alloc (nL _) o) (by have:=h.pos;omega),zab h.c0,zab h.c1,zab h.c2,zab h.c3,zab h.c4,zab h.c5,zab h.c6,zab h.c7,fun k hk=>zab (h.ring k hk),zab h.cn,fun q => ?_,h.len,h.lt⟩;rw[World.frozen?_alloc_past _ _ _ hl];exact h.fz q
theorem Mc.below {w:Wo} {b:Nat} {m:zax} (h:Mc w b m):b < w.heap.size:=World.block_lt_of_cell? _ _ h.c0
def zaw (l:List UInt8):List Value:=l.map fun b => .int .u8 b.toNat
theorem zda:(Tryz.prog.info? 5).map (fun i=>(i.zero,i.size,i.bytes))=some (some (.int .u8 0),1,1):=by kernel_rfl
theorem zhG (w:Wo) (cs:Array Value) (t:TypeId):∀j u,cs.toList[j]?=some u->(w.alloc (.cells cs t)).cell? (Addr.add ⟨w.heap.size,0,none⟩ j)=some u:=fun j u h=>by
 have q:Addr.add ⟨w.heap.size,0,none⟩ j=⟨w.heap.size,j,none⟩:=by simp[Addr.add];intro h;exact h.symm
 rw[q,World.cell?_alloc_new]
 simpa using h
theorem zgG {w:Wo} {base n:Nat} {v:Value} {l:List UInt8} (h:w.ownsRow base 5 1 v n (zaw l)):l.length=n/\((v = .slice none 0 0/\n=0)\/∃g cap,v = .slice (some ⟨g,0,none⟩) n cap/\∀j (hj:j < l.length),w.cell? ⟨g,j,none⟩=some (.int .u8 (l[j].toNat:Int))):=by
 obtain⟨h1,h2⟩:=h;have hl:l.length=n:=by simpa[zaw] using h1
 refine⟨hl,?_⟩;rcases h2 with h2|⟨g,cap,cur,rfl,-,hh,-,-,-,ht⟩
 ·exact .inl h2
 ·refine .inr ⟨g,cap,rfl,fun j hj => ?_⟩
  have e:cur[j]?=(zaw l)[j]?:=by
   rw[<-ht,List.getElem?_take_of_lt (by omega)];simp
  unfold World.cell?;rw[hh];simp only[Option.isSome_none];show cur[j]?=_
  rw[e];simp[zaw,hj]
theorem zj8 (x:UInt32):[Value.int .u8 (tv x / 16777216 % 256),.int .u8 (tv x / 65536 % 256),.int .u8 (tv x / 256 % 256),.int .u8 (tv x % 256)]=zaw (w4 x):=by
 unfold zaw w4 tv;simp
theorem zj9 (v:V8):zmB v 8=v.out:=by simp[zmB,V8.l,V8.out]
theorem zka (w:Wo) (o:Obj):(w.alloc o).heap[w.heap.size]?=some o:=by
 show (w.heap.push o)[w.heap.size]?=some o;simp
set_option maxRecDepth 20000 in
theorem zmC (b:Nat) (m:zax) (w:Wo) (hm:Hid (Mc w b m)) :
  Cl 254 #[.pointer (some ⟨b,0,none⟩)] w fun e w'=>e = .returned (.string ⟨m.fin.toArray⟩)/\Below b w w':=by
 have HB:Hid (b < w.heap.size):=hm.out.below;obtain⟨i0,hi,hz0,hz1,hz2⟩:=info_parts zda;have CN:=hm.out.cn;obtain⟨n,hn⟩:∃n,m.n=n:=⟨_,rfl⟩;rw[hn] at CN;obtain⟨n8,hn8⟩:∃k,8*n % 18446744073709551616=k:=⟨_,rfl⟩;have e1:IntKind.u64.wrap (8*(n:Int))=(n8:Int):=by rw[IntKind.wrap_u64];omega
 have e2:8*(n:Int) % 18446744073709551616=(n8:Int):=by omega
 have FIN:Hid (m.fin=(((m.put 128).pad).text (be8 n8)).v.out):=by
  show _=_;unfold zax.fin;rw[hn,show (2:Nat) ^ 64=18446744073709551616 by decide,hn8]
 clear hn hn8;go_enter Tryz.func254, Tryz.ntmps254;go_wp2_with fail;refine cM (put_any b m 128 _ hm.out) ?_;rintro e w1 ⟨rfl,M1,hb1⟩;have I1:Hid (Mc w1 b (m.put 128)/\Below b w w1):=⟨M1,hb1⟩;clear M1 hb1 CN;go_wp2;go_loopw [] (fun wr=>∃m2:zax,Hid (Mc wr b m2/\m2.pad=(m.put 128).pad/\Below b w wr)) (fun wr=>zqa b wr)
 case atStart=>exact⟨_,I1.out.1,rfl,I1.out.2⟩
 case round =>
  obtain⟨m2,J⟩:=hrel;have CN:=J.out.1.cn;obtain⟨q,hq⟩:∃n,m2.n=n:=⟨_,rfl⟩;rw[hq] at CN;by_cases h56:q % 64=56
  ·have h0:(q:Int).tmod 64=56:=by rw[Int.tmod_eq_emod_of_nonneg (by omega)];omega
   have h0':(q:Int) % 64=56:=by omega
   have PD:Hid (Mc wr b (m.put 128).pad/\Below b w wr):=by
    refine⟨?_,J.out.2.2⟩;rw[<-J.out.2.1,zj7 m2 (by rw[hq];exact h56)];exact J.out.1
   clear hq J h56;go_wp2_with fail;refine cM (zgE b _ n8 _ PD.out.1) ?_;rintro e w3 ⟨rfl,M3,hb3⟩;have I3:Hid (Mc w3 b (((m.put 128).pad).text (be8 n8))/\Below b w w3):=⟨M3,PD.out.2.trans hb3⟩;clear M3 hb3 PD CN h0 h0';obtain⟨M,hM⟩:∃M,((m.put 128).pad).text (be8 n8)=M:=⟨_,rfl⟩;rw[hM] at I3 FIN;clear hM;obtain⟨W,hW⟩:∃W,w3.alloc (.cells (Array.replicate 32 (.int .u8 0)) 5)=W:=⟨_,rfl⟩;have hmk:(Instr.makeSlice 99 (.int .i64 0) (.int .i64 32)).run Tryz.prog w3 = .ok (.slice (some ⟨w3.heap.size,0,none⟩) 0 32) W:=by rw[<-hW];kernel_rfl
   have IW:Hid (b<=w3.heap.size/\Mc W b M/\Below b w W/\w3.heap.size<=W.heap.size/\W.ownsRow w3.heap.size 5 1 (.slice (some ⟨w3.heap.size,0,none⟩) 0 32) 0 (zaw (zmB M.v 0))):=by
    have hb:b<=w3.heap.size:=Nat.le_trans (Nat.le_of_lt HB.out) I3.out.2.size;rw[<-hW];refine⟨hb,I3.out.1.alloc _,I3.out.2.alloc hb _,by simp,rfl,.inr ⟨_,32,_,rfl,nL _,zka _ _,by decide,by decide,rfl,rfl⟩⟩
   have c0:=IW.out.2.1.c0;have c1:=IW.out.2.1.c1;have c2:=IW.out.2.1.c2;have c3:=IW.out.2.1.c3;have c4:=IW.out.2.1.c4;have c5:=IW.out.2.1.c5;have c6:=IW.out.2.1.c6;have c7:=IW.out.2.1.c7;obtain⟨g,hg⟩:∃g,w3.heap.size=g:=⟨_,rfl⟩;rw[hg] at hmk IW;clear hW hg I3;obtain⟨⟨v0,v1,v2,v3,v4,v5,v6,v7⟩,r,nn⟩:=M;go_wp2;go_loopw [4,30] (fun sl i wx=>∃k:Nat,k<=8/\i = .int .i64 (k:Int)/\Hid (wx.ownsRow g 5 1 sl (4*k) (zaw (zmB ⟨v0,v1,v2,v3,v4,v5,v6,v7⟩ k))/\g<=wx.heap.size/\Below b w wx)) (fun _ i _=>8 - (intOf i).toNat)
   case atStart=>exact⟨0,by omega,rfl,IW.out.2.2.2.2,IW.out.2.2.2.1,IW.out.2.2.1⟩
   case round =>
    obtain⟨k,hk,rfl,J⟩:=hrel;clear c0 c1 c2 c3 c4 c5 c6 c7 hmk;by_cases hk8:k=8
    ·subst hk8
     obtain⟨hl,hor⟩:=zgG J.out.1;rcases hor with ⟨-,h⟩|⟨g2,cap,rfl,hcell⟩
     ·exact absurd h (by decide)
     ·rw[zj9] at hl hcell
      have CV:(convert 99 9 (.slice (some ⟨g2,0,none⟩) 32 cap)).run Tryz.prog wr = .ok (.string ⟨(V8.out ⟨v0,v1,v2,v3,v4,v5,v6,v7⟩).toArray⟩) wr:=by
       have:=run_convert_bytes_back (P:=Tryz.prog) wr 99 9 5 ⟨g2,0,none⟩ cap (V8.out ⟨v0,v1,v2,v3,v4,v5,v6,v7⟩) Tryz.underlying99 Tryz.underlying5 Tryz.underlying9 (fun j hj=>by
        have q:Addr.add ⟨g2,0,none⟩ j=⟨g2,j,none⟩:=by simp[Addr.add];intro h;exact h.symm
        rw[q];exact hcell j hj)
       rw[hl] at this;exact this
      clear hcell;go_wp2;go_ret;exact⟨by rw[FIN.out];rfl,J.out.2.2⟩
    ·obtain⟨x,hx⟩:∃x,(V8.l ⟨v0,v1,v2,v3,v4,v5,v6,v7⟩)[k]?=some x:=by
      rw[List.getElem?_eq_getElem (show k < (V8.l ⟨v0,v1,v2,v3,v4,v5,v6,v7⟩).length by simp[V8.l];omega)];exact⟨_,rfl⟩
     have ix:(Instr.index 313 (.agg #[.int .u32 (tv v0),.int .u32 (tv v1),.int .u32 (tv v2),.int .u32 (tv v3),.int .u32 (tv v4),.int .u32 (tv v5),.int .u32 (tv v6),.int .u32 (tv v7)]) (.int .i64 (k:Int))).run Tryz.prog wr = .ok (.int .u32 (tv x)) wr:=by
      rcases (by omega:k=0\/k=1\/k=2\/k=3\/k=4\/k=5\/k=6\/k=7) with rfl|rfl|rfl|rfl|rfl|rfl|rfl|rfl <;> (simp[V8.l] at hx;subst hx;kernel_rfl)
     have OS:Hid (zmB ⟨v0,v1,v2,v3,v4,v5,v6,v7⟩ (k+1)=zmB ⟨v0,v1,v2,v3,v4,v5,v6,v7⟩ k++w4 x):=by
      show _=_;unfold zmB;rw[List.take_add_one,hx];simp
     clear hx;have WC:Hid (_=_):=zj8 x;go_wp2_with (first
      | (at_builtin;refine wpList_append_own _ rfl (.tmp 33) (.tmp 45) 99 rfl g 5 i0 (.int .u8 0) 1 1 Tryz.underlying99 hi hz0 hz1 hz2 rfl (by decide) _ _ _ rfl (J.out.1.alloc _) ⟨wr.heap.size,0,none⟩ 4 4 [.int .u8 (tv x / 16777216 % 256),.int .u8 (tv x / 65536 % 256),.int .u8 (tv x / 256 % 256),.int .u8 (tv x % 256)] rfl rfl (zhG _ _ _) (by intro u hu;simp at hu;rcases hu with rfl|rfl|rfl|rfl <;> rfl) (by unfold maxLen;omega) (by omega) (by have:=J.out.2.1;simp;omega) ?_;intro v1 w1 hown1 hgrow1 hnil1))
     go_roundw
     case rel =>
      refine⟨k+1,by omega,by go_num,?_,?_,?_⟩
      ·rw[OS.out];unfold zaw;rw[List.map_append,show 4*(k+1)=4*k+4 by omega];rw[WC.out] at hown1;exact hown1
      ·have h1:=hgrow1.size;have h2:=J.out.2.1;simp at h1;omega
      ·exact (J.out.2.2.alloc (by have h1:=IW.out.1;have h2:=J.out.2.1;omega) _).grown hgrow1 (by have h1:=IW.out.1;have h2:=J.out.2.1;simp;omega) (fun j hj=>Nat.le_trans IW.out.1 (J.out.1.lt j hj).1)
     case measure=>simp[intOf];omega
  ·have h0:¬(q:Int).tmod 64=56:=by rw[Int.tmod_eq_emod_of_nonneg (by omega)];omega
   have h0':¬(q:Int) % 64=56:=by omega
   have PD:Hid ((m2.put 0).pad=m2.pad/\zgC (m2.put 0).n < zgC m2.n):=zmA m2 (by rw[hq];exact h56);have TG:Hid (zqa b wr=zgC m2.n):=zhF J.out.1;clear hq h56;go_wp2_with fail;refine cM (put_any b m2 0 _ J.out.1) ?_;rintro e w3 ⟨rfl,M3,hb3⟩;have I3:Hid (Mc w3 b (m2.put 0)/\Below b w w3):=⟨M3,J.out.2.2.trans hb3⟩;clear M3 hb3;go_wp2;go_roundw
   case rel=>exact⟨_,I3.out.1,PD.out.1.trans J.out.2.1,I3.out.2⟩
   case measure=>rw[TG.out,zhF I3.out.1];exact PD.out.2
def c25:List Value:=[.int .u32 1779033703,.int .u32 3144134277,.int .u32 1013904242,.int .u32 2773480762,.int .u32 1359893119,.int .u32 2600822924,.int .u32 528734635,.int .u32 1541459225,.int .u32 0,.int .u32 0,.int .u32 0,.int .u32 0,.int .u32 0,.int .u32 0,.int .u32 0,.int .u32 0,.int .u32 0,.int .u32 0,.int .u32 0,.int .u32 0,.int .u32 0,.int .u32 0,.int .u32 0,.int .u32 0,.int .u64 0]
theorem zlS:(Tryz.prog.info? 316).map (·.size)=some 25:=by kernel_rfl
theorem zhH:∀v∈c25,v.oneCell'=true:=by
 intro v hv;simp only[c25,List.mem_cons,List.not_mem_nil,or_false] at hv;rcases hv with rfl|rfl|rfl|rfl|rfl|rfl|rfl|rfl|rfl|rfl|rfl|rfl|rfl|rfl|rfl|rfl|rfl|rfl|rfl|rfl|rfl|rfl|rfl|rfl|rfl <;> rfl
theorem zhI (w:Wo) (t:TypeId):(w.alloc (.cells #[.int .u32 0,.int .u32 0,.int .u32 0,.int .u32 0,.int .u32 0,.int .u32 0,.int .u32 0,.int .u32 0,.int .u32 0,.int .u32 0,.int .u32 0,.int .u32 0,.int .u32 0,.int .u32 0,.int .u32 0,.int .u32 0,.int .u32 0,.int .u32 0,.int .u32 0,.int .u32 0,.int .u32 0,.int .u32 0,.int .u32 0,.int .u32 0,.int .u64 0] t)).there w.heap.size 0 25:=fun j hj=>by
 refine⟨?_,by simp[go_sem]⟩;rw[Nat.zero_add,World.cell?_alloc_new,Array.getElem?_eq_getElem (xs:=(#[.int .u32 0,.int .u32 0,.int .u32 0,.int .u32 0,.int .u32 0,.int .u32 0,.int .u32 0,.int .u32 0,.int .u32 0,.int .u32 0,.int .u32 0,.int .u32 0,.int .u32 0,.int .u32 0,.int .u32 0,.int .u32 0,.int .u32 0,.int .u32 0,.int .u32 0,.int .u32 0,.int .u32 0,.int .u32 0,.int .u32 0,.int .u32 0,.int .u64 0]:Array Value)) hj];rfl
theorem zmD (tmps:Array Value) (w:Wo) (b:Nat) (x:Array Value) (h0:tmps.getD 0 undef = .pointer (some ⟨b,0,none⟩))
  (l1:(loadVar 316 ⟨b,0,none⟩).run Tryz.prog w = .ok (.agg x) w) :
  (results Tryz.f252 tmps).run Tryz.prog w = .ok (.agg x) w:=by
 unfold results;rw[Tryz.results252];have h0':tmps[0]?.getD undef = .pointer (some ⟨b,0,none⟩):=by simpa using h0
 simp[h0',l1,asAddr]
theorem zeW {P:Program} {o:Oper} {a:Act} {w w':Wo} {K:Act->Wo->Prop} {Q:Exit->Act->Wo->Prop} {v:Value} (h:(execOp a.eval o).run P w = .ok (.value v) w') (hk:K (a.put o.dst v) w'):o.wp P a w K Q:=by
 unfold Oper.wp;rw[h];exact hk
set_option maxRecDepth 10000 in
theorem zhJ (w:Wo) :
  Cl 252 #[] w fun e w'=>e = .returned (.agg c25.toArray)/\Below w.heap.size w w':=by
 obtain⟨W,hW⟩:∃W,w.alloc (.cells #[.int .u32 0,.int .u32 0,.int .u32 0,.int .u32 0,.int .u32 0,.int .u32 0,.int .u32 0,.int .u32 0,.int .u32 0,.int .u32 0,.int .u32 0,.int .u32 0,.int .u32 0,.int .u32 0,.int .u32 0,.int .u32 0,.int .u32 0,.int .u32 0,.int .u32 0,.int .u32 0,.int .u32 0,.int .u32 0,.int .u32 0,.int .u32 0,.int .u64 0] 316)=W:=⟨_,rfl⟩;have TH:Hid (W.there w.heap.size 0 25):=hW ▸ zhI w _;obtain⟨V,hV⟩:∃V,W.setCells w.heap.size 0 c25.toArray.toList=V:=⟨_,rfl⟩;have RV:Hid (V.rangeAt w.heap.size 0 c25/\Below w.heap.size w V):=by
  rw[<-hV];exact⟨World.rangeAt_setCells_same W w.heap.size 0 c25 TH.out,below_setCells (nL _) _ _ _ (hW ▸ (bQ _ _).alloc (nL _) _)⟩
 go_enter Tryz.func252, Tryz.ntmps252;refine wp_seq_k (fun K1 hK1 => ?_);refine wp_region_list (wpList_plain rfl (fun K hK => ?_));refine zeW (v := .pointer (some ⟨w.heap.size,0,none⟩)) (w':=W) (by rw[<-hW];kernel_rfl) ?_;refine hK _ _ (wpList_nil (hK1 _ _ ?_));clear hK hK1 K K1;simp only[Act.put,List.setIfInBounds_toArray,List.set_cons_zero];refine wp_seq_k (fun K1 hK1 => ?_);refine wp_region_list (wpList_plain rfl (fun K hK => ?_));refine zeW (v := .agg #[.int .u32 1779033703,.int .u32 3144134277,.int .u32 1013904242,.int .u32 2773480762,.int .u32 1359893119,.int .u32 2600822924,.int .u32 528734635,.int .u32 1541459225]) (w':=W) (by kernel_rfl) ?_;refine hK _ _ (wpList_plain rfl (fun K' hK' => ?_));clear hK K;refine zeW (v := .agg c25.toArray) (w':=W) (by kernel_rfl) ?_;refine hK' _ _ ?_;clear hK' K';simp only[Act.put,wA,wB,wC];refine wpList_store_mid rfl 316 (.tmp 0) (.tmp 2) rfl w.heap.size 0 c25.toArray (by kernel_rfl) (by kernel_rfl) TH.out zlS (all_oneCell_toArray zhH) ?_;rw[hV];refine wpList_nil (hK1 _ _ ?_);clear hK1 K1 hV hW TH;simp only[Act.put];go_wp2;refine bodyPost_ret (v := .agg c25.toArray) ?_ rfl ⟨rfl,RV.out.2⟩;exact zmD _ V w.heap.size _ (by kernel_rfl) (run_loadVar_mid V w.heap.size 0 316 c25 _ RV.out.1 Tryz.underlying316 rfl zlS)
theorem zkb {w V:Wo} (hp : 0 < w.heap.size) (hk:zd3 w) (hb:Bw w V) (hr:V.rangeAt w.heap.size 0 c25) (hz:∀o,V.frozen? ⟨w.heap.size,o,none⟩=false):Mc V w.heap.size Hs.start:=by
 refine⟨hp,hk.later hb hp,hr 0 _ rfl,hr 1 _ rfl,hr 2 _ rfl,hr 3 _ rfl,hr 4 _ rfl,hr 5 _ rfl,hr 6 _ rfl,hr 7 _ rfl,fun k hk => ?_,hr 24 _ rfl,hz,rfl,by decide⟩;rcases (by omega:k=0\/k=1\/k=2\/k=3\/k=4\/k=5\/k=6\/k=7\/k=8\/k=9\/k=10\/k=11\/k=12\/k=13\/k=14\/k=15) with rfl|rfl|rfl|rfl|rfl|rfl|rfl|rfl|rfl|rfl|rfl|rfl|rfl|rfl|rfl|rfl
 ·exact hr 8 _ rfl
 ·exact hr 9 _ rfl
 ·exact hr 10 _ rfl
 ·exact hr 11 _ rfl
 ·exact hr 12 _ rfl
 ·exact hr 13 _ rfl
 ·exact hr 14 _ rfl
 ·exact hr 15 _ rfl
 ·exact hr 16 _ rfl
 ·exact hr 17 _ rfl
 ·exact hr 18 _ rfl
 ·exact hr 19 _ rfl
 ·exact hr 20 _ rfl
 ·exact hr 21 _ rfl
 ·exact hr 22 _ rfl
 ·exact hr 23 _ rfl
def StrAt (w:Wo) (a:Option Addr) (ks:List Ba):Prop:=∀i (hi:i < ks.length),∃b o,a=some ⟨b,o,none⟩/\w.cell? ⟨b,o+i,none⟩=some (.string ks[i])
theorem StrAt.later {B:Nat} {W w1:Wo} {a:Option Addr} {ks:List Ba} (h:StrAt W a ks) (hb:Below B W w1) (hB:W.heap.size=B):StrAt w1 a ks:=fun i hi=>by
 subst hB;obtain⟨b,o,e,hc⟩:=h i hi;exact⟨b,o,e,cell_later hb hc⟩
theorem zhK {β:Type} (f:Ba->List β) (ks:List Ba) (k:Nat) (hk:k < ks.length):(ks.take (k+1)).flatMap f=(ks.take k).flatMap f++f ks[k]:=by
 rw[List.take_succ_eq_append_getElem hk,List.flatMap_append,List.flatMap_singleton]
theorem zdb (a:Option Addr) (ks:List Ba) (n cap:Nat) (hn:Hid (ks.length=n)) (hn63:n < 9223372036854775807) (w:Wo) (hp : 0 < w.heap.size) (hk:Hid (zd3 w)) (hc:Hid (StrAt w a ks)) (hs:Hid (∀s∈ks,s.size < 9223372036854775807)) :
  Cl 174 #[.slice a n cap] w fun e w'=>e = .returned (.string ⟨(sha (ks.flatMap fun s=>s.data.toList)).toArray⟩)/\Below w.heap.size w w':=by
 go_enter Tryz.func174, Tryz.ntmps174;go_wp2_with fail;refine cM (zhJ _) ?_;rintro e w1 ⟨rfl,hb1⟩;obtain⟨W,hW⟩:∃W,w1.alloc (.cells #[.int .u32 0,.int .u32 0,.int .u32 0,.int .u32 0,.int .u32 0,.int .u32 0,.int .u32 0,.int .u32 0,.int .u32 0,.int .u32 0,.int .u32 0,.int .u32 0,.int .u32 0,.int .u32 0,.int .u32 0,.int .u32 0,.int .u32 0,.int .u32 0,.int .u32 0,.int .u32 0,.int .u32 0,.int .u32 0,.int .u32 0,.int .u32 0,.int .u64 0] 316)=W:=⟨_,rfl⟩;have TH:Hid (W.there w1.heap.size 0 25):=hW ▸ zhI w1 _;obtain⟨V,hV⟩:∃V,W.setCells w1.heap.size 0 c25.toArray.toList=V:=⟨_,rfl⟩;have hS:(storeCells ⟨w1.heap.size,0,none⟩ c25).run Tryz.prog W = .ok () V:=by
  have:=run_storeCells_cells (P:=Tryz.prog) w1.heap.size 0 c25 0 W (fun j hj=>by simpa using (TH.out j hj).1) (fun j hj=>by simpa using (TH.out j hj).2) zhH;rw[<-hV]
  simpa using this
 have hl25:c25.length=25:=rfl;have K1:Hid (0 < w1.heap.size/\zd3 w1/\Below w.heap.size w w1):=⟨Nat.lt_of_lt_of_le hp hb1.size,hk.out.later hb1 hp,hb1⟩;have MV:Hid (Mc V w1.heap.size Hs.start/\Below w.heap.size w V):=by
  have hbV:Below w1.heap.size w1 V:=by
   rw[<-hV];exact below_setCells (nL _) _ _ _ (hW ▸ (bQ _ _).alloc (nL _) _)
  refine⟨zkb K1.out.1 K1.out.2.1 hbV (hV ▸ World.rangeAt_setCells_same W w1.heap.size 0 c25 TH.out)  (fun o => ?_),chain K1.out.2.2 hbV⟩;rw[<-hV,World.frozen?_setCells,<-hW];simp[go_sem]
 clear hb1 hV TH;go_wp2;obtain⟨B,hB⟩:∃B,w1.heap.size=B:=⟨_,rfl⟩;rw[hB] at MV K1;rw[hB];have HB:Hid (w.heap.size<=B):=by show w.heap.size<=B;rw[<-hB];exact K1.out.2.2.size
 clear hW hS hB hl25;go_loopw [9] (fun i wr=>∃k:Nat,k<=n/\i = .int .i64 (k:Int)/\Hid (Mc wr B (Hs.start.text ((ks.take k).flatMap (fun s=>s.data.toList)))/\Below w.heap.size w wr)) (fun i _=>n - (intOf i).toNat)
 case atStart=>exact⟨0,Nat.zero_le _,rfl,MV.out⟩
 case round =>
  obtain⟨k,hk1,rfl,I⟩:=hrel;by_cases hlt:k < n
  ·have hk':k < ks.length:=by have:=hn.out;omega
   obtain⟨b,o,rfl,hcell⟩:=StrAt.later hc.out I.out.2 rfl k hk';have FS:=zhK (fun s=>s.data.toList) ks k hk';have HS:Hid (ks[k].size < 9223372036854775807):=hs.out _ (List.getElem_mem hk');generalize ks[k]=s at *;have HF:Hid (_=_):=FS;clear FS;go_wp2_with fail;refine cM (zj5 B _ s HS.out _ I.out.1) ?_;rintro e w3 ⟨rfl,M2,hb2⟩;have M3:Hid (Mc w3 B (Hs.start.text ((ks.take (k+1)).flatMap fun s=>s.data.toList))/\Below w.heap.size w w3):=by
    refine⟨?_,I.out.2.trans (hb2.mono HB.out)⟩;rw[HF.out,zj6];exact M2
   clear M2 hb2;go_wp2;go_roundw
   case rel=>exact⟨k+1,by omega,by go_num,M3.out⟩
   case measure=>simp[intOf];omega
  ·have hkn:k=n:=by omega
   subst hkn;have M3:Hid (Mc wr B (Hs.start.text (ks.flatMap (fun s=>s.data.toList)))/\Below w.heap.size w wr):=by
    have:=I.out;rw[List.take_of_length_le (by have:=hn.out;omega)] at this;exact this
   go_wp2_with fail;refine cM (zmC B _ _ M3.out.1) ?_;rintro e w5 ⟨rfl,hb5⟩;have B5:Hid (Below w.heap.size w w5):=M3.out.2.trans (hb5.mono HB.out);clear hb5;go_wp2;go_ret;exact⟨rfl,B5.out⟩
def dgs:ByteArray:=⟨#[48,49,50,51,52,53,54,55,56,57,97,98,99,100,101,102]⟩
def dg (n:Nat):UInt8:=dgs.data.toList.getD n 0
def hx (c:UInt8):List UInt8:=[dg (c.toNat / 16),dg (c.toNat % 16)]
theorem zhL {a b:Ba} (h:a.toList=b.toList):a=b:=by
 rw[ByteArray.toList_eq,ByteArray.toList_eq] at h;cases a;cases b;congr 1;exact Array.ext' h
theorem strAt2 {w:Wo} {B:Nat} {x y:Ba} (h0:w.cell? ⟨B,0,none⟩=some (.string x)) (h1:w.cell? ⟨B,1,none⟩=some (.string y)):StrAt w (some ⟨B,0,none⟩) [x,y]:=fun i hi=>by
 refine⟨B,0,rfl,?_⟩;rcases (by simp at hi;omega:i=0\/i=1) with rfl|rfl
 ·exact h0
 ·exact h1
def Kh (w:Wo):Prop := 0 < w.heap.size/\zd3 w
theorem Kh.later {w w':Wo} (h:Kh w) (hb:Bw w w'):Kh w':=⟨Nat.lt_of_lt_of_le h.1 hb.size,h.2.later hb h.1⟩
theorem Kh.alloc {w:Wo} (h:Kh w) (o:Obj):Kh (w.alloc o):=h.later ((bQ _ _).alloc (nL _) _)
def shs (ks:List Ba):Ba:=⟨(sha (ks.flatMap fun s=>s.data.toList)).toArray⟩
theorem zkc (ks:List Ba):(shs ks).size=32:=rfl
theorem zhM {w:Wo} {B:Nat} {x:Ba} (h0:w.cell? ⟨B,0,none⟩=some (.string x)):StrAt w (some ⟨B,0,none⟩) [x]:=fun i hi=>by
 refine⟨B,0,rfl,?_⟩;obtain rfl:i=0:=by simp at hi;omega
 exact h0
theorem zkd (m:Nat) (h1:1<=m) (h2:m<=32) (a:Option Addr) (ks:List Ba) (n cap:Nat) (hn:Hid (ks.length=n)) (hn63:n < 9223372036854775807) (w:Wo) (hk:Hid (Kh w)) (hc:Hid (StrAt w a ks)) (hs:Hid (∀s∈ks,s.size < 9223372036854775807)) :
  Cl 369 #[.int .i64 (m:Int),.slice a n cap] w fun e w'=>e = .returned (.tuple #[.string ((shs ks).extract 0 m),.int .i64 0])/\Bw w w':=by
 have SM:Hid (∀w,Kh w->StrAt w a ks->Cl 174 #[.slice a n cap] w fun e w'=>e = .returned (.string (shs ks))/\Bw w w'):=fun w h h3=>zdb a ks n cap hn hn63 w h.1 h.2 h3 hs
 have hz:=zkc ks;generalize shs ks=S at *;have g1:(1:Int)<=(m:Int):=by omega
 have g2:(m:Int)<=32:=by omega
 have g3:¬(m:Int) < 1:=by omega
 have g4:¬(32:Int) < (m:Int):=by omega
 have g5:(m:Int)<=(S.size:Int):=by omega
 clear hn63 h1 h2;go_enter Tryz.func369, Tryz.ntmps369;go_wp2_with fail;refine cM (SM.out _ hk.out hc.out) ?_;rintro e w1 ⟨rfl,hb⟩;have B1:Hid (Bw w w1):=hb;clear hb;go_wp2;go_ret2;exact⟨rfl,B1.out⟩
end Go.Proofs.YtjcppbhgjchjaaaGreatDoor
