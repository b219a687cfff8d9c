/- The document's stream: quarter rounds. -/
import Derived.Test.YtgnkkjknngblbaaGreatDoorZnG25
namespace Go.Proofs.YtgnkkjknngblbaaGreatDoor
open Go.RowKit Go.Proofs.Fd Go.Proofs.Hs Go.Proofs.Cc
set_option maxRecDepth 20000
attribute [local go_sem] and32 or32 xor32 add32 add32'
set_option maxHeartbeats 40000000 in
theorem rQuarter_any (g cap:Nat) (l:List UInt32) (a b c d:Nat) (hl:Hid (l.length=16)) (hr:Hid (a < 16∧b < 16∧c < 16∧d < 16)) (w:World) (hw:Hid (QAt w g l)) :
  Calls Tryz.prog 133 #[.slice (some ⟨g,0,none⟩) 16 cap,.int .i64 (a:Int),.int .i64 (b:Int),.int .i64 (c:Int),.int .i64 (d:Int)] w fun e w'=>e = .returned (.tuple #[])∧QAt w' g (qr l a b c d)∧Below g w w':=by
 obtain⟨A,hA⟩:∃A,w.alloc (.cells #[.int .i64 16,.int .i64 12,.int .i64 8,.int .i64 7] 3)=A:=⟨_,rfl⟩
 have hg:g < w.heap.size:=World.block_lt_of_cell? _ _ (hw.out.at 0 (by rw[hl.out];decide)).1
 have IA:Hid (QAt A g l∧TurnsAt A w.heap.size∧Below g w A):=by
  rw[←hA]
  exact⟨hw.out.later ((Below.refl _ _).alloc (Nat.le_refl _) _),⟨by simp[go_sem],by simp[go_sem],by simp[go_sem],by simp[go_sem]⟩,(Below.refl _ _).alloc (Nat.le_of_lt hg) _⟩
 obtain⟨t,ht⟩:∃t,w.heap.size=t:=⟨_,rfl⟩
 rw[ht] at IA
 have hgt:Hid (g≠t):=by show g≠t;omega
 obtain⟨ra,rb,rc,rd_⟩:=hr.out
 have za:(a:Int) < 16:=by omega
 have zb:(b:Int) < 16:=by omega
 have zc:(c:Int) < 16:=by omega
 have zd:(d:Int) < 16:=by omega
 clear hg
 go_enter Tryz.func133, Tryz.ntmps133
 go_wp2
 go_loopw [11] (fun i wr=>∃L:List UInt32,(i = .int .i64 0∧L=l∨i = .int .i64 2∧L=hq 16 12 l a b c d∨i = .int .i64 4∧L=qr l a b c d)∧Hid (L.length=16∧QAt wr g L∧TurnsAt wr t∧Below g w wr)) (fun i _=>4 - (intOf i).toNat)
 case atStart=>exact⟨l,.inl ⟨rfl,rfl⟩,hl.out,IA.out⟩
 case round =>
  obtain⟨L,hL,I⟩:=hrel
  clear IA hA
  rcases hL with ⟨rfl,hL⟩|⟨rfl,hL⟩|⟨rfl,hL⟩
  ·have HL:Hid (L=l):=hL
   clear hL
   obtain⟨xp,hxp⟩:∃x,L.getD a 0=x:=⟨_,rfl⟩
   obtain⟨xq,hxq⟩:∃x,L.getD b 0=x:=⟨_,rfl⟩
   obtain⟨cp,fp⟩:=I.out.2.1.at a (by rw[I.out.1];omega)
   obtain⟨cq,-⟩:=I.out.2.1.at b (by rw[I.out.1];omega)
   rw[hxp] at cp
   rw[hxq] at cq
   obtain⟨L1,hL1⟩:∃Lx:List UInt32,L.set a (xp+xq)=Lx:=⟨_,rfl⟩
   have E1:Hid (L1=L.set a (L.getD a 0+L.getD b 0)):=by show _=_;rw[hxp,hxq,hL1]
   clear hxp hxq
   go_wp2
   go_region
   go_wp2
   obtain⟨W1,hW1⟩:∃W,(wr.setCell ⟨g,a,none⟩ (.int .u32 (tv (xp+xq)))).drew=W:=⟨_,rfl⟩
   have I1:Hid (L1.length=16∧QAt W1 g L1∧TurnsAt W1 t∧Below g w W1):=by
    rw[←hL1,←hW1]
    exact⟨by rw[List.length_set];exact I.out.1,(I.out.2.1).set a _,I.out.2.2.1.other (a:=⟨g,a,none⟩) hgt.out _,(I.out.2.2.2.setCell (p:=⟨g,a,none⟩) (Nat.le_refl _) _).drew⟩
   rw[hW1]
   clear cp fp cq hW1 hL1 
   obtain⟨xp,hxp⟩:∃x,L1.getD d 0=x:=⟨_,rfl⟩
   obtain⟨xq,hxq⟩:∃x,L1.getD a 0=x:=⟨_,rfl⟩
   obtain⟨cp,fp⟩:=I1.out.2.1.at d (by rw[I1.out.1];omega)
   obtain⟨cq,-⟩:=I1.out.2.1.at a (by rw[I1.out.1];omega)
   rw[hxp] at cp
   rw[hxq] at cq
   obtain⟨L2,hL2⟩:∃Lx:List UInt32,L1.set d (lft (xp ^^^ xq) 16)=Lx:=⟨_,rfl⟩
   have E2:Hid (L2=L1.set d (lft (L1.getD d 0 ^^^ L1.getD a 0) 16)):=by show _=_;rw[hxp,hxq,hL2]
   have tt:=I1.out.2.2.1.1
   have RL:Hid (∀w,Calls Tryz.prog 159 #[.int .u32 (tv (xp ^^^ xq)),.int .i64 16] w fun e w'=>e = .returned (.int .u32 (tv (lft (xp ^^^ xq) 16)))∧∃m,w'=w.drewN m):=fun w=>rLeft_any (xp ^^^ xq) 16 (by decide) (by decide) w
   obtain⟨y,hy⟩:∃y,lft (xp ^^^ xq) 16=y:=⟨_,rfl⟩
   rw[hy] at RL hL2
   clear hxp hxq
   go_wp2
   refine (fun (KEY:∀m:Nat,(?KK216:Nat→Prop) m) => ?main216) ?key216
   case main216 =>
    go_region_with (go_at_call 159;refine Calls.mono (RL.out _) ?_;rintro e w3 ⟨rfl,m2,rfl⟩)
    all_goals exact KEY m2
   intro m2
   go_wp2
   obtain⟨W2,hW2⟩:∃W,(W1.drewN (1+m2)).setCell ⟨g,d,none⟩ (.int .u32 (tv y))=W:=⟨_,rfl⟩
   have I2:Hid (L2.length=16∧QAt W2 g L2∧TurnsAt W2 t∧Below g w W2):=by
    rw[←hL2,←hW2]
    exact⟨by rw[List.length_set];exact I1.out.1,QAt.set (w:=W1.drewN (1+m2)) (I1.out.2.1) d _,TurnsAt.other (w:=W1.drewN (1+m2)) I1.out.2.2.1 (a:=⟨g,d,none⟩) hgt.out _,Below.setCell (p:=⟨g,d,none⟩) (below_drewN I1.out.2.2.2 _) (Nat.le_refl _) _⟩
   rw[hW2]
   clear cp fp cq hW2 hL2 tt RL hy
   obtain⟨xp,hxp⟩:∃x,L2.getD c 0=x:=⟨_,rfl⟩
   obtain⟨xq,hxq⟩:∃x,L2.getD d 0=x:=⟨_,rfl⟩
   obtain⟨cp,fp⟩:=I2.out.2.1.at c (by rw[I2.out.1];omega)
   obtain⟨cq,-⟩:=I2.out.2.1.at d (by rw[I2.out.1];omega)
   rw[hxp] at cp
   rw[hxq] at cq
   obtain⟨L3,hL3⟩:∃Lx:List UInt32,L2.set c (xp+xq)=Lx:=⟨_,rfl⟩
   have E3:Hid (L3=L2.set c (L2.getD c 0+L2.getD d 0)):=by show _=_;rw[hxp,hxq,hL3]
   clear hxp hxq
   go_wp2
   go_region
   go_wp2
   obtain⟨W3,hW3⟩:∃W,(W2.setCell ⟨g,c,none⟩ (.int .u32 (tv (xp+xq)))).drew=W:=⟨_,rfl⟩
   have I3:Hid (L3.length=16∧QAt W3 g L3∧TurnsAt W3 t∧Below g w W3):=by
    rw[←hL3,←hW3]
    exact⟨by rw[List.length_set];exact I2.out.1,(I2.out.2.1).set c _,I2.out.2.2.1.other (a:=⟨g,c,none⟩) hgt.out _,(I2.out.2.2.2.setCell (p:=⟨g,c,none⟩) (Nat.le_refl _) _).drew⟩
   rw[hW3]
   clear cp fp cq hW3 hL3 
   obtain⟨xp,hxp⟩:∃x,L3.getD b 0=x:=⟨_,rfl⟩
   obtain⟨xq,hxq⟩:∃x,L3.getD c 0=x:=⟨_,rfl⟩
   obtain⟨cp,fp⟩:=I3.out.2.1.at b (by rw[I3.out.1];omega)
   obtain⟨cq,-⟩:=I3.out.2.1.at c (by rw[I3.out.1];omega)
   rw[hxp] at cp
   rw[hxq] at cq
   obtain⟨L4,hL4⟩:∃Lx:List UInt32,L3.set b (lft (xp ^^^ xq) 12)=Lx:=⟨_,rfl⟩
   have E4:Hid (L4=L3.set b (lft (L3.getD b 0 ^^^ L3.getD c 0) 12)):=by show _=_;rw[hxp,hxq,hL4]
   have tt:=I3.out.2.2.1.2.1
   have RL:Hid (∀w,Calls Tryz.prog 159 #[.int .u32 (tv (xp ^^^ xq)),.int .i64 12] w fun e w'=>e = .returned (.int .u32 (tv (lft (xp ^^^ xq) 12)))∧∃m,w'=w.drewN m):=fun w=>rLeft_any (xp ^^^ xq) 12 (by decide) (by decide) w
   obtain⟨y,hy⟩:∃y,lft (xp ^^^ xq) 12=y:=⟨_,rfl⟩
   rw[hy] at RL hL4
   clear hxp hxq
   go_wp2
   refine (fun (KEY:∀m:Nat,(?KK416:Nat→Prop) m) => ?main416) ?key416
   case main416 =>
    go_region_with (go_at_call 159;refine Calls.mono (RL.out _) ?_;rintro e w3 ⟨rfl,m4,rfl⟩)
    all_goals exact KEY m4
   intro m4
   go_wp2
   obtain⟨W4,hW4⟩:∃W,(W3.drewN (1+m4)).setCell ⟨g,b,none⟩ (.int .u32 (tv y))=W:=⟨_,rfl⟩
   have I4:Hid (L4.length=16∧QAt W4 g L4∧TurnsAt W4 t∧Below g w W4):=by
    rw[←hL4,←hW4]
    exact⟨by rw[List.length_set];exact I3.out.1,QAt.set (w:=W3.drewN (1+m4)) (I3.out.2.1) b _,TurnsAt.other (w:=W3.drewN (1+m4)) I3.out.2.2.1 (a:=⟨g,b,none⟩) hgt.out _,Below.setCell (p:=⟨g,b,none⟩) (below_drewN I3.out.2.2.2 _) (Nat.le_refl _) _⟩
   rw[hW4]
   clear cp fp cq hW4 hL4 tt RL hy
   have NX:Hid (L4=hq 16 12 L a b c d):=by
    show _=_
    rw[E4.out,E3.out,E2.out,E1.out]
    rfl
   exact⟨⟨L4,.inr (.inl ⟨by go_num,by rw[NX.out,HL.out]⟩),I4.out⟩,by simp[intOf]⟩
  ·have HL:Hid (L=hq 16 12 l a b c d):=hL
   clear hL
   obtain⟨xp,hxp⟩:∃x,L.getD a 0=x:=⟨_,rfl⟩
   obtain⟨xq,hxq⟩:∃x,L.getD b 0=x:=⟨_,rfl⟩
   obtain⟨cp,fp⟩:=I.out.2.1.at a (by rw[I.out.1];omega)
   obtain⟨cq,-⟩:=I.out.2.1.at b (by rw[I.out.1];omega)
   rw[hxp] at cp
   rw[hxq] at cq
   obtain⟨L1,hL1⟩:∃Lx:List UInt32,L.set a (xp+xq)=Lx:=⟨_,rfl⟩
   have E1:Hid (L1=L.set a (L.getD a 0+L.getD b 0)):=by show _=_;rw[hxp,hxq,hL1]
   clear hxp hxq
   go_wp2
   go_region
   go_wp2
   obtain⟨W1,hW1⟩:∃W,(wr.setCell ⟨g,a,none⟩ (.int .u32 (tv (xp+xq)))).drew=W:=⟨_,rfl⟩
   have I1:Hid (L1.length=16∧QAt W1 g L1∧TurnsAt W1 t∧Below g w W1):=by
    rw[←hL1,←hW1]
    exact⟨by rw[List.length_set];exact I.out.1,(I.out.2.1).set a _,I.out.2.2.1.other (a:=⟨g,a,none⟩) hgt.out _,(I.out.2.2.2.setCell (p:=⟨g,a,none⟩) (Nat.le_refl _) _).drew⟩
   rw[hW1]
   clear cp fp cq hW1 hL1 
   obtain⟨xp,hxp⟩:∃x,L1.getD d 0=x:=⟨_,rfl⟩
   obtain⟨xq,hxq⟩:∃x,L1.getD a 0=x:=⟨_,rfl⟩
   obtain⟨cp,fp⟩:=I1.out.2.1.at d (by rw[I1.out.1];omega)
   obtain⟨cq,-⟩:=I1.out.2.1.at a (by rw[I1.out.1];omega)
   rw[hxp] at cp
   rw[hxq] at cq
   obtain⟨L2,hL2⟩:∃Lx:List UInt32,L1.set d (lft (xp ^^^ xq) 8)=Lx:=⟨_,rfl⟩
   have E2:Hid (L2=L1.set d (lft (L1.getD d 0 ^^^ L1.getD a 0) 8)):=by show _=_;rw[hxp,hxq,hL2]
   have tt:=I1.out.2.2.1.2.2.1
   have RL:Hid (∀w,Calls Tryz.prog 159 #[.int .u32 (tv (xp ^^^ xq)),.int .i64 8] w fun e w'=>e = .returned (.int .u32 (tv (lft (xp ^^^ xq) 8)))∧∃m,w'=w.drewN m):=fun w=>rLeft_any (xp ^^^ xq) 8 (by decide) (by decide) w
   obtain⟨y,hy⟩:∃y,lft (xp ^^^ xq) 8=y:=⟨_,rfl⟩
   rw[hy] at RL hL2
   clear hxp hxq
   go_wp2
   refine (fun (KEY:∀m:Nat,(?KK28:Nat→Prop) m) => ?main28) ?key28
   case main28 =>
    go_region_with (go_at_call 159;refine Calls.mono (RL.out _) ?_;rintro e w3 ⟨rfl,m2,rfl⟩)
    all_goals exact KEY m2
   intro m2
   go_wp2
   obtain⟨W2,hW2⟩:∃W,(W1.drewN (1+m2)).setCell ⟨g,d,none⟩ (.int .u32 (tv y))=W:=⟨_,rfl⟩
   have I2:Hid (L2.length=16∧QAt W2 g L2∧TurnsAt W2 t∧Below g w W2):=by
    rw[←hL2,←hW2]
    exact⟨by rw[List.length_set];exact I1.out.1,QAt.set (w:=W1.drewN (1+m2)) (I1.out.2.1) d _,TurnsAt.other (w:=W1.drewN (1+m2)) I1.out.2.2.1 (a:=⟨g,d,none⟩) hgt.out _,Below.setCell (p:=⟨g,d,none⟩) (below_drewN I1.out.2.2.2 _) (Nat.le_refl _) _⟩
   rw[hW2]
   clear cp fp cq hW2 hL2 tt RL hy
   obtain⟨xp,hxp⟩:∃x,L2.getD c 0=x:=⟨_,rfl⟩
   obtain⟨xq,hxq⟩:∃x,L2.getD d 0=x:=⟨_,rfl⟩
   obtain⟨cp,fp⟩:=I2.out.2.1.at c (by rw[I2.out.1];omega)
   obtain⟨cq,-⟩:=I2.out.2.1.at d (by rw[I2.out.1];omega)
   rw[hxp] at cp
   rw[hxq] at cq
   obtain⟨L3,hL3⟩:∃Lx:List UInt32,L2.set c (xp+xq)=Lx:=⟨_,rfl⟩
   have E3:Hid (L3=L2.set c (L2.getD c 0+L2.getD d 0)):=by show _=_;rw[hxp,hxq,hL3]
   clear hxp hxq
   go_wp2
   go_region
   go_wp2
   obtain⟨W3,hW3⟩:∃W,(W2.setCell ⟨g,c,none⟩ (.int .u32 (tv (xp+xq)))).drew=W:=⟨_,rfl⟩
   have I3:Hid (L3.length=16∧QAt W3 g L3∧TurnsAt W3 t∧Below g w W3):=by
    rw[←hL3,←hW3]
    exact⟨by rw[List.length_set];exact I2.out.1,(I2.out.2.1).set c _,I2.out.2.2.1.other (a:=⟨g,c,none⟩) hgt.out _,(I2.out.2.2.2.setCell (p:=⟨g,c,none⟩) (Nat.le_refl _) _).drew⟩
   rw[hW3]
   clear cp fp cq hW3 hL3 
   obtain⟨xp,hxp⟩:∃x,L3.getD b 0=x:=⟨_,rfl⟩
   obtain⟨xq,hxq⟩:∃x,L3.getD c 0=x:=⟨_,rfl⟩
   obtain⟨cp,fp⟩:=I3.out.2.1.at b (by rw[I3.out.1];omega)
   obtain⟨cq,-⟩:=I3.out.2.1.at c (by rw[I3.out.1];omega)
   rw[hxp] at cp
   rw[hxq] at cq
   obtain⟨L4,hL4⟩:∃Lx:List UInt32,L3.set b (lft (xp ^^^ xq) 7)=Lx:=⟨_,rfl⟩
   have E4:Hid (L4=L3.set b (lft (L3.getD b 0 ^^^ L3.getD c 0) 7)):=by show _=_;rw[hxp,hxq,hL4]
   have tt:=I3.out.2.2.1.2.2.2
   have RL:Hid (∀w,Calls Tryz.prog 159 #[.int .u32 (tv (xp ^^^ xq)),.int .i64 7] w fun e w'=>e = .returned (.int .u32 (tv (lft (xp ^^^ xq) 7)))∧∃m,w'=w.drewN m):=fun w=>rLeft_any (xp ^^^ xq) 7 (by decide) (by decide) w
   obtain⟨y,hy⟩:∃y,lft (xp ^^^ xq) 7=y:=⟨_,rfl⟩
   rw[hy] at RL hL4
   clear hxp hxq
   go_wp2
   refine (fun (KEY:∀m:Nat,(?KK48:Nat→Prop) m) => ?main48) ?key48
   case main48 =>
    go_region_with (go_at_call 159;refine Calls.mono (RL.out _) ?_;rintro e w3 ⟨rfl,m4,rfl⟩)
    all_goals exact KEY m4
   intro m4
   go_wp2
   obtain⟨W4,hW4⟩:∃W,(W3.drewN (1+m4)).setCell ⟨g,b,none⟩ (.int .u32 (tv y))=W:=⟨_,rfl⟩
   have I4:Hid (L4.length=16∧QAt W4 g L4∧TurnsAt W4 t∧Below g w W4):=by
    rw[←hL4,←hW4]
    exact⟨by rw[List.length_set];exact I3.out.1,QAt.set (w:=W3.drewN (1+m4)) (I3.out.2.1) b _,TurnsAt.other (w:=W3.drewN (1+m4)) I3.out.2.2.1 (a:=⟨g,b,none⟩) hgt.out _,Below.setCell (p:=⟨g,b,none⟩) (below_drewN I3.out.2.2.2 _) (Nat.le_refl _) _⟩
   rw[hW4]
   clear cp fp cq hW4 hL4 tt RL hy
   have NX:Hid (L4=hq 8 7 L a b c d):=by
    show _=_
    rw[E4.out,E3.out,E2.out,E1.out]
    rfl
   exact⟨⟨L4,.inr (.inr ⟨by go_num,by rw[NX.out,HL.out];rfl⟩),I4.out⟩,by simp[intOf]⟩
  ·have HL:Hid (L=qr l a b c d):=hL
   have IF:Hid (QAt wr g (qr l a b c d)∧Below g w wr):=by rw[←hL];exact⟨I.out.2.1,I.out.2.2.2⟩
   clear hL
   go_wp2
   refine bodyPost_end (results_none Tryz.results133 _ _ _) rfl ⟨rfl,IF.out⟩
end Go.Proofs.YtgnkkjknngblbaaGreatDoor
