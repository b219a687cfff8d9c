/- A part of the walk. -/
import Derived.Test.YtjcppbhgjchjaaaGreatDoorZr3G40
set_option maxHeartbeats 8000000
set_option maxRecDepth 20000
namespace Go.Proofs.YtjcppbhgjchjaaaGreatDoor
open Go.RowKit Go.Proofs.Fd Go.Proofs.Hs Go.Proofs.Cc Go.Proofs.Hd Go.Proofs.Rt Go.Proofs.Wd
theorem zok {w:Wo} {a:Option Addr} {L:List Cm} (h:zjt w a L) (i:Nat) (hi:i < L.length):∃b o,a=some ⟨b,o,none⟩/\∀w',Bw w w'->w'.cell? ⟨b,o+i*4,none⟩=some (.int .i64 L[i].n)/\w'.cell? ⟨b,o+i*4+1,none⟩=some (.int .i64 L[i].g)/\w'.cell? ⟨b,o+i*4+2,none⟩=some (.bool L[i].cr)/\w'.cell? ⟨b,o+i*4+3,none⟩=some (.slice L[i].pa L[i].pn L[i].pc):=by
 obtain⟨b,o,e,h0,h1,h2,h3⟩:=h i hi;exact⟨b,o,e,fun w' hb=>⟨cell_later hb h0,cell_later hb h1,cell_later hb h2,cell_later hb h3⟩⟩
def loF (d:Int):Int:=if d≠0 then -1 else d
def goF (a b d:Int):Int:=if a < d/\d<=b then -1 else d
theorem zlJ (l:List Int) (h:l.length=10):prt loF 10 l=zdQ l:=by
 rw[<-h,zjr];rfl
theorem zlK (a b:Int) (l:List Int) (h:l.length=10):prt (goF a b) 10 l=zeI a b l:=by
 rw[<-h,zjr];rfl
theorem zgy (f:Int->Int) (l:List Int):prt f 0 l=l:=by unfold prt;simp
theorem zlL (a b:Int) (l:List Int) (j:Nat) (hj:j < l.length):zeJ a b (l.take (j+1))=zeJ a b (l.take j)+if a < l[j]/\l[j]<=b then 1 else 0:=by
 unfold zeJ;rw[List.take_succ_eq_append_getElem hj,List.filter_append,List.length_append,List.filter_cons,List.filter_nil];by_cases h:a < l[j]/\l[j]<=b
 ·rw[if_pos (decide_eq_true h),if_pos h];rfl
 ·rw[if_neg (by simpa using h),if_neg h];rfl
theorem zp5 (a b:Int) (l:List Int) (j:Nat):zeJ a b (l.take j)<=j:=by
 unfold zeJ;have:=List.length_filter_le (fun d=>decide (a < d/\d<=b)) (l.take j);have h2:=List.length_take_le j l;omega
theorem zeL (CM:Hid zjf) (CL:Hid zc0) (a:Option Addr) (L:List Cm) (n c:Nat) (hn:Hid (L.length=n)) (w:Wo) (K:Hid (Kh w)) (hc:Hid (zjt w a L)) (hL:Hid (∀x∈L,x.L w)) :
  Cl 5 #[.slice a n c] w fun e w'=>e = .returned (.bool true)/\Below w.heap.size w w':=by
 obtain⟨key,hkey⟩:∃k,pv zap 0=k:=⟨_,rfl⟩;have ND:Hid _:=zp1 (w:=w) (W:=w) (bQ _ _) 60 (by decide) (by decide);have WK:Hid (∀w,Kh w->Cl 8 #[] w fun e w'=>e = .returned (.bool true)/\Below w.heap.size w w'):=fun w h=>zfz CM CL w h
 have PV:Hid (∀w,Kh w->Cl 13 #[.int .i64 0] w fun e w'=>e = .returned (.string key)/\Below w.heap.size w w'):=fun w h=>by rw[<-hkey];exact zaZ 0 (by decide) w h
 have MK:Hid (∀(i:Nat) w,i < 10->Kh w->Cl 25 #[.int .i64 (i:Int),.int .i64 (i:Int)] w fun e w'=>e = .returned (.string (zeG i i))/\Below w.heap.size w w'):=fun i w hi h=>zc1 CM i i (by omega) w h
 have NW:Hid (∀p lab W,Do w p (Go.Proofs.Dk.St.init 60) lab W->Cl 18 #[.string key,.pointer (some ⟨p,0,none⟩),.int .i64 50] W fun e w'=>∃m,e = .returned (.tuple #[.pointer (some ⟨m,0,none⟩),.int .i64 0])/\Hid (∃nd lab',Oq 0 0 (List.replicate 10 0) nd/\No w p m (pv zap 0) nd lab' w')):=fun p lab W h=>by
  rw[<-hkey];exact (zog (pv zap 0) 50 (by decide) (by decide) K h (zgr (pv zap 0) (zbe _ _) 50 60 (by decide) (by decide) (by decide))).mono fun e w' ⟨m,he,lab',h,_⟩=>⟨m,he,_,lab',Oq.begin,h⟩
 have NC:Hid (∀p Q i cs due W,Oc w p Q i cs due W->Cl 18 #[.string key,.pointer (some ⟨p,0,none⟩),.int .i64 50] W fun e w'=>∃m,e = .returned (.tuple #[.pointer (some ⟨m,0,none⟩),.int .i64 0])/\Oo w p m Q i 0 cs (zdQ due) w'):=fun p Q i cs due W h=>by
  rw[<-hkey];exact zrZ K h
 clear hkey;go_enter Tryz.func5, Tryz.ntmps5;go_wp2_with fail;refine cM ND.out ?_;rintro e w1 ⟨p,rfl,d1,hb1⟩;have D1:Hid (Do w p (Go.Proofs.Dk.St.init 60) (relab (fun _=>9) w.heap.size 0) w1):=d1;clear d1 hb1 ND;go_wp2_with fail;refine cM (WK.out _ (K.out.later D1.out.below)) ?_;rintro e w2 ⟨rfl,hb2⟩;have D2:Hid (Do w p (Go.Proofs.Dk.St.init 60) (relab (fun _=>9) w.heap.size 0) w2):=D1.out.later hb2;clear hb2 WK D1;go_wp2_with fail;refine cM (PV.out _ (K.out.later D2.out.below)) ?_;rintro e w4 ⟨rfl,hb⟩;have D4:Hid (Do w p (Go.Proofs.Dk.St.init 60) (relab (fun _=>9) w.heap.size 0) w4):=D2.out.later hb;clear hb D2;go_wp2_with fail;refine cM (NW.out _ _ _ D4.out) ?_;rintro e w5 ⟨m,rfl,N5⟩;clear NW D4;go_wp2;obtain⟨Q,hQ⟩:∃Q,w5.heap.size=Q:=⟨_,rfl⟩;rw[hQ];go_loopw [5,6,8] (fun mv nv iv wq=>∃(k nw mm:Nat) (due:List Int),k<=n/\k<=20/\mv = .pointer (some ⟨mm,0,none⟩)/\nv = .int .i64 (nw:Int)/\iv = .int .i64 (k:Int)/\Hid (nw<=12*k/\Oo w p mm Q k nw due due wq)) (fun _ _ iv _=>20 - (intOf iv).toNat)
 case atStart =>
  obtain⟨nd,lab,h0,h1⟩:=N5.out;refine⟨0,0,m,List.replicate 10 0,Nat.zero_le _,Nat.zero_le _,rfl,rfl,rfl,nL _,?_⟩;rw[<-hQ];exact zlI h0 h1 _
 case round =>
  obtain⟨k,nw,mm,due,hk,hk20,rfl,rfl,rfl,I⟩:=hrel;clear N5 hQ;by_cases hlt:k < n
  ·have g1:(k:Int) < (n:Int):=by omega
   by_cases h20:k < 20
   ·have g2:(k:Int) < 20:=by omega
    have hk':k < L.length:=by rw[hn.out];exact hlt
    obtain⟨b,o,rfl,cc⟩:=zok hc.out k hk';have hx0:=hL.out _ (List.getElem_mem hk');obtain⟨x,hx⟩:∃y,L[k]=y:=⟨_,rfl⟩;rw[hx] at cc hx0;obtain⟨xn,xg,xcr,xpa,xpn,xpc,xps⟩:=x;have CC:Hid (∀w',Below w.heap.size w w'->w'.cell? ⟨b,o+k*4,none⟩=some (.int .i64 xn)/\w'.cell? ⟨b,o+k*4+1,none⟩=some (.int .i64 xg)/\w'.cell? ⟨b,o+k*4+2,none⟩=some (.bool xcr)/\w'.cell? ⟨b,o+k*4+3,none⟩=some (.slice xpa xpn xpc)):=cc;have HX:Hid (Sto.IntAt w xpa xps/\xps.length=xpn):=⟨hx0.at_,hx0.len⟩;clear cc hx hx0 hk';obtain⟨c0,c1,c2,c3⟩:=CC.out wr I.out.2.below;have g0:k < n:=hlt;go_upto_if 56 with fail
    go_cut [5,6] (fun s5 s6 wx=>∃(m2 n2:Nat) (du2:List Int),s5 = .pointer (some ⟨m2,0,none⟩)/\s6 = .int .i64 (n2:Int)/\Hid (n2<=12*k/\Oo w p m2 Q k n2 du2 du2 wx))
    case first =>
     cases xcr with
     | false =>
      go_wp2;go_meet
      case rel=>exact⟨mm,nw,due,rfl,rfl,I.out⟩
     | true =>
      have HD:Hid (due.length=10):=I.out.2.len;have CR:Hid _:=zoj xpa xpn xpc xps HX.out.2 HX.out.1 hk20 (by rw[HD.out];decide) I.out.2;go_wp2_with fail;refine cM CR.out ?_;rintro e w6 ⟨rfl,h6⟩;have J6:Hid (Oc w p Q k due due w6):=h6;clear h6 CR I c0 c1 c2 c3;go_wp2_with fail;refine cM (PV.out _ (K.out.later J6.out.below)) ?_;rintro e w7 ⟨rfl,hb⟩;have J7:Hid (Oc w p Q k due due w7):=J6.out.later hb;clear hb J6;go_wp2_with fail;refine cM (NC.out _ _ _ _ _ _ J7.out) ?_;rintro e w8 ⟨m',rfl,h8⟩;have J8:Hid (Oo w p m' Q k 0 due (zdQ due) w8):=h8;clear h8 J7;go_wp2;go_loopw [76] (fun iv wq=>∃(j:Nat),j<=10/\iv = .int .i64 (j:Int)/\Hid (Oo w p m' Q k 0 (prt loF j due) (zdQ due) wq)) (fun iv _=>10 - (intOf iv).toNat)
      case atStart =>
       refine⟨0,Nat.zero_le _,rfl,?_⟩;show Oo w p m' Q k 0 (prt loF 0 due) (zdQ due) w8
       rw[zgy];exact J8.out
      case round =>
       obtain⟨j,hj,rfl,I⟩:=hrel;clear J8;by_cases hj10:j < 10
       ·have g3:(j:Int) < 10:=by omega
        have hjl:j < due.length:=by rw[HD.out];exact hj10
        obtain⟨cj,fj⟩:=I.out.cell j (by rw[zdO];exact hjl);rw[zjs loF j due hjl] at cj;by_cases hv:due[j]=0
        ·have E:Hid (prt loF (j+1) due=prt loF j due):=zgx loF j due hjl (by rw[hv];rfl)
         rw[hv] at cj;clear hv hjl;go_wp2;go_roundw
         case rel =>
          refine⟨j+1,by omega,by go_num,?_⟩;show Oo w p m' Q k 0 (prt loF (j+1) due) (zdQ due) wr
          rw[E.out];exact I.out
         case measure=>simp[intOf];omega
        ·have S7:Hid (Oo w p m' Q k 0 (prt loF (j+1) due) (zdQ due) (wr.setCell ⟨Q,j,none⟩ (.int .i64 (-1)))):=by
          have h:=I.out.set j (-1);have e:loF due[j] = -1:=if_pos hv;have e2:=zfA loF j due hjl;rw[e] at e2;rw[e2] at h;exact h
         obtain⟨v,hv2⟩:∃v,due[j]=v:=⟨_,rfl⟩;rw[hv2] at cj hv;clear hv2 hjl I;go_wp2;go_roundw
         case rel=>exact⟨j+1,by omega,by go_num,S7.out⟩
         case measure=>simp[intOf];omega
       ·have g3:¬(j:Int) < 10:=by omega
        have ej:j=10:=by omega
        subst ej;have J9:Hid (0<=12*k/\Oo w p m' Q k 0 (zdQ due) (zdQ due) wr):=⟨Nat.zero_le _,by
         have h:=I.out;rw[zlJ due HD.out] at h;exact h⟩
        clear I;go_wp2;go_meet
        case rel=>exact⟨m',0,zdQ due,rfl,rfl,J9.out⟩
    case rest =>
     obtain⟨m2,n2,du2,rfl,rfl,I2⟩:=hcut;clear I c0 c1 c2 c3 NC PV HX;obtain⟨r,hr,AG⟩:=zeH xg 12 (by decide) (by decide);obtain⟨q,hq,AN⟩:=zeH xn 10 (by decide) (by decide);obtain⟨T,hT⟩:∃T,n2+r=T:=⟨_,rfl⟩;have HB:Hid (n2<=12*k/\T<=12*(k+1)/\n2<=T/\T<=1000/\du2.length=10):=⟨I2.out.1,by have:=I2.out.1;omega,by omega,by have:=I2.out.1;omega,I2.out.2.len⟩;have z1:IntKind.i64.wrap ((n2:Int)+(r:Int))=(T:Int):=by have:=HB.out;rw[IntKind.wrap_i64];omega
     have z1':wrap64 ((n2:Int)+(r:Int))=(T:Int):=by have:=HB.out;unfold wrap64;omega
     have HG:Hid (∀w,Cl 22 #[.int .i64 xg,.int .i64 12] w fun e w'=>e = .returned (.int .i64 (r:Int))/\w'=w):=AG;have HN:Hid (∀w,Cl 22 #[.int .i64 xn,.int .i64 10] w fun e w'=>e = .returned (.int .i64 (q:Int))/\w'=w):=AN;clear AG AN hT hr;obtain⟨c0,c1,c2,c3⟩:=CC.out wc I2.out.2.below;clear c0 c2 c3;go_wp2_with fail;refine cM (HG.out _) ?_;rintro e w6 ⟨rfl,hb⟩;subst hb;have TI:Hid _:=zp2 T HB.out.2.2.1 (by have:=HB.out;omega) hk20 (by rw[HB.out.2.2.2.2];decide) I2.out.2;clear HG c1;go_wp2_with fail;refine cM TI.out ?_;rintro e w7 ⟨da,dc,rfl,h7⟩;have J7:Hid (Oo w p m2 Q k T du2 (zeI (n2:Int) (T:Int) du2) w7):=h7;clear h7 TI I2 z1 z1';go_wp2;obtain⟨wo,rfl⟩:∃V,V=wr:=⟨_,rfl⟩;go_loopw [13,100] (fun wv iv wq=>∃(j C:Nat),j<=10/\wv = .int .i64 (C:Int)/\iv = .int .i64 (j:Int)/\Hid (C=zeJ (n2:Int) (T:Int) (du2.take j)/\Oo w p m2 Q k T (prt (goF (n2:Int) (T:Int)) j du2) (zeI (n2:Int) (T:Int) du2) wq)) (fun _ iv _=>10 - (intOf iv).toNat)
     case atStart =>
      refine⟨0,0,Nat.zero_le _,rfl,rfl,rfl,?_⟩;rw[zgy];exact J7.out
     case round =>
      obtain⟨j,C,hj,rfl,rfl,I⟩:=hrel;clear J7;by_cases hj10:j < 10
      ·have g3:(j:Int) < 10:=by omega
       have hjl:j < du2.length:=by rw[HB.out.2.2.2.2];exact hj10
       obtain⟨cj,fj⟩:=I.out.2.cell j (by rw[zdO];exact hjl);rw[zjs _ j du2 hjl] at cj;have hC:C<=10:=by rw[I.out.1];exact Nat.le_trans (zp5 _ _ _ _) hj
       have z1:IntKind.i64.wrap ((C:Int)+1)=((C+1:Nat):Int):=by rw[IntKind.wrap_i64];omega
       have z1':wrap64 ((C:Int)+1)=((C+1:Nat):Int):=by unfold wrap64;omega
       have SA:Hid (∀x:Int,goF (n2:Int) (T:Int) du2[j]=x->Oo w p m2 Q k T (prt (goF (n2:Int) (T:Int)) (j+1) du2) (zeI (n2:Int) (T:Int) du2) (wr.setCell ⟨Q,j,none⟩ (.int .i64 x))):=fun x hx=>by
        have h:=I.out.2.set j x;have e2:=zfA (goF (n2:Int) (T:Int)) j du2 hjl;rw[hx] at e2;rw[e2] at h;exact h
       have SB:Hid (goF (n2:Int) (T:Int) du2[j]=du2[j]->Oo w p m2 Q k T (prt (goF (n2:Int) (T:Int)) (j+1) du2) (zeI (n2:Int) (T:Int) du2) wr):=fun hx=>by
        rw[zgx _ j du2 hjl hx];exact I.out.2
       have SC:Hid (zeJ (n2:Int) (T:Int) (du2.take (j+1))=C+if (n2:Int) < du2[j]/\du2[j]<=(T:Int) then 1 else 0):=by
        show zeJ (n2:Int) (T:Int) (du2.take (j+1))=_;rw[zlL _ _ du2 j hjl,<-I.out.1]
       obtain⟨v,hv⟩:∃v,du2[j]=v:=⟨_,rfl⟩;rw[hv] at cj SA SB SC;clear hv hjl hC I;by_cases h1:(n2:Int) < v
       ·by_cases h2:v<=(T:Int)
        ·have S7:Hid (C+1=zeJ (n2:Int) (T:Int) (du2.take (j+1))/\Oo w p m2 Q k T (prt (goF (n2:Int) (T:Int)) (j+1) du2) (zeI (n2:Int) (T:Int) du2) (wr.setCell ⟨Q,j,none⟩ (.int .i64 (-1)))):=⟨by have:=SC.out;rw[if_pos ⟨h1,h2⟩] at this;exact this.symm,SA.out (-1) (if_pos ⟨h1,h2⟩)⟩
         clear SA SB SC;go_wp2;go_roundw
         case rel=>exact⟨j+1,C+1,by omega,rfl,by go_num,S7.out⟩
         case measure=>simp[intOf];omega
        ·have S7:Hid (C=zeJ (n2:Int) (T:Int) (du2.take (j+1))/\Oo w p m2 Q k T (prt (goF (n2:Int) (T:Int)) (j+1) du2) (zeI (n2:Int) (T:Int) du2) wr):=⟨by have:=SC.out;rw[if_neg (fun c=>h2 c.2)] at this;exact this.symm,SB.out (if_neg (fun c=>h2 c.2))⟩
         clear SA SB SC z1 z1';go_wp2;go_roundw
         case rel=>exact⟨j+1,C,by omega,rfl,by go_num,S7.out⟩
         case measure=>simp[intOf];omega
       ·have S7:Hid (C=zeJ (n2:Int) (T:Int) (du2.take (j+1))/\Oo w p m2 Q k T (prt (goF (n2:Int) (T:Int)) (j+1) du2) (zeI (n2:Int) (T:Int) du2) wr):=⟨by have:=SC.out;rw[if_neg (fun c=>h1 c.1)] at this;exact this.symm,SB.out (if_neg (fun c=>h1 c.1))⟩
        clear SA SB SC z1 z1';go_wp2;go_roundw
        case rel=>exact⟨j+1,C,by omega,rfl,by go_num,S7.out⟩
        case measure=>simp[intOf];omega
      ·have g3:¬(j:Int) < 10:=by omega
       have ej:j=10:=by omega
       subst ej;obtain⟨C2,hC2⟩:∃C2,zeJ (n2:Int) (T:Int) du2=C2:=⟨_,rfl⟩;have eC:C=C2:=by
        have:=I.out.1;rw[List.take_of_length_le (by rw[HB.out.2.2.2.2];exact nL _),hC2] at this;exact this
       subst eC;rw[hC2];obtain⟨du3,hd3⟩:∃d,zeI (n2:Int) (T:Int) du2=d:=⟨_,rfl⟩;have J8:Hid (Oo w p m2 Q k T du3 du3 wr):=by
        have h:=I.out.2;rw[zlK _ _ du2 HB.out.2.2.2.2,hd3] at h;exact h
       have L3:Hid (du3.length=10):=J8.out.len;clear I hC2 hd3;obtain⟨c0,c1,c2,c3⟩:=CC.out wr J8.out.below;clear c1 c2 c3;go_wp2_with fail;refine cM (HN.out _) ?_;rintro e w8 ⟨rfl,hb⟩;subst hb;clear HN c0;go_wp2_with fail;refine cM (MK.out q _ hq (K.out.later J8.out.below)) ?_;rintro e w9 ⟨rfl,hb⟩;have J9:Hid (Oo w p m2 Q k T du3 du3 w9):=J8.out.later hb;clear hb J8;have hql:q < du3.length:=by rw[L3.out];exact hq
       have eg:du3.getD q 0=du3[q]:=by rw[List.getD_eq_getElem?_getD,List.getElem?_eq_getElem hql];rfl
       have g4:(q:Int) < 10:=by omega
       have z1:IntKind.i64.wrap ((T:Int)+1)=(T:Int)+1:=by have:=HB.out;rw[IntKind.wrap_i64];omega
       have z1':wrap64 ((T:Int)+1)=(T:Int)+1:=by have:=HB.out;unfold wrap64;omega
       have z2:IntKind.i64.wrap ((T:Int)+1+(q:Int))=(T:Int)+1+(q:Int):=by have:=HB.out;rw[IntKind.wrap_i64];omega
       have z2':wrap64 ((T:Int)+1+(q:Int))=(T:Int)+1+(q:Int):=by have:=HB.out;unfold wrap64;omega
       by_cases hd:du3.getD q 0=0
       ·have TK:Hid _:=zp3 CL K h20 q hq hd (by rw[L3.out];decide) J9.out
        rw[eg] at hd;go_wp2_with fail;refine cM TK.out ?_;rintro e w10 ⟨rfl,h10⟩;obtain⟨cq,fq⟩:=h10.cell q hql;rw[hd] at cq;have J10:Hid (T<=12*(k+1)/\Oo w p m2 Q (k+1) T (du3.set q ((T:Int)+1+(q:Int))) (du3.set q ((T:Int)+1+(q:Int))) (w10.setCell ⟨Q,q,none⟩ (.int .i64 ((T:Int)+1+(q:Int))))):=⟨HB.out.2.1,h10.set q _⟩;clear h10 TK J9 hd eg hql;go_wp2;go_roundw
        case rel=>exact⟨k+1,T,m2,_,by omega,by omega,rfl,rfl,by go_num,J10.out⟩
        case measure=>simp[intOf];omega
       ·have TK:Hid _:=zp4 CL K h20 q hq hd (by rw[L3.out];decide) J9.out
        rw[eg] at hd;go_wp2_with fail;refine cM TK.out ?_;rintro e w10 ⟨rfl,h10⟩;obtain⟨cq,fq⟩:=h10.cell q hql;have J10:Hid (T<=12*(k+1)/\Oo w p m2 Q (k+1) T du3 du3 w10):=⟨HB.out.2.1,h10⟩;obtain⟨v,hv⟩:∃v,du3[q]=v:=⟨_,rfl⟩;rw[hv] at cq hd;clear h10 TK J9 eg hql hv z1 z1' z2 z2';go_wp2;go_roundw
        case rel=>exact⟨k+1,T,m2,du3,by omega,by omega,rfl,rfl,by go_num,J10.out⟩
        case measure=>simp[intOf];omega
   ·have g2:¬(k:Int) < 20:=by omega
    go_wp2;go_ret;exact⟨rfl,I.out.2.below⟩
  ·have g1:¬(k:Int) < (n:Int):=by omega
   go_wp2;go_ret;exact⟨rfl,I.out.2.below⟩
end Go.Proofs.YtjcppbhgjchjaaaGreatDoor
namespace Go.Proofs.YtjcppbhgjchjaaaGreatDoor
open Go.RowKit Go.Proofs.Fd Go.Proofs.Hs Go.Proofs.Cc Go.Proofs.Hd Go.Proofs.Rt
theorem Six.other {w:Wo} {g b o:Nat} {v:Value} {k0 k1 k2 k3 k4 k5:Ba} (h:Six w g k0 k1 k2 k3 k4 k5) (hne:b≠g):Six (w.setCell ⟨b,o,none⟩ v) g k0 k1 k2 k3 k4 k5:=by
 obtain⟨f,h0,h1,h2,h3,h4,h5⟩:=h;have e:∀j,(w.setCell ⟨b,o,none⟩ v).cell? ⟨g,j,none⟩=w.cell? ⟨g,j,none⟩:=fun j=>by simp[go_sem]
 have e2:∀j,(w.setCell ⟨b,o,none⟩ v).frozen? ⟨g,j,none⟩=w.frozen? ⟨g,j,none⟩:=fun j=>by simp[go_sem]
 exact⟨fun j=>by rw[e2,f],by rw[e,h0],by rw[e,h1],by rw[e,h2],by rw[e,h3],by rw[e,h4],by rw[e,h5]⟩
theorem zxe (tmps:Array Value) (w:Wo) (b:Nat) (x:Array Value) (h0:tmps.getD 2 undef = .pointer (some ⟨b,0,none⟩))
  (l1:(loadVar 208 ⟨b,0,none⟩).run Tryz.prog w = .ok (.agg x) w) :
  (results Tryz.f179 tmps).run Tryz.prog w = .ok (.agg x) w:=by
 unfold results;rw[Tryz.results179];have h0':tmps[2]?.getD undef = .pointer (some ⟨b,0,none⟩):=by simpa using h0
 simp[h0',l1,asAddr]
theorem ztb (s:Ba) (hs:Hid (s.size+64<=140737488355328)) (w:Wo) (hK:Hid (Kh w)) :
  Cl 179 #[.string s] w fun e w'=>e = .returned (hk6 s)/\Bw w w':=by
 have D1:Hid (∀w,Kh w->Cl 257 #[.agg #[.string s],.string ⟨#[102,108,111,119]⟩,.int .i64 32] w fun e w'=>e = .returned (.string (hdk s zo9 32))/\Bw w w'):=fun w h=>zsj s zo9 32 (by decide) (by decide) hs w h
 have D2:Hid (∀w,Kh w->Cl 257 #[.agg #[.string s],.string ⟨#[109,97,99]⟩,.int .i64 32] w fun e w'=>e = .returned (.string (hdk s zr8 32))/\Bw w w'):=fun w h=>zsj s zr8 32 (by decide) (by decide) hs w h
 have D3:Hid (∀w,Kh w->Cl 257 #[.agg #[.string s],.string ⟨#[98,111,100,121]⟩,.int .i64 32] w fun e w'=>e = .returned (.string (hdk s zpa 32))/\Bw w w'):=fun w h=>zsj s zpa 32 (by decide) (by decide) hs w h
 have D4:Hid (∀w,Kh w->Cl 257 #[.agg #[.string s],.string ⟨#[98,108,105,110,100]⟩,.int .i64 32] w fun e w'=>e = .returned (.string (bld s))/\Bw w w'):=fun w h=>zsj s zif 32 (by decide) (by decide) hs w h
 have D5:Hid (∀w,Kh w->Cl 257 #[.agg #[.string s],.string ⟨#[116,97,103]⟩,.int .i64 16] w fun e w'=>e = .returned (.string (hdk s zqe 16))/\Bw w w'):=fun w h=>zsj s zqe 16 (by decide) (by decide) hs w h
 unfold hk6;generalize hdk s zo9 32=k1 at *;generalize hdk s zr8 32=k2 at *;generalize hdk s zpa 32=k3 at *;generalize bld s=k4 at *;generalize hdk s zqe 16=k5 at *;clear hs;have h0:w.heap.size≠w.heap.size+1:=by omega
 go_enter Tryz.func179, Tryz.ntmps179;go_wp2_with fail;obtain⟨W0,hW0⟩:∃W,(w.alloc (.cells #[.string ⟨#[]⟩,.string ⟨#[]⟩,.string ⟨#[]⟩,.string ⟨#[]⟩,.string ⟨#[]⟩,.string ⟨#[]⟩] 208)).alloc (.cells #[.string s,.string ⟨#[]⟩,.string ⟨#[]⟩,.string ⟨#[]⟩,.string ⟨#[]⟩,.string ⟨#[]⟩] 208)=W:=⟨_,rfl⟩;have S0:Hid (Six W0 (w.heap.size+1) s ⟨#[]⟩ ⟨#[]⟩ ⟨#[]⟩ ⟨#[]⟩ ⟨#[]⟩/\Six W0 w.heap.size ⟨#[]⟩ ⟨#[]⟩ ⟨#[]⟩ ⟨#[]⟩ ⟨#[]⟩ ⟨#[]⟩/\Bw w W0):=by
  rw[<-hW0];refine⟨?_,(Six.new _ _ _ _ _ _ _ _).later ((bQ _ _).alloc (nL _) _),((bQ _ _).alloc (nL _) _).alloc (by simp[go_sem]) _⟩;have:=Six.new (w.alloc (.cells #[.string ⟨#[]⟩,.string ⟨#[]⟩,.string ⟨#[]⟩,.string ⟨#[]⟩,.string ⟨#[]⟩,.string ⟨#[]⟩] 208)) 208 s ⟨#[]⟩ ⟨#[]⟩ ⟨#[]⟩ ⟨#[]⟩ ⟨#[]⟩
  simpa[go_sem] using this
 rw[hW0];clear hW0;refine cM (D1.out _ (hK.out.later S0.out.2.2)) ?_;rintro e v1 ⟨rfl,hb1⟩;have Q1:Hid (Six v1 (w.heap.size+1) s ⟨#[]⟩ ⟨#[]⟩ ⟨#[]⟩ ⟨#[]⟩ ⟨#[]⟩/\Six v1 w.heap.size ⟨#[]⟩ ⟨#[]⟩ ⟨#[]⟩ ⟨#[]⟩ ⟨#[]⟩ ⟨#[]⟩/\Bw w v1):=⟨S0.out.1.later hb1,S0.out.2.1.later hb1,chain S0.out.2.2 hb1⟩;clear hb1 S0 D1;obtain⟨fz,c0,c1,c2,c3,c4,c5⟩:=Q1.out.1;have f1:=fz 1;go_wp2_with fail;obtain⟨W1,hW1⟩:∃W,v1.setCell ⟨w.heap.size+1,1,none⟩ (.string k1)=W:=⟨_,rfl⟩;have S1:Hid (Six W1 (w.heap.size+1) s k1 ⟨#[]⟩ ⟨#[]⟩ ⟨#[]⟩ ⟨#[]⟩/\Six W1 w.heap.size ⟨#[]⟩ ⟨#[]⟩ ⟨#[]⟩ ⟨#[]⟩ ⟨#[]⟩ ⟨#[]⟩/\Bw w W1):=by
  rw[<-hW1];exact⟨Q1.out.1.set1 k1,Q1.out.2.1.other (Ne.symm h0),Q1.out.2.2.setCell (p:=⟨w.heap.size+1,1,none⟩) (by simp) _⟩
 rw[hW1];clear hW1 Q1 fz c0 c1 c2 c3 c4 c5 f1;refine cM (D2.out _ (hK.out.later S1.out.2.2)) ?_;rintro e v2 ⟨rfl,hb2⟩;have Q2:Hid (Six v2 (w.heap.size+1) s k1 ⟨#[]⟩ ⟨#[]⟩ ⟨#[]⟩ ⟨#[]⟩/\Six v2 w.heap.size ⟨#[]⟩ ⟨#[]⟩ ⟨#[]⟩ ⟨#[]⟩ ⟨#[]⟩ ⟨#[]⟩/\Bw w v2):=⟨S1.out.1.later hb2,S1.out.2.1.later hb2,chain S1.out.2.2 hb2⟩;clear hb2 S1 D2;obtain⟨fz,c0,c1,c2,c3,c4,c5⟩:=Q2.out.1;have f2:=fz 2;go_wp2_with fail;obtain⟨W2,hW2⟩:∃W,v2.setCell ⟨w.heap.size+1,2,none⟩ (.string k2)=W:=⟨_,rfl⟩;have S2:Hid (Six W2 (w.heap.size+1) s k1 k2 ⟨#[]⟩ ⟨#[]⟩ ⟨#[]⟩/\Six W2 w.heap.size ⟨#[]⟩ ⟨#[]⟩ ⟨#[]⟩ ⟨#[]⟩ ⟨#[]⟩ ⟨#[]⟩/\Bw w W2):=by
  rw[<-hW2];exact⟨Q2.out.1.set2 k2,Q2.out.2.1.other (Ne.symm h0),Q2.out.2.2.setCell (p:=⟨w.heap.size+1,2,none⟩) (by simp) _⟩
 rw[hW2];clear hW2 Q2 fz c0 c1 c2 c3 c4 c5 f2;refine cM (D3.out _ (hK.out.later S2.out.2.2)) ?_;rintro e v3 ⟨rfl,hb3⟩;have Q3:Hid (Six v3 (w.heap.size+1) s k1 k2 ⟨#[]⟩ ⟨#[]⟩ ⟨#[]⟩/\Six v3 w.heap.size ⟨#[]⟩ ⟨#[]⟩ ⟨#[]⟩ ⟨#[]⟩ ⟨#[]⟩ ⟨#[]⟩/\Bw w v3):=⟨S2.out.1.later hb3,S2.out.2.1.later hb3,chain S2.out.2.2 hb3⟩;clear hb3 S2 D3;obtain⟨fz,c0,c1,c2,c3,c4,c5⟩:=Q3.out.1;have f3:=fz 3;go_wp2_with fail;obtain⟨W3,hW3⟩:∃W,v3.setCell ⟨w.heap.size+1,3,none⟩ (.string k3)=W:=⟨_,rfl⟩;have S3:Hid (Six W3 (w.heap.size+1) s k1 k2 k3 ⟨#[]⟩ ⟨#[]⟩/\Six W3 w.heap.size ⟨#[]⟩ ⟨#[]⟩ ⟨#[]⟩ ⟨#[]⟩ ⟨#[]⟩ ⟨#[]⟩/\Bw w W3):=by
  rw[<-hW3];exact⟨Q3.out.1.set3 k3,Q3.out.2.1.other (Ne.symm h0),Q3.out.2.2.setCell (p:=⟨w.heap.size+1,3,none⟩) (by simp) _⟩
 rw[hW3];clear hW3 Q3 fz c0 c1 c2 c3 c4 c5 f3;refine cM (D4.out _ (hK.out.later S3.out.2.2)) ?_;rintro e v4 ⟨rfl,hb4⟩;have Q4:Hid (Six v4 (w.heap.size+1) s k1 k2 k3 ⟨#[]⟩ ⟨#[]⟩/\Six v4 w.heap.size ⟨#[]⟩ ⟨#[]⟩ ⟨#[]⟩ ⟨#[]⟩ ⟨#[]⟩ ⟨#[]⟩/\Bw w v4):=⟨S3.out.1.later hb4,S3.out.2.1.later hb4,chain S3.out.2.2 hb4⟩;clear hb4 S3 D4;obtain⟨fz,c0,c1,c2,c3,c4,c5⟩:=Q4.out.1;have f4:=fz 4;go_wp2_with fail;obtain⟨W4,hW4⟩:∃W,v4.setCell ⟨w.heap.size+1,4,none⟩ (.string k4)=W:=⟨_,rfl⟩;have S4:Hid (Six W4 (w.heap.size+1) s k1 k2 k3 k4 ⟨#[]⟩/\Six W4 w.heap.size ⟨#[]⟩ ⟨#[]⟩ ⟨#[]⟩ ⟨#[]⟩ ⟨#[]⟩ ⟨#[]⟩/\Bw w W4):=by
  rw[<-hW4];exact⟨Q4.out.1.set4 k4,Q4.out.2.1.other (Ne.symm h0),Q4.out.2.2.setCell (p:=⟨w.heap.size+1,4,none⟩) (by simp) _⟩
 rw[hW4];clear hW4 Q4 fz c0 c1 c2 c3 c4 c5 f4;refine cM (D5.out _ (hK.out.later S4.out.2.2)) ?_;rintro e v5 ⟨rfl,hb5⟩;have Q5:Hid (Six v5 (w.heap.size+1) s k1 k2 k3 k4 ⟨#[]⟩/\Six v5 w.heap.size ⟨#[]⟩ ⟨#[]⟩ ⟨#[]⟩ ⟨#[]⟩ ⟨#[]⟩ ⟨#[]⟩/\Bw w v5):=⟨S4.out.1.later hb5,S4.out.2.1.later hb5,chain S4.out.2.2 hb5⟩;clear hb5 S4 D5;obtain⟨fz,c0,c1,c2,c3,c4,c5⟩:=Q5.out.1;have f5:=fz 5;obtain⟨gz,d0,d1,d2,d3,d4,d5⟩:=Q5.out.2.1;have e0:=gz 0;have e1:=gz 1;have e2:=gz 2;have e3:=gz 3;have e4:=gz 4;have e5:=gz 5;have FF:Hid (_/\_):=And.intro (Six.whole (Six.other (o:=5) (v := .string k5) Q5.out.2.1 (Ne.symm h0)) s k1 k2 k3 k4 k5) (zts (Q5.out.2.2.setCell (p:=⟨w.heap.size+1,5,none⟩) (by simp) (.string k5)) (nL w.heap.size) (.string s) (.string k1) (.string k2) (.string k3) (.string k4) (.string k5));clear fz gz Q5;go_wp2;refine bodyPost_ret (v := .agg #[.string s,.string k1,.string k2,.string k3,.string k4,.string k5]) ?_ rfl ⟨rfl,FF.out.2⟩;exact zxe _ _ w.heap.size _ (by kernel_rfl) (run_loadVar_mid _ w.heap.size 0 208 [.string s,.string k1,.string k2,.string k3,.string k4,.string k5] _ (Six.range FF.out.1) Tryz.underlying208 rfl (by kernel_rfl))
def zvg (s:Ba):List Value:=[.string s,.string (hdk s zo9 32),.string (hdk s zr8 32),.string (hdk s zpa 32),.string (bld s),.string (hdk s zqe 16)]
def zse (l:List Ba):List Value:=l.flatMap zvg
theorem zs3 (s:Ba) (l:List Ba):zse (s::l) = .string s :: .string (hdk s zo9 32) :: .string (hdk s zr8 32) :: .string (hdk s zpa 32) :: .string (bld s) :: .string (hdk s zqe 16)::zse l:=by
 unfold zse;rw[List.flatMap_cons];unfold zvg;rw[List.cons_append,List.cons_append,List.cons_append,List.cons_append,List.cons_append,List.cons_append,List.nil_append]
theorem ztS (l:List Ba) (s:Ba):zse (l++[s])=zse l++zvg s:=by
 unfold zse;rw[List.flatMap_append,List.flatMap_cons,List.flatMap_nil,List.append_nil]
theorem zur (l:List Ba):(zse l).length=l.length*6:=by
 induction l with
 | nil=>rfl
 | cons h l ih=>rw[zs3];simp only[List.length_cons,ih];omega
theorem zvh (l:List Ba) (i:Nat) (hi:i < l.length):(zse l)[i*6]?=some (.string (nth l i))/\(zse l)[i*6+1]?=some (.string (hdk (nth l i) zo9 32))/\(zse l)[i*6+2]?=some (.string (hdk (nth l i) zr8 32))/\(zse l)[i*6+3]?=some (.string (hdk (nth l i) zpa 32))/\(zse l)[i*6+4]?=some (.string (bld (nth l i)))/\(zse l)[i*6+5]?=some (.string (hdk (nth l i) zqe 16)):=by
 induction l generalizing i with
 | nil=>simp at hi
 | cons h l ih =>
  rw[zs3];cases i with
  | zero=>exact⟨by simp[nth],by simp[nth],by simp[nth],by simp[nth],by simp[nth],by simp[nth]⟩
  | succ i =>
   have:=ih i (by simpa using hi);have e:(i+1)*6=i*6+6:=by omega
   have e2:nth (h::l) (i+1)=nth l i:=by unfold nth;rw[List.getD_cons_succ]
   rw[e,e2]
   simpa using this
theorem zv4 {w:Wo} {base n:Nat} {v:Value} {l:List Ba} (h:w.ownsRow base 208 6 v n (zse l)):l.length=n/\((v = .slice none 0 0/\n=0)\/∃g cap,v = .slice (some ⟨g,0,none⟩) n cap/\zsQ w (some ⟨g,0,none⟩) l/\base<=g/\g < w.heap.size/\n<=cap/\cap<=maxLen):=by
 obtain⟨h1,h2⟩:=h;have hl:l.length=n:=by rw[zur] at h1;omega
 refine⟨hl,?_⟩;rcases h2 with h2|⟨g,cap,cur,rfl,hb,hh,hcap,hml,-,ht⟩
 ·exact .inl h2
 ·have hg:g < w.heap.size:=by obtain⟨q,-⟩:=Array.getElem?_eq_some_iff.1 hh;exact q
  refine .inr ⟨g,cap,rfl,fun i hi=>⟨g,0,rfl,?_⟩,hb,hg,hcap,hml⟩;have key:∀j,j < n*6->w.cell? ⟨g,0+j,none⟩=(zse l)[j]?:=fun j hj=>by
   have e:cur[j]?=(zse l)[j]?:=by
    rw[<-ht,List.getElem?_take_of_lt hj];simp
   rw[Nat.zero_add];unfold World.cell?;rw[hh];simp only[Option.isSome_none];show cur[j]?=_
   rw[e]
  obtain⟨g0,g1,g2,g3,g4,g5⟩:=zvh l i hi;refine⟨?_,?_,?_,?_,?_,?_⟩
  ·rw[key (i*6) (by omega)];exact g0
  ·rw[Nat.add_assoc,key (i*6+1) (by omega)];exact g1
  ·rw[Nat.add_assoc,key (i*6+2) (by omega)];exact g2
  ·rw[Nat.add_assoc,key (i*6+3) (by omega)];exact g3
  ·rw[Nat.add_assoc,key (i*6+4) (by omega)];exact g4
  ·rw[Nat.add_assoc,key (i*6+5) (by omega)];exact g5
theorem zxf:(Tryz.prog.info? 208).map (fun i=>(i.zero,i.size,i.bytes))=some (some (.agg #[.string ⟨#[]⟩,.string ⟨#[]⟩,.string ⟨#[]⟩,.string ⟨#[]⟩,.string ⟨#[]⟩,.string ⟨#[]⟩]),6,96):=by kernel_rfl
theorem zsl {w w':Wo} {base:Nat} {e:TypeId} {size:Nat} {v:Value} {n:Nat} {xs:List Value} (h:w.ownsRow base e size v n xs) (hb:Bw w w'):w'.ownsRow base e size v n xs:=by
 refine⟨h.1,?_⟩;rcases h.2 with hn|⟨g,cap,cur,rfl,hbg,hgg,rest⟩
 ·exact .inl hn
 ·refine .inr ⟨g,cap,cur,rfl,hbg,?_,rest⟩
  rw[hb.block g (Array.getElem?_eq_some_iff.1 hgg).1];exact hgg
theorem zss {w w':Wo} {base base2:Nat} {e e2:TypeId} {size size2:Nat} {v v2:Value} {n n2:Nat} {xs xs2:List Value} (h:w.ownsRow base e size v n xs) (h2:w.ownsRow base2 e2 size2 v2 n2 xs2) (hne:e≠e2) (hg:w.grownBy w' v2.ownBlock):w'.ownsRow base e size v n xs:=by
 refine⟨h.1,?_⟩;rcases h.2 with hn|⟨g,cap,cur,rfl,hbg,hgg,rest⟩
 ·exact .inl hn
 ·refine .inr ⟨g,cap,cur,rfl,hbg,?_,rest⟩
  have hl:=(Array.getElem?_eq_some_iff.1 hgg).1;rw[hg.block g hl ?_]
  ·exact hgg
  ·intro he
   rcases h2.2 with ⟨rfl,-⟩|⟨g2,cap2,cur2,rfl,-,hg2,-⟩
   ·cases he
   ·have:g2=g:=by simpa[Value.ownBlock] using he.symm
    subst this;rw[hgg] at hg2;injection hg2 with hg2
    injection hg2 with _ q
    exact hne q
theorem ztx {w w':Wo} {base2:Nat} {e e2:TypeId} {size2:Nat} {v2:Value} {n2:Nat} {xs2:List Value} {b:Nat} {cs:Array Value} (h:w.heap[b]?=some (.cells cs e)) (h2:w.ownsRow base2 e2 size2 v2 n2 xs2) (hne:e≠e2) (hg:w.grownBy w' v2.ownBlock):w'.heap[b]?=some (.cells cs e):=by
 have hl:=(Array.getElem?_eq_some_iff.1 h).1;rw[hg.block b hl ?_]
 ·exact h
 ·intro he
  rcases h2.2 with ⟨rfl,-⟩|⟨g2,cap2,cur2,rfl,-,hg2,-⟩
  ·cases he
  ·have:g2=b:=by simpa[Value.ownBlock] using he.symm
   subst this;rw[h] at hg2;injection hg2 with hg2
   injection hg2 with _ q
   exact hne q
theorem zsk {w:Wo} {b:Nat} {cs:Array Value} {e:TypeId} (h:w.heap[b]?=some (.cells cs e)):∀j u,cs.toList[j]?=some u->w.cell? (Addr.add ⟨b,0,none⟩ j)=some u:=fun j u hu=>by
 have q:Addr.add ⟨b,0,none⟩ j=⟨b,j,none⟩:=by first|(simp[Addr.add];done)|(simp[Addr.add];intro h;simp[h])
 rw[q];unfold World.cell?;rw[h];simp only[Option.isSome_none];show cs[j]?=_
 simpa using hu
theorem zv5 (w:Wo) (base:Nat) (e:TypeId) (size:Nat) (xs:List Value) (hb:base<=w.heap.size) (hl:xs.length=size):(w.alloc (.cells xs.toArray e)).ownsRow base e size (.slice (some ⟨w.heap.size,0,none⟩) 1 1) 1 xs:=by
 refine⟨by omega,.inr ⟨w.heap.size,1,xs.toArray,rfl,hb,?_,nL _,by unfold maxLen;omega,by simp[hl],by simp[<-hl]⟩⟩;show (w.heap.push _)[w.heap.size]?=_
 simp
theorem zty (seed p:Ba) (ps bs:List Ba):zpb seed (p::ps) bs=(Crv.chn (seed::bs) p).bind fun s=>(zpb seed ps (bs++[bld s])).map (s::·):=zcO _ _ _ _ _
theorem zv6 (seed:Ba) (bs:List Ba):zpb seed [] bs=some []:=zij _ _ _
def ztC (seed:Ba) (pts:List Ba) (k:Nat) (ss:List Ba):Prop:=ss.length=k/\zpb seed pts []=(zpb seed (pts.drop k) (ss.map bld)).map (ss++·)
theorem ztC.zero (seed:Ba) (pts:List Ba):ztC seed pts 0 []:=⟨rfl,by
 rw[List.drop_zero,List.map_nil];cases zpb seed pts [] <;> simp⟩
theorem ztC.none {seed:Ba} {pts:List Ba} {k:Nat} {ss:List Ba} (h:ztC seed pts k ss) (hk:k < pts.length) (hc:Crv.chn (seed::ss.map bld) pts[k]=none):zpb seed pts []=none:=by
 rw[h.2,List.drop_eq_getElem_cons hk,zty,hc,Option.bind_none,Option.map_none]
theorem ztC.succ {seed:Ba} {pts:List Ba} {k:Nat} {ss:List Ba} (h:ztC seed pts k ss) (hk:k < pts.length) (s:Ba) (hc:Crv.chn (seed::ss.map bld) pts[k]=some s):ztC seed pts (k+1) (ss++[s]):=by
 refine⟨by rw[List.length_append,h.1];rfl,?_⟩;rw[h.2,List.drop_eq_getElem_cons hk,zty,hc,Option.bind_some,List.map_append,List.map_cons,List.map_nil];cases zpb seed (pts.drop (k+1)) (ss.map bld++[bld s]) with
 | none=>rfl
 | some l=>simp
theorem ztC.all {seed:Ba} {pts:List Ba} {ss:List Ba} (h:ztC seed pts pts.length ss):zpb seed pts []=some ss:=by
 rw[h.2,List.drop_length,zv6];simp
theorem zv7 (s:Ba):(bld s).size=32:=zkL _ _ _
theorem zwM (seed:Ba) (ss:List Ba) (h:seed.size=32):Crv.wh (seed::ss.map bld)=true:=by
 unfold Crv.wh;rw[List.all_eq_true];intro x hx;rcases List.mem_cons.1 hx with rfl|hx
 ·simpa using h
 ·obtain⟨s,-,rfl⟩:=List.mem_map.1 hx
  simpa using zv7 s
end Go.Proofs.YtjcppbhgjchjaaaGreatDoor
