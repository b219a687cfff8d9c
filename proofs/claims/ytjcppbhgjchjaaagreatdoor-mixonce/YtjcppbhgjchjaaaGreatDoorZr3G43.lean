/- A part of the walk. -/
import Derived.Test.YtjcppbhgjchjaaaGreatDoorZr3G39
import Derived.Test.YtjcppbhgjchjaaaGreatDoorZr3G22
set_option maxHeartbeats 8000000
set_option maxRecDepth 20000
namespace Go.Proofs.YtjcppbhgjchjaaaGreatDoor
open Go.RowKit Go.Proofs.Fd Go.Proofs.Hs Go.Proofs.Cc Go.Proofs.Hd Go.Proofs.Rt
theorem zus (seed:Ba) (zs:Hid (seed.size+64<=140737488355328)) (b o:Nat) (ss:List Ba) (n cap:Nat) (hn:Hid (ss.length=n)) (hcap:n<=cap) (pb:Option Addr) (hs:List Hp) (pcap:Nat) (hhn:Hid (hs.length=n)) (h1:1<=n) (h5:n<=5) (hok:Hid (hs.all ok=true)) (hid:Hid (∀h∈hs,h.id.size<=140737488355328)) (w:Wo) (hK:Hid (Kh w)) (hc:Hid (zsQ w (some ⟨b,o,none⟩) ss)) (hp:Hid (zfS w pb hs)) :
  Cl 104 #[.string seed,.slice (some ⟨b,o,none⟩) n cap,.slice pb n pcap] w fun e w'=>e = .returned (.string (Ins seed ss hs n))/\Bw w w':=by
 obtain⟨m,hm⟩:∃m:Nat,m+1=n:=⟨n - 1,by omega⟩;have s1:IntKind.i64.wrap ((n:Int) - 1)=(m:Int):=by rw[IntKind.wrap_i64];omega
 have s2:wrap64 ((n:Int) - 1)=(m:Int):=by unfold wrap64;omega
 have Z16:Hid (∀w,Cl 180 #[.int .i64 16] w fun e w'=>e = .returned (.string (zba 16))/\Bw w w'):=fun w=>zsC 16 (by decide) (by decide) w
 have PD:Hid (∀w,Kh w->Cl 181 #[.string seed] w fun e w'=>e = .returned (.string (hdk seed zr9 200))/\Bw w w'):=fun w h=>zu7 seed zs w h
 have FI:Hid (∀w',Bw w w'->Cl 182 #[.slice (some ⟨b,o,none⟩) m cap] w' fun e w''=>e = .returned (.string (fbs ss m))/\Bw w' w''):=fun w' hb=>zuo _ ss m cap (by show m<=ss.length;rw[hn.out];omega) (by omega) w' (hc.out.later hb)
 have A0:∀w,(Op.stringOp .add (zba 16) (hdk seed zr9 200)).run Tryz.prog w = .ok (.string (Ins seed ss hs 0)) w:=fun w=>by
  rw[ztj];exact run_string_add_sum _ _ _ (by rw[zsi,zkL];decide)
 have E0:En ss m 0=fbs ss m:=rfl;have QN:Hid (1<=hs.length/\hs.length<=5):=by rw[hhn.out];exact⟨h1,h5⟩
 have c1:(m:Int)<=(cap:Int):=by omega
 have c2:(0:Int)<=(m:Int):=by omega
 rw[<-E0] at FI;generalize zba 16=Z at *;generalize hdk seed zr9 200=PP at *;obtain⟨I0,hI0⟩:∃x,Ins seed ss hs 0=x:=⟨_,rfl⟩;rw[hI0] at A0;obtain⟨N0,hN0⟩:∃x,En ss m 0=x:=⟨_,rfl⟩;rw[hN0] at FI;clear E0;go_enter Tryz.func104, Tryz.ntmps104;go_wp2_with fail;go_region_with (first|(go_at_call 180;refine cM (Z16.out _) ?_;rintro e w1 ⟨rfl,hb1⟩;have B1:Hid (Below w.heap.size w w1):=chain (bQ _ _).drew hb1)|(go_at_call 181;refine cM (PD.out _ (hK.out.later B1.out)) ?_;rintro e w2 ⟨rfl,hb2⟩;have B2:Hid (Below w.heap.size w w2):=chain B1.out hb2)|(go_at_call 182;refine cM (FI.out _ B2.out) ?_;rintro e w3 ⟨rfl,hb3⟩;have B3:Hid (Below w.heap.size w w3):=chain B2.out hb3));clear hb1 hb2 hb3 B1 B2 Z16 PD FI A0;go_wp2_with fail;go_loopw [8,9,10] (fun vi ve iv wr=>∃j:Nat,j<=n/\vi = .string (Ins seed ss hs j)/\ve = .string (En ss m j)/\iv = .int .i64 ((m:Int) - (j:Int))/\Hid (Bw w wr)) (fun _ _ iv _=>((intOf iv)+1).toNat)
 case atStart=>exact⟨0,Nat.zero_le _,by rw[hI0],by rw[hN0],by simp,B3.out⟩
 case round =>
  obtain⟨j,hj,rfl,rfl,hiv,I⟩:=hrel;clear B3;by_cases hlt:j < n
  ·obtain⟨i,hij⟩:∃i:Nat,i+j=m:=⟨m - j,by omega⟩
   have e1:(m:Int) - (j:Int)=(i:Int):=by omega
   rw[e1] at hiv;subst hiv;have g0:(0:Int)<=(i:Int):=by omega
   have g1:(i:Int) < (n:Int):=by omega
   have g2:i < n:=by omega
   obtain⟨b2,o2,rfl,d0,d1,d2,d3,d4⟩:=zfS.later hp.out I.out rfl i (by rw[hhn.out];exact g2);have hx:hs.getD i zh∈hs:=by
    rw[List.getD_eq_getElem?_getD,List.getElem?_eq_getElem (by rw[hhn.out];exact g2)];exact List.getElem_mem _
   have EC:Hid (∀w,Cl 183 #[hv (hs.getD i zh)] w fun e w'=>e = .returned (.tuple #[.string ⟨(byt (hs.getD i zh)).toArray⟩,.int .i64 0])/\Bw w w'):=fun w=>by
    have:=zt1 (hs.getD i zh) w (hid.out _ hx);rw[zuM _ (List.all_eq_true.1 hok.out _ hx)] at this;exact this
   have LS:=zwH seed ss hs hok.out QN.out m j i (by rw[hhn.out];exact hm) hij;have zI:=ztk seed ss hs hok.out QN.out j (by rw[hhn.out];omega);have zE:=zu9 ss m (by omega) j;have zL:=ztQ seed ss hs hok.out QN.out j (by rw[hhn.out];exact hlt);have zC:(⟨(byt (hs.getD i zh)).toArray⟩:Ba).size=24:=by rw[zko];exact ze0 _ (List.all_eq_true.1 hok.out _ hx)
   have NX:Hid (Ins seed ss hs (j+1)=hmb (nth ss i) (Lb seed ss hs j)++Lb seed ss hs j/\En ss m (j+1)=⟨#[]⟩):=by
    refine⟨?_,rfl⟩;rw[zsV,show hs.length - 1 - j=i by rw[hhn.out];omega]
   obtain⟨C,hC⟩:∃x:Ba,⟨(byt (hs.getD i zh)).toArray⟩=x:=⟨_,rfl⟩;obtain⟨X,hX⟩:∃x:Ba,Ins seed ss hs j=x:=⟨_,rfl⟩;obtain⟨Y,hY⟩:∃x:Ba,En ss m j=x:=⟨_,rfl⟩;obtain⟨L,hL⟩:∃x:Ba,Lb seed ss hs j=x:=⟨_,rfl⟩;rw[hC] at EC LS zC;rw[hX] at LS zI;rw[hY] at LS zE;rw[hL] at LS zL NX;rw[hX,hY];have zY:Y.size<=160:=by rw[zE];split <;> omega
   obtain⟨P,hP⟩:∃x:Ba,C++X=x:=⟨_,rfl⟩;have zP:P.size=240:=by rw[<-hP,zsN,zC,zI]
   rw[hP] at LS;obtain⟨q,hq⟩:∃q:Nat,q+Y.size=200:=⟨200 - Y.size,by omega⟩;rw[show 200 - Y.size=q by omega] at LS;obtain⟨T,hT⟩:∃x:Ba,htn (nth ss i) (P.extract 0 q)=x:=⟨_,rfl⟩;rw[hT] at LS;have zQ:(P.extract 0 q).size<=240:=by rw[ByteArray.size_extract];omega
   have zT:T.size<=240:=by rw[<-hT,zsU _ _ zQ];exact zQ
   have TU:Hid (∀w,Cl 184 #[hk6 (nth ss i),.string (P.extract 0 q)] w fun e w'=>e = .returned (.string T)/\Bw w w'):=fun w=>by
    rw[<-hT];exact zsF _ _ zQ w
   obtain⟨M,hM⟩:∃x:Ba,hmb (nth ss i) L=x:=⟨_,rfl⟩;have zM:M.size=16:=by rw[<-hM];exact zti _ _
   rw[hM] at NX;have MC:Hid (∀w,Kh w->Cl 185 #[hk6 (nth ss i),.string L] w fun e w'=>e = .returned (.string M)/\Bw w w'):=fun w h=>by
    rw[<-hM];exact ztu _ _ (by omega) w h
   have A1:∀w,(Op.stringOp .add C X).run Tryz.prog w = .ok (.string P) w:=fun w=>by
    rw[<-hP];exact run_string_add_sum _ _ _ (by rw[zC,zI];decide)
   have A2:∀w,(Op.stringOp .add T Y).run Tryz.prog w = .ok (.string L) w:=fun w=>by
    rw[<-LS];exact run_string_add_sum _ _ _ (by omega)
   obtain⟨U,hU⟩:∃x:Ba,M++L=x:=⟨_,rfl⟩;rw[hU] at NX;have A3:∀w,(Op.stringOp .add M L).run Tryz.prog w = .ok (.string U) w:=fun w=>by
    rw[<-hU];exact run_string_add_sum _ _ _ (by rw[zM,zL];decide)
   have t1:IntKind.i64.wrap (200 - (Y.size:Int))=(q:Int):=by rw[IntKind.wrap_i64];omega
   have t2:wrap64 (200 - (Y.size:Int))=(q:Int):=by unfold wrap64;omega
   have zPi:(P.size:Int)=240:=by omega
   have t3:(q:Int)<=240:=by omega
   have t4:q<=240:=by omega
   have t5:(0:Int)<=(q:Int):=by omega
   have t6:IntKind.i64.wrap ((i:Int) - 1)=(m:Int) - ((j+1:Nat):Int):=by rw[IntKind.wrap_i64];omega
   have t7:wrap64 ((i:Int) - 1)=(m:Int) - ((j+1:Nat):Int):=by unfold wrap64;omega
   have EX:Hid ((m:Int) - ((j+1:Nat):Int)+1=(i:Int)):=by show _=_;omega
   have KC:Hid (∀w',Bw w w'->zsQ w' (some ⟨b,o,none⟩) ss):=fun w' h=>hc.out.later h
   unfold hk6 at TU MC;unfold hv at EC;have HX:Hid (i < ss.length):=by rw[hn.out];exact g2
   have HQ:Hid (q+Y.size=200/\i+j=m/\m+1=n/\n<=5):=⟨hq,hij,hm,h5⟩;clear hC hX hY hL hP hT hM hU hx LS zI zE zL zC zQ zT zM zY e1 hq hij hm s1 s2;generalize hs.getD i zh=h at *;obtain⟨hk,hn',hu,hd,hid'⟩:=h;simp only at d0 d1 d2 d3 d4 EC;go_wp2_with fail;refine cM (EC.out _) ?_;rintro e w1 ⟨rfl,hb1⟩;have B1:Hid (Bw w w1):=chain I.out hb1;clear hb1 I EC d0 d1 d2 d3 d4;obtain⟨b',o',he,k0,k1,k2,k3,k4,k5⟩:=KC.out w1 B1.out i HX.out;cases he;generalize nth ss i=s at *;generalize hdk s zo9 32=f1 at *;generalize hdk s zr8 32=f2 at *;generalize hdk s zpa 32=f3 at *;generalize bld s=f4 at *;generalize hdk s zqe 16=f5 at *;go_wp2_with fail;go_region_with (first|(go_at_call 184;refine cM (TU.out _) ?_;rintro e w2 ⟨rfl,hb2⟩;have B2:Hid (Below w.heap.size w w2):=chain (chain B1.out (bQ _ _).drew) hb2;have k02:=cell_later hb2 k0;have k12:=cell_later hb2 k1;have k22:=cell_later hb2 k2;have k32:=cell_later hb2 k3;have k42:=cell_later hb2 k4;have k52:=cell_later hb2 k5));clear hb2 B1 k0 k1 k2 k3 k4 k5 TU A1 A2;go_wp2_with fail;refine cM (MC.out _ (hK.out.later B2.out)) ?_;rintro e w3 ⟨rfl,hb3⟩;have B3:Hid (Bw w w3):=chain B2.out hb3;clear hb3 B2 MC k02 k12 k22 k32 k42 k52;go_wp2;go_roundw
   case rel=>exact⟨j+1,by omega,by rw[NX.out.1],by rw[NX.out.2],rfl,B3.out⟩
   case measure=>simp only[intOf];have:=EX.out;omega
  ·obtain rfl:j=n:=by omega
   have e1:(m:Int) - (j:Int) = -1:=by omega
   rw[e1] at hiv;subst hiv;go_wp2;go_ret;exact⟨rfl,I.out⟩
end Go.Proofs.YtjcppbhgjchjaaaGreatDoor
