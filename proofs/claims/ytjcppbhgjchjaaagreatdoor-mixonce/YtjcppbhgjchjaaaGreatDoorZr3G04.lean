/- A part of the walk. -/
import Derived.Test.YtjcppbhgjchjaaaGreatDoorZr3G03
set_option maxHeartbeats 8000000
set_option maxRecDepth 20000
namespace Go.Proofs.YtjcppbhgjchjaaaGreatDoor.Crv
open Go.RowKit Go.Proofs.Fd
def two (s:Ba) (e:Int):Ending := .returned (.tuple #[.string s,.int .i64 e])
theorem zjP (n:Nat) (hn:n<=2147483647) (w:Wo) :
  Cl 111 #[.int .i64 n] w fun e w'=>e=two (enc n) 0/\Bw w w':=by
 have S0:Hid (∀w,Cl 191 #[.agg #[.int .u64 n,.int .u64 0,.int .u64 0,.int .u64 0]] w fun e w'=>e = .returned (.string (enc n))/\Bw w w'):=fun w=>by
  have q:=zaJ n 0 0 0 (by unfold Hid u4;omega) w;rw[show v4 n 0 0 0=n by unfold v4;omega] at q;exact q
 have h0:¬(n:Int) < 0:=by omega
 have h1:¬(2147483647:Int) < (n:Int):=by omega
 have d0:decide ((n:Int) < 0)=false:=by simp
 have hw:IntKind.u64.wrap (n:Int)=(n:Int):=by rw[IntKind.wrap_u64];omega
 go_enter Tryz.func111, Tryz.ntmps111;go_wp2_with fail;refine cM (S0.out _) ?_;rintro e w1 ⟨rfl,hb⟩;have HB:Hid (Bw w w1):=hb;clear hb;go_wp2;go_ret2;exact⟨rfl,HB.out⟩
theorem zht (s:Ba) (hs:s.size<=64) (w:Wo) :
  Cl 190 #[.string s] w fun e w'=>e=two (enc (num s.data.toList % p)) 0/\Bw w w':=by
 have hg:¬(64:Int) < (s.size:Int):=by omega
 have HS:Hid (s.size<=64):=hs;clear hs;go_enter Tryz.func190, Tryz.ntmps190;go_wp2_with fail;refine cM (zdW s HS.out _) ?_;rintro e w1 ⟨c0,c1,c2,c3,c4,c5,c6,c7,rfl,u1,u2,v1,hb1⟩;have U1:Hid (u4 c0 c1 c2 c3):=u1;have U2:Hid (u4 c4 c5 c6 c7):=u2;have V:Hid (v4 c0 c1 c2 c3+zas*v4 c4 c5 c6 c7=num s.data.toList/\Bw w w1):=⟨v1,hb1⟩;clear u1 u2 v1 hb1;go_wp2_with fail;refine cM (zfD c0 c1 c2 c3 c4 c5 c6 c7 U1 U2 _) ?_;rintro e w2 ⟨d0,d1,d2,d3,rfl,ud,vd,hb2⟩;have UD:Hid (u4 d0 d1 d2 d3):=ud;have VD:Hid (v4 d0 d1 d2 d3=num s.data.toList % p/\Bw w w2):=⟨by rw[vd,V.out.1],chain V.out.2 hb2⟩;clear ud vd hb2 V;go_wp2_with fail;refine cM (zaJ d0 d1 d2 d3 UD _) ?_;rintro e w3 ⟨rfl,hb3⟩;have HB:Hid (Bw w w3):=chain VD.out.2 hb3;have E:Hid ((⟨(za2 32 (v4 d0 d1 d2 d3)).toArray⟩:Ba)=enc (num s.data.toList % p)):=by show _=_;rw[VD.out.1];rfl
 clear hb3;go_wp2;go_ret2;refine⟨?_,HB.out⟩;show Ending.returned (.tuple #[.string ⟨(za2 32 (v4 d0 d1 d2 d3)).toArray⟩,.int .i64 0])=two (enc (num s.data.toList % p)) 0
 rw[E.out];rfl
theorem zoB (s:Ba) (hs:Hid (chk s=0)) (w:Wo) :
  Cl 323 #[.string s] w fun e w'=>e=two (enc (num s.data.toList ^ (p - 2) % p)) 0/\Bw w w':=by
 have C:Hid (∀w,Cl 359 #[.string s] w fun e w'=>e = .returned (.int .i64 0)/\Bw w w'):=fun w=>by
  have:=zdX s w;rw[hs.out] at this;exact this
 go_enter Tryz.func323, Tryz.ntmps323;go_wp2_with fail;refine cM (C.out _) ?_;rintro e w0 ⟨rfl,hb0⟩;have B0:Hid (Bw w w0):=hb0;clear hb0;go_wp2_with fail;refine cM (zaP s (zaD hs.out).1 _) ?_;rintro e w1 ⟨c0,c1,c2,c3,rfl,u1,v1,hb1⟩;have U1:Hid (u4 c0 c1 c2 c3):=u1;have V:Hid (v4 c0 c1 c2 c3=num s.data.toList/\Bw w w1):=⟨v1,chain B0.out hb1⟩;clear u1 v1 hb1;go_wp2_with fail;refine cM (zgB c0 c1 c2 c3 U1 _) ?_;rintro e w2 ⟨d0,d1,d2,d3,rfl,ud,vd,hb2⟩;have UD:Hid (u4 d0 d1 d2 d3):=ud;have VD:Hid (v4 d0 d1 d2 d3=num s.data.toList ^ (p - 2) % p/\Bw w w2):=⟨by rw[vd,V.out.1],chain V.out.2 hb2⟩;clear ud vd hb2 V;go_wp2_with fail;refine cM (zaJ d0 d1 d2 d3 UD _) ?_;rintro e w3 ⟨rfl,hb3⟩;have HB:Hid (Bw w w3):=chain VD.out.2 hb3;have E:Hid ((⟨(za2 32 (v4 d0 d1 d2 d3)).toArray⟩:Ba)=enc (num s.data.toList ^ (p - 2) % p)):=by show _=_;rw[VD.out.1];rfl
 clear hb3;go_wp2;go_ret2;refine⟨?_,HB.out⟩;show Ending.returned (.tuple #[.string ⟨(za2 32 (v4 d0 d1 d2 d3)).toArray⟩,.int .i64 0])=two (enc (num s.data.toList ^ (p - 2) % p)) 0
 rw[E.out];rfl
theorem zoC (s t:Ba) (hs:Hid (chk s=0)) (ht:Hid (chk t=0)) (w:Wo) :
  Cl 321 #[.string s,.string t] w fun e w'=>e=two (enc ((num s.data.toList+p - num t.data.toList) % p)) 0/\Bw w w':=by
 have CL:Hid (zam [s,t]=0):=by
  show zam [s,t]=0;have q1:=hs.out;have q2:=ht.out;unfold zam zal zal zal;simp[q1,q2]
 have C:Hid (∀(b:Nat) (w:Wo),StrAt w (some ⟨b,0,none⟩) [s,t]->Cl 354 #[.slice (some ⟨b,0,none⟩) 2 2] w fun e w'=>e = .returned (.int .i64 0)/\Bw w w'):=fun b w hw=>by
  have:=zaX (some ⟨b,0,none⟩) [s,t] 2 2 rfl (by omega) w hw;rw[CL.out] at this;exact this
 go_enter Tryz.func321, Tryz.ntmps321;go_wp2_with fail;refine cM (C.out w.heap.size _ ?_) ?_
 ·intro i hi
  have:i=0\/i=1:=by simp at hi;omega
  rcases this with rfl|rfl
  ·exact⟨_,_,rfl,by simp[go_sem]⟩
  ·exact⟨_,_,rfl,by simp[go_sem]⟩
 rintro e w0 ⟨rfl,hb0⟩;have B0:Hid (Bw w w0):=chain ((bQ _ _).alloc (nL _) _) hb0;clear hb0;go_wp2_with fail;refine cM (zaP s (zaD hs.out).1 _) ?_;rintro e w1 ⟨c0,c1,c2,c3,rfl,u1,v1,hb1⟩;have U1:Hid (u4 c0 c1 c2 c3):=u1;have V1:Hid (v4 c0 c1 c2 c3=num s.data.toList/\Bw w w1):=⟨v1,chain B0.out hb1⟩;clear u1 v1 hb1;go_wp2_with fail;refine cM (zaP t (zaD ht.out).1 _) ?_;rintro e w2 ⟨d0,d1,d2,d3,rfl,u2,v2,hb2⟩;have U2:Hid (u4 d0 d1 d2 d3):=u2;have V2:Hid (v4 d0 d1 d2 d3=num t.data.toList/\Bw w w2):=⟨v2,chain V1.out.2 hb2⟩;clear u2 v2 hb2;go_wp2_with fail;refine cM (zmo c0 c1 c2 c3 d0 d1 d2 d3 U1 U2 (by show _ < p;rw[V1.out.1];exact (zaD hs.out).2) (by show _ < p;rw[V2.out.1];exact (zaD ht.out).2) _) ?_;rintro e w3 ⟨f0,f1,f2,f3,rfl,uf,vf,hb3⟩;have UF:Hid (u4 f0 f1 f2 f3):=uf;have VF:Hid (v4 f0 f1 f2 f3=(num s.data.toList+p - num t.data.toList) % p/\Bw w w3):=⟨by rw[vf,V1.out.1,V2.out.1],chain V2.out.2 hb3⟩;clear uf vf hb3;go_wp2_with fail;refine cM (zaJ f0 f1 f2 f3 UF _) ?_;rintro e w4 ⟨rfl,hb4⟩;have HB:Hid (Bw w w4):=chain VF.out.2 hb4;have E:Hid ((⟨(za2 32 (v4 f0 f1 f2 f3)).toArray⟩:Ba)=enc ((num s.data.toList+p - num t.data.toList) % p)):=by show _=_;rw[VF.out.1];rfl
 clear hb4;go_wp2;go_ret2;refine⟨?_,HB.out⟩;show Ending.returned (.tuple #[.string ⟨(za2 32 (v4 f0 f1 f2 f3)).toArray⟩,.int .i64 0])=two (enc ((num s.data.toList+p - num t.data.toList) % p)) 0
 rw[E.out];rfl
attribute [local go_sem ↓] Go.wp_at_zero Go.wp_at_succ
def zoD (w wr:Wo) (a:Option Addr) (ss:List Ba) (b s0 s1 s2 s3 v:Nat):Prop :=
 At4 wr b (.int .u64 s0) (.int .u64 s1) (.int .u64 s2) (.int .u64 s3)/\u4 s0 s1 s2 s3/\v4 s0 s1 s2 s3=v/\StrAt w a ss/\w.heap.size<=b/\Bw w wr
theorem zlO (a:Option Addr) (ss:List Ba) (n cap:Nat) (hn:Hid (ss.length=n)) (hm:n<=9223372036854775807) (hs:Hid (zam ss=0)) (w:Wo) (hc:Hid (StrAt w a ss)) :
  Cl 322 #[.slice a n cap] w fun e w'=>e=two (enc (zbz ss)) 0/\Bw w w':=by
 have C:Hid (Cl 354 #[.slice a n cap] w fun e w'=>e = .returned (.int .i64 0)/\Bw w w'):=by
  have:=zaX a ss n cap hn hm w hc;rw[hs.out] at this;exact this
 have ALL:Hid (∀s∈ss,chk s=0):=zcH (zbZ hs.out).1;go_enter Tryz.func322, Tryz.ntmps322;go_wp2_with fail;refine cM C.out ?_;rintro e w0 ⟨rfl,hb0⟩;have B0:Hid (Bw w w0):=hb0;clear hb0;go_wp2;go_loopw [15] (fun i wr=>∃k s0 s1 s2 s3:Nat,k<=n/\i = .int .i64 k/\Hid (zoD w wr a ss w0.heap.size s0 s1 s2 s3 (zbz (ss.take k)))) (fun i _=>n - (intOf i).toNat)
 case atStart =>
  refine⟨0,0,0,0,0,Nat.zero_le _,rfl,?_,?_,?_,hc.out,B0.out.size,B0.out.alloc B0.out.size _⟩
  ·simp[At4,go_sem]
  ·unfold u4;omega
  ·rfl
 case round =>
  obtain⟨k,s0,s1,s2,s3,hk,rfl,I⟩:=hrel;obtain⟨qf,q0,q1,q2,q3⟩:=I.out.1;by_cases hlt:k < n
  ·have hk':k < ss.length:=by have:=hn.out;omega
   obtain⟨b,o,rfl,hcell⟩:=StrAt.later I.out.2.2.2.1 I.out.2.2.2.2.2 k hk';have HS:Hid (chk ss[k]=0/\zbz (ss.take (k+1))=(zbz (ss.take k)+num ss[k].data.toList) % p):=⟨ALL.out _ (List.getElem_mem hk'),zce ss k hk'⟩;obtain⟨s,es⟩:∃s,ss[k]=s:=⟨_,rfl⟩;rw[es] at hcell HS;clear es;go_wp2;go_region_with (first|(go_at_call 355;refine cM (zaP s (zaD HS.out.1).1 _) ?_;rintro e w1 ⟨c0,c1,c2,c3,rfl,uc,vc,hb1⟩;obtain⟨kf,k0,k1,k2,k3⟩:=At4.later (At4.drew I.out.1) hb1)|(go_at_call 358;refine cM (zmn s0 s1 s2 s3 c0 c1 c2 c3 I.out.2.1 uc (by show _ < p;rw[I.out.2.2.1];exact zjN _) (by show _ < p;rw[vc];exact (zaD HS.out.1).2) _) ?_;rintro e w2 ⟨d0,d1,d2,d3,rfl,ud,vd,hb2⟩;obtain⟨mf,m0,m1,m2,m3⟩:=At4.later (At4.later (At4.drew I.out.1) hb1) hb2))
   all_goals
    have KV:Hid (u4 d0 d1 d2 d3/\v4 d0 d1 d2 d3=zbz (ss.take (k+1))/\Bw w w2/\At4 w2 w0.heap.size (.int .u64 s0) (.int .u64 s1) (.int .u64 s2) (.int .u64 s3)) :=
     ⟨ud,by rw[vd,I.out.2.2.1,vc,HS.out.2],chain (chain I.out.2.2.2.2.2.drew hb1) hb2,At4.later (At4.later (At4.drew I.out.1) hb1) hb2⟩
    clear ud vd vc uc hb1 hb2;go_wp2;go_roundw
    case rel=>exact⟨k+1,d0,d1,d2,d3,by omega,by go_num,At4.whole KV.out.2.2.2 _ _ _ _,KV.out.1,KV.out.2.1,I.out.2.2.2.1,I.out.2.2.2.2.1,zaI KV.out.2.2.1 I.out.2.2.2.2.1 _ _ _ _⟩
    case measure=>simp[intOf];omega
  ·have hkn:k=n:=by omega
   subst hkn;go_wp2_with fail;refine cM (zaJ s0 s1 s2 s3 I.out.2.1 _) ?_;rintro e w3 ⟨rfl,hb3⟩;have HB:Hid (Bw w w3):=chain I.out.2.2.2.2.2 hb3;have E:Hid ((⟨(za2 32 (v4 s0 s1 s2 s3)).toArray⟩:Ba)=enc (zbz ss)):=by
    show _=_;rw[I.out.2.2.1,List.take_of_length_le (by have:=hn.out;omega)];rfl
   clear hb3;go_wp2;go_ret2;refine⟨?_,HB.out⟩;show Ending.returned (.tuple #[.string ⟨(za2 32 (v4 s0 s1 s2 s3)).toArray⟩,.int .i64 0])=two (enc (zbz ss)) 0
   rw[E.out];rfl
attribute [local go_sem ↓] Go.wp_at_zero Go.wp_at_succ
theorem zlP (b o:Nat) (ss:List Ba) (n cap:Nat) (hn:Hid (ss.length=n)) (hm:n<=9223372036854775807) (hcap:n<=cap) (hcm:cap<=9223372036854775807) (h1:0 < n) (hs:Hid (zam ss=0)) (w:Wo) (hc:Hid (StrAt w (some ⟨b,o,none⟩) ss)) :
  Cl 320 #[.slice (some ⟨b,o,none⟩) n cap] w fun e w'=>e=two (enc (zay (num (ss.headD ByteArray.empty).data.toList) ss.tail)) 0/\Bw w w':=by
 have C:Hid (Cl 354 #[.slice (some ⟨b,o,none⟩) n cap] w fun e w'=>e = .returned (.int .i64 0)/\Bw w w'):=by
  have:=zaX (some ⟨b,o,none⟩) ss n cap hn hm w hc;rw[hs.out] at this;exact this
 have ALL:Hid (∀s∈ss,chk s=0):=zcH (zbZ hs.out).1;have hne:((n:Int) == 0)=false:=by simp;omega
 have g1:(0:Int) < (n:Int):=by omega
 have g2:(1:Int)<=(n:Int):=by omega
 have g3:(n:Int)<=(cap:Int):=by omega
 have g4:(1:Int)<=(cap:Int):=by omega
 obtain⟨x,r,rfl⟩:∃x r,ss=x::r:=by
  cases ss with
  | nil=>exact absurd hn.out (by simp;omega)
  | cons x r=>exact⟨x,r,rfl⟩
 have HX:Hid (chk x=0):=ALL.out x (by simp);by_cases hc1:cap=1
 ·have hn1:n=1:=by omega
  have hr:Hid (r=[]):=by have q:=hn.out;simp at q;show r=[];exact List.eq_nil_of_length_eq_zero (by omega)
  subst hc1;subst hn1;go_enter Tryz.func320, Tryz.ntmps320;go_wp2_with fail;refine cM C.out ?_;rintro e w0 ⟨rfl,hb0⟩;have B0:Hid (Bw w w0):=hb0;have c0:w0.cell? ⟨b,o,none⟩=some (.string x):=by
   obtain⟨b',o',e,hx⟩:=StrAt.later hc.out hb0 0 (by simp);cases e;simpa using hx
  clear hb0;go_wp2_with fail;refine cM (zaP x (zaD HX.out).1 _) ?_;rintro e w1 ⟨t0,t1,t2,t3,rfl,ut,vt,hb1⟩;have V1:Hid (u4 t0 t1 t2 t3/\v4 t0 t1 t2 t3=num x.data.toList/\Bw w w1):=⟨ut,vt,chain B0.out hb1⟩;clear ut vt hb1 c0;go_wp2;refine wp_loop_rounds 1 ?_;rw[rounds_succ];go_wp2_with fail;refine cM (zaJ t0 t1 t2 t3 V1.out.1 _) ?_;have BB:Hid (Bw w (w1.alloc (.cells #[.int .u64 t0,.int .u64 t1,.int .u64 t2,.int .u64 t3] 283))):=V1.out.2.2.alloc V1.out.2.2.size _;have E:Hid ((⟨(za2 32 (v4 t0 t1 t2 t3)).toArray⟩:Ba)=enc (zay (num x.data.toList) r)):=by
   show _=_;rw[V1.out.2.1,hr.out];rfl
  rintro e w3 ⟨rfl,hb3⟩;have HB:Hid (Bw w w3):=chain BB.out hb3;clear hb3;go_wp2;go_ret2;refine⟨?_,HB.out⟩;show Ending.returned (.tuple #[.string ⟨(za2 32 (v4 t0 t1 t2 t3)).toArray⟩,.int .i64 0])=two (enc (zay (num x.data.toList) r)) 0
  rw[E.out];rfl
 ·have hr:Hid (r.length=n - 1):=by have q:=hn.out;simp at q;show r.length=n - 1;omega
  have hcr:Hid (StrAt w (some ⟨b,o+1,none⟩) r):=fun i hi=>by
   obtain⟨b',o',e,hx⟩:=hc.out (i+1) (by simpa using hi);cases e;refine⟨b,o+1,rfl,?_⟩;rw[show o+1+i=o+(i+1) by omega,hx];simp
  have AR:Hid (∀s∈r,chk s=0):=fun s hs=>ALL.out s (by simp[hs])
  go_enter Tryz.func320, Tryz.ntmps320;go_wp2_with fail;refine cM C.out ?_;rintro e w0 ⟨rfl,hb0⟩;have B0:Hid (Bw w w0):=hb0;have c0:w0.cell? ⟨b,o,none⟩=some (.string x):=by
   obtain⟨b',o',e,hx⟩:=StrAt.later hc.out hb0 0 (by simp);cases e;simpa using hx
  clear hb0;go_wp2_with fail;refine cM (zaP x (zaD HX.out).1 _) ?_;rintro e w1 ⟨t0,t1,t2,t3,rfl,ut,vt,hb1⟩;have V1:Hid (u4 t0 t1 t2 t3/\v4 t0 t1 t2 t3=num x.data.toList/\Bw w w1):=⟨ut,vt,chain B0.out hb1⟩;clear ut vt hb1 c0;go_wp2;obtain⟨m,hm1⟩:∃m,n - 1=m:=⟨_,rfl⟩;have hmm:m<=9223372036854775807:=by omega
  rw[hm1] at hr ⊢;clear hm1;go_loopw [25] (fun i wr=>∃k s0 s1 s2 s3:Nat,k<=m/\i = .int .i64 k/\Hid (zoD w wr (some ⟨b,o+1,none⟩) r w1.heap.size s0 s1 s2 s3 (zay (v4 t0 t1 t2 t3) (r.take k)))) (fun i _=>m - (intOf i).toNat)
  case atStart =>
   refine⟨0,t0,t1,t2,t3,Nat.zero_le _,rfl,?_,V1.out.1,rfl,hcr.out,V1.out.2.2.size,V1.out.2.2.alloc V1.out.2.2.size _⟩;simp[At4,go_sem]
  case round =>
   obtain⟨k,s0,s1,s2,s3,hk,rfl,I⟩:=hrel;obtain⟨qf,q0,q1,q2,q3⟩:=I.out.1;by_cases hlt:k < m
   ·have hk':k < r.length:=by have:=hr.out;omega
    obtain⟨b',o',e,hcell⟩:=StrAt.later I.out.2.2.2.1 I.out.2.2.2.2.2 k hk';cases e;have HS:Hid (chk r[k]=0/\zay (v4 t0 t1 t2 t3) (r.take (k+1))=(zay (v4 t0 t1 t2 t3) (r.take k)*num r[k].data.toList) % p):=⟨AR.out _ (List.getElem_mem hk'),zbN _ r k hk'⟩;obtain⟨s,es⟩:∃s,r[k]=s:=⟨_,rfl⟩;rw[es] at hcell HS;clear es;go_wp2;go_region_with (first|(go_at_call 355;refine cM (zaP s (zaD HS.out.1).1 _) ?_;rintro e w2 ⟨c0,c1,c2,c3,rfl,uc,vc,hb1⟩;obtain⟨kf,k0,k1,k2,k3⟩:=At4.later (At4.drew I.out.1) hb1)|(go_at_call 356;refine cM (zeS s0 s1 s2 s3 c0 c1 c2 c3 I.out.2.1 uc _) ?_;rintro e w3 ⟨d0,d1,d2,d3,rfl,ud,vd,hb2⟩;obtain⟨mf,m0,m1,m2,m3⟩:=At4.later (At4.later (At4.drew I.out.1) hb1) hb2))
    all_goals
     have KV:Hid (u4 d0 d1 d2 d3/\v4 d0 d1 d2 d3=zay (v4 t0 t1 t2 t3) (r.take (k+1))/\Bw w w3/\At4 w3 w1.heap.size (.int .u64 s0) (.int .u64 s1) (.int .u64 s2) (.int .u64 s3)) :=
      ⟨ud,by rw[vd,I.out.2.2.1,vc,HS.out.2],chain (chain I.out.2.2.2.2.2.drew hb1) hb2,At4.later (At4.later (At4.drew I.out.1) hb1) hb2⟩
     clear ud vd vc uc hb1 hb2;go_wp2;go_roundw
     case rel=>exact⟨k+1,d0,d1,d2,d3,by omega,by go_num,At4.whole KV.out.2.2.2 _ _ _ _,KV.out.1,KV.out.2.1,I.out.2.2.2.1,I.out.2.2.2.2.1,zaI KV.out.2.2.1 I.out.2.2.2.2.1 _ _ _ _⟩
     case measure=>simp[intOf];omega
   ·have hkn:k=m:=by omega
    subst hkn;go_wp2_with fail;refine cM (zaJ s0 s1 s2 s3 I.out.2.1 _) ?_;have BB:Hid (Bw w wr):=I.out.2.2.2.2.2;have E:Hid ((⟨(za2 32 (v4 s0 s1 s2 s3)).toArray⟩:Ba)=enc (zay (num x.data.toList) r)):=by
     show _=_;rw[I.out.2.2.1,List.take_of_length_le (by have:=hr.out;omega),V1.out.2.1];rfl
    rintro e w3 ⟨rfl,hb3⟩;have HB:Hid (Bw w w3):=chain BB.out hb3;clear hb3;go_wp2;go_ret2;refine⟨?_,HB.out⟩;show Ending.returned (.tuple #[.string ⟨(za2 32 (v4 s0 s1 s2 s3)).toArray⟩,.int .i64 0])=two (enc (zay (num x.data.toList) r)) 0
    rw[E.out];rfl
theorem zoE (a b:Nat) (ha:a < p) (hb:b < p) (w:Wo) :
  Cl 321 #[.string (enc a),.string (enc b)] w fun e w'=>e = .returned (.tuple #[.string (enc ((a+p - b) % p)),.int .i64 0])/\Bw w w':=by
 have:=zoC (enc a) (enc b) (za6 ha) (za6 hb) w;rw[zak ha,zak hb] at this;exact this
theorem zoF (a:Nat) (ha:a < p) (w:Wo) :
  Cl 323 #[.string (enc a)] w fun e w'=>e = .returned (.tuple #[.string (enc (a ^ (p - 2) % p)),.int .i64 0])/\Bw w w':=by
 have:=zoB (enc a) (za6 ha) w;rw[zak ha] at this;exact this
theorem zfE {a b:Nat} (ha:a < p) (hb:b < p):zam [enc a,enc b]=0:=by
 unfold zam zal zal zal;simp[za6 ha,za6 hb]
theorem zfF {a b c:Nat} (ha:a < p) (hb:b < p) (hc:c < p):zam [enc a,enc b,enc c]=0:=by
 unfold zam zal zal zal zal;simp[za6 ha,za6 hb,za6 hc]
theorem strAt2 {w:Wo} {B:Nat} {s t:Ba} (h0:w.cell? ⟨B,0,none⟩=some (.string s)) (h1:w.cell? ⟨B,1,none⟩=some (.string t)):StrAt w (some ⟨B,0,none⟩) [s,t]:=by
 intro i hi;have:i=0\/i=1:=by simp at hi;omega
 rcases this with rfl|rfl
 ·exact⟨_,_,rfl,h0⟩
 ·exact⟨_,_,rfl,h1⟩
theorem strAt3 {w:Wo} {B:Nat} {s t r:Ba} (h0:w.cell? ⟨B,0,none⟩=some (.string s)) (h1:w.cell? ⟨B,1,none⟩=some (.string t)) (h2:w.cell? ⟨B,2,none⟩=some (.string r)):StrAt w (some ⟨B,0,none⟩) [s,t,r]:=by
 intro i hi;have:i=0\/i=1\/i=2:=by simp at hi;omega
 rcases this with rfl|rfl|rfl
 ·exact⟨_,_,rfl,h0⟩
 ·exact⟨_,_,rfl,h1⟩
 ·exact⟨_,_,rfl,h2⟩
theorem zms (a b B:Nat) (ha:a < p) (hb:b < p) (w:Wo) (h0:w.cell? ⟨B,0,none⟩=some (.string (enc a))) (h1:w.cell? ⟨B,1,none⟩=some (.string (enc b))) :
  Cl 322 #[.slice (some ⟨B,0,none⟩) 2 2] w fun e w'=>e = .returned (.tuple #[.string (enc ((a+b) % p)),.int .i64 0])/\Bw w w':=by
 have:=zlO (some ⟨B,0,none⟩) [enc a,enc b] 2 2 rfl (by omega) (zfE ha hb) w (strAt2 h0 h1);have e:zbz [enc a,enc b]=(a+b) % p:=by
  show ((0+num (enc a).data.toList) % p+num (enc b).data.toList) % p=_;rw[zak ha,zak hb,zr2]
 rw[e] at this;exact this
theorem zqv (a b c B:Nat) (ha:a < p) (hb:b < p) (hc:c < p) (w:Wo) (h0:w.cell? ⟨B,0,none⟩=some (.string (enc a))) (h1:w.cell? ⟨B,1,none⟩=some (.string (enc b))) (h2:w.cell? ⟨B,2,none⟩=some (.string (enc c))) :
  Cl 322 #[.slice (some ⟨B,0,none⟩) 3 3] w fun e w'=>e = .returned (.tuple #[.string (enc ((a+b+c) % p)),.int .i64 0])/\Bw w w':=by
 have:=zlO (some ⟨B,0,none⟩) [enc a,enc b,enc c] 3 3 rfl (by omega) (zfF ha hb hc) w (strAt3 h0 h1 h2);have e:zbz [enc a,enc b,enc c]=(a+b+c) % p:=by
  show (((0+num (enc a).data.toList) % p+num (enc b).data.toList) % p+num (enc c).data.toList) % p=_;rw[zak ha,zak hb,zak hc,sum3]
 rw[e] at this;exact this
theorem zmt (a b B:Nat) (ha:a < p) (hb:b < p) (w:Wo) (h0:w.cell? ⟨B,0,none⟩=some (.string (enc a))) (h1:w.cell? ⟨B,1,none⟩=some (.string (enc b))) :
  Cl 320 #[.slice (some ⟨B,0,none⟩) 2 2] w fun e w'=>e = .returned (.tuple #[.string (enc (a*b % p)),.int .i64 0])/\Bw w w':=by
 have:=zlP B 0 [enc a,enc b] 2 2 rfl (by omega) (by omega) (by omega) (by omega) (zfE ha hb) w (strAt2 h0 h1);have e:zay (num ([enc a,enc b].headD ByteArray.empty).data.toList) [enc a,enc b].tail=a*b % p:=by
  show num (enc a).data.toList*num (enc b).data.toList % p=_;rw[zak ha,zak hb]
 rw[e] at this;exact this
theorem zmu (a b c B:Nat) (ha:a < p) (hb:b < p) (hc:c < p) (w:Wo) (h0:w.cell? ⟨B,0,none⟩=some (.string (enc a))) (h1:w.cell? ⟨B,1,none⟩=some (.string (enc b))) (h2:w.cell? ⟨B,2,none⟩=some (.string (enc c))) :
  Cl 320 #[.slice (some ⟨B,0,none⟩) 3 3] w fun e w'=>e = .returned (.tuple #[.string (enc (a*b % p*c % p)),.int .i64 0])/\Bw w w':=by
 have:=zlP B 0 [enc a,enc b,enc c] 3 3 rfl (by omega) (by omega) (by omega) (by omega) (zfF ha hb hc) w (strAt3 h0 h1 h2);have e:zay (num ([enc a,enc b,enc c].headD ByteArray.empty).data.toList) [enc a,enc b,enc c].tail=a*b % p*c % p:=by
  show num (enc a).data.toList*num (enc b).data.toList % p*num (enc c).data.toList % p=_;rw[zak ha,zak hb,zak hc]
 rw[e] at this;exact this
end Go.Proofs.YtjcppbhgjchjaaaGreatDoor.Crv
