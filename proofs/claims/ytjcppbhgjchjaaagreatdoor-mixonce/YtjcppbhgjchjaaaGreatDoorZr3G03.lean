/- A part of the walk. -/
import Derived.Test.YtjcppbhgjchjaaaGreatDoorZr3G02
import Derived.Shelf.Bits.Mul64
import Derived.Test.YtjcppbhgjchjaaaGreatDoorZr3G01
set_option maxHeartbeats 8000000
set_option maxRecDepth 20000
namespace Go.Proofs.YtjcppbhgjchjaaaGreatDoor.Crv
open Go.RowKit Go.Proofs.Fd
def zeR (f:Nat):Go.Shelf.Ren:=⟨fun _=>f,fun t=>if t=46 then 124 else 80, fun n=>n⟩
theorem zmk:Lays7.n25 Tryz.prog (zeR 361) :=
 { mixed:=by kernel_rfl,f25:=by kernel_rfl,t22:=by kernel_rfl,a22:=fun _=>by kernel_rfl,z22:=fun _=>by kernel_rfl,v22:=fun _=>by kernel_rfl,i22:=by kernel_rfl }
theorem zml:Lays7.n26 Tryz.prog (zeR 376) :=
 { mixed:=by kernel_rfl,f26:=by kernel_rfl,t22:=by kernel_rfl,a22:=fun _=>by kernel_rfl,z22:=fun _=>by kernel_rfl,v22:=fun _=>by kernel_rfl,i22:=by kernel_rfl }
theorem zbl (x y c:Nat) (hc:c<=1):∃s k:Nat,(∀w,(callFunc 361 #[.int .u64 x,.int .u64 y,.int .u64 c]).run Tryz.prog w = .ok (.value (.tuple #[.int .u64 s,.int .u64 k])) w)/\s=(x+y+c) % 18446744073709551616/\k=(x+y+c) / 18446744073709551616 :=
 ⟨_,_,Any7.bits_Add64 zmk x y c hc,rfl,rfl⟩
theorem zb9 (x y c:Nat) (hc:c<=1):∃s k:Nat,(∀w,(callFunc 376 #[.int .u64 x,.int .u64 y,.int .u64 c]).run Tryz.prog w = .ok (.value (.tuple #[.int .u64 s,.int .u64 k])) w)/\s=(x+18446744073709551616 - y - c) % 18446744073709551616/\k=if x < y+c then 1 else 0 :=
 ⟨_,_,Any7.bits_Sub64 zml x y c hc,rfl,rfl⟩
theorem zdU (w:Wo) :
  Cl 365 #[] w fun e w'=>e = .returned (.agg #[.int .u64 18446744073709551597,.int .u64 18446744073709551615,.int .u64 18446744073709551615,.int .u64 9223372036854775807])/\w'=w.alloc (.cells #[.int .u64 18446744073709551597,.int .u64 18446744073709551615,.int .u64 18446744073709551615,.int .u64 9223372036854775807] 283):=by
 go_enter Tryz.func365, Tryz.ntmps365;go_wp2;exact bodyPost_ret (v := .agg #[.int .u64 18446744073709551597,.int .u64 18446744073709551615,.int .u64 18446744073709551615,.int .u64 9223372036854775807]) (by simp[results,Tryz.results365, go_sem]) rfl ⟨rfl,rfl⟩
theorem zlN (a0 a1 a2 a3 b0 b1 b2 b3:Nat) (ha:Hid (u4 a0 a1 a2 a3)) (hb:Hid (u4 b0 b1 b2 b3)) (w:Wo) :
  Cl 362 #[.agg #[.int .u64 a0,.int .u64 a1,.int .u64 a2,.int .u64 a3],.agg #[.int .u64 b0,.int .u64 b1,.int .u64 b2,.int .u64 b3]] w fun e w' =>
   ∃c0 c1 c2 c3:Nat,e = .returned (.agg #[.int .u64 c0,.int .u64 c1,.int .u64 c2,.int .u64 c3])/\u4 c0 c1 c2 c3/\v4 c0 c1 c2 c3=(v4 a0 a1 a2 a3+v4 b0 b1 b2 b3) % zas/\w'=((w.alloc (.cells #[.int .u64 a0,.int .u64 a1,.int .u64 a2,.int .u64 a3] 283)).alloc (.cells #[.int .u64 b0,.int .u64 b1,.int .u64 b2,.int .u64 b3] 283)).alloc (.cells #[.int .u64 c0,.int .u64 c1,.int .u64 c2,.int .u64 c3] 283):=by
 have ha':=ha.out;have hb':=hb.out;unfold u4 at ha' hb';obtain⟨s0,k1,h1,es0,ek1⟩:=zbl a0 b0 0 (by omega);rw[show ((0:Nat):Int)=0 from rfl] at h1;have l1:k1<=1:=by omega
 obtain⟨s1,k2,h2,es1,ek2⟩:=zbl a1 b1 k1 l1;have l2:k2<=1:=by omega
 obtain⟨s2,k3,h3,es2,ek3⟩:=zbl a2 b2 k2 l2;have l3:k3<=1:=by omega
 obtain⟨s3,k4,h4,es3,ek4⟩:=zbl a3 b3 k3 l3;have fin:Hid (u4 s0 s1 s2 s3/\v4 s0 s1 s2 s3=(v4 a0 a1 a2 a3+v4 b0 b1 b2 b3) % zas):=by
  have:=zmd a0 a1 a2 a3 b0 b1 b2 b3 ha.out hb.out;rw[<-es0,<-ek1,<-es1,<-ek2,<-es2,<-ek3,<-es3] at this;refine⟨?_,this⟩;unfold u4;omega
 clear es0 ek1 es1 ek2 es2 ek3 es3 ek4 l1 l2 l3 ha' hb';go_enter Tryz.func362, Tryz.ntmps362;go_wp2;exact bodyPost_ret (v := .agg #[.int .u64 s0,.int .u64 s1,.int .u64 s2,.int .u64 s3]) (by simp[results,Tryz.results362, go_sem]) rfl ⟨s0,s1,s2,s3,rfl,fin.out.1,fin.out.2,rfl⟩
theorem zhn (a0 a1 a2 a3 b0 b1 b2 b3:Nat) (ha:Hid (u4 a0 a1 a2 a3)) (hb:Hid (u4 b0 b1 b2 b3)) (w:Wo) :
  Cl 362 #[.agg #[.int .u64 a0,.int .u64 a1,.int .u64 a2,.int .u64 a3],.agg #[.int .u64 b0,.int .u64 b1,.int .u64 b2,.int .u64 b3]] w fun e w' =>
   ∃c0 c1 c2 c3:Nat,e = .returned (.agg #[.int .u64 c0,.int .u64 c1,.int .u64 c2,.int .u64 c3])/\u4 c0 c1 c2 c3/\v4 c0 c1 c2 c3=(v4 a0 a1 a2 a3+v4 b0 b1 b2 b3) % zas/\Below w.heap.size w w':=by
 refine cM (zlN a0 a1 a2 a3 b0 b1 b2 b3 ha hb w) ?_;rintro e w1 ⟨c0,c1,c2,c3,rfl,uc,vc,rfl⟩;exact⟨c0,c1,c2,c3,rfl,uc,vc,((((bQ _ _).alloc (nL _) _).alloc (by simp) _).alloc (by simp;omega) _)⟩
theorem zfC (a0 a1 a2 a3 b0 b1 b2 b3:Nat) (ha:Hid (u4 a0 a1 a2 a3)) (hb:Hid (u4 b0 b1 b2 b3)) (w:Wo) :
  Cl 364 #[.agg #[.int .u64 a0,.int .u64 a1,.int .u64 a2,.int .u64 a3],.agg #[.int .u64 b0,.int .u64 b1,.int .u64 b2,.int .u64 b3]] w fun e w' =>
   ∃c0 c1 c2 c3:Nat,e = .returned (.tuple #[.agg #[.int .u64 c0,.int .u64 c1,.int .u64 c2,.int .u64 c3],.bool (decide (v4 a0 a1 a2 a3 < v4 b0 b1 b2 b3))])/\u4 c0 c1 c2 c3/\v4 c0 c1 c2 c3=(v4 a0 a1 a2 a3+zas - v4 b0 b1 b2 b3) % zas/\w'=((w.alloc (.cells #[.int .u64 a0,.int .u64 a1,.int .u64 a2,.int .u64 a3] 283)).alloc (.cells #[.int .u64 b0,.int .u64 b1,.int .u64 b2,.int .u64 b3] 283)).alloc (.cells #[.int .u64 c0,.int .u64 c1,.int .u64 c2,.int .u64 c3] 283):=by
 have ha':=ha.out;have hb':=hb.out;unfold u4 at ha' hb';obtain⟨s0,k1,h1,es0,ek1⟩:=zb9 a0 b0 0 (by omega);rw[show ((0:Nat):Int)=0 from rfl] at h1;have l1:k1<=1:=by rw[ek1];split <;> omega
 obtain⟨s1,k2,h2,es1,ek2⟩:=zb9 a1 b1 k1 l1;have l2:k2<=1:=by rw[ek2];split <;> omega
 obtain⟨s2,k3,h3,es2,ek3⟩:=zb9 a2 b2 k2 l2;have l3:k3<=1:=by rw[ek3];split <;> omega
 obtain⟨s3,k4,h4,es3,ek4⟩:=zb9 a3 b3 k3 l3;have fin:Hid (u4 s0 s1 s2 s3/\v4 s0 s1 s2 s3=(v4 a0 a1 a2 a3+zas - v4 b0 b1 b2 b3) % zas/\((k4:Int) == 1)=decide (v4 a0 a1 a2 a3 < v4 b0 b1 b2 b3)):=by
  have:=zjB a0 a1 a2 a3 b0 b1 b2 b3 k1 k2 k3 k4 ha.out hb.out ek1 ek2 ek3 ek4;rw[<-es0,<-es1,<-es2,<-es3] at this;refine⟨?_,this.1,?_⟩
  ·clear ek1 ek2 ek3 ek4;unfold u4;omega
  ·have q:=this.2
   rw[Bool.eq_iff_iff];simp only[beq_iff_eq,decide_eq_true_eq];rw[<-q];omega
 clear es0 ek1 es1 ek2 es2 ek3 es3 ek4 l1 l2 l3 ha' hb';go_enter Tryz.func364, Tryz.ntmps364;go_wp2;exact bodyPost_ret (v := .tuple #[.agg #[.int .u64 s0,.int .u64 s1,.int .u64 s2,.int .u64 s3],.bool ((k4:Int) == 1)]) (by simp[results,Tryz.results364, go_sem]) rfl ⟨s0,s1,s2,s3,by rw[fin.out.2.2],fin.out.1,fin.out.2.1,rfl⟩
theorem ret_bool {a b:Bool} (h:a=b):Ending.returned (.bool a) = .returned (.bool b):=by rw[h]
theorem zdV (a0 a1 a2 a3:Nat) (ha:Hid (u4 a0 a1 a2 a3)) (w:Wo) :
  Cl 363 #[.agg #[.int .u64 a0,.int .u64 a1,.int .u64 a2,.int .u64 a3]] w fun e w'=>e = .returned (.bool (decide (v4 a0 a1 a2 a3 < p)))/\Below w.heap.size w w':=by
 have H:Hid (_):=zhh a0 a1 a2 a3 ha.out;have HT:∀{b:Bool},(b=true↔v4 a0 a1 a2 a3 < p)->b=decide (v4 a0 a1 a2 a3 < p):=by
  intro b hb;rw[Bool.eq_iff_iff,hb,decide_eq_true_eq]
 have HU:Hid (∀{b:Bool},(b=true↔v4 a0 a1 a2 a3 < p)->b=decide (v4 a0 a1 a2 a3 < p)):=HT;clear HT;by_cases c3:(a3:Int) < 9223372036854775807
 ·go_enter Tryz.func363, Tryz.ntmps363
  go_wp2;go_ret;exact⟨ret_bool (HU.out (by rw[<-H.out];simp;omega)),(bQ _ _).alloc (nL _) _⟩
 ·have d3:decide ((a3:Int) < 9223372036854775807)=false:=by simpa using c3
  by_cases e3:((a3:Int) == 9223372036854775807)=true
  ·by_cases c2:(a2:Int) < 18446744073709551615
   ·go_enter Tryz.func363, Tryz.ntmps363
    go_wp2;go_ret;exact⟨ret_bool (HU.out (by rw[<-H.out];simp at e3;simp;omega)),(bQ _ _).alloc (nL _) _⟩
   ·by_cases c1:(a1:Int) < 18446744073709551615
    ·go_enter Tryz.func363, Tryz.ntmps363
     go_wp2;go_ret;exact⟨ret_bool (HU.out (by rw[<-H.out];simp at e3;simp;omega)),(bQ _ _).alloc (nL _) _⟩
    ·by_cases c0:(a0:Int) < 18446744073709551597
     ·go_enter Tryz.func363, Tryz.ntmps363
      go_wp2;go_ret;exact⟨ret_bool (HU.out (by rw[<-H.out];simp at e3;simp;omega)),(bQ _ _).alloc (nL _) _⟩
     ·go_enter Tryz.func363, Tryz.ntmps363
      go_wp2;go_ret;exact⟨ret_bool (HU.out (by rw[<-H.out];simp at e3;simp;omega)),(bQ _ _).alloc (nL _) _⟩
  ·have f3:((a3:Int) == 9223372036854775807)=false:=by simpa using e3
   clear e3;go_enter Tryz.func363, Tryz.ntmps363;go_wp2;go_ret;exact⟨ret_bool (HU.out (by rw[<-H.out];simp at f3;simp;omega)),(bQ _ _).alloc (nL _) _⟩
theorem zmm:Lays.n264 Tryz.prog (zeR 348) :=
 { mixed:=by kernel_rfl,f264:=by kernel_rfl,t46:=by kernel_rfl,a46:=fun _=>by kernel_rfl,z46:=fun _=>by kernel_rfl,v46:=fun _=>by kernel_rfl,t53:=by kernel_rfl,a53:=fun _=>by kernel_rfl,z53:=fun _=>by kernel_rfl,v53:=fun _=>by kernel_rfl }
theorem zho (x y:Nat) (hx:x < 18446744073709551616) (hy:y < 18446744073709551616) (w:Wo) :
  Cl 348 #[.int .u64 x,.int .u64 y] w fun e w'=>e = .returned (.tuple #[.int .u64 ((x*y / 18446744073709551616:Nat):Int),.int .u64 ((x*y % 18446744073709551616:Nat):Int)])/\w'=w :=
 Any.bits_Mul64 zmm x y hx hy w
theorem zai (a b c d:Nat) (ha:a < 18446744073709551616) (hb:b < 18446744073709551616) (hc:c < 18446744073709551616) (hd:d < 18446744073709551616) (w:Wo) :
  Cl 324 #[.int .u64 a,.int .u64 b,.int .u64 c,.int .u64 d] w fun e w' =>
   ∃lo hi:Nat,e = .returned (.tuple #[.int .u64 lo,.int .u64 hi])/\lo < 18446744073709551616/\hi < 18446744073709551616/\Hid (lo+18446744073709551616*hi=a*b+c+d)/\w'=w:=by
 have C:=zho a b ha hb w;have hq:=zhi ha hb;generalize a*b=q at *;obtain⟨v1,v2,v3,v4⟩:=zjC q c d hq hc hd;obtain⟨h,eh⟩:∃h,q / 18446744073709551616=h:=⟨_,rfl⟩;obtain⟨l,el⟩:∃l,q % 18446744073709551616=l:=⟨_,rfl⟩;rw[eh,el] at C;obtain⟨s1,k1,h1,es1,ek1⟩:=zbl l c 0 (by omega);rw[show ((0:Nat):Int)=0 from rfl] at h1;obtain⟨s2,k2,h2,es2,ek2⟩:=zbl s1 d 0 (by omega);rw[show ((0:Nat):Int)=0 from rfl] at h2;clear v1 v2 v3 v4;obtain⟨g,hg⟩:∃g,h+k1=g:=⟨_,rfl⟩;obtain⟨t,ht⟩:∃t,g+k2=t:=⟨_,rfl⟩;have fin:Hid (s2 < 18446744073709551616/\t < 18446744073709551616/\s2+18446744073709551616*t=q+c+d):=by refine⟨?_,?_,?_⟩ <;> omega
 have CH:Hid (Cl 348 #[.int .u64 a,.int .u64 b] w fun e w'=>e = .returned (.tuple #[.int .u64 h,.int .u64 l])/\w'=w):=C;have e1:IntKind.u64.wrap ((h:Int)+(k1:Int))=(g:Int):=by rw[IntKind.wrap_u64];omega
 have e2:IntKind.u64.wrap ((g:Int)+(k2:Int))=(t:Int):=by rw[IntKind.wrap_u64];omega
 clear es1 ek1 es2 ek2 eh el C hq ha hb hc hd hg ht;go_enter Tryz.func324, Tryz.ntmps324;go_wp2_with fail;refine cM CH.out ?_;rintro e w1 ⟨rfl,hw⟩;rw[hw];go_wp2;go_ret2;exact⟨s2,t,rfl,fin.out.1,fin.out.2.1,fin.out.2.2,rfl⟩
end Go.Proofs.YtjcppbhgjchjaaaGreatDoor.Crv
namespace Go.Proofs.Fd
open Go.RowKit
end Go.Proofs.Fd
namespace Go.Proofs.YtjcppbhgjchjaaaGreatDoor.Crv
open Go.RowKit Go.Proofs.Fd
attribute [local go_sem ↓] Go.wp_at_zero Go.wp_at_succ
theorem zcI (a0 a1 a2 a3 h:Nat) (ha:Hid (u4 a0 a1 a2 a3)) (hh:h<=38) (w:Wo) :
  Cl 325 #[.agg #[.int .u64 a0,.int .u64 a1,.int .u64 a2,.int .u64 a3],.int .u64 h] w fun e w' =>
   ∃c0 c1 c2 c3:Nat,e = .returned (.agg #[.int .u64 c0,.int .u64 c1,.int .u64 c2,.int .u64 c3])/\u4 c0 c1 c2 c3/\v4 c0 c1 c2 c3=(v4 a0 a1 a2 a3+h*zas) % p/\Below w.heap.size w w':=by
 have ha':=ha.out;unfold u4 at ha';obtain⟨sv1,sv2,sv3⟩:=zgz a0 a1 a2 a3 h ha.out hh;obtain⟨m,em⟩:∃m,a3 % 9223372036854775808=m:=⟨_,rfl⟩;obtain⟨o,eo⟩:∃o,h*2+a3 / 9223372036854775808=o:=⟨_,rfl⟩;obtain⟨t,et⟩:∃t,19*o=t:=⟨_,rfl⟩;have e1:bits .or .u64 ((h:Int)*2) ((a3:Int) / 9223372036854775808)=(o:Int):=by
  have q:=bits_or_u64_nat (h*2) (a3 / 9223372036854775808) (by omega) (by omega);rw[zhj _ _ (by omega),eo] at q;rw[<-q];congr 1
 have e2:IntKind.u64.wrap (19*(o:Int))=(t:Int):=by rw[IntKind.wrap_u64];omega
 have e3:bits .and .u64 (a3:Int) 9223372036854775807=(m:Int):=by
  have q:=bits_and_u64_nat a3 9223372036854775807 (by omega) (by omega);have e:a3 &&& 9223372036854775807=a3 % 9223372036854775808:=Nat.and_two_pow_sub_one_eq_mod a3 63;rw[e,em] at q;exact q
 rw[em,eo,et] at sv1 sv2 sv3;have um:Hid (u4 a0 a1 a2 m):=⟨by omega,by omega,by omega,by omega⟩;have ut:Hid (u4 t 0 0 0):=⟨by omega,by omega,by omega,by omega⟩;have S:Hid (∀w,Cl 362 #[.agg #[.int .u64 a0,.int .u64 a1,.int .u64 a2,.int .u64 m],.agg #[.int .u64 t,.int .u64 0,.int .u64 0,.int .u64 0]] w fun e w' =>
   ∃c0 c1 c2 c3:Nat,e = .returned (.agg #[.int .u64 c0,.int .u64 c1,.int .u64 c2,.int .u64 c3])/\u4 c0 c1 c2 c3/\v4 c0 c1 c2 c3=(v4 a0 a1 a2 m+v4 t 0 0 0) % zas/\Below w.heap.size w w') :=
  fun w=>zhn a0 a1 a2 m t 0 0 0 um ut w
 have SV:Hid (_/\_/\_):=⟨sv1,sv2,sv3⟩;clear sv1 sv2 sv3 em eo et ha' um ut;go_enter Tryz.func325, Tryz.ntmps325;go_wp2_with fail;refine cM (S.out _) ?_;rintro e w1 ⟨c0,c1,c2,c3,rfl,uc,vc,hb⟩;have f0:∀o,w1.frozen? ⟨w.heap.size,o,none⟩=false:=fun o=>by rw[zae hb (by simp;omega)];simp[go_sem]
 have g0:w1.cell? ⟨w.heap.size,0,none⟩=some (.int .u64 a0):=by rw[zaj hb (by simp;omega)];simp[go_sem]
 have g1:w1.cell? ⟨w.heap.size,1,none⟩=some (.int .u64 a1):=by rw[zaj hb (by simp;omega)];simp[go_sem]
 have g2:w1.cell? ⟨w.heap.size,2,none⟩=some (.int .u64 a2):=by rw[zaj hb (by simp;omega)];simp[go_sem]
 have g3:w1.cell? ⟨w.heap.size,3,none⟩=some (.int .u64 a3):=by rw[zaj hb (by simp;omega)];simp[go_sem]
 have hz:w.heap.size+1 < w1.heap.size:=by have:=hb.size;simp at this;omega
 have UC:Hid (u4 c0 c1 c2 c3):=uc;have VC:Hid (_=_):=vc;have HB:Hid (Below _ _ _):=hb;clear uc vc;have rf:∀o,w1.frozen? ⟨w.heap.size+1,o,none⟩=false:=fun o=>by rw[zae hb (by simp)];simp[go_sem]
 have r0:w1.cell? ⟨w.heap.size+1,0,none⟩=some (.int .u64 0):=by rw[zaj hb (by simp)];simp[go_sem]
 have r1:w1.cell? ⟨w.heap.size+1,1,none⟩=some (.int .u64 0):=by rw[zaj hb (by simp)];simp[go_sem]
 have r2:w1.cell? ⟨w.heap.size+1,2,none⟩=some (.int .u64 0):=by rw[zaj hb (by simp)];simp[go_sem]
 have r3:w1.cell? ⟨w.heap.size+1,3,none⟩=some (.int .u64 0):=by rw[zaj hb (by simp)];simp[go_sem]
 clear hb;go_wp2_with fail;refine cM (zdV c0 c1 c2 c3 UC _) ?_;rintro e w2 ⟨rfl,hb2⟩;have f0':∀o,w2.frozen? ⟨w.heap.size,o,none⟩=false:=fun o=>by rw[zae hb2 (by simp;omega)];simp[go_sem,f0]
 have g0':w2.cell? ⟨w.heap.size,0,none⟩=some (.int .u64 c0):=by rw[zaj hb2 (by simp;omega)];simp[go_sem,g0]
 have g1':w2.cell? ⟨w.heap.size,1,none⟩=some (.int .u64 c1):=by rw[zaj hb2 (by simp;omega)];simp[go_sem,g1]
 have g2':w2.cell? ⟨w.heap.size,2,none⟩=some (.int .u64 c2):=by rw[zaj hb2 (by simp;omega)];simp[go_sem,g2]
 have g3':w2.cell? ⟨w.heap.size,3,none⟩=some (.int .u64 c3):=by rw[zaj hb2 (by simp;omega)];simp[go_sem,g3]
 have rf':∀o,w2.frozen? ⟨w.heap.size+1,o,none⟩=false:=fun o=>by rw[zae hb2 (by simp;omega)];simp[go_sem,rf]
 have r0':w2.cell? ⟨w.heap.size+1,0,none⟩=some (.int .u64 0):=by rw[zaj hb2 (by simp;omega)];simp[go_sem,r0]
 have r1':w2.cell? ⟨w.heap.size+1,1,none⟩=some (.int .u64 0):=by rw[zaj hb2 (by simp;omega)];simp[go_sem,r1]
 have r2':w2.cell? ⟨w.heap.size+1,2,none⟩=some (.int .u64 0):=by rw[zaj hb2 (by simp;omega)];simp[go_sem,r2]
 have r3':w2.cell? ⟨w.heap.size+1,3,none⟩=some (.int .u64 0):=by rw[zaj hb2 (by simp;omega)];simp[go_sem,r3]
 have hz2:w.heap.size+1 < w2.heap.size:=by have:=hb2.size;simp at this;omega
 have B2:Hid (Below w.heap.size w w2):=by
  have b1:Below w.heap.size w w1:=(((bQ _ w).alloc (nL _) _).alloc (by simp) _).trans (HB.out.mono (by simp;omega));refine Below.trans ((((b1.setCell (by simp) _).setCell (by simp) _).setCell (by simp) _).setCell (by simp) _) (hb2.mono ?_);simp;omega
 clear hb2 g0 g1 g2 g3 f0 r0 r1 r2 r3 rf HB hz;by_cases hlt:v4 c0 c1 c2 c3 < p
 ·have hd:decide (v4 c0 c1 c2 c3 < p)=true:=by simpa using hlt
  have fin:Hid (v4 c0 c1 c2 c3=(v4 a0 a1 a2 a3+h*zas) % p):=by
   show v4 c0 c1 c2 c3=_;have q1:=SV.out.1;have q3:=SV.out.2.2;have q:=VC.out;rw[q1] at q;rw[<-q3,<-q,Nat.mod_eq_of_lt hlt]
  clear hlt;go_wp2;exact bodyPost_ret (v := .agg #[.int .u64 c0,.int .u64 c1,.int .u64 c2,.int .u64 c3]) (by simp[results,Tryz.results325, go_sem, *]) rfl ⟨c0,c1,c2,c3,rfl,UC.out,fin.out,(((B2.out.setCell (by simp) _).setCell (by simp) _).setCell (by simp) _).setCell (by simp) _⟩
 ·have hd:decide (v4 c0 c1 c2 c3 < p)=false:=by simpa using hlt
  have HLT:Hid (¬v4 c0 c1 c2 c3 < p):=hlt;clear hlt;go_wp2;have n00:¬(w.heap.size=w2.heap.size):=by omega
  have n00':¬(w2.heap.size=w.heap.size):=by omega
  have n01:¬(w.heap.size=w2.heap.size+1):=by omega
  have n01':¬(w2.heap.size+1=w.heap.size):=by omega
  have n02:¬(w.heap.size=w2.heap.size+1+1):=by omega
  have n02':¬(w2.heap.size+1+1=w.heap.size):=by omega
  have n03:¬(w.heap.size=w2.heap.size+1+1+1):=by omega
  have n03':¬(w2.heap.size+1+1+1=w.heap.size):=by omega
  have n04:¬(w.heap.size=w2.heap.size+1+1+1+1):=by omega
  have n04':¬(w2.heap.size+1+1+1+1=w.heap.size):=by omega
  have n05:¬(w.heap.size=w2.heap.size+1+1+1+1+1):=by omega
  have n05':¬(w2.heap.size+1+1+1+1+1=w.heap.size):=by omega
  have n10:¬(w.heap.size+1=w2.heap.size):=by omega
  have n10':¬(w2.heap.size=w.heap.size+1):=by omega
  have n11:¬(w.heap.size+1=w2.heap.size+1):=by omega
  have n11':¬(w2.heap.size+1=w.heap.size+1):=by omega
  have n12:¬(w.heap.size+1=w2.heap.size+1+1):=by omega
  have n12':¬(w2.heap.size+1+1=w.heap.size+1):=by omega
  have n13:¬(w.heap.size+1=w2.heap.size+1+1+1):=by omega
  have n13':¬(w2.heap.size+1+1+1=w.heap.size+1):=by omega
  have n14:¬(w.heap.size+1=w2.heap.size+1+1+1+1):=by omega
  have n14':¬(w2.heap.size+1+1+1+1=w.heap.size+1):=by omega
  have n15:¬(w.heap.size+1=w2.heap.size+1+1+1+1+1):=by omega
  have n15':¬(w2.heap.size+1+1+1+1+1=w.heap.size+1):=by omega
  go_cut [6] (fun s6 wx=>∃g d0 d1 d2 d3:Nat,s6 = .pointer (some ⟨g,0,none⟩)/\wx.cell? ⟨g,0,none⟩=some (.int .u64 d0)/\wx.cell? ⟨g,1,none⟩=some (.int .u64 d1)/\wx.cell? ⟨g,2,none⟩=some (.int .u64 d2)/\wx.cell? ⟨g,3,none⟩=some (.int .u64 d3)
   /\ wx.cell? ⟨w.heap.size+1,0,none⟩=some (.int .u64 0)/\wx.cell? ⟨w.heap.size+1,1,none⟩=some (.int .u64 0)/\wx.cell? ⟨w.heap.size+1,2,none⟩=some (.int .u64 0)/\wx.cell? ⟨w.heap.size+1,3,none⟩=some (.int .u64 0)
   /\ (∀o,wx.frozen? ⟨w.heap.size+1,o,none⟩=false)/\Hid (u4 d0 d1 d2 d3/\v4 d0 d1 d2 d3=(v4 a0 a1 a2 a3+h*zas) % p/\Below w.heap.size w wx))
  case first =>
   go_region_held3 (fun w'=>w'.cell? ⟨w.heap.size,0,none⟩=some (.int .u64 c0)/\w'.cell? ⟨w.heap.size,1,none⟩=some (.int .u64 c1)/\w'.cell? ⟨w.heap.size,2,none⟩=some (.int .u64 c2)/\w'.cell? ⟨w.heap.size,3,none⟩=some (.int .u64 c3)) ((first|(go_keep;done)|((try dsimp only);(repeat' apply And.intro);all_goals ((try simp only[World.cell?_drew]);(repeat (refine zab ?_));(first|with_reducible assumption|(refine zaa ?_ ?_;with_reducible assumption;(simp;omega))))))) (first|(go_at_call 365;refine cM (zdU _) ?_;rintro e w3 ⟨rfl,rfl⟩)|(go_at_call 364;refine cM (zfC c0 c1 c2 c3 18446744073709551597 18446744073709551615 18446744073709551615 9223372036854775807 UC (by unfold Hid u4;omega) _) ?_;rintro e w4 ⟨d0,d1,d2,d3,rfl,ud,vd,rfl⟩))
   all_goals
    have fin:Hid (v4 d0 d1 d2 d3=(v4 a0 a1 a2 a3+h*zas) % p):=by
     show v4 d0 d1 d2 d3=_;have q1:=SV.out.1;have q2:=SV.out.2.1;have q3:=SV.out.2.2;have q:=VC.out;rw[q1] at q;rw[vd,zfB,zeO HLT.out (by rw[q];exact q2),q,q3]
    have UD:Hid (u4 d0 d1 d2 d3):=ud;clear vd ud;go_wp2_with fail;go_meet
    case rel =>
     refine⟨_,d0,d1,d2,d3,rfl,?_,?_,?_,?_,?_,?_,?_,?_,?_,UD.out,fin.out,?_⟩
     all_goals first
      | (simp[go_sem, *];done)
      | (refine cell_later (w:=w2) ?_ (by first|exact r0'|exact r1'|exact r2'|exact r3');(repeat (first|exact bQ _ _|refine Below.setCell ?_ (by simp;try omega) _|refine Below.drew ?_|refine Below.alloc ?_ (by simp;try omega) _));done)
      | (intro o;refine Eq.trans (Below.frozen (B:=w2.heap.size) (w:=w2) ?_ ?_) (rf' o);(repeat (first|exact bQ _ _|refine Below.setCell ?_ (by simp;try omega) _|refine Below.drew ?_|refine Below.alloc ?_ (by simp;try omega) _));(simp;omega);done)
      | (refine B2.out.trans (Below.mono (B:=w2.heap.size) ?_ (by omega));(repeat (first|exact bQ _ _|refine Below.setCell ?_ (by simp;try omega) _|refine Below.drew ?_|refine Below.alloc ?_ (by simp;try omega) _));done)
  case rest =>
   obtain⟨g,d0,d1,d2,d3,rfl,y0,y1,y2,y3,z0,z1,z2,z3,zf,HF⟩:=hcut;go_wp2;refine bodyPost_ret (v := .agg #[.int .u64 d0,.int .u64 d1,.int .u64 d2,.int .u64 d3]) (by simp[results,Tryz.results325, go_sem, *]) rfl ⟨d0,d1,d2,d3,rfl,HF.out.1,HF.out.2.1,?_⟩
   repeat (first|exact HF.out.2.2|refine Below.setCell ?_ (by simp) _)
attribute [local go_sem ↓] Go.wp_at_zero Go.wp_at_succ
theorem zfD (w0 w1 w2 w3 w4 w5 w6 w7:Nat) (hw:Hid (u4 w0 w1 w2 w3)) (hv:Hid (u4 w4 w5 w6 w7)) (w:Wo) :
  Cl 270 #[.agg #[.int .u64 w0,.int .u64 w1,.int .u64 w2,.int .u64 w3,.int .u64 w4,.int .u64 w5,.int .u64 w6,.int .u64 w7]] w fun e w' =>
   ∃c0 c1 c2 c3:Nat,e = .returned (.agg #[.int .u64 c0,.int .u64 c1,.int .u64 c2,.int .u64 c3])/\u4 c0 c1 c2 c3/\v4 c0 c1 c2 c3=(v4 w0 w1 w2 w3+zas*v4 w4 w5 w6 w7) % p/\Below w.heap.size w w':=by
 obtain⟨h0,h1,h2,h3⟩:=hw.out;obtain⟨h4,h5,h6,h7⟩:=hv.out;have t0:IntKind.i64.wrap (0+4)=4:=by decide
 have s0:IntKind.i64.wrap 4=4:=by decide
 have t1:IntKind.i64.wrap (1+4)=5:=by decide
 have s1:IntKind.i64.wrap 5=5:=by decide
 have t2:IntKind.i64.wrap (2+4)=6:=by decide
 have s2:IntKind.i64.wrap 6=6:=by decide
 have t3:IntKind.i64.wrap (3+4)=7:=by decide
 have s3:IntKind.i64.wrap 7=7:=by decide
 go_enter Tryz.func270, Tryz.ntmps270;go_wp2;refine wp_loop_rounds 5 ?_;rw[rounds_succ];go_wp2;go_region_held3 (fun w'=>w'.cell? ⟨w.heap.size,0,none⟩=some (.int .u64 w0)/\w'.cell? ⟨w.heap.size,4,none⟩=some (.int .u64 w4)) (go_keep) (first|(go_at_call 324;refine cM (zai 38 w4 w0 0 (by omega) (by omega) (by omega) (by omega) _) ?_;rintro e w' ⟨l0,k1,rfl,u0,x0,e0,rfl⟩));go_wp2;rw[rounds_succ];go_wp2;go_region_held3 (fun w'=>w'.cell? ⟨w.heap.size,1,none⟩=some (.int .u64 w1)/\w'.cell? ⟨w.heap.size,5,none⟩=some (.int .u64 w5)) (go_keep) (first|(go_at_call 324;refine cM (zai 38 w5 w1 k1 (by omega) (by omega) (by omega) (by omega) _) ?_;rintro e w' ⟨l1,k2,rfl,u1,x1,e1,rfl⟩));go_wp2;rw[rounds_succ];go_wp2;go_region_held3 (fun w'=>w'.cell? ⟨w.heap.size,2,none⟩=some (.int .u64 w2)/\w'.cell? ⟨w.heap.size,6,none⟩=some (.int .u64 w6)) (go_keep) (first|(go_at_call 324;refine cM (zai 38 w6 w2 k2 (by omega) (by omega) (by omega) (by omega) _) ?_;rintro e w' ⟨l2,k3,rfl,u2,x2,e2,rfl⟩));go_wp2;rw[rounds_succ];go_wp2;go_region_held3 (fun w'=>w'.cell? ⟨w.heap.size,3,none⟩=some (.int .u64 w3)/\w'.cell? ⟨w.heap.size,7,none⟩=some (.int .u64 w7)) (go_keep) (first|(go_at_call 324;refine cM (zai 38 w7 w3 k3 (by omega) (by omega) (by omega) (by omega) _) ?_;rintro e w' ⟨l3,k4,rfl,u3,x3,e3,rfl⟩));go_wp2;rw[rounds_succ];go_wp2_with fail
 have UL:Hid (u4 l0 l1 l2 l3):=⟨u0,u1,u2,u3⟩;obtain⟨hk,fv⟩:=zjE w0 w1 w2 w3 w4 w5 w6 w7 l0 l1 l2 l3 k1 k2 k3 k4 hw.out hv.out UL.out e0.out e1.out e2.out e3.out;refine cM (zcI l0 l1 l2 l3 k4 UL hk _) ?_;rintro e wz ⟨c0,c1,c2,c3,rfl,uc,vc,hb⟩;obtain⟨rf,r0,r1,r2,r3⟩:=At4.later (b:=w.heap.size+1) (x0 := .int .u64 0) (x1 := .int .u64 0) (x2 := .int .u64 0) (x3 := .int .u64 0) (by simp[At4,go_sem]) hb;have HF:Hid (u4 c0 c1 c2 c3/\v4 c0 c1 c2 c3=(v4 w0 w1 w2 w3+zas*v4 w4 w5 w6 w7) % p/\Below w.heap.size w wz):=by
  refine⟨uc,vc.trans fv,?_⟩;refine chain ?_ hb
  repeat (first|exact bQ _ _|refine Below.setCell ?_ (by simp;try omega) _|refine Below.drew ?_|refine Below.alloc ?_ (by simp;try omega) _)
 clear uc vc hb fv e0 e1 e2 e3;go_wp2;refine bodyPost_ret (v := .agg #[.int .u64 c0,.int .u64 c1,.int .u64 c2,.int .u64 c3]) (by simp[results,Tryz.results270, go_sem, *]) rfl ⟨c0,c1,c2,c3,rfl,HF.out.1,HF.out.2.1,?_⟩
 repeat (first|exact HF.out.2.2|refine Below.setCell ?_ (by simp) _)
theorem zeS (a0 a1 a2 a3 b0 b1 b2 b3:Nat) (ha:Hid (u4 a0 a1 a2 a3)) (hb:Hid (u4 b0 b1 b2 b3)) (w:Wo) :
  Cl 356 #[.agg #[.int .u64 a0,.int .u64 a1,.int .u64 a2,.int .u64 a3],.agg #[.int .u64 b0,.int .u64 b1,.int .u64 b2,.int .u64 b3]] w fun e w' =>
   ∃c0 c1 c2 c3:Nat,e = .returned (.agg #[.int .u64 c0,.int .u64 c1,.int .u64 c2,.int .u64 c3])/\u4 c0 c1 c2 c3/\v4 c0 c1 c2 c3=(v4 a0 a1 a2 a3*v4 b0 b1 b2 b3) % p/\Below w.heap.size w w':=by
 obtain⟨ha0,ha1,ha2,ha3⟩:=ha.out;obtain⟨hb0,hb1,hb2,hb3⟩:=hb.out;have ia0:∀w,(Instr.index 283 (.agg #[.int .u64 a0,.int .u64 a1,.int .u64 a2,.int .u64 a3]) (.int .i64 0)).run Tryz.prog w = .ok (.int .u64 a0) w:=fun _=>by kernel_rfl
 have ia1:∀w,(Instr.index 283 (.agg #[.int .u64 a0,.int .u64 a1,.int .u64 a2,.int .u64 a3]) (.int .i64 1)).run Tryz.prog w = .ok (.int .u64 a1) w:=fun _=>by kernel_rfl
 have ia2:∀w,(Instr.index 283 (.agg #[.int .u64 a0,.int .u64 a1,.int .u64 a2,.int .u64 a3]) (.int .i64 2)).run Tryz.prog w = .ok (.int .u64 a2) w:=fun _=>by kernel_rfl
 have ia3:∀w,(Instr.index 283 (.agg #[.int .u64 a0,.int .u64 a1,.int .u64 a2,.int .u64 a3]) (.int .i64 3)).run Tryz.prog w = .ok (.int .u64 a3) w:=fun _=>by kernel_rfl
 have ib0:∀w,(Instr.index 283 (.agg #[.int .u64 b0,.int .u64 b1,.int .u64 b2,.int .u64 b3]) (.int .i64 0)).run Tryz.prog w = .ok (.int .u64 b0) w:=fun _=>by kernel_rfl
 have ib1:∀w,(Instr.index 283 (.agg #[.int .u64 b0,.int .u64 b1,.int .u64 b2,.int .u64 b3]) (.int .i64 1)).run Tryz.prog w = .ok (.int .u64 b1) w:=fun _=>by kernel_rfl
 have ib2:∀w,(Instr.index 283 (.agg #[.int .u64 b0,.int .u64 b1,.int .u64 b2,.int .u64 b3]) (.int .i64 2)).run Tryz.prog w = .ok (.int .u64 b2) w:=fun _=>by kernel_rfl
 have ib3:∀w,(Instr.index 283 (.agg #[.int .u64 b0,.int .u64 b1,.int .u64 b2,.int .u64 b3]) (.int .i64 3)).run Tryz.prog w = .ok (.int .u64 b3) w:=fun _=>by kernel_rfl
 go_enter Tryz.func356, Tryz.ntmps356;go_wp2;refine wp_loop_rounds 5 ?_;rw[rounds_succ];go_wp2;refine wp_loop_rounds 5 ?_;rw[rounds_succ];go_wp2_with fail;refine cM (zai a0 b0 0 0 (by omega) (by omega) (by omega) (by omega) _) ?_;rintro e w' ⟨l00,k00,rfl,ul00,uk00,e00,hw⟩;subst hw;go_wp2;rw[rounds_succ];go_wp2_with fail;refine cM (zai a0 b1 0 k00 (by omega) (by omega) (by omega) (by omega) _) ?_;rintro e w' ⟨l01,k01,rfl,ul01,uk01,e01,hw⟩;subst hw;go_wp2;rw[rounds_succ];go_wp2_with fail;refine cM (zai a0 b2 0 k01 (by omega) (by omega) (by omega) (by omega) _) ?_;rintro e w' ⟨l02,k02,rfl,ul02,uk02,e02,hw⟩;subst hw;go_wp2;rw[rounds_succ];go_wp2_with fail;refine cM (zai a0 b3 0 k02 (by omega) (by omega) (by omega) (by omega) _) ?_;rintro e w' ⟨l03,k03,rfl,ul03,uk03,e03,hw⟩;subst hw;go_wp2;rw[rounds_succ];go_wp2;rw[rounds_succ];go_wp2;refine wp_loop_rounds 5 ?_;rw[rounds_succ];go_wp2_with fail;refine cM (zai a1 b0 l01 0 (by omega) (by omega) (by omega) (by omega) _) ?_;rintro e w' ⟨l10,k10,rfl,ul10,uk10,e10,hw⟩;subst hw;go_wp2;rw[rounds_succ];go_wp2_with fail;refine cM (zai a1 b1 l02 k10 (by omega) (by omega) (by omega) (by omega) _) ?_;rintro e w' ⟨l11,k11,rfl,ul11,uk11,e11,hw⟩;subst hw;go_wp2;rw[rounds_succ];go_wp2_with fail;refine cM (zai a1 b2 l03 k11 (by omega) (by omega) (by omega) (by omega) _) ?_;rintro e w' ⟨l12,k12,rfl,ul12,uk12,e12,hw⟩;subst hw;go_wp2;rw[rounds_succ]
 go_wp2_with fail;refine cM (zai a1 b3 k03 k12 (by omega) (by omega) (by omega) (by omega) _) ?_;rintro e w' ⟨l13,k13,rfl,ul13,uk13,e13,hw⟩;subst hw;go_wp2;rw[rounds_succ];go_wp2;rw[rounds_succ];go_wp2;refine wp_loop_rounds 5 ?_;rw[rounds_succ];go_wp2_with fail;refine cM (zai a2 b0 l11 0 (by omega) (by omega) (by omega) (by omega) _) ?_;rintro e w' ⟨l20,k20,rfl,ul20,uk20,e20,hw⟩;subst hw;go_wp2;rw[rounds_succ];go_wp2_with fail;refine cM (zai a2 b1 l12 k20 (by omega) (by omega) (by omega) (by omega) _) ?_;rintro e w' ⟨l21,k21,rfl,ul21,uk21,e21,hw⟩;subst hw;go_wp2;rw[rounds_succ];go_wp2_with fail;refine cM (zai a2 b2 l13 k21 (by omega) (by omega) (by omega) (by omega) _) ?_;rintro e w' ⟨l22,k22,rfl,ul22,uk22,e22,hw⟩;subst hw;go_wp2;rw[rounds_succ];go_wp2_with fail;refine cM (zai a2 b3 k13 k22 (by omega) (by omega) (by omega) (by omega) _) ?_;rintro e w' ⟨l23,k23,rfl,ul23,uk23,e23,hw⟩;subst hw;go_wp2;rw[rounds_succ];go_wp2;rw[rounds_succ];go_wp2;refine wp_loop_rounds 5 ?_;rw[rounds_succ];go_wp2_with fail;refine cM (zai a3 b0 l21 0 (by omega) (by omega) (by omega) (by omega) _) ?_;rintro e w' ⟨l30,k30,rfl,ul30,uk30,e30,hw⟩;subst hw;go_wp2;rw[rounds_succ];go_wp2_with fail;refine cM (zai a3 b1 l22 k30 (by omega) (by omega) (by omega) (by omega) _) ?_;rintro e w' ⟨l31,k31,rfl,ul31,uk31,e31,hw⟩;subst hw;go_wp2;rw[rounds_succ];go_wp2_with fail;refine cM (zai a3 b2 l23 k31 (by omega) (by omega) (by omega) (by omega) _) ?_
 rintro e w' ⟨l32,k32,rfl,ul32,uk32,e32,hw⟩;subst hw;go_wp2;rw[rounds_succ];go_wp2_with fail;refine cM (zai a3 b3 k23 k32 (by omega) (by omega) (by omega) (by omega) _) ?_;rintro e w' ⟨l33,k33,rfl,ul33,uk33,e33,hw⟩;subst hw;go_wp2;rw[rounds_succ];go_wp2;rw[rounds_succ];go_wp2_with fail;have UL:Hid (u4 l00 l10 l20 l30):=⟨ul00,ul10,ul20,ul30⟩;have UH:Hid (u4 l31 l32 l33 k33):=⟨ul31,ul32,ul33,uk33⟩;have q0:=zc3 a0 b0 b1 b2 b3 0 0 0 0 l00 l01 l02 l03 k00 k01 k02 k03 e00.out e01.out e02.out e03.out;have q1:=zc3 a1 b0 b1 b2 b3 l01 l02 l03 k03 l10 l11 l12 l13 k10 k11 k12 k13 e10.out e11.out e12.out e13.out;have q2:=zc3 a2 b0 b1 b2 b3 l11 l12 l13 k13 l20 l21 l22 l23 k20 k21 k22 k23 e20.out e21.out e22.out e23.out;have q3:=zc3 a3 b0 b1 b2 b3 l21 l22 l23 k23 l30 l31 l32 l33 k30 k31 k32 k33 e30.out e31.out e32.out e33.out;have fv:=zme a0 a1 a2 a3 _ _ _ _ _ _ _ _ _ _ _ _ _ _ _ _ _ _ _ _ _ q0 q1 q2 q3;refine cM (zfD l00 l10 l20 l30 l31 l32 l33 k33 UL UH _) ?_;rintro e wz ⟨c0,c1,c2,c3,rfl,uc,vc,hz⟩;obtain⟨rf,r0,r1,r2,r3⟩:=At4.later (b:=w.heap.size+1+1) (x0 := .int .u64 0) (x1 := .int .u64 0) (x2 := .int .u64 0) (x3 := .int .u64 0) (by simp[At4,go_sem]) hz;have HF:Hid (u4 c0 c1 c2 c3/\v4 c0 c1 c2 c3=(v4 a0 a1 a2 a3*v4 b0 b1 b2 b3) % p/\Below w.heap.size w wz):=by
  refine⟨uc,by rw[vc,fv],?_⟩;refine chain ?_ hz
  repeat (first|exact bQ _ _|refine Below.setCell ?_ (by simp;try omega) _|refine Below.drew ?_|refine Below.alloc ?_ (by simp;try omega) _)
 clear uc vc hz fv q0 q1 q2 q3;go_wp2;refine bodyPost_ret (v := .agg #[.int .u64 c0,.int .u64 c1,.int .u64 c2,.int .u64 c3]) (by simp[results,Tryz.results356, go_sem, *]) rfl ⟨c0,c1,c2,c3,rfl,HF.out.1,HF.out.2.1,?_⟩
 repeat (first|exact HF.out.2.2|refine Below.setCell ?_ (by simp;try omega) _)
attribute [local go_sem ↓] Go.wp_at_zero Go.wp_at_succ
theorem zmn (a0 a1 a2 a3 b0 b1 b2 b3:Nat) (ha:Hid (u4 a0 a1 a2 a3)) (hb:Hid (u4 b0 b1 b2 b3)) (pa:Hid (v4 a0 a1 a2 a3 < p)) (pb:Hid (v4 b0 b1 b2 b3 < p)) (w:Wo) :
  Cl 358 #[.agg #[.int .u64 a0,.int .u64 a1,.int .u64 a2,.int .u64 a3],.agg #[.int .u64 b0,.int .u64 b1,.int .u64 b2,.int .u64 b3]] w fun e w' =>
   ∃c0 c1 c2 c3:Nat,e = .returned (.agg #[.int .u64 c0,.int .u64 c1,.int .u64 c2,.int .u64 c3])/\u4 c0 c1 c2 c3/\v4 c0 c1 c2 c3=(v4 a0 a1 a2 a3+v4 b0 b1 b2 b3) % p/\Below w.heap.size w w':=by
 have S0:Hid (∀c0 c1 c2 c3,Hid (u4 c0 c1 c2 c3)->∀w,Cl 325 #[.agg #[.int .u64 (c0:Nat),.int .u64 (c1:Nat),.int .u64 (c2:Nat),.int .u64 (c3:Nat)],.int .u64 0] w fun e w' =>
   ∃d0 d1 d2 d3:Nat,e = .returned (.agg #[.int .u64 d0,.int .u64 d1,.int .u64 d2,.int .u64 d3])/\u4 d0 d1 d2 d3/\v4 d0 d1 d2 d3=(v4 c0 c1 c2 c3+0*zas) % p/\Below w.heap.size w w') :=
  fun c0 c1 c2 c3 hc w=>zcI c0 c1 c2 c3 0 hc (by omega) w
 go_enter Tryz.func358, Tryz.ntmps358;go_wp2_with fail;refine cM (zhn a0 a1 a2 a3 b0 b1 b2 b3 ha hb _) ?_;rintro e w1 ⟨c0,c1,c2,c3,rfl,uc,vc,hb1⟩;have UC:Hid (u4 c0 c1 c2 c3):=uc;have VC:Hid (v4 c0 c1 c2 c3=(v4 a0 a1 a2 a3+v4 b0 b1 b2 b3) % zas):=vc;have A1:Hid (At4 w1 (w.heap.size+1+1) (.int .u64 0) (.int .u64 0) (.int .u64 0) (.int .u64 0)/\Below w.heap.size w w1) :=
  ⟨At4.later (by simp[At4,go_sem]) hb1,chain ((((bQ _ _).alloc (nL _) _).alloc (by simp) _).alloc (by simp;omega) _) hb1⟩
 clear uc vc hb1;go_wp2_with fail;refine cM (S0.out c0 c1 c2 c3 UC _) ?_;rintro e w2 ⟨d0,d1,d2,d3,rfl,ud,vd,hb2⟩;obtain⟨rf,r0,r1,r2,r3⟩:=At4.later A1.out.1 hb2;have HF:Hid (u4 d0 d1 d2 d3/\v4 d0 d1 d2 d3=(v4 a0 a1 a2 a3+v4 b0 b1 b2 b3) % p/\Below w.heap.size w w2) :=
  ⟨ud,by rw[vd,VC.out];exact zjF pa.out pb.out,chain A1.out.2 hb2⟩
 clear ud vd hb2 A1 S0;go_wp2;refine bodyPost_ret (v := .agg #[.int .u64 d0,.int .u64 d1,.int .u64 d2,.int .u64 d3]) (by simp[results,Tryz.results358, go_sem, *]) rfl ⟨d0,d1,d2,d3,rfl,HF.out.1,HF.out.2.1,?_⟩
 repeat (first|exact HF.out.2.2|refine Below.setCell ?_ (by simp;try omega) _)
theorem zmo (a0 a1 a2 a3 b0 b1 b2 b3:Nat) (ha:Hid (u4 a0 a1 a2 a3)) (hb:Hid (u4 b0 b1 b2 b3)) (pa:Hid (v4 a0 a1 a2 a3 < p)) (pb:Hid (v4 b0 b1 b2 b3 < p)) (w:Wo) :
  Cl 357 #[.agg #[.int .u64 a0,.int .u64 a1,.int .u64 a2,.int .u64 a3],.agg #[.int .u64 b0,.int .u64 b1,.int .u64 b2,.int .u64 b3]] w fun e w' =>
   ∃c0 c1 c2 c3:Nat,e = .returned (.agg #[.int .u64 c0,.int .u64 c1,.int .u64 c2,.int .u64 c3])/\u4 c0 c1 c2 c3/\v4 c0 c1 c2 c3=(v4 a0 a1 a2 a3+p - v4 b0 b1 b2 b3) % p/\Below w.heap.size w w':=by
 have SP:Hid (∀c0 c1 c2 c3,Hid (u4 c0 c1 c2 c3)->∀w,Cl 362 #[.agg #[.int .u64 (c0:Nat),.int .u64 (c1:Nat),.int .u64 (c2:Nat),.int .u64 (c3:Nat)],.agg #[.int .u64 18446744073709551597,.int .u64 18446744073709551615,.int .u64 18446744073709551615,.int .u64 9223372036854775807]] w fun e w' =>
   ∃d0 d1 d2 d3:Nat,e = .returned (.agg #[.int .u64 d0,.int .u64 d1,.int .u64 d2,.int .u64 d3])/\u4 d0 d1 d2 d3/\v4 d0 d1 d2 d3=(v4 c0 c1 c2 c3+v4 18446744073709551597 18446744073709551615 18446744073709551615 9223372036854775807) % zas/\w'=((w.alloc (.cells #[.int .u64 c0,.int .u64 c1,.int .u64 c2,.int .u64 c3] 283)).alloc (.cells #[.int .u64 18446744073709551597,.int .u64 18446744073709551615,.int .u64 18446744073709551615,.int .u64 9223372036854775807] 283)).alloc (.cells #[.int .u64 d0,.int .u64 d1,.int .u64 d2,.int .u64 d3] 283)) :=
  fun c0 c1 c2 c3 hc w=>zlN c0 c1 c2 c3 18446744073709551597 18446744073709551615 18446744073709551615 9223372036854775807 hc (by unfold Hid u4;omega) w
 go_enter Tryz.func357, Tryz.ntmps357;go_wp2_with fail;refine cM (zfC a0 a1 a2 a3 b0 b1 b2 b3 ha hb _) ?_;rintro e w1 ⟨c0,c1,c2,c3,rfl,uc,vc,hw1⟩;subst hw1;have UC:Hid (u4 c0 c1 c2 c3):=uc;have VC:Hid (v4 c0 c1 c2 c3=(v4 a0 a1 a2 a3+zas - v4 b0 b1 b2 b3) % zas):=vc;clear uc vc;by_cases hlt:v4 a0 a1 a2 a3 < v4 b0 b1 b2 b3
 ·have hd:decide (v4 a0 a1 a2 a3 < v4 b0 b1 b2 b3)=true:=by simpa using hlt
  have HLT:Hid (v4 a0 a1 a2 a3 < v4 b0 b1 b2 b3):=hlt;clear hlt;go_wp2;go_region_held3 (fun w'=>w'.cell? ⟨w.heap.size+1+1+1+1+1+1,0,none⟩=some (.int .u64 c0)/\w'.cell? ⟨w.heap.size+1+1+1+1+1+1,1,none⟩=some (.int .u64 c1)/\w'.cell? ⟨w.heap.size+1+1+1+1+1+1,2,none⟩=some (.int .u64 c2)/\w'.cell? ⟨w.heap.size+1+1+1+1+1+1,3,none⟩=some (.int .u64 c3)) (first|(go_keep;done)|(simp[go_sem];done)) (first|(go_at_call 365;refine cM (zdU _) ?_;rintro e w3 ⟨rfl,rfl⟩)|(go_at_call 362;refine cM (SP.out c0 c1 c2 c3 UC _) ?_;rintro e w4 ⟨d0,d1,d2,d3,rfl,ud,vd,rfl⟩));have HF:Hid (u4 d0 d1 d2 d3/\v4 d0 d1 d2 d3=(v4 a0 a1 a2 a3+p - v4 b0 b1 b2 b3) % p) :=
   ⟨ud,by rw[vd,VC.out,zfB];exact zjG pb.out HLT.out⟩
  clear ud vd;go_wp2;refine bodyPost_ret (v := .agg #[.int .u64 d0,.int .u64 d1,.int .u64 d2,.int .u64 d3]) (by simp[results,Tryz.results357, go_sem, *]) rfl ⟨d0,d1,d2,d3,rfl,HF.out.1,HF.out.2,?_⟩
  repeat (first|exact bQ _ _|refine Below.setCell ?_ (by simp;try omega) _|refine Below.drew ?_|refine Below.alloc ?_ (by simp;try omega) _)
 ·have hd:decide (v4 a0 a1 a2 a3 < v4 b0 b1 b2 b3)=false:=by simpa using hlt
  have HF:Hid (v4 c0 c1 c2 c3=(v4 a0 a1 a2 a3+p - v4 b0 b1 b2 b3) % p):=VC.out.trans (zhk pa.out hlt);clear hlt SP;go_wp2;refine bodyPost_ret (v := .agg #[.int .u64 c0,.int .u64 c1,.int .u64 c2,.int .u64 c3]) (by simp[results,Tryz.results357, go_sem, *]) rfl ⟨c0,c1,c2,c3,rfl,UC.out,HF.out,?_⟩
  repeat (first|exact bQ _ _|refine Below.setCell ?_ (by simp;try omega) _|refine Below.drew ?_|refine Below.alloc ?_ (by simp;try omega) _)
end Go.Proofs.YtjcppbhgjchjaaaGreatDoor.Crv
namespace Go.Proofs.Fd
open Go.RowKit
end Go.Proofs.Fd
namespace Go.Proofs.YtjcppbhgjchjaaaGreatDoor.Crv
open Go.RowKit Go.Proofs.Fd
theorem zhp (n:Nat) (h:n=252\/n=250):ex (n+1)=2*ex n:=by show 2*ex n+(if n=252\/n=250 then 0 else 1)=_;rw[if_pos h];rfl
theorem zmp (n:Nat) (h:¬(n=252\/n=250)):ex (n+1)=2*ex n+1:=by show 2*ex n+(if n=252\/n=250 then 0 else 1)=_;rw[if_neg h]
def zqu (w wr:Wo) (a0 a1 a2 a3 s0 s1 s2 s3 n:Nat):Prop :=
 At4 wr w.heap.size (.int .u64 a0) (.int .u64 a1) (.int .u64 a2) (.int .u64 a3)/\At4 wr (w.heap.size+1) (.int .u64 0) (.int .u64 0) (.int .u64 0) (.int .u64 0)
  /\ At4 wr (w.heap.size+1+1) (.int .u64 s0) (.int .u64 s1) (.int .u64 s2) (.int .u64 s3)/\u4 s0 s1 s2 s3/\v4 s0 s1 s2 s3=v4 a0 a1 a2 a3 ^ (ex n) % p/\Below w.heap.size w wr
theorem zgB (a0 a1 a2 a3:Nat) (ha:Hid (u4 a0 a1 a2 a3)) (w:Wo) :
  Cl 360 #[.agg #[.int .u64 a0,.int .u64 a1,.int .u64 a2,.int .u64 a3]] w fun e w' =>
   ∃c0 c1 c2 c3:Nat,e = .returned (.agg #[.int .u64 c0,.int .u64 c1,.int .u64 c2,.int .u64 c3])/\u4 c0 c1 c2 c3/\v4 c0 c1 c2 c3=v4 a0 a1 a2 a3 ^ (p - 2) % p/\Below w.heap.size w w':=by
 go_enter Tryz.func360, Tryz.ntmps360;go_wp2;go_loopw [4] (fun i wr=>∃(n:Nat) (x:Int) (s0 s1 s2 s3:Nat),i = .int .i64 x/\Hid (x=254 - (n:Int)) /\ -1<=x/\x<=254/\Hid (zqu w wr a0 a1 a2 a3 s0 s1 s2 s3 n)) (fun i _=>(intOf i+1).toNat)
 case atStart =>
  refine⟨0,254,1,0,0,0,rfl,rfl,by omega,by omega,?_,?_,?_,?_,?_,?_⟩
  ·simp[At4,go_sem]
  ·simp[At4,go_sem]
  ·simp[At4,go_sem]
  ·unfold u4;omega
  ·simp only[ex,Nat.pow_zero];decide
  ·repeat (first|refine Below.setCell ?_ (by simp;try omega) _|refine Below.drew ?_|refine Below.alloc ?_ (by simp;try omega) _|exact bQ _ _)
 case round =>
  obtain⟨n,x,s0,s1,s2,s3,rfl,hx,lo,hi,I⟩:=hrel;by_cases hlt:x < 0
  ·have:Hid (n=255):=by have:=hx.out;show n=255;omega
   obtain⟨rf,r0,r1,r2,r3⟩:=I.out.2.1;obtain⟨qf,q0,q1,q2,q3⟩:=I.out.2.2.1;have hg:¬(0:Int)<=x:=by omega
   go_wp2;refine bodyPost_ret (v := .agg #[.int .u64 s0,.int .u64 s1,.int .u64 s2,.int .u64 s3]) (by simp[results,Tryz.results360, go_sem, *]) rfl ⟨s0,s1,s2,s3,rfl,I.out.2.2.2.1,?_,?_⟩
   ·rw[I.out.2.2.2.2.1,this.out,zov]
   ·exact zaI I.out.2.2.2.2.2 (by omega) _ _ _ _
  ·have hg:(0:Int)<=x:=by omega
   clear lo hlt;obtain⟨qf,q0,q1,q2,q3⟩:=I.out.2.2.1;go_wp2_with fail;refine cM (zeS s0 s1 s2 s3 s0 s1 s2 s3 I.out.2.2.2.1 I.out.2.2.2.1 _) ?_;rintro e w1 ⟨t0,t1,t2,t3,rfl,ut,vt,hb1⟩;have J:Hid (At4 w1 w.heap.size (.int .u64 a0) (.int .u64 a1) (.int .u64 a2) (.int .u64 a3)/\At4 w1 (w.heap.size+1) (.int .u64 0) (.int .u64 0) (.int .u64 0) (.int .u64 0)
     /\ At4 w1 (w.heap.size+1+1) (.int .u64 s0) (.int .u64 s1) (.int .u64 s2) (.int .u64 s3)/\u4 t0 t1 t2 t3/\v4 t0 t1 t2 t3=v4 a0 a1 a2 a3 ^ (2*ex n) % p/\Below w.heap.size w w1) :=
    ⟨I.out.1.later hb1,I.out.2.1.later hb1,I.out.2.2.1.later hb1,ut,by rw[vt,I.out.2.2.2.2.1,zgA],chain I.out.2.2.2.2.2 hb1⟩
   clear vt ut hb1 qf q0 q1 q2 q3;obtain⟨qf,q0,q1,q2,q3⟩:=J.out.2.2.1;by_cases h2:x=2
   ·have b2:(x != 2)=false:=by simp[h2]
    have hn:Hid (n=252\/n=250):=by have:=hx.out;show n=252\/n=250;omega
    clear h2;go_wp2;go_roundw
    case rel =>
     refine⟨n+1,x - 1,t0,t1,t2,t3,by go_num,?_,by omega,by omega,?_⟩
     ·have:=hx.out;show x - 1=_;omega
     ·refine⟨At4.put J.out.1 (by omega) _ _ _ _,At4.put J.out.2.1 (by omega) _ _ _ _,At4.whole J.out.2.2.1 _ _ _ _,J.out.2.2.2.1,?_,zaI J.out.2.2.2.2.2 (by omega) _ _ _ _⟩
      rw[J.out.2.2.2.2.1,zhp n hn.out]
    case measure=>simp[intOf];omega
   ·by_cases h4:x=4
    ·have b2:(x != 2)=true:=by simp[h2]
     have b4:(x != 4)=false:=by simp[h4]
     have hn:Hid (n=252\/n=250):=by have:=hx.out;show n=252\/n=250;omega
     clear h2 h4;go_wp2;go_roundw
     case rel =>
      refine⟨n+1,x - 1,t0,t1,t2,t3,by go_num,?_,by omega,by omega,?_⟩
      ·have:=hx.out;show x - 1=_;omega
      ·refine⟨At4.put J.out.1 (by omega) _ _ _ _,At4.put J.out.2.1 (by omega) _ _ _ _,At4.whole J.out.2.2.1 _ _ _ _,J.out.2.2.2.1,?_,zaI J.out.2.2.2.2.2 (by omega) _ _ _ _⟩
       rw[J.out.2.2.2.2.1,zhp n hn.out]
     case measure=>simp[intOf];omega
    ·have b2:(x != 2)=true:=by simp[h2]
     have b4:(x != 4)=true:=by simp[h4]
     have hn:Hid (¬(n=252\/n=250)):=by have:=hx.out;show ¬(n=252\/n=250);omega
     clear h2 h4;obtain⟨pf,p0,p1,p2,p3⟩:=J.out.1;go_wp2_with fail;refine cM (zeS t0 t1 t2 t3 a0 a1 a2 a3 J.out.2.2.2.1 ha _) ?_;rintro e w2 ⟨z0,z1,z2,z3,rfl,uz,vz,hb2⟩;have K:Hid (At4 w2 w.heap.size (.int .u64 a0) (.int .u64 a1) (.int .u64 a2) (.int .u64 a3)/\At4 w2 (w.heap.size+1) (.int .u64 0) (.int .u64 0) (.int .u64 0) (.int .u64 0)
       /\ At4 w2 (w.heap.size+1+1) (.int .u64 t0) (.int .u64 t1) (.int .u64 t2) (.int .u64 t3)/\u4 z0 z1 z2 z3/\v4 z0 z1 z2 z3=v4 a0 a1 a2 a3 ^ (2*ex n+1) % p/\Below w.heap.size w w2) :=
      ⟨At4.later (At4.put J.out.1 (by omega) _ _ _ _) hb2,At4.later (At4.put J.out.2.1 (by omega) _ _ _ _) hb2,At4.later (At4.whole J.out.2.2.1 _ _ _ _) hb2,uz,by rw[vz,J.out.2.2.2.2.1,zeP],chain (zaI J.out.2.2.2.2.2 (by omega) _ _ _ _) hb2⟩
     clear vz uz hb2 qf q0 q1 q2 q3 pf p0 p1 p2 p3;obtain⟨qf,q0,q1,q2,q3⟩:=K.out.2.2.1;go_wp2;go_roundw
     case rel =>
      refine⟨n+1,x - 1,z0,z1,z2,z3,by go_num,?_,by omega,by omega,?_⟩
      ·have:=hx.out;show x - 1=_;omega
      ·refine⟨At4.put K.out.1 (by omega) _ _ _ _,At4.put K.out.2.1 (by omega) _ _ _ _,At4.whole K.out.2.2.1 _ _ _ _,K.out.2.2.2.1,?_,zaI K.out.2.2.2.2.2 (by omega) _ _ _ _⟩
       rw[K.out.2.2.2.2.1,zmp n hn.out]
     case measure=>simp[intOf];omega
theorem za7 (x b k c:Nat) (C:Int) (hC:C=(c:Int)) (hc:c=2 ^ k) (hx:x < c) (hb:b < 256) (hlt:c*256<=18446744073709551616) :
  bits .or .u64 (x:Int) (IntKind.u64.wrap (IntKind.u64.wrap (b:Int)*C))=((x+c*b:Nat):Int):=by
 have h1:c*b < 18446744073709551616:=by
  have:c*b<=c*255:=Nat.mul_le_mul_left c (by omega);omega
 have w1:IntKind.u64.wrap (b:Int)=(b:Int):=by rw[IntKind.wrap_u64];omega
 have w2:IntKind.u64.wrap ((b:Int)*C)=((c*b:Nat):Int):=by
  rw[hC,IntKind.wrap_u64,<-Int.natCast_mul,Nat.mul_comm b c];omega
 rw[w1,w2,bits_or_u64_nat _ _ (by omega) h1];have:=Nat.two_pow_add_eq_or_of_lt (i:=k) (b:=x) (by omega) b;rw[<-hc] at this;rw[Nat.or_comm,<-this,Nat.add_comm]
theorem zhq (b:UInt8):IntKind.u64.wrap (b.toNat:Int)=(b.toNat:Int):=by
 have:=b.toNat_lt;rw[IntKind.wrap_u64];omega
theorem zhr (s:Ba) (hs:s.size=8) :
  bits .or .u64 (bits .or .u64 (bits .or .u64 (bits .or .u64 (bits .or .u64 (bits .or .u64 (bits .or .u64 (IntKind.u64.wrap (s[0].toNat:Int))
   (IntKind.u64.wrap (IntKind.u64.wrap (s[1].toNat:Int)*256))) (IntKind.u64.wrap (IntKind.u64.wrap (s[2].toNat:Int)*65536))) (IntKind.u64.wrap (IntKind.u64.wrap (s[3].toNat:Int)*16777216)))
   (IntKind.u64.wrap (IntKind.u64.wrap (s[4].toNat:Int)*4294967296))) (IntKind.u64.wrap (IntKind.u64.wrap (s[5].toNat:Int)*1099511627776)))
   (IntKind.u64.wrap (IntKind.u64.wrap (s[6].toNat:Int)*281474976710656))) (IntKind.u64.wrap (IntKind.u64.wrap (s[7].toNat:Int)*72057594037927936))=((num s.data.toList:Nat):Int):=by
 obtain⟨⟨l⟩⟩:=s
 match l,hs with
 | [x0,x1,x2,x3,x4,x5,x6,x7],hs =>
  have b0:=x0.toNat_lt;have b1:=x1.toNat_lt;have b2:=x2.toNat_lt;have b3:=x3.toNat_lt;have b4:=x4.toNat_lt;have b5:=x5.toNat_lt;have b6:=x6.toNat_lt;have b7:=x7.toNat_lt;show bits .or .u64 (bits .or .u64 (bits .or .u64 (bits .or .u64 (bits .or .u64 (bits .or .u64 (bits .or .u64 (IntKind.u64.wrap (x0.toNat:Int))
   (IntKind.u64.wrap (IntKind.u64.wrap (x1.toNat:Int)*256))) (IntKind.u64.wrap (IntKind.u64.wrap (x2.toNat:Int)*65536))) (IntKind.u64.wrap (IntKind.u64.wrap (x3.toNat:Int)*16777216)))
   (IntKind.u64.wrap (IntKind.u64.wrap (x4.toNat:Int)*4294967296))) (IntKind.u64.wrap (IntKind.u64.wrap (x5.toNat:Int)*1099511627776)))
   (IntKind.u64.wrap (IntKind.u64.wrap (x6.toNat:Int)*281474976710656))) (IntKind.u64.wrap (IntKind.u64.wrap (x7.toNat:Int)*72057594037927936))=((num [x0,x1,x2,x3,x4,x5,x6,x7]:Nat):Int)
  rw[zhq,za7 _ _ 8 256 256 rfl rfl (by omega) (by omega) (by omega),za7 _ _ 16 65536 65536 rfl rfl (by omega) (by omega) (by omega),
   za7 _ _ 24 16777216 16777216 rfl rfl (by omega) (by omega) (by omega),za7 _ _ 32 4294967296 4294967296 rfl rfl (by omega) (by omega) (by omega),
   za7 _ _ 40 1099511627776 1099511627776 rfl rfl (by omega) (by omega) (by omega),za7 _ _ 48 281474976710656 281474976710656 rfl rfl (by omega) (by omega) (by omega),
   za7 _ _ 56 72057594037927936 72057594037927936 rfl rfl (by omega) (by omega) (by omega),zhm]
theorem zmq {a b:Int} (h:a=b):Ending.returned (.int .u64 a) = .returned (.int .u64 b):=by rw[h]
theorem word_any (s:Ba) (hs:s.size=8) (w:Wo) :
  Cl 375 #[.string s] w fun e w'=>e = .returned (.int .u64 ((num s.data.toList:Nat):Int))/\(∃n,w'=w.drewN n):=by
 have H:Hid (_=_):=zhr s hs;go_enter Tryz.func375, Tryz.ntmps375;go_wp2;go_quiet (fail);go_wp2;go_ret;exact⟨zmq H.out,_,rfl⟩
attribute [local go_sem ↓] Go.wp_at_zero Go.wp_at_succ
theorem zaP (s:Ba) (hs:s.size=32) (w:Wo) :
  Cl 355 #[.string s] w fun e w'=>∃c0 c1 c2 c3:Nat,e = .returned (.agg #[.int .u64 c0,.int .u64 c1,.int .u64 c2,.int .u64 c3])/\u4 c0 c1 c2 c3/\v4 c0 c1 c2 c3=num s.data.toList/\Below w.heap.size w w':=by
 go_enter Tryz.func355, Tryz.ntmps355;go_wp2;go_region_held3 (fun _=>True) (trivial) (first|(go_at_call 375;refine cM (word_any _ ?_ _) ?_;(focus simp[hs]);rintro e w' ⟨rfl,n,rfl⟩));go_wp2;have hl:s.data.toList.length=32:=by simpa using hs
 have NL:=zjJ s.data.toList hl;refine bodyPost_ret (v := .agg #[.int .u64 ((num (s.data.toList.take 8):Nat):Int),.int .u64 ((num ((s.data.toList.drop 8).take 8):Nat):Int),.int .u64 ((num ((s.data.toList.drop 16).take 8):Nat):Int),.int .u64 ((num ((s.data.toList.drop 24).take 8):Nat):Int)]) (by simp[results,Tryz.results355, go_sem]) rfl ⟨_,_,_,_,rfl,NL.1,NL.2,?_⟩
 repeat (first|exact bQ _ _|refine Below.setCell ?_ (by simp;try omega) _|refine Below.drew ?_|refine below_drewN ?_ _|refine Below.alloc ?_ (by simp;try omega) _)
attribute [local go_sem ↓] Go.wp_at_zero Go.wp_at_succ
theorem or_word (x b r:Nat) (hx:x < 2 ^ (r*8)) (hb:b < 256) (hr:r < 8) :
  bits .or .u64 (x:Int) (IntKind.u64.wrap (IntKind.u64.wrap (b:Int)*2 ^ (r*8)))=((x+2 ^ (r*8)*b:Nat):Int):=by
 have hlt:2 ^ (r*8)*256<=18446744073709551616:=by
  have e:2 ^ (r*8)*256=2 ^ (r*8+8):=by rw[Nat.pow_add]
  rw[e];have:(2:Nat) ^ (r*8+8)<=2 ^ 64:=Nat.pow_le_pow_right (by decide) (by omega)
  simpa using this
 exact za7 x b (r*8) (2 ^ (r*8)) _ (by simp) rfl hx hb hlt
theorem zdW (s:Ba) (hs:s.size<=64) (w:Wo) :
  Cl 271 #[.string s] w fun e w'=>∃c0 c1 c2 c3 c4 c5 c6 c7:Nat,e = .returned (.agg #[.int .u64 c0,.int .u64 c1,.int .u64 c2,.int .u64 c3,.int .u64 c4,.int .u64 c5,.int .u64 c6,.int .u64 c7])/\u4 c0 c1 c2 c3/\u4 c4 c5 c6 c7/\v4 c0 c1 c2 c3+zas*v4 c4 c5 c6 c7=num s.data.toList/\Below w.heap.size w w':=by
 go_enter Tryz.func271, Tryz.ntmps271;go_wp2;go_loopw [7] (fun i wr=>∃k:Nat,k<=s.size/\i = .int .i64 k/\(∀j,j < 8->wr.cell? ⟨w.heap.size+1,j,none⟩=some (.int .u64 (wd s.data.toList k j)))/\(∀o,wr.frozen? ⟨w.heap.size+1,o,none⟩=false)/\At8 wr w.heap.size (.int .u64 0) (.int .u64 0) (.int .u64 0) (.int .u64 0) (.int .u64 0) (.int .u64 0) (.int .u64 0) (.int .u64 0)/\Below w.heap.size w wr) (fun i _=>s.size - (intOf i).toNat)
 case atStart =>
  refine⟨0,Nat.zero_le _,rfl,?_,?_,?_,?_⟩
  ·intro j hj
   have:j=0\/j=1\/j=2\/j=3\/j=4\/j=5\/j=6\/j=7:=by omega
   rcases this with rfl|rfl|rfl|rfl|rfl|rfl|rfl|rfl <;> simp[go_sem,zmf]
  ·intro o;simp[go_sem]
  ·simp[At8,go_sem]
  ·exact ((bQ _ _).alloc (nL _) _).alloc (by simp) _
 case round =>
  obtain⟨k,hk,rfl,hc,hf,ha,hb⟩:=hrel;have HA:Hid (At8 _ _ _ _ _ _ _ _ _ _):=ha;have HB:Hid (Below _ _ _):=hb;clear ha hb;by_cases hlt:k < s.size
  ·obtain⟨j,hj⟩:∃j,k / 8=j:=⟨_,rfl⟩
   obtain⟨r,hr⟩:∃r,k % 8=r:=⟨_,rfl⟩;have hj8:j < 8:=by omega
   have hr8:r < 8:=by omega
   have cj:=hc j hj8;have HC:Hid (∀j,j < 8->wr.cell? ⟨w.heap.size+1,j,none⟩=some (.int .u64 (wd s.data.toList k j))):=hc;have t1:Int.tdiv (k:Int) 8=(j:Int):=by rw[<-hj];exact (Int.ofNat_tdiv k 8).symm
   have t2:Int.tmod (k:Int) 8=(r:Int):=by rw[<-hr];exact (Int.ofNat_tmod k 8).symm
   have hl:s.data.toList.length=s.size:=by simp
   have V1:Hid (wd s.data.toList (k+1) j=wd s.data.toList k j+2 ^ (r*8)*s[k].toNat):=zmg s.data.toList k j r (by omega) hj hr;have V2:Hid (∀i,i≠j->wd s.data.toList (k+1) i=wd s.data.toList k i):=fun i hi=>zjK s.data.toList k i (by omega) (by omega)
   have t3:bits .or .u64 ((wd s.data.toList k j:Nat):Int) (IntKind.u64.wrap (IntKind.u64.wrap (s[k].toNat:Int)*2 ^ (r*8)))=((wd s.data.toList (k+1) j:Nat):Int):=by
    rw[or_word _ _ _ (zjL s.data.toList k j r (by omega) hj hr) s[k].toNat_lt hr8,V1.out]
   have b1:(0:Int)<=(j:Int):=by omega
   have b2:(j:Int) < 8:=by omega
   have b3:(0:Int)<=(k:Int):=by omega
   have b4:(k:Int) < (s.size:Int):=by omega
   clear hc hj hr hl;go_wp2;go_region;go_wp2;go_roundw
   case rel =>
    refine⟨k+1,by omega,by go_num,?_,?_,?_,?_⟩
    ·intro i hi
     by_cases hij:i=j
     ·subst hij;simp[go_sem,cj]
     ·rw[V2.out i hij]
      have:=HC.out i hi;simp only[World.cell?_drew];rw[World.cell?_setCell_other _ _ _ _ (by simp;try omega)];exact this
    ·intro o;simp[go_sem,hf]
    ·exact (At8.set HA.out (by simp) _).drew
    ·exact ((HB.out.setCell (by simp) _).drew)
   case measure=>simp[intOf];omega
  ·have hks:k=s.size:=by omega
   subst hks;have c0:=hc 0 (by omega);have c1:=hc 1 (by omega);have c2:=hc 2 (by omega);have c3:=hc 3 (by omega);have c4:=hc 4 (by omega);have c5:=hc 5 (by omega);have c6:=hc 6 (by omega);have c7:=hc 7 (by omega);obtain⟨rf,r0,r1,r2,r3,r4,r5,r6,r7⟩:=HA.out;clear hc hf;go_wp2;have hl:s.data.toList.length=s.size:=by simp
   have WA:=zow s.data.toList (by omega);rw[hl] at WA;refine bodyPost_ret (v := .agg #[.int .u64 (wd s.data.toList s.size 0),.int .u64 (wd s.data.toList s.size 1),.int .u64 (wd s.data.toList s.size 2),.int .u64 (wd s.data.toList s.size 3),.int .u64 (wd s.data.toList s.size 4),.int .u64 (wd s.data.toList s.size 5),.int .u64 (wd s.data.toList s.size 6),.int .u64 (wd s.data.toList s.size 7)]) (by simp[results,Tryz.results271, go_sem, *]) rfl ⟨_,_,_,_,_,_,_,_,rfl,⟨zdR _ _ _,zdR _ _ _,zdR _ _ _,zdR _ _ _⟩,⟨zdR _ _ _,zdR _ _ _,zdR _ _ _,zdR _ _ _⟩,WA,?_⟩
   repeat (first|refine Below.setCell ?_ (by simp) _|exact HB.out)
theorem zad (x k:Nat):some (Value.int .u8 ((x:Int) / (k:Int) % 256))=some (.int .u8 ((UInt8.ofNat (x / k % 256)).toNat:Int)):=by
 have:(UInt8.ofNat (x / k % 256)).toNat=x / k % 256:=by simp
 rw[this];rfl
theorem zbm (x:Nat):some (Value.int .u8 ((x:Int) % 256))=some (.int .u8 ((UInt8.ofNat (x % 256)).toNat:Int)):=by
 have:(UInt8.ofNat (x % 256)).toNat=x % 256:=by simp
 rw[this];rfl
theorem zhs (b:Nat) (l:List UInt8) (hl:l.length=32) (W:Wo) (hc:∀j (hj:j < l.length),W.cell? ⟨b,j,none⟩=some (.int .u8 (l[j].toNat:Int))) :
  (convert 99 9 (.slice (some ⟨b,0,none⟩) 32 32)).run Tryz.prog W = .ok (.string ⟨l.toArray⟩) W:=by
 have:=run_convert_bytes_back (P:=Tryz.prog) W 99 9 5 ⟨b,0,none⟩ 32 l Tryz.underlying99 Tryz.underlying5 Tryz.underlying9 (fun j hj=>by
  have q:Addr.add ⟨b,0,none⟩ j=⟨b,j,none⟩:=by simp[Addr.add];intro h;exact h.symm
  rw[q];exact hc j hj)
 rw[hl] at this;exact this
theorem zjO (a0 a1 a2 a3 j:Nat) (hj:j < (b8 a0++(b8 a1++(b8 a2++b8 a3))).length) :
  (#[.int .u8 ((a0:Int) % 256),.int .u8 ((a0:Int) / 256 % 256),.int .u8 ((a0:Int) / 65536 % 256),.int .u8 ((a0:Int) / 16777216 % 256),.int .u8 ((a0:Int) / 4294967296 % 256),.int .u8 ((a0:Int) / 1099511627776 % 256),.int .u8 ((a0:Int) / 281474976710656 % 256),.int .u8 ((a0:Int) / 72057594037927936 % 256),.int .u8 ((a1:Int) % 256),.int .u8 ((a1:Int) / 256 % 256),.int .u8 ((a1:Int) / 65536 % 256),.int .u8 ((a1:Int) / 16777216 % 256),.int .u8 ((a1:Int) / 4294967296 % 256),.int .u8 ((a1:Int) / 1099511627776 % 256),.int .u8 ((a1:Int) / 281474976710656 % 256),.int .u8 ((a1:Int) / 72057594037927936 % 256),.int .u8 ((a2:Int) % 256),.int .u8 ((a2:Int) / 256 % 256),.int .u8 ((a2:Int) / 65536 % 256),.int .u8 ((a2:Int) / 16777216 % 256),.int .u8 ((a2:Int) / 4294967296 % 256),.int .u8 ((a2:Int) / 1099511627776 % 256),.int .u8 ((a2:Int) / 281474976710656 % 256),.int .u8 ((a2:Int) / 72057594037927936 % 256),.int .u8 ((a3:Int) % 256),.int .u8 ((a3:Int) / 256 % 256),.int .u8 ((a3:Int) / 65536 % 256),.int .u8 ((a3:Int) / 16777216 % 256),.int .u8 ((a3:Int) / 4294967296 % 256),.int .u8 ((a3:Int) / 1099511627776 % 256),.int .u8 ((a3:Int) / 281474976710656 % 256),.int .u8 ((a3:Int) / 72057594037927936 % 256)]:Array Value)[j]?=some (.int .u8 (((b8 a0++(b8 a1++(b8 a2++b8 a3)))[j]'hj).toNat:Int)):=by
 have hj':j < 32:=hj
 match j,hj' with
 | 0,_=>exact zbm a0
 | 1,_=>exact zad a0 256
 | 2,_=>exact zad a0 65536
 | 3,_=>exact zad a0 16777216
 | 4,_=>exact zad a0 4294967296
 | 5,_=>exact zad a0 1099511627776
 | 6,_=>exact zad a0 281474976710656
 | 7,_=>exact zad a0 72057594037927936
 | 8,_=>exact zbm a1
 | 9,_=>exact zad a1 256
 | 10,_=>exact zad a1 65536
 | 11,_=>exact zad a1 16777216
 | 12,_=>exact zad a1 4294967296
 | 13,_=>exact zad a1 1099511627776
 | 14,_=>exact zad a1 281474976710656
 | 15,_=>exact zad a1 72057594037927936
 | 16,_=>exact zbm a2
 | 17,_=>exact zad a2 256
 | 18,_=>exact zad a2 65536
 | 19,_=>exact zad a2 16777216
 | 20,_=>exact zad a2 4294967296
 | 21,_=>exact zad a2 1099511627776
 | 22,_=>exact zad a2 281474976710656
 | 23,_=>exact zad a2 72057594037927936
 | 24,_=>exact zbm a3
 | 25,_=>exact zad a3 256
 | 26,_=>exact zad a3 65536
 | 27,_=>exact zad a3 16777216
 | 28,_=>exact zad a3 4294967296
 | 29,_=>exact zad a3 1099511627776
 | 30,_=>exact zad a3 281474976710656
 | 31,_=>exact zad a3 72057594037927936
 | n+32,h=>omega
theorem zaJ (a0 a1 a2 a3:Nat) (ha:Hid (u4 a0 a1 a2 a3)) (w:Wo) :
  Cl 191 #[.agg #[.int .u64 a0,.int .u64 a1,.int .u64 a2,.int .u64 a3]] w fun e w'=>e = .returned (.string ⟨(za2 32 (v4 a0 a1 a2 a3)).toArray⟩)/\Below w.heap.size w w':=by
 have ia0:∀w,(Instr.index 283 (.agg #[.int .u64 a0,.int .u64 a1,.int .u64 a2,.int .u64 a3]) (.int .i64 0)).run Tryz.prog w = .ok (.int .u64 a0) w:=fun _=>by kernel_rfl
 have ia1:∀w,(Instr.index 283 (.agg #[.int .u64 a0,.int .u64 a1,.int .u64 a2,.int .u64 a3]) (.int .i64 1)).run Tryz.prog w = .ok (.int .u64 a1) w:=fun _=>by kernel_rfl
 have ia2:∀w,(Instr.index 283 (.agg #[.int .u64 a0,.int .u64 a1,.int .u64 a2,.int .u64 a3]) (.int .i64 2)).run Tryz.prog w = .ok (.int .u64 a2) w:=fun _=>by kernel_rfl
 have ia3:∀w,(Instr.index 283 (.agg #[.int .u64 a0,.int .u64 a1,.int .u64 a2,.int .u64 a3]) (.int .i64 3)).run Tryz.prog w = .ok (.int .u64 a3) w:=fun _=>by kernel_rfl
 have hmk:∀w:Wo,(Instr.makeSlice 99 (.int .i64 0) (.int .i64 32)).run Tryz.prog w = .ok (.slice (some ⟨w.heap.size,0,none⟩) 0 32) (w.alloc (.cells #[.int .u8 0,.int .u8 0,.int .u8 0,.int .u8 0,.int .u8 0,.int .u8 0,.int .u8 0,.int .u8 0,.int .u8 0,.int .u8 0,.int .u8 0,.int .u8 0,.int .u8 0,.int .u8 0,.int .u8 0,.int .u8 0,.int .u8 0,.int .u8 0,.int .u8 0,.int .u8 0,.int .u8 0,.int .u8 0,.int .u8 0,.int .u8 0,.int .u8 0,.int .u8 0,.int .u8 0,.int .u8 0,.int .u8 0,.int .u8 0,.int .u8 0,.int .u8 0] 5)):=fun _=>by kernel_rfl
 go_enter Tryz.func191, Tryz.ntmps191;go_wp2;refine wp_loop_rounds 5 ?_;rw[rounds_succ];go_wp2;rw[rounds_succ];go_wp2;rw[rounds_succ];go_wp2;rw[rounds_succ];go_wp2;rw[rounds_succ];go_wp2;rw[zhs (w.heap.size+1) (b8 a0++(b8 a1++(b8 a2++b8 a3))) rfl _ ?hc]
 case hc =>
  intro j hj;refine zab (zab (zab (zab ?_)));rw[show w.heap.size+1=(w.alloc (.cells #[.int .u64 a0,.int .u64 a1,.int .u64 a2,.int .u64 a3] 283)).heap.size by simp,World.cell?_alloc_new];exact zjO a0 a1 a2 a3 j hj
 go_wp2;go_ret;refine⟨by rw[zox _ _ _ _ ha.out];rfl,?_⟩
 repeat (first|refine Below.setCell ?_ (by simp;try omega) _|refine Below.drew ?_|refine Below.alloc ?_ (by simp;try omega) _|exact bQ _ _)
theorem zbO {a b:Int} (h:a=b):Ending.returned (.int .i64 a) = .returned (.int .i64 b):=by rw[h]
theorem zdX (s:Ba) (w:Wo) :
  Cl 359 #[.string s] w fun e w'=>e = .returned (.int .i64 (chk s))/\Below w.heap.size w w':=by
 by_cases hs:s.size=32
 ·have hn:((s.size:Int) != 32)=false:=by simp[hs]
  have HS:Hid (s.size=32):=hs;clear hs;go_enter Tryz.func359, Tryz.ntmps359;go_wp2_with fail;refine cM (zaP s HS.out _) ?_;rintro e w1 ⟨c0,c1,c2,c3,rfl,uc,vc,hb1⟩;have UC:Hid (u4 c0 c1 c2 c3):=uc;have VC:Hid (v4 c0 c1 c2 c3=num s.data.toList/\Below w.heap.size w w1):=⟨vc,hb1⟩;clear uc vc hb1;go_wp2_with fail;refine cM (zdV c0 c1 c2 c3 UC _) ?_;rintro e w2 ⟨rfl,hb2⟩;have HB:Hid (Below w.heap.size w w2):=chain VC.out.2 hb2;clear hb2;by_cases hlt:v4 c0 c1 c2 c3 < p
  ·have hd:decide (v4 c0 c1 c2 c3 < p)=true:=by simpa using hlt
   have fin:Hid (chk s=0):=by show chk s=0;unfold chk;rw[if_pos HS.out,if_pos (by rw[<-VC.out.1];exact hlt)]
   clear hlt;go_wp2;go_ret;exact⟨zbO fin.out.symm,HB.out⟩
  ·have hd:decide (v4 c0 c1 c2 c3 < p)=false:=by simpa using hlt
   have fin:Hid (chk s=1):=by show chk s=1;unfold chk;rw[if_pos HS.out,if_neg (by rw[<-VC.out.1];exact hlt)]
   clear hlt;go_wp2;go_ret;exact⟨zbO fin.out.symm,HB.out⟩
 ·have hn:((s.size:Int) != 32)=true:=by simp;omega
  have fin:Hid (chk s=3):=by show chk s=3;unfold chk;rw[if_neg hs]
  clear hs;go_enter Tryz.func359, Tryz.ntmps359;go_wp2;go_ret;exact⟨zbO fin.out.symm,bQ _ _⟩
def StrAt (w:Wo) (a:Option Addr) (ss:List Ba):Prop:=∀i (h:i < ss.length),∃b o,a=some ⟨b,o,none⟩/\w.cell? ⟨b,o+i,none⟩=some (.string ss[i])
theorem StrAt.later {W w1:Wo} {a:Option Addr} {ss:List Ba} (h:StrAt W a ss) (hb:Below W.heap.size W w1):StrAt w1 a ss:=fun i hi=>by
 obtain⟨b,o,e,hc⟩:=h i hi;exact⟨b,o,e,cell_later hb hc⟩
theorem zaX (a:Option Addr) (ss:List Ba) (n cap:Nat) (hn:Hid (ss.length=n)) (hm:n<=9223372036854775807) (w:Wo) (hc:Hid (StrAt w a ss)) :
  Cl 354 #[.slice a n cap] w fun e w'=>e = .returned (.int .i64 (zam ss))/\Below w.heap.size w w':=by
 go_enter Tryz.func354, Tryz.ntmps354;go_wp2;go_loopw [8] (fun i wr=>∃k:Nat,k<=n/\i = .int .i64 k/\Hid (zal (ss.take k)=0/\Below w.heap.size w wr)) (fun i _=>n - (intOf i).toNat)
 case atStart=>exact⟨0,Nat.zero_le _,rfl,rfl,bQ _ _⟩
 case round =>
  obtain⟨k,hk,rfl,I⟩:=hrel;by_cases hlt:k < n
  ·have hk':k < ss.length:=by have:=hn.out;omega
   obtain⟨b,o,rfl,hcell⟩:=StrAt.later hc.out I.out.2 k hk';have HI:Hid (∀h:k < ss.length,zal (ss.take k)=0->¬chk ss[k]=0->zal ss=chk ss[k]):=fun h a b=>zdT ss k h a b
   have HT:Hid (zal (ss.take (k+1))=chk ss[k]):=zb3 ss k hk' I.out.1;obtain⟨s,hs⟩:∃s,ss[k]=s:=⟨_,rfl⟩;rw[hs] at hcell;have HS:Hid (ss[k]=s):=hs;clear hs;go_wp2_with fail;refine cM (zdX s _) ?_;rintro e w1 ⟨rfl,hb1⟩;have HB:Hid (Below w.heap.size w w1):=chain I.out.2 hb1;clear hb1;by_cases h0:chk s=0
   ·have hz:(chk s != 0)=false:=by simp[h0]
    have H0:Hid (chk s=0):=h0;clear h0;go_wp2;go_roundw
    case rel=>exact⟨k+1,by omega,by go_num,by rw[HT.out,HS.out];exact H0.out,HB.out⟩
    case measure=>simp[intOf];omega
   ·have hz:(chk s != 0)=true:=by simp[h0]
    have fin:Hid (zam ss=chk s):=by
     show zam ss=chk s;have q:=HI.out hk' I.out.1 (by rw[HS.out];exact h0);rw[HS.out] at q;unfold zam;rw[q,if_neg h0]
    clear h0;go_wp2;go_ret;exact⟨zbO fin.out.symm,HB.out⟩
  ·have hkn:k=n:=by omega
   subst hkn;have CA:Hid (zal ss=0):=by
    have:=I.out.1;rw[List.take_of_length_le (by have:=hn.out;omega)] at this;exact this
   by_cases h1:k<=100
   ·have hg:¬(100:Int) < (k:Int):=by omega
    have fin:Hid (zam ss=0):=by show zam ss=0;unfold zam;rw[if_pos CA.out,if_pos (by have:=hn.out;omega)]
    go_wp2;go_ret;exact⟨zbO fin.out.symm,I.out.2⟩
   ·have hg:(100:Int) < (k:Int):=by omega
    have fin:Hid (zam ss=2):=by show zam ss=2;unfold zam;rw[if_pos CA.out,if_neg (by have:=hn.out;omega)]
    go_wp2;go_ret;exact⟨zbO fin.out.symm,I.out.2⟩
end Go.Proofs.YtjcppbhgjchjaaaGreatDoor.Crv
