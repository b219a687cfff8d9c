/- The document's stream: a text's words. -/
import Derived.Test.YtgnkkjknngblbaaGreatDoorZmG25
import Derived.Laws.OwnMore
import Derived.Lib.AppendZeros
namespace Go.Proofs.YtgnkkjknngblbaaGreatDoor
open Go.RowKit Go.Proofs.Fd Go.Proofs.Hs Go.Proofs.Cc
set_option maxRecDepth 20000
attribute [local go_sem] and32 or32 xor32 add32 add32'
def qcells (l:List UInt32):List Value:=l.map fun x => .int .u32 (tv x)
theorem qinfo:(Tryz.prog.info? 123).map (fun i=>(i.zero,i.size,i.bytes))=some (some (.int .u32 0),1,4):=by kernel_rfl
theorem cells_newd (w:World) (cs:Array Value) (t:TypeId):∀j u,cs.toList[j]?=some u→(w.alloc (.cells cs t)).drew.cell? (Addr.add ⟨w.heap.size,0,none⟩ j)=some u:=fun j u h=>cells_new w cs t j u h
theorem app_one {o:Oper} {a:Act} {K:Act→World→Prop} {Q:Exit→Act→World→Prop} (base:Nat) (wr:World) (R:Int) (x:UInt32) (hR:R=tv x) (i0:TypeInfo) (hi:Tryz.prog.info? 123 = some i0) (hz0:i0.zero=some (.int .u32 0)) (hz1:i0.size=1) (hz2:i0.bytes=4)
  (s y:Operand) (ho:o.op = .call { callee := .builtin .append,args:=#[s,y],argTypes:=#[162, 162] }) (v:Value) (n:Nat) (l:List UInt32) (hs:a.eval s=v) (hown:wr.ownsRow base 123 1 v n (qcells l)) (hy:a.eval y = .slice (some ⟨wr.heap.size,0,none⟩) 1 1) (hn:n≤1000) (hb:base≤wr.heap.size)
  (h:∀v' w',w'.ownsRow base 123 1 v' (n+1) (qcells (l++[x]))→(∀w0,w0.heap.size=base→Below base w0 wr→Below base w0 w')→K (a.put o.dst v') w'):o.wp Tryz.prog a (wr.alloc (.cells #[.int .u32 R] 123)).drew K Q:=by
 subst hR
 refine wp_append_own _ s y 162 ho base 123 i0 (.int .u32 0) 1 4 Tryz.underlying162 hi hz0 hz1 hz2 rfl (by decide) v n (qcells l) hs (hown.alloc _) ⟨wr.heap.size,0,none⟩ 1 1 [.int .u32 (tv x)] hy rfl (cells_newd _ _ _) (by intro u hu;simp at hu;subst hu;rfl) (by unfold maxLen;omega) (by omega) (by show base≤(wr.alloc _).heap.size;simp;omega) ?_
 intro v1 w1 hown1 hgrow1 _
 refine h v1 w1 ?_ (fun w0 hw0 hbel => ?_)
 ·unfold qcells at *
  rw[List.map_append]
  exact hown1
 ·exact ((hbel.alloc (by omega) _).drew).grown hgrow1 (by show base≤(wr.alloc _).heap.size;simp;omega) (fun q hq=>(hown.lt q hq).1)
set_option maxHeartbeats 2000000 in
theorem rRead_any (s:ByteArray) (n:Nat) (hs:s.size=4*n) (hn:n≤8) (w:World) :
  Calls Tryz.prog 132 #[.string s] w fun e w'=>∃v,e = .returned v∧w'.ownsRow w.heap.size 123 1 v n (qcells (rd s.data.toList n))∧Below w.heap.size w w':=by
 obtain⟨i0,hi,hz0,hz1,hz2⟩:=info_parts qinfo
 go_enter Tryz.func132, Tryz.ntmps132
 go_wp2
 go_loopw [3,4] (fun sl i wr=>∃k:Nat,k≤n∧i = .int .i64 ((4*k:Nat):Int)∧Hid (wr.ownsRow w.heap.size 123 1 sl k (qcells (rd s.data.toList k))∧Below w.heap.size w wr)) (fun _ i _=>64 - (intOf i).toNat)
 case atStart=>exact⟨0,Nat.zero_le _,rfl,⟨rfl,.inl ⟨rfl,rfl⟩⟩,Below.refl _ _⟩
 case round =>
  obtain⟨k,hk,rfl,J⟩:=hrel
  by_cases hlt:k < n
  ·obtain⟨p0,h0⟩:∃p,4*k=p:=⟨_,rfl⟩
   obtain⟨p1,h1⟩:∃p,4*k+1=p:=⟨_,rfl⟩
   obtain⟨p2,h2⟩:∃p,4*k+2=p:=⟨_,rfl⟩
   obtain⟨p3,h3⟩:∃p,4*k+3=p:=⟨_,rfl⟩
   obtain⟨p4,h4⟩:∃p,4*(k+1)=p:=⟨_,rfl⟩
   have l0:p0 < s.size:=by omega
   have l1:p1 < s.size:=by omega
   have l2:p2 < s.size:=by omega
   have l3:p3 < s.size:=by omega
   have RW:Hid (rd s.data.toList (k+1)=rd s.data.toList k++[UInt32.ofNat (s[p0].toNat+s[p1].toNat*256+s[p2].toNat*65536+s[p3].toNat*16777216)]):=by
    show _=_
    rw[rd_succ]
    unfold rdw
    rw[h0,show p0+1=p1 by omega,show p0+2=p2 by omega,show p0+3=p3 by omega]
    simp only[List.getD_eq_getElem?_getD]
    rw[List.getElem?_eq_getElem (by simpa using l0),List.getElem?_eq_getElem (by simpa using l1),List.getElem?_eq_getElem (by simpa using l2),List.getElem?_eq_getElem (by simpa using l3)]
    rfl
   rw[h0]
   obtain⟨c0,hc0⟩:∃c,s[p0]=c:=⟨_,rfl⟩
   obtain⟨c1,hc1⟩:∃c,s[p1]=c:=⟨_,rfl⟩
   obtain⟨c2,hc2⟩:∃c,s[p2]=c:=⟨_,rfl⟩
   obtain⟨c3,hc3⟩:∃c,s[p3]=c:=⟨_,rfl⟩
   rw[hc0,hc1,hc2,hc3] at RW
   have y0:(0:Int)≤(p0:Int):=by omega
   have y1:(0:Int)≤(p1:Int):=by omega
   have y2:(0:Int)≤(p2:Int):=by omega
   have y3:(0:Int)≤(p3:Int):=by omega
   have z0:(p0:Int) < (s.size:Int):=by omega
   have z1:(p1:Int) < (s.size:Int):=by omega
   have z2:(p2:Int) < (s.size:Int):=by omega
   have z3:(p3:Int) < (s.size:Int):=by omega
   have a1:IntKind.i64.wrap ((p0:Int)+1)=(p1:Int):=by rw[IntKind.wrap_i64];omega
   have a2:IntKind.i64.wrap ((p0:Int)+2)=(p2:Int):=by rw[IntKind.wrap_i64];omega
   have a3:IntKind.i64.wrap ((p0:Int)+3)=(p3:Int):=by rw[IntKind.wrap_i64];omega
   have a4:IntKind.i64.wrap ((p0:Int)+4)=(p4:Int):=by rw[IntKind.wrap_i64];omega
   have b1:(p0:Int)+1=(p1:Int):=by omega
   have b2:(p0:Int)+2=(p2:Int):=by omega
   have b3:(p0:Int)+3=(p3:Int):=by omega
   have b4:(p0:Int)+4=(p4:Int):=by omega
   have d1:IntKind.i64.wrap (p1:Int)=(p1:Int):=by rw[IntKind.wrap_i64];omega
   have d2:IntKind.i64.wrap (p2:Int)=(p2:Int):=by rw[IntKind.wrap_i64];omega
   have d3:IntKind.i64.wrap (p3:Int)=(p3:Int):=by rw[IntKind.wrap_i64];omega
   have d4:IntKind.i64.wrap (p4:Int)=(p4:Int):=by rw[IntKind.wrap_i64];omega
   have HS:Hid (s.size=4*n∧4*(k+1)=p4∧4*k=p0):=⟨hs,h4,h0⟩
   clear hs h0 h1 h2 h3 h4
   have q0:=c0.toNat_lt
   have q1:=c1.toNat_lt
   have q2:=c2.toNat_lt
   have q3:=c3.toNat_lt
   obtain⟨X,hX⟩:∃X,UInt32.ofNat (c0.toNat+c1.toNat*256+c2.toNat*65536+c3.toNat*16777216)=X:=⟨_,rfl⟩
   have ER:Hid ((IntKind.u32.wrap (IntKind.u32.wrap (IntKind.u32.wrap (IntKind.u32.wrap (c0.toNat:Int)+IntKind.u32.wrap (IntKind.u32.wrap (c1.toNat:Int)*256))+IntKind.u32.wrap (IntKind.u32.wrap (c2.toNat:Int)*65536))+IntKind.u32.wrap (IntKind.u32.wrap (c3.toNat:Int)*16777216)))=tv X):=by
    show _=_
    rw[←hX,tv_ofNat]
    simp only[IntKind.wrap_u32]
    omega
   rw[hX] at RW
   have HX:Hid (UInt32.ofNat (c0.toNat+c1.toNat*256+c2.toNat*65536+c3.toNat*16777216)=X):=hX
   clear hX q0 q1 q2 q3
   go_wp2
   refine (fun (KEY:∀(v1:Value) (w1:World),Hid (w1.ownsRow w.heap.size 123 1 v1 (k+1) (qcells (rd s.data.toList (k+1)))∧Below w.heap.size w w1)→(?KK:Value→World→Prop) v1 w1) => ?mainA) ?keyA
   case mainA =>
    go_region_held3 (fun _=>True) (trivial) (first|(rw[if_pos (by kernel_rfl)];refine app_one w.heap.size wr _ X ?_ i0 hi hz0 hz1 hz2 (.tmp 11) (.tmp 37) rfl _ k _ rfl J.out.1 rfl (by omega) J.out.2.size ?_;(focus exact ER.out);intro v1 w1 hown1 hbel1))
    all_goals exact KEY v1 w1 ⟨by rw[RW.out];exact hown1,hbel1 w rfl J.out.2⟩
   intro v1 w1 NX
   go_wp2
   go_roundw
   case rel=>exact⟨k+1,by omega,by rw[HS.out.2.1],NX.out⟩
   case measure=>have:=HS.out;simp[intOf];omega
  ·have hkn:k=n:=by omega
   have g1:¬4*(k:Int) < (s.size:Int):=by omega
   have JF:Hid (wr.ownsRow w.heap.size 123 1 u3 n (qcells (rd s.data.toList n))∧Below w.heap.size w wr):=by rw[←hkn];exact J.out
   clear J hkn
   go_wp2
   go_ret
   exact⟨_,rfl,JF.out⟩
end Go.Proofs.YtgnkkjknngblbaaGreatDoor
