/- Parts: BpQ,BpR,BpS,BpT,BpU,BpV,BxU,BxW,BpW,SrA,SrB,SrC,SnC,SnD,SrD,SrE,YrD,SrF,SrG,YrE. -/
import Derived.Test.YtjpaodepnacimaaGreatDoorZdG28
import Derived.Test.YtjpaodepnacimaaGreatDoorZdG21
import Derived.Test.YtjpaodepnacimaaGreatDoorZdG25
import Derived.Test.YtjpaodepnacimaaGreatDoorZdG24
import Derived.Lib.AppendZerosOnto
import Derived.Test.YtjpaodepnacimaaGreatDoorZdG27
namespace Go.Proofs.YtjpaodepnacimaaGreatDoor
open Go.RowKit Go.Proofs.Fd Go.Proofs.Dk Go.Proofs.Lg Go.Proofs.Bx
set_option maxRecDepth 20000
theorem xamong_is (x:Int) (N:Nat) (h0:0 < N) (h1:N≤1000) :
  ∃m:Nat,m < N∧(∀i:Nat,x=(i:Int)→i < N→m=i)∧∀w,Calls Tryz.prog 14 #[.int .i64 x,.int .i64 (N:Int)] w fun e w'=>e = .returned (.int .i64 (m:Int))∧w'=w:=by
 have hN:(0:Int) < (N:Int):=by omega
 have r1:=Int.tmod_lt_of_pos x hN
 have r2:=Int.lt_tmod_of_pos x hN
 obtain⟨r,hr⟩:∃r,Int.tmod x (N:Int)=r:=⟨_,rfl⟩
 rw[hr] at r1 r2
 have s1:=Int.tmod_lt_of_pos (r+(N:Int)) hN
 have s2:=Int.tmod_nonneg (N:Int) (show 0≤r+(N:Int) by omega)
 obtain⟨m,hm⟩:∃m:Nat,Int.tmod (r+(N:Int)) (N:Int)=(m:Int):=⟨(Int.tmod (r+(N:Int)) (N:Int)).toNat,by omega⟩
 rw[hm] at s1
 have z1:IntKind.i64.wrap (Int.tmod x (N:Int))=r:=by rw[hr,IntKind.wrap_i64];omega
 have z2:IntKind.i64.wrap (r+(N:Int))=r+(N:Int):=by rw[IntKind.wrap_i64];omega
 have z3:IntKind.i64.wrap (Int.tmod (r+(N:Int)) (N:Int))=(m:Int):=by rw[hm,IntKind.wrap_i64];omega
 have hN2:¬(N:Int)=0:=by omega
 have hi:∀i:Nat,x=(i:Int)→i < N→m=i:=fun i e hi=>by
  have e1:r=(i:Int):=by rw[←hr,e,Int.tmod_eq_of_lt (by omega) (by omega)]
  have e2:Int.tmod (r+(N:Int)) (N:Int)=(i:Int):=by
   rw[e1,Int.tmod_eq_emod_of_nonneg (by omega),Int.add_emod_right,Int.emod_eq_of_lt (by omega) (by omega)]
  rw[hm] at e2
  omega
 refine⟨m,by omega,hi,fun w => ?_⟩
 clear r1 r2 s1 s2 h0 h1 hN hi
 go_enter Tryz.func14, Tryz.ntmps14
 go_wp2
 go_ret
 exact⟨rfl,rfl⟩
def xil:Bs:=[102,105,102,116,101,101,110,32,98,121,116,101,115,32,33]
def xid (m:Nat):Bs:=UInt8.ofNat (97+m)::xil
theorem xid_ok (m:Nat):okI (xid m)=true:=by
 have h:xid m≠zr 16:=fun e=>by
  have:=congrArg (fun l=>l[1]?) e
  exact absurd this (by show some (102:UInt8)≠(zr 16)[1]?;decide)
 unfold okI
 rw[decide_eq_false h]
 rfl
set_option maxHeartbeats 1000000 in
theorem lxid_any (m:Nat) (hm:m < 20) (x:Int) (AM:Hid (∀w,Calls Tryz.prog 14 #[.int .i64 x,.int .i64 20] w fun e w'=>e = .returned (.int .i64 (m:Int))∧w'=w)) (w:World) :
  Calls Tryz.prog 16 #[.int .i64 x] w fun e w'=>e = .returned (.string (st (xid m)))∧Below w.heap.size w w':=by
 have HP:Hid ((⟨#[UInt8.ofNat (97+m)]⟩:ByteArray)++⟨#[102,105,102,116,101,101,110,32,98,121,116,101,115,32,33]⟩=st (xid m)):=st_app [UInt8.ofNat (97+m)] xil
 have y1:IntKind.i64.wrap (97+(m:Int))=97+(m:Int):=by rw[IntKind.wrap_i64];omega
 have y2:IntKind.u8.wrap (97+(m:Int))=((UInt8.ofNat (97+m)).toNat:Int):=by
  rw[UInt8.toNat_ofNat',IntKind.wrap_u8]
  omega
 have BA:BytesAt (w.alloc (.cells #[.int .u8 ((UInt8.ofNat (97+m)).toNat:Int)] 5)) w.heap.size [UInt8.ofNat (97+m)]:=fun j hj=>by
  refine⟨?_,by simp[go_sem]⟩
  rw[World.cell?_alloc_new]
  match j,hj with
  | 0,_=>rfl
 have CV:=BA.string (cap:=1) (n:=1) rfl
 have NB:Hid (Below w.heap.size w (w.alloc (.cells #[.int .u8 ((UInt8.ofNat (97+m)).toNat:Int)] 5))):=nb _ _
 obtain⟨c,hc⟩:∃c,UInt8.ofNat (97+m)=c:=⟨_,rfl⟩
 rw[hc] at y2 CV NB HP
 clear hc BA hm
 go_enter Tryz.func16, Tryz.ntmps16
 go_wp2_with fail
 refine Calls.mono (AM.out _) ?_
 rintro e w1 ⟨rfl,hw⟩
 have hw':=hw.symm
 subst hw'
 clear hw AM
 go_wp2
 go_ret
 exact⟨by rw[←HP.out];rfl,NB.out⟩
def Ok3 (C:Nat) (w:World) (y:Value) (l:List Sl):Prop:=∃a c,y = .slice a l.length c∧Sli w a l.length c l∧∀x,a=some x→C < x.block
theorem Ok3.later {C:Nat} {w w':World} {y:Value} {l:List Sl} (h:Ok3 C w y l) (hb:Below w.heap.size w w'):Ok3 C w' y l:=by
 obtain⟨a,c,e,s,hx⟩:=h
 exact⟨a,c,e,s.later hb,hx⟩
theorem Ok3.sets {C D:Nat} {w:World} {y:Value} {l:List Sl} (h:Ok3 C w y l) (hD:D≤C) (k:Nat) (vs:List Value):Ok3 C (w.setCells D k vs) y l:=by
 obtain⟨a,c,e,s,hx⟩:=h
 exact⟨a,c,e,s.bf (Bf.sets (fun z=>z=D) D rfl vs k w) (fun x ex _ c=>by have:=hx x ex;omega),hx⟩
theorem Ok3.of {C:Nat} {w w':World} {y:Value} {l:List Sl} (h:w'.ownsRow w.heap.size 58 2 y l.length (scx l)) (hC:C < w.heap.size):Ok3 C w' y l:=by
 obtain⟨a,c,e,s,hx⟩:=owns_sl rfl h
 exact⟨a,c,e,s,fun x ex=>by have:=hx x ex;omega⟩
def z3:List Value:=[.slice none 0 0,.slice none 0 0,.slice none 0 0]
structure AlI (W:World) (L:Nat→List Sl) (u:Nat) (wr:World):Prop where
 bl:Below W.heap.size W wr
 rb:Blk wr W.heap.size z3
 ob:∃v0 v1 v2,Blk wr (W.heap.size+1) [v0,v1,v2]∧(0 < u→Ok3 (W.heap.size+1) wr v0 (L 0))∧(1 < u→Ok3 (W.heap.size+1) wr v1 (L 1))∧(2 < u→Ok3 (W.heap.size+1) wr v2 (L 2))
theorem AlI.step {W:World} {L:Nat→List Sl} {u:Nat} {wr:World} (h:AlI W L u wr) (hu:u < 3) {w3:World} {y:Value} (hb:Below wr.heap.size wr w3) (ho:w3.ownsRow wr.heap.size 58 2 y (L u).length (scx (L u))):AlI W L (u+1) (w3.setCell ⟨W.heap.size+1,u,none⟩ y):=by
 obtain⟨bl,rb,v0,v1,v2,ob,o0,o1,o2⟩:=h
 have hlt:=ob.lt
 have ok:=Ok3.of ho hlt
 have bf:Bf (fun z=>z=W.heap.size+1) w3 (w3.setCells (W.heap.size+1) u [y]):=Bf.sets (fun z=>z=W.heap.size+1) _ rfl [y] u w3
 have ob3:=(ob.later hb).set u (by simpa using hu) y
 refine⟨(bl.trans (hb.mono bl.size)).setCell (p:=⟨W.heap.size+1,u,none⟩) (by show _≤W.heap.size+1;omega) y,(rb.later hb).bf bf (by intro e;omega),?_⟩
 have st:∀{v l},Ok3 (W.heap.size+1) w3 v l→Ok3 (W.heap.size+1) (w3.setCell ⟨W.heap.size+1,u,none⟩ y) v l:=fun k=>k.sets (Nat.le_refl _) u [y]
 rcases (by omega:u=0∨u=1∨u=2) with rfl|rfl|rfl
 ·exact⟨y,v1,v2,ob3,fun _=>st ok,fun h=>absurd h (by decide),fun h=>absurd h (by decide)⟩
 ·exact⟨v0,y,v2,ob3,fun _=>st ((o0 (by decide)).later hb),fun _=>st ok,fun h=>absurd h (by decide)⟩
 ·exact⟨v0,v1,y,ob3,fun _=>st ((o0 (by decide)).later hb),fun _=>st ((o1 (by decide)).later hb),fun _=>st ok⟩
theorem AlI.drew {W:World} {L:Nat→List Sl} {u:Nat} {wr:World} (h:AlI W L u wr):AlI W L u wr.drew:=⟨h.bl.drew,h.rb.drew,by
 obtain⟨v0,v1,v2,ob,o0,o1,o2⟩:=h.ob
 exact⟨v0,v1,v2,ob.drew,fun k=>(o0 k).later (Below.refl _ _).drew,fun k=>(o1 k).later (Below.refl _ _).drew,fun k=>(o2 k).later (Below.refl _ _).drew⟩⟩
theorem size3:(Tryz.prog.info? 54).map (·.size)=some 3:=by kernel_rfl
def AlR (W:World) (L:Nat→List Sl) (e:Ending) (w':World):Prop:=∃v0 v1 v2,e = .returned (.agg #[v0,v1,v2])∧Ok3 (W.heap.size+1) w' v0 (L 0)∧Ok3 (W.heap.size+1) w' v1 (L 1)∧Ok3 (W.heap.size+1) w' v2 (L 2)∧Below W.heap.size W w'
theorem Ok3.one {C:Nat} {w:World} {y:Value} {l:List Sl} (h:Ok3 C w y l):y.oneCell'=true:=by
 obtain⟨a,c,rfl,-,-⟩:=h
 rfl
theorem AlI.fin {W:World} {L:Nat→List Sl} {wr:World} (h:AlI W L 3 wr):∃v0 v1 v2,(Instr.loadAt 54 (.pointer (some ⟨W.heap.size+1,0,none⟩))).run Tryz.prog wr = .ok (.agg #[v0,v1,v2]) wr∧(Instr.storeAt 54 (.pointer (some ⟨W.heap.size,0,none⟩)) (.agg #[v0,v1,v2])).run Tryz.prog wr = .ok () (wr.setCells W.heap.size 0 [v0,v1,v2])∧Hid ((loadVar 54 ⟨W.heap.size,0,none⟩).run Tryz.prog (wr.setCells W.heap.size 0 [v0,v1,v2]) = .ok (.agg #[v0,v1,v2]) (wr.setCells W.heap.size 0 [v0,v1,v2])∧AlR W L (.returned (.agg #[v0,v1,v2])) (wr.setCells W.heap.size 0 [v0,v1,v2])):=by
 obtain⟨bl,rb,v0,v1,v2,ob,o0,o1,o2⟩:=h
 have k0:=o0 (by decide)
 have k1:=o1 (by decide)
 have k2:=o2 (by decide)
 have one:∀v∈[v0,v1,v2],v.oneCell'=true:=fun v hv=>by
  simp at hv
  rcases hv with rfl|rfl|rfl
  ·exact k0.one
  ·exact k1.one
  ·exact k2.one
 have L1:=run_loadAt_mid (P:=Tryz.prog) wr (W.heap.size+1) 0 54 [v0,v1,v2] _ ob.r Tryz.underlying54 rfl size3
 have S1:=run_storeAt_mid (P:=Tryz.prog) wr W.heap.size 0 54 #[v0,v1,v2] rb.there size3 (by simpa using one)
 have R1:=run_loadVar_mid (P:=Tryz.prog) (wr.setCells W.heap.size 0 [v0,v1,v2]) W.heap.size 0 54 [v0,v1,v2] _ (rb.put [v0,v1,v2] rfl).r Tryz.underlying54 rfl size3
 exact⟨v0,v1,v2,L1,S1,R1,v0,v1,v2,rfl,k0.sets (by omega) 0 _,k1.sets (by omega) 0 _,k2.sets (by omega) 0 _,below_sets (Nat.le_refl _) _ 0 bl⟩
set_option maxHeartbeats 1000000 in
theorem xsameSlots_yes (a:Option Addr) (n c:Nat) (b:Option Addr) (c':Nat) (ss:List Sl) (hn:Hid (ss.length=n)) (hm:n≤9223372036854775807) (w:World) (h1:Hid (SlAt w a ss)) (h2:Hid (SlAt w b ss)) :
  Calls Tryz.prog 28 #[.slice a n c,.slice b n c'] w fun e w'=>e = .returned (.bool true)∧Below w.heap.size w w':=by
 go_enter Tryz.func28, Tryz.ntmps28
 go_wp2
 go_loopw [5] (fun i wr=>∃k:Nat,k≤n∧i = .int .i64 (k:Int)∧Hid (Below w.heap.size w wr)) (fun i _=>n - (intOf i).toNat)
 case atStart=>exact⟨0,Nat.zero_le _,rfl,Below.refl _ _⟩
 case round =>
  obtain⟨k,hk,rfl,I⟩:=hrel
  by_cases hlt:k < n
  ·have g1:(k:Int) < (n:Int):=by omega
   have hk':k < ss.length:=by rw[hn.out];exact hlt
   obtain⟨b1,o1,rfl,x1,y1⟩:=h1.out.later I.out k hk'
   obtain⟨b2,o2,rfl,x2,y2⟩:=h2.out.later I.out k hk'
   unfold sv at x1 y1 x2 y2
   obtain⟨id,hid⟩:∃X,st ss[k].1=X:=⟨_,rfl⟩
   obtain⟨tx,htx⟩:∃X,st ss[k].2=X:=⟨_,rfl⟩
   rw[hid] at x1 x2
   rw[htx] at y1 y2
   clear hid htx
   have YY:(id.toList == id.toList)=true:=by simp
   have ZZ:(tx.toList == tx.toList)=true:=by simp
   have gk:k < n:=hlt
   go_wp2_with fail
   go_quiet (fail)
   have I2:Hid (Below w.heap.size w (wr.drewN nq)):=below_drewN I.out _
   clear x1 x2 y1 y2 I
   go_wp2
   go_roundw
   case rel=>exact⟨k+1,by omega,by go_num,I2.out⟩
   case measure=>simp[intOf];omega
  ·obtain rfl:k=n:=by omega
   go_wp2
   go_ret
   exact⟨rfl,I.out⟩
end Go.Proofs.YtjpaodepnacimaaGreatDoor
namespace Go.Proofs.Bx
open Go.Proofs.Dk Go.Proofs.Lg
def Up (n:Nat) (s:St):Prop:=∃f l,s=up n f l
theorem half_in {n h k:Nat} (hh:h≤1) (hk:k≤n / 2):h*(n / 2)+k≤n:=by
 have:h=0∨h=1:=by omega
 rcases this with rfl|rfl <;> omega
theorem sync_up {n:Nat} {s:St} (hs:Up n s):syE s=0∧Up n (syS s):=by
 obtain⟨f,l,rfl⟩:=hs
 exact⟨(sy_u n f l).1,_,_,(sy_u n f l).2⟩
theorem may_fit {t:Bs} (h:18≤t.length∧t.length≤240):may t=0:=by
 unfold may
 rw[if_neg (by omega),if_neg (by omega)]
theorem putR_may {u:Nat} {i t:Bs} (hi:i.length=16) (ht:t.length≤222):may (putR u i t)=0:=by
 refine may_fit ?_
 show 18≤(i++t).length+1+1∧(i++t).length+1+1≤240
 rw[List.length_append]
 omega
theorem ackR_may {u:Nat} {i:Bs} (hi:i.length=16):may (ackR u i)=0:=by
 refine may_fit ?_
 show 18≤i.length+1+1∧i.length+1+1≤240
 omega
theorem Gx.rms:∀(m:List Bs) {b:Bxs},Gx b→∀(u:Nat),Gx (upB b u (Bx.rms (b u) m))
 | [],b,h,u=>by rw[Bx.rms,upB_self];exact h
 | i::m,b,h,u=>by
  have z:=Gx.rms m (h.rm u i) u
  rw[upB_same,upB_upB] at z
  exact z
theorem aks_mem:∀(m:List Bs) (l:List Sl),∀i∈aks l m,i∈m
 | [],_,_,h=>h
 | a::m,l,i,h=>by
  rw[aks] at h
  by_cases c:a∈ids l
  ·rw[if_pos c] at h
   rcases List.mem_cons.1 h with h|h
   ·rw[h];exact List.mem_cons_self ..
   ·exact List.mem_cons_of_mem _ (aks_mem m _ i h)
  ·rw[if_neg c] at h
   exact List.mem_cons_of_mem _ (aks_mem m _ i h)
theorem app_ok {n:Nat} {s:St} (hs:Up n s) {x:Lo} (hh:x.h≤1) {t:Bs} (ht:may t=0) (hr:x.tk+sn t≤n / 2):(app s x t).1.1=0∧Up n (app s x t).1.2∧(app s x t).2=⟨x.h,x.g,x.ts++[t]⟩:=by
 obtain⟨f,l,rfl⟩:=hs
 unfold app
 have z:=wrb_u (rcd_len x.mr t) (n:=n) (k:=x.h*(n / 2)+x.tk) (by have:=half_in (n:=n) hh hr;omega) f l
 have e1:(wrb (up n f l) (x.h*((up n f l).n / 2)+x.tk) (rcd x.mr t))=(0,up n f (l++wts (x.h*(n / 2)+x.tk) (chs (sn t) (rcd x.mr t)))):=z
 rw[if_neg (by rw[ht];decide),if_neg (show ¬(up n f l).n / 2 < x.tk+sn t from Nat.not_lt.2 hr)]
 simp only[e1]
 exact⟨by first|rfl|trivial,⟨_,_,rfl⟩,by first|rfl|trivial⟩
theorem wrX_ok {n:Nat} {s:St} (hs:Up n s) {x:Lo} (hh:x.h≤1) {r:Bs} (ht:may r=0) (hr:x.tk+sn r≤n / 2) (b c:Bxs):(wrX s x b c [r]).1.1.1=0∧Up n (wrX s x b c [r]).1.1.2∧(wrX s x b c [r]).1.2=⟨x.h,x.g,x.ts++[r]⟩∧(wrX s x b c [r]).2=c:=by
 obtain⟨a1,a2,a3⟩:=app_ok hs hh ht hr
 have e:apX s x [r]=((0,(app s x r).1.2),⟨x.h,x.g,x.ts++[r]⟩):=by
  rw[apX,if_pos a1,apX,a3]
 have y:=sync_up a2
 unfold wrX
 rw[e]
 rw[if_neg (show ¬(0:Int)=151 by decide),if_neg (show ¬(0:Int)≠0 by decide)]
 exact⟨y.1,y.2,rfl,if_pos y.1⟩
theorem sn_small {r:Bs} (h:r.length≤46):sn r=1:=by
 unfold sn
 omega
end Go.Proofs.Bx
namespace Go.Proofs.YtjpaodepnacimaaGreatDoor
open Go.RowKit Go.Proofs.Fd Go.Proofs.Dk Go.Proofs.Lg Go.Proofs.Bx
set_option maxRecDepth 20000
def Okv (w:World) (y:Value) (l:List Sl):Prop:=∃a c,y = .slice a l.length c∧Sli w a l.length c l
theorem Okv.one {w:World} {y:Value} {l:List Sl} (h:Okv w y l):y.oneCell'=true:=by
 obtain⟨a,c,rfl,-⟩:=h
 rfl
theorem own_low {w:World} {base base':Nat} {y:Value} {n:Nat} {xs:List Value} (h:w.ownsRow base 58 2 y n xs) (hb:base'≤base):w.ownsRow base' 58 2 y n xs:=by
 refine⟨h.1,?_⟩
 rcases h.2 with h2|⟨g,cap,cur,rfl,hg,hh⟩
 ·exact .inl h2
 ·exact .inr ⟨g,cap,cur,rfl,Nat.le_trans hb hg,hh⟩
def thn (away:Bool) (i t:Bs) (l:List Sl):List Sl:=if away then l.filter (fun e=>!decide (e.1=i)) else l++[(i,t)]
end Go.Proofs.YtjpaodepnacimaaGreatDoor
namespace Go.Proofs.YtjpaodepnacimaaGreatDoor
open Go.RowKit Go.Proofs.Fd Go.Proofs.Dk Go.Proofs.Lg
set_option maxRecDepth 20000
abbrev Hx:=Bs×Int
def hx1 (x:Hx):List Value:=[sv x.1,.int .i64 x.2]
def hxs2:List Hx→List Value
 | []=>[]
 | x::l=>hx1 x++hxs2 l
abbrev rsc (q most ep:Nat) (v:Value):List Value:=[.pointer (some ⟨q,0,none⟩),.int .i64 (most:Int),.int .i64 (ep:Int),v]
section
variable {w:World} {b q most ep:Nat} {v:Value} {l:List Hx}
end
theorem owns_low2 {w:World} {base base':Nat} {e:TypeId} {size n:Nat} {v:Value} {xs:List Value} (h:w.ownsRow base e size v n xs) (hb:base'≤base):w.ownsRow base' e size v n xs:=by
 refine⟨h.1,?_⟩
 rcases h.2 with h2|⟨g,cap,cur,rfl,hg,hh⟩
 ·exact .inl h2
 ·exact .inr ⟨g,cap,cur,rfl,Nat.le_trans hb hg,hh⟩
theorem app_tx1 (base:Nat) (w:World) (v:Value) (xs:List Bs) (h:w.ownsRow base 9 1 v xs.length (scs xs)) (hbase:base≤w.heap.size) (hx:xs.length≤1000000) (t:Bs) :
  ∃v' w',(Builtin.append_ #[37, 37] 37 #[v,.slice (some ⟨w.heap.size,0,none⟩) 1 1]).run Tryz.prog (w.alloc (.cells #[.string (st t)] 9)) = .ok v' w'∧w'.ownsRow base 9 1 v' (xs++[t]).length (scs (xs++[t]))∧(w.alloc (.cells #[.string (st t)] 9)).grownBy w' v.ownBlock:=by
 obtain⟨i0,hi,hz0,hz1,hz2⟩:=info_parts infoS
 obtain⟨v',w',r1,r2,r3,-,-⟩:=run_append_own_at (P:=Tryz.prog) (w.alloc (.cells #[.string (st t)] 9)) base 37 37 9 i0 _ 1 16 Tryz.underlying37 hi hz0 hz1 hz2 rfl (by decide) v xs.length (scs xs) (h.alloc _) ⟨w.heap.size,0,none⟩ 1 1 [sv t] rfl (one_new w (sv t) _) (scs_one [t]) (by unfold maxLen;omega) (by omega) (by simp;omega)
 refine⟨v',w',r1,?_,r3⟩
 rw[scs_app,List.length_append]
 exact r2
theorem Es.turn {w:World} {b q ep most:Nat} {va vh:Value} {ah he:List Bs} (h:Es w b q ep most va vh ah he) (k:Nat) :
  Es (((w.setCell ⟨b,2,none⟩ vh).setCell ⟨b,3,none⟩ (.slice none 0 0)).setCell ⟨b,1,none⟩ (.int .i64 (k:Int))) b q k most vh (.slice none 0 0) he []:=by
 have B1:=((h.bk.set 2 (show 2 < 5 by decide) vh).set 3 (show 3 < 5 by decide) (.slice none 0 0)).set 1 (show 1 < 5 by decide) (.int .i64 (k:Int))
 refine⟨B1,ownsRow_same h.rh (fun x e => ?_),owns_nilS _,h.hv,(fun c=>by cases c),fun g _ c=>by cases c⟩
 have nx:∀o,x≠(⟨b,o,none⟩:Addr).block:=fun o c=>h.hv (by rw[e,c])
 rw[Below.heap_setCell _ ⟨b,1,none⟩ _ x (nx 1),Below.heap_setCell _ ⟨b,3,none⟩ _ x (nx 3),Below.heap_setCell _ ⟨b,2,none⟩ _ x (nx 2)]
theorem app_tx (base:Nat) (w:World) (ty:TypeId) (v:Value) (xs:List Bs) (h:w.ownsRow base 9 1 v xs.length (scs xs)) (hbase:base≤w.heap.size) (a:Option Addr) (n c:Nat) (l:List Bs) (hn:l.length=n) (hx:xs.length≤1000000) (hl:n≤1000000) (tx:TxAt w a l) :
  ∃v' w',(Builtin.append_ #[37, 37] ty #[v,.slice a n c]).run Tryz.prog w = .ok v' w'∧w'.ownsRow base 9 1 v' (xs++l).length (scs (xs++l))∧w.grownBy w' v.ownBlock:=by
 obtain⟨i0,hi,hz0,hz1,hz2⟩:=info_parts infoS
 cases a with
 | none =>
  have h0:l=[]:=by
   cases l with
   | nil=>rfl
   | cons k r=>obtain⟨b,o,e,-⟩:=tx 0 (by simp);cases e
  subst h0
  have hn0:n=0:=hn.symm
  subst hn0
  refine⟨v,w,?_,by rw[List.append_nil];exact h,World.grownBy.refl _ _⟩
  rcases h.2 with ⟨rfl,hh⟩|⟨g,c2,cur,rfl,_,_,hnc,_⟩
  ·simp[Builtin.append_,run_underlying Tryz.underlying37, sizeOf,typeInfo,hi,Builtin.lenOf,Builtin.firstCells]
  ·simp[Builtin.append_,run_underlying Tryz.underlying37, sizeOf,typeInfo,hi,Builtin.lenOf,Builtin.firstCells,hnc,storeCells]
 | some ad =>
  obtain⟨v',w',r1,r2,r3,-,-⟩:=run_append_own_at (P:=Tryz.prog) w base 37 ty 9 i0 _ 1 16 Tryz.underlying37 hi hz0 hz1 hz2 rfl (by decide) v xs.length (scs xs) h ad n c (scs l) (by rw[scs_len,hn,Nat.mul_one]) (fun j u hj=>by
   have hj':j < l.length:=by
    have:=(List.getElem?_eq_some_iff.1 hj).1
    simpa[scs] using this
   obtain⟨b,o,e,hc⟩:=tx j hj'
   obtain rfl:=Option.some.inj e
   rw[Addr.add_mid,hc]
   simp[scs,hj'] at hj
   rw[hj]) (scs_one l) (by unfold maxLen;omega) (by omega) hbase
  refine⟨v',w',r1,?_,r3⟩
  rw[scs_app,List.length_append,hn]
  exact r2
def hads (ep:Nat) (ah he:List Bs):List Hx:=ah.map (fun t=>(t,(ep:Int) - 1))++he.map (fun t=>(t,(ep:Int)))
def tun (ep:Nat) (ah he:List Bs) (n:Nat):List Bs×List Bs:=if n=ep then (ah,he) else if n=ep+1 then (he,[]) else ([],[])
theorem owns_txn {w:World} {base:Nat} {v:Value} {l:List Bs} {n:Nat} (hn:l.length=n) (h:w.ownsRow base 9 1 v n (scs l)):∃a cap,v = .slice a n cap∧TxAt w a l∧∀x,a=some x→base≤x.block:=by
 obtain⟨a,c,rfl,tx,-⟩:=owns_tx hn (owns_low2 h (Nat.zero_le _))
 refine⟨a,c,rfl,tx,fun x e => ?_⟩
 subst e
 rcases h.2 with ⟨c,-⟩|⟨g,cap,cur,e1,e2,-⟩
 ·injection c with c1;cases c1
 ·injection e1 with e1
  injection e1 with e1
  rw[e1]
  exact e2
def Ow (w W:World) (v:Value) (xs:List Bs):Prop:=W.ownsRow w.heap.size 9 1 v xs.length (scs xs)∧Below w.heap.size w W
theorem Ow.later {w W W':World} {v:Value} {xs:List Bs} (h:Ow w W v xs) (hb:Below W.heap.size W W'):Ow w W' v xs:=⟨owns_laterS h.1 hb,chain h.2 hb⟩
theorem Ow.one {w W:World} {v:Value} {xs:List Bs} (h:Ow w W v xs) (hx:xs.length≤1000000) (t:Bs) :
  ∃a n c w',(Builtin.append_ #[37, 37] 37 #[v,.slice (some ⟨W.heap.size,0,none⟩) 1 1]).run Tryz.prog (W.alloc (.cells #[.string (st t)] 9)) = .ok (.slice a n c) w'∧Hid (Ow w w' (.slice a n c) (xs++[t])):=by
 obtain⟨v',w',r1,r2,r3⟩:=app_tx1 w.heap.size W v xs h.1 h.2.size hx t
 have B1:Below w.heap.size w (W.alloc (.cells #[.string (st t)] 9)):=h.2.alloc h.2.size _
 have K:Ow w w' v' (xs++[t]):=⟨r2,B1.grown r3 B1.size (fun q hq=>(h.1.lt q hq).1)⟩
 obtain⟨a,c,rfl,-,-⟩:=owns_tx rfl (owns_low2 r2 (Nat.zero_le _))
 exact⟨a,_,c,w',r1,K⟩
theorem Ow.many {w W:World} {v:Value} {xs:List Bs} (h:Ow w W v xs) (hx:xs.length≤1000000) (a:Option Addr) (n c:Nat) (l:List Bs) (hn:l.length=n) (hl:n≤1000000) (tx:TxAt W a l) :
  ∃ya yn yc w',(Builtin.append_ #[37, 37] 37 #[v,.slice a n c]).run Tryz.prog W = .ok (.slice ya yn yc) w'∧Hid (Ow w w' (.slice ya yn yc) (xs++l)):=by
 obtain⟨v',w',r1,r2,r3⟩:=app_tx w.heap.size W 37 v xs h.1 h.2.size a n c l hn hx hl tx
 have K:Ow w w' v' (xs++l):=⟨r2,h.2.grown r3 h.2.size (fun q hq=>(h.1.lt q hq).1)⟩
 obtain⟨ya,yc,rfl,-,-⟩:=owns_tx rfl (owns_low2 r2 (Nat.zero_le _))
 exact⟨ya,_,yc,w',r1,K⟩
end Go.Proofs.YtjpaodepnacimaaGreatDoor
namespace Go.Proofs.YtjpaodepnacimaaGreatDoor
open Go.RowKit Go.Proofs.Fd Go.Proofs.Dk Go.Proofs.Lg Go.Proofs.Bx
set_option maxRecDepth 20000
theorem own_apartY {w w':World} {base base2:Nat} {e e2:TypeId} {size size2:Nat} {v v2:Value} {n n2:Nat} {xs xs2:List Value} (h:w.ownsRow base e size v n xs) (h2:w.ownsRow base2 e2 size2 v2 n2 xs2) (hne:e≠e2) (hg:w.grownBy w' v2.ownBlock):w'.ownsRow base e size v n xs:=by
 refine⟨h.1,?_⟩
 rcases h.2 with hn|⟨g,cap,cur,rfl,hbg,hgg,rest⟩
 ·exact .inl hn
 ·refine .inr ⟨g,cap,cur,rfl,hbg,?_,rest⟩
  have hl:=(Array.getElem?_eq_some_iff.1 hgg).1
  rw[hg.block g hl ?_]
  ·exact hgg
  ·intro he
   rcases h2.2 with ⟨rfl,-⟩|⟨g2,cap2,cur2,rfl,-,hg2,-⟩
   ·cases he
   ·have:g2=g:=by simpa[Value.ownBlock] using he.symm
    subst this
    rw[hgg] at hg2
    injection hg2 with hg2
    injection hg2 with _ q
    exact hne q
theorem app_strY (base:Nat) (W:World) (v:Value) (L:List Bs) (h:W.ownsRow base 9 1 v L.length (scs L)) (hb:base≤W.heap.size) (hl:L.length≤1000000) (t:Bs) (y:Value) (l:List Sl) (ho:W.ownsRow base 58 2 y l.length (scx l)) :
  ∃v' W2,(Builtin.append_ #[37, 37] 37 #[v,.slice (some ⟨W.heap.size,0,none⟩) 1 1]).run Tryz.prog (W.alloc (.cells #[.string (st t)] 9)) = .ok v' W2∧W2.ownsRow base 9 1 v' (L++[t]).length (scs (L++[t]))∧Below base W W2∧W2.ownsRow base 58 2 y l.length (scx l):=by
 obtain⟨i0,hi,hz0,hz1,hz2⟩:=info_parts infoS
 have hown:(W.alloc (.cells #[.string (st t)] 9)).ownsRow base 9 1 v L.length (scs L):=h.alloc _
 have hown2:(W.alloc (.cells #[.string (st t)] 9)).ownsRow base 58 2 y l.length (scx l):=ho.alloc _
 obtain⟨v',w',r1,r2,r3,-,-⟩:=run_append_own_at (P:=Tryz.prog) (W.alloc (.cells #[.string (st t)] 9)) base 37 37 9 i0 _ 1 16 Tryz.underlying37 hi hz0 hz1 hz2 rfl (by decide) v L.length (scs L) hown ⟨W.heap.size,0,none⟩ 1 1 (scs [t]) rfl (fun j u hj=>by
  have hj':j < 1:=by
   have:=(List.getElem?_eq_some_iff.1 hj).1
   simpa[scs] using this
  obtain rfl:j=0:=by omega
  rw[Addr.add_mid,World.cell?_alloc_new]
  exact hj) (scs_one _) (by unfold maxLen;omega) (by omega) (by simp;omega)
 refine⟨v',w',r1,?_,?_,own_apartY hown2 hown (by decide) r3⟩
 ·rw[scs_app,List.length_append]
  exact r2
 ·exact ((Below.refl base W).alloc hb _).grown r3 (by simp;omega) (fun q hq=>(hown.lt q hq).1)
set_option maxHeartbeats 4000000 in
theorem ybshort_any (a:Option Addr) (n c:Nat) (E:List En) (hn:E.length=n) (h1:n≤50000) (gx:Gx (ofE E)) (us:Bx.Us E) (w:World) (h:Hid (EnAt w a E)) :
  Calls Tryz.prog 99 #[.slice a n c] w fun e w'=>∃a c,e = .returned (.slice a (shX (ofE E)).length c)∧TxAt w' a (shX (ofE E))∧Below w.heap.size w w'∧∀x,a=some x→w.heap.size≤x.block:=by
 have OF:Hid (∀(u:Nat) W,Below w.heap.size w W→Calls Tryz.prog 33 #[.slice a n c,.int .i64 (u:Int)] W fun e w'=>∃y,e = .returned y∧w'.ownsRow W.heap.size 58 2 y (ofE E u).length (scx (ofE E u))∧Below W.heap.size W w'):=fun u W hb=>by
  have:=ybof_any a n c E (u:Int) hn (by omega) W (h.out.later hb)
  rw[ofZ_nat] at this
  exact this
 have PU:Hid (∀(u:Nat) (e:Sl) W,u < 64→e∈ofE E u→Calls Tryz.prog 60 #[.int .i64 (u:Int),.agg #[.string (st e.1),.string (st e.2)]] W fun e' w'=>e' = .returned (.string (st (putR u e.1 e.2)))∧Below W.heap.size W w'):=fun u e W hu he=>by
  have:=gx.i u e he
  exact ybput_any u hu e.1 e.2 (okI_len this.1) this.2 W
 have ML:Hid (∀u,u < 64→(shU (ofE E) u).length+(ofE E u).length≤1000000):=fun u hu=>by
  have e1:=shU_len (ofE E) (u+1)
  have e2:=manyX_mono (ofE E) (show u+1≤64 by omega)
  rw[ofE_many E us,hn] at e2
  rw[shU_succ,List.length_append,List.length_map] at e1
  show _≤_
  omega
 obtain⟨bx,hbx⟩:∃b,ofE E=b:=⟨_,rfl⟩
 rw[hbx] at OF PU ML ⊢
 clear gx us hbx h hn
 go_enter Tryz.func99, Tryz.ntmps99
 go_wp2
 go_loopw [3,4] (fun v i wr=>∃u:Nat,u≤64∧i = .int .i64 (u:Int)∧Hid (wr.ownsRow w.heap.size 9 1 v (shU bx u).length (scs (shU bx u))∧Below w.heap.size w wr)) (fun _ i _=>64 - (intOf i).toNat)
 case atStart=>exact⟨0,by omega,rfl,World.ownsRow_nil _ _ _ _,Below.refl _ _⟩
 case round =>
  obtain⟨u,hu,rfl,J⟩:=hrel
  by_cases hlt:u < 64
  ·have g1:(u:Int) < 64:=by omega
   have O1:Hid _:=OF.out u wr J.out.2
   go_wp2_with fail
   refine Calls.mono O1.out ?_
   rintro e w2 ⟨y,rfl,ho2,hb2⟩
   have HO:Hid (w2.ownsRow w.heap.size 58 2 y (bx u).length (scx (bx u))):=own_low ho2 J.out.2.size
   have J2:Hid (w2.ownsRow w.heap.size 9 1 u3 (shU bx u).length (scs (shU bx u))∧Below w.heap.size w w2):=⟨owns_laterS J.out.1 hb2,chain J.out.2 hb2⟩
   obtain⟨ya,yc,rfl,-,-⟩:=owns_sl rfl ho2
   obtain⟨m,hm⟩:∃m,(bx u).length=m:=⟨_,rfl⟩
   have HM:Hid ((bx u).length=m):=hm
   rw[hm] at HO ⊢
   have hm2:m≤1000000:=by
    have:=ML.out u hlt
    omega
   clear J O1 ho2 hb2 hm
   go_wp2
   go_loopw [3,6] (fun v i wr=>∃j:Nat,j≤m∧i = .int .i64 (j:Int)∧Hid (wr.ownsRow w.heap.size 9 1 v (shU bx u++((bx u).take j).map fun e=>putR u e.1 e.2).length (scs (shU bx u++((bx u).take j).map fun e=>putR u e.1 e.2))∧Below w.heap.size w wr∧wr.ownsRow w.heap.size 58 2 (.slice ya m yc) m (scx (bx u)))) (fun _ i _=>m - (intOf i).toNat)
   case atStart=>exact⟨0,Nat.zero_le _,rfl,(by rw[List.take_zero,List.map_nil,List.append_nil];exact J2.out.1),J2.out.2,HO.out⟩
   case round =>
    obtain⟨j,hj,rfl,K⟩:=hrel
    clear J2 HO
    by_cases hjm:j < m
    ·have g2:(j:Int) < (m:Int):=by omega
     have hjl:j < (bx u).length:=by rw[HM.out];exact hjm
     obtain⟨ya',yc',e3,sl,-⟩:=owns_sl HM.out K.out.2.2
     injection e3 with e4 e5 e6
     subst e4
     subst e6
     obtain⟨g,o,rfl,c0,c1⟩:=sl.at_ j hjl
     have ET:Hid ((bx u).take (j+1)=(bx u).take j++[(bx u)[j]]):=List.take_succ_eq_append_getElem hjl
     have EM:Hid ((bx u)[j]∈bx u):=List.getElem_mem hjl
     obtain⟨⟨ei,et⟩,hel⟩:∃e,(bx u)[j]=e:=⟨_,rfl⟩
     rw[hel] at c0 c1 ET EM
     simp only at c0 c1
     have P1:Hid _:=PU.out u (ei,et) wr hlt EM.out
     have LL:Hid ((shU bx u++((bx u).take j).map fun e=>putR u e.1 e.2).length≤1000000):=by
      have:=ML.out u hlt
      show _≤_
      rw[List.length_append,List.length_map,List.length_take]
      omega
     have AP:Hid (∀W,Below wr.heap.size wr W→∃v' W2,(Builtin.append_ #[37, 37] 37 #[u3,.slice (some ⟨W.heap.size,0,none⟩) 1 1]).run Tryz.prog (W.alloc (.cells #[.string (st (putR u ei et))] 9)) = .ok v' W2∧Hid (W2.ownsRow w.heap.size 9 1 v' (shU bx u++((bx u).take (j+1)).map fun e=>putR u e.1 e.2).length (scs (shU bx u++((bx u).take (j+1)).map fun e=>putR u e.1 e.2))∧Below w.heap.size w W2∧W2.ownsRow w.heap.size 58 2 (.slice (some ⟨g,o,none⟩) m yc) m (scx (bx u)))):=fun W hb=>by
      have z1:=K.out.2.1.size
      have z2:=hb.size
      have ho:=owns_laterX K.out.2.2 hb
      obtain⟨l0,hl0⟩:∃l,bx u=l:=⟨_,rfl⟩
      obtain⟨v',W2,r1,r2,r3,r4⟩:=app_strY w.heap.size W u3 _ (owns_laterS K.out.1 hb) (by omega) LL.out (putR u ei et) (.slice (some ⟨g,o,none⟩) m yc) (bx u) (by rw[HM.out];exact ho)
      rw[HM.out] at r4
      refine⟨v',W2,r1,?_,(K.out.2.1.trans (hb.mono z1)).trans r3,r4⟩
      rw[ET.out,List.map_append,←List.append_assoc]
      exact r2
     unfold sv at c0 c1
     obtain⟨X0,hX0⟩:∃X,st ei=X:=⟨_,rfl⟩
     obtain⟨X1,hX1⟩:∃X,st et=X:=⟨_,rfl⟩
     obtain⟨X2,hX2⟩:∃X,st (putR u ei et)=X:=⟨_,rfl⟩
     simp only at P1
     rw[hX0,hX1,hX2] at P1
     rw[hX0] at c0
     rw[hX1] at c1
     rw[hX2] at AP
     clear hX0 hX1 hX2 K sl hel ET EM LL
     go_wp2_with fail
     refine Calls.mono P1.out ?_
     rintro e w4 ⟨rfl,hb4⟩
     obtain⟨v',W2,r1,F2⟩:=AP.out w4 hb4
     clear AP P1 hb4 c0 c1
     go_wp2_with (first|(at_builtin;refine Go.Lib.wpList_append_run _ rfl _ _ _ _ rfl _ _ rfl rfl _ _ r1 ?_))
     go_roundw
     case rel=>exact⟨j+1,by omega,by go_num,F2.out⟩
     case measure=>simp[intOf];omega
    ·obtain rfl:j=m:=by omega
     have g2:¬(j:Int) < (j:Int):=by omega
     have K1:=K.out
     rw[List.take_of_length_le (by rw[HM.out];exact Nat.le_refl _),←shU_succ] at K1
     have F1:Hid _:=K1
     clear K K1
     go_wp2
     go_roundw
     case rel=>exact⟨u+1,by omega,by go_num,F1.out.1,F1.out.2.1⟩
     case measure=>simp[intOf];omega
  ·obtain rfl:u=64:=by omega
   have g1:¬((64:Nat):Int) < 64:=by decide
   have J1:=J.out
   rw[shU_all] at J1
   obtain⟨va,vc,rfl,tx,hnw⟩:=owns_txn rfl J1.1
   have F1:Hid (TxAt wr va (shX bx)∧Below w.heap.size w wr∧∀x,va=some x→w.heap.size≤x.block):=⟨tx,J1.2,hnw⟩
   clear J J1 tx hnw
   go_wp2
   go_ret
   first|exact⟨va,vc,rfl,F1.out⟩|exact⟨va,⟨vc,rfl⟩,F1.out⟩
end Go.Proofs.YtjpaodepnacimaaGreatDoor
namespace Go.Proofs.YtjpaodepnacimaaGreatDoor
open Go.RowKit Go.Proofs.Fd Go.Proofs.Dk Go.Proofs.Lg
set_option maxRecDepth 20000
def tkp (ep:Nat) (ah he:List Bs) (r:Bs):Option (Nat×List Bs×List Bs) :=
 if r.length=17∧r.head?=some 84 then some (ep,ah,if r.tail∈ah++he then he else he++[r.tail])
 else if r.length=5∧r.head?=some 69 then (if nm r.tail < ep∨2147483647 < nm r.tail then none else some (nm r.tail,tun ep ah he (nm r.tail)))
 else none
def FZ (G:Nat→Prop) (q:Nat) (v:Value) (b:Nat) (u:Value) (y:Nat):Prop:=FQ G q v y∨HFt b u y
section
variable {w:World} {F:Nat→Prop} {d q b most:Nat} {s:St} {x:Lo} {ep:Nat} {ah he:List Bs} {w1:World}
end
end Go.Proofs.YtjpaodepnacimaaGreatDoor
namespace Go.Proofs.YtjpaodepnacimaaGreatDoor
open Go.RowKit Go.Proofs.Fd Go.Proofs.Dk Go.Proofs.Lg Go.Proofs.Bx
set_option maxRecDepth 20000
abbrev ybc (q quota:Nat) (v:Value):List Value:=[.pointer (some ⟨q,0,none⟩),.int .i64 (quota:Int),v]
structure Yb (w:World) (b q quota:Nat) (v:Value) (E:List En):Prop where
 bk:Blk w b (ybc q quota v)
 row:OwnsE w v E
 bv:v.ownBlock≠some b
section
variable {w:World} {b q quota:Nat} {v:Value} {E:List En}
theorem Yb.lt (h:Yb w b q quota v E) {x:Nat} (hx:HFt b v x):x < w.heap.size:=by
 rcases hx with rfl|e
 ·exact h.bk.lt
 ·exact (h.row.lt x e).2
theorem Yb.same (h:Yb w b q quota v E) {w':World} (hs:∀x,HFt b v x→w'.heap[x]?=w.heap[x]?):Yb w' b q quota v E :=
 ⟨h.bk.same (hs b (.inl rfl)),ownsRow_same h.row (fun x e=>hs x (.inr e)),h.bv⟩
theorem Yb.later (h:Yb w b q quota v E) {w':World} (hb:Below w.heap.size w w'):Yb w' b q quota v E:=h.same fun x hx=>hb.block x (h.lt hx)
theorem Yb.bf (h:Yb w b q quota v E) {F:Nat→Prop} {w':World} (hb:Bf F w w') (hF:∀x,HFt b v x→¬F x):Yb w' b q quota v E:=h.same fun x hx=>hb.block x (h.lt hx) (hF x hx)
theorem Yb.row' (h:Yb w b q quota v E) {u:Value} {F:List En} (ho:OwnsE w u F) (hu:u.ownBlock≠some b) :
  Yb (w.setCell ⟨b,2,none⟩ u) b q quota u F∧Bf (HFt b v) w (w.setCell ⟨b,2,none⟩ u) :=
 ⟨⟨h.bk.set 2 (show 2 < 3 by decide) u,ownsRow_same ho (fun x e=>Below.heap_setCell w ⟨b,2,none⟩ u x (fun c=>hu (by rw[e,c]))),hu⟩,Bf.set _ w b 2 u (.inl rfl)⟩
end
structure Yz (w:World) (d:Nat) (G:Nat→Prop) (s:St) (q:Nat) (v:Value) (x:Lo) (b quota:Nat) (u:Value) (E:List En):Prop where
 rl:Rl w d G s q v x
 rs:Yb w b q quota u E
 ap:∀y,HFt b u y→¬FQ G q v y
def YzP (w:World) (F:Nat→Prop) (d q b quota:Nat) (s:St) (x:Lo) (E:List En) (w':World):Prop:=∃G v u,Yz w' d G s q v x b quota u E∧Nx w F (FZ G q v b u)∧Bf F w w'
section
variable {w:World} {F:Nat→Prop} {d q b quota:Nat} {s:St} {x:Lo} {E:List En} {w1:World}
theorem Yz.later {G:Nat→Prop} {v u:Value} (k:Yz w1 d G s q v x b quota u E) {w2:World} (hb:Below w1.heap.size w1 w2):Yz w2 d G s q v x b quota u E:=⟨k.rl.later hb,k.rs.later hb,k.ap⟩
theorem Yz.lt {G:Nat→Prop} {v u:Value} (k:Yz w1 d G s q v x b quota u E) {z:Nat} (hz:FZ G q v b u z):z < w1.heap.size:=by
 rcases hz with e|e
 ·exact k.rl.fq e
 ·exact k.rs.lt e
theorem YzP.later (k:YzP w F d q b quota s x E w1) {w2:World} (hb:Below w1.heap.size w1 w2):YzP w F d q b quota s x E w2:=by
 obtain⟨G,v,u,z,n,f⟩:=k
 exact⟨G,v,u,z.later hb,n,f.later hb⟩
theorem Yz.start {G:Nat→Prop} {v u:Value} (k:Yz w1 d G s q v x b quota u E):YzP w1 (FZ G q v b u) d q b quota s x E w1:=⟨G,v,u,k,Nx.refl _ _,Bf.refl _ _⟩
theorem YzP.trans {F1:Nat→Prop} {w2:World} (k:YzP w1 F1 d q b quota s x E w2) (hn:Nx w F F1) (hf:Bf F w w1):YzP w F d q b quota s x E w2:=by
 obtain⟨G,v,u,z,n,f⟩:=k
 exact⟨G,v,u,z,hn.trans n hf.size,hf.trans hn f⟩
end
def YzL (w1:World) (G:Nat→Prop) (v:Value) (d q b quota:Nat) (u:Value) (s:St) (x:Lo) (E:List En) (w':World):Prop:=∃G' v',Yz w' d G' s q v' x b quota u E∧Nx w1 (FQ G q v) (FQ G' q v')∧Bf (FQ G q v) w1 w'
section
variable {w1 w2:World} {d q b quota:Nat} {s:St} {x:Lo} {E:List En} {G:Nat→Prop} {v u:Value}
theorem Yz.log (k:Yz w1 d G s q v x b quota u E) {s':St} {x':Lo} (z:RlP w1 d G q v s' x' w2):YzL w1 G v d q b quota u s' x' E w2:=by
 obtain⟨G',v',r,n1,n2,f⟩:=z
 have nq:Nx w1 (FQ G q v) (FQ G' q v'):=fun y hy=>by
  rcases hy with e|e
  ·rcases n1 y e with c|c
   ·exact .inl (.inl c)
   ·exact .inr c
  ·rcases n2 y e with c|c
   ·exact .inl (.inr c)
   ·exact .inr c
 exact⟨G',v',⟨r,k.rs.bf f k.ap,fun y hy=>nq.apart (k.ap y hy) (k.rs.lt hy)⟩,nq,f⟩
theorem YzL.later (k:YzL w1 G v d q b quota u s x E w2) {w3:World} (hb:Below w2.heap.size w2 w3):YzL w1 G v d q b quota u s x E w3:=by
 obtain⟨G',v',z,n,f⟩:=k
 exact⟨G',v',z.later hb,n,f.later hb⟩
theorem YzL.step {s':St} {x':Lo} {w3:World} (k:YzL w1 G v d q b quota u s x E w2) (h:∀G' v',Yz w2 d G' s q v' x b quota u E→YzL w2 G' v' d q b quota u s' x' E w3):YzL w1 G v d q b quota u s' x' E w3:=by
 obtain⟨G',v',z,n,f⟩:=k
 obtain⟨G2,v2,z2,n2,f2⟩:=h G' v' z
 exact⟨G2,v2,z2,n.trans n2 f.size,f.trans n f2⟩
theorem YzL.start (k:Yz w1 d G s q v x b quota u E):YzL w1 G v d q b quota u s x E w1:=⟨G,v,k,Nx.refl _ _,Bf.refl _ _⟩
theorem YzL.yzp (k:YzL w1 G v d q b quota u s x E w2):YzP w1 (FZ G q v b u) d q b quota s x E w2:=by
 obtain⟨G',v',z,n,f⟩:=k
 refine⟨G',v',u,z,fun y hy => ?_,f.wide fun _ c => .inl c⟩
 rcases hy with e|e
 ·rcases n y e with c|c
  ·exact .inl (.inl c)
  ·exact .inr c
 ·exact .inl (.inr e)
theorem YzL.row (k:YzL w1 G v d q b quota u s x E w2) {y:Value} {F:List En} (ho:OwnsE w1 y F) (hy:∀z,y.ownBlock=some z→¬FQ G q v z):OwnsE w2 y F:=by
 obtain⟨G',v',z,n,f⟩:=k
 exact ownsRow_same ho fun g e=>f.block g (ho.lt g e).2 (hy g e)
theorem YzL.set (k:YzL w1 G v d q b quota u s x E w2) {y:Value} {F:List En} (ho:OwnsE w1 y F) (hy:∀z,y.ownBlock=some z→¬FQ G q v z) {w0:World} {F0:Nat→Prop} (hn:Nx w0 F0 (FZ G q v b u)) (hf:Bf F0 w0 w1) (hyb:y.ownBlock≠some b) (hyn:∀z,y.ownBlock=some z→FZ G q v b u z∨w0.heap.size≤z):YzP w0 F0 d q b quota s x F (w2.setCell ⟨b,2,none⟩ y):=by
 have ho2:=k.row ho hy
 obtain⟨G',v',z,n,f⟩:=k
 obtain⟨r1,r2⟩:=z.rs.row' ho2 hyb
 have hs:=hf.size
 have fs:=f.size
 refine⟨G',v',y,⟨z.rl.other r2 (fun g hg c=>z.ap g c hg),r1,fun g hg c => ?_⟩,fun g hg => ?_,?_⟩
 ·rcases hg with e|e
  ·exact z.ap g (.inl e) c
  ·rcases n g c with c2|c2
   ·exact hy g e c2
   ·have:=(ho.lt g e).2
    omega
 ·rcases hg with e|e|e
  ·rcases n g e with c|c
   ·exact hn g (.inl c)
   ·exact .inr (by omega)
  ·exact hn g (.inr (.inl e))
  ·rcases hyn g e with c|c
   ·exact hn g c
   ·exact .inr c
 ·have f2:Bf (FZ G q v b u) w1 (w2.setCell ⟨b,2,none⟩ y):=(f.wide (G:=FZ G q v b u) fun _ c => .inl c).trans (F':=FZ G q v b u) (Nx.refl _ _) (r2.wide fun _ c => .inr c)
  exact hf.trans hn f2
end
end Go.Proofs.YtjpaodepnacimaaGreatDoor
