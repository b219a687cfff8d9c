/- A part of the walk. -/
import Derived.Test.YtjcppbhgjchjaaaGreatDoorZr3G34
import Derived.Test.YtjcppbhgjchjaaaGreatDoorZr3G24
set_option maxHeartbeats 8000000
set_option maxRecDepth 20000
namespace Go.Proofs.YtjcppbhgjchjaaaGreatDoor.Sto
open Go.RowKit Go.Proofs.Fd Go.Proofs.Dk Go.Proofs.Lg
theorem znS (base:Nat) (w:Wo) (v:Value) (xs:List Bs) (h:w.ownsRow base 9 1 v xs.length (scs xs)) (hbase:base<=w.heap.size) (hx:xs.length<=1000000) (t:Bs) :
  ∃v' w',(Builtin.append_ #[25, 25] 25 #[v,.slice (some ⟨w.heap.size,0,none⟩) 1 1]).run Tryz.prog (w.alloc (.cells #[.string (st t)] 9)) = .ok v' w'/\w'.ownsRow base 9 1 v' (xs++[t]).length (scs (xs++[t]))/\(w.alloc (.cells #[.string (st t)] 9)).grownBy w' v.ownBlock:=by
 obtain⟨i0,hi,hz0,hz1,hz2⟩:=info_parts znK;obtain⟨v',w',r1,r2,r3,-,-⟩:=run_append_own_at (P:=Tryz.prog) (w.alloc (.cells #[.string (st t)] 9)) base 25 25 9 i0 _ 1 16 Tryz.underlying25 hi hz0 hz1 hz2 rfl (by decide) v xs.length (scs xs) (h.alloc _) ⟨w.heap.size,0,none⟩ 1 1 [sv t] rfl (ziT w (sv t) _) (ziH [t]) (by unfold maxLen;omega) (by omega) (by simp;omega);refine⟨v',w',r1,?_,r3⟩;rw[zfd,List.length_append];exact r2
abbrev stc (q ep:Nat) (va vh:Value) (most:Nat):List Value:=[.pointer (some ⟨q,0,none⟩),.int .i64 (ep:Int),va,vh,.int .i64 (most:Int)]
structure Es (w:Wo) (b q ep most:Nat) (va vh:Value) (ah he:List Bs):Prop where
 bk:Blk w b (stc q ep va vh most)
 ra:OwnsS w va ah
 rh:OwnsS w vh he
 av:va.ownBlock≠some b
 hv:vh.ownBlock≠some b
 ne:∀g,va.ownBlock=some g->vh.ownBlock≠some g
def EFt (b:Nat) (va vh:Value) (g:Nat):Prop:=g=b\/va.ownBlock=some g\/vh.ownBlock=some g
section
variable {w:Wo} {b q ep most:Nat} {va vh:Value} {ah he:List Bs}
theorem Es.lt (h:Es w b q ep most va vh ah he) {x:Nat} (hx:EFt b va vh x):x < w.heap.size:=by
 rcases hx with rfl|e|e
 ·exact h.bk.lt
 ·exact (h.ra.lt x e).2
 ·exact (h.rh.lt x e).2
theorem Es.same (h:Es w b q ep most va vh ah he) {w':Wo} (hs:∀x,EFt b va vh x->w'.heap[x]?=w.heap[x]?):Es w' b q ep most va vh ah he :=
 ⟨h.bk.same (hs b (.inl rfl)),ownsRow_same h.ra (fun x e=>hs x (.inr (.inl e))),ownsRow_same h.rh (fun x e=>hs x (.inr (.inr e))),h.av,h.hv,h.ne⟩
theorem Es.later (h:Es w b q ep most va vh ah he) {w':Wo} (hb:Bw w w'):Es w' b q ep most va vh ah he:=h.same fun x hx=>hb.block x (h.lt hx)
theorem Es.bf (h:Es w b q ep most va vh ah he) {F:Nat->Prop} {w':Wo} (hb:Bf F w w') (hF:∀x,EFt b va vh x->¬F x):Es w' b q ep most va vh ah he:=h.same fun x hx=>hb.block x (h.lt hx) (hF x hx)
theorem Es.setc (h:Es w b q ep most va vh ah he) (i:Nat) (u:Value) (hi:i < 5):Blk (w.setCell ⟨b,i,none⟩ u) b ((stc q ep va vh most).set i u)/\OwnsS (w.setCell ⟨b,i,none⟩ u) va ah/\OwnsS (w.setCell ⟨b,i,none⟩ u) vh he :=
 ⟨h.bk.set i hi u,ownsRow_same h.ra (fun x e=>Below.heap_setCell w ⟨b,i,none⟩ u x (fun c=>h.av (by rw[e,c]))),ownsRow_same h.rh (fun x e=>Below.heap_setCell w ⟨b,i,none⟩ u x (fun c=>h.hv (by rw[e,c])))⟩
theorem Es.setEp (h:Es w b q ep most va vh ah he) (k:Nat):Es (w.setCell ⟨b,1,none⟩ (.int .i64 (k:Int))) b q k most va vh ah he:=by
 obtain⟨h1,h2,h3⟩:=h.setc 1 (.int .i64 (k:Int)) (by decide);exact⟨h1,h2,h3,h.av,h.hv,h.ne⟩
theorem Es.setHere (h:Es w b q ep most va vh ah he) {w':Wo} {v':Value} {us:List Bs} (k:w.grownBy w' vh.ownBlock) (o:OwnsS w' v' us) (hv:v'.ownBlock=vh.ownBlock\/v'.ownBlock=some w.heap.size) :
  Es (w'.setCell ⟨b,3,none⟩ v') b q ep most va v' ah us:=by
 have hq:w'.heap[b]?=w.heap[b]?:=k.block b h.bk.lt (fun e=>h.hv e.symm);have hn:v'.ownBlock≠some b:=fun c=>by
  rcases hv with e|e
  ·exact h.hv (e.symm.trans c)
  ·rw[e] at c
   injection c with c
   have:=h.bk.lt;omega
 have b1:=(h.bk.same hq).set 3 (show 3 < 5 by decide) v';refine⟨b1,ownsRow_same h.ra (fun x e => ?_),ownsRow_same o (fun x e=>Below.heap_setCell w' ⟨b,3,none⟩ v' x (fun c=>hn (by rw[e,c]))),h.av,hn,fun g e c => ?_⟩
 ·rw[Below.heap_setCell w' ⟨b,3,none⟩ v' x (fun c=>h.av (by rw[e,c]))]
  exact k.block x (h.ra.lt x e).2 (fun c=>h.ne x e c.symm)
 ·rcases hv with e2|e2
  ·exact h.ne g e (e2.symm.trans c)
  ·rw[e2] at c
   injection c with c
   have:=(h.ra.lt g e).2;omega
end
theorem zg5 (a:Option Addr) (n c:Nat) (l:List Bs) (hn:l.length=n) (hnb:n<=1000000) (X:Ba) (w:Wo) (h:Hid (zbq w a l)) :
  Cl 341 #[.slice a n c,.string X] w fun e w'=>∃z:Int,e = .returned (.int .i64 z)/\(0<=z↔X.data.toList∈l)/\w'=w:=by
 have HN:Hid (l.length=n):=hn;clear hn;go_enter Tryz.func341, Tryz.ntmps341;go_wp2;go_loopw [8] (fun i wr=>∃k:Nat,k<=n/\i = .int .i64 (k:Int)/\Hid (X.data.toList ∉ l.take k)/\w=wr) (fun i _=>n - (intOf i).toNat)
 case atStart=>exact⟨0,Nat.zero_le _,rfl,(by rw[List.take_zero];exact List.not_mem_nil),rfl⟩
 case round =>
  obtain⟨k,hk,rfl,J,rfl⟩:=hrel;by_cases hlt:k < n
  ·have hkl:k < l.length:=by rw[HN.out];exact hlt
   have g1:(k:Int) < (n:Int):=by omega
   obtain⟨b1,o1,rfl,c1⟩:=h.out k hkl;have ET:Hid (l.take (k+1)=l.take k++[l[k]]):=List.take_succ_eq_append_getElem hkl;have EM:Hid (l[k]∈l):=List.getElem_mem hkl;obtain⟨t,ht⟩:∃t,l[k]=t:=⟨_,rfl⟩;rw[ht] at c1 ET EM;unfold sv at c1;clear ht;by_cases he:X=st t
   ·subst he
    have EM2:Hid ((st t).data.toList∈l):=EM.out;obtain⟨T,hT⟩:∃T,st t=T:=⟨_,rfl⟩;rw[hT] at c1 EM2 ⊢;clear hT J ET;go_wp2;go_ret;exact⟨(k:Int),rfl,⟨fun _=>by first|exact EM2.out|exact EM.out,fun _=>by omega⟩,rfl⟩
   ·have HE:Hid (X.data.toList≠t):=fun c=>he (by rw[<-c];rfl)
    have hne:(X.toList == (st t).toList)=false:=by
     rw[ByteArray.toList_eq,ByteArray.toList_eq];exact beq_eq_false_iff_ne.2 HE.out
    obtain⟨T,hT⟩:∃T,st t=T:=⟨_,rfl⟩;rw[hT] at c1 hne;clear hT he;go_wp2;go_roundw
    case rel=>exact⟨k+1,by omega,rfl,(by rw[ET.out];intro c;rcases List.mem_append.1 c with c|c;exact J.out c;exact HE.out (List.mem_singleton.1 c)),by first|rfl|trivial⟩
    case measure=>simp[intOf];omega
  ·have g1:¬(k:Int) < (n:Int):=by omega
   have hkn:k=n:=by omega
   go_wp2;go_ret;refine⟨-1,rfl,⟨fun c=>absurd c (by decide),fun c => ?_⟩,rfl⟩;rw[<-List.take_of_length_le (show l.length<=k by rw[HN.out];omega)] at c;exact absurd c J.out
theorem zbK (a:Option Addr) (n c:Nat) (l:List Bs) (hn:l.length=n) (hnb:n<=1000000) (X:Ba) (w:Wo) (h:Hid (zbq w a l)) :
  Cl 294 #[.slice a n c,.string X] w fun e w'=>e = .returned (.bool (decide (X.data.toList∈l)))/\w'=w:=by
 have IX:Hid _:=zg5 a n c l hn hnb X w h;clear h hn;go_enter Tryz.func294, Tryz.ntmps294;go_wp2_with fail;refine cM IX.out ?_;rintro e w1 ⟨z,rfl,hz,rfl⟩;clear IX;by_cases hm:X.data.toList∈l
 ·have hz2:0<=z:=hz.2 hm
  have HM:Hid (X.data.toList∈l):=hm;clear hz hm;go_wp2;go_ret;exact⟨by rw[decide_eq_true HM.out];rfl,rfl⟩
 ·have hz2:decide (0<=z)=false:=decide_eq_false fun c=>hm (hz.1 c)
  have HM:Hid (X.data.toList ∉ l):=hm;clear hz hm;go_wp2;go_ret;exact⟨by rw[decide_eq_false HM.out];rfl,rfl⟩
theorem zdI (b q ep most:Nat) (va vh:Value) (ah he:List Bs) (h1:ah.length<=100000) (h2:he.length<=100000) (X:Ba) (w:Wo) (h:Hid (Es w b q ep most va vh ah he)) :
  Cl 224 #[.pointer (some ⟨b,1,none⟩),.string X] w fun e w'=>e = .returned (.bool (decide (X.data.toList∈ah++he)))/\w'=w:=by
 obtain⟨a1,c1,rfl,t1,-⟩:=zaU rfl h.out.ra;obtain⟨a2,c2,rfl,t2,-⟩:=zaU rfl h.out.rh;have S1:Hid _:=zbK a1 ah.length c1 ah rfl (by omega) X w t1;have S2:Hid _:=zbK a2 he.length c2 he rfl (by omega) X w t2;have k2:=h.out.bk.c 2 _ rfl;have k3:=h.out.bk.c 3 _ rfl;clear t1 t2 h;by_cases m1:X.data.toList∈ah
 ·have e0:decide (X.data.toList∈ah++he)=true:=decide_eq_true (List.mem_append_left _ m1)
  rw[decide_eq_true m1] at S1;rw[e0];clear e0 m1;go_enter Tryz.func224, Tryz.ntmps224;go_wp2_with fail;refine cM S1.out ?_;rintro e w1 ⟨rfl,rfl⟩;go_wp2;go_ret;exact⟨rfl,rfl⟩
 ·have e0:decide (X.data.toList∈ah++he)=decide (X.data.toList∈he):=by
   by_cases m2:X.data.toList∈he
   ·rw[decide_eq_true m2,decide_eq_true (List.mem_append_right _ m2)]
   ·rw[decide_eq_false m2,decide_eq_false (fun c=>by rcases List.mem_append.1 c with c|c;exact m1 c;exact m2 c)]
  rw[decide_eq_false m1] at S1;rw[e0];obtain⟨z,hz⟩:∃z,decide (X.data.toList∈he)=z:=⟨_,rfl⟩;rw[hz] at S2 ⊢;clear e0 m1 hz;go_enter Tryz.func224, Tryz.ntmps224;go_wp2_with fail;refine cM S1.out ?_;rintro e w1 ⟨rfl,rfl⟩;go_wp2_with fail;refine cM S2.out ?_;rintro e w1 ⟨rfl,rfl⟩;go_wp2;go_ret;exact⟨rfl,rfl⟩
theorem zlk (b q ep most:Nat) (va vh:Value) (ah he:List Bs) (h1:ah.length<=100000) (h2:he.length<=100000) (X:Ba) (w:Wo) (h:Hid (Es w b q ep most va vh ah he)) :
  Cl 166 #[.pointer (some ⟨b,0,none⟩),.string X] w fun e w'=>e = .returned (.bool (decide (X.data.toList∈ah++he)))/\w'=w:=by
 have S1:Hid _:=zdI b q ep most va vh ah he h1 h2 X w h;have k0:=h.out.bk.c 0 _ rfl;obtain⟨z,hz⟩:∃z,decide (X.data.toList∈ah++he)=z:=⟨_,rfl⟩;rw[hz] at S1 ⊢;clear hz h h1 h2;go_enter Tryz.func166, Tryz.ntmps166;go_wp2_with fail;refine cM S1.out ?_;rintro e w1 ⟨rfl,rfl⟩;go_wp2;go_ret;exact⟨rfl,rfl⟩
theorem ziZ (b q ep most:Nat) (va vh:Value) (ah he:List Bs) (h1:ah.length<=100000) (h2:he.length<=100000) (w:Wo) (h:Hid (Es w b q ep most va vh ah he)) :
  Cl 167 #[.pointer (some ⟨b,1,none⟩)] w fun e w'=>e = .returned (.int .i64 ((ah.length+he.length:Nat):Int))/\Bw w w':=by
 obtain⟨a1,c1,rfl,-,-⟩:=zaU rfl h.out.ra;obtain⟨a2,c2,rfl,-,-⟩:=zaU rfl h.out.rh;have k2:=h.out.bk.c 2 _ rfl;have k3:=h.out.bk.c 3 _ rfl;obtain⟨n,hn⟩:∃n,ah.length=n:=⟨_,rfl⟩;obtain⟨m,hm⟩:∃m,he.length=m:=⟨_,rfl⟩;rw[hn] at k2 h1 ⊢;rw[hm] at k3 h2 ⊢;have e1:IntKind.i64.wrap ((n:Int)+(m:Int))=((n+m:Nat):Int):=by rw[IntKind.wrap_i64];omega
 clear hn hm h;go_enter Tryz.func167, Tryz.ntmps167;go_wp2_with fail;go_region_with fail
 all_goals
  go_wp2;go_ret;exact⟨by first|rfl|go_num,by first|exact (bQ _ _).drew|exact bQ _ _⟩
theorem zfq (d c:UInt8) (t:Bs) (ht:t.length<=100000) (w:Wo) :
  Cl 293 #[.string (st (d::t)),.string ⟨#[c]⟩] w fun e w'=>e = .returned (.bool (decide (d=c)))/\w'=w:=by
 have hs:(st (d::t)).size=t.length+1:=by rw[zaf];rfl
 have hx:(st (d::t)).extract 0 1=⟨#[d]⟩:=by rw[zco];rfl
 have hc:(⟨#[c]⟩:Ba).size=1:=rfl;obtain⟨S,hS⟩:∃S,st (d::t)=S:=⟨_,rfl⟩;rw[hS] at hs hx ⊢;have l1:(1:Int)<=(S.size:Int):=by omega
 have l2:1<=S.size:=by omega
 clear hS hs ht;by_cases e:d=c
 ·subst e
  rw[decide_eq_true rfl];obtain⟨C,hC⟩:∃C:Ba,⟨#[d]⟩=C:=⟨_,rfl⟩;rw[hC] at hx hc ⊢;clear hC;go_enter Tryz.func293, Tryz.ntmps293;go_wp2;go_ret;exact⟨rfl,rfl⟩
 ·rw[decide_eq_false e]
  have hne:((⟨#[d]⟩:Ba).toList == (⟨#[c]⟩:Ba).toList)=false:=by
   rw[ByteArray.toList_eq,ByteArray.toList_eq];exact beq_eq_false_iff_ne.2 fun h=>e (by injection h)
  obtain⟨C,hC⟩:∃C:Ba,⟨#[c]⟩=C:=⟨_,rfl⟩;obtain⟨D,hD⟩:∃D:Ba,⟨#[d]⟩=D:=⟨_,rfl⟩;rw[hC] at hc hne ⊢;rw[hD] at hx hne;clear hC hD e;go_enter Tryz.func293, Tryz.ntmps293;go_wp2;go_ret;exact⟨rfl,rfl⟩
theorem zbo (d c:UInt8) (t:Bs) (ht:t.length<=100000) (w:Wo) :
  Cl 142 #[.string (st (d::t)),.string ⟨#[c]⟩] w fun e w'=>e = .returned (.tuple #[.string (if d=c then st t else st (d::t)),.bool (decide (d=c))])/\w'=w:=by
 have CP:Hid (∀w,Cl 223 #[.string (st (d::t)),.string ⟨#[c]⟩] w fun e w'=>e = .returned (.tuple #[.string (if d=c then st t else st (d::t)),.bool (decide (d=c))])/\w'=w):=fun w=>by
  have HP:Hid _:=zfq d c t ht w;have hs:(st (d::t)).size=t.length+1:=by rw[zaf];rfl
  have hx:(st (d::t)).extract 1 (st (d::t)).size=st t:=by
   rw[zco,hs,List.take_of_length_le (by rw[List.length_cons];exact nL _)];rfl
  have hc:(⟨#[c]⟩:Ba).size=1:=rfl;by_cases e:d=c
  ·rw[if_pos e]
   rw[decide_eq_true e] at HP ⊢;clear e;obtain⟨S,hS⟩:∃S,st (d::t)=S:=⟨_,rfl⟩;obtain⟨T,hT⟩:∃T,st t=T:=⟨_,rfl⟩;obtain⟨C,hC⟩:∃C:Ba,⟨#[c]⟩=C:=⟨_,rfl⟩;rw[hS] at hs hx HP ⊢;rw[hC] at hc HP ⊢;rw[hT] at hx ⊢;have l1:(1:Int)<=(S.size:Int):=by omega
   have l2:1<=S.size:=by omega
   clear hS hT hC hs ht;go_enter Tryz.func223, Tryz.ntmps223;go_wp2_with fail;refine cM HP.out ?_;rintro e w1 ⟨rfl,rfl⟩;go_wp2;go_ret2;exact⟨rfl,rfl⟩
  ·rw[if_neg e]
   rw[decide_eq_false e] at HP ⊢;clear e hx;obtain⟨S,hS⟩:∃S,st (d::t)=S:=⟨_,rfl⟩;obtain⟨C,hC⟩:∃C:Ba,⟨#[c]⟩=C:=⟨_,rfl⟩;rw[hS] at hs HP ⊢;rw[hC] at hc HP ⊢;clear hS hC hs ht;go_enter Tryz.func223, Tryz.ntmps223;go_wp2_with fail;refine cM HP.out ?_;rintro e w1 ⟨rfl,rfl⟩;go_wp2;go_ret2;exact⟨rfl,rfl⟩
 obtain⟨S,hS⟩:∃S,st (d::t)=S:=⟨_,rfl⟩;obtain⟨C,hC⟩:∃C:Ba,⟨#[c]⟩=C:=⟨_,rfl⟩;obtain⟨z,hz⟩:∃z,decide (d=c)=z:=⟨_,rfl⟩;obtain⟨R,hR⟩:∃R,(if d=c then st t else st (d::t))=R:=⟨_,rfl⟩;rw[hR,hz] at CP ⊢;rw[hS,hC] at CP ⊢;clear hS hC hz hR ht;go_enter Tryz.func142, Tryz.ntmps142;go_wp2_with fail;refine cM (CP.out _) ?_;rintro e w1 ⟨rfl,rfl⟩;go_wp2;go_ret2;exact⟨rfl,rfl⟩
theorem zfr (b:Bs) (h1:b.length=4) (w:Wo):Cl 145 #[sv b] w fun e w'=>e = .returned (.int .i64 (nm b:Int))/\w'=w:=by
 have hs:(st b).size=b.length:=zaf b;obtain⟨X,hX⟩:∃X,st b=X:=⟨_,rfl⟩;unfold sv;rw[hX,h1] at hs;rw[hX];have HX:Hid (st b=X):=hX;clear hX;go_enter Tryz.func145, Tryz.ntmps145;go_wp2;go_loopw [3,7] (fun x i wr=>∃k:Nat,k<=4/\i = .int .i64 (k:Int)/\x = .int .i64 (nm (b.take k):Int)/\wr=w) (fun _ i _=>4 - (intOf i).toNat)
 case atStart=>exact⟨0,Nat.zero_le _,rfl,rfl,rfl⟩
 case round =>
  obtain⟨k,hk4,rfl,rfl,rfl⟩:=hrel;by_cases hk5:k < 4
  ·have g1:(k:Int) < 4:=by omega
   have l0:k < X.size:=by omega
   have l1:(k:Int) < (X.size:Int):=by omega
   have hlt:=zpw (b.take k);have hpw:256 ^ (b.take k).length<=16777216:=by
    have:(b.take k).length<=3:=by rw[List.length_take];omega
    exact Nat.le_trans (Nat.pow_le_pow_right (by decide) this) (by decide)
   obtain⟨c,hc⟩:∃c,X[k]=c:=⟨_,rfl⟩;have hc2:b[k]'(by omega)=c:=by
    have:=HX.out;subst this;rw[<-hc];rfl
   have hst:nm (b.take (k+1))=nm (b.take k)*256+c.toNat:=by
    rw[List.take_succ_eq_append_getElem (by omega),zl1,hc2]
   obtain⟨n,hn⟩:∃n,nm (b.take k)=n:=⟨_,rfl⟩;rw[hn] at hst hlt ⊢;have hcl:=c.toNat_lt;have t1:IntKind.i64.wrap (c.toNat:Int)=(c.toNat:Int):=by rw[IntKind.wrap_i64];omega
   have t2:IntKind.i64.wrap ((n:Int)*256)=(n:Int)*256:=by rw[IntKind.wrap_i64];omega
   have OW:=zgd n c (by omega);have HST:Hid (nm (b.take (k+1))=n*256+c.toNat):=hst;clear hst hn hc2 hlt hpw hcl;go_wp2;go_roundw
   case rel=>exact⟨k+1,by omega,rfl,by rw[HST.out];simp,by first|rfl|trivial⟩
   case measure=>simp[intOf];omega
  ·obtain rfl:k=4:=by omega
   have e4:b.take 4=b:=List.take_of_length_le (by omega);rw[e4];obtain⟨n,hn⟩:∃n,nm b=n:=⟨_,rfl⟩;rw[hn];have HN:Hid (nm b=n):=hn;clear hn;go_wp2;go_ret;exact⟨by rw[HN.out];rfl,by first|rfl|trivial⟩
theorem zeD (t:Bs) (ht:t.length<=100000) (w:Wo):Cl 168 #[.string (st t)] w fun e w'=>e = .returned (.string (st (84::t)))/\w'=w:=by
 have HP:Hid ((⟨#[84]⟩:Ba)++st t=st (84::t)):=zcn [84] t;have hy:(st t).size<=100000:=by rw[zaf];exact ht
 obtain⟨T,hT⟩:∃T,st t=T:=⟨_,rfl⟩;rw[hT] at HP hy ⊢;rw[<-HP.out];clear hT HP ht;have h63:¬9223372036854775807 < 1+T.size:=by omega
 go_enter Tryz.func168, Tryz.ntmps168;go_wp2;go_ret;exact⟨rfl,rfl⟩
theorem ben4 (n:Nat):ben n 4=[UInt8.ofNat (n / 16777216),UInt8.ofNat (n / 65536),UInt8.ofNat (n / 256),UInt8.ofNat n]:=by
 show [UInt8.ofNat (n / 2 ^ 24),UInt8.ofNat (n / 2 ^ 16),UInt8.ofNat (n / 2 ^ 8),UInt8.ofNat (n / 2 ^ 0)]=_;rw[show n / 2 ^ 0=n by simp]
theorem zll (n:Nat) (w:Wo):Cl 72 #[.int .i64 (n:Int)] w fun e w'=>e = .returned (.string (st (69::ben n 4)))/\Bw w w':=by
 have HP:Hid ((⟨#[69]⟩:Ba)++st (ben n 4)=st (69::ben n 4)):=zcn [69] (ben n 4);have hy:(st (ben n 4)).size=4:=by rw[zaf,zav]
 have b0:(n:Int) / 16777216 % 256=((UInt8.ofNat (n / 16777216)).toNat:Int):=by rw[UInt8.toNat_ofNat'];simp
 have b1:(n:Int) / 65536 % 256=((UInt8.ofNat (n / 65536)).toNat:Int):=by rw[UInt8.toNat_ofNat'];simp
 have b2:(n:Int) / 256 % 256=((UInt8.ofNat (n / 256)).toNat:Int):=by rw[UInt8.toNat_ofNat'];simp
 have b3:(n:Int) % 256=((UInt8.ofNat n).toNat:Int):=by rw[UInt8.toNat_ofNat'];simp
 have BA:BytesAt (w.alloc (.cells #[.int .u8 ((UInt8.ofNat (n / 16777216)).toNat:Int),.int .u8 ((UInt8.ofNat (n / 65536)).toNat:Int),.int .u8 ((UInt8.ofNat (n / 256)).toNat:Int),.int .u8 ((UInt8.ofNat n).toNat:Int)] 5)) w.heap.size (ben n 4):=by
  rw[ben4];intro j hj;refine⟨?_,by simp[go_sem]⟩;rw[World.cell?_alloc_new]
  match j,hj with
  | 0,_=>rfl
  | 1,_=>rfl
  | 2,_=>rfl
  | 3,_=>rfl
 have CV:=BA.string (cap:=4) (zav n 4);have NB:Hid (Bw w (w.alloc (.cells #[.int .u8 ((UInt8.ofNat (n / 16777216)).toNat:Int),.int .u8 ((UInt8.ofNat (n / 65536)).toNat:Int),.int .u8 ((UInt8.ofNat (n / 256)).toNat:Int),.int .u8 ((UInt8.ofNat n).toNat:Int)] 5))):=(bQ _ _).alloc (nL _) _;clear BA;obtain⟨c0,h0⟩:∃c,(UInt8.ofNat (n / 16777216)).toNat=c:=⟨_,rfl⟩;obtain⟨c1,h1⟩:∃c,(UInt8.ofNat (n / 65536)).toNat=c:=⟨_,rfl⟩;obtain⟨c2,h2⟩:∃c,(UInt8.ofNat (n / 256)).toNat=c:=⟨_,rfl⟩;obtain⟨c3,h3⟩:∃c,(UInt8.ofNat n).toNat=c:=⟨_,rfl⟩;rw[h0] at b0;rw[h1] at b1;rw[h2] at b2;rw[h3] at b3;rw[h0,h1,h2,h3] at CV NB;clear h0 h1 h2 h3;go_enter Tryz.func72, Tryz.ntmps72;go_wp2;go_ret;exact⟨by rw[<-HP.out];rfl,NB.out⟩
theorem EFt.here {w w':Wo} {b:Nat} {va vh v':Value} (hv:v'.ownBlock=vh.ownBlock\/v'.ownBlock=some w'.heap.size) (hs:w.heap.size<=w'.heap.size):Nx w (EFt b va vh) (EFt b va v'):=fun x hx=>by
 rcases hx with e|e|e
 ·exact .inl (.inl e)
 ·exact .inl (.inr (.inl e))
 ·rcases hv with h|h
  ·exact .inl (.inr (.inr (h.symm.trans e)))
  ·rw[h] at e
   injection e with e
   exact .inr (by omega)
theorem zlm (b q ep most:Nat) (va vh:Value) (ah he:List Bs) (h1:ah.length<=100000) (h2:he.length<=100000) (t:Bs) (hm:t ∉ ah++he) (w:Wo) (h:Hid (Es w b q ep most va vh ah he)) :
  Cl 143 #[.pointer (some ⟨b,1,none⟩),.string (st t)] w fun e w'=>e = .returned (.tuple #[])/\∃v',Es w' b q ep most va v' ah (he++[t])/\Bf (EFt b va vh) w w'/\Nx w (EFt b va vh) (EFt b va v'):=by
 have HS:Hid _:=zdI b q ep most va vh ah he h1 h2 (st t) w h;rw[zdp,decide_eq_false hm] at HS;have hn:he.length<=1000000:=by omega
 have H1:Hid (Es (w.alloc (.cells #[.string (st t)] 9)) b q ep most va vh ah he):=h.out.later (nb _ _);obtain⟨v',w',r1,r2,r3,r4⟩:=app_str (w.alloc (.cells #[.string (st t)] 9)) 25 vh he H1.out.rh hn t w.heap.size (by rw[World.cell?_alloc_new];rfl);obtain⟨a3,n3,c3,rfl⟩:=owns_sliceS r2;have E2:Hid (Es (w'.setCell ⟨b,3,none⟩ (.slice a3 n3 c3)) b q ep most va (.slice a3 n3 c3) ah (he++[t])/\Bf (EFt b va vh) w (w'.setCell ⟨b,3,none⟩ (.slice a3 n3 c3))/\Nx w (EFt b va vh) (EFt b va (.slice a3 n3 c3))):=by
  refine⟨H1.out.setHere r3 r2 r4,?_,EFt.here r4 (by simp)⟩;exact bf_set ((Bf.of (nb w (.cells #[.string (st t)] 9))).trans (Nx.refl _ _) (Bf.grown r3 fun g e => .inl (.inr (.inr e)))) (.inl rfl)
 have k3:=h.out.bk.c 3 _ rfl;have hq:w'.heap[b]?=(w.alloc (.cells #[.string (st t)] 9)).heap[b]?:=r3.block b H1.out.bk.lt (fun e=>h.out.hv e.symm);have B2:=H1.out.bk.same hq;have k4:=B2.c 3 _ rfl;have kf:=B2.f;obtain⟨a2,n2,c2,rfl⟩:=owns_sliceS h.out.rh;obtain⟨T,hT⟩:∃T,st t=T:=⟨_,rfl⟩;rw[hT] at HS r1 ⊢;clear r2 r3 r4 H1 h hT B2 hq;go_enter Tryz.func143, Tryz.ntmps143;go_wp2_with fail;refine cM HS.out ?_;rintro e w1 ⟨rfl,rfl⟩;clear HS;go_wp2_with (first|(at_builtin;refine Go.Lib.wpList_append_run _ rfl _ _ _ _ rfl _ _ rfl rfl _ _ r1 ?_));go_end0;exact⟨rfl,_,E2.out⟩
theorem Es.turn {w:Wo} {b q ep most:Nat} {va vh:Value} {ah he:List Bs} (h:Es w b q ep most va vh ah he) (k:Nat) :
  Es (((w.setCell ⟨b,2,none⟩ vh).setCell ⟨b,3,none⟩ (.slice none 0 0)).setCell ⟨b,1,none⟩ (.int .i64 (k:Int))) b q k most vh (.slice none 0 0) he []:=by
 have B1:=((h.bk.set 2 (show 2 < 5 by decide) vh).set 3 (show 3 < 5 by decide) (.slice none 0 0)).set 1 (show 1 < 5 by decide) (.int .i64 (k:Int));refine⟨B1,ownsRow_same h.rh (fun x e => ?_),zan _,h.hv,(fun c=>by cases c),fun g _ c=>by cases c⟩;have nx:∀o,x≠(⟨b,o,none⟩:Addr).block:=fun o c=>h.hv (by rw[e,c])
 rw[Below.heap_setCell _ ⟨b,1,none⟩ _ x (nx 1),Below.heap_setCell _ ⟨b,3,none⟩ _ x (nx 3),Below.heap_setCell _ ⟨b,2,none⟩ _ x (nx 2)]
theorem zi0 (b q ep most:Nat) (va vh:Value) (ah he:List Bs) (hep:ep+1<=2147483647) (w:Wo) (h:Hid (Es w b q ep most va vh ah he)) :
  Cl 144 #[.pointer (some ⟨b,1,none⟩),.int .i64 ((ep+1:Nat):Int)] w fun e w'=>e = .returned (.bool true)/\Es w' b q (ep+1) most vh (.slice none 0 0) he []/\Bf (EFt b va vh) w w'/\Nx w (EFt b va vh) (EFt b vh (.slice none 0 0)):=by
 have k1:=h.out.bk.c 1 _ rfl;have k2:=h.out.bk.c 2 _ rfl;have k3:=h.out.bk.c 3 _ rfl;have kf:=h.out.bk.f;have E2:Hid (Es (((w.setCell ⟨b,2,none⟩ vh).setCell ⟨b,3,none⟩ (.slice none 0 0)).setCell ⟨b,1,none⟩ (.int .i64 ((ep+1:Nat):Int))) b q (ep+1) most vh (.slice none 0 0) he []/\Bf (EFt b va vh) w (((w.setCell ⟨b,2,none⟩ vh).setCell ⟨b,3,none⟩ (.slice none 0 0)).setCell ⟨b,1,none⟩ (.int .i64 ((ep+1:Nat):Int)))/\Nx w (EFt b va vh) (EFt b vh (.slice none 0 0))) :=
  ⟨h.out.turn (ep+1),bf_set (bf_set (bf_set (Bf.refl _ _) (.inl rfl)) (.inl rfl)) (.inl rfl),fun x hx=>by
   rcases hx with e|e|e
   ·exact .inl (.inl e)
   ·exact .inl (.inr (.inr e))
   ·cases e⟩
 obtain⟨a1,n1,c1,rfl⟩:=owns_sliceS h.out.ra;obtain⟨a2,n2,c2,rfl⟩:=owns_sliceS h.out.rh;have g1:¬((ep+1:Nat):Int) < (ep:Int):=by omega
 have g2:((ep+1:Nat):Int) - (ep:Int)=1:=by have:=hep;omega
 have g3:¬(2147483647:Int) < ((ep+1:Nat):Int):=by have:=hep;omega
 obtain⟨z,hz⟩:∃z:Int,((ep+1:Nat):Int)=z:=⟨_,rfl⟩;rw[hz] at g1 g2 g3 E2 ⊢;clear h hz;go_enter Tryz.func144, Tryz.ntmps144;go_wp2;go_ret;exact⟨rfl,E2.out⟩
theorem zg6 (b q ep most:Nat) (va vh:Value) (ah he:List Bs) (h1:ah.length<=100000) (h2:he.length<=100000) (t:Bs) (ht:t.length=16) (hm:t ∉ ah++he) (w:Wo) (h:Hid (Es w b q ep most va vh ah he)) :
  Cl 78 #[.pointer (some ⟨b,1,none⟩),.string (st (84::t))] w fun e w'=>e = .returned (.bool true)/\∃v',Es w' b q ep most va v' ah (he++[t])/\Bf (EFt b va vh) w w'/\Nx w (EFt b va vh) (EFt b va v'):=by
 have C1:Hid _:=zbo 84 84 t (by omega) w;rw[if_pos rfl,decide_eq_true rfl] at C1;have A1:Hid _:=zlm b q ep most va vh ah he h1 h2 t hm w h;have hs:(st t).size=16:=by rw[zaf,ht]
 obtain⟨T,hT⟩:∃T,st t=T:=⟨_,rfl⟩;obtain⟨S,hS⟩:∃S,st (84::t)=S:=⟨_,rfl⟩;rw[hT] at C1 A1 hs;rw[hS] at C1 ⊢;clear hT hS h hm;go_enter Tryz.func78, Tryz.ntmps78;go_wp2_with fail;refine cM C1.out ?_;rintro e w1 ⟨rfl,rfl⟩;clear C1;go_wp2_with fail;refine cM A1.out ?_;rintro e w2 ⟨rfl,E2⟩;have FF:Hid _:=E2;clear A1 E2;go_wp2;go_ret;exact⟨rfl,FF.out⟩
def tun (ep:Nat) (ah he:List Bs) (n:Nat):List Bs×List Bs:=if n=ep then (ah,he) else if n=ep+1 then (he,[]) else ([],[])
def sht (ep:Nat) (ah he:List Bs):List Bs:=(if ah=[] then [] else (69::ben (ep - 1) 4)::ah.map (84::·))++(69::ben ep 4)::he.map (84::·)
theorem zgk {w:Wo} {base:Nat} {v:Value} {l:List Bs} {n:Nat} (hn:l.length=n) (h:w.ownsRow base 9 1 v n (scs l)):∃a cap,v = .slice a n cap/\zbq w a l/\∀x,a=some x->base<=x.block:=by
 obtain⟨a,c,rfl,tx,-⟩:=zaU hn (zcy h (Nat.zero_le _));refine⟨a,c,rfl,tx,fun x e => ?_⟩;subst e;rcases h.2 with ⟨c,-⟩|⟨g,cap,cur,e1,e2,-⟩
 ·injection c with c1;cases c1
 ·injection e1 with e1
  injection e1 with e1
  rw[e1];exact e2
def Ow (w W:Wo) (v:Value) (xs:List Bs):Prop:=W.ownsRow w.heap.size 9 1 v xs.length (scs xs)/\Bw w W
theorem Ow.later {w W W':Wo} {v:Value} {xs:List Bs} (h:Ow w W v xs) (hb:Bw W W'):Ow w W' v xs:=⟨zcx h.1 hb,chain h.2 hb⟩
theorem Ow.one {w W:Wo} {v:Value} {xs:List Bs} (h:Ow w W v xs) (hx:xs.length<=1000000) (t:Bs) :
  ∃a n c w',(Builtin.append_ #[25, 25] 25 #[v,.slice (some ⟨W.heap.size,0,none⟩) 1 1]).run Tryz.prog (W.alloc (.cells #[.string (st t)] 9)) = .ok (.slice a n c) w'/\Hid (Ow w w' (.slice a n c) (xs++[t])):=by
 obtain⟨v',w',r1,r2,r3⟩:=znS w.heap.size W v xs h.1 h.2.size hx t;have B1:Bw w (W.alloc (.cells #[.string (st t)] 9)):=h.2.alloc h.2.size _;have K:Ow w w' v' (xs++[t]):=⟨r2,B1.grown r3 B1.size (fun q hq=>(h.1.lt q hq).1)⟩;obtain⟨a,c,rfl,-,-⟩:=zaU rfl (zcy r2 (Nat.zero_le _));exact⟨a,_,c,w',r1,K⟩
def tkp (ep:Nat) (ah he:List Bs) (r:Bs):Option (Nat×List Bs×List Bs) :=
 if r.length=17/\r.head?=some 84 then some (ep,ah,if r.tail∈ah++he then he else he++[r.tail])
 else if r.length=5/\r.head?=some 69 then (if nm r.tail < ep\/2147483647 < nm r.tail then none else some (nm r.tail,tun ep ah he (nm r.tail)))
 else none
def wrA (s:St) (x:Lo) (sh:List Bs) (r:Bs):(Int×St)×Lo :=
 if (app s x r).1.1=151 then (if (cmp s x sh).1.1=0 then app (cmp s x sh).1.2 (cmp s x sh).2 r else cmp s x sh) else app s x r
def wrp (s:St) (x:Lo) (sh:List Bs) (r:Bs):(Int×St)×Lo:=if (wrA s x sh r).1.1≠0 then wrA s x sh r else ((syE (wrA s x sh r).1.2,syS (wrA s x sh r).1.2),(wrA s x sh r).2)
def FZ (G:Nat->Prop) (q:Nat) (v:Value) (b:Nat) (u:Value) (y:Nat):Prop:=FQ G q v y\/HFt b u y
section
variable {w:Wo} {F:Nat->Prop} {d q b most:Nat} {s:St} {x:Lo} {ep:Nat} {ah he:List Bs} {w1:Wo}
end
abbrev Ey:=Nat×List Bs×List Bs
structure Gd (y:Ey):Prop where
 e:y.1<=2147483647
 z:y.1=0->y.2.1=[]
 t:∀t∈y.2.1++y.2.2,t.length=16
 n:y.2.1.length+y.2.2.length<=10000
def adp (most:Nat) (s:St) (x:Lo) (y:Ey) (t:Bs):((Int×St)×Lo)×Ey :=
 if t.length≠16 then (((3,s),x),y)
 else if t∈y.2.1++y.2.2 then (((170,s),x),y)
 else if most<=y.2.1.length+y.2.2.length then (((180,s),x),y)
 else (wrp s x (sht y.1 y.2.1 y.2.2) (84::t),if (wrp s x (sht y.1 y.2.1 y.2.2) (84::t)).1.1=0 then (y.1,y.2.1,y.2.2++[t]) else y)
def tkE (y:Ey) (r:Bs):Option Ey:=tkp y.1 y.2.1 y.2.2 r
def tks:Ey->List Bs->Option Ey
 | y,[]=>some y
 | y,r::l=>(tkE y r).bind fun z=>tks z l
theorem zfs:∀(l:List Bs) (y:Ey) (r:Bs),tks y (l++[r])=(tks y l).bind fun z=>tkE z r
 | [],y,r=>by
  show (tkE y r).bind (fun z=>some z)=tkE y r;cases tkE y r <;> rfl
 | a::l,y,r=>by
  show (tkE y a).bind (fun z=>tks z (l++[r]))=((tkE y a).bind fun z=>tks z l).bind fun z=>tkE z r
  cases tkE y a with
  | none=>rfl
  | some z=>exact zfs l z r
theorem zpN {y:Ey} {l m:List Bs} (h:tks y l=none):tks y (l++m)=none:=by
 induction l generalizing y with
 | nil=>cases h
 | cons a l ih =>
  have h':(tkE y a).bind (fun z=>tks z l)=none:=h;show (tkE y a).bind (fun z=>tks z (l++m))=none
  cases e:tkE y a with
  | none=>rfl
  | some z =>
   rw[e] at h';exact ih h'
structure Gn (n:Nat) (y:Ey):Prop where
 e:y.1<=2147483647
 z:y.1=0->y.2.1=[]
 t:∀t∈y.2.1++y.2.2,t.length=16
 n:y.2.1.length+y.2.2.length<=n
theorem zpO {n:Nat} {y z:Ey} {r:Bs} (g:Gn n y) (h:tkE y r=some z):Gn (n+1) z:=by
 unfold tkE tkp at h;by_cases h1:r.length=17/\r.head?=some 84
 ·rw[if_pos h1] at h
  injection h with h
  subst h;have gn:=g.n;by_cases hm:r.tail∈y.2.1++y.2.2
  ·refine⟨g.e,g.z,?_,?_⟩
   ·show ∀t∈y.2.1++(if r.tail∈y.2.1++y.2.2 then _ else _),_
    rw[if_pos hm];exact g.t
   ·show y.2.1.length+(if r.tail∈y.2.1++y.2.2 then _ else _:List Bs).length<=_
    rw[if_pos hm];omega
  ·refine⟨g.e,g.z,?_,?_⟩
   ·show ∀t∈y.2.1++(if r.tail∈y.2.1++y.2.2 then _ else _),_
    rw[if_neg hm,<-List.append_assoc];intro t ht;rcases List.mem_append.1 ht with ht|ht
    ·exact g.t t ht
    ·rw[List.mem_singleton] at ht
     subst ht;rw[List.length_tail,h1.1]
   ·show y.2.1.length+(if r.tail∈y.2.1++y.2.2 then _ else _:List Bs).length<=_
    rw[if_neg hm,List.length_append,List.length_singleton];omega
 ·rw[if_neg h1] at h
  by_cases h2:r.length=5/\r.head?=some 69
  ·rw[if_pos h2] at h
   by_cases h3:nm r.tail < y.1\/2147483647 < nm r.tail
   ·rw[if_pos h3] at h;cases h
   ·rw[if_neg h3] at h
    injection h with h
    subst h;have gn:=g.n;unfold tun;by_cases e1:nm r.tail=y.1
    ·rw[if_pos e1]
     exact⟨by show nm r.tail<=_;omega,fun e=>g.z (e1.symm.trans e),g.t,by show y.2.1.length+y.2.2.length<=_;omega⟩
    ·rw[if_neg e1]
     by_cases e2:nm r.tail=y.1+1
     ·rw[if_pos e2]
      exact⟨by show nm r.tail<=_;omega,fun e=>absurd (show nm r.tail=0 from e) (by omega),fun t ht=>g.t t (List.mem_append_right _ (by simpa using ht)),by show y.2.2.length+0<=_;omega⟩
     ·rw[if_neg e2]
      exact⟨by show nm r.tail<=_;omega,fun _=>rfl,(fun t ht=>absurd ht List.not_mem_nil),by show 0+0<=_;omega⟩
  ·rw[if_neg h2] at h;cases h
theorem Gn.start:Gn 0 (0,[],[]):=⟨by decide,fun _=>rfl,(fun t ht=>absurd ht List.not_mem_nil),nL _⟩
theorem Gn.gd {n:Nat} {y:Ey} (g:Gn n y) (h:n<=10000):Gd y:=⟨g.e,g.z,g.t,Nat.le_trans g.n h⟩
def opz (most:Int) (s:St) (o:(Int×St)×Lo):(Int×St)×Option (Lo×Ey) :=
 if most < 1\/4096 < most then ((1,s),none)
 else if o.1.1≠0 then (o.1,none)
 else match tks (0,[],[]) o.2.ts with
  | none=>((160,o.1.2),none)
  | some y=>((0,o.1.2),some (o.2,y))
end Go.Proofs.YtjcppbhgjchjaaaGreatDoor.Sto
namespace Go.Proofs.YtjcppbhgjchjaaaGreatDoor
open Go.RowKit Go.Proofs.Fd
structure Ct where
 on:Nat
 home:Nat
 loop:Nat
 drop:Nat
 twice:Nat
 bad:Nat
structure Nd where
 pool:Nat
 s:Go.Proofs.Dk.St
 x:Go.Proofs.Lg.Lo
 y:Sto.Ey
 t:Go.Proofs.Wh.St
 w:List (Nat×(Int×Ba))
 l:List Ba
 c:Ct
def Nd.rf (m:Nd) (h:Go.Proofs.Rt.Hp):Int :=
 if h.k=2 then 70 else if h.k≠1 then 0 else if m.pool<=m.w.length then 190 else if (1099511627776:Int) < (m.t.now:Int)+1+h.d then 1 else 0
def Nd.did (m:Nd) (h:Go.Proofs.Rt.Hp) (n:Ba):Nd :=
 if h.k=1 then { m with t:=Go.Proofs.Wh.putS m.t ((m.t.now:Int)+1+h.d) ((m.c.on+1:Nat):Int),w:=m.w++[(m.c.on+1,(h.n,n))],c:={ m.c with on:=m.c.on+1 } }
 else if h.k=3 then { m with l:=m.l++[h.id],c:={ m.c with loop:=m.c.loop+1 } }
 else if h.k=4 then { m with c:={ m.c with drop:=m.c.drop+1 } }
 else m
def Nd.tk0 (m:Nd) (h:Go.Proofs.Rt.Hp) (n t:Ba):Int×Nd :=
 if m.rf h≠0 then (m.rf h,m)
 else
  let r:=Sto.adp 4096 m.s m.x m.y t.data.toList
  if r.1.1.1≠0 then (r.1.1.1,{ m with s:=r.1.1.2,x:=r.1.2,y:=r.2 })
  else (0,Nd.did { m with s:=r.1.1.2,x:=r.1.2,y:=r.2 } h n)
def Nd.cnt (e:Int) (m:Nd):Nd :=
 if e=0 then m else if e=170 then { m with c:={ m.c with twice:=m.c.twice+1 } } else { m with c:={ m.c with bad:=m.c.bad+1 } }
def Nd.take (m:Nd) (e:Int) (h:Go.Proofs.Rt.Hp) (n t:Ba):Int×Nd :=
 if e≠0 then (e,Nd.cnt e m) else ((m.tk0 h n t).1,Nd.cnt (m.tk0 h n t).1 (m.tk0 h n t).2)
def Nd.tickE (m:Nd) (tt:Int):Int:=Go.Proofs.Wh.advE m.t tt
def Nd.tickV (m:Nd) (tt:Int):List (Int×Ba):=(Go.Proofs.Wh.advV m.t tt).map fun i=>((m.w.find? fun p=>decide ((p.1:Int)=i)).map fun p=>p.2).getD (0,⟨#[]⟩)
def Nd.tickS (m:Nd) (tt:Int):Nd:={ m with t:=Go.Proofs.Wh.advS m.t tt,w:=m.w.filter fun p=>!decide ((p.1:Int)∈Go.Proofs.Wh.advV m.t tt) }
def zhf (n:Int) (s:Ba):DataW Unit := .agg [.lit (.int .i64 n),.lit (.string s.data.toList)]
def zor (n:Int) (s:Ba):Value := .agg #[.int .i64 n,.string s]
def zl7 (v:Value):Option (DataW Unit×List MemPlace) :=
 match v with
 | .agg a=>match a.toList with
  | [.int .i64 n,.string s]=>some (zhf n s,[])
  | _=>none
 | _=>none
theorem znT (n:Int) (s:Ba):zl7 (zor n s)=some (zhf n s,[]):=rfl
theorem zln {v:Value} {z:DataW Unit×List MemPlace} (h:zl7 v=some z):∃n s,v=zor n s/\z=(zhf n s,[]):=by
 unfold zl7 at h
 split at h
 ·rename_i a
  split at h
  ·rename_i n s e
   injection h with h
   refine⟨n,s,?_,h.symm⟩;unfold zor;congr 1;exact Array.toList_inj.1 e
  ·cases h
 ·cases h
theorem zlo {n m:Int} {s t:Ba} (h:zhf n s=zhf m t):n=m/\s=t:=by
 unfold zhf at h;injection h with h
 injection h with h1 h2
 injection h1 with h1
 injection h1 with _ h1
 injection h2 with h2 _
 injection h2 with h2
 injection h2 with h2
 exact⟨h1,ByteArray.ext (Array.toList_inj.1 h2)⟩
abbrev zdJ (w:Wo) (bm:Nat) (D:DataW Unit):Prop:=w.ownsMap Tryz.prog 3 zl7 bm (Maps.size D) D
theorem znU (w:Wo) (bm:Nat) (D:DataW Unit) (h:zdJ w bm D) (hs:Maps.size D<=4096) (i n:Int) (s:Ba) (h1 : -9223372036854775808<=i) (h2:i < 9223372036854775808) :
  ∃w',(Instr.mapUpdate 108 (.map (some bm)) (.int .i64 i) (zor n s)).run Tryz.prog w = .ok () w'/\w'.ownsMap Tryz.prog 3 zl7 bm (Maps.size D+1) (D.put (.int .i64 i) (zhf n s))/\w.grownBy w' (some bm) :=
 h.update Whl.int_key Tryz.underlying108 (by unfold maxLen;omega) (Maps.keyOf_int_mk Tryz.underlying3 (Whl.wf_i64 h1 h2)) (znT n s)
theorem zlp (w:Wo) (bm:Nat) (D:DataW Unit) (h:zdJ w bm D) (i:Int) (h1 : -9223372036854775808<=i) (h2:i < 9223372036854775808) :
  ∃n s,(Instr.lookup 108 (.map (some bm)) (.int .i64 i) false).run Tryz.prog w = .ok (zor n s) w/\D.atKey (.int .i64 i) (zhf 0 ⟨#[]⟩)=zhf n s:=by
 obtain⟨es,clock,hb,F,-,rfl⟩:=h;rcases Maps.fit_look false Whl.int_key Tryz.underlying108 (z:=zor 0 ⟨#[]⟩) (by kernel_rfl) hb F (Maps.keyOf_int_mk Tryz.underlying3 (Whl.wf_i64 h1 h2)) with ⟨hrun,-,hat⟩|⟨e0,y,-,-,hrun,hRv,hat,-⟩
 ·exact⟨0,⟨#[]⟩,hrun,hat _⟩
 ·obtain⟨n,s,e1,e2⟩:=zln hRv
  refine⟨n,s,?_,?_⟩
  ·rw[<-e1];exact hrun
  ·rw[hat,e2]
theorem znV (w:Wo) (bm:Nat) (D:DataW Unit) (h:zdJ w bm D) (i:Int) (h1 : -9223372036854775808<=i) (h2:i < 9223372036854775808) (ty:TypeId) :
  ∃w',(Builtin.delete_ #[108, 3] ty #[.map (some bm),.int .i64 i]).run Tryz.prog w = .ok (.tuple #[]) w'/\w'.ownsMap Tryz.prog 3 zl7 bm (Maps.size D) (D.del (.int .i64 i))/\w.grownBy w' (some bm):=by
 obtain⟨w',r1,r2,r3⟩:=h.drop Whl.int_key Tryz.underlying108 (Maps.keyOf_int_mk Tryz.underlying3 (Whl.wf_i64 h1 h2)) ty;exact⟨w',r1,r2,r3.grown⟩
theorem znW (w:Wo) (bm:Nat) (D:DataW Unit) (h:zdJ w bm D) (ty:TypeId):(Builtin.len_ #[108] ty #[.map (some bm)]).run Tryz.prog w = .ok (.int .i64 (Maps.size D)) w:=h.len Tryz.underlying108 ty
theorem zlq (w:Wo):(w.alloc (.map #[] 0)).ownsMap Tryz.prog 3 zl7 w.heap.size 0 (.map []):=World.ownsMap_made w Tryz.prog 3 zl7
theorem zg7 (p bm:Nat) (D:DataW Unit) (w:Wo) (c4:w.cell? ⟨p,4,none⟩=some (.map (some bm))) (hm:zdJ w bm D) :
  Cl 17 #[.pointer (some ⟨p,0,none⟩)] w fun e w'=>e = .returned (.int .i64 (Maps.size D:Nat))/\w'=w:=by
 have hl:=znW w bm D hm;go_enter Tryz.func17, Tryz.ntmps17;go_wp2;go_ret;exact⟨rfl,rfl⟩
theorem zgl (m pw:Nat) (G:Nat->Prop) (t:Go.Proofs.Wh.St) (k n u dl:Int) (id:Ba) (h0:0<=dl) (h1:dl<=4096) (w:Wo) (c1:w.cell? ⟨m,1,none⟩=some (.pointer (some ⟨pw,0,none⟩))) (wt:Hid (Whl.WAt w pw G t)) :
  Cl 165 #[.pointer (some ⟨m,0,none⟩),.agg #[.int .i64 k,.int .i64 n,.int .i64 u,.int .i64 dl,.string id]] w fun e w'=>e = .returned (.int .i64 ((t.now:Int)+1+dl))/\Below w.heap.size w w':=by
 have hn:t.now<=1099511627776:=by
  obtain⟨ho,-⟩:=wt.out;exact ho.now
 have nb1:Below w.heap.size w (w.alloc (.cells #[.int .i64 k,.int .i64 n,.int .i64 u,.int .i64 dl,.string id] 82)):=(bQ _ _).alloc (nL _) _;have c1':=cell_later nb1 c1;have a3:(w.alloc (.cells #[.int .i64 k,.int .i64 n,.int .i64 u,.int .i64 dl,.string id] 82)).cell? ⟨w.heap.size,3,none⟩=some (.int .i64 dl):=by simp[go_sem]
 obtain⟨A,hA⟩:∃A,w.heap.size=A:=⟨_,rfl⟩;obtain⟨W1,hW1⟩:∃W,w.alloc (.cells #[.int .i64 k,.int .i64 n,.int .i64 u,.int .i64 dl,.string id] 82)=W:=⟨_,rfl⟩;rw[hW1] at c1' a3 nb1;rw[hA] at a3;have BW:Hid (Below w.heap.size w W1):=nb1;have BD:Hid (Below w.heap.size w W1.drew):=nb1.drew;have NW:Hid (∀W,Below w.heap.size w W->Cl 245 #[.pointer (some ⟨pw,0,none⟩)] W fun e w'=>e = .returned (.int .i64 (t.now:Int))/\w'=W):=fun W hb=>Whl.nowW_any pw G t W (by
  obtain⟨ho,sv,sl,bm,D,e,z1,z2,hr⟩:=wt.out;exact⟨ho,sv,sl,bm,D,e,z1,z2,hr.later hb⟩)
 have hw1:IntKind.i64.wrap ((t.now:Int)+1)=(t.now:Int)+1:=by rw[IntKind.wrap_i64];omega
 have hw2:IntKind.i64.wrap ((t.now:Int)+1+dl)=(t.now:Int)+1+dl:=by rw[IntKind.wrap_i64];omega
 clear nb1 wt;go_enter Tryz.func165, Tryz.ntmps165;go_wp2_with fail;have s0:W1.drew.cell? ⟨m,1,none⟩=some (.pointer (some ⟨pw,0,none⟩))/\W1.drew.cell? ⟨A,3,none⟩=some (.int .i64 dl):=⟨c1',a3⟩;clear c1 c1' a3 hA hW1;go_region_held3 (fun w'=>w'.cell? ⟨m,1,none⟩=some (.pointer (some ⟨pw,0,none⟩))/\w'.cell? ⟨A,3,none⟩=some (.int .i64 dl)) (first|exact s0|assumption) (first|(go_at_call 245;refine cM (NW.out _ BD.out) ?_;rintro e w2 ⟨rfl,rfl⟩));go_wp2;go_ret;exact⟨rfl,BD.out⟩
theorem zeE (m pw bm:Nat) (G:Nat->Prop) (nd:Nd) (D:DataW Unit) (h:Go.Proofs.Rt.Hp) (hd:h.k=1->0<=h.d/\h.d<=4096) (w:Wo) (c1:w.cell? ⟨m,1,none⟩=some (.pointer (some ⟨pw,0,none⟩))) (c3:w.cell? ⟨m,3,none⟩=some (.int .i64 (nd.pool:Int))) (c4:w.cell? ⟨m,4,none⟩=some (.map (some bm))) (wt:Hid (Whl.WAt w pw G nd.t)) (mp:Hid (zdJ w bm D/\Maps.size D=nd.w.length)) :
  Cl 87 #[.pointer (some ⟨m,0,none⟩),.agg #[.int .i64 h.k,.int .i64 h.n,.int .i64 h.u,.int .i64 h.d,.string h.id]] w fun e w'=>e = .returned (.int .i64 (nd.rf h))/\Below w.heap.size w w':=by
 obtain⟨k,n,u,dl,id⟩:=h;simp only at hd;have nb1:Below w.heap.size w (w.alloc (.cells #[.int .i64 k,.int .i64 n,.int .i64 u,.int .i64 dl,.string id] 82)):=(bQ _ _).alloc (nL _) _;have a0:(w.alloc (.cells #[.int .i64 k,.int .i64 n,.int .i64 u,.int .i64 dl,.string id] 82)).cell? ⟨w.heap.size,0,none⟩=some (.int .i64 k):=by simp[go_sem]
 have a1:(w.alloc (.cells #[.int .i64 k,.int .i64 n,.int .i64 u,.int .i64 dl,.string id] 82)).cell? ⟨w.heap.size,1,none⟩=some (.int .i64 n):=by simp[go_sem]
 have a2:(w.alloc (.cells #[.int .i64 k,.int .i64 n,.int .i64 u,.int .i64 dl,.string id] 82)).cell? ⟨w.heap.size,2,none⟩=some (.int .i64 u):=by simp[go_sem]
 have a3:(w.alloc (.cells #[.int .i64 k,.int .i64 n,.int .i64 u,.int .i64 dl,.string id] 82)).cell? ⟨w.heap.size,3,none⟩=some (.int .i64 dl):=by simp[go_sem]
 have a4:(w.alloc (.cells #[.int .i64 k,.int .i64 n,.int .i64 u,.int .i64 dl,.string id] 82)).cell? ⟨w.heap.size,4,none⟩=some (.string id):=by simp[go_sem]
 have d3:=cell_later nb1 c3;have d4:=cell_later nb1 c4;have d1:=cell_later nb1 c1;obtain⟨A,hA⟩:∃A,w.heap.size=A:=⟨_,rfl⟩;obtain⟨W1,hW1⟩:∃W,w.alloc (.cells #[.int .i64 k,.int .i64 n,.int .i64 u,.int .i64 dl,.string id] 82)=W:=⟨_,rfl⟩;rw[hW1] at a0 a1 a2 a3 a4 d1 d3 d4 nb1;rw[hA] at a0 a1 a2 a3 a4;have BW:Hid (Below w.heap.size w W1):=nb1;have WA:Hid (∀W,Below w.heap.size w W->Cl 17 #[.pointer (some ⟨m,0,none⟩)] W fun e w'=>e = .returned (.int .i64 (nd.w.length:Int))/\w'=W):=fun W hb=>by
  have:=zg7 m bm D W (cell_later hb c4) (Whl.ownsMap_same mp.out.1 (hb.block _ mp.out.1.lt));rw[mp.out.2] at this;exact this
 have DU:Hid (k=1->∀W,Below w.heap.size w W->Cl 165 #[.pointer (some ⟨m,0,none⟩),.agg #[.int .i64 k,.int .i64 n,.int .i64 u,.int .i64 dl,.string id]] W fun e w'=>e = .returned (.int .i64 ((nd.t.now:Int)+1+dl))/\Below W.heap.size W w'):=fun hk W hb=>zgl m pw G nd.t k n u dl id (hd hk).1 (hd hk).2 W (cell_later hb c1) (by
  obtain⟨ho,sv,sl,bm,D,e,z1,z2,hr⟩:=wt.out;exact⟨ho,sv,sl,bm,D,e,z1,z2,hr.later hb⟩)
 have BD:Hid (Below w.heap.size w W1.drew):=nb1.drew;have SW:Hid (w.heap.size<=W1.heap.size):=nb1.size;have BA:Hid (Below A w W1):=by rw[<-hA];exact nb1
 clear c1 c3 c4 hd nb1 wt mp;unfold Nd.rf;by_cases k2:k=2
 ·subst k2
  clear WA DU;go_enter Tryz.func87, Tryz.ntmps87;go_wp2;go_ret;exact⟨rfl,BA.out⟩
 ·by_cases k1:k=1
  ·have DU1:Hid _:=DU.out k1
   subst k1;clear DU k2;obtain⟨N,hN⟩:∃N,nd.w.length=N:=⟨_,rfl⟩;rw[hN] at WA;obtain⟨T,hT⟩:∃T:Int,(nd.t.now:Int)+1+dl=T:=⟨_,rfl⟩;rw[hT] at DU1;simp only[hN,hT];have HN:Hid (nd.w.length=N):=hN;clear hN hT HN;by_cases g1:nd.pool<=N
   ·have g2:(nd.pool:Int)<=(N:Int):=by omega
    rw[if_neg (by decide),if_neg (by decide),if_pos g1];clear g1 DU1;go_enter Tryz.func87, Tryz.ntmps87;go_wp2_with fail;clear hA hW1;have s0:W1.drew.cell? ⟨m,3,none⟩=some (.int .i64 (nd.pool:Int)):=d3;go_region_held3 (fun w'=>w'.cell? ⟨m,3,none⟩=some (.int .i64 (nd.pool:Int))) (first|exact s0|assumption) (first|(go_at_call 17;refine cM (WA.out _ BD.out) ?_;rintro e w2 ⟨rfl,rfl⟩));go_wp2;go_ret;exact⟨rfl,BD.out⟩
   ·have g2:¬(nd.pool:Int)<=(N:Int):=by omega
    rw[if_neg (by decide),if_neg (by decide),if_neg g1];clear g1;have b0:W1.drew.cell? ⟨A,0,none⟩=some (.int .i64 1):=a0;have b1:W1.drew.cell? ⟨A,1,none⟩=some (.int .i64 n):=a1;have b2:W1.drew.cell? ⟨A,2,none⟩=some (.int .i64 u):=a2;have b3:W1.drew.cell? ⟨A,3,none⟩=some (.int .i64 dl):=a3;have b4:W1.drew.cell? ⟨A,4,none⟩=some (.string id):=a4;by_cases g3:(1099511627776:Int) < T
    ·rw[if_pos g3]
     go_enter Tryz.func87, Tryz.ntmps87;go_wp2_with fail;clear hA hW1;have s0:W1.drew.cell? ⟨m,3,none⟩=some (.int .i64 (nd.pool:Int)):=d3;go_region_held3 (fun w'=>w'.cell? ⟨m,3,none⟩=some (.int .i64 (nd.pool:Int))) (first|exact s0|assumption) (first|(go_at_call 17;refine cM (WA.out _ BD.out) ?_;rintro e w2 ⟨rfl,rfl⟩));go_wp2_with fail;refine cM (DU1.out _ BD.out) ?_;rintro e w3 ⟨rfl,hb3⟩;have FF:Hid (Below w.heap.size w w3):=chain BD.out hb3;clear DU1 hb3;go_wp2;go_ret;exact⟨rfl,FF.out⟩
    ·rw[if_neg g3]
     go_enter Tryz.func87, Tryz.ntmps87;go_wp2_with fail;clear hA hW1;have s0:W1.drew.cell? ⟨m,3,none⟩=some (.int .i64 (nd.pool:Int)):=d3;go_region_held3 (fun w'=>w'.cell? ⟨m,3,none⟩=some (.int .i64 (nd.pool:Int))) (first|exact s0|assumption) (first|(go_at_call 17;refine cM (WA.out _ BD.out) ?_;rintro e w2 ⟨rfl,rfl⟩));go_wp2_with fail;refine cM (DU1.out _ BD.out) ?_;rintro e w3 ⟨rfl,hb3⟩;have FF:Hid (Below w.heap.size w w3):=chain BD.out hb3;clear DU1 hb3;go_wp2;go_ret;exact⟨rfl,FF.out⟩
  ·clear WA DU
   go_enter Tryz.func87, Tryz.ntmps87;go_wp2;go_ret;exact⟨rfl,BA.out⟩
end Go.Proofs.YtjcppbhgjchjaaaGreatDoor
namespace Go.Proofs.YtjcppbhgjchjaaaGreatDoor.Sto
open Go.RowKit Go.Proofs.Fd Go.Proofs.Dk Go.Proofs.Lg
theorem Ow.slice {w W:Wo} {v:Value} {xs:List Bs} (h:Ow w W v xs):∃a n c,v = .slice a n c:=by
 obtain⟨a,c,e,-,-⟩:=zaU rfl (zcy h.1 (Nat.zero_le _));exact⟨a,_,c,e⟩
theorem zcz (w W:Wo) (v:Value) (xs:List Bs) (o:Hid (Ow w W v xs)) (hx:xs.length<=20000) (ep:Nat) (a:Option Addr) (n c:Nat) (tags:List Bs) (hn:tags.length=n) (hn2:n<=20000) (ht:∀t∈tags,t.length<=2000) (tx:Hid (zbq w a tags)) :
  Cl 282 #[v,.int .i64 (ep:Int),.slice a n c] W fun e w'=>∃ya yn yc,e = .returned (.slice ya yn yc)/\Ow w w' (.slice ya yn yc) (xs++(69::ben ep 4)::tags.map (84::·)):=by
 have HN:Hid (tags.length=n):=hn;have HT:Hid (∀t∈tags,t.length<=2000):=ht;have ER:Hid _:=zll ep W;have ON:Hid (∀W1,Bw W W1->_):=fun W1 (hb:Bw W W1)=>(o.out.later hb).one (by omega) (69::ben ep 4)
 obtain⟨E,hE⟩:∃E,st (69::ben ep 4)=E:=⟨_,rfl⟩;rw[hE] at ER ON;obtain⟨va,vn,vc,rfl⟩:=o.out.slice;have HL:Hid (∀k,xs++[69::ben ep 4]++(tags.take k).map (84::·)=xs++(69::ben ep 4)::(tags.take k).map (84::·)):=fun k=>by rw[List.append_assoc];rfl
 clear hE o hn ht;go_enter Tryz.func282, Tryz.ntmps282;go_wp2_with fail;refine cM ER.out ?_;rintro e w1 ⟨rfl,hb⟩;obtain⟨xa,xn,xc,w2,r1,O2⟩:=ON.out w1 hb;clear ER ON hb;go_wp2_with (first|(at_builtin;refine Go.Lib.wpList_append_run _ rfl _ _ _ _ rfl _ _ rfl rfl _ _ r1 ?_));clear r1;go_loopw [0,16] (fun sl i wr=>∃k:Nat,k<=n/\i = .int .i64 (k:Int)/\Hid (Ow w wr sl (xs++[69::ben ep 4]++(tags.take k).map (84::·)))) (fun _ i _=>n - (intOf i).toNat)
 case atStart=>exact⟨0,Nat.zero_le _,rfl,by rw[List.take_zero,List.map_nil,List.append_nil];exact O2.out⟩
 case round =>
  obtain⟨k,hk,rfl,J⟩:=hrel;clear O2;by_cases hlt:k < n
  ·have hkl:k < tags.length:=by rw[HN.out];exact hlt
   have g1:(k:Int) < (n:Int):=by omega
   obtain⟨g,p,rfl,c1⟩:=(tx.out.later J.out.2) k hkl;have ET:Hid (tags.take (k+1)=tags.take k++[tags[k]]):=List.take_succ_eq_append_getElem hkl;have htl:=HT.out _ (List.getElem_mem hkl);obtain⟨t,ht⟩:∃t,tags[k]=t:=⟨_,rfl⟩;rw[ht] at c1 ET htl;unfold sv at c1;have TR:Hid (Cl 168 #[.string (st t)] wr fun e w'=>e = .returned (.string (st (84::t)))/\w'=wr):=zeD t (by omega) wr;obtain⟨ya,yn,yc,w3,r1,O3⟩:=J.out.one (by rw[List.length_append,List.length_append,List.length_map,List.length_take,List.length_singleton];omega) (84::t);have O4:Hid (Ow w w3 (.slice ya yn yc) (xs++[69::ben ep 4]++(tags.take (k+1)).map (84::·))):=by
    have:=O3.out;rw[List.append_assoc] at this;rw[ET.out,List.map_append];exact this
   obtain⟨T,hT⟩:∃T,st t=T:=⟨_,rfl⟩;obtain⟨R,hR⟩:∃T,st (84::t)=T:=⟨_,rfl⟩;rw[hT] at c1 TR;rw[hR] at TR r1;clear hT hR ht O3 J ET htl;go_wp2_with fail;refine cM TR.out ?_;rintro e w4 ⟨rfl,rfl⟩;clear TR c1;go_wp2_with (first|(at_builtin;refine Go.Lib.wpList_append_run _ rfl _ _ _ _ rfl _ _ rfl rfl _ _ r1 ?_));go_roundw
   case rel=>exact⟨k+1,by omega,rfl,O4.out⟩
   case measure=>simp[intOf];omega
  ·have g1:¬(k:Int) < (n:Int):=by omega
   have J1:Hid (Ow w wr u0 (xs++(69::ben ep 4)::tags.map (84::·))):=by
    have:=J.out;rw[HL.out,List.take_of_length_le (show tags.length<=k by rw[HN.out];omega)] at this;exact this
   obtain⟨ya,yn,yc,rfl⟩:=J1.out.slice;clear J;go_wp2;go_ret;exact⟨ya,yn,yc,by first|rfl|trivial,J1.out⟩
theorem zg8 (b q ep most:Nat) (va vh:Value) (ah he:List Bs) (h1:ah.length<=10000) (h2:he.length<=10000) (hep:ep<=4294967296) (h0:ep=0->ah=[]) (hb:∀t∈ah++he,t.length<=2000) (w:Wo) (h:Hid (Es w b q ep most va vh ah he)) :
  Cl 208 #[.pointer (some ⟨b,1,none⟩)] w fun e w'=>∃a c,e = .returned (.slice a (sht ep ah he).length c)/\zbq w' a (sht ep ah he)/\Bw w w'/\(∀x,a=some x->w.heap.size<=x.block):=by
 obtain⟨a1,c1,rfl,t1,-⟩:=zaU rfl h.out.ra;obtain⟨a2,c2,rfl,t2,-⟩:=zaU rfl h.out.rh;have T1:Hid _:=t1;have T2:Hid _:=t2;have k1:=h.out.bk.c 1 _ rfl;have k2:=h.out.bk.c 2 _ rfl;have k3:=h.out.bk.c 3 _ rfl;have FIN:Hid (∀(W:Wo) (xa:Option Addr) (xn xc:Nat),Ow w W (.slice xa xn xc) (sht ep ah he)->xn=(sht ep ah he).length/\zbq W xa (sht ep ah he)/\Bw w W/\(∀x,xa=some x->w.heap.size<=x.block)):=fun W xa xn xc o=>by
  obtain⟨ya,yc,e,tz,nz⟩:=zgk rfl o.1;injection e with e1 e2 e3
  subst e1;exact⟨e2,tz,o.2,nz⟩
 have LAST:Hid (∀(W:Wo) (v:Value) (xs:List Bs),xs.length<=10001->Ow w W v xs->Cl 282 #[v,.int .i64 (ep:Int),.slice a2 he.length c2] W fun e w'=>∃ya yn yc,e = .returned (.slice ya yn yc)/\Hid (Ow w w' (.slice ya yn yc) (xs++(69::ben ep 4)::he.map (84::·)))/\Bw w w'):=fun W v xs hx o =>
  (zcz w W v xs o (by omega) ep a2 he.length c2 he rfl (by omega) (fun t ht=>hb t (List.mem_append_right _ ht)) T2).mono fun _ _ ⟨ya,yn,yc,e1,e2⟩=>⟨ya,yn,yc,e1,e2,e2.2⟩
 have y1:IntKind.i64.wrap ((ep:Int) - 1)=(ep:Int) - 1:=by rw[IntKind.wrap_i64];omega
 have S0:Hid (∀W,Bw w W->W.cell? ⟨b,1,none⟩=some (.int .i64 (ep:Int))/\W.cell? ⟨b,2,none⟩=some (.slice a1 ah.length c1)/\W.cell? ⟨b,3,none⟩=some (.slice a2 he.length c2)):=fun W hb=>⟨cell_later hb k1,cell_later hb k2,cell_later hb k3⟩
 by_cases hah:ah=[]
 ·have hs:sht ep ah he=[]++(69::ben ep 4)::he.map (84::·):=by rw[sht,if_pos hah]
  have hz:ah.length=0:=by rw[hah];rfl
  rw[hz] at k2 S0;have L0:Hid _:=LAST.out w.drew (.slice none 0 0) [] (by simp) ⟨World.ownsRow_nil _ _ _ _,(bQ _ _).drew⟩;rw[<-hs] at L0;obtain⟨m2,hm2⟩:∃m,he.length=m:=⟨_,rfl⟩;rw[hm2] at k3 L0 S0;clear hs hz hah LAST h h0 hb hm2 T1 T2 t1 t2;go_enter Tryz.func208, Tryz.ntmps208;go_wp2_with fail;go_region_held3 (fun w'=>w'.cell? ⟨b,1,none⟩=some (.int .i64 (ep:Int))/\w'.cell? ⟨b,2,none⟩=some (.slice a1 0 c1)/\w'.cell? ⟨b,3,none⟩=some (.slice a2 m2 c2)) (first|exact⟨k1,k2,k3⟩|assumption|exact S0.out _ (by assumption)) (first|(go_at_call 282;refine cM L0.out ?_;rintro e w2 ⟨ya,yn,yc,rfl,O2,hb2⟩));obtain⟨rfl,F2⟩:=FIN.out w2 ya yn yc O2.out;have FF:Hid _:=F2;clear F2 O2 hb2 L0 FIN S0 k1 k2 k3;go_wp2;go_ret
  first|exact⟨ya,yc,rfl,FF.out⟩|exact⟨ya,⟨yc,rfl⟩,FF.out⟩
 ·have hep1:1<=ep:=by
   rcases Nat.eq_zero_or_pos ep with e|e
   ·exact absurd (h0 e) hah
   ·exact e
  have hs:sht ep ah he=([]++(69::ben (ep - 1) 4)::ah.map (84::·))++(69::ben ep 4)::he.map (84::·):=by rw[sht,if_neg hah];rfl
  have hz:0 < ah.length:=List.length_pos_iff.2 hah;have g1:(0:Int) < (ah.length:Int):=by omega
  have A0:Hid (Cl 282 #[.slice none 0 0,.int .i64 ((ep:Int) - 1),.slice a1 ah.length c1] w.drew fun e w'=>∃ya yn yc,e = .returned (.slice ya yn yc)/\Hid (Ow w w' (.slice ya yn yc) ([]++(69::ben (ep - 1) 4)::ah.map (84::·)))/\Bw w w'):=by
   have:=zcz w w.drew (.slice none 0 0) [] ⟨World.ownsRow_nil _ _ _ _,(bQ _ _).drew⟩ (by simp) (ep - 1) a1 ah.length c1 ah rfl (by omega) (fun t ht=>hb t (List.mem_append_left _ ht)) T1;rw[show ((ep - 1:Nat):Int)=(ep:Int) - 1 by omega] at this;exact this.mono fun _ _ ⟨ya,yn,yc,e1,e2⟩=>⟨ya,yn,yc,e1,e2,e2.2⟩
  have L0:Hid (∀W v,Ow w W v ([]++(69::ben (ep - 1) 4)::ah.map (84::·))->_):=fun W v (o:Ow w W v ([]++(69::ben (ep - 1) 4)::ah.map (84::·)))=>LAST.out W v _ (by simp;omega) o
  rw[<-hs] at L0;obtain⟨m1,hm1⟩:∃m,ah.length=m:=⟨_,rfl⟩;obtain⟨m2,hm2⟩:∃m,he.length=m:=⟨_,rfl⟩;rw[hm1] at k2 A0 S0 g1;rw[hm2] at k3 L0 S0;clear hs hz hah LAST h h0 hb hm1 hm2 T1 T2 t1 t2;go_enter Tryz.func208, Tryz.ntmps208;go_wp2_with fail;go_region_held3 (fun w'=>w'.cell? ⟨b,1,none⟩=some (.int .i64 (ep:Int))/\w'.cell? ⟨b,2,none⟩=some (.slice a1 m1 c1)/\w'.cell? ⟨b,3,none⟩=some (.slice a2 m2 c2)) (first|exact⟨k1,k2,k3⟩|assumption|exact S0.out _ (by assumption)) (first|(go_at_call 282;refine cM A0.out ?_;rintro e w2 ⟨ya,yn,yc,rfl,O2,hb2⟩));obtain⟨q1,q2,q3⟩:=S0.out w2 hb2;have L2:Hid _:=L0.out w2.drew (.slice ya yn yc) (O2.out.later (bQ _ _).drew);clear A0 O2 L0 k1 k2 k3 hb2;go_wp2_with fail;go_region_held3 (fun w'=>w'.cell? ⟨b,1,none⟩=some (.int .i64 (ep:Int))/\w'.cell? ⟨b,2,none⟩=some (.slice a1 m1 c1)/\w'.cell? ⟨b,3,none⟩=some (.slice a2 m2 c2)) (first|exact⟨q1,q2,q3⟩|assumption|exact S0.out _ (by assumption)) (first|(go_at_call 282;refine cM L2.out ?_;rintro e w3 ⟨za,zn,zc,rfl,O3,hb3⟩));obtain⟨rfl,F3⟩:=FIN.out w3 za zn zc O3.out;have FF:Hid _:=F3;clear F3 O3 hb3 L2 FIN S0 q1 q2 q3;go_wp2;go_ret
  first|exact⟨za,zc,rfl,FF.out⟩|exact⟨za,⟨zc,rfl⟩,FF.out⟩
end Go.Proofs.YtjcppbhgjchjaaaGreatDoor.Sto
