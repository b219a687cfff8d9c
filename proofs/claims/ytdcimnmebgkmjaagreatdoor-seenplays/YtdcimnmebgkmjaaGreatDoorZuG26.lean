/- Parts: SrC,SnA,SnB,SnC. -/
import Derived.Test.YtdcimnmebgkmjaaGreatDoorZuG25
import Derived.Test.YtdcimnmebgkmjaaGreatDoorZuG21
import Derived.Test.YtdcimnmebgkmjaaGreatDoorZuG12
import Derived.Lib.AppendZerosOnto
namespace Go.Proofs.YtdcimnmebgkmjaaGreatDoor
open Go.RowKit Go.Proofs.Fd Go.Proofs.Dk Go.Proofs.Lg
set_option maxRecDepth 20000
theorem rsadd_old (b q most ep:Nat) (v:Value) (l:List Hx) (hl:l.length≤100000) (t:Bs) (hm:t∈l.map (·.1)) (w:World) (h:Hid (Rs w b q most ep v l)) :
  Calls Tryz.prog 86 #[.pointer (some ⟨b,0,none⟩),.string (st t)] w fun e w'=>e = .returned (.tuple #[])∧w'=w:=by
 have HS:Hid _:=rshas_any b q most ep v l hl (st t) w h
 rw[st_data,decide_eq_true hm] at HS
 obtain⟨T,hT⟩:∃T,st t=T:=⟨_,rfl⟩
 rw[hT] at HS ⊢
 clear hT h hm
 go_enter Tryz.func86, Tryz.ntmps86
 go_wp2_with fail
 refine Calls.mono HS.out ?_
 rintro e w1 ⟨rfl,rfl⟩
 clear HS
 go_wp2
 go_end0
 exact⟨rfl,rfl⟩
set_option maxHeartbeats 1000000 in
theorem repoch_any (n:Nat) (w:World):Calls Tryz.prog 87 #[.int .i64 (n:Int)] w fun e w'=>e = .returned (.string (st (69::ben n 4)))∧Below w.heap.size w w':=by
 have HP:Hid ((⟨#[69]⟩:ByteArray)++st (ben n 4)=st (69::ben n 4)):=st_app [69] (ben n 4)
 have hy:(st (ben n 4)).size=4:=by rw[st_size,ben_len]
 have b0:(n:Int) / 16777216 % 256=((UInt8.ofNat (n / 16777216)).toNat:Int):=by rw[UInt8.toNat_ofNat'];simp
 have b1:(n:Int) / 65536 % 256=((UInt8.ofNat (n / 65536)).toNat:Int):=by rw[UInt8.toNat_ofNat'];simp
 have b2:(n:Int) / 256 % 256=((UInt8.ofNat (n / 256)).toNat:Int):=by rw[UInt8.toNat_ofNat'];simp
 have b3:(n:Int) % 256=((UInt8.ofNat n).toNat:Int):=by rw[UInt8.toNat_ofNat'];simp
 have BA:BytesAt (w.alloc (.cells #[.int .u8 ((UInt8.ofNat (n / 16777216)).toNat:Int),.int .u8 ((UInt8.ofNat (n / 65536)).toNat:Int),.int .u8 ((UInt8.ofNat (n / 256)).toNat:Int),.int .u8 ((UInt8.ofNat n).toNat:Int)] 5)) w.heap.size (ben n 4):=by
  rw[rben4]
  intro j hj
  refine⟨?_,by simp[go_sem]⟩
  rw[World.cell?_alloc_new]
  match j,hj with
  | 0,_=>rfl
  | 1,_=>rfl
  | 2,_=>rfl
  | 3,_=>rfl
 have CV:=BA.string (cap:=4) (ben_len n 4)
 have NB:Hid (Below w.heap.size w (w.alloc (.cells #[.int .u8 ((UInt8.ofNat (n / 16777216)).toNat:Int),.int .u8 ((UInt8.ofNat (n / 65536)).toNat:Int),.int .u8 ((UInt8.ofNat (n / 256)).toNat:Int),.int .u8 ((UInt8.ofNat n).toNat:Int)] 5))):=(Below.refl _ _).alloc (Nat.le_refl _) _
 clear BA
 obtain⟨c0,h0⟩:∃c,(UInt8.ofNat (n / 16777216)).toNat=c:=⟨_,rfl⟩
 obtain⟨c1,h1⟩:∃c,(UInt8.ofNat (n / 65536)).toNat=c:=⟨_,rfl⟩
 obtain⟨c2,h2⟩:∃c,(UInt8.ofNat (n / 256)).toNat=c:=⟨_,rfl⟩
 obtain⟨c3,h3⟩:∃c,(UInt8.ofNat n).toNat=c:=⟨_,rfl⟩
 rw[h0] at b0
 rw[h1] at b1
 rw[h2] at b2
 rw[h3] at b3
 rw[h0,h1,h2,h3] at CV NB
 clear h0 h1 h2 h3
 go_enter Tryz.func87, Tryz.ntmps87
 go_wp2
 go_ret
 exact⟨by rw[←HP.out];rfl,NB.out⟩
theorem app_tx1 (base:Nat) (w:World) (v:Value) (xs:List Bs) (h:w.ownsRow base 9 1 v xs.length (scs xs)) (hbase:base≤w.heap.size) (hx:xs.length≤1000000) (t:Bs) :
  ∃v' w',(Builtin.append_ #[37, 37] 37 #[v,.slice (some ⟨w.heap.size,0,none⟩) 1 1]).run Tryz.prog (w.alloc (.cells #[.string (st t)] 9)) = .ok v' w'∧w'.ownsRow base 9 1 v' (xs++[t]).length (scs (xs++[t]))∧(w.alloc (.cells #[.string (st t)] 9)).grownBy w' v.ownBlock:=by
 obtain⟨i0,hi,hz0,hz1,hz2⟩:=info_parts infoS
 obtain⟨v',w',r1,r2,r3,-,-⟩:=run_append_own_at (P:=Tryz.prog) (w.alloc (.cells #[.string (st t)] 9)) base 37 37 9 i0 _ 1 16 Tryz.underlying37 hi hz0 hz1 hz2 rfl (by decide) v xs.length (scs xs) (h.alloc _) ⟨w.heap.size,0,none⟩ 1 1 [sv t] rfl (one_new w (sv t) _) (scs_one [t]) (by unfold maxLen;omega) (by omega) (by simp;omega)
 refine⟨v',w',r1,?_,r3⟩
 rw[scs_app,List.length_append]
 exact r2
set_option maxHeartbeats 1000000 in
theorem rsof_any (b q most ep:Nat) (v:Value) (l:List Hx) (hl:l.length≤100000) (hb:∀x∈l,x.1.length≤2000) (n:Int) (w:World) (h:Hid (Rs w b q most ep v l)) :
  Calls Tryz.prog 129 #[.pointer (some ⟨b,0,none⟩),.int .i64 n] w fun e w'=>∃a c,e = .returned (.slice a ((l.filter fun x=>decide (x.2=n)).map fun x=>84::x.1).length c)∧TxAt w' a ((l.filter fun x=>decide (x.2=n)).map fun x=>84::x.1)∧Below w.heap.size w w'∧(∀x,a=some x→w.heap.size≤x.block):=by
 have HB:Hid (∀x∈l,x.1.length≤2000):=hb
 obtain⟨va,vc,rfl⟩:=ownsH_slice h.out.row
 obtain⟨N,hN⟩:∃N,l.length=N:=⟨_,rfl⟩
 have HN:Hid (l.length=N):=hN
 have K3:Hid (∀W,Below w.heap.size w W→W.cell? ⟨b,3,none⟩=some (.slice va N vc)):=fun W hb=>by
  have k3:=(h.out.later hb).bk.c 3 _ rfl
  rw[hN] at k3
  exact k3
 have CS:Hid (∀W,Below w.heap.size w W→∀i (hi:i < l.length),∃g,va=some ⟨g,0,none⟩∧W.cell? ⟨g,i*2,none⟩=some (sv l[i].1)∧W.cell? ⟨g,i*2+1,none⟩=some (.int .i64 l[i].2)):=fun W hb i hi=>by
  obtain⟨g,e1,-,e2,e3⟩:=ownsH_cells (h.out.later hb).row i hi
  exact⟨g,e1,e2,e3⟩
 rw[hN] at hl
 obtain⟨P,hP⟩:∃P:Hx→Bool,(fun x=>decide (x.2=n))=P:=⟨_,rfl⟩
 have HP:Hid (∀x:Hx,P x=decide (x.2=n)):=fun x=>by rw[←hP]
 obtain⟨M,hM⟩:∃M:List Hx→List Bs,(fun l=>l.map fun x=>84::x.1)=M:=⟨_,rfl⟩
 have HM:Hid (∀l:List Hx,(l.map fun x=>84::x.1)=M l):=fun l=>by rw[←hM]
 have HM1:Hid (∀(l:List Hx) (t:Bs) (e:Int),M (l++[(t,e)])=M l++[84::t]):=fun l t e=>by rw[←hM];simp
 have HM2:Hid (∀l:List Hx,(M l).length=l.length):=fun l=>by rw[←hM];simp
 rw[hP,HM.out]
 have HM0:Hid (M []=[]):=by show M []=[];rw[←hM];rfl
 clear h hN hP hM hb HM
 go_enter Tryz.func129, Tryz.ntmps129
 go_wp2
 go_loopw [5,6] (fun sl i wr=>∃k:Nat,k≤N∧i = .int .i64 (k:Int)∧Hid (wr.ownsRow w.heap.size 9 1 sl (M ((l.take k).filter P)).length (scs (M ((l.take k).filter P)))∧Below w.heap.size w wr)) (fun _ i _=>N - (intOf i).toNat)
 case atStart=>exact⟨0,Nat.zero_le _,rfl,by rw[List.take_zero,List.filter_nil,HM0.out];exact World.ownsRow_nil _ _ _ _,Below.refl _ _⟩
 case round =>
  obtain⟨k,hk,rfl,J⟩:=hrel
  have k3:=K3.out wr J.out.2
  by_cases hlt:k < N
  ·have hkl:k < l.length:=by rw[HN.out];exact hlt
   have g1:(k:Int) < (N:Int):=by omega
   obtain⟨g,rfl,c1,c2⟩:=CS.out wr J.out.2 k hkl
   have ET:Hid ((l.take (k+1)).filter P=(l.take k).filter P++if P l[k]=true then [l[k]] else []):=by
    show _=_
    rw[List.take_succ_eq_append_getElem hkl,List.filter_append]
    congr 1
    by_cases hp:P l[k]=true
    ·rw[if_pos hp,List.filter_cons_of_pos hp];rfl
    ·rw[if_neg hp,List.filter_cons_of_neg hp];rfl
   have hpl:(M ((l.take k).filter P)).length≤1000000:=by
    rw[HM2.out]
    have:=List.length_filter_le P (l.take k)
    rw[List.length_take] at this
    omega
   have hp0:=HP.out l[k]
   have hbt:=HB.out _ (List.getElem_mem hkl)
   obtain⟨⟨t,e⟩,ht⟩:∃t,l[k]=t:=⟨_,rfl⟩
   rw[ht] at c1 c2 ET hp0 hbt
   have c2':wr.cell? ⟨g,k*2+1,none⟩=some (.int .i64 e):=c2
   have c1':wr.cell? ⟨g,k*2,none⟩=some (.string (st t)):=c1
   have hbt':(st t).size≤2000:=by rw[st_size];exact hbt
   clear c1 c2 ht hbt
   by_cases hp:e=n
   ·subst hp
    rw[show P (t,e)=true by rw[hp0];exact decide_eq_true rfl,if_pos rfl] at ET
    obtain⟨v2,w2,r1,r2,r3⟩:=app_tx1 w.heap.size wr u5 (M ((l.take k).filter P)) J.out.1 J.out.2.size hpl (84::t)
    have B1:Below w.heap.size w (wr.alloc (.cells #[.string (st (84::t))] 9)):=J.out.2.alloc J.out.2.size _
    have K:Hid (w2.ownsRow w.heap.size 9 1 v2 (M ((l.take (k+1)).filter P)).length (scs (M ((l.take (k+1)).filter P)))∧Below w.heap.size w w2):=by
     rw[ET.out,HM1.out]
     exact⟨r2,B1.grown r3 B1.size (fun q hq=>(J.out.1.lt q hq).1)⟩
    have e84:st (84::t)=(⟨#[84]⟩:ByteArray)++st t:=(st_app [84] t).symm
    rw[e84] at r1
    obtain⟨T,hT⟩:∃T,st t=T:=⟨_,rfl⟩
    rw[hT] at r1 c1' hbt'
    have h63:¬9223372036854775807 < 1+T.size:=by omega
    clear r2 r3 J B1 ET hp0 hT e84
    go_wp2_with (first|(at_builtin;refine Go.Lib.wpList_append_run _ rfl _ _ _ _ rfl _ _ rfl rfl _ _ r1 ?_))
    go_roundw
    case rel=>exact⟨k+1,by omega,rfl,K.out⟩
    case measure=>simp[intOf];omega
   ·rw[show P (t,e)=false by rw[hp0];exact decide_eq_false hp,if_neg (by decide),List.append_nil] at ET
    have K:Hid (wr.ownsRow w.heap.size 9 1 u5 (M ((l.take (k+1)).filter P)).length (scs (M ((l.take (k+1)).filter P)))∧Below w.heap.size w wr):=by
     rw[ET.out]
     exact J.out
    clear J ET hp0 c1'
    go_wp2
    go_roundw
    case rel=>exact⟨k+1,by omega,rfl,K.out⟩
    case measure=>simp[intOf];omega
  ·have g1:¬(k:Int) < (N:Int):=by omega
   have J1:=J.out
   rw[List.take_of_length_le (show l.length≤k by rw[HN.out];omega)] at J1
   have hnew:∀x,u5.ownBlock=some x→w.heap.size≤x:=fun x e=>(J1.1.lt x e).1
   obtain⟨ua,uc,rfl,tx,hnil⟩:=owns_tx rfl (owns_low2 J1.1 (Nat.zero_le _))
   have FF:Hid (TxAt wr ua (M (l.filter P))∧Below w.heap.size w wr∧(∀x,ua=some x→w.heap.size≤x.block)):=by
    refine⟨tx,J1.2,fun x e => ?_⟩
    subst e
    rcases J1.1.2 with ⟨c,-⟩|⟨g,cap,cur,e1,e2,-⟩
    ·injection c with c1;cases c1
    ·injection e1 with e1
     injection e1 with e1
     rw[e1]
     exact e2
   clear J1 J CS K3 tx hnil hnew
   go_wp2
   go_ret
   first|exact⟨ua,uc,rfl,FF.out⟩|exact⟨ua,⟨uc,rfl⟩,FF.out⟩
end Go.Proofs.YtdcimnmebgkmjaaGreatDoor
namespace Go.Proofs.YtdcimnmebgkmjaaGreatDoor
open Go.RowKit Go.Proofs.Fd Go.Proofs.Dk Go.Proofs.Lg
set_option maxRecDepth 20000
abbrev stc (q ep:Nat) (va vh:Value) (most:Nat):List Value:=[.pointer (some ⟨q,0,none⟩),.int .i64 (ep:Int),va,vh,.int .i64 (most:Int)]
structure Es (w:World) (b q ep most:Nat) (va vh:Value) (ah he:List Bs):Prop where
 bk:Blk w b (stc q ep va vh most)
 ra:OwnsS w va ah
 rh:OwnsS w vh he
 av:va.ownBlock≠some b
 hv:vh.ownBlock≠some b
 ne:∀g,va.ownBlock=some g→vh.ownBlock≠some g
def EFt (b:Nat) (va vh:Value) (g:Nat):Prop:=g=b∨va.ownBlock=some g∨vh.ownBlock=some g
section
variable {w:World} {b q ep most:Nat} {va vh:Value} {ah he:List Bs}
theorem Es.lt (h:Es w b q ep most va vh ah he) {x:Nat} (hx:EFt b va vh x):x < w.heap.size:=by
 rcases hx with rfl|e|e
 ·exact h.bk.lt
 ·exact (h.ra.lt x e).2
 ·exact (h.rh.lt x e).2
theorem Es.same (h:Es w b q ep most va vh ah he) {w':World} (hs:∀x,EFt b va vh x→w'.heap[x]?=w.heap[x]?):Es w' b q ep most va vh ah he :=
 ⟨h.bk.same (hs b (.inl rfl)),ownsRow_same h.ra (fun x e=>hs x (.inr (.inl e))),ownsRow_same h.rh (fun x e=>hs x (.inr (.inr e))),h.av,h.hv,h.ne⟩
theorem Es.later (h:Es w b q ep most va vh ah he) {w':World} (hb:Below w.heap.size w w'):Es w' b q ep most va vh ah he:=h.same fun x hx=>hb.block x (h.lt hx)
theorem Es.bf (h:Es w b q ep most va vh ah he) {F:Nat→Prop} {w':World} (hb:Bf F w w') (hF:∀x,EFt b va vh x→¬F x):Es w' b q ep most va vh ah he:=h.same fun x hx=>hb.block x (h.lt hx) (hF x hx)
theorem Es.setc (h:Es w b q ep most va vh ah he) (i:Nat) (u:Value) (hi:i < 5):Blk (w.setCell ⟨b,i,none⟩ u) b ((stc q ep va vh most).set i u)∧OwnsS (w.setCell ⟨b,i,none⟩ u) va ah∧OwnsS (w.setCell ⟨b,i,none⟩ u) vh he :=
 ⟨h.bk.set i hi u,ownsRow_same h.ra (fun x e=>Below.heap_setCell w ⟨b,i,none⟩ u x (fun c=>h.av (by rw[e,c]))),ownsRow_same h.rh (fun x e=>Below.heap_setCell w ⟨b,i,none⟩ u x (fun c=>h.hv (by rw[e,c])))⟩
theorem Es.setEp (h:Es w b q ep most va vh ah he) (k:Nat):Es (w.setCell ⟨b,1,none⟩ (.int .i64 (k:Int))) b q k most va vh ah he:=by
 obtain⟨h1,h2,h3⟩:=h.setc 1 (.int .i64 (k:Int)) (by decide)
 exact⟨h1,h2,h3,h.av,h.hv,h.ne⟩
theorem Es.setHere (h:Es w b q ep most va vh ah he) {w':World} {v':Value} {us:List Bs} (k:w.grownBy w' vh.ownBlock) (o:OwnsS w' v' us) (hv:v'.ownBlock=vh.ownBlock∨v'.ownBlock=some w.heap.size) :
  Es (w'.setCell ⟨b,3,none⟩ v') b q ep most va v' ah us:=by
 have hq:w'.heap[b]?=w.heap[b]?:=k.block b h.bk.lt (fun e=>h.hv e.symm)
 have hn:v'.ownBlock≠some b:=fun c=>by
  rcases hv with e|e
  ·exact h.hv (e.symm.trans c)
  ·rw[e] at c
   injection c with c
   have:=h.bk.lt
   omega
 have b1:=(h.bk.same hq).set 3 (show 3 < 5 by decide) v'
 refine⟨b1,ownsRow_same h.ra (fun x e => ?_),ownsRow_same o (fun x e=>Below.heap_setCell w' ⟨b,3,none⟩ v' x (fun c=>hn (by rw[e,c]))),h.av,hn,fun g e c => ?_⟩
 ·rw[Below.heap_setCell w' ⟨b,3,none⟩ v' x (fun c=>h.av (by rw[e,c]))]
  exact k.block x (h.ra.lt x e).2 (fun c=>h.ne x e c.symm)
 ·rcases hv with e2|e2
  ·exact h.ne g e (e2.symm.trans c)
  ·rw[e2] at c
   injection c with c
   have:=(h.ra.lt g e).2
   omega
end
theorem sindex_any (a:Option Addr) (n c:Nat) (l:List Bs) (hn:l.length=n) (hnb:n≤1000000) (X:ByteArray) (w:World) (h:Hid (TxAt w a l)) :
  Calls Tryz.prog 128 #[.slice a n c,.string X] w fun e w'=>∃z:Int,e = .returned (.int .i64 z)∧(0≤z↔X.data.toList∈l)∧w'=w:=by
 have HN:Hid (l.length=n):=hn
 clear hn
 go_enter Tryz.func128, Tryz.ntmps128
 go_wp2
 go_loopw [8] (fun i wr=>∃k:Nat,k≤n∧i = .int .i64 (k:Int)∧Hid (X.data.toList ∉ l.take k)∧w=wr) (fun i _=>n - (intOf i).toNat)
 case atStart=>exact⟨0,Nat.zero_le _,rfl,(by rw[List.take_zero];exact List.not_mem_nil),rfl⟩
 case round =>
  obtain⟨k,hk,rfl,J,rfl⟩:=hrel
  by_cases hlt:k < n
  ·have hkl:k < l.length:=by rw[HN.out];exact hlt
   have g1:(k:Int) < (n:Int):=by omega
   obtain⟨b1,o1,rfl,c1⟩:=h.out k hkl
   have ET:Hid (l.take (k+1)=l.take k++[l[k]]):=List.take_succ_eq_append_getElem hkl
   have EM:Hid (l[k]∈l):=List.getElem_mem hkl
   obtain⟨t,ht⟩:∃t,l[k]=t:=⟨_,rfl⟩
   rw[ht] at c1 ET EM
   unfold sv at c1
   clear ht
   by_cases he:X=st t
   ·subst he
    have EM2:Hid ((st t).data.toList∈l):=EM.out
    obtain⟨T,hT⟩:∃T,st t=T:=⟨_,rfl⟩
    rw[hT] at c1 EM2 ⊢
    clear hT J ET
    go_wp2
    go_ret
    exact⟨(k:Int),rfl,⟨fun _=>by first|exact EM2.out|exact EM.out,fun _=>by omega⟩,rfl⟩
   ·have HE:Hid (X.data.toList≠t):=fun c=>he (by rw[←c];rfl)
    have hne:(X.toList == (st t).toList)=false:=by
     rw[ByteArray.toList_eq,ByteArray.toList_eq]
     exact beq_eq_false_iff_ne.2 HE.out
    obtain⟨T,hT⟩:∃T,st t=T:=⟨_,rfl⟩
    rw[hT] at c1 hne
    clear hT he
    go_wp2
    go_roundw
    case rel=>exact⟨k+1,by omega,rfl,(by rw[ET.out];intro c;rcases List.mem_append.1 c with c|c;exact J.out c;exact HE.out (List.mem_singleton.1 c)),by first|rfl|trivial⟩
    case measure=>simp[intOf];omega
  ·have g1:¬(k:Int) < (n:Int):=by omega
   have hkn:k=n:=by omega
   go_wp2
   go_ret
   refine⟨-1,rfl,⟨fun c=>absurd c (by decide),fun c => ?_⟩,rfl⟩
   rw[←List.take_of_length_le (show l.length≤k by rw[HN.out];omega)] at c
   exact absurd c J.out
theorem scontains_any (a:Option Addr) (n c:Nat) (l:List Bs) (hn:l.length=n) (hnb:n≤1000000) (X:ByteArray) (w:World) (h:Hid (TxAt w a l)) :
  Calls Tryz.prog 111 #[.slice a n c,.string X] w fun e w'=>e = .returned (.bool (decide (X.data.toList∈l)))∧w'=w:=by
 have IX:Hid _:=sindex_any a n c l hn hnb X w h
 clear h hn
 go_enter Tryz.func111, Tryz.ntmps111
 go_wp2_with fail
 refine Calls.mono IX.out ?_
 rintro e w1 ⟨z,rfl,hz,rfl⟩
 clear IX
 by_cases hm:X.data.toList∈l
 ·have hz2:0≤z:=hz.2 hm
  have HM:Hid (X.data.toList∈l):=hm
  clear hz hm
  go_wp2
  go_ret
  exact⟨by rw[decide_eq_true HM.out];rfl,rfl⟩
 ·have hz2:decide (0≤z)=false:=decide_eq_false fun c=>hm (hz.1 c)
  have HM:Hid (X.data.toList ∉ l):=hm
  clear hz hm
  go_wp2
  go_ret
  exact⟨by rw[decide_eq_false HM.out];rfl,rfl⟩
theorem ehas_any (b q ep most:Nat) (va vh:Value) (ah he:List Bs) (h1:ah.length≤100000) (h2:he.length≤100000) (X:ByteArray) (w:World) (h:Hid (Es w b q ep most va vh ah he)) :
  Calls Tryz.prog 83 #[.pointer (some ⟨b,1,none⟩),.string X] w fun e w'=>e = .returned (.bool (decide (X.data.toList∈ah++he)))∧w'=w:=by
 obtain⟨a1,c1,rfl,t1,-⟩:=owns_tx rfl h.out.ra
 obtain⟨a2,c2,rfl,t2,-⟩:=owns_tx rfl h.out.rh
 have S1:Hid _:=scontains_any a1 ah.length c1 ah rfl (by omega) X w t1
 have S2:Hid _:=scontains_any a2 he.length c2 he rfl (by omega) X w t2
 have k2:=h.out.bk.c 2 _ rfl
 have k3:=h.out.bk.c 3 _ rfl
 clear t1 t2 h
 by_cases m1:X.data.toList∈ah
 ·have e0:decide (X.data.toList∈ah++he)=true:=decide_eq_true (List.mem_append_left _ m1)
  rw[decide_eq_true m1] at S1
  rw[e0]
  clear e0 m1
  go_enter Tryz.func83, Tryz.ntmps83
  go_wp2_with fail
  refine Calls.mono S1.out ?_
  rintro e w1 ⟨rfl,rfl⟩
  go_wp2
  go_ret
  exact⟨rfl,rfl⟩
 ·have e0:decide (X.data.toList∈ah++he)=decide (X.data.toList∈he):=by
   by_cases m2:X.data.toList∈he
   ·rw[decide_eq_true m2,decide_eq_true (List.mem_append_right _ m2)]
   ·rw[decide_eq_false m2,decide_eq_false (fun c=>by rcases List.mem_append.1 c with c|c;exact m1 c;exact m2 c)]
  rw[decide_eq_false m1] at S1
  rw[e0]
  obtain⟨z,hz⟩:∃z,decide (X.data.toList∈he)=z:=⟨_,rfl⟩
  rw[hz] at S2 ⊢
  clear e0 m1 hz
  go_enter Tryz.func83, Tryz.ntmps83
  go_wp2_with fail
  refine Calls.mono S1.out ?_
  rintro e w1 ⟨rfl,rfl⟩
  go_wp2_with fail
  refine Calls.mono S2.out ?_
  rintro e w1 ⟨rfl,rfl⟩
  go_wp2
  go_ret
  exact⟨rfl,rfl⟩
theorem shas_any (b q ep most:Nat) (va vh:Value) (ah he:List Bs) (h1:ah.length≤100000) (h2:he.length≤100000) (X:ByteArray) (w:World) (h:Hid (Es w b q ep most va vh ah he)) :
  Calls Tryz.prog 43 #[.pointer (some ⟨b,0,none⟩),.string X] w fun e w'=>e = .returned (.bool (decide (X.data.toList∈ah++he)))∧w'=w:=by
 have S1:Hid _:=ehas_any b q ep most va vh ah he h1 h2 X w h
 have k0:=h.out.bk.c 0 _ rfl
 obtain⟨z,hz⟩:∃z,decide (X.data.toList∈ah++he)=z:=⟨_,rfl⟩
 rw[hz] at S1 ⊢
 clear hz h h1 h2
 go_enter Tryz.func43, Tryz.ntmps43
 go_wp2_with fail
 refine Calls.mono S1.out ?_
 rintro e w1 ⟨rfl,rfl⟩
 go_wp2
 go_ret
 exact⟨rfl,rfl⟩
theorem sepoch_any (b q ep most:Nat) (va vh:Value) (ah he:List Bs) (w:World) (h:Hid (Es w b q ep most va vh ah he)) :
  Calls Tryz.prog 14 #[.pointer (some ⟨b,0,none⟩)] w fun e w'=>e = .returned (.int .i64 (ep:Int))∧w'=w:=by
 have k0:=h.out.bk.c 0 _ rfl
 have k1:=h.out.bk.c 1 _ rfl
 clear h
 go_enter Tryz.func14, Tryz.ntmps14
 go_wp2
 go_ret
 exact⟨rfl,rfl⟩
set_option maxHeartbeats 1000000 in
theorem emany_any (b q ep most:Nat) (va vh:Value) (ah he:List Bs) (h1:ah.length≤100000) (h2:he.length≤100000) (w:World) (h:Hid (Es w b q ep most va vh ah he)) :
  Calls Tryz.prog 79 #[.pointer (some ⟨b,1,none⟩)] w fun e w'=>e = .returned (.int .i64 ((ah.length+he.length:Nat):Int))∧Below w.heap.size w w':=by
 obtain⟨a1,c1,rfl,-,-⟩:=owns_tx rfl h.out.ra
 obtain⟨a2,c2,rfl,-,-⟩:=owns_tx rfl h.out.rh
 have k2:=h.out.bk.c 2 _ rfl
 have k3:=h.out.bk.c 3 _ rfl
 obtain⟨n,hn⟩:∃n,ah.length=n:=⟨_,rfl⟩
 obtain⟨m,hm⟩:∃m,he.length=m:=⟨_,rfl⟩
 rw[hn] at k2 h1 ⊢
 rw[hm] at k3 h2 ⊢
 have e1:IntKind.i64.wrap ((n:Int)+(m:Int))=((n+m:Nat):Int):=by rw[IntKind.wrap_i64];omega
 clear hn hm h
 go_enter Tryz.func79, Tryz.ntmps79
 go_wp2_with fail
 go_region_with fail
 all_goals
  go_wp2
  go_ret
  exact⟨by first|rfl|go_num,by first|exact (Below.refl _ _).drew|exact Below.refl _ _⟩
end Go.Proofs.YtdcimnmebgkmjaaGreatDoor
namespace Go.Proofs.YtdcimnmebgkmjaaGreatDoor
open Go.RowKit Go.Proofs.Fd Go.Proofs.Dk Go.Proofs.Lg
set_option maxRecDepth 20000
theorem sprefix_any (d c:UInt8) (t:Bs) (ht:t.length≤100000) (w:World) :
  Calls Tryz.prog 141 #[.string (st (d::t)),.string ⟨#[c]⟩] w fun e w'=>e = .returned (.bool (decide (d=c)))∧w'=w:=by
 have hs:(st (d::t)).size=t.length+1:=by rw[st_size];rfl
 have hx:(st (d::t)).extract 0 1=⟨#[d]⟩:=by rw[st_cut];rfl
 have hc:(⟨#[c]⟩:ByteArray).size=1:=rfl
 obtain⟨S,hS⟩:∃S,st (d::t)=S:=⟨_,rfl⟩
 rw[hS] at hs hx ⊢
 have l1:(1:Int)≤(S.size:Int):=by omega
 have l2:1≤S.size:=by omega
 clear hS hs ht
 by_cases e:d=c
 ·subst e
  rw[decide_eq_true rfl]
  obtain⟨C,hC⟩:∃C:ByteArray,⟨#[d]⟩=C:=⟨_,rfl⟩
  rw[hC] at hx hc ⊢
  clear hC
  go_enter Tryz.func141, Tryz.ntmps141
  go_wp2
  go_ret
  exact⟨rfl,rfl⟩
 ·rw[decide_eq_false e]
  have hne:((⟨#[d]⟩:ByteArray).toList == (⟨#[c]⟩:ByteArray).toList)=false:=by
   rw[ByteArray.toList_eq,ByteArray.toList_eq]
   exact beq_eq_false_iff_ne.2 fun h=>e (by injection h)
  obtain⟨C,hC⟩:∃C:ByteArray,⟨#[c]⟩=C:=⟨_,rfl⟩
  obtain⟨D,hD⟩:∃D:ByteArray,⟨#[d]⟩=D:=⟨_,rfl⟩
  rw[hC] at hc hne ⊢
  rw[hD] at hx hne
  clear hC hD e
  go_enter Tryz.func141, Tryz.ntmps141
  go_wp2
  go_ret
  exact⟨rfl,rfl⟩
theorem scut_any (d c:UInt8) (t:Bs) (ht:t.length≤100000) (w:World) :
  Calls Tryz.prog 106 #[.string (st (d::t)),.string ⟨#[c]⟩] w fun e w'=>e = .returned (.tuple #[.string (if d=c then st t else st (d::t)),.bool (decide (d=c))])∧w'=w:=by
 have CP:Hid (∀w,Calls Tryz.prog 126 #[.string (st (d::t)),.string ⟨#[c]⟩] w fun e w'=>e = .returned (.tuple #[.string (if d=c then st t else st (d::t)),.bool (decide (d=c))])∧w'=w):=fun w=>by
  have HP:Hid _:=sprefix_any d c t ht w
  have hs:(st (d::t)).size=t.length+1:=by rw[st_size];rfl
  have hx:(st (d::t)).extract 1 (st (d::t)).size=st t:=by
   rw[st_cut,hs,List.take_of_length_le (by rw[List.length_cons];exact Nat.le_refl _)];rfl
  have hc:(⟨#[c]⟩:ByteArray).size=1:=rfl
  by_cases e:d=c
  ·rw[if_pos e]
   rw[decide_eq_true e] at HP ⊢
   clear e
   obtain⟨S,hS⟩:∃S,st (d::t)=S:=⟨_,rfl⟩
   obtain⟨T,hT⟩:∃T,st t=T:=⟨_,rfl⟩
   obtain⟨C,hC⟩:∃C:ByteArray,⟨#[c]⟩=C:=⟨_,rfl⟩
   rw[hS] at hs hx HP ⊢
   rw[hC] at hc HP ⊢
   rw[hT] at hx ⊢
   have l1:(1:Int)≤(S.size:Int):=by omega
   have l2:1≤S.size:=by omega
   clear hS hT hC hs ht
   go_enter Tryz.func126, Tryz.ntmps126
   go_wp2_with fail
   refine Calls.mono HP.out ?_
   rintro e w1 ⟨rfl,rfl⟩
   go_wp2
   go_ret2
   exact⟨rfl,rfl⟩
  ·rw[if_neg e]
   rw[decide_eq_false e] at HP ⊢
   clear e hx
   obtain⟨S,hS⟩:∃S,st (d::t)=S:=⟨_,rfl⟩
   obtain⟨C,hC⟩:∃C:ByteArray,⟨#[c]⟩=C:=⟨_,rfl⟩
   rw[hS] at hs HP ⊢
   rw[hC] at hc HP ⊢
   clear hS hC hs ht
   go_enter Tryz.func126, Tryz.ntmps126
   go_wp2_with fail
   refine Calls.mono HP.out ?_
   rintro e w1 ⟨rfl,rfl⟩
   go_wp2
   go_ret2
   exact⟨rfl,rfl⟩
 obtain⟨S,hS⟩:∃S,st (d::t)=S:=⟨_,rfl⟩
 obtain⟨C,hC⟩:∃C:ByteArray,⟨#[c]⟩=C:=⟨_,rfl⟩
 obtain⟨z,hz⟩:∃z,decide (d=c)=z:=⟨_,rfl⟩
 obtain⟨R,hR⟩:∃R,(if d=c then st t else st (d::t))=R:=⟨_,rfl⟩
 rw[hR,hz] at CP ⊢
 rw[hS,hC] at CP ⊢
 clear hS hC hz hR ht
 go_enter Tryz.func106, Tryz.ntmps106
 go_wp2_with fail
 refine Calls.mono (CP.out _) ?_
 rintro e w1 ⟨rfl,rfl⟩
 go_wp2
 go_ret2
 exact⟨rfl,rfl⟩
set_option maxHeartbeats 1000000 in
theorem snumber_any (b:Bs) (h1:b.length=4) (w:World):Calls Tryz.prog 109 #[sv b] w fun e w'=>e = .returned (.int .i64 (nm b:Int))∧w'=w:=by
 have hs:(st b).size=b.length:=st_size b
 obtain⟨X,hX⟩:∃X,st b=X:=⟨_,rfl⟩
 unfold sv
 rw[hX,h1] at hs
 rw[hX]
 have HX:Hid (st b=X):=hX
 clear hX
 go_enter Tryz.func109, Tryz.ntmps109
 go_wp2
 go_loopw [3,7] (fun x i wr=>∃k:Nat,k≤4∧i = .int .i64 (k:Int)∧x = .int .i64 (nm (b.take k):Int)∧wr=w) (fun _ i _=>4 - (intOf i).toNat)
 case atStart=>exact⟨0,Nat.zero_le _,rfl,rfl,rfl⟩
 case round =>
  obtain⟨k,hk4,rfl,rfl,rfl⟩:=hrel
  by_cases hk5:k < 4
  ·have g1:(k:Int) < 4:=by omega
   have l0:k < X.size:=by omega
   have l1:(k:Int) < (X.size:Int):=by omega
   have hlt:=nm_lt (b.take k)
   have hpw:256 ^ (b.take k).length≤16777216:=by
    have:(b.take k).length≤3:=by rw[List.length_take];omega
    exact Nat.le_trans (Nat.pow_le_pow_right (by decide) this) (by decide)
   obtain⟨c,hc⟩:∃c,X[k]=c:=⟨_,rfl⟩
   have hc2:b[k]'(by omega)=c:=by
    have:=HX.out
    subst this
    rw[←hc]
    rfl
   have hst:nm (b.take (k+1))=nm (b.take k)*256+c.toNat:=by
    rw[List.take_succ_eq_append_getElem (by omega),nm_app,hc2]
   obtain⟨n,hn⟩:∃n,nm (b.take k)=n:=⟨_,rfl⟩
   rw[hn] at hst hlt ⊢
   have hcl:=c.toNat_lt
   have t1:IntKind.i64.wrap (c.toNat:Int)=(c.toNat:Int):=by rw[IntKind.wrap_i64];omega
   have t2:IntKind.i64.wrap ((n:Int)*256)=(n:Int)*256:=by rw[IntKind.wrap_i64];omega
   have OW:=or_low n c (by omega)
   have HST:Hid (nm (b.take (k+1))=n*256+c.toNat):=hst
   clear hst hn hc2 hlt hpw hcl
   go_wp2
   go_roundw
   case rel=>exact⟨k+1,by omega,rfl,by rw[HST.out];simp,by first|rfl|trivial⟩
   case measure=>simp[intOf];omega
  ·obtain rfl:k=4:=by omega
   have e4:b.take 4=b:=List.take_of_length_le (by omega)
   rw[e4]
   obtain⟨n,hn⟩:∃n,nm b=n:=⟨_,rfl⟩
   rw[hn]
   have HN:Hid (nm b=n):=hn
   clear hn
   go_wp2
   go_ret
   exact⟨by rw[HN.out];rfl,by first|rfl|trivial⟩
theorem stagr_any (t:Bs) (ht:t.length≤100000) (w:World):Calls Tryz.prog 81 #[.string (st t)] w fun e w'=>e = .returned (.string (st (84::t)))∧w'=w:=by
 have HP:Hid ((⟨#[84]⟩:ByteArray)++st t=st (84::t)):=st_app [84] t
 have hy:(st t).size≤100000:=by rw[st_size];exact ht
 obtain⟨T,hT⟩:∃T,st t=T:=⟨_,rfl⟩
 rw[hT] at HP hy ⊢
 rw[←HP.out]
 clear hT HP ht
 have h63:¬9223372036854775807 < 1+T.size:=by omega
 go_enter Tryz.func81, Tryz.ntmps81
 go_wp2
 go_ret
 exact⟨rfl,rfl⟩
theorem ben4 (n:Nat):ben n 4=[UInt8.ofNat (n / 16777216),UInt8.ofNat (n / 65536),UInt8.ofNat (n / 256),UInt8.ofNat n]:=by
 show [UInt8.ofNat (n / 2 ^ 24),UInt8.ofNat (n / 2 ^ 16),UInt8.ofNat (n / 2 ^ 8),UInt8.ofNat (n / 2 ^ 0)]=_
 rw[show n / 2 ^ 0=n by simp]
set_option maxHeartbeats 1000000 in
theorem sepr_any (n:Nat) (w:World):Calls Tryz.prog 82 #[.int .i64 (n:Int)] w fun e w'=>e = .returned (.string (st (69::ben n 4)))∧Below w.heap.size w w':=by
 have HP:Hid ((⟨#[69]⟩:ByteArray)++st (ben n 4)=st (69::ben n 4)):=st_app [69] (ben n 4)
 have hy:(st (ben n 4)).size=4:=by rw[st_size,ben_len]
 have b0:(n:Int) / 16777216 % 256=((UInt8.ofNat (n / 16777216)).toNat:Int):=by rw[UInt8.toNat_ofNat'];simp
 have b1:(n:Int) / 65536 % 256=((UInt8.ofNat (n / 65536)).toNat:Int):=by rw[UInt8.toNat_ofNat'];simp
 have b2:(n:Int) / 256 % 256=((UInt8.ofNat (n / 256)).toNat:Int):=by rw[UInt8.toNat_ofNat'];simp
 have b3:(n:Int) % 256=((UInt8.ofNat n).toNat:Int):=by rw[UInt8.toNat_ofNat'];simp
 have BA:BytesAt (w.alloc (.cells #[.int .u8 ((UInt8.ofNat (n / 16777216)).toNat:Int),.int .u8 ((UInt8.ofNat (n / 65536)).toNat:Int),.int .u8 ((UInt8.ofNat (n / 256)).toNat:Int),.int .u8 ((UInt8.ofNat n).toNat:Int)] 5)) w.heap.size (ben n 4):=by
  rw[ben4]
  intro j hj
  refine⟨?_,by simp[go_sem]⟩
  rw[World.cell?_alloc_new]
  match j,hj with
  | 0,_=>rfl
  | 1,_=>rfl
  | 2,_=>rfl
  | 3,_=>rfl
 have CV:=BA.string (cap:=4) (ben_len n 4)
 have NB:Hid (Below w.heap.size w (w.alloc (.cells #[.int .u8 ((UInt8.ofNat (n / 16777216)).toNat:Int),.int .u8 ((UInt8.ofNat (n / 65536)).toNat:Int),.int .u8 ((UInt8.ofNat (n / 256)).toNat:Int),.int .u8 ((UInt8.ofNat n).toNat:Int)] 5))):=(Below.refl _ _).alloc (Nat.le_refl _) _
 clear BA
 obtain⟨c0,h0⟩:∃c,(UInt8.ofNat (n / 16777216)).toNat=c:=⟨_,rfl⟩
 obtain⟨c1,h1⟩:∃c,(UInt8.ofNat (n / 65536)).toNat=c:=⟨_,rfl⟩
 obtain⟨c2,h2⟩:∃c,(UInt8.ofNat (n / 256)).toNat=c:=⟨_,rfl⟩
 obtain⟨c3,h3⟩:∃c,(UInt8.ofNat n).toNat=c:=⟨_,rfl⟩
 rw[h0] at b0
 rw[h1] at b1
 rw[h2] at b2
 rw[h3] at b3
 rw[h0,h1,h2,h3] at CV NB
 clear h0 h1 h2 h3
 go_enter Tryz.func82, Tryz.ntmps82
 go_wp2
 go_ret
 exact⟨by rw[←HP.out];rfl,NB.out⟩
end Go.Proofs.YtdcimnmebgkmjaaGreatDoor
namespace Go.Proofs.YtdcimnmebgkmjaaGreatDoor
open Go.RowKit Go.Proofs.Fd Go.Proofs.Dk Go.Proofs.Lg
set_option maxRecDepth 20000
theorem EFt.here {w w':World} {b:Nat} {va vh v':Value} (hv:v'.ownBlock=vh.ownBlock∨v'.ownBlock=some w'.heap.size) (hs:w.heap.size≤w'.heap.size):Nx w (EFt b va vh) (EFt b va v'):=fun x hx=>by
 rcases hx with e|e|e
 ·exact .inl (.inl e)
 ·exact .inl (.inr (.inl e))
 ·rcases hv with h|h
  ·exact .inl (.inr (.inr (h.symm.trans e)))
  ·rw[h] at e
   injection e with e
   exact .inr (by omega)
set_option maxHeartbeats 1000000 in
theorem eadd_any (b q ep most:Nat) (va vh:Value) (ah he:List Bs) (h1:ah.length≤100000) (h2:he.length≤100000) (t:Bs) (hm:t ∉ ah++he) (w:World) (h:Hid (Es w b q ep most va vh ah he)) :
  Calls Tryz.prog 107 #[.pointer (some ⟨b,1,none⟩),.string (st t)] w fun e w'=>e = .returned (.tuple #[])∧∃v',Es w' b q ep most va v' ah (he++[t])∧Bf (EFt b va vh) w w'∧Nx w (EFt b va vh) (EFt b va v'):=by
 have HS:Hid _:=ehas_any b q ep most va vh ah he h1 h2 (st t) w h
 rw[st_data,decide_eq_false hm] at HS
 have hn:he.length≤1000000:=by omega
 have H1:Hid (Es (w.alloc (.cells #[.string (st t)] 9)) b q ep most va vh ah he):=h.out.later (nb _ _)
 obtain⟨v',w',r1,r2,r3,r4⟩:=app_str (w.alloc (.cells #[.string (st t)] 9)) 37 vh he H1.out.rh hn t w.heap.size (by rw[World.cell?_alloc_new];rfl)
 obtain⟨a3,n3,c3,rfl⟩:=owns_sliceS r2
 have E2:Hid (Es (w'.setCell ⟨b,3,none⟩ (.slice a3 n3 c3)) b q ep most va (.slice a3 n3 c3) ah (he++[t])∧Bf (EFt b va vh) w (w'.setCell ⟨b,3,none⟩ (.slice a3 n3 c3))∧Nx w (EFt b va vh) (EFt b va (.slice a3 n3 c3))):=by
  refine⟨H1.out.setHere r3 r2 r4,?_,EFt.here r4 (by simp)⟩
  exact bf_set ((Bf.of (nb w (.cells #[.string (st t)] 9))).trans (Nx.refl _ _) (Bf.grown r3 fun g e => .inl (.inr (.inr e)))) (.inl rfl)
 have k3:=h.out.bk.c 3 _ rfl
 have hq:w'.heap[b]?=(w.alloc (.cells #[.string (st t)] 9)).heap[b]?:=r3.block b H1.out.bk.lt (fun e=>h.out.hv e.symm)
 have B2:=H1.out.bk.same hq
 have k4:=B2.c 3 _ rfl
 have kf:=B2.f
 obtain⟨a2,n2,c2,rfl⟩:=owns_sliceS h.out.rh
 obtain⟨T,hT⟩:∃T,st t=T:=⟨_,rfl⟩
 rw[hT] at HS r1 ⊢
 clear r2 r3 r4 H1 h hT B2 hq
 go_enter Tryz.func107, Tryz.ntmps107
 go_wp2_with fail
 refine Calls.mono HS.out ?_
 rintro e w1 ⟨rfl,rfl⟩
 clear HS
 go_wp2_with (first|(at_builtin;refine Go.Lib.wpList_append_run _ rfl _ _ _ _ rfl _ _ rfl rfl _ _ r1 ?_))
 go_end0
 exact⟨rfl,_,E2.out⟩
theorem Es.turn {w:World} {b q ep most:Nat} {va vh:Value} {ah he:List Bs} (h:Es w b q ep most va vh ah he) (k:Nat) :
  Es (((w.setCell ⟨b,2,none⟩ vh).setCell ⟨b,3,none⟩ (.slice none 0 0)).setCell ⟨b,1,none⟩ (.int .i64 (k:Int))) b q k most vh (.slice none 0 0) he []:=by
 have B1:=((h.bk.set 2 (show 2 < 5 by decide) vh).set 3 (show 3 < 5 by decide) (.slice none 0 0)).set 1 (show 1 < 5 by decide) (.int .i64 (k:Int))
 refine⟨B1,ownsRow_same h.rh (fun x e => ?_),owns_nilS _,h.hv,(fun c=>by cases c),fun g _ c=>by cases c⟩
 have nx:∀o,x≠(⟨b,o,none⟩:Addr).block:=fun o c=>h.hv (by rw[e,c])
 rw[Below.heap_setCell _ ⟨b,1,none⟩ _ x (nx 1),Below.heap_setCell _ ⟨b,3,none⟩ _ x (nx 3),Below.heap_setCell _ ⟨b,2,none⟩ _ x (nx 2)]
set_option maxHeartbeats 1000000 in
theorem eturn_any (b q ep most:Nat) (va vh:Value) (ah he:List Bs) (hep:ep+1≤2147483647) (w:World) (h:Hid (Es w b q ep most va vh ah he)) :
  Calls Tryz.prog 108 #[.pointer (some ⟨b,1,none⟩),.int .i64 ((ep+1:Nat):Int)] w fun e w'=>e = .returned (.bool true)∧Es w' b q (ep+1) most vh (.slice none 0 0) he []∧Bf (EFt b va vh) w w'∧Nx w (EFt b va vh) (EFt b vh (.slice none 0 0)):=by
 have k1:=h.out.bk.c 1 _ rfl
 have k2:=h.out.bk.c 2 _ rfl
 have k3:=h.out.bk.c 3 _ rfl
 have kf:=h.out.bk.f
 have E2:Hid (Es (((w.setCell ⟨b,2,none⟩ vh).setCell ⟨b,3,none⟩ (.slice none 0 0)).setCell ⟨b,1,none⟩ (.int .i64 ((ep+1:Nat):Int))) b q (ep+1) most vh (.slice none 0 0) he []∧Bf (EFt b va vh) w (((w.setCell ⟨b,2,none⟩ vh).setCell ⟨b,3,none⟩ (.slice none 0 0)).setCell ⟨b,1,none⟩ (.int .i64 ((ep+1:Nat):Int)))∧Nx w (EFt b va vh) (EFt b vh (.slice none 0 0))) :=
  ⟨h.out.turn (ep+1),bf_set (bf_set (bf_set (Bf.refl _ _) (.inl rfl)) (.inl rfl)) (.inl rfl),fun x hx=>by
   rcases hx with e|e|e
   ·exact .inl (.inl e)
   ·exact .inl (.inr (.inr e))
   ·cases e⟩
 obtain⟨a1,n1,c1,rfl⟩:=owns_sliceS h.out.ra
 obtain⟨a2,n2,c2,rfl⟩:=owns_sliceS h.out.rh
 have g1:¬((ep+1:Nat):Int) < (ep:Int):=by omega
 have g2:((ep+1:Nat):Int) - (ep:Int)=1:=by have:=hep;omega
 have g3:¬(2147483647:Int) < ((ep+1:Nat):Int):=by have:=hep;omega
 obtain⟨z,hz⟩:∃z:Int,((ep+1:Nat):Int)=z:=⟨_,rfl⟩
 rw[hz] at g1 g2 g3 E2 ⊢
 clear h hz
 go_enter Tryz.func108, Tryz.ntmps108
 go_wp2
 go_ret
 exact⟨rfl,E2.out⟩
set_option maxHeartbeats 1000000 in
theorem etakeT_any (b q ep most:Nat) (va vh:Value) (ah he:List Bs) (h1:ah.length≤100000) (h2:he.length≤100000) (t:Bs) (ht:t.length=16) (hm:t ∉ ah++he) (w:World) (h:Hid (Es w b q ep most va vh ah he)) :
  Calls Tryz.prog 78 #[.pointer (some ⟨b,1,none⟩),.string (st (84::t))] w fun e w'=>e = .returned (.bool true)∧∃v',Es w' b q ep most va v' ah (he++[t])∧Bf (EFt b va vh) w w'∧Nx w (EFt b va vh) (EFt b va v'):=by
 have C1:Hid _:=scut_any 84 84 t (by omega) w
 rw[if_pos rfl,decide_eq_true rfl] at C1
 have A1:Hid _:=eadd_any b q ep most va vh ah he h1 h2 t hm w h
 have hs:(st t).size=16:=by rw[st_size,ht]
 obtain⟨T,hT⟩:∃T,st t=T:=⟨_,rfl⟩
 obtain⟨S,hS⟩:∃S,st (84::t)=S:=⟨_,rfl⟩
 rw[hT] at C1 A1 hs
 rw[hS] at C1 ⊢
 clear hT hS h hm
 go_enter Tryz.func78, Tryz.ntmps78
 go_wp2_with fail
 refine Calls.mono C1.out ?_
 rintro e w1 ⟨rfl,rfl⟩
 clear C1
 go_wp2_with fail
 refine Calls.mono A1.out ?_
 rintro e w2 ⟨rfl,E2⟩
 have FF:Hid _:=E2
 clear A1 E2
 go_wp2
 go_ret
 exact⟨rfl,FF.out⟩
set_option maxHeartbeats 1000000 in
theorem etakeE_any (b q ep most:Nat) (va vh:Value) (ah he:List Bs) (hep:ep+1≤2147483647) (w:World) (h:Hid (Es w b q ep most va vh ah he)) :
  Calls Tryz.prog 78 #[.pointer (some ⟨b,1,none⟩),.string (st (69::ben (ep+1) 4))] w fun e w'=>e = .returned (.bool true)∧Es w' b q (ep+1) most vh (.slice none 0 0) he []∧Bf (EFt b va vh) w w'∧Nx w (EFt b va vh) (EFt b vh (.slice none 0 0)):=by
 have hl:(ben (ep+1) 4).length=4:=ben_len _ _
 have C1:Hid _:=scut_any 69 84 (ben (ep+1) 4) (by omega) w
 rw[if_neg (by decide),decide_eq_false (by decide)] at C1
 have C2:Hid _:=scut_any 69 69 (ben (ep+1) 4) (by omega) w
 rw[if_pos rfl,decide_eq_true rfl] at C2
 have N1:Hid (Calls Tryz.prog 109 #[.string (st (ben (ep+1) 4))] w fun e w'=>e = .returned (.int .i64 (nm (ben (ep+1) 4):Int))∧w'=w):=snumber_any (ben (ep+1) 4) hl w
 rw[nm_ben4 (by omega)] at N1
 have A1:Hid _:=eturn_any b q ep most va vh ah he (by omega) w h
 have hs:(st (ben (ep+1) 4)).size=4:=by rw[st_size,hl]
 obtain⟨T,hT⟩:∃T,st (ben (ep+1) 4)=T:=⟨_,rfl⟩
 obtain⟨S,hS⟩:∃S,st (69::ben (ep+1) 4)=S:=⟨_,rfl⟩
 obtain⟨z,hz⟩:∃z:Int,((ep+1:Nat):Int)=z:=⟨_,rfl⟩
 rw[hT] at C2 N1 hs
 rw[hz] at N1 A1
 rw[hS] at C1 C2 ⊢
 clear hT hS h hz hl hep
 go_enter Tryz.func78, Tryz.ntmps78
 go_wp2_with fail
 refine Calls.mono C1.out ?_
 rintro e w1 ⟨rfl,rfl⟩
 clear C1
 go_wp2_with fail
 refine Calls.mono C2.out ?_
 rintro e w1 ⟨rfl,rfl⟩
 clear C2
 go_wp2_with fail
 refine Calls.mono N1.out ?_
 rintro e w1 ⟨rfl,rfl⟩
 clear N1
 go_wp2_with fail
 refine Calls.mono A1.out ?_
 rintro e w2 ⟨rfl,E2⟩
 have FF:Hid _:=E2
 clear A1 E2
 go_wp2
 go_ret
 exact⟨rfl,FF.out⟩
end Go.Proofs.YtdcimnmebgkmjaaGreatDoor
