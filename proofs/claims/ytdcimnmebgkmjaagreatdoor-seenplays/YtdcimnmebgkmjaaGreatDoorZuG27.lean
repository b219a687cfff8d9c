/- Parts: SnD,SrD,SrE. -/
import Derived.Test.YtdcimnmebgkmjaaGreatDoorZuG26
namespace Go.Proofs.YtdcimnmebgkmjaaGreatDoor
open Go.RowKit Go.Proofs.Fd Go.Proofs.Dk Go.Proofs.Lg
set_option maxRecDepth 20000
set_option maxHeartbeats 1000000 in
theorem sgrow_nil (n:Nat) (h0:0 < n) (hb:n*16≤140737488355328) (w:World) :
  Calls Tryz.prog 113 #[.slice none 0 0,.int .i64 (n:Int)] w fun e w'=>∃v,e = .returned v∧w'.ownsRow w.heap.size 9 1 v 0 []∧Below w.heap.size w w':=by
 obtain⟨i0,hi,hz0,hz1,hz2⟩:=info_parts infoS
 have hr:∀ty,(Builtin.append_ #[37, 3] ty #[.slice none 0 0,.int .i64 (n:Int)]).run Tryz.prog w = .ok (.slice (some ⟨w.heap.size,0,none⟩) n (grownCap w n 0 9)) (w.drew.alloc (.cells (([]:List Value).toArray++Builtin.zeroCells (Value.string ⟨#[]⟩).cells n++Builtin.zeroCells (Value.string ⟨#[]⟩).cells (grownCap w n 0 9 - n)) 9)):=fun ty=>by
  have h:=Go.Lib.run_append_grow_zeros w 37 3 ty 9 i0 (.string ⟨#[]⟩) .i64 .i64 Tryz.underlying37 Tryz.underlying3 hi hz0 none 0 0 [] (run_firstCells_none w.drew _ 0 0 0) n h0 (by rw[hz1];decide) (by omega) (by omega) (by rw[hz2];omega) (by rw[hz2,Nat.zero_add];exact growslice_fits h0 hb)
  rw[Nat.zero_add] at h
  exact h
 have OW:Hid ((w.drew.alloc (.cells (([]:List Value).toArray++Builtin.zeroCells (Value.string ⟨#[]⟩).cells n++Builtin.zeroCells (Value.string ⟨#[]⟩).cells (grownCap w n 0 9 - n)) 9)).ownsRow w.heap.size 9 1 (.slice (some ⟨w.heap.size,0,none⟩) 0 (grownCap w n 0 9)) 0 []∧Below w.heap.size w (w.drew.alloc (.cells (([]:List Value).toArray++Builtin.zeroCells (Value.string ⟨#[]⟩).cells n++Builtin.zeroCells (Value.string ⟨#[]⟩).cells (grownCap w n 0 9 - n)) 9))):=by
  refine⟨World.ownsRow_made w.drew _ _ (Nat.le_refl _) (grownCap_le_maxLen w n 0 _ (by unfold maxLen;omega)) ?_,(Below.refl _ _).drew.alloc (Nat.le_refl _) _⟩
  have:=grownCap_ge w n 0 9
  rw[Array.size_append,Array.size_append,size_zeroCells,size_zeroCells]
  show 0+n*1+(grownCap w n 0 9 - n)*1=grownCap w n 0 9 * 1
  omega
 have hG:n≤grownCap w n 0 9 := grownCap_ge w _ _ _
 have hG63:grownCap w n 0 9 ≤ 9223372036854775807:=by
  have:=grownCap_le_maxLen w n 0 9 (by unfold maxLen;omega)
  unfold maxLen at this
  omega
 generalize grownCap w n 0 9 = G at *
 generalize w.drew.alloc (.cells (([]:List Value).toArray++Builtin.zeroCells (Value.string ⟨#[]⟩).cells n++Builtin.zeroCells (Value.string ⟨#[]⟩).cells (G - n)) 9)=W at *
 have g1:¬((n:Int) < 0):=by omega
 have g2:(0:Int) < (n:Int):=by omega
 go_enter Tryz.func113, Tryz.ntmps113
 go_wp2_with (at_builtin;refine Go.Lib.wpList_append_run _ rfl _ _ _ _ rfl _ _ rfl rfl _ _ (hr _) ?_)
 all_goals
  go_ret
  exact⟨_,rfl,OW.out⟩
theorem sgrow_any (n:Nat) (hb:n≤1000000) (w:World) :
  Calls Tryz.prog 113 #[.slice none 0 0,.int .i64 (n:Int)] w fun e w'=>∃v,e = .returned v∧w'.ownsRow w.heap.size 9 1 v 0 []∧Below w.heap.size w w':=by
 by_cases h0:0 < n
 ·exact sgrow_nil n h0 (by omega) w
 ·obtain rfl:n=0:=by omega
  clear h0 hb
  go_enter Tryz.func113, Tryz.ntmps113
  go_wp2
  go_ret
  exact⟨_,rfl,World.ownsRow_nil _ _ _ _,Below.refl _ _⟩
theorem owns_low {w:World} {base base':Nat} {e:TypeId} {size n:Nat} {v:Value} {xs:List Value} (h:w.ownsRow base e size v n xs) (hb:base'≤base):w.ownsRow base' e size v n xs:=by
 refine⟨h.1,?_⟩
 rcases h.2 with h2|⟨g,cap,cur,rfl,hg,hh⟩
 ·exact .inl h2
 ·exact .inr ⟨g,cap,cur,rfl,Nat.le_trans hb hg,hh⟩
theorem app_tx (base:Nat) (w:World) (ty:TypeId) (v:Value) (xs:List Bs) (h:w.ownsRow base 9 1 v xs.length (scs xs)) (hbase:base≤w.heap.size) (a:Option Addr) (n c:Nat) (l:List Bs) (hn:l.length=n) (hx:xs.length≤1000000) (hl:n≤1000000) (tx:TxAt w a l) :
  ∃v' w',(Builtin.append_ #[37, 37] ty #[v,.slice a n c]).run Tryz.prog w = .ok v' w'∧w'.ownsRow base 9 1 v' (xs++l).length (scs (xs++l))∧w.grownBy w' v.ownBlock:=by
 obtain⟨i0,hi,hz0,hz1,hz2⟩:=info_parts infoS
 cases a with
 | none =>
  have h0:l=[]:=by
   cases l with
   | nil=>rfl
   | cons k r=>obtain⟨b,o,e,-⟩:=tx 0 (by simp);cases e
  subst h0
  have hn0:n=0:=hn.symm
  subst hn0
  refine⟨v,w,?_,by rw[List.append_nil];exact h,World.grownBy.refl _ _⟩
  rcases h.2 with ⟨rfl,hh⟩|⟨g,c2,cur,rfl,_,_,hnc,_⟩
  ·simp[Builtin.append_,run_underlying Tryz.underlying37, sizeOf,typeInfo,hi,Builtin.lenOf,Builtin.firstCells]
  ·simp[Builtin.append_,run_underlying Tryz.underlying37, sizeOf,typeInfo,hi,Builtin.lenOf,Builtin.firstCells,hnc,storeCells]
 | some ad =>
  obtain⟨v',w',r1,r2,r3,-,-⟩:=run_append_own_at (P:=Tryz.prog) w base 37 ty 9 i0 _ 1 16 Tryz.underlying37 hi hz0 hz1 hz2 rfl (by decide) v xs.length (scs xs) h ad n c (scs l) (by rw[scs_len,hn,Nat.mul_one]) (fun j u hj=>by
   have hj':j < l.length:=by
    have:=(List.getElem?_eq_some_iff.1 hj).1
    simpa[scs] using this
   obtain⟨b,o,e,hc⟩:=tx j hj'
   obtain rfl:=Option.some.inj e
   rw[Addr.add_mid,hc]
   simp[scs,hj'] at hj
   rw[hj]) (scs_one l) (by unfold maxLen;omega) (by omega) hbase
  refine⟨v',w',r1,?_,r3⟩
  rw[scs_app,List.length_append,hn]
  exact r2
set_option maxHeartbeats 2000000 in
theorem sconcat_any (B:Nat) (a1 a2:Option Addr) (n1 n2 c1 c2:Nat) (l1 l2:List Bs) (hn1:l1.length=n1) (hn2:l2.length=n2) (hb1:n1≤100000) (hb2:n2≤100000) (w:World)
  (k0:Hid (w.cell? ⟨B,0,none⟩=some (.slice a1 n1 c1))) (k1:Hid (w.cell? ⟨B,1,none⟩=some (.slice a2 n2 c2))) (t1:Hid (TxAt w a1 l1)) (t2:Hid (TxAt w a2 l2)) :
  Calls Tryz.prog 89 #[.slice (some ⟨B,0,none⟩) 2 2] w fun e w'=>∃a c,e = .returned (.slice a (n1+n2) c)∧TxAt w' a (l1++l2)∧Below w.heap.size w w':=by
 have H1:Hid (l1.length=n1):=hn1
 have H2:Hid (l2.length=n2):=hn2
 clear hn1 hn2
 go_enter Tryz.func89, Tryz.ntmps89
 go_wp2
 go_loopw [3,11] (fun sz i wr=>∃k:Nat,(k=0∧sz = .int .i64 0∨k=1∧sz = .int .i64 (n1:Int)∨k=2∧sz = .int .i64 ((n1+n2:Nat):Int))∧i = .int .i64 (k:Int)∧w=wr) (fun _ i _=>2 - (intOf i).toNat)
 case atStart=>exact⟨0,.inl ⟨rfl,rfl⟩,rfl,rfl⟩
 case round =>
  obtain⟨k,hk,rfl,rfl⟩:=hrel
  rcases hk with ⟨rfl,rfl⟩|⟨rfl,rfl⟩|⟨rfl,rfl⟩
  ·have cc:=k0.out
   have g1:¬((n1:Int) < 0):=by omega
   go_wp2
   go_roundw
   case rel=>exact⟨1,.inr (.inl ⟨rfl,by go_num⟩),by go_num,trivial⟩
   case measure=>simp[intOf]
  ·have cc:=k1.out
   have e1:IntKind.i64.wrap ((n1:Int)+(n2:Int))=((n1+n2:Nat):Int):=by rw[IntKind.wrap_i64];omega
   have g1:¬(((n1+n2:Nat):Int) < 0):=by omega
   go_wp2
   go_roundw
   case rel=>exact⟨2,.inr (.inr ⟨rfl,by go_num⟩),by go_num,trivial⟩
   case measure=>simp[intOf]
  ·go_wp2_with fail
   refine Calls.mono (sgrow_any (n1+n2) (by omega) _) ?_
   rintro e w1 ⟨v1,rfl,ow,hb1⟩
   have OW:Hid (w1.ownsRow w.heap.size 9 1 v1 ([]:List Bs).length (scs [])∧Below w.heap.size w w1):=⟨ow,hb1⟩
   clear ow hb1
   go_wp2
   go_loopw [6,27] (fun sl i wx=>∃(k:Nat) (xs:List Bs),k≤2∧i = .int .i64 (k:Int)∧(k=0∧xs=[]∨k=1∧xs=l1∨k=2∧xs=l1++l2)∧Hid (wx.ownsRow w.heap.size 9 1 sl xs.length (scs xs)∧Below w.heap.size w wx)) (fun _ i _=>2 - (intOf i).toNat)
   case atStart=>exact⟨0,[],by omega,rfl,.inl ⟨rfl,rfl⟩,OW.out⟩
   case round =>
    obtain⟨k,xs,hk2,rfl,hx,J⟩:=hrel
    clear OW
    rcases hx with ⟨rfl,rfl⟩|⟨rfl,rfl⟩|⟨rfl,rfl⟩
    ·have cc:=cell_later J.out.2 k0.out
     obtain⟨v2,w2,r1,r2,r3⟩:=app_tx w.heap.size wr 37 u6 [] J.out.1 J.out.2.size a1 n1 c1 l1 H1.out (by simp) (by omega) (t1.out.later J.out.2)
     have K:Hid (w2.ownsRow w.heap.size 9 1 v2 l1.length (scs l1)∧Below w.heap.size w w2):=⟨by rw[List.nil_append] at r2;exact r2,J.out.2.grown r3 J.out.2.size (fun q hq=>(J.out.1.lt q hq).1)⟩
     clear r2 r3 J
     go_wp2_with (first|(at_builtin;refine Go.Lib.wpList_append_run _ rfl _ _ _ _ rfl _ _ rfl rfl _ _ r1 ?_))
     go_roundw
     case rel=>exact⟨1,l1,by omega,by go_num,.inr (.inl ⟨rfl,rfl⟩),K.out⟩
     case measure=>simp[intOf]
    ·have cc:=cell_later J.out.2 k1.out
     obtain⟨v2,w2,r1,r2,r3⟩:=app_tx w.heap.size wr 37 u6 xs J.out.1 J.out.2.size a2 n2 c2 l2 H2.out (by have:=H1.out;omega) (by omega) (t2.out.later J.out.2)
     have K:Hid (w2.ownsRow w.heap.size 9 1 v2 (xs++l2).length (scs (xs++l2))∧Below w.heap.size w w2):=⟨r2,J.out.2.grown r3 J.out.2.size (fun q hq=>(J.out.1.lt q hq).1)⟩
     clear r2 r3 J
     go_wp2_with (first|(at_builtin;refine Go.Lib.wpList_append_run _ rfl _ _ _ _ rfl _ _ rfl rfl _ _ r1 ?_))
     go_roundw
     case rel=>exact⟨2,xs++l2,by omega,by go_num,.inr (.inr ⟨rfl,rfl⟩),K.out⟩
     case measure=>simp[intOf]
    ·have e12:(l1++l2).length=n1+n2:=by rw[List.length_append,H1.out,H2.out]
     have J1:=J.out.1
     rw[e12] at J1
     obtain⟨a,cp,rfl,tx,-⟩:=owns_tx e12 J1
     have FF:Hid (TxAt wr a (l1++l2)∧Below w.heap.size w wr):=⟨tx,J.out.2⟩
     clear tx J J1
     go_wp2
     go_ret
     exact⟨a,cp,rfl,FF.out⟩
set_option maxHeartbeats 2000000 in
theorem eall_any (b q ep most:Nat) (va vh:Value) (ah he:List Bs) (h1:ah.length≤100000) (h2:he.length≤100000) (ht:∀t∈ah++he,t.length≤2000) (w:World) (h:Hid (Es w b q ep most va vh ah he)) :
  Calls Tryz.prog 51 #[.pointer (some ⟨b,1,none⟩)] w fun e w'=>∃u,e = .returned u∧w'.ownsRow w.heap.size 9 1 u (ah++he).length (scs (ah++he))∧Below w.heap.size w w':=by
 obtain⟨i0,hi,hz0,hz1,hz2⟩:=info_parts infoS
 obtain⟨a1,c1,rfl,t1,-⟩:=owns_tx rfl h.out.ra
 obtain⟨a2,c2,rfl,t2,-⟩:=owns_tx rfl h.out.rh
 have k2:=h.out.bk.c 2 _ rfl
 have k3:=h.out.bk.c 3 _ rfl
 have CC:Hid (∀W:World,Below w.heap.size w W→∀B,W.cell? ⟨B,0,none⟩=some (.slice a1 ah.length c1)→W.cell? ⟨B,1,none⟩=some (.slice a2 he.length c2)→Calls Tryz.prog 89 #[.slice (some ⟨B,0,none⟩) 2 2] W fun e w'=>∃a c,e = .returned (.slice a (ah.length+he.length) c)∧TxAt w' a (ah++he)∧Below w.heap.size w w'):=fun W hW B x0 x1 =>
  (sconcat_any B a1 a2 ah.length he.length c1 c2 ah he rfl rfl h1 h2 W x0 x1 (t1.later hW) (t2.later hW)).mono fun _ _ ⟨a,c,y1,y2,y3⟩=>⟨a,c,y1,y2,chain hW y3⟩
 have HT:Hid (∀t∈ah++he,t.length≤2000):=ht
 have e12:(ah++he).length=ah.length+he.length:=List.length_append
 obtain⟨l,hl⟩:∃l,ah++he=l:=⟨_,rfl⟩
 obtain⟨n1,hn1⟩:∃n,ah.length=n:=⟨_,rfl⟩
 obtain⟨n2,hn2⟩:∃n,he.length=n:=⟨_,rfl⟩
 rw[hl] at CC HT e12 ⊢
 rw[hn1] at CC k2 h1 e12
 rw[hn2] at CC k3 h2 e12
 have HN:Hid (l.length=n1+n2):=e12
 rw[e12]
 clear ht t1 t2 h hl hn1 hn2 e12
 obtain⟨n,hn⟩:∃n,n1+n2=n:=⟨_,rfl⟩
 have hnb:n≤200000:=by omega
 rw[hn] at HN CC ⊢
 clear hn
 go_enter Tryz.func51, Tryz.ntmps51
 go_wp2_with fail
 go_region_held3 (fun w'=>w'.cell? ⟨b,2,none⟩=some (.slice a1 n1 c1)∧w'.cell? ⟨b,3,none⟩=some (.slice a2 n2 c2)) (first|exact⟨k2,k3⟩|assumption|exact⟨cell_later (nb _ _).drew k2,cell_later (nb _ _).drew k3⟩|exact⟨cell_later (by assumption) k2,cell_later (by assumption) k3⟩) (first|(go_at_call 89;refine Calls.mono (CC.out _ ((Below.refl _ _).drew.alloc (by simp) _) _ (by simp[go_sem]) (by simp[go_sem])) ?_;rintro e w1 ⟨a,c,rfl,tx1,bw1⟩))
 all_goals
  have TX:Hid (TxAt w1 a l):=tx1
  have BW:Hid (Below w.heap.size w w1):=bw1
  clear tx1 bw1 CC k2 k3
  go_wp2
  go_loopw [3,17] (fun sl i wr=>∃k:Nat,k≤n∧i = .int .i64 (k:Int)∧Hid (wr.ownsRow w1.heap.size 9 1 sl k (scs (l.take k))∧Below w1.heap.size w1 wr)) (fun _ i _=>n - (intOf i).toNat)
  case atStart=>exact⟨0,Nat.zero_le _,rfl,⟨rfl,.inl ⟨rfl,rfl⟩⟩,Below.refl _ _⟩
  case round =>
   obtain⟨k,hk,rfl,J⟩:=hrel
   by_cases hlt:k < n
   ·have hkl:k < l.length:=by rw[HN.out];exact hlt
    have g1:(k:Int) < (n:Int):=by omega
    obtain⟨b3,o,rfl,c0⟩:=(TX.out.later J.out.2) k hkl
    have ET:Hid (l.take (k+1)=l.take k++[l[k]]):=List.take_succ_eq_append_getElem hkl
    have hl:=HT.out _ (List.getElem_mem hkl)
    obtain⟨t,htt⟩:∃t,l[k]=t:=⟨_,rfl⟩
    rw[htt] at c0 ET hl
    have CL:Hid (∀w,Calls Tryz.prog 63 #[.string (st t)] w fun e w'=>e = .returned (.string (st t))∧Below w.heap.size w w'):=fun w=>sclone_any (st t) (by rw[st_size];omega) w
    have HSV:Hid (Value.string (st t)=sv t):=(rfl:Value.string (st t)=sv t)
    unfold sv at c0
    obtain⟨T,hT⟩:∃T,st t=T:=⟨_,rfl⟩
    rw[hT] at c0 CL HSV
    clear htt hT
    go_wp2_with fail
    refine Calls.mono (CL.out _) ?_
    rintro e w2 ⟨rfl,hb⟩
    have J1:Hid (w2.ownsRow w1.heap.size 9 1 u3 k (scs (l.take k))∧Below w1.heap.size w1 w2):=⟨owns_laterS J.out.1 hb,chain J.out.2 hb⟩
    clear hb J CL c0 TX BW
    go_wp2_with (first
     | (at_builtin;refine wpList_append_own _ rfl _ _ 37 rfl w1.heap.size 9 i0 (.string ⟨#[]⟩) 1 16 Tryz.underlying37 hi hz0 hz1 hz2 rfl (by decide) _ _ _ rfl (J1.out.1.alloc _) ⟨w2.heap.size,0,none⟩ 1 1 [.string T] rfl rfl (one_new _ _ _) (by intro u hu;simp at hu;subst hu;rfl) (by unfold maxLen;omega) (by omega) (by have:=J1.out.2.size;simp;omega) ?_;intro v1 w3 hown1 hgrow1 hnil1))
    go_roundw
    case rel =>
     refine⟨k+1,by omega,rfl,?_,?_⟩
     ·rw[ET.out,scs_app]
      rw[HSV.out] at hown1
      exact hown1
     ·exact (J1.out.2.alloc J1.out.2.size _).grown hgrow1 (by have:=J1.out.2.size;simp;omega) (fun q hq=>(J1.out.1.lt q hq).1)
    case measure=>simp[intOf];omega
   ·obtain rfl:k=n:=by omega
    have J2:Hid (wr.ownsRow w.heap.size 9 1 u3 k (scs l)∧Below w.heap.size w wr):=by
     have:=J.out
     rw[List.take_of_length_le (by rw[HN.out];exact Nat.le_refl _)] at this
     exact⟨owns_low this.1 BW.out.size,chain BW.out this.2⟩
    clear J TX BW
    go_wp2
    go_ret
    exact⟨u3,rfl,J2.out.1,J2.out.2⟩
set_option maxHeartbeats 1000000 in
theorem stags_any (b q ep most:Nat) (va vh:Value) (ah he:List Bs) (h1:ah.length≤100000) (h2:he.length≤100000) (ht:∀t∈ah++he,t.length≤2000) (w:World) (h:Hid (Es w b q ep most va vh ah he)) :
  Calls Tryz.prog 16 #[.pointer (some ⟨b,0,none⟩)] w fun e w'=>∃a c,e = .returned (.slice a (ah++he).length c)∧TxAt w' a (ah++he)∧Below w.heap.size w w':=by
 have AL:Hid _:=eall_any b q ep most va vh ah he h1 h2 ht w h
 have k0:=h.out.bk.c 0 _ rfl
 obtain⟨l,hl⟩:∃l,ah++he=l:=⟨_,rfl⟩
 obtain⟨n,hn⟩:∃n,l.length=n:=⟨_,rfl⟩
 rw[hl,hn] at AL
 rw[hl,hn]
 have HN:Hid (l.length=n):=hn
 clear hl hn h ht h1 h2
 go_enter Tryz.func16, Tryz.ntmps16
 go_wp2_with fail
 refine Calls.mono AL.out ?_
 rintro e w1 ⟨u,rfl,ow,hb⟩
 obtain⟨a,c,rfl,tx,-⟩:=owns_tx HN.out ow
 have FF:Hid (TxAt w1 a l∧Below w.heap.size w w1):=⟨tx,hb⟩
 clear ow tx hb AL
 go_wp2
 go_ret
 exact⟨a,c,rfl,FF.out⟩
end Go.Proofs.YtdcimnmebgkmjaaGreatDoor
namespace Go.Proofs.YtdcimnmebgkmjaaGreatDoor
open Go.RowKit Go.Proofs.Fd Go.Proofs.Dk Go.Proofs.Lg
set_option maxRecDepth 20000
set_option maxHeartbeats 1000000 in
theorem rstags_any (b q most ep:Nat) (v:Value) (l:List Hx) (hl:l.length≤100000) (w:World) (h:Hid (Rs w b q most ep v l)) :
  Calls Tryz.prog 17 #[.pointer (some ⟨b,0,none⟩)] w fun e w'=>∃a c,e = .returned (.slice a (l.map (·.1)).length c)∧TxAt w' a (l.map (·.1))∧Below w.heap.size w w':=by
 obtain⟨va,vc,rfl⟩:=ownsH_slice h.out.row
 obtain⟨N,hN⟩:∃N,l.length=N:=⟨_,rfl⟩
 have HN:Hid (l.length=N):=hN
 have K3:Hid (∀W,Below w.heap.size w W→W.cell? ⟨b,3,none⟩=some (.slice va N vc)):=fun W hb=>by
  have k3:=(h.out.later hb).bk.c 3 _ rfl
  rw[hN] at k3
  exact k3
 have CS:Hid (∀W,Below w.heap.size w W→∀i (hi:i < l.length),∃g,va=some ⟨g,0,none⟩∧W.cell? ⟨g,i*2,none⟩=some (sv l[i].1)):=fun W hb i hi=>by
  obtain⟨g,e1,-,e2,-⟩:=ownsH_cells (h.out.later hb).row i hi
  exact⟨g,e1,e2⟩
 rw[hN] at hl
 obtain⟨M,hM⟩:∃M:List Hx→List Bs,(fun l=>l.map (·.1))=M:=⟨_,rfl⟩
 have HM:Hid (∀l:List Hx,(l.map (·.1))=M l):=fun l=>by rw[←hM]
 have HM1:Hid (∀(l:List Hx) (t:Bs) (e:Int),M (l++[(t,e)])=M l++[t]):=fun l t e=>by rw[←hM];simp
 have HM2:Hid (∀l:List Hx,(M l).length=l.length):=fun l=>by rw[←hM];simp
 rw[HM.out]
 have HM0:Hid (M []=[]):=by show M []=[];rw[←hM];rfl
 clear h hN hM HM
 go_enter Tryz.func17, Tryz.ntmps17
 go_wp2
 go_loopw [3,4] (fun sl i wr=>∃k:Nat,k≤N∧i = .int .i64 (k:Int)∧Hid (wr.ownsRow w.heap.size 9 1 sl (M (l.take k)).length (scs (M (l.take k)))∧Below w.heap.size w wr)) (fun _ i _=>N - (intOf i).toNat)
 case atStart=>exact⟨0,Nat.zero_le _,rfl,by rw[List.take_zero,HM0.out];exact World.ownsRow_nil _ _ _ _,Below.refl _ _⟩
 case round =>
  obtain⟨k,hk,rfl,J⟩:=hrel
  have k3:=K3.out wr J.out.2
  by_cases hlt:k < N
  ·have hkl:k < l.length:=by rw[HN.out];exact hlt
   have g1:(k:Int) < (N:Int):=by omega
   obtain⟨g,rfl,c1⟩:=CS.out wr J.out.2 k hkl
   have ET:Hid (l.take (k+1)=l.take k++[l[k]]):=List.take_succ_eq_append_getElem hkl
   have hpl:(M (l.take k)).length≤1000000:=by
    rw[HM2.out,List.length_take]
    omega
   obtain⟨⟨t,e⟩,ht⟩:∃t,l[k]=t:=⟨_,rfl⟩
   rw[ht] at c1 ET
   have c1':wr.cell? ⟨g,k*2,none⟩=some (.string (st t)):=c1
   obtain⟨v2,w2,r1,r2,r3⟩:=app_tx1 w.heap.size wr u3 (M (l.take k)) J.out.1 J.out.2.size hpl t
   have B1:Below w.heap.size w (wr.alloc (.cells #[.string (st t)] 9)):=J.out.2.alloc J.out.2.size _
   have K:Hid (w2.ownsRow w.heap.size 9 1 v2 (M (l.take (k+1))).length (scs (M (l.take (k+1))))∧Below w.heap.size w w2):=by
    rw[ET.out,HM1.out]
    exact⟨r2,B1.grown r3 B1.size (fun q hq=>(J.out.1.lt q hq).1)⟩
   obtain⟨T,hT⟩:∃T,st t=T:=⟨_,rfl⟩
   rw[hT] at r1 c1'
   clear r2 r3 J B1 ET hT c1 ht
   go_wp2_with (first|(at_builtin;refine Go.Lib.wpList_append_run _ rfl _ _ _ _ rfl _ _ rfl rfl _ _ r1 ?_))
   go_roundw
   case rel=>exact⟨k+1,by omega,rfl,K.out⟩
   case measure=>simp[intOf];omega
  ·have g1:¬(k:Int) < (N:Int):=by omega
   have J1:=J.out
   rw[List.take_of_length_le (show l.length≤k by rw[HN.out];omega)] at J1
   obtain⟨ua,uc,rfl,tx,hnil⟩:=owns_tx rfl (owns_low2 J1.1 (Nat.zero_le _))
   have FF:Hid (TxAt wr ua (M l)∧Below w.heap.size w wr):=⟨tx,J1.2⟩
   clear J1 J CS K3 tx hnil
   go_wp2
   go_ret
   first|exact⟨ua,uc,rfl,FF.out⟩|exact⟨ua,⟨uc,rfl⟩,FF.out⟩
def hads (ep:Nat) (ah he:List Bs):List Hx:=ah.map (fun t=>(t,(ep:Int) - 1))++he.map (fun t=>(t,(ep:Int)))
theorem hads_fst (ep:Nat) (ah he:List Bs):(hads ep ah he).map (·.1)=ah++he:=by
 simp[hads,List.map_map,Function.comp_def]
theorem hads_len (ep:Nat) (ah he:List Bs):(hads ep ah he).length=ah.length+he.length:=by simp[hads]
theorem filt_all {α:Type} (l:List Bs) (f:Bs→α) (p:α→Bool) (h:∀t,p (f t)=true):(l.map f).filter p=l.map f:=List.filter_eq_self.2 fun x hx=>by
 obtain⟨t,-,rfl⟩:=List.mem_map.1 hx
 exact h t
theorem filt_none {α:Type} (l:List Bs) (f:Bs→α) (p:α→Bool) (h:∀t,p (f t)=false):(l.map f).filter p=[]:=List.filter_eq_nil_iff.2 fun x hx=>by
 obtain⟨t,-,rfl⟩:=List.mem_map.1 hx
 rw[h t]
 decide
theorem hads_ahead (ep:Nat) (ah he:List Bs):((hads ep ah he).filter fun x=>decide (x.2=(ep:Int) - 1)).map (fun x=>84::x.1)=ah.map (84::·):=by
 rw[hads,List.filter_append,filt_all _ _ _ (fun t=>by simp),filt_none _ _ _ (fun t=>by simp;omega),List.append_nil,List.map_map]
 rfl
theorem hads_here (ep:Nat) (ah he:List Bs):((hads ep ah he).filter fun x=>decide (x.2=(ep:Int))).map (fun x=>84::x.1)=he.map (84::·):=by
 rw[hads,List.filter_append,filt_none _ _ _ (fun t=>by simp;omega),filt_all _ _ _ (fun t=>by simp),List.nil_append,List.map_map]
 rfl
def tun (ep:Nat) (ah he:List Bs) (n:Nat):List Bs×List Bs:=if n=ep then (ah,he) else if n=ep+1 then (he,[]) else ([],[])
theorem hads_enter (ep:Nat) (ah he:List Bs) (n:Nat) (hn:ep≤n):((hads ep ah he).filter fun x=>decide ((n:Int) - 1≤x.2))=hads n (tun ep ah he n).1 (tun ep ah he n).2:=by
 unfold tun
 by_cases h1:n=ep
 ·subst h1
  rw[if_pos rfl,hads,List.filter_append,filt_all _ _ _ (fun t=>by simp),filt_all _ _ _ (fun t=>by simp;omega)]
 ·rw[if_neg h1]
  by_cases h2:n=ep+1
  ·subst h2
   rw[if_pos rfl,hads,List.filter_append,filt_none _ _ _ (fun t=>by simp;omega),filt_all _ _ _ (fun t=>by simp),List.nil_append,hads,List.map_nil,List.append_nil]
   congr 1
   funext t
   congr 1
   omega
  ·rw[if_neg h2,hads,List.filter_append,filt_none _ _ _ (fun t=>by simp;omega),filt_none _ _ _ (fun t=>by simp;omega)]
   rfl
def sht (ep:Nat) (ah he:List Bs):List Bs:=(if ah=[] then [] else (69::ben (ep - 1) 4)::ah.map (84::·))++(69::ben ep 4)::he.map (84::·)
end Go.Proofs.YtdcimnmebgkmjaaGreatDoor
namespace Go.Proofs.YtdcimnmebgkmjaaGreatDoor
open Go.RowKit Go.Proofs.Fd Go.Proofs.Dk Go.Proofs.Lg
set_option maxRecDepth 20000
theorem owns_txn {w:World} {base:Nat} {v:Value} {l:List Bs} {n:Nat} (hn:l.length=n) (h:w.ownsRow base 9 1 v n (scs l)):∃a cap,v = .slice a n cap∧TxAt w a l∧∀x,a=some x→base≤x.block:=by
 obtain⟨a,c,rfl,tx,-⟩:=owns_tx hn (owns_low2 h (Nat.zero_le _))
 refine⟨a,c,rfl,tx,fun x e => ?_⟩
 subst e
 rcases h.2 with ⟨c,-⟩|⟨g,cap,cur,e1,e2,-⟩
 ·injection c with c1;cases c1
 ·injection e1 with e1
  injection e1 with e1
  rw[e1]
  exact e2
def Ow (w W:World) (v:Value) (xs:List Bs):Prop:=W.ownsRow w.heap.size 9 1 v xs.length (scs xs)∧Below w.heap.size w W
theorem Ow.later {w W W':World} {v:Value} {xs:List Bs} (h:Ow w W v xs) (hb:Below W.heap.size W W'):Ow w W' v xs:=⟨owns_laterS h.1 hb,chain h.2 hb⟩
theorem Ow.one {w W:World} {v:Value} {xs:List Bs} (h:Ow w W v xs) (hx:xs.length≤1000000) (t:Bs) :
  ∃a n c w',(Builtin.append_ #[37, 37] 37 #[v,.slice (some ⟨W.heap.size,0,none⟩) 1 1]).run Tryz.prog (W.alloc (.cells #[.string (st t)] 9)) = .ok (.slice a n c) w'∧Hid (Ow w w' (.slice a n c) (xs++[t])):=by
 obtain⟨v',w',r1,r2,r3⟩:=app_tx1 w.heap.size W v xs h.1 h.2.size hx t
 have B1:Below w.heap.size w (W.alloc (.cells #[.string (st t)] 9)):=h.2.alloc h.2.size _
 have K:Ow w w' v' (xs++[t]):=⟨r2,B1.grown r3 B1.size (fun q hq=>(h.1.lt q hq).1)⟩
 obtain⟨a,c,rfl,-,-⟩:=owns_tx rfl (owns_low2 r2 (Nat.zero_le _))
 exact⟨a,_,c,w',r1,K⟩
theorem Ow.many {w W:World} {v:Value} {xs:List Bs} (h:Ow w W v xs) (hx:xs.length≤1000000) (a:Option Addr) (n c:Nat) (l:List Bs) (hn:l.length=n) (hl:n≤1000000) (tx:TxAt W a l) :
  ∃ya yn yc w',(Builtin.append_ #[37, 37] 37 #[v,.slice a n c]).run Tryz.prog W = .ok (.slice ya yn yc) w'∧Hid (Ow w w' (.slice ya yn yc) (xs++l)):=by
 obtain⟨v',w',r1,r2,r3⟩:=app_tx w.heap.size W 37 v xs h.1 h.2.size a n c l hn hx hl tx
 have K:Ow w w' v' (xs++l):=⟨r2,h.2.grown r3 h.2.size (fun q hq=>(h.1.lt q hq).1)⟩
 obtain⟨ya,yc,rfl,-,-⟩:=owns_tx rfl (owns_low2 r2 (Nat.zero_le _))
 exact⟨ya,_,yc,w',r1,K⟩
set_option maxHeartbeats 2000000 in
theorem rsshort_any (b q most ep:Nat) (v:Value) (ah he:List Bs) (h1:ah.length≤10000) (h2:he.length≤10000) (hep:ep≤4294967296) (h0:ep=0→ah=[]) (hb:∀t∈ah++he,t.length≤2000) (w:World) (h:Hid (Rs w b q most ep v (hads ep ah he))) :
  Calls Tryz.prog 112 #[.pointer (some ⟨b,0,none⟩)] w fun e w'=>∃a c,e = .returned (.slice a (sht ep ah he).length c)∧TxAt w' a (sht ep ah he)∧Below w.heap.size w w'∧(∀x,a=some x→w.heap.size≤x.block):=by
 have hb2:∀x∈hads ep ah he,x.1.length≤2000:=fun x hx=>hb x.1 (by rw[←hads_fst ep ah he];exact List.mem_map_of_mem hx)
 have hln:(hads ep ah he).length≤100000:=by rw[hads_len];omega
 have OA:Hid (∀W,Below w.heap.size w W→Calls Tryz.prog 129 #[.pointer (some ⟨b,0,none⟩),.int .i64 ((ep:Int) - 1)] W fun e w'=>∃a c,e = .returned (.slice a ah.length c)∧TxAt w' a (ah.map (84::·))∧Below W.heap.size W w'):=fun W hW=>by
  have:=rsof_any b q most ep v _ hln hb2 ((ep:Int) - 1) W (h.out.later hW)
  rw[hads_ahead] at this
  exact this.mono fun _ _ ⟨a,c,e1,e2,e3,_⟩=>⟨a,c,by rw[e1,List.length_map],e2,e3⟩
 have OH:Hid (∀W,Below w.heap.size w W→Calls Tryz.prog 129 #[.pointer (some ⟨b,0,none⟩),.int .i64 (ep:Int)] W fun e w'=>∃a c,e = .returned (.slice a he.length c)∧TxAt w' a (he.map (84::·))∧Below W.heap.size W w'):=fun W hW=>by
  have:=rsof_any b q most ep v _ hln hb2 (ep:Int) W (h.out.later hW)
  rw[hads_here] at this
  exact this.mono fun _ _ ⟨a,c,e1,e2,e3,_⟩=>⟨a,c,by rw[e1,List.length_map],e2,e3⟩
 have EH:Hid (∀W,Calls Tryz.prog 87 #[.int .i64 (ep:Int)] W fun e w'=>e = .returned (.string (st (69::ben ep 4)))∧Below W.heap.size W w'):=fun W=>repoch_any ep W
 have K2:Hid (∀W,Below w.heap.size w W→W.cell? ⟨b,2,none⟩=some (.int .i64 (ep:Int))):=fun W hW=>(h.out.later hW).bk.c 2 _ rfl
 have k2:=K2.out w (Below.refl _ _)
 have y1:IntKind.i64.wrap ((ep:Int) - 1)=(ep:Int) - 1:=by rw[IntKind.wrap_i64];omega
 have HLA:Hid ((ah.map (84::·)).length=ah.length):=List.length_map ..
 have HLH:Hid ((he.map (84::·)).length=he.length):=List.length_map ..
 have REST:Hid (∀(W:World) (v:Value) (xs:List Bs),Ow w W v xs→xs.length≤10001→sht ep ah he=xs++(69::ben ep 4)::he.map (84::·)→∀W1,Below W.heap.size W W1→∃a n c w',(Builtin.append_ #[37, 37] 37 #[v,.slice (some ⟨W1.heap.size,0,none⟩) 1 1]).run Tryz.prog (W1.alloc (.cells #[.string (st (69::ben ep 4))] 9)) = .ok (.slice a n c) w'∧Hid (Ow w w' (.slice a n c) (xs++[69::ben ep 4]))):=fun W v xs o hx _ W1 hW1=>(o.later hW1).one (by omega) _
 have LAST:Hid (∀(W:World) (v:Value) (xs:List Bs),Ow w W v (xs++[69::ben ep 4])→xs.length≤10001→sht ep ah he=xs++(69::ben ep 4)::he.map (84::·)→∀W1 a c,Below W.heap.size W W1→TxAt W1 a (he.map (84::·))→∃ya yc w',(Builtin.append_ #[37, 37] 37 #[v,.slice a he.length c]).run Tryz.prog W1 = .ok (.slice ya (sht ep ah he).length yc) w'∧Hid (TxAt w' ya (sht ep ah he)∧Below w.heap.size w w'∧(∀x,ya=some x→w.heap.size≤x.block))):=fun W v xs o hx es W1 a c hW1 tx=>by
  obtain⟨ya,yn,yc,w',r1,K⟩:=(o.later hW1).many (by rw[List.length_append,List.length_singleton];omega) a he.length c (he.map (84::·)) HLH.out (by omega) tx
  have e2:xs++[69::ben ep 4]++he.map (84::·)=sht ep ah he:=by rw[es,List.append_assoc];rfl
  have K1:=K.out.1
  rw[e2] at K1
  obtain⟨za,zc,ez,tz,nz⟩:=owns_txn rfl K1
  injection ez with z1 z2 z3
  subst z1
  subst z2
  subst z3
  exact⟨ya,yc,w',r1,tz,K.out.2,nz⟩
 by_cases hah:ah=[]
 ·have hs:sht ep ah he=[]++(69::ben ep 4)::he.map (84::·):=by rw[sht,if_pos hah]
  have hz:ah.length=0:=by rw[hah];rfl
  rw[hz] at OA
  have R0:Hid _:=fun W1 hW1=>REST.out w (.slice none 0 0) [] ⟨World.ownsRow_nil _ _ _ _,Below.refl _ _⟩ (by simp) hs W1 hW1
  have L0:Hid _:=fun W v o W1 a c hW1 tx=>LAST.out W v [] o (by simp) hs W1 a c hW1 tx
  obtain⟨E,hE⟩:∃E,st (69::ben ep 4)=E:=⟨_,rfl⟩
  rw[hE] at EH R0
  clear hE hs hz hah REST LAST h h0 hb hb2 hln
  go_enter Tryz.func112, Tryz.ntmps112
  go_wp2_with fail
  refine Calls.mono (OA.out _ (Below.refl _ _)) ?_
  rintro e w1 ⟨a1,c1,rfl,-,hb1⟩
  have J1:Hid (Below w.heap.size w w1):=hb1
  have k2':=K2.out w1 J1.out
  clear hb1 OA k2
  go_wp2_with fail
  refine Calls.mono (EH.out _) ?_
  rintro e w2 ⟨rfl,hb2⟩
  obtain⟨xa,xn,xc,w3,r1,O3⟩:=R0.out w2 (chain J1.out hb2)
  clear hb2 J1 EH R0 k2'
  have k3':=K2.out w3 O3.out.2
  have OH3:Hid _:=OH.out w3 O3.out.2
  clear OH
  go_wp2_with (first|(at_builtin;refine Go.Lib.wpList_append_run _ rfl _ _ _ _ rfl _ _ rfl rfl _ _ r1 ?_))
  refine Calls.mono OH3.out ?_
  rintro e w4 ⟨a4,c4,rfl,tx4,hb4⟩
  obtain⟨ya,yc,w5,r2,F5⟩:=L0.out w3 _ O3.out w4 a4 c4 hb4 tx4
  clear tx4 hb4 OH3 L0 O3 k3' r1
  go_wp2_with (first|(at_builtin;refine Go.Lib.wpList_append_run _ rfl _ _ _ _ rfl _ _ rfl rfl _ _ r2 ?_))
  go_ret
  first|exact⟨ya,yc,rfl,F5.out⟩|exact⟨ya,⟨yc,rfl⟩,F5.out⟩
 ·have hep1:1≤ep:=by
   rcases Nat.eq_zero_or_pos ep with e|e
   ·exact absurd (h0 e) hah
   ·exact e
  have hs:sht ep ah he=([69::ben (ep - 1) 4]++ah.map (84::·))++(69::ben ep 4)::he.map (84::·):=by rw[sht,if_neg hah];rfl
  have hz:0 < ah.length:=List.length_pos_iff.2 hah
  have g1:(0:Int) < (ah.length:Int):=by omega
  have EA:Hid (∀W,Calls Tryz.prog 87 #[.int .i64 ((ep:Int) - 1)] W fun e w'=>e = .returned (.string (st (69::ben (ep - 1) 4)))∧Below W.heap.size W w'):=fun W=>by
   have:=repoch_any (ep - 1) W
   rw[show ((ep - 1:Nat):Int)=(ep:Int) - 1 by omega] at this
   exact this
  have R0:Hid (∀W1,Below w.heap.size w W1→_):=fun W1 (hW1:Below w.heap.size w W1)=>Ow.one (w:=w) (W:=W1) (v := .slice none 0 0) (xs:=[]) ⟨World.ownsRow_nil _ _ _ _,hW1⟩ (by simp) (69::ben (ep - 1) 4)
  have hxl:([69::ben (ep - 1) 4]++ah.map (84::·)).length≤10001:=by rw[List.length_append,HLA.out,List.length_singleton];omega
  have R1:Hid (∀W v,Ow w W v ([69::ben (ep - 1) 4]++ah.map (84::·))→∀W1,Below W.heap.size W W1→_):=fun W v o W1 hW1=>REST.out W v _ o hxl hs W1 hW1
  have L0:Hid _:=fun W v o W1 a c hW1 tx=>LAST.out W v ([69::ben (ep - 1) 4]++ah.map (84::·)) o hxl hs W1 a c hW1 tx
  obtain⟨E,hE⟩:∃E,st (69::ben ep 4)=E:=⟨_,rfl⟩
  obtain⟨E1,hE1⟩:∃E,st (69::ben (ep - 1) 4)=E:=⟨_,rfl⟩
  rw[hE] at EH R1
  rw[hE1] at EA R0
  clear hE hE1 hs hz hah REST LAST h h0 hb hb2 hln
  go_enter Tryz.func112, Tryz.ntmps112
  go_wp2_with fail
  refine Calls.mono (OA.out _ (Below.refl _ _)) ?_
  rintro e w1 ⟨a1,c1,rfl,-,hb1⟩
  have J1:Hid (Below w.heap.size w w1):=hb1
  have q1:=K2.out w1 J1.out
  clear hb1 k2
  go_wp2_with fail
  refine Calls.mono (EA.out _) ?_
  rintro e w2 ⟨rfl,hb2⟩
  obtain⟨xa,xn,xc,w3,r1,O3⟩:=R0.out w2 (chain J1.out hb2)
  clear hb2 J1 EA R0 q1
  have q3:=K2.out w3 O3.out.2
  have OA3:Hid _:=OA.out w3 O3.out.2
  clear OA
  go_wp2_with (first|(at_builtin;refine Go.Lib.wpList_append_run _ rfl _ _ _ _ rfl _ _ rfl rfl _ _ r1 ?_))
  refine Calls.mono OA3.out ?_
  rintro e w4 ⟨a4,c4,rfl,tx4,hb4⟩
  obtain⟨ya,yn,yc,w5,r2,O5⟩:=(O3.out.later hb4).many (by simp) a4 ah.length c4 (ah.map (84::·)) HLA.out (by omega) tx4
  clear tx4 hb4 OA3 O3 q3 r1
  have q5:=K2.out w5 O5.out.2
  go_wp2_with (first|(at_builtin;refine Go.Lib.wpList_append_run _ rfl _ _ _ _ rfl _ _ rfl rfl _ _ r2 ?_))
  refine Calls.mono (EH.out _) ?_
  rintro e w6 ⟨rfl,hb6⟩
  obtain⟨za,zn,zc,w7,r3,O7⟩:=R1.out w5 _ O5.out w6 hb6
  clear hb6 EH R1 q5 O5 r2
  have q7:=K2.out w7 O7.out.2
  have OH7:Hid _:=OH.out w7 O7.out.2
  clear OH
  go_wp2_with (first|(at_builtin;refine Go.Lib.wpList_append_run _ rfl _ _ _ _ rfl _ _ rfl rfl _ _ r3 ?_))
  refine Calls.mono OH7.out ?_
  rintro e w8 ⟨a8,c8,rfl,tx8,hb8⟩
  obtain⟨ua,uc,w9,r4,F9⟩:=L0.out w7 _ O7.out w8 a8 c8 hb8 tx8
  clear tx8 hb8 OH7 L0 O7 q7 r3
  go_wp2_with (first|(at_builtin;refine Go.Lib.wpList_append_run _ rfl _ _ _ _ rfl _ _ rfl rfl _ _ r4 ?_))
  go_ret
  first|exact⟨ua,uc,rfl,F9.out⟩|exact⟨ua,⟨uc,rfl⟩,F9.out⟩
end Go.Proofs.YtdcimnmebgkmjaaGreatDoor
