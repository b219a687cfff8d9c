/- Parts: YrH,SrH,SrI,YrI,YsA,SzA,SzC,SzD,SzE,SyB,SyC,SyD. -/
import Derived.Test.YtjpaodepnacimaaGreatDoorZdG30
import Derived.Test.YtjpaodepnacimaaGreatDoorZdG29
import Derived.Test.YtjpaodepnacimaaGreatDoorZdG22
import Derived.Test.YtjpaodepnacimaaGreatDoorZdG21
namespace Go.Proofs.YtjpaodepnacimaaGreatDoor
open Go.RowKit Go.Proofs.Fd Go.Proofs.Dk Go.Proofs.Lg Go.Proofs.Bx
set_option maxRecDepth 20000
theorem app_strE (base:Nat) (W:World) (v:Value) (L:List Bs) (h:W.ownsRow base 9 1 v L.length (scs L)) (hb:base≤W.heap.size) (hl:L.length≤1000000) (t:Bs) (y:Value) (E:List En) (ho:OwnsE W y E) :
  ∃v' W2,(Builtin.append_ #[37, 37] 37 #[v,.slice (some ⟨W.heap.size,0,none⟩) 1 1]).run Tryz.prog (W.alloc (.cells #[.string (st t)] 9)) = .ok v' W2∧W2.ownsRow base 9 1 v' (L++[t]).length (scs (L++[t]))∧Below base W W2∧OwnsE W2 y E:=by
 obtain⟨i0,hi,hz0,hz1,hz2⟩:=info_parts infoS
 have hown:(W.alloc (.cells #[.string (st t)] 9)).ownsRow base 9 1 v L.length (scs L):=h.alloc _
 have hown2:OwnsE (W.alloc (.cells #[.string (st t)] 9)) y E:=ho.alloc _
 obtain⟨v',w',r1,r2,r3,-,-⟩:=run_append_own_at (P:=Tryz.prog) (W.alloc (.cells #[.string (st t)] 9)) base 37 37 9 i0 _ 1 16 Tryz.underlying37 hi hz0 hz1 hz2 rfl (by decide) v L.length (scs L) hown ⟨W.heap.size,0,none⟩ 1 1 (scs [t]) rfl (fun j u hj=>by
  have hj':j < 1:=by
   have:=(List.getElem?_eq_some_iff.1 hj).1
   simpa[scs] using this
  obtain rfl:j=0:=by omega
  rw[Addr.add_mid,World.cell?_alloc_new]
  exact hj) (scs_one _) (by unfold maxLen;omega) (by omega) (by simp;omega)
 refine⟨v',w',r1,?_,?_,own_apartY hown2 hown (by decide) r3⟩
 ·rw[scs_app,List.length_append]
  exact r2
 ·exact ((Below.refl base W).alloc hb _).grown r3 (by simp;omega) (fun q hq=>(hown.lt q hq).1)
structure AkI (w:World) (N u:Nat) (E:List En) (m:List Bs) (k:Nat) (lv nv:Value) (wr:World) (A:List Bs) (Ek:List En):Prop where
 a:aks (ofE E u) m=A++aks (ofE Ek u) (m.drop k)
 r:rmsE E u m=rmsE Ek u (m.drop k)
 al:A.length≤k
 l:wr.ownsRow w.heap.size 9 1 lv A.length (scs (A.map (ackR u)))
 n:OwnsE wr nv Ek
 el:Ek.length≤N
 b:Below w.heap.size w wr
theorem rmE_le (E:List En) (u:Nat) (i:Bs):(rmE E u i).length≤E.length:=by
 unfold rmE
 rw[List.length_append,List.length_take,List.length_drop]
 omega
set_option maxHeartbeats 8000000 in
theorem ybAck_any (w:World) (d:Nat) (G:Nat→Prop) (s:St) (q:Nat) (v:Value) (x:Lo) (b quota:Nat) (u:Value) (E:List En) (z:Int) (a:Option Addr) (n c:Nat) (m:List Bs) (hn:m.length=n) (hnb:n≤10000000000000) (hE:E.length≤30000) (gE:Gx (ofE E)) (uE:Bx.Us E) (hdn:s.down=false) (hl:s.l.length+60000≤1000000) (k:Hid (Yz w d G s q v x b quota u E)) (tx:Hid (TxAt w a m)) :
  Calls Tryz.prog 30 #[.pointer (some ⟨b,0,none⟩),.int .i64 z,.slice a n c] w fun e w'=>e = .returned (.tuple #[.int .i64 ((akEn s x E z m).1:Int),.int .i64 (akEn s x E z m).2.1.1.1])∧YzP w (FZ G q v b u) d q b quota (akEn s x E z m).2.1.1.2 (akEn s x E z m).2.1.2 (akEn s x E z m).2.2 w':=by
 have US:Hid _:=ybuser_any z w
 have HN:Hid (m.length=n):=hn
 have ID:Hid (∀W (i:Bs),Calls Tryz.prog 57 #[.string (st i)] W fun e w'=>e = .returned (.bool (okI i))∧Below W.heap.size W w'):=fun W i=>by
  have:=ybid_any (st i) W
  rw[st_data] at this
  exact this
 have STAY:Hid (∀W,Below w.heap.size w W→YzP w (FZ G q v b u) d q b quota s x E W):=fun W hb=>k.out.start.later hb
 obtain⟨R,hR⟩:∃R,akEn s x E z m=R:=⟨_,rfl⟩
 rw[hR]
 unfold akEn at hR
 cases hU:noU z with
 | true =>
  rw[if_pos hU] at hR
  rw[hU] at US
  have FF:Hid _:=STAY.out w (Below.refl _ _)
  have ER:Hid _:=hR
  clear hR k hU STAY ID tx
  go_enter Tryz.func30, Tryz.ntmps30
  go_wp2_with fail
  refine Calls.mono US.out ?_
  rintro e w2 ⟨rfl,rfl⟩
  clear US
  go_wp2
  go_ret2
  exact⟨by rw[←ER.out];rfl,by rw[←ER.out];exact FF.out⟩
 | false =>
  rw[if_neg (by rw[hU];simp)] at hR
  rw[hU] at US
  obtain⟨nu,rfl,hnu⟩:=noU_nat hU
  rw[Int.toNat_natCast] at hR
  have HR1:Hid ((if (m.any fun i=>!okI i)=true then (0,(((3,s),x),E)) else if 256 < m.length then (0,(((2,s),x),E)) else if aks (ofE E nu) m=[] then (0,(((0,s),x),E)) else (if (wrEn s x E (rmsE E nu m) ((aks (ofE E nu) m).map (ackR nu))).1.1.1=0 then (aks (ofE E nu) m).length else 0,wrEn s x E (rmsE E nu m) ((aks (ofE E nu) m).map (ackR nu))))=R):=hR
  obtain⟨ua,uc,rfl,-,-,-,-⟩:=owns_en rfl k.out.rs.row
  obtain⟨N,hN⟩:∃N,E.length=N:=⟨_,rfl⟩
  have HE:Hid (E.length=N):=hN
  have C2:Hid (∀W,Below w.heap.size w W→W.cell? ⟨b,2,none⟩=some (.slice ua N uc)∧OwnsE W (.slice ua N uc) E):=fun W hb=>by
   have z:=(k.out.later hb).rs
   have bk:=z.bk.c 2 _ rfl
   have rw_:=z.row
   rw[hN] at bk rw_
   exact⟨bk,rw_⟩
  have hN3:N≤30000:=by omega
  have TXL:Hid (∀W,Below w.heap.size w W→TxAt W a m):=fun W hb=>tx.out.later hb
  have AT:Hid (∀(na:Option Addr) (M mc:Nat) (Ek:List En) (i:Bs) W,Ek.length=M→M≤50000→EnAt W na Ek→Calls Tryz.prog 58 #[.slice na M mc,.int .i64 (nu:Int),.string (st i)] W fun e w'=>e = .returned (.int .i64 (fndE Ek nu i))∧w'=W):=fun na M mc Ek i W h1 h2 h3=>by
   have:=ybat_any na M mc Ek nu (st i) h1 (by omega) W h3
   rw[st_data] at this
   exact this
  have AK:Hid (∀(i:Bs) W,i.length=16→Calls Tryz.prog 61 #[.int .i64 (nu:Int),.string (st i)] W fun e w'=>e = .returned (.string (st (ackR nu i)))∧Below W.heap.size W w'):=fun i W h=>yback_any nu hnu i h W
  have TK:Hid (∀(na:Option Addr) (M mc:Nat) (Ek:List En) (i:Bs) W,Ek.length=M→M≤50000→M≤mc→(na=none→M=0∧mc=0)→(∀y,na=some y→y.spot=none)→i.length=16→i∈ids (ofE Ek nu)→EnAt W na Ek→Calls Tryz.prog 47 #[.slice na M mc,.string (st (ackR nu i))] W fun e w'=>∃y,e = .returned (.tuple #[y,.bool true])∧Hid (OwnsE w' y (rmE Ek nu i)∧Below W.heap.size W w')):=fun na M mc Ek i W h1 h2 h3 h4 h5 h6 h7 h8=>by
   refine (ybtake_any (ackR nu i) (by rw[ackR_len h6];decide) na M mc Ek h1 (by omega) h3 h4 h5 W h8).mono ?_
   intro e w' ht
   rw[tkL_ack hnu h6 h7] at ht
   obtain⟨y,ey,oy,by_⟩:=ht
   exact⟨y,ey,owns_lowE oy (Nat.zero_le _),by_⟩
  have WRITE:Hid (∀W na nc A,Below w.heap.size w W→W.ownsRow w.heap.size 9 1 (.slice na A.length nc) A.length (scs (A.map (ackR nu)))→aks (ofE E nu) m=A→(∀i∈m,okI i=true)→m.length≤256→Calls Tryz.prog 59 #[.pointer (some ⟨b,0,none⟩),.slice na A.length nc] W fun e w'=>e = .returned (.int .i64 (wrEn s x E (rmsE E nu m) (A.map (ackR nu))).1.1.1)∧Hid (YzP w (FZ G q v b (.slice ua N uc)) d q b quota (wrEn s x E (rmsE E nu m) (A.map (ackR nu))).1.1.2 (wrEn s x E (rmsE E nu m) (A.map (ackR nu))).1.2 (wrEn s x E (rmsE E nu m) (A.map (ackR nu))).2 w')):=fun W na nc A hb ho hA hok hm=>by
   obtain⟨na',nc',en,tx',nw⟩:=owns_txn (l:=A.map (ackR nu)) (by rw[List.length_map]) ho
   injection en with en1 en2 en3
   subst en1
   have h16:∀i∈m,i.length=16:=fun i hi=>okI_len (hok i hi)
   have hAm:∀i∈A,i∈m:=fun i hi=>aks_mem m (ofE E nu) i (by rw[hA];exact hi)
   have htk:=aks_tkL m E nu hnu h16
   rw[hA] at htk
   have gF:Gx (ofE (rmsE E nu m)):=by
    rw[ofE_rms]
    exact gE.rms m nu
   have hAl:A.length≤256:=by
    have:=(aks_len m (ofE E nu)).1
    rw[hA] at this
    omega
   have kW:=k.out.later hb
   rw[hN] at kW
   refine (ybwrite_any W d G s q v x b quota (.slice ua N uc) E (rmsE E nu m) na A.length nc (A.map (ackR nu)) (by rw[List.length_map]) (by omega) (fun r hr => ?_) htk (by omega) gF (uE.rms m nu) hdn hl kW tx' (fun y ey h0 => ?_)).mono fun _ w' ⟨e1,e2⟩=>⟨e1,e2.trans (Nx.refl _ _) (Bf.of hb)⟩
   ·obtain⟨i,hi,rfl⟩:=List.mem_map.1 hr
    rw[ackR_len (h16 i (hAm i hi))]
    decide
   ·have h1:=nw y ey
    refine⟨?_,fun cc => ?_⟩
    ·obtain⟨b',o',e',cell⟩:=tx' 0 h0
     rw[ey] at e'
     injection e' with e'
     subst e'
     exact World.block_lt_of_cell? _ _ cell
    ·have h2:y.block < w.heap.size:=by
      have:=k.out.lt (z:=y.block)
      rw[hN] at this
      exact this cc
     omega
  rw[hN] at STAY ⊢
  have B0:Hid (Below w.heap.size w w):=Below.refl _ _
  clear hR k hU hN hE gE uE tx hn
  go_enter Tryz.func30, Tryz.ntmps30
  go_wp2_with fail
  refine Calls.mono US.out ?_
  rintro e w2 ⟨rfl,hw2⟩
  have hw2':=hw2.symm
  subst hw2'
  clear US hw2
  go_wp2
  go_loopw [8] (fun i wr=>∃j:Nat,j≤n∧i = .int .i64 (j:Int)∧Hid ((∀t∈m.take j,okI t=true)∧Below w.heap.size w wr)) (fun i _=>n - (intOf i).toNat)
  case atStart=>exact⟨0,Nat.zero_le _,rfl,(fun t ht=>by rw[List.take_zero] at ht;cases ht),B0.out⟩
  case round =>
   obtain⟨j,hj,rfl,J⟩:=hrel
   clear B0
   by_cases hlt:j < n
   ·have hjl:j < m.length:=by rw[HN.out];exact hlt
    have g1:(j:Int) < (n:Int):=by omega
    obtain⟨ta,to_,rfl,c1⟩:=TXL.out wr J.out.2 j hjl
    have I1:Hid _:=ID.out wr m[j]
    have ET:Hid (m.take (j+1)=m.take j++[m[j]]):=List.take_succ_eq_append_getElem hjl
    have MEM:Hid (m[j]∈m):=List.getElem_mem hjl
    obtain⟨t,ht⟩:∃t,m[j]=t:=⟨_,rfl⟩
    unfold sv at c1
    rw[ht] at c1 I1 ET MEM
    cases hok:okI t with
    | false =>
     rw[hok] at I1
     have ER:Hid ((0,(((3,s),x),E))=R):=by
      have:=HR1.out
      rw[if_pos (List.any_eq_true.2 ⟨t,MEM.out,by rw[hok];rfl⟩)] at this
      exact this
     obtain⟨T,hT⟩:∃T,st t=T:=⟨_,rfl⟩
     rw[hT] at c1 I1
     clear hok ht hT ET MEM
     go_wp2_with fail
     refine Calls.mono I1.out ?_
     rintro e w3 ⟨rfl,hb3⟩
     have FF:Hid _:=STAY.out _ (chain J.out.2 hb3)
     clear I1 J hb3 c1
     go_wp2
     go_ret2
     exact⟨by rw[←ER.out];rfl,by rw[←ER.out];exact FF.out⟩
    | true =>
     rw[hok] at I1
     have NX:Hid (∀y∈m.take (j+1),okI y=true):=fun y hy=>by
      rw[ET.out] at hy
      rcases List.mem_append.1 hy with hy|hy
      ·exact J.out.1 y hy
      ·rw[List.mem_singleton.1 hy];exact hok
     obtain⟨T,hT⟩:∃T,st t=T:=⟨_,rfl⟩
     rw[hT] at c1 I1
     clear hok ht hT ET MEM
     go_wp2_with fail
     refine Calls.mono I1.out ?_
     rintro e w3 ⟨rfl,hb3⟩
     have F3:Hid _:=chain J.out.2 hb3
     clear I1 J hb3 c1
     go_wp2
     go_roundw
     case rel=>exact⟨j+1,by omega,by go_num,NX.out,F3.out⟩
     case measure=>simp[intOf];omega
   ·obtain rfl:j=n:=by omega
    have g1:¬(j:Int) < (j:Int):=by omega
    have OKM:Hid (∀t∈m,okI t=true):=by
     have:=J.out.1
     rw[List.take_of_length_le (by rw[HN.out];exact Nat.le_refl _)] at this
     exact this
    have BW:Hid (Below w.heap.size w wr):=J.out.2
    have HR2:=HR1.out
    rw[if_neg (by
     intro c
     obtain⟨i,h1,h2⟩:=List.any_eq_true.1 c
     rw[OKM.out i h1] at h2
     cases h2),HN.out] at HR2
    by_cases h256:256 < j
    ·rw[if_pos h256] at HR2
     have ER:Hid _:=HR2
     have g2:(256:Int) < (j:Int):=by omega
     have FF:Hid _:=STAY.out _ BW.out
     clear J HR1 HR2 OKM
     go_wp2
     go_ret2
     exact⟨by rw[←ER.out];rfl,by rw[←ER.out];exact FF.out⟩
    ·rw[if_neg h256] at HR2
     have HR3:Hid _:=HR2
     have g2:¬(256:Int) < (j:Int):=by omega
     obtain⟨c2,ro⟩:=C2.out wr BW.out
     have I0:Hid (AkI w N nu E m 0 (.slice none 0 0) (.slice ua N uc) wr [] E):=⟨rfl,rfl,Nat.le_refl _,World.ownsRow_nil _ _ _ _,ro,by have:=HE.out;omega,BW.out⟩
     clear J HR1 HR2 BW ro ID
     go_wp2
     go_loopw [9,10,11] (fun lv nv i wr=>∃l:Nat,l≤j∧i = .int .i64 (l:Int)∧Hid (∃A Ek,AkI w N nu E m l lv nv wr A Ek)) (fun _ _ i _=>j - (intOf i).toNat)
     case atStart=>exact⟨0,Nat.zero_le _,rfl,[],E,I0.out⟩
     case round =>
      obtain⟨l,hl2,rfl,I⟩:=hrel
      clear I0 c2
      obtain⟨A,Ek,ak⟩:=I.out
      have AI:Hid _:=ak
      obtain⟨na,nc,rfl,n1,n2,n3,n4⟩:=owns_en rfl ak.n
      obtain⟨sa,sc,rfl,-,-⟩:=owns_txn (l:=A.map (ackR nu)) (by rw[List.length_map]) ak.l
      have hAl:=ak.al
      have hEl:=ak.el
      by_cases hlj:l < j
      ·have hll:l < m.length:=by rw[HN.out];exact hlj
       have g3:(l:Int) < (j:Int):=by omega
       obtain⟨ta,to_,rfl,c1⟩:=TXL.out wr ak.b l hll
       have DR:Hid (m.drop l=m[l]::m.drop (l+1)):=List.drop_eq_getElem_cons hll
       have h16:m[l].length=16:=okI_len (OKM.out _ (List.getElem_mem hll))
       obtain⟨t,ht⟩:∃t,m[l]=t:=⟨_,rfl⟩
       unfold sv at c1
       rw[ht] at c1 DR h16
       obtain⟨M,hM⟩:∃M,Ek.length=M:=⟨_,rfl⟩
       have A1:Hid _:=AT.out na M nc Ek t wr hM (by omega) n1
       by_cases hm:t∈ids (ofE Ek nu)
       ·have hf:fndE Ek nu t=(Bx.plc Ek nu t:Int):=if_pos hm
        obtain⟨p,hp⟩:∃p,Bx.plc Ek nu t=p:=⟨_,rfl⟩
        rw[hf,hp] at A1
        have gp:(0:Int)≤(p:Int):=by omega
        have K1:Hid _:=AK.out t wr h16
        have AP:Hid (∀W,Below wr.heap.size wr W→∃v' W2,(Builtin.append_ #[37, 37] 37 #[.slice sa A.length sc,.slice (some ⟨W.heap.size,0,none⟩) 1 1]).run Tryz.prog (W.alloc (.cells #[.string (st (ackR nu t))] 9)) = .ok v' W2∧Hid (W2.ownsRow w.heap.size 9 1 v' (A++[t]).length (scs ((A++[t]).map (ackR nu)))∧Below w.heap.size w W2∧OwnsE W2 (.slice na Ek.length nc) Ek)):=fun W hb=>by
         have z1:=AI.out.b.size
         have z2:=hb.size
         have lo:=owns_laterS AI.out.l hb
         have no:=owns_laterE AI.out.n hb
         obtain⟨v',W2,r1,r2,r3,r4⟩:=app_strE w.heap.size W (.slice sa A.length sc) (A.map (ackR nu)) (by rw[List.length_map];exact lo) (by omega) (by rw[List.length_map];omega) (ackR nu t) (.slice na Ek.length nc) Ek no
         refine⟨v',W2,r1,?_,(AI.out.b.trans (hb.mono z1)).trans r3,r4⟩
         rw[List.map_append,List.length_append]
         rw[List.length_append,List.length_map] at r2
         exact r2
        have T2:Hid (∀W,OwnsE W (.slice na Ek.length nc) Ek→∀V,Below W.heap.size W V→Calls Tryz.prog 47 #[.slice na Ek.length nc,.string (st (ackR nu t))] V fun e w'=>∃y,e = .returned (.tuple #[y,.bool true])∧Hid (OwnsE w' y (rmE Ek nu t)∧Below V.heap.size V w')):=fun W ho V hV=>by
         obtain⟨na',nc',en,at2,-,-,-⟩:=owns_en rfl (owns_laterE ho hV)
         injection en with en1 en2 en3
         subst en1
         exact TK.out na Ek.length nc Ek t V rfl (by omega) n2 n3 (fun y hy=>(n4 y hy).1) h16 hm at2
        have NEXT:Hid (∀W y v' W2,W2.ownsRow w.heap.size 9 1 v' (A++[t]).length (scs ((A++[t]).map (ackR nu)))→Below w.heap.size w W2→Below W2.heap.size W2 W→OwnsE W y (rmE Ek nu t)→AkI w N nu E m (l+1) v' y W (A++[t]) (rmE Ek nu t)):=fun W y v' W2 h1 h2 h3 h4=>by
         refine⟨?_,?_,by rw[List.length_append,List.length_singleton];omega,owns_laterS h1 h3,h4,Nat.le_trans (rmE_le _ _ _) hEl,chain h2 h3⟩
         ·rw[AI.out.a,DR.out,aks,if_pos hm,List.append_assoc,ofE_rm,upB_same]
          rfl
         ·rw[AI.out.r,DR.out,rmsE,if_pos hm]
        have TXA:Hid (∀W,Below w.heap.size w W→W.cell? ⟨ta,to_+l,none⟩=some (.string (st t))):=fun W hb=>by
         obtain⟨y,o,ey,cc⟩:=TXL.out W hb l hll
         injection ey with ey
         injection ey with ey1 ey2
         subst ey1
         subst ey2
         unfold sv at cc
         rw[ht] at cc
         exact cc
        have K2:Hid _:=fun W=>AK.out t W h16
        have BR:Hid (Below w.heap.size w wr):=ak.b
        obtain⟨T,hT⟩:∃T,st t=T:=⟨_,rfl⟩
        obtain⟨Z,hZ⟩:∃Z,st (ackR nu t)=Z:=⟨_,rfl⟩
        rw[hT] at c1 A1 K1 K2 TXA
        rw[hZ] at K1 K2 AP T2
        rw[hM] at T2 AP ⊢
        clear I ak AI n1 n2 n3 n4 DR ht hm hf hp hT hZ h16 hM
        go_wp2_with fail
        refine Calls.mono A1.out ?_
        rintro e w3 ⟨rfl,hw3⟩
        have hw3':=hw3.symm
        subst hw3'
        clear A1 hw3
        go_wp2_with fail
        refine Calls.mono K1.out ?_
        rintro e w4 ⟨rfl,hb4⟩
        obtain⟨v',W5,r1,F5⟩:=AP.out w4 hb4
        have c5:=TXA.out W5 F5.out.2.1
        obtain⟨sa',sc',rfl,-,-⟩:=owns_txn (l:=(A++[t]).map (ackR nu)) (by rw[List.length_map]) F5.out.1
        clear AP K1 hb4 c1 TXA
        go_wp2_with (first|(at_builtin;refine Go.Lib.wpList_append_run _ rfl _ _ _ _ rfl _ _ rfl rfl _ _ r1 ?_))
        refine Calls.mono (K2.out W5) ?_
        rintro e w6 ⟨rfl,hb6⟩
        have T6:Hid _:=T2.out W5 F5.out.2.2 w6 hb6
        clear K2 T2 c5 r1
        go_wp2_with fail
        refine Calls.mono T6.out ?_
        rintro e w7 ⟨y,rfl,F7⟩
        have F8:Hid (AkI w N nu E m (l+1) (.slice sa' (A.length+1) sc') y w7 (A++[t]) (rmE Ek nu t)):=by
         have q8:=NEXT.out w7 y _ W5 F5.out.1 F5.out.2.1 (chain hb6 F7.out.2) F7.out.1
         rw[List.length_append,List.length_singleton] at q8
         exact q8
        clear T6 NEXT F5 F7 hb6 BR
        go_wp2
        go_roundw
        case rel=>exact⟨l+1,by omega,by go_num,_,_,F8.out⟩
        case measure=>simp[intOf];omega
       ·have hf:fndE Ek nu t = -1:=if_neg hm
        rw[hf] at A1
        have F8:Hid (AkI w N nu E m (l+1) (.slice sa A.length sc) (.slice na Ek.length nc) wr A Ek):=by
         refine⟨?_,?_,by omega,ak.l,ak.n,hEl,ak.b⟩
         ·rw[ak.a,DR.out,aks,if_neg hm]
         ·rw[ak.r,DR.out,rmsE,if_neg hm]
        obtain⟨T,hT⟩:∃T,st t=T:=⟨_,rfl⟩
        rw[hT] at c1 A1
        rw[hM] at F8 ⊢
        clear I ak AI n1 n2 n3 n4 DR ht hm hf hT h16 hM
        go_wp2_with fail
        refine Calls.mono A1.out ?_
        rintro e w3 ⟨rfl,hw3⟩
        have hw3':=hw3.symm
        subst hw3'
        clear A1 hw3
        go_wp2
        go_roundw
        case rel=>exact⟨l+1,by omega,by go_num,_,_,F8.out⟩
        case measure=>simp[intOf];omega
      ·obtain rfl:l=j:=by omega
       have g3:¬(l:Int) < (l:Int):=by omega
       have EA:aks (ofE E nu) m=A:=by
        have:=ak.a
        rw[List.drop_of_length_le (by rw[HN.out];exact Nat.le_refl _),aks,List.append_nil] at this
        exact this
       have HR4:=HR3.out
       rw[EA] at HR4
       by_cases h0:A=[]
       ·rw[if_pos h0] at HR4
        subst h0
        have ER:Hid _:=HR4
        have FF:Hid _:=STAY.out _ ak.b
        clear I ak AI n1 n2 n3 n4 EA HR3 HR4
        go_wp2
        go_ret2
        exact⟨by rw[←ER.out];rfl,by rw[←ER.out];exact FF.out⟩
       ·rw[if_neg h0] at HR4
        have W1:Hid _:=WRITE.out wr sa sc A ak.b ak.l EA OKM.out (by rw[HN.out];omega)
        obtain⟨Y,hY⟩:∃Y,wrEn s x E (rmsE E nu m) (A.map (ackR nu))=Y:=⟨_,rfl⟩
        rw[hY] at HR4 W1
        have ER:Hid ((if Y.1.1.1=0 then A.length else 0,Y)=R):=HR4
        obtain⟨NA,hNA⟩:∃N,A.length=N:=⟨_,rfl⟩
        have hpos:0 < NA:=by rw[←hNA];exact List.length_pos_iff.2 h0
        have gz:¬(NA:Int)=0:=by omega
        rw[hNA] at W1 ER ⊢
        obtain⟨⟨⟨ye,ys⟩,yx⟩,yE⟩:=Y
        clear I ak AI n1 n2 n3 n4 EA HR3 HR4 hY hNA h0 hAl
        go_wp2_with fail
        refine Calls.mono W1.out ?_
        rintro e w3 ⟨rfl,F3⟩
        clear W1
        by_cases hy0:ye=0
        ·subst hy0
         clear WRITE TK AT AK STAY
         go_wp2
         go_ret2
         exact⟨by rw[←ER.out];rfl,by rw[←ER.out];exact F3.out⟩
        ·have ER2:Hid ((0,(((ye,ys),yx),yE))=R):=by
          have:=ER.out
          rw[if_neg hy0] at this
          exact this
         clear WRITE TK AT AK STAY ER
         go_wp2
         go_ret2
         exact⟨by rw[←ER2.out];rfl,by rw[←ER2.out];exact F3.out⟩
end Go.Proofs.YtjpaodepnacimaaGreatDoor
namespace Go.Proofs.YtjpaodepnacimaaGreatDoor
open Go.RowKit Go.Proofs.Fd Go.Proofs.Dk Go.Proofs.Lg
set_option maxRecDepth 20000
abbrev Ey:=Nat×List Bs×List Bs
structure Gd (y:Ey):Prop where
 e:y.1≤2147483647
 z:y.1=0→y.2.1=[]
 t:∀t∈y.2.1++y.2.2,t.length=16
 n:y.2.1.length+y.2.2.length≤10000
def tkE (y:Ey) (r:Bs):Option Ey:=tkp y.1 y.2.1 y.2.2 r
def tks:Ey→List Bs→Option Ey
 | y,[]=>some y
 | y,r::l=>(tkE y r).bind fun z=>tks z l
structure Gn (n:Nat) (y:Ey):Prop where
 e:y.1≤2147483647
 z:y.1=0→y.2.1=[]
 t:∀t∈y.2.1++y.2.2,t.length=16
 n:y.2.1.length+y.2.2.length≤n
theorem Gn.start:Gn 0 (0,[],[]):=⟨by decide,fun _=>rfl,(fun t ht=>absurd ht List.not_mem_nil),Nat.le_refl _⟩
theorem Gn.gd {n:Nat} {y:Ey} (g:Gn n y) (h:n≤10000):Gd y:=⟨g.e,g.z,g.t,Nat.le_trans g.n h⟩
end Go.Proofs.YtjpaodepnacimaaGreatDoor
namespace Go.Proofs.YtjpaodepnacimaaGreatDoor
open Go.RowKit Go.Proofs.Fd Go.Proofs.Dk Go.Proofs.Lg Go.Proofs.Bx
set_option maxRecDepth 20000
def YoR (w:World) (d:Nat) (G:Nat→Prop) (quota:Int) (r:(Int×St)×Option (Lo×List En)) (e:Ending) (w':World):Prop :=
 match r.2 with
 | none=>e = .returned (.tuple #[.pointer none,.int .i64 r.1.1])∧∃G',Dw w d G w' G' r.1.2
 | some (x,E)=>∃q b,e = .returned (.tuple #[.pointer (some ⟨b,0,none⟩),.int .i64 0])∧r.1.1=0∧YzP w G d q b quota.toNat r.1.2 x E w'
theorem yor_no {w:World} {d:Nat} {G G':Nat→Prop} {quota:Int} {r:(Int×St)×Option (Lo×List En)} {z:Int} {s:St} {w':World} (h:r=((z,s),none)) (k:Dw w d G w' G' s):YoR w d G quota r (.returned (.tuple #[.pointer none,.int .i64 z])) w':=by
 subst h
 exact⟨rfl,G',k⟩
theorem YzP.dw {w:World} {G:Nat→Prop} {d q b quota:Nat} {s:St} {x:Lo} {E:List En} {w1:World} (k:YzP w G d q b quota s x E w1):∃G',Dw w d G w1 G' s:=by
 obtain⟨G',v,u,z,n,f⟩:=k
 exact⟨G',z.rl.rd.at_,fun y hy=>n y (.inl (.inl hy)),f⟩
theorem tksL_no {E:List En} {l m:List Bs} (h:tksL E l=none):tksL E (l++m)=none:=by
 rw[tksL_app,h]
 rfl
set_option maxHeartbeats 4000000 in
theorem ybopen_any (w:World) (d:Nat) (G:Nat→Prop) (s:St) (quota:Int) (hn:s.n≤1024) (hl:s.l.length+5000≤1000000) (D:Hid (DAt w d G s)) :
  Calls Tryz.prog 24 #[.pointer (some ⟨d,0,none⟩),.int .i64 quota] w fun e w'=>YoR w d G quota (opEn quota s (opnr s)) e w':=by
 obtain⟨r,hr⟩:∃r,opEn quota s (opnr s)=r:=⟨_,rfl⟩
 rw[hr]
 unfold opEn at hr
 by_cases h1:quota < 1
 ·rw[if_pos (.inl h1)] at hr
  have FF:Hid (YoR w d G quota r (.returned (.tuple #[.pointer none,.int .i64 1])) w):=yor_no hr.symm ⟨D.out,Nx.refl _ _,Bf.refl _ _⟩
  clear hr D
  go_enter Tryz.func24, Tryz.ntmps24
  go_wp2
  go_ret2
  exact FF.out
 ·by_cases h2:256 < quota
  ·rw[if_pos (.inr h2)] at hr
   have FF:Hid (YoR w d G quota r (.returned (.tuple #[.pointer none,.int .i64 1])) w):=yor_no hr.symm ⟨D.out,Nx.refl _ _,Bf.refl _ _⟩
   clear hr D
   go_enter Tryz.func24, Tryz.ntmps24
   go_wp2
   go_ret2
   exact FF.out
  ·rw[if_neg (by omega)] at hr
   have OP:Hid _:=ropen_any w d G s hn hl D
   obtain⟨⟨⟨oe,os⟩,ox⟩,ho⟩:∃o,opnr s=o:=⟨_,rfl⟩
   rw[ho] at hr OP
   have hr':(if oe≠0 then ((oe,os),(none:Option (Lo×List En))) else match tksL [] ox.ts with
    | none=>((160,os),none)
    | some E=>((0,os),some (ox,E)))=r:=hr
   have HR:Hid _:=hr'
   obtain⟨M,hM⟩:∃M:Nat,quota=(M:Int):=⟨quota.toNat,by omega⟩
   subst hM
   clear hr hr' ho D
   go_enter Tryz.func24, Tryz.ntmps24
   go_wp2_with fail
   refine Calls.mono OP.out ?_
   rintro e w1 ⟨pv,G1,rfl,dw,hno,hok⟩
   clear OP
   by_cases h0:oe=0
   ·obtain⟨q,v,rfl,rl,hnew⟩:=hok h0
    have HR2:=HR.out
    rw[if_neg (by rw[h0];simp)] at HR2
    have ER:Hid _:=HR2
    have tl:=rl.tlen
    have TOK:Hid (∀t∈ox.ts,t.length≤2000):=fun t ht=>(rl.ok t ht).2
    have Z1:Hid (YzP w G d q w1.heap.size M os ox [] (w1.alloc (.cells #[.pointer (some ⟨q,0,none⟩),.int .i64 (M:Int),.slice none 0 0] 93))):=by
     refine⟨G1,v,.slice none 0 0,⟨rl.later (nb _ _),⟨Blk.new w1 (ybc q M (.slice none 0 0)) _ (by simp),owns_nilE _,fun c=>by cases c⟩,fun y hy c => ?_⟩,fun y hy => ?_,dw.bf.later (nb _ _)⟩
     ·rcases hy with rfl|e
      ·exact Nat.lt_irrefl _ (rl.fq c)
      ·cases e
     ·rcases hy with (e|e)|e
      ·exact dw.nx y e
      ·exact .inr (hnew y e)
      ·rcases e with rfl|e
       ·exact .inr dw.bf.size
       ·cases e
    subst h0
    clear dw hno hok rl hnew HR HR2
    obtain⟨b,hb⟩:∃b,w1.heap.size=b:=⟨_,rfl⟩
    rw[hb] at Z1
    go_wp2
    obtain⟨W0,hW0⟩:∃W0,w1.alloc (.cells #[.pointer (some ⟨q,0,none⟩),.int .i64 (M:Int),.slice none 0 0] 93)=W0:=⟨_,rfl⟩
    rw[hW0] at Z1 ⊢
    clear hW0 hb
    obtain⟨N,hN⟩:∃N,ox.ts.length=N:=⟨_,rfl⟩
    have HN:Hid (ox.ts.length=N):=hN
    rw[hN] at tl
    clear hN
    go_loopw [9] (fun i wr=>∃(k:Nat) (E:List En),k≤N∧i = .int .i64 (k:Int)∧Hid (tksL [] (ox.ts.take k)=some E∧E.length≤k∧YzP w G d q b M os ox E wr)) (fun i _=>N - (intOf i).toNat)
    case atStart=>exact⟨0,[],Nat.zero_le _,rfl,by rw[List.take_zero];rfl,Nat.le_refl _,Z1.out⟩
    case round =>
     obtain⟨k,E,hk,rfl,J⟩:=hrel
     clear Z1
     obtain⟨G2,v2,u2,z2,n2,f2⟩:=J.out.2.2
     obtain⟨va,vc,rfl,tx,-⟩:=owns_tx HN.out (by have:=z2.rl.rd.rf.row;rw[OwnsS,HN.out] at this;exact this)
     obtain⟨ua,uc,rfl,at_,hnc,hna,hsp⟩:=owns_en rfl z2.rs.row
     have c3:=z2.rl.rd.rf.bk.c 3 _ rfl
     have c2:=z2.rs.bk.c 2 _ rfl
     have cf:=z2.rs.bk.f 2
     have hEl:=J.out.2.1
     by_cases hlt:k < N
     ·have hkl:k < ox.ts.length:=by rw[HN.out];exact hlt
      have g1:(k:Int) < (N:Int):=by omega
      obtain⟨g,o,rfl,c1⟩:=tx k hkl
      have ET:Hid (ox.ts.take (k+1)=ox.ts.take k++[ox.ts[k]]):=List.take_succ_eq_append_getElem hkl
      have ED:Hid (ox.ts=ox.ts.take (k+1)++ox.ts.drop (k+1)):=(List.take_append_drop _ _).symm
      have htl:=TOK.out _ (List.getElem_mem hkl)
      obtain⟨NE,hNE⟩:∃n,E.length=n:=⟨_,rfl⟩
      have TK:Hid _:=ybtake_any ox.ts[k] htl ua NE uc E hNE (by omega) (by omega) (by rw[←hNE];exact hna) (fun y hy=>(hsp y hy).1) wr.drew (at_.later (Below.refl _ _).drew)
      obtain⟨t,ht⟩:∃t,ox.ts[k]=t:=⟨_,rfl⟩
      rw[ht] at c1 ET TK
      unfold sv at c1
      rw[hNE] at c2
      have JJ:Hid (tksL [] (ox.ts.take k)=some E):=J.out.1
      have NXT:Hid (∀W E2 y,tkL E t=some E2→W.ownsRow wr.drew.heap.size 125 3 y E2.length (ecx E2)→Below wr.drew.heap.size wr.drew W→(∃x,W.cell? ⟨b,2,none⟩=some x)∧W.frozen? ⟨b,2,none⟩=false∧Hid (E2.length≤k+1∧YzP w G d q b M os ox E2 (W.setCell ⟨b,2,none⟩ y))):=fun W E2 y htk ho hb=>by
       have hb':Below wr.heap.size wr W:=chain (Below.refl _ _).drew hb
       have zW:=z2.later hb'
       have hsz:wr.heap.size=wr.drew.heap.size:=rfl
       refine⟨⟨_,zW.rs.bk.c 2 _ rfl⟩,zW.rs.bk.f 2,by have:=tkL_len htk;omega,(YzL.start zW).set (owns_lowE ho (Nat.zero_le _)) (fun z hz c => ?_) n2 (f2.later hb') (fun c => ?_) (fun z hz => .inr ?_)⟩
       ·have h1:=(ho.lt z hz).1
        have h2:=z2.rl.fq c
        omega
       ·have h1:=(ho.lt b c).1
        have h2:=z2.rs.bk.lt
        omega
       ·have h1:=(ho.lt z hz).1
        have h2:=f2.size
        omega
      have DWW:Hid (∀W,Below wr.drew.heap.size wr.drew W→∃G',Dw w d G W G' os):=fun W hb=>by
       have hb':Below wr.heap.size wr W:=chain (Below.refl _ _).drew hb
       exact (J.out.2.2.later hb').dw
      obtain⟨T,hT⟩:∃T,st t=T:=⟨_,rfl⟩
      rw[hT] at TK c1
      have S0:wr.drew.cell? ⟨b,2,none⟩=some (.slice ua NE uc)∧wr.drew.cell? ⟨q,3,none⟩=some (.slice (some ⟨g,o,none⟩) N vc)∧wr.drew.cell? ⟨g,o+k,none⟩=some (.string T):=⟨c2,c3,c1⟩
      have KC:∀W,Below wr.drew.heap.size wr.drew W→W.cell? ⟨b,2,none⟩=some (.slice ua NE uc)∧W.cell? ⟨q,3,none⟩=some (.slice (some ⟨g,o,none⟩) N vc)∧W.cell? ⟨g,o+k,none⟩=some (.string T):=fun W hb=>⟨cell_later hb S0.1,cell_later hb S0.2.1,cell_later hb S0.2.2⟩
      clear tx z2 n2 f2 J hT ht htl at_ hnc hna hsp hNE cf
      cases htk:tkL E t with
      | none =>
       rw[htk] at TK
       have TK3:Hid (Calls Tryz.prog 47 #[.slice ua NE uc,.string T] wr.drew fun e w'=>e = .returned (.tuple #[.slice none 0 0,.bool false])∧(w'.cell? ⟨b,2,none⟩=some (.slice ua NE uc)∧w'.cell? ⟨q,3,none⟩=some (.slice (some ⟨g,o,none⟩) N vc)∧w'.cell? ⟨g,o+k,none⟩=some (.string T))∧Hid (∃G',Dw w d G w' G' os)):=Calls.mono TK.out fun e w' ⟨e1,e2⟩=>⟨e1,KC w' e2,DWW.out w' e2⟩
       have FR:Hid (tksL [] ox.ts=none):=by
        show _=_
        rw[ED.out,ET.out]
        refine tksL_no ?_
        rw[tksL_app,JJ.out]
        show (tkL E t).bind (fun F=>some F)=none
        rw[htk]
        rfl
       have ER2:=ER.out
       rw[FR.out] at ER2
       have FF:Hid (∀w' G',Dw w d G w' G' os→YoR w d G (M:Int) r (.returned (.tuple #[.pointer none,.int .i64 160])) w'):=fun w' G' k=>yor_no ER2.symm k
       clear TK JJ ET ED FR ER2 htk NXT DWW KC c1 c2
       go_wp2_with fail
       go_region_held3 (fun w'=>w'.cell? ⟨b,2,none⟩=some (.slice ua NE uc)∧w'.cell? ⟨q,3,none⟩=some (.slice (some ⟨g,o,none⟩) N vc)∧w'.cell? ⟨g,o+k,none⟩=some (.string T)) (first|exact S0|assumption) (first|(go_at_call 47;refine Calls.mono TK3.out ?_;rintro e w3 ⟨rfl,hc3,D3⟩))
       have F3:Hid (YoR w d G (M:Int) r (.returned (.tuple #[.pointer none,.int .i64 160])) w3):=by
        obtain⟨G3,dw3⟩:=D3.out
        exact FF.out w3 G3 dw3
       clear TK3 FF D3 hc3 S0 c3
       go_wp2
       go_ret2
       exact F3.out
      | some E2 =>
       rw[htk] at TK
       have TK3:Hid (Calls Tryz.prog 47 #[.slice ua NE uc,.string T] wr.drew fun e w'=>∃ya yn yc,e = .returned (.tuple #[.slice ya yn yc,.bool true])∧(w'.cell? ⟨b,2,none⟩=some (.slice ua NE uc)∧w'.cell? ⟨q,3,none⟩=some (.slice (some ⟨g,o,none⟩) N vc)∧w'.cell? ⟨g,o+k,none⟩=some (.string T))∧w'.frozen? ⟨b,2,none⟩=false∧Hid (E2.length≤k+1∧YzP w G d q b M os ox E2 (w'.setCell ⟨b,2,none⟩ (.slice ya yn yc)))):=Calls.mono TK.out fun e w' ⟨y,e1,e2,e3⟩=>by
        obtain⟨f1,f2,f3⟩:=NXT.out w' E2 y htk e2 e3
        obtain⟨ya,yc,rfl,-,-,-,-⟩:=owns_en rfl e2
        exact⟨ya,_,yc,e1,KC w' e3,f2,f3⟩
       have FR:Hid (tksL [] (ox.ts.take (k+1))=some E2):=by
        show _=_
        rw[ET.out,tksL_app,JJ.out]
        show (tkL E t).bind (fun F=>some F)=some E2
        rw[htk]
        rfl
       clear TK JJ ET ED htk NXT DWW KC c1 c2
       go_wp2_with fail
       go_region_held3 (fun w'=>w'.cell? ⟨b,2,none⟩=some (.slice ua NE uc)∧w'.cell? ⟨q,3,none⟩=some (.slice (some ⟨g,o,none⟩) N vc)∧w'.cell? ⟨g,o+k,none⟩=some (.string T)) (first|exact S0|assumption) (first|(go_at_call 47;refine Calls.mono TK3.out ?_;rintro e w3 ⟨ya,yn,yc,rfl,hc3,cf3,D3⟩))
       obtain⟨cb3,-,-⟩:=hc3
       clear TK3 S0 c3
       go_wp2
       go_roundw
       case rel=>exact⟨k+1,E2,by omega,by go_num,FR.out,D3.out.1,D3.out.2⟩
       case measure=>simp[intOf];omega
     ·have g1:¬(k:Int) < (N:Int):=by omega
      have FR:tksL [] ox.ts=some E:=by
       have:=J.out.1
       rw[List.take_of_length_le (by rw[HN.out];omega)] at this
       exact this
      have ER2:=ER.out
      rw[FR] at ER2
      have FF:Hid (YoR w d G (M:Int) r (.returned (.tuple #[.pointer (some ⟨b,0,none⟩),.int .i64 0])) wr):=by
       rw[←ER2]
       exact⟨q,b,rfl,rfl,J.out.2.2⟩
      clear J ER2 FR tx z2 n2 f2 at_ hnc hna hsp c2 cf
      go_wp2
      go_ret2
      exact FF.out
   ·have HR2:=HR.out
    rw[if_pos h0] at HR2
    obtain rfl:=hno h0
    have FF:Hid (YoR w d G (M:Int) r (.returned (.tuple #[.pointer none,.int .i64 oe])) w1):=yor_no HR2.symm dw
    clear hno hok HR HR2 dw
    go_wp2
    go_ret2
    exact FF.out
theorem app_gen (s:St) (x:Lo) (t:Bs):(app s x t).2.g=x.g:=by
 unfold app
 split
 ·rfl
 ·split
  ·rfl
  ·show (if _ then _ else _:Lo).g=_
   split <;> rfl
theorem cmp_gen (s:St) (x:Lo) (ts:List Bs):(cmp s x ts).2.g≤x.g+1:=by
 unfold cmp
 split
 ·exact Nat.le_succ _
 ·split
  ·exact Nat.le_succ _
  ·split
   ·exact Nat.le_succ _
   ·show (if _ then _ else _:Lo).g≤_
    split
    ·exact Nat.le_refl _
    ·exact Nat.le_succ _
theorem hq_apX {P:Bs→Prop}:∀(rs:List Bs) {s:St} {x:Lo},Hp P s→x.h≤1→Hp P (apX s x rs).1.2∧(apX s x rs).2.g=x.g∧(apX s x rs).2.h≤1
 | [],_,_,h,hh=>⟨h,rfl,hh⟩
 | r::l,s,x,h,hh=>by
  have a:=h.app hh r
  have hh2:(app s x r).2.h≤1:=by rw[app_half];exact hh
  rw[apX]
  by_cases c:(app s x r).1.1=0
  ·rw[if_pos c]
   obtain⟨z1,z2,z3⟩:=hq_apX l a hh2
   exact⟨z1,by rw[z2,app_gen],z3⟩
  ·rw[if_neg c]
   exact⟨a,app_gen s x r,hh2⟩
theorem hq_wrX {N:Nat} {s:St} {x:Lo} (h:Hp (Hd7 N) s) (hh:x.h≤1) (hn:4≤s.n) (hg:x.g+1≤N) (hN:N≤255) (b c:Bxs) (rs:List Bs):Hp (Hd7 N) (wrX s x b c rs).1.1.2∧(wrX s x b c rs).1.2.g≤x.g+1:=by
 obtain⟨z1,z2,z3⟩:=hq_apX rs h hh
 unfold wrX
 by_cases c1:(apX s x rs).1.1=151
 ·simp only[if_pos c1]
  have hn2:4≤(apX s x rs).1.2.n:=by rw[(kp_apX rs s x hh).1.n];exact hn
  refine⟨z1.cmp (cl7 N) (fun _=>hd7_hd hN (by rw[z2];exact hg)) z3 hn2 (shX c),?_⟩
  have:=cmp_gen (apX s x rs).1.2 (apX s x rs).2 (shX c)
  rw[z2] at this
  exact this
 ·simp only[if_neg c1]
  by_cases c2:(apX s x rs).1.1≠0
  ·simp only[if_pos c2]
   exact⟨z1,by rw[z2];exact Nat.le_succ _⟩
  ·simp only[if_neg c2]
   exact⟨z1.sync,by rw[z2];exact Nat.le_succ _⟩
theorem hq_puX {N q:Nat} {s:St} {x:Lo} (h:Hp (Hd7 N) s) (hh:x.h≤1) (hn:4≤s.n) (hg:x.g+1≤N) (hN:N≤255) (b:Bxs) (u:Int) (i t:Bs):Hp (Hd7 N) (puX q s x b u i t).1.1.2∧(puX q s x b u i t).1.2.g≤x.g+1:=by
 unfold puX
 split
 ·exact⟨h,Nat.le_succ _⟩
 ·split
  ·exact⟨h,Nat.le_succ _⟩
  ·split
   ·exact⟨h,Nat.le_succ _⟩
   ·split
    ·exact⟨h,Nat.le_succ _⟩
    ·split
     ·exact⟨h,Nat.le_succ _⟩
     ·exact hq_wrX h hh hn hg hN b _ _
theorem hq_akX {N:Nat} {s:St} {x:Lo} (h:Hp (Hd7 N) s) (hh:x.h≤1) (hn:4≤s.n) (hg:x.g+1≤N) (hN:N≤255) (b:Bxs) (u:Int) (m:List Bs):Hp (Hd7 N) (akX s x b u m).2.1.1.2∧(akX s x b u m).2.1.2.g≤x.g+1:=by
 unfold akX
 split
 ·exact⟨h,Nat.le_succ _⟩
 ·split
  ·exact⟨h,Nat.le_succ _⟩
  ·split
   ·exact⟨h,Nat.le_succ _⟩
   ·split
    ·exact⟨h,Nat.le_succ _⟩
    ·exact hq_wrX h hh hn hg hN b (upB b u.toNat (rms (b u.toNat) m)) ((aks (b u.toNat) m).map (ackR u.toNat))
theorem hq_opX {N:Nat} {q:Int} {s:St} (ok:Ok s) (h:Hp (Hd7 N) s) (h1:1≤N) (hN:N≤255):Hp (Hd7 N) (opX q s (opn s)).1.2∧∀x b,(opX q s (opn s)).2=some (x,b)→x.g≤N:=by
 have o1:=h.opn (cl7 N) (hd7_hd hN h1)
 have o2:=opn_small ok h h1
 unfold opX
 split
 ·exact⟨h,fun x b e=>by cases e⟩
 ·split
  ·exact⟨o1,fun x b e=>by cases e⟩
  ·split
   ·exact⟨o1,fun x b e=>by cases e⟩
   ·exact⟨o1,fun x b e=>by cases e;exact o2⟩
theorem Hp.up7 {N M:Nat} {s:St} (h:Hp (Hd7 N) s) (k:N≤M):Hp (Hd7 M) s:=h.imp fun _ c=>c.mono k
end Go.Proofs.YtjpaodepnacimaaGreatDoor
namespace Go.Proofs.YtjpaodepnacimaaGreatDoor
open Go.RowKit Go.Proofs.Fd Go.Proofs.Dk Go.Proofs.Lg
set_option maxRecDepth 20000
theorem Ow.slice {w W:World} {v:Value} {xs:List Bs} (h:Ow w W v xs):∃a n c,v = .slice a n c:=by
 obtain⟨a,c,e,-,-⟩:=owns_tx rfl (owns_low2 h.1 (Nat.zero_le _))
 exact⟨a,_,c,e⟩
structure Pz (w wr:World) (p:Nat) (F:Nat→Prop) (s:St) (q:Nat) (v:Value) (x:Lo) (b most:Nat) (va vh:Value) (y:Ey):Prop where
 lz:Lz w wr p F s q v x
 es:Es wr b q y.1 most va vh y.2.1 y.2.2
 ap:∀z,EFt b va vh z→¬FH F q v z∧w.heap.size≤z
def FP (F:Nat→Prop) (q:Nat) (v:Value) (b:Nat) (va vh:Value) (z:Nat):Prop:=FH F q v z∨EFt b va vh z
def PzP (w w0:World) (F0:Nat→Prop) (p q b most:Nat) (s:St) (x:Lo) (y:Ey) (w':World):Prop:=∃F v va vh,Pz w w' p F s q v x b most va vh y∧Nx w0 F0 (FP F q v b va vh)∧Bf F0 w0 w'
section
variable {w w0:World} {F0:Nat→Prop} {p q b most:Nat} {s:St} {x:Lo} {y:Ey} {w1:World}
theorem PzP.later (k:PzP w w0 F0 p q b most s x y w1) {w2:World} (hb:Below w1.heap.size w1 w2):PzP w w0 F0 p q b most s x y w2:=by
 obtain⟨F,v,va,vh,z,n,f⟩:=k
 exact⟨F,v,va,vh,⟨z.lz.later hb,z.es.later hb,z.ap⟩,n,f.later hb⟩
theorem Pz.log {F:Nat→Prop} {v va vh:Value} (k:Pz w w1 p F s q v x b most va vh y) {w2:World} {s':St} {x':Lo} (z:LzP w w1 p F q v s' x' w2) (hn:Nx w0 F0 (FP F q v b va vh)) (hf:Bf F0 w0 w1):PzP w w0 F0 p q b most s' x' y w2:=by
 obtain⟨F',v',r,n1,f⟩:=z
 have nq:=n1.fh
 have hs:=hf.size
 refine⟨F',v',va,vh,⟨r,k.es.bf f (fun g hg=>(k.ap g hg).1),fun g hg=>⟨nq.apart (k.ap g hg).1 (k.es.lt hg),(k.ap g hg).2⟩⟩,fun g hg => ?_,hf.trans hn (f.wide fun g e => .inl e)⟩
 rcases hg with e|e
 ·rcases nq g e with c|c
  ·exact hn g (.inl c)
  ·exact .inr (by omega)
 ·exact hn g (.inr e)
theorem Pz.set {F:Nat→Prop} {v va vh:Value} (k:Pz w w1 p F s q v x b most va vh y) {w2:World} {y':Ey} {va' vh':Value} (r:Es w2 b q y'.1 most va' vh' y'.2.1 y'.2.2) (f:Bf (EFt b va vh) w1 w2) (n:Nx w1 (EFt b va vh) (EFt b va' vh')) (hn:Nx w0 F0 (FP F q v b va vh)) (hf:Bf F0 w0 w1):PzP w w0 F0 p q b most s x y' w2:=by
 have hs:=hf.size
 have hw:=k.lz.hd_.dl.below.size
 refine⟨F,v,va',vh',⟨k.lz.other f (fun g hg c=>(k.ap g c).1 hg) (fun g c=>(k.ap g c).2),r,fun g hg => ?_⟩,fun g hg => ?_,hf.trans hn (f.wide fun g e => .inr e)⟩
 ·rcases n g hg with c|c
  ·exact k.ap g c
  ·exact⟨fun e=>by have:=(k.lz.fh e).1;omega,by omega⟩
 ·rcases hg with e|e
  ·exact hn g (.inl e)
  ·rcases n g e with c|c
   ·exact hn g (.inr c)
   ·exact .inr (by omega)
end
theorem PzP.trans {w w0 w1:World} {F0 F1:Nat→Prop} {p q b most:Nat} {s:St} {x:Lo} {y:Ey} {w2:World} (k:PzP w w1 F1 p q b most s x y w2) (hn:Nx w0 F0 F1) (hf:Bf F0 w0 w1):PzP w w0 F0 p q b most s x y w2:=by
 obtain⟨F,v,va,vh,z,n,f⟩:=k
 exact⟨F,v,va,vh,z,hn.trans n hf.size,hf.trans hn f⟩
theorem PzP.ds {w w0:World} {F0:Nat→Prop} {p q b most:Nat} {s:St} {x:Lo} {y:Ey} {w1:World} (k:PzP w w0 F0 p q b most s x y w1):Ds w w0 p F0 s w1:=by
 obtain⟨F,v,va,vh,z,n,f⟩:=k
 exact⟨F,z.lz.hd_.dl,fun y hy=>n y (.inl (.inl hy)),f⟩
abbrev btc (most:Int) (p d:Nat) (sv kv:Value):List Value:=[.int .i64 most,.pointer (some ⟨p,0,none⟩),.pointer (some ⟨d,0,none⟩),sv,kv]
structure Sd (w wr:World) (B:Nat) (most:Int) (p d:Nat) (F G:Nat→Prop) (s:St) (sv kv:Value):Prop where
 bk:Blk wr B (btc most p d sv kv)
 dl:Dl w wr p F s
 at_:DAt wr d G s
 fg:∀z,F z→¬G z
 fb:¬F B
 gb:¬G B
 nG:∀z,G z→w.heap.size≤z
 nB:w.heap.size≤B
theorem Sd.later {w wr:World} {B:Nat} {most:Int} {p d:Nat} {F G:Nat→Prop} {s:St} {sv kv:Value} (h:Sd w wr B most p d F G s sv kv) {w':World} (hb:Below wr.heap.size wr w'):Sd w w' B most p d F G s sv kv:=⟨h.bk.later hb,h.dl.later hb,h.at_.later hb,h.fg,h.fb,h.gb,h.nG,h.nB⟩
def PP (w w2:World) (p:Nat) (most:Int) (s:St) (o:Option (Lo×Ey)) (pv:Option Addr) (Ft:Nat→Prop):Prop :=
 match o with
 | none=>pv=none∧Dl w w2 p Ft s
 | some (x,y)=>∃q b F v va vh,pv=some ⟨b,0,none⟩∧Pz w w2 p F s q v x b most.toNat va vh y∧Ft=FP F q v b va vh
theorem PP.other {w w2:World} {p:Nat} {most:Int} {s:St} {o:Option (Lo×Ey)} {pv:Option Addr} {Ft:Nat→Prop} (h:PP w w2 p most s o pv Ft) {K:Nat→Prop} {w3:World} (hb:Bf K w2 w3) (hK:∀z,Ft z→¬K z) (hw:∀z,K z→w.heap.size≤z):PP w w3 p most s o pv Ft:=by
 match o,h with
 | none,⟨e,k⟩=>exact⟨e,⟨k.at_.other hb hK,k.new,k.below.trans (hb.below hw k.below.size)⟩⟩
 | some (x,y),⟨q,b,F,v,va,vh,e,k,eF⟩ =>
  subst eF
  exact⟨q,b,F,v,va,vh,e,⟨k.lz.other hb (fun z hz=>hK z (.inl hz)) hw,k.es.bf hb (fun z hz=>hK z (.inr hz)),k.ap⟩,rfl⟩
theorem PP.lt {w w2:World} {p:Nat} {most:Int} {s:St} {o:Option (Lo×Ey)} {pv:Option Addr} {Ft:Nat→Prop} (h:PP w w2 p most s o pv Ft) {z:Nat} (hz:Ft z):z < w2.heap.size:=by
 match o,h with
 | none,⟨e,k⟩=>exact k.at_.lt hz
 | some (x,y),⟨q,b,F,v,va,vh,e,k,eF⟩ =>
  subst eF
  rcases hz with c|c
  ·exact (k.lz.fh c).1
  ·exact k.es.lt c
def M1 (w wr:World) (B:Nat) (most:Int) (p d:Nat) (F G:Nat→Prop) (s:St) (r:(Int×St)×Option (Lo×Ey)) (pv:Option Addr) (w1:World):Prop :=
 ∃Ft,PP w w1 p most r.1.2 r.2 pv Ft∧DAt w1 d G s∧(∀z,Ft z→¬G z)∧¬Ft B∧(∀z,Ft z→w.heap.size≤z)∧Bf F wr w1
def B3 (B:Nat) (most:Int) (p d:Nat) (w':World):Prop:=w'.cell? ⟨B,0,none⟩=some (.int .i64 most)∧w'.cell? ⟨B,1,none⟩=some (.pointer (some ⟨p,0,none⟩))∧w'.cell? ⟨B,2,none⟩=some (.pointer (some ⟨d,0,none⟩))
theorem Blk.b3 {w:World} {B:Nat} {most:Int} {p d:Nat} {sv kv:Value} (h:Blk w B (btc most p d sv kv)):B3 B most p d w:=⟨h.c 0 _ rfl,h.c 1 _ rfl,h.c 2 _ rfl⟩
theorem B3.set {w:World} {B:Nat} {most:Int} {p d:Nat} (h:B3 B most p d w) (i:Nat) (hi:3≤i) (u:Value):B3 B most p d (w.setCell ⟨B,i,none⟩ u):=by
 have ne:∀j,j < 3→(⟨B,i,none⟩:Addr)≠⟨B,j,none⟩:=fun j hj e=>by injection e with e1 e2 e3;omega
 exact⟨by rw[World.cell?_setCell_other _ _ _ _ (ne 0 (by decide))];exact h.1,by rw[World.cell?_setCell_other _ _ _ _ (ne 1 (by decide))];exact h.2.1,by rw[World.cell?_setCell_other _ _ _ _ (ne 2 (by decide))];exact h.2.2⟩
theorem PP.size {w w2:World} {p:Nat} {most:Int} {s:St} {o:Option (Lo×Ey)} {pv:Option Addr} {Ft:Nat→Prop} (h:PP w w2 p most s o pv Ft):Below w.heap.size w w2:=by
 match o,h with
 | none,⟨e,k⟩=>exact k.below
 | some (x,y),⟨q,b,F,v,va,vh,e,k,eF⟩=>exact k.lz.hd_.dl.below
section
variable {w wr:World} {B:Nat} {most:Int} {p d:Nat} {sP sR:St} {oP oR:Option (Lo×Ey)} {pv pk:Option Addr} {Ft Gt:Nat→Prop}
end
def UU (F G:Nat→Prop) (B:Nat) (z:Nat):Prop:=F z∨G z∨z=B
theorem UU.prog {w0 wr w1:World} {U0 F G F':Nat→Prop} {B:Nat} (hn:Nx w0 U0 (UU F G B)) (hf:Bf U0 w0 wr) (n:Nx wr F F') (f:Bf F wr w1):Nx w0 U0 (UU F' G B)∧Bf U0 w0 w1:=by
 have hs:=hf.size
 refine⟨fun z hz => ?_,hf.trans hn (f.wide fun z e => .inl e)⟩
 rcases hz with c|c
 ·rcases n z c with e|e
  ·exact hn z (.inl e)
  ·exact .inr (by omega)
 ·exact hn z (.inr c)
theorem UU.ref {w0 wr w1:World} {U0 F G G':Nat→Prop} {B:Nat} (hn:Nx w0 U0 (UU F G B)) (hf:Bf U0 w0 wr) (n:Nx wr G G') (f:Bf G wr w1):Nx w0 U0 (UU F G' B)∧Bf U0 w0 w1:=by
 have hs:=hf.size
 refine⟨fun z hz => ?_,hf.trans hn (f.wide fun z e => .inr (.inl e))⟩
 rcases hz with c|c|c
 ·exact hn z (.inl c)
 ·rcases n z c with e|e
  ·exact hn z (.inr (.inl e))
  ·exact .inr (by omega)
 ·exact hn z (.inr (.inr c))
theorem UU.less {w0:World} {U0 F G F' G':Nat→Prop} {B:Nat} (hn:Nx w0 U0 (UU F G B)) (h1:∀z,F' z→F z) (h2:∀z,G' z→G z):Nx w0 U0 (UU F' G' B):=fun z hz=>by
 rcases hz with c|c|c
 ·exact hn z (.inl (h1 z c))
 ·exact hn z (.inr (.inl (h2 z c)))
 ·exact hn z (.inr (.inr c))
end Go.Proofs.YtjpaodepnacimaaGreatDoor
