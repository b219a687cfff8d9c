/- Parts: BpL,BpN,BpO,YrB. -/
import Derived.Test.YtjpaodepnacimaaGreatDoorZdG25
import Derived.Test.YtjpaodepnacimaaGreatDoorZdG10
import Derived.Test.YtjpaodepnacimaaGreatDoorZdG22
namespace Go.Proofs.YtjpaodepnacimaaGreatDoor
open Go.RowKit Go.Proofs.Fd Go.Proofs.Dk Go.Proofs.Lg Go.Proofs.Bx
set_option maxRecDepth 20000
theorem rmL_mem {l:List Sl} (h:(ids l).Nodup) (i j:Bs):i∈ids (rmL l j)↔i∈ids l∧i≠j:=by
 rw[rmL_filter l j h]
 unfold ids
 simp only[List.mem_map,List.mem_filter,Bool.not_eq_true',decide_eq_false_iff_not]
 constructor
 ·rintro ⟨e,⟨h1,h2⟩,rfl⟩
  exact⟨⟨e,h1,rfl⟩,h2⟩
 ·rintro ⟨⟨e,h1,rfl⟩,h2⟩
  exact⟨e,⟨h1,h2⟩,rfl⟩
theorem rmL_nodup {l:List Sl} (h:(ids l).Nodup) (j:Bs):(ids (rmL l j)).Nodup:=((rmL_sub l j).map _).nodup h
theorem rms_mem:∀(A:List Bs) {l:List Sl},(ids l).Nodup→∀i,i∈ids (rms l A)↔i∈ids l∧i ∉ A
 | [],_,_,i=>by simp[rms]
 | j::A,l,h,i=>by
  rw[rms,rms_mem A (rmL_nodup h j),rmL_mem h,List.mem_cons]
  constructor
  ·rintro ⟨⟨h1,h2⟩,h3⟩
   exact⟨h1,fun c=>c.elim h2 h3⟩
  ·rintro ⟨h1,h2⟩
   exact⟨⟨h1,fun c=>h2 (.inl c)⟩,fun c=>h2 (.inr c)⟩
theorem rms_app:∀(A:List Bs) (l:List Sl) (i:Bs),rms l (A++[i])=rmL (rms l A) i
 | [],_,_=>rfl
 | j::A,l,i=>by rw[List.cons_append,rms,rms_app A,rms]
theorem ackR_inj {u:Nat} {i j:Bs} (h:ackR u i=ackR u j):i=j:=by
 unfold ackR at h
 injection h with _ h
 injection h
theorem ack_mem (u:Nat) (A:List Bs) (i:Bs):ackR u i∈A.map (ackR u)↔i∈A:=by
 rw[List.mem_map]
 exact⟨fun ⟨j,h1,h2⟩=>by rw[←ackR_inj h2];exact h1,fun h=>⟨i,h,rfl⟩⟩
theorem ackR_len {u:Nat} {i:Bs} (h:i.length=16):(ackR u i).length=18:=by
 unfold ackR
 rw[List.length_cons,List.length_cons,h]
set_option maxHeartbeats 4000000 in
theorem xacks_any (w wa:World) (p:Nat) (F:Nat→Prop) (s:St) (q:Nat) (v:Value) (x:Lo) (b quota:Nat) (vs:List Value) (bx:Bxs) (u:Nat) (hu:u < 64) (gb:Gx bx) (hlu:(bx u).length≤30000) (a:Option Addr) (n c:Nat) (m:List Bs) (hn:m.length=n) (hnb:n≤256) (h16:∀i∈m,i.length=16) (tx:Hid (TxAt wa a m)) (k:Hid (Py w wa p F s q v x b quota vs bx)) :
  Calls Tryz.prog 44 #[.pointer (some ⟨b,0,none⟩),.int .i64 (u:Int),.slice a n c] wa fun e w'=>∃a' c',e = .returned (.slice a' (aks (bx u) m).length c')∧TxAt w' a' ((aks (bx u) m).map (ackR u))∧(∀y,a'=some y→wa.heap.size≤y.block)∧Below wa.heap.size wa w':=by
 have HN:Hid (m.length=n):=hn
 have H16:Hid (∀i∈m,i.length=16):=h16
 obtain⟨a1,n1,c1,cu,sl⟩:=k.out.cell hu
 have CU:Hid (∀W,Below wa.heap.size wa W→W.cell? ⟨b,1+u,none⟩=some (.slice a1 n1 c1)):=fun W hb=>cell_later hb cu
 have HS:Hid (∀W (i:Bs),Below wa.heap.size wa W→Calls Tryz.prog 40 #[.slice a1 n1 c1,.string (st i)] W fun e w'=>e = .returned (.bool (decide (i∈ids (bx u))))∧Below W.heap.size W w'):=fun W i hb=>xhas_any a1 n1 c1 (bx u) (st i) sl.len (by have:=sl.len;omega) W (sl.at_.later hb)
 have AR:Hid (∀W (i:Bs),i.length=16→Calls Tryz.prog 75 #[.int .i64 (u:Int),.string (st i)] W fun e w'=>e = .returned (.string (st (ackR u i)))∧Below W.heap.size W w'):=fun W i hi=>xack_any u hu i hi W
 have CT:Hid (∀W (v:Value) (A:List Bs) (i:Bs),A.length≤1000→W.ownsRow wa.heap.size 9 1 v A.length (scs (A.map (ackR u)))→∃aa cc,v = .slice aa A.length cc∧Hid (Calls Tryz.prog 76 #[.slice aa A.length cc,.string (st (ackR u i))] W fun e w'=>e = .returned (.bool (decide (i∈A)))∧w'=W)):=fun W v A i hA o=>by
  obtain⟨aa,cc,e,t,-⟩:=owns_tx (l:=A.map (ackR u)) (by rw[List.length_map]) o
  refine⟨aa,cc,e,?_⟩
  have:=scontains_any aa A.length cc (A.map (ackR u)) (by rw[List.length_map]) (by omega) (st (ackR u i)) W t
  have e2:decide ((st (ackR u i)).data.toList∈A.map (ackR u))=decide (i∈A):=by
   by_cases hh:i∈A
   ·rw[decide_eq_true hh];exact decide_eq_true ((ack_mem u A i).2 hh)
   ·rw[decide_eq_false hh];exact decide_eq_false (fun z=>hh ((ack_mem u A i).1 z))
  rw[e2] at this
  exact this
 have AP:Hid (∀(W:World) (v:Value) (A:List Bs) (i:Bs),A.length≤1000→W.ownsRow wa.heap.size 9 1 v A.length (scs (A.map (ackR u)))→wa.heap.size≤W.heap.size→∃v' W2,(Builtin.append_ #[37, 37] 37 #[v,.slice (some ⟨W.heap.size,0,none⟩) 1 1]).run Tryz.prog (W.alloc (.cells #[.string (st (ackR u i))] 9)) = .ok v' W2∧Hid (W2.ownsRow wa.heap.size 9 1 v' (A++[i]).length (scs ((A++[i]).map (ackR u)))∧Below wa.heap.size W W2)):=fun W v A i hA o hb=>by
  have o':W.ownsRow wa.heap.size 9 1 v (A.map (ackR u)).length (scs (A.map (ackR u))):=by rw[List.length_map];exact o
  obtain⟨v',W2,r1,r2,r3⟩:=app_str1 wa.heap.size W 37 v (A.map (ackR u)) o' hb (by rw[List.length_map];omega) (ackR u i)
  refine⟨v',W2,r1,?_,r3⟩
  rw[List.map_append]
  rw[List.length_append,List.length_map,List.length_singleton] at r2
  rw[List.length_append,List.length_singleton]
  exact r2
 have nd:=gb.n u
 have ST0:Hid (∀(A:List Bs) (j:Nat) (hj:j < m.length),A++aks (rms (bx u) A) (m.drop j)=aks (bx u) m→(m[j]∈ids (bx u)∧m[j] ∉ A→(A++[m[j]])++aks (rms (bx u) (A++[m[j]])) (m.drop (j+1))=aks (bx u) m)∧(¬(m[j]∈ids (bx u)∧m[j] ∉ A)→A++aks (rms (bx u) A) (m.drop (j+1))=aks (bx u) m)):=fun A j hj e=>by
  rw[List.drop_eq_getElem_cons hj,aks] at e
  constructor
  ·intro hh
   rw[if_pos ((rms_mem A nd _).2 hh)] at e
   rw[rms_app,List.append_assoc]
   exact e
  ·intro hh
   rw[if_neg (fun z=>hh ((rms_mem A nd _).1 z))] at e
   exact e
 obtain⟨Rr,hRr⟩:∃R,aks (bx u) m=R:=⟨_,rfl⟩
 rw[hRr] at ST0
 have I0:Hid (([]:List Bs)++aks (rms (bx u) []) (m.drop 0)=Rr):=hRr
 have hRl:Rr.length≤256:=by rw[←hRr];have:=(aks_len m (bx u)).1;omega
 rw[hRr]
 have FIN:Hid (∀(W:World) (v:Value),W.ownsRow wa.heap.size 9 1 v Rr.length (scs (Rr.map (ackR u)))→Below wa.heap.size wa W→∃a' c',v = .slice a' Rr.length c'∧Hid (TxAt W a' (Rr.map (ackR u))∧(∀y,a'=some y→wa.heap.size≤y.block)∧Below wa.heap.size wa W)):=fun W v o hb=>by
  obtain⟨aa,cc,e,t,-⟩:=owns_tx (l:=Rr.map (ackR u)) (by rw[List.length_map]) o
  refine⟨aa,cc,e,t,fun y hy => ?_,hb⟩
  exact (o.lt y.block (by rw[e,hy];rfl)).1
 have g0:(0:Int)≤(u:Int):=by omega
 have g64:(u:Int) < 64:=by omega
 have TXL:Hid (∀W,Below wa.heap.size wa W→TxAt W a m):=fun W hb=>tx.out.later hb
 clear k tx hn h16 sl cu gb nd hRr hlu
 go_enter Tryz.func44, Tryz.ntmps44
 go_wp2_with fail
 go_loopw [7,13] (fun sv i wx=>∃(j:Nat) (A:List Bs),j≤n∧A.length≤j∧i = .int .i64 (j:Int)∧Hid (A++aks (rms (bx u) A) (m.drop j)=Rr∧wx.ownsRow wa.heap.size 9 1 sv A.length (scs (A.map (ackR u)))∧Below wa.heap.size wa wx)) (fun _ i _=>n - (intOf i).toNat)
 case atStart=>exact⟨0,[],by omega,Nat.le_refl _,rfl,I0.out,World.ownsRow_nil _ _ _ _,Below.refl _ _⟩
 case round =>
  obtain⟨j,A,hj,hAj,rfl,I⟩:=hrel
  clear I0
  by_cases hlt:j < n
  ·have hjl:j < m.length:=by rw[HN.out];exact hlt
   have g1:(j:Int) < (n:Int):=by omega
   obtain⟨b1,o1,rfl,t1⟩:=(TXL.out _ I.out.2.2) j hjl
   have l16:=H16.out _ (List.getElem_mem hjl)
   obtain⟨aa,cc,rfl,-⟩:=CT.out _ _ A m[j] (by omega) I.out.2.1
   obtain⟨Y1,Y2⟩:=ST0.out A j hjl I.out.1
   have A1:Hid _:=AR.out wr m[j] l16
   have H1:Hid _:=fun W hb=>HS.out W m[j] hb
   have C1:Hid (∀W,Below wa.heap.size wa W→Below wr.heap.size wr W→Calls Tryz.prog 76 #[.slice aa A.length cc,.string (st (ackR u m[j]))] W fun e w'=>e = .returned (.bool (decide (m[j]∈A)))∧w'=W):=fun W hb hb2=>by
    obtain⟨aa',cc',e,Z⟩:=CT.out W (.slice aa A.length cc) A m[j] (by omega) (owns_laterS I.out.2.1 hb2)
    injection e with e1 e2 e3
    subst e1 e3
    exact Z.out
   have P1:Hid _:=fun W ow hb=>AP.out W (.slice aa A.length cc) A m[j] (by omega) ow hb
   have OW:Hid (∀W,Below wr.heap.size wr W→W.ownsRow wa.heap.size 9 1 (.slice aa A.length cc) A.length (scs (A.map (ackR u)))∧Below wa.heap.size wa W):=fun W hb=>⟨owns_laterS I.out.2.1 hb,chain I.out.2.2 hb⟩
   unfold sv at t1
   obtain⟨X,hX⟩:∃X,st m[j]=X:=⟨_,rfl⟩
   obtain⟨P,hP⟩:∃X,st (ackR u m[j])=X:=⟨_,rfl⟩
   rw[hX] at t1 A1 H1
   rw[hP] at A1 C1 P1
   by_cases hin:m[j]∈ids (bx u)
   ·rw[decide_eq_true hin] at H1
    by_cases hA:m[j]∈A
    ·rw[decide_eq_true hA] at C1
     have E1:Hid _:=Y2 (fun z=>z.2 hA)
     clear hX hP I Y1 Y2 P1 hin hA l16
     go_wp2_with fail
     refine Calls.mono A1.out ?_
     rintro e w2 ⟨rfl,hb2⟩
     have x2:=CU.out w2 (OW.out _ hb2).2
     clear A1 t1
     go_wp2_with fail
     refine Calls.mono (H1.out _ (OW.out _ hb2).2) ?_
     rintro e w3 ⟨rfl,hb3⟩
     have B3:Hid _:=chain hb2 hb3
     clear H1 x2 hb2 hb3
     go_wp2_with fail
     refine Calls.mono (C1.out _ (OW.out _ B3.out).2 B3.out) ?_
     rintro e w4 ⟨rfl,rfl⟩
     have J:Hid _:=OW.out _ B3.out
     clear C1 OW B3
     go_wp2
     go_roundw
     case rel=>exact⟨j+1,A,by omega,by omega,by go_num,E1.out,J.out⟩
     case measure=>simp[intOf];omega
    ·rw[decide_eq_false hA] at C1
     have E1:Hid _:=Y1 ⟨hin,hA⟩
     clear hX hP I Y1 Y2 hin hA l16
     go_wp2_with fail
     refine Calls.mono A1.out ?_
     rintro e w2 ⟨rfl,hb2⟩
     have x2:=CU.out w2 (OW.out _ hb2).2
     clear A1 t1
     go_wp2_with fail
     refine Calls.mono (H1.out _ (OW.out _ hb2).2) ?_
     rintro e w3 ⟨rfl,hb3⟩
     have B3:Hid _:=chain hb2 hb3
     clear H1 x2 hb2 hb3
     go_wp2_with fail
     refine Calls.mono (C1.out _ (OW.out _ B3.out).2 B3.out) ?_
     rintro e w4 ⟨rfl,rfl⟩
     obtain⟨o4,b4⟩:=OW.out _ B3.out
     obtain⟨v',W2,r1,F5⟩:=P1.out w4 o4 b4.size
     have R1:Hid _:=r1
     have J:Hid _:=(show _∧_ from ⟨F5.out.1,b4.trans F5.out.2⟩)
     clear C1 OW B3 P1 o4 b4 r1 F5
     go_wp2_with (at_builtin;refine Go.Lib.wpList_append_run _ rfl _ _ _ _ rfl _ _ rfl rfl _ _ R1.out ?_)
     go_roundw
     case rel=>exact⟨j+1,A++[m[j]],by omega,by rw[List.length_append,List.length_singleton];omega,by go_num,E1.out,J.out⟩
     case measure=>simp[intOf];omega
   ·rw[decide_eq_false hin] at H1
    have E1:Hid _:=Y2 (fun z=>hin z.1)
    clear hX hP I Y1 Y2 P1 hin l16 C1
    go_wp2_with fail
    refine Calls.mono A1.out ?_
    rintro e w2 ⟨rfl,hb2⟩
    have x2:=CU.out w2 (OW.out _ hb2).2
    clear A1 t1
    go_wp2_with fail
    refine Calls.mono (H1.out _ (OW.out _ hb2).2) ?_
    rintro e w3 ⟨rfl,hb3⟩
    have J:Hid _:=OW.out _ (chain hb2 hb3)
    clear H1 x2 hb2 hb3 OW
    go_wp2
    go_roundw
    case rel=>exact⟨j+1,A,by omega,by omega,by go_num,E1.out,J.out⟩
    case measure=>simp[intOf];omega
  ·obtain rfl:j=n:=by omega
   have g1:¬(j:Int) < (j:Int):=by omega
   have EA:A=Rr:=by
    have:=I.out.1
    rw[List.drop_of_length_le (by rw[HN.out];exact Nat.le_refl _),aks,List.append_nil] at this
    exact this
   subst EA
   obtain⟨a',c',rfl,F5⟩:=FIN.out _ _ I.out.2.1 I.out.2.2
   clear I FIN
   go_wp2
   go_ret
   first
   | exact⟨a',c',rfl,F5.out⟩
   | exact⟨a',⟨c',rfl⟩,F5.out⟩
theorem xstick_any (w wa:World) (p:Nat) (F:Nat→Prop) (s:St) (q:Nat) (v:Value) (x:Lo) (b quota:Nat) (vs:List Value) (bx:Bxs) (a:Option Addr) (n c:Nat) (hg:x.g < 2147483647) (k:Hid (Py w wa p F s q v x b quota vs bx)) :
  Calls Tryz.prog 45 #[.pointer (some ⟨b,0,none⟩),.slice a n c] wa fun e w'=>e = .returned (.bool false)∧w'=wa:=by
 have GE:Hid _:=lgeneration_any q p _ _ _ v x.ts _ _ [] wa k.out.lz.hd_.hf
 have c0:=k.out.bk.c 0 _ rfl
 have g:¬(x.g:Int)=2147483647:=by omega
 obtain⟨z,hz⟩:∃z:Int,(x.g:Int)=z:=⟨_,rfl⟩
 rw[hz] at GE g
 clear k hz hg
 go_enter Tryz.func45, Tryz.ntmps45
 go_wp2_with fail
 refine Calls.mono GE.out ?_
 rintro e w2 ⟨rfl,rfl⟩
 clear GE
 go_wp2
 go_ret
 exact⟨rfl,rfl⟩
theorem aks_sub:∀(m:List Bs) (l:List Sl),∀i∈aks l m,i∈m
 | [],_,_,h=>h
 | a::m,l,i,h=>by
  rw[aks] at h
  by_cases c:a∈ids l
  ·rw[if_pos c] at h
   rcases List.mem_cons.1 h with h|h
   ·rw[h];exact List.mem_cons_self ..
   ·exact List.mem_cons_of_mem _ (aks_sub m _ i h)
  ·rw[if_neg c] at h
   exact List.mem_cons_of_mem _ (aks_sub m _ i h)
set_option maxHeartbeats 8000000 in
theorem xackB_any (w:World) (p q b quota:Nat) (s:St) (x:Lo) (bx:Bxs) (F:Nat→Prop) (v:Value) (vs:List Value) (u:Int) (a:Option Addr) (n c:Nat) (m:List Bs) (hn:m.length=n) (hnb:n≤10000000000000) (hg:x.g < 2147483647) (gb:Gx bx) (hm:manyX bx 64≤30000) (hl:s.l.length+60000≤1000000) (hk:Hid (Kh w)) (wa:World) (tx:Hid (TxAt wa a m)) (k:Hid (Py w wa p F s q v x b quota vs bx)) :
  Calls Tryz.prog 23 #[.pointer (some ⟨b,0,none⟩),.int .i64 u,.slice a n c] wa fun e w'=>e = .returned (.tuple #[.int .i64 ((akX s x bx u m).1:Int),.int .i64 (akX s x bx u m).2.1.1.1])∧PyP w wa (FB F q v b vs) p q b quota (akX s x bx u m).2.1.1.2 (akX s x bx u m).2.1.2 (akX s x bx u m).2.2 w':=by
 have US:Hid _:=xuser_any u wa
 have HN:Hid (m.length=n):=hn
 have ID:Hid (∀W (i:Bs),Calls Tryz.prog 38 #[.string (st i)] W fun e w'=>e = .returned (.bool (okI i))∧Below W.heap.size W w'):=fun W i=>xid_any (st i) W
 have STAY:Hid (∀W,Below wa.heap.size wa W→PyP w wa (FB F q v b vs) p q b quota s x bx W):=fun W hb=>k.out.start.later hb
 have TXL:Hid (∀W,Below wa.heap.size wa W→TxAt W a m):=fun W hb=>tx.out.later hb
 obtain⟨R,hR⟩:∃R,akX s x bx u m=R:=⟨_,rfl⟩
 have HR:Hid (akX s x bx u m=R):=hR
 rw[hR]
 cases hU:noU u with
 | true =>
  unfold akX at hR
  rw[if_pos hU] at hR
  rw[hU] at US
  have FF:Hid _:=STAY.out wa (Below.refl _ _)
  have ER:Hid _:=hR
  clear hR HR k hU STAY ID TXL tx hn
  go_enter Tryz.func23, Tryz.ntmps23
  go_wp2_with fail
  refine Calls.mono US.out ?_
  rintro e w2 ⟨rfl,rfl⟩
  clear US
  go_wp2
  go_ret2
  exact⟨by rw[←ER.out];rfl,by rw[←ER.out];exact FF.out⟩
 | false =>
  obtain⟨u,rfl,hu⟩:=noU_nat hU
  rw[hU] at US
  have hlu:(bx u).length≤30000:=by have:=manyX_at 64 bx u hu;omega
  have BAD:Hid (∀j (hj:j < m.length),okI m[j]=false→R=(0,(((3,s),x),bx))):=fun j hj hh=>by
   rw[←HR.out]
   unfold akX
   rw[if_neg (by rw[hU];simp),if_pos (List.any_eq_true.2 ⟨m[j],List.getElem_mem hj,by rw[hh];rfl⟩)]
  have GOOD:Hid ((∀j (hj:j < m.length),okI m[j]=true)→R=(if 256 < m.length then (0,(((2,s),x),bx)) else if aks (bx u) m=[] then (0,(((0,s),x),bx)) else (if (wrX s x bx (upB bx u (rms (bx u) m)) ((aks (bx u) m).map (ackR u))).1.1.1=0 then (aks (bx u) m).length else 0,wrX s x bx (upB bx u (rms (bx u) m)) ((aks (bx u) m).map (ackR u))))):=fun hh=>by
   rw[←HR.out]
   unfold akX
   rw[if_neg (by rw[hU];simp),if_neg (fun z=>by
    obtain⟨i,h1,h2⟩:=List.any_eq_true.1 z
    obtain⟨j,hj,e⟩:=List.mem_iff_getElem.1 h1
    have:=hh j hj
    rw[e] at this
    rw[this] at h2
    cases h2),Int.toNat_natCast]
  have AK:Hid (∀W,Below wa.heap.size wa W→(∀j (hj:j < m.length),okI m[j]=true)→n≤256→Calls Tryz.prog 44 #[.pointer (some ⟨b,0,none⟩),.int .i64 (u:Int),.slice a n c] W fun e w'=>∃a' c',e = .returned (.slice a' (aks (bx u) m).length c')∧Hid (TxAt w' a' ((aks (bx u) m).map (ackR u))∧(∀y,a'=some y→W.heap.size≤y.block)∧Below W.heap.size W w')):=fun W hb hh h2 =>
   (xacks_any w W p F s q v x b quota vs bx u hu gb hlu a n c m hn h2 (fun i hi=>by
    obtain⟨j,hj,e⟩:=List.mem_iff_getElem.1 hi
    rw[←e]
    exact okI_len (hh j hj)) (TXL.out W hb) (k.out.later hb)).mono fun _ _ ⟨a',c',e1,e2⟩=>⟨a',c',e1,e2⟩
  have WS:Hid (∀W a n c,Below wa.heap.size wa W→Calls Tryz.prog 45 #[.pointer (some ⟨b,0,none⟩),.slice a n c] W fun e w'=>e = .returned (.bool false)∧w'=W):=fun W a n c hb=>xstick_any w W p F s q v x b quota vs bx a n c hg (k.out.later hb)
  have gc:Gx (upB bx u (rms (bx u) m)):=(Gm.rms (n:=manyX bx 64) m ⟨gb,Nat.le_refl _⟩ hu).g
  have hmc:manyX (upB bx u (rms (bx u) m)) 64≤50000:=by
   have:=(Gm.rms (n:=manyX bx 64) m ⟨gb,Nat.le_refl _⟩ hu).m
   omega
  have WR:Hid (∀W W2 a' c',Below wa.heap.size wa W→Below W.heap.size W W2→(∀j (hj:j < m.length),okI m[j]=true)→n≤256→TxAt W2 a' ((aks (bx u) m).map (ackR u))→(∀y,a'=some y→W.heap.size≤y.block)→Calls Tryz.prog 41 #[.pointer (some ⟨b,0,none⟩),.slice a' (aks (bx u) m).length c'] W2 fun e w'=>e = .returned (.int .i64 (wrX s x bx (upB bx u (rms (bx u) m)) ((aks (bx u) m).map (ackR u))).1.1.1)∧Hid (PyP w wa (FB F q v b vs) p q b quota (wrX s x bx (upB bx u (rms (bx u) m)) ((aks (bx u) m).map (ackR u))).1.1.2 (wrX s x bx (upB bx u (rms (bx u) m)) ((aks (bx u) m).map (ackR u))).1.2 (wrX s x bx (upB bx u (rms (bx u) m)) ((aks (bx u) m).map (ackR u))).2 w')):=fun W W2 a' c' hb hb2 hh h2 t2 hnew=>by
   have h16:∀i∈m,i.length=16:=fun i hi=>by
    obtain⟨j,hj,e⟩:=List.mem_iff_getElem.1 hi
    rw[←e]
    exact okI_len (hh j hj)
   have hal:=(aks_len m (bx u)).1
   have hb3:=chain hb hb2
   have hws:=hb.size
   refine (xwrite_any w p q b quota s x bx (upB bx u (rms (bx u) m)) F v vs a' (aks (bx u) m).length c' ((aks (bx u) m).map (ackR u)) (by rw[List.length_map]) (by omega) (fun r hr => ?_) (aks_tk m bx u hu h16) (fun z => ?_) gc hmc hl hk W2 (k.out.later hb3) t2 (fun y e h0=>⟨t2.lt y e h0,fun cc => ?_⟩)).mono fun _ w' ⟨e1,e2⟩=>⟨e1,e2.trans (Nx.refl _ _) (Bf.of hb3)⟩
   ·obtain⟨i,hi,rfl⟩:=List.mem_map.1 hr
    have hi2:=aks_sub m (bx u) i hi
    rw[ackR_len (h16 i hi2)]
    exact⟨by decide,by decide⟩
   ·by_cases hz:z < 64
    ·have:=manyX_at 64 bx z hz;omega
    ·rw[gb.u z (by omega)];simp
   ·have:=hnew y e
    have:=(k.out.lz.fh cc).1
    omega
  clear hR HR k hU tx hn gb gc hmc hm hl hk hg hlu
  go_enter Tryz.func23, Tryz.ntmps23
  go_wp2_with fail
  refine Calls.mono US.out ?_
  rintro e w2 ⟨rfl,hw2⟩
  subst hw2
  clear US
  go_wp2_with fail
  go_loopw [17] (fun i wx=>∃j:Nat,j≤n∧i = .int .i64 (j:Int)∧Hid ((∀o (ho:o < m.length),o < j→okI m[o]=true)∧Below w2.heap.size w2 wx)) (fun i _=>n - (intOf i).toNat)
  case atStart=>exact⟨0,Nat.zero_le _,rfl,fun _ _ z=>absurd z (Nat.not_lt_zero _),Below.refl _ _⟩
  case round =>
   obtain⟨j,hj,rfl,I⟩:=hrel
   by_cases hlt:j < n
   ·have hjl:j < m.length:=by rw[HN.out];exact hlt
    have g1:(j:Int) < (n:Int):=by omega
    obtain⟨b1,o1,rfl,t1⟩:=(TXL.out _ I.out.2) j hjl
    have I1:Hid _:=ID.out wr m[j]
    have BD:=BAD.out j hjl
    unfold sv at t1
    obtain⟨X,hX⟩:∃X,st m[j]=X:=⟨_,rfl⟩
    rw[hX] at t1 I1
    clear hX
    cases ho:okI m[j] with
    | false =>
     have ER:Hid _:=BD ho
     rw[ho] at I1
     have IB:Hid _:=I.out.2
     clear ho BD I WR AK GOOD BAD WS
     go_wp2_with fail
     refine Calls.mono I1.out ?_
     rintro e w3 ⟨rfl,hb3⟩
     have FF:Hid _:=STAY.out _ (chain IB.out hb3)
     clear I1 t1 STAY IB hb3
     go_wp2
     go_ret2
     exact⟨by rw[ER.out];rfl,by rw[ER.out];exact FF.out⟩
    | true =>
     rw[ho] at I1
     have IB:Hid _:=I.out.2
     have IG:Hid (∀o (ho:o < m.length),o < j+1→okI m[o]=true):=fun o h1 h2=>by
      by_cases e:o=j
      ·subst e;exact ho
      ·exact I.out.1 o h1 (by omega)
     clear ho BD I
     go_wp2_with fail
     refine Calls.mono I1.out ?_
     rintro e w3 ⟨rfl,hb3⟩
     have B3:Hid _:=chain IB.out hb3
     clear I1 t1 IB hb3
     go_wp2
     go_roundw
     case rel=>exact⟨j+1,by omega,by go_num,IG.out,B3.out⟩
     case measure=>simp[intOf];omega
   ·obtain rfl:j=n:=by omega
    have g1:¬(j:Int) < (j:Int):=by omega
    have ALL:∀o (ho:o < m.length),okI m[o]=true:=fun o h1=>I.out.1 o h1 (by have:=HN.out;omega)
    have ER0:=GOOD.out ALL
    have IB:Hid _:=I.out.2
    by_cases h256:256 < j
    ·rw[if_pos (by rw[HN.out];exact h256)] at ER0
     have g2:(256:Int) < (j:Int):=by omega
     have ER:Hid _:=ER0
     have FF:Hid _:=STAY.out _ IB.out
     clear ER0 ALL I WR AK GOOD BAD WS STAY IB
     go_wp2
     go_ret2
     exact⟨by rw[ER.out];rfl,by rw[ER.out];exact FF.out⟩
    ·rw[if_neg (by rw[HN.out];exact h256)] at ER0
     have g2:¬(256:Int) < (j:Int):=by omega
     have A1:Hid _:=AK.out _ IB.out ALL (by omega)
     have W1:Hid _:=fun W2 a' c' hb t hnew=>WR.out wr W2 a' c' IB.out hb ALL (by omega) t hnew
     obtain⟨N,hN⟩:∃N,(aks (bx u) m).length=N:=⟨_,rfl⟩
     have hNz:aks (bx u) m=[]↔N=0:=by rw[←hN];exact List.length_eq_zero_iff.symm
     rw[hN] at A1 W1 ER0
     obtain⟨Wx,hWx⟩:∃Z,wrX s x bx (upB bx u (rms (bx u) m)) ((aks (bx u) m).map (ackR u))=Z:=⟨_,rfl⟩
     rw[hWx] at W1 ER0
     clear hN hWx ALL I WR AK GOOD BAD h256
     by_cases h0:N=0
     ·rw[if_pos (hNz.2 h0)] at ER0
      have ER:Hid _:=ER0
      subst h0
      clear ER0 hNz W1 WS
      go_wp2_with fail
      refine Calls.mono A1.out ?_
      rintro e w3 ⟨a',c',rfl,H3⟩
      have FF:Hid _:=STAY.out _ (chain IB.out H3.out.2.2)
      clear A1 H3 STAY IB
      go_wp2
      go_ret2
      exact⟨by rw[ER.out];rfl,by rw[ER.out];exact FF.out⟩
     ·rw[if_neg (fun z=>h0 (hNz.1 z))] at ER0
      have g3:¬(N:Int)=0:=by omega
      clear hNz h0 STAY
      go_wp2_with fail
      refine Calls.mono A1.out ?_
      rintro e w3 ⟨a',c',rfl,H3⟩
      have S1:Hid _:=WS.out w3 a' N c' (chain IB.out H3.out.2.2)
      have W2:Hid _:=W1.out w3 a' c' H3.out.2.2 H3.out.1 H3.out.2.1
      clear A1 H3 WS W1 IB
      go_wp2_with fail
      refine Calls.mono S1.out ?_
      rintro e w4 ⟨rfl,hw4⟩
      subst hw4
      clear S1
      go_wp2_with fail
      refine Calls.mono W2.out ?_
      rintro e w5 ⟨rfl,H5⟩
      clear W2
      by_cases hz:Wx.1.1.1=0
      ·rw[if_pos hz] at ER0
       have ER:Hid _:=ER0
       have EZ:Hid (Wx.1.1.1=0):=hz
       obtain⟨y,hy⟩:∃y,Wx.1.1.1=y:=⟨_,rfl⟩
       rw[hy] at hz ⊢
       subst hz
       clear ER0
       go_wp2
       go_ret2
       exact⟨by rw[ER.out,EZ.out];rfl,by rw[ER.out];exact H5.out⟩
      ·rw[if_neg hz] at ER0
       have ER:Hid _:=ER0
       obtain⟨y,hy⟩:∃y,Wx.1.1.1=y:=⟨_,rfl⟩
       have EY:Hid (Wx.1.1.1=y):=hy
       rw[hy] at hz ⊢
       clear ER0 hy
       go_wp2
       go_ret2
       exact⟨by rw[ER.out,EY.out];rfl,by rw[ER.out];exact H5.out⟩
theorem app_slot1 (base:Nat) (W:World) (ty:TypeId) (v:Value) (L:List Sl) (h:W.ownsRow base 58 2 v L.length (scx L)) (hb:base≤W.heap.size) (hl:L.length≤1000000) (e:Sl) :
  ∃v' W2,(Builtin.append_ #[45, 45] ty #[v,.slice (some ⟨W.heap.size,0,none⟩) 1 1]).run Tryz.prog (W.alloc (.cells #[.string (st e.1),.string (st e.2)] 58)) = .ok v' W2∧W2.ownsRow base 58 2 v' (L++[e]).length (scx (L++[e]))∧Below base W W2∧(∀q o val,v.ownBlock≠some q→W.cell? ⟨q,o,none⟩=some val→W2.cell? ⟨q,o,none⟩=some val):=by
 obtain⟨i0,hi,hz0,hz1,hz2⟩:=info_parts infoX
 have hown:(W.alloc (.cells #[.string (st e.1),.string (st e.2)] 58)).ownsRow base 58 2 v L.length (scx L):=h.alloc _
 have he:SlAt (W.alloc (.cells #[.string (st e.1),.string (st e.2)] 58)) (some ⟨W.heap.size,0,none⟩) [e]:=fun i hi=>by
  obtain rfl:i=0:=by simpa using hi
  exact⟨W.heap.size,0,rfl,by rw[World.cell?_alloc_new];rfl,by rw[World.cell?_alloc_new];rfl⟩
 obtain⟨v',w',r1,r2,r3,-,-⟩:=run_append_own_at (P:=Tryz.prog) (W.alloc (.cells #[.string (st e.1),.string (st e.2)] 58)) base 45 ty 58 i0 _ 2 32 Tryz.underlying45 hi hz0 hz1 hz2 rfl (by decide) v L.length (scx L) hown ⟨W.heap.size,0,none⟩ 1 1 (scx [e]) rfl (fun j u hj=>he.cells j u hj) (scx_one _) (by unfold maxLen;omega) (by omega) (by simp;omega)
 refine⟨v',w',r1,?_,?_,?_⟩
 ·rw[scx_app,List.length_append]
  exact r2
 ·exact ((Below.refl base W).alloc hb _).grown r3 (by simp;omega) (fun q hq=>(hown.lt q hq).1)
 ·intro q o val hq hc
  have hc2:=cell_alloc (o := .cells #[.string (st e.1),.string (st e.2)] 58) hc
  exact (World.cell?_of_block (a:=⟨q,o,none⟩) (r3.block q (World.block_lt_of_cell? _ _ hc2) (fun c=>hq c.symm))).trans hc2
theorem owns_laterX {w w':World} {base:Nat} {v:Value} {n:Nat} {xs:List Value} (h:w.ownsRow base 58 2 v n xs) (hb:Below w.heap.size w w'):w'.ownsRow base 58 2 v n xs:=by
 refine⟨h.1,?_⟩
 rcases h.2 with h2|⟨g,cap,cur,rfl,hg,hh,hr⟩
 ·exact .inl h2
 ·exact .inr ⟨g,cap,cur,rfl,hg,(hb.block g (Array.getElem?_eq_some_iff.1 hh).1).trans hh,hr⟩
theorem sl_head0 (a:Option Addr) (n c i:Nat) (hi:i≤n) (hc:n≤c) (h0:a=none→n=0∧c=0) (hs:∀x,a=some x→x.spot=none) (W:World):(Instr.slice 83 (.slice a n c) none (some (.int .i64 (i:Int))) none).run Tryz.prog W = .ok (.slice a i c) W:=by
 cases a with
 | none =>
  obtain⟨rfl,rfl⟩:=h0 rfl
  obtain rfl:i=0:=by omega
  simp[go_sem]
 | some x =>
  obtain⟨b,o,sp⟩:=x
  have:sp=none:=hs _ rfl
  subst this
  exact sl_head b o n c i hi hc W
def opfi0:Oper:={ dst:=some 39,op:=Go.Op.move (Go.Operand.tmp 8),type := 45, pos := "boxes.go:67", after:=#[],guard:=none }
def opfi1:Oper:={ dst:=some 40,op:=Go.Op.fieldAddr 58 (Go.Operand.tmp 10) 0,type:=0,pos := "boxes.go:67", after:=#[],guard:=none }
def opfi2:Oper:={ dst:=some 41,op:=Go.Op.load 9 (Go.Operand.tmp 40),type := 9, pos := "boxes.go:67", after:=#[{ on:=1,ground:=Go.Ground.data }],guard:=none }
def opfi3:Oper:={ dst:=some 42,op:=Go.Op.call { callee:=Go.Callee.value (Go.Operand.func 43),args:=#[Go.Operand.tmp 41],argTypes:=#[9] },type := 9, pos := "boxes.go:67", after:=#[{ on:=2,ground:=Go.Ground.data }],guard:=none }
def opfi4:Oper:={ dst:=some 43,op:=Go.Op.fieldAddr 58 (Go.Operand.tmp 10) 1,type:=0,pos := "boxes.go:67", after:=#[],guard:=none }
def opfi5:Oper:={ dst:=some 44,op:=Go.Op.load 9 (Go.Operand.tmp 43),type := 9, pos := "boxes.go:67", after:=#[{ on:=4,ground:=Go.Ground.data }],guard:=none }
def opfi6:Oper:={ dst:=some 45,op:=Go.Op.call { callee:=Go.Callee.value (Go.Operand.func 43),args:=#[Go.Operand.tmp 44],argTypes:=#[9] },type := 9, pos := "boxes.go:67", after:=#[{ on:=5,ground:=Go.Ground.data },{ on:=3,ground:=Go.Ground.chain }],guard:=none }
def opfi7:Oper:={ dst:=some 46,op:=Go.Op.build 58 #[(0,Go.Operand.tmp 42),(1,Go.Operand.tmp 45)],type := 58, pos := "boxes.go:67", after:=#[{ on:=3,ground:=Go.Ground.data },{ on:=6,ground:=Go.Ground.data }],guard:=none }
def opfi8:Oper:={ dst:=some 47,op:=Go.Op.buildSlice 45 1 #[(0,Go.Operand.tmp 46)],type := 45, pos := "boxes.go:67", after:=#[{ on:=7,ground:=Go.Ground.data }],guard:=none }
def opfi9:Oper:={ dst:=some 48,op:=Go.Op.call { callee:=Go.Callee.builtin Go.Builtin.append,args:=#[Go.Operand.tmp 39,Go.Operand.tmp 47],argTypes:=#[45, 45] },type := 45, pos := "boxes.go:67", after:=#[{ on:=0,ground:=Go.Ground.data },{ on:=8,ground:=Go.Ground.data },{ on:=6,ground:=Go.Ground.chain }],guard:=none }
def opfi10:Oper:={ dst:=some 8,op:=Go.Op.assign (Go.Operand.tmp 48),type := 45, pos := "boxes.go:67", after:=#[{ on:=9,ground:=Go.Ground.data },{ on:=9,ground:=Go.Ground.chain },{ on:=0,ground:=Go.Ground.phase },{ on:=1,ground:=Go.Ground.phase },{ on:=2,ground:=Go.Ground.phase },{ on:=3,ground:=Go.Ground.phase },{ on:=4,ground:=Go.Ground.phase },{ on:=5,ground:=Go.Ground.phase },{ on:=6,ground:=Go.Ground.phase },{ on:=7,ground:=Go.Ground.phase },{ on:=8,ground:=Go.Ground.phase },{ on:=9,ground:=Go.Ground.phase }],guard:=none }
set_option maxHeartbeats 8000000 in
theorem xfirst_any (w:World) (p q b quota:Nat) (s:St) (x:Lo) (bx:Bxs) (F:Nat→Prop) (v:Value) (vs:List Value) (u z:Int) (gb:Gx bx) (hm:manyX bx 64≤30000) (wa:World) (k:Hid (Py w wa p F s q v x b quota vs bx)) :
  Calls Tryz.prog 22 #[.pointer (some ⟨b,0,none⟩),.int .i64 u,.int .i64 z] wa fun e w'=>∃y,e = .returned (.tuple #[y,.int .i64 (fiX bx u z).1])∧w'.ownsRow wa.heap.size 58 2 y (fiX bx u z).2.length (scx (fiX bx u z).2)∧Below wa.heap.size wa w':=by
 have US:Hid _:=xuser_any u wa
 have NIL:Hid (∀W:World,W.ownsRow wa.heap.size 58 2 (.slice none 0 0) ([]:List Sl).length (scx [])):=fun W=>World.ownsRow_nil _ _ _ _
 obtain⟨R,hR⟩:∃R,fiX bx u z=R:=⟨_,rfl⟩
 rw[hR]
 unfold fiX at hR
 cases hU:noU u with
 | true =>
  rw[if_pos (.inl hU)] at hR
  rw[hU] at US
  have ER:Hid _:=hR
  clear hR k hU
  go_enter Tryz.func22, Tryz.ntmps22
  go_wp2_with fail
  refine Calls.mono US.out ?_
  rintro e w2 ⟨rfl,hw2⟩
  subst hw2
  clear US
  go_wp2
  go_ret2
  exact⟨_,by rw[←ER.out];rfl,by rw[←ER.out];exact NIL.out _,Below.refl _ _⟩
 | false =>
  rw[hU] at US
  by_cases hz0:z < 0
  ·rw[if_pos (.inr (.inl hz0))] at hR
   have ER:Hid _:=hR
   clear hR k hU
   go_enter Tryz.func22, Tryz.ntmps22
   go_wp2_with fail
   refine Calls.mono US.out ?_
   rintro e w2 ⟨rfl,hw2⟩
   subst hw2
   clear US
   go_wp2
   go_ret2
   exact⟨_,by rw[←ER.out];rfl,by rw[←ER.out];exact NIL.out _,Below.refl _ _⟩
  ·by_cases hz1:256 < z
   ·rw[if_pos (.inr (.inr hz1))] at hR
    have ER:Hid _:=hR
    clear hR k hU
    go_enter Tryz.func22, Tryz.ntmps22
    go_wp2_with fail
    refine Calls.mono US.out ?_
    rintro e w2 ⟨rfl,hw2⟩
    subst hw2
    clear US
    go_wp2
    go_ret2
    exact⟨_,by rw[←ER.out];rfl,by rw[←ER.out];exact NIL.out _,Below.refl _ _⟩
   ·rw[if_neg (by rw[hU];intro h;rcases h with h|h|h;cases h;exact hz0 h;exact hz1 h)] at hR
    obtain⟨u,rfl,hu⟩:=noU_nat hU
    rw[Int.toNat_natCast] at hR
    obtain⟨Z,rfl⟩:∃Z:Nat,z=(Z:Int):=⟨z.toNat,by omega⟩
    rw[Int.toNat_natCast] at hR
    obtain⟨a,m,c,cu,sl⟩:=k.out.cell hu
    have hml:m≤30000:=by
     have:=manyX_at 64 bx u hu
     have:=sl.len
     omega
    have LN:Hid (∀W,Below wa.heap.size wa W→Calls Tryz.prog 10 #[.pointer (some ⟨b,0,none⟩),.int .i64 (u:Int)] W fun e w'=>e = .returned (.int .i64 (m:Int))∧w'=W):=fun W hb=>by
     have:=xlen_any w W p F s q v x b quota vs bx (u:Int) (k.out.later hb)
     unfold lnX at this
     rw[if_neg (by rw[hU];simp),Int.toNat_natCast,sl.len] at this
     exact this
    obtain⟨r,hr⟩:∃r,min Z m=r:=⟨_,rfl⟩
    have hrm:r≤m:=by omega
    have hmin:min (Z:Int) (m:Int)=(r:Int):=by omega
    have hmin2:min (m:Int) (Z:Int)=(r:Int):=by omega
    have SH:=sl_head0 a m c r hrm sl.le sl.nl sl.sp
    have EL:Hid (((bx u).take Z)=(bx u).take r∧((bx u).take r).length=r):=by
     refine⟨?_,by rw[List.length_take,sl.len];omega⟩
     rw[←hr]
     by_cases h:Z≤m
     ·rw[Nat.min_eq_left h]
     ·rw[Nat.min_eq_right (by omega),List.take_of_length_le (by rw[sl.len];omega),List.take_of_length_le (by rw[sl.len];exact Nat.le_refl _)]
    rw[EL.out.1] at hR
    have ER:Hid _:=hR
    have SA:Hid (∀W,Below wa.heap.size wa W→SlAt W a (bx u)):=fun W hb=>sl.at_.later hb
    have BL:Hid ((bx u).length=m):=sl.len
    have FT:Hid (∀e∈bx u,(st e.1).size≤1000∧(st e.2).size≤1000):=fun e he=>by
     have:=gb.i u e he
     have h1:=okI_len this.1
     rw[st_size,st_size]
     omega
    have AP:Hid (∀(W:World) (y:Value) (L:List Sl) (e:Sl),W.ownsRow wa.heap.size 58 2 y L.length (scx L)→wa.heap.size≤W.heap.size→L.length≤1000000→_):=fun W y L e h1 h2 h3=>app_slot1 wa.heap.size W 45 y L h1 h2 h3 e
    have CL:Hid (∀(t:ByteArray) W,t.size≤1000→Calls Tryz.prog 43 #[.string t] W fun e w'=>e = .returned (.string t)∧Below W.heap.size W w'):=fun t W ht=>sclone_any t (by omega) W
    have g0:(0:Int)≤(u:Int):=by omega
    have g64:(u:Int) < 64:=by omega
    have gz0:¬(Z:Int) < 0:=by omega
    have gz1:¬(256:Int) < (Z:Int):=hz1
    have cu1:wa.drew.cell? ⟨b,1+u,none⟩=some (.slice a m c):=cu
    have L1:Hid _:=LN.out wa.drew (Below.refl _ _).drew
    have hr3:r≤30000:=by omega
    clear hR k hU hz0 hz1 hr sl LN hmin2 cu gb hm
    go_enter Tryz.func22, Tryz.ntmps22
    go_wp2_with fail
    refine Calls.mono US.out ?_
    rintro e w2 ⟨rfl,hw2⟩
    subst hw2
    clear US
    go_wp2_with fail
    go_region_held3 (fun w'=>w'.cell? ⟨b,1+u,none⟩=some (.slice a m c)) (first|exact cu1|assumption) (first|(go_at_call 10;refine Calls.mono L1.out ?_;rintro e w3 ⟨rfl,hw3⟩;subst hw3))
    clear cu1 L1
    go_wp2_with fail
    go_loopw [8,35] (fun y i wr=>∃j:Nat,j≤r∧i = .int .i64 (j:Int)∧Hid (wr.ownsRow w2.heap.size 58 2 y ((bx u).take j).length (scx ((bx u).take j))∧Below w2.heap.size w2 wr)) (fun _ i _=>r - (intOf i).toNat)
    case atStart=>exact⟨0,by omega,rfl,NIL.out _,(Below.refl _ _).drew⟩
    case round =>
     obtain⟨j,hj,rfl,J⟩:=hrel
     by_cases hjr:j < r
     ·have hjl:j < (bx u).length:=by rw[BL.out];omega
      have g2:(j:Int) < (r:Int):=by omega
      obtain⟨b1,o1,rfl,c0,c1⟩:=(SA.out _ J.out.2) j hjl
      have hx:=FT.out _ (List.getElem_mem hjl)
      have AX:Hid (∀W,Below wr.heap.size wr W→∃v' W2,(Builtin.append_ #[45, 45] 45 #[u8,.slice (some ⟨W.heap.size,0,none⟩) 1 1]).run Tryz.prog (W.alloc (.cells #[.string (st (bx u)[j].1),.string (st (bx u)[j].2)] 58)) = .ok v' W2∧Hid (W2.ownsRow w2.heap.size 58 2 v' ((bx u).take (j+1)).length (scx ((bx u).take (j+1)))∧Below w2.heap.size w2 W2)∧(∀o val,W.cell? ⟨wr.heap.size,o,none⟩=some val→W2.cell? ⟨wr.heap.size,o,none⟩=some val)):=fun W hb=>by
       have ow:=owns_laterX J.out.1 hb
       have s1:=J.out.2.size
       have s2:=hb.size
       obtain⟨v',W2,r1,r2,r3,r4⟩:=AP.out W u8 _ (bx u)[j] ow (by omega) (by rw[List.length_take];omega)
       refine⟨v',W2,r1,⟨?_,(J.out.2.trans (hb.mono s1)).trans r3⟩,fun o val hc=>r4 _ o val (fun e=>Nat.lt_irrefl _ (J.out.1.lt _ e).2) hc⟩
       rw[List.take_succ_eq_append_getElem hjl]
       exact r2
      have D01:Hid ((wr.alloc (.cells #[.string (st (bx u)[j].1),.string (st (bx u)[j].2)] 58)).drew.cell? ⟨wr.heap.size,0,none⟩=some (.string (st (bx u)[j].1))∧(wr.alloc (.cells #[.string (st (bx u)[j].1),.string (st (bx u)[j].2)] 58)).drew.cell? ⟨wr.heap.size,1,none⟩=some (.string (st (bx u)[j].2))):=⟨by show (wr.alloc _).cell? _=_;rw[World.cell?_alloc_new];rfl,by show (wr.alloc _).cell? _=_;rw[World.cell?_alloc_new];rfl⟩
      have hb0:Hid (Below wr.heap.size wr (wr.alloc (.cells #[.string (st (bx u)[j].1),.string (st (bx u)[j].2)] 58)).drew):=(nb wr _).drew
      unfold sv at c0 c1
      obtain⟨X1,hX1⟩:∃X,st (bx u)[j].1=X:=⟨_,rfl⟩
      obtain⟨X2,hX2⟩:∃X,st (bx u)[j].2=X:=⟨_,rfl⟩
      rw[hX1] at c0 hx
      rw[hX2] at c1 hx
      rw[hX1,hX2] at AX D01 hb0
      have C1:Hid (∀W,_):=fun W=>CL.out X1 W hx.1
      have C2:Hid (∀W,_):=fun W=>CL.out X2 W hx.2
      clear hX1 hX2 J AP CL FT SA hx
      go_wp2_with fail
      clear c0 c1
      refine wp_region_noPanic ?_
      refine wp_region_held_drew (S:=fun w'=>w'.cell? ⟨wr.heap.size,0,none⟩=some (.string X1)∧w'.cell? ⟨wr.heap.size,1,none⟩=some (.string X2)) (by kernel_rfl) (D01.out) (fun hHeld => ?_)
      obtain⟨Z,hZ⟩:∃Z,(wr.alloc (.cells #[.string X1,.string X2] 58)).drew=Z:=⟨_,rfl⟩
      rw[hZ] at hHeld hb0 ⊢
      clear hZ D01
      refine wT 0 opfi0 ?_ ?_ ?_;rotate_left
      ·intro w' hSw;clear hSw;unfold opfi0;first|(go_simp;done)|(go_simp;with_reducible rfl)
      simp only[opfi0,Act.put,wA,wB,wC]
      refine wT 1 opfi1 ?_ ?_ ?_;rotate_left
      ·intro w' hSw;clear hSw;unfold opfi1;first|(go_simp;done)|(go_simp;with_reducible rfl)
      simp only[opfi1,Act.put,wA,wB,wC]
      refine wT 2 opfi2 ?_ ?_ ?_;rotate_left
      ·intro w' hSw;have s1:=hSw.1;unfold opfi2;first|(go_simp;done)|(go_simp;with_reducible rfl)
      simp only[opfi2,Act.put,wA,wB,wC]
      refine wT 4 opfi4 ?_ ?_ ?_;rotate_left
      ·intro w' hSw;clear hSw;unfold opfi4;first|(go_simp;done)|(go_simp;with_reducible rfl)
      simp only[opfi4,Act.put,wA,wB,wC]
      refine wT 5 opfi5 ?_ ?_ ?_;rotate_left
      ·intro w' hSw;have s1:=hSw.2;unfold opfi5;first|(go_simp;done)|(go_simp;with_reducible rfl)
      simp only[opfi5,Act.put,wA,wB,wC]
      refine wpAnyH_ready (rs:=[3]) (by kernel_rfl) (by simp) ?_
      refine AllReadyH.cons (o:=opfi3) rfl (fun KK hKK => ?_) AllReadyH.nil
      unfold opfi3
      go_simp
      refine Calls.mono (C1.out _) ?_
      rintro e k1 ⟨rfl,hc1⟩
      have hb1:Hid (Below wr.heap.size wr k1):=chain hb0.out hc1
      refine hKK.out _ _ ⟨cell_later hc1 hHeld.1,cell_later hc1 hHeld.2⟩ (fun hH1 => ?_)
      clear hKK KK hHeld hc1 C1 hb0
      try simp only[opfi3,Act.put,wA,wB,wC]
      refine wpAnyH_ready (rs:=[6]) (by kernel_rfl) (by simp) ?_
      refine AllReadyH.cons (o:=opfi6) rfl (fun KK hKK => ?_) AllReadyH.nil
      unfold opfi6
      go_simp
      refine Calls.mono (C2.out _) ?_
      rintro e k2 ⟨rfl,hc2⟩
      have hb2:Hid (Below wr.heap.size wr k2):=chain hb1.out hc2
      refine hKK.out _ _ ⟨cell_later hc2 hH1.1,cell_later hc2 hH1.2⟩ (fun hH2 => ?_)
      clear hKK KK hH1 hc2 C2 hb1
      try simp only[opfi6,Act.put,wA,wB,wC]
      refine wT 7 opfi7 ?_ ?_ ?_;rotate_left
      ·intro w' hSw;clear hSw;unfold opfi7;first|(go_simp;done)|(go_simp;with_reducible rfl)
      simp only[opfi7,Act.put,wA,wB,wC]
      refine wpAnyH_ready (rs:=[8]) (by kernel_rfl) (by simp) ?_
      refine AllReadyH.cons (o:=opfi8) rfl (fun KK hKK => ?_) AllReadyH.nil
      unfold opfi8
      go_simp
      refine hKK.out _ _ ⟨cell_alloc hH2.1,cell_alloc hH2.2⟩ (fun hH3 => ?_)
      clear hKK KK
      try simp only[opfi8,Act.put,wA,wB,wC]
      refine wpAnyH_ready (rs:=[9]) (by kernel_rfl) (by simp) ?_
      refine AllReadyH.cons (o:=opfi9) rfl (fun KK hKK => ?_) AllReadyH.nil
      obtain⟨y',W5,hr,F5,KC⟩:=AX.out k2 hb2.out
      rw[if_pos (by kernel_rfl)]
      refine Go.Lib.wp_append_run _ _ _ _ _ rfl _ _ rfl rfl _ _ hr ?_
      refine hKK.out _ _ ⟨KC 0 _ hH2.1,KC 1 _ hH2.2⟩ (fun hH4 => ?_)
      clear hKK KK hr hH2 hH3 KC AX
      try simp only[opfi9,Act.put,wA,wB,wC]
      refine wT 10 opfi10 ?_ ?_ ?_;rotate_left
      ·intro w' hSw;clear hSw;unfold opfi10;first|(go_simp;done)|(go_simp;with_reducible rfl)
      simp only[opfi10,Act.put,wA,wB,wC]
      refine wpAnyH_done (by kernel_rfl) ?_ _
      refine NoPanic.normal ?_
      go_wp2
      go_roundw
      case rel=>exact⟨j+1,by omega,by go_num,F5.out⟩
      case measure=>simp[intOf];omega
     ·obtain rfl:j=r:=by omega
      have g2:¬(j:Int) < (j:Int):=by omega
      go_wp2
      go_ret2
      exact⟨_,by rw[←ER.out];rfl,by rw[←ER.out];exact J.out.1,J.out.2⟩
set_option maxHeartbeats 1000000 in
theorem yback_any (u:Nat) (hu:u < 64) (i:Bs) (hi:i.length=16) (w:World):Calls Tryz.prog 61 #[.int .i64 (u:Int),.string (st i)] w fun e w'=>e = .returned (.string (st (ackR u i)))∧Below w.heap.size w w':=by
 have e0:(u:Int) % 256=(u:Int):=by omega
 have e1:IntKind.u8.wrap (u:Int)=(u:Int):=by
  have:IntKind.u8.wrap (u:Int)=(u:Int) % 256:=by first|rfl|simp[IntKind.wrap]
  rw[this,e0]
 have BA:BytesAt (w.alloc (.cells #[.int .u8 (u:Int)] 5)) w.heap.size [UInt8.ofNat u]:=fun j hj=>by
  obtain rfl:j=0:=by simp at hj;exact hj
  refine⟨?_,by simp[go_sem]⟩
  rw[World.cell?_alloc_new]
  show some _=some (Value.int .u8 ((UInt8.ofNat u).toNat:Int))
  rw[UInt8.toNat_ofNat',Nat.mod_eq_of_lt (show u < 2 ^ 8 by omega)]
  rfl
 have CV:=BA.string (cap:=1) (n:=1) rfl
 have FF:Hid (Below w.heap.size w (w.alloc (.cells #[.int .u8 (u:Int)] 5))):=nb w _
 have s0:(st [UInt8.ofNat u]).size=1:=st_size _
 have s1:(st i).size=16:=by rw[st_size,hi]
 rw[ack_st]
 obtain⟨U,hU⟩:∃R:ByteArray,st [UInt8.ofNat u]=R:=⟨_,rfl⟩
 obtain⟨I,hI⟩:∃R:ByteArray,st i=R:=⟨_,rfl⟩
 have CV2:(convert 70 9 (.slice (some ⟨w.heap.size,0,none⟩) 1 1)).run Tryz.prog (w.alloc (.cells #[.int .u8 (u:Int)] 5)) = .ok (.string U) (w.alloc (.cells #[.int .u8 (u:Int)] 5)):=by rw[←hU];exact CV
 rw[hU] at s0 ⊢
 rw[hI] at s1 ⊢
 obtain⟨z,hz⟩:∃z:Int,(u:Int)=z:=⟨_,rfl⟩
 rw[hz] at e0 e1 CV2 FF ⊢
 clear CV BA hU hI hz
 go_enter Tryz.func61, Tryz.ntmps61
 go_wp2
 go_ret
 exact⟨rfl,FF.out⟩
set_option maxHeartbeats 1000000 in
theorem ybput_any (u:Nat) (hu:u < 64) (i t:Bs) (hi:i.length=16) (ht:t.length≤222) (w:World):Calls Tryz.prog 60 #[.int .i64 (u:Int),.agg #[.string (st i),.string (st t)]] w fun e w'=>e = .returned (.string (st (putR u i t)))∧Below w.heap.size w w':=by
 have e0:(u:Int) % 256=(u:Int):=by omega
 have e1:IntKind.u8.wrap (u:Int)=(u:Int):=by
  have:IntKind.u8.wrap (u:Int)=(u:Int) % 256:=by first|rfl|simp[IntKind.wrap]
  rw[this,e0]
 obtain⟨V,hV⟩:∃V,w.alloc (.cells #[.string (st i),.string (st t)] 58)=V:=⟨_,rfl⟩
 have BA:BytesAt (V.alloc (.cells #[.int .u8 (u:Int)] 5)) V.heap.size [UInt8.ofNat u]:=fun j hj=>by
  obtain rfl:j=0:=by simp at hj;exact hj
  refine⟨?_,by simp[go_sem]⟩
  rw[World.cell?_alloc_new]
  show some _=some (Value.int .u8 ((UInt8.ofNat u).toNat:Int))
  rw[UInt8.toNat_ofNat',Nat.mod_eq_of_lt (show u < 2 ^ 8 by omega)]
  rfl
 have CV:=BA.string (cap:=1) (n:=1) rfl
 have b1:Below w.heap.size w V:=by rw[←hV];exact nb _ _
 have b2:=nb V (.cells #[.int .u8 (u:Int)] 5)
 have FF:Hid (Below w.heap.size w (V.alloc (.cells #[.int .u8 (u:Int)] 5))):=chain b1 b2
 have k0:(V.alloc (.cells #[.int .u8 (u:Int)] 5)).cell? ⟨w.heap.size,0,none⟩=some (.string (st i)):=cell_later b2 (by rw[←hV,World.cell?_alloc_new];rfl)
 have k1:(V.alloc (.cells #[.int .u8 (u:Int)] 5)).cell? ⟨w.heap.size,1,none⟩=some (.string (st t)):=cell_later b2 (by rw[←hV,World.cell?_alloc_new];rfl)
 have s0:(st [UInt8.ofNat u]).size=1:=st_size _
 have s1:(st i).size=16:=by rw[st_size,hi]
 have s2:(st t).size≤222:=by rw[st_size];exact ht
 rw[put_st]
 obtain⟨U,hU⟩:∃R:ByteArray,st [UInt8.ofNat u]=R:=⟨_,rfl⟩
 obtain⟨I,hI⟩:∃R:ByteArray,st i=R:=⟨_,rfl⟩
 obtain⟨T,hT⟩:∃R:ByteArray,st t=R:=⟨_,rfl⟩
 obtain⟨b,hb⟩:∃b,V.heap.size=b:=⟨_,rfl⟩
 have CV2:(convert 70 9 (.slice (some ⟨b,0,none⟩) 1 1)).run Tryz.prog (V.alloc (.cells #[.int .u8 (u:Int)] 5)) = .ok (.string U) (V.alloc (.cells #[.int .u8 (u:Int)] 5)):=by rw[←hU,←hb];exact CV
 rw[hU] at s0 ⊢
 rw[hI] at s1 k0 hV ⊢
 rw[hT] at s2 k1 hV ⊢
 obtain⟨z,hz⟩:∃z:Int,(u:Int)=z:=⟨_,rfl⟩
 rw[hz] at e0 e1 CV2 FF k0 k1 ⊢
 obtain⟨a,ha⟩:∃a,w.heap.size=a:=⟨_,rfl⟩
 rw[ha] at k0 k1
 obtain⟨V2,hV2⟩:∃V2,V.alloc (.cells #[.int .u8 z] 5)=V2:=⟨_,rfl⟩
 rw[hV2] at CV2 FF k0 k1
 clear CV BA hU hI hT hz b1 b2 hi ht
 go_enter Tryz.func60, Tryz.ntmps60
 go_wp2
 go_ret
 exact⟨rfl,FF.out⟩
def ofZ (E:List En) (z:Int):List Sl:=(E.filter fun e=>decide ((e.1:Int)=z)).map fun e=>e.2
theorem ofZ_nat (E:List En) (u:Nat):ofZ E (u:Int)=ofE E u:=by
 unfold ofZ ofE
 congr 1
 refine List.filter_congr fun e _ => ?_
 rw[decide_eq_decide]
 omega
theorem ofZ_no {E:List En} (h:Bx.Us E) {z:Int} (hz:noU z=true):ofZ E z=[]:=by
 unfold ofZ
 rw[List.filter_eq_nil_iff.2,List.map_nil]
 intro e he c
 have h1:=h e he
 have h2:(e.1:Int)=z:=of_decide_eq_true c
 unfold noU at hz
 simp at hz
 omega
theorem ofZ_snoc (E:List En) (e:En) (z:Int):ofZ (E++[e]) z=if (e.1:Int)=z then ofZ E z++[e.2] else ofZ E z:=by
 unfold ofZ
 rw[List.filter_append,List.map_append]
 by_cases c:(e.1:Int)=z
 ·rw[if_pos c,List.filter_cons,if_pos (by simp[c])]
  rfl
 ·rw[if_neg c,List.filter_cons,if_neg (by simp[c])]
  simp
theorem ofZ_le (E:List En) (z:Int):(ofZ E z).length≤E.length:=by
 unfold ofZ
 rw[List.length_map]
 exact List.length_filter_le _ _
set_option maxHeartbeats 2000000 in
theorem ybof_any (a:Option Addr) (n c:Nat) (E:List En) (z:Int) (hn:E.length=n) (h1:n≤100000) (w:World) (h:Hid (EnAt w a E)) :
  Calls Tryz.prog 33 #[.slice a n c,.int .i64 z] w fun e w'=>∃y,e = .returned y∧w'.ownsRow w.heap.size 58 2 y (ofZ E z).length (scx (ofZ E z))∧Below w.heap.size w w':=by
 have HN:Hid (E.length=n):=hn
 clear hn
 go_enter Tryz.func33, Tryz.ntmps33
 go_wp2
 go_loopw [5,6] (fun y i wr=>∃k:Nat,k≤n∧i = .int .i64 (k:Int)∧Hid (wr.ownsRow w.heap.size 58 2 y (ofZ (E.take k) z).length (scx (ofZ (E.take k) z))∧Below w.heap.size w wr)) (fun _ i _=>n - (intOf i).toNat)
 case atStart=>exact⟨0,Nat.zero_le _,rfl,World.ownsRow_nil _ _ _ _,Below.refl _ _⟩
 case round =>
  obtain⟨k,hk,rfl,J⟩:=hrel
  by_cases hlt:k < n
  ·have hkl:k < E.length:=by rw[HN.out];exact hlt
   have g1:(k:Int) < (n:Int):=by omega
   obtain⟨b,o,rfl,c0,c1,c2⟩:=(h.out.later J.out.2) k hkl
   have ET:Hid (E.take (k+1)=E.take k++[E[k]]):=List.take_succ_eq_append_getElem hkl
   obtain⟨⟨eu,ei,et⟩,hel⟩:∃e,E[k]=e:=⟨_,rfl⟩
   rw[hel] at c0 c1 c2 ET
   simp only at c0 c1 c2
   clear hel
   unfold sv at c1 c2
   have LE:Hid ((ofZ (E.take k) z).length≤1000000):=Nat.le_trans (ofZ_le _ _) (by rw[List.length_take];omega)
   have SN:=ofZ_snoc (E.take k) (eu,(ei,et)) z
   rw[←ET.out] at SN
   by_cases q1:(eu:Int)=z
   ·rw[if_pos q1] at SN
    have K1:Hid _:=SN
    obtain⟨v',W2,r1,r2,r3,-⟩:=app_slot1 w.heap.size wr 45 u5 _ J.out.1 J.out.2.size LE.out (ei,et)
    have F2:Hid (W2.ownsRow w.heap.size 58 2 v' (ofZ (E.take (k+1)) z).length (scx (ofZ (E.take (k+1)) z))∧Below w.heap.size w W2):=by
     rw[K1.out]
     exact⟨r2,J.out.2.trans r3⟩
    obtain⟨Y,hY⟩:∃Y:Int,(eu:Int)=Y:=⟨_,rfl⟩
    rw[hY] at c0 q1
    subst q1
    clear J SN K1 r2 r3 ET hY
    go_wp2_with (first|(at_builtin;refine Go.Lib.wpList_append_run _ rfl _ _ _ _ rfl _ _ rfl rfl _ _ r1 ?_))
    go_roundw
    case rel=>exact⟨k+1,by omega,by go_num,F2.out⟩
    case measure=>simp[intOf];omega
   ·rw[if_neg q1] at SN
    have F2:Hid (wr.ownsRow w.heap.size 58 2 u5 (ofZ (E.take (k+1)) z).length (scx (ofZ (E.take (k+1)) z))∧Below w.heap.size w wr):=by
     rw[SN]
     exact J.out
    obtain⟨Y,hY⟩:∃Y:Int,(eu:Int)=Y:=⟨_,rfl⟩
    rw[hY] at c0 q1
    clear J SN ET hY
    go_wp2
    go_roundw
    case rel=>exact⟨k+1,by omega,by go_num,F2.out⟩
    case measure=>simp[intOf];omega
  ·obtain rfl:k=n:=by omega
   have g1:¬(k:Int) < (k:Int):=by omega
   have J1:=J.out
   rw[List.take_of_length_le (by rw[HN.out];exact Nat.le_refl _)] at J1
   have F1:Hid _:=J1
   clear J J1
   go_wp2
   go_ret
   exact⟨_,rfl,F1.out⟩
end Go.Proofs.YtjpaodepnacimaaGreatDoor
