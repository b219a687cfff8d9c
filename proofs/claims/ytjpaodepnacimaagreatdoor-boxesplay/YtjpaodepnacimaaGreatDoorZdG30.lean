/- Parts: YrF,YrG. -/
import Derived.Test.YtjpaodepnacimaaGreatDoorZdG29
namespace Go.Proofs.YtjpaodepnacimaaGreatDoor
open Go.RowKit Go.Proofs.Fd Go.Proofs.Dk Go.Proofs.Lg Go.Proofs.Bx
set_option maxRecDepth 20000
theorem wrs_downY:∀(bs:List Bs) (s:St) (k:Nat),s.down=false→(wrs s k bs).1=0→(wrs s k bs).2.down=false
 | [],_,_,h,_=>h
 | b::l,s,k,h,e=>by
  rw[wrs] at e ⊢
  by_cases c:wrE s k b=0
  ·rw[thn_ok (x:=(wrE s k b,wrS s k b)) c] at e ⊢
   exact wrs_downY l _ _ (wrS_up c) e
  ·rw[thn_no (x:=(wrE s k b,wrS s k b)) c] at e
   exact absurd e c
theorem app_downY {s:St} {x:Lo} {t:Bs} (hd:s.down=false) (h:(app s x t).1.1=0):(app s x t).1.2.down=false:=by
 unfold app at h ⊢
 split
 ·exact hd
 ·rename_i h1
  rw[if_neg h1] at h
  split
  ·exact hd
  ·rename_i h2
   rw[if_neg h2] at h
   exact wrs_downY _ _ _ hd h
theorem tksL_app:∀(l:List Bs) (E:List En) (m:List Bs),tksL E (l++m)=(tksL E l).bind fun F=>tksL F m
 | [],_,_=>rfl
 | r::l,E,m=>by
  show (tkL E r).bind (fun c=>tksL c (l++m))=((tkL E r).bind fun c=>tksL c l).bind fun c=>tksL c m
  cases tkL E r with
  | none=>rfl
  | some c=>exact tksL_app l c m
theorem tksL_at {E F:List En} {rs:List Bs} (h:tksL E rs=some F) {k:Nat} (hk:k < rs.length) {Ek:List En} (e:tksL E (rs.take k)=some Ek):∃E2,tkL Ek rs[k]=some E2∧tksL E (rs.take (k+1))=some E2:=by
 have e1:rs.take (k+1)=rs.take k++[rs[k]]:=List.take_succ_eq_append_getElem hk
 have e2:tksL E (rs.take (k+1))=tkL Ek rs[k]:=by
  rw[e1,tksL_app,e]
  show (tkL Ek rs[k]).bind (fun F=>some F)=_
  cases tkL Ek rs[k] <;> rfl
 have e3:tksL E (rs.take (k+1)++rs.drop (k+1))=some F:=by rw[List.take_append_drop];exact h
 rw[tksL_app,e2] at e3
 cases hc:tkL Ek rs[k] with
 | none=>rw[hc] at e3;cases e3
 | some E2=>exact⟨E2,rfl,by rw[e2,hc]⟩
theorem rsync_rl {w1:World} {d:Nat} {G:Nat→Prop} {s:St} {q:Nat} {v:Value} {x:Lo} (hl:s.l.length≤1000000) (k:Rl w1 d G s q v x) :
  Calls Tryz.prog 55 #[.pointer (some ⟨d,0,none⟩)] w1 fun e w'=>e = .returned (.int .i64 (syE s))∧RlP w1 d G q v (syS s) x w' :=
 (rsync_any d G s w1 k.rd.at_ hl).mono fun _ w' ⟨e1,G',y1,y2,y3⟩=>⟨e1,G',v,⟨k.rd.disk y1 y2 y3,k.h1,by rw[syS_n];exact k.n4,by rw[syS_n];exact k.n2,by rw[syS_n];exact k.tk,k.ok⟩,y2,Nx.refl _ _,y3.wide fun y e => .inl e⟩
set_option maxHeartbeats 8000000 in
theorem ybwrite_any (w:World) (d:Nat) (G:Nat→Prop) (s:St) (q:Nat) (v:Value) (x:Lo) (b quota:Nat) (u:Value) (E F:List En) (a:Option Addr) (n c:Nat) (rs:List Bs) (hn:rs.length=n) (hnb:n≤300) (hr:∀r∈rs,r.length≤2000) (htk:tksL E rs=some F) (hE:E.length≤40000) (gF:Gx (ofE F)) (uF:Bx.Us F) (hdn:s.down=false) (hl:s.l.length+60000≤1000000) (k:Hid (Yz w d G s q v x b quota u E)) (tx:Hid (TxAt w a rs)) (hap:Hid (∀y,a=some y→0 < rs.length→y.block < w.heap.size∧¬FZ G q v b u y.block)) :
  Calls Tryz.prog 59 #[.pointer (some ⟨b,0,none⟩),.slice a n c] w fun e w'=>e = .returned (.int .i64 (wrEn s x E F rs).1.1.1)∧YzP w (FZ G q v b u) d q b quota (wrEn s x E F rs).1.1.2 (wrEn s x E F rs).1.2 (wrEn s x E F rs).2 w':=by
 have HN:Hid (rs.length=n):=hn
 have HTK:Hid (tksL E rs=some F):=htk
 have HRL:Hid (∀r∈rs,r.length≤2000):=hr
 obtain⟨ua,uc,rfl,-,-,-,-⟩:=owns_en rfl k.out.rs.row
 obtain⟨N,hN⟩:∃N,E.length=N:=⟨_,rfl⟩
 have k2:=k.out.rs.bk.c 2 _ rfl
 have HE:Hid (E.length=N):=hN
 rw[hN] at k hap k2 ⊢
 obtain⟨U,hU⟩:∃U,Value.slice ua N uc=U:=⟨_,rfl⟩
 have KK:Hid (Yz w d G s q v x b quota U E):=by rw[←hU];exact k.out
 have HAP:Hid (∀y,a=some y→0 < rs.length→y.block < w.heap.size∧¬FZ G q v b U y.block):=by rw[←hU];exact hap.out
 have UE:Hid (Value.slice ua N uc=U):=hU
 rw[hU]
 have hN2:N≤40000:=by omega
 have S0:Hid (OwnsE w (.slice ua N uc) E):=by show OwnsE _ _ _;rw[hU];exact KK.out.rs.row
 obtain⟨R,hR⟩:∃R,apX s x rs=R:=⟨_,rfl⟩
 have HR0:Hid (apX s x rs=R):=hR
 obtain⟨WR,hWR⟩:∃Z,wrEn s x E F rs=Z:=⟨_,rfl⟩
 have F151:Hid (∀s' x',R=((151,s'),x')→WR=(cmp s' x' (shX (ofE F)),if (cmp s' x' (shX (ofE F))).1.1=0 then F else E)):=fun s' x' e=>by
  rw[←hWR]
  unfold wrEn wrX
  rw[hR,e,if_pos rfl]
 have FNO:Hid (R.1.1≠0→R.1.1≠151→WR=(R,E)):=fun e1 e2=>by
  rw[←hWR]
  unfold wrEn wrX
  rw[hR,if_neg e2,if_pos e1,if_neg e1]
 have FOK:Hid (∀s' x',R=((0,s'),x')→WR=(((syE s',syS s'),x'),if syE s'=0 then F else E)):=fun s' x' e=>by
  rw[←hWR]
  unfold wrEn wrX
  rw[hR,e,if_neg (show ¬(0:Int)=151 by decide),if_neg (show ¬(0:Int)≠0 by decide)]
 rw[hWR]
 have SHL:Hid ((shX (ofE F)).length≤100000):=by
  show _≤_
  rw[shX_len,ofE_many F uF]
  have:F.length≤E.length+rs.length:=by
   have gen:∀(l:List Bs) (E F:List En),tksL E l=some F→F.length≤E.length+l.length:=by
    intro l
    induction l with
    | nil=>intro E F h;cases h;exact Nat.le_refl _
    | cons r l ih =>
     intro E F h
     rw[tksL] at h
     cases h1:tkL E r with
     | none=>rw[h1] at h;cases h
     | some A =>
      rw[h1] at h
      have z1:=tkL_len h1
      have z2:=ih A F h
      rw[List.length_cons]
      omega
   exact gen rs E F htk
  omega
 clear hR hWR hU k hap hn htk hr hE hN
 have TK:Hid (∀(na:Option Addr) (m mc:Nat) (Ek:List En) (r:Bs) W,Ek.length=m→m≤50000→m≤mc→(na=none→m=0∧mc=0)→(∀y,na=some y→y.spot=none)→r.length≤2000→EnAt W na Ek→Calls Tryz.prog 47 #[.slice na m mc,.string (st r)] W fun e w'=>TkR W (tkL Ek r) e w'):=fun na m mc Ek r W h1 h2 h3 h4 h5 h6 h7=>ybtake_any r h6 na m mc Ek h1 (by omega) h3 h4 h5 W h7
 go_enter Tryz.func59, Tryz.ntmps59
 go_wp2
 go_loopw [5,6] (fun nv i wr=>∃j:Nat,j≤n∧i = .int .i64 (j:Int)∧Hid (∃Ek,tksL E (rs.take j)=some Ek∧OwnsE wr nv Ek∧Ek.length≤N+j∧Below w.heap.size w wr∧∀z,nv.ownBlock=some z→U.ownBlock=some z∨w.heap.size≤z)) (fun _ i _=>n - (intOf i).toNat)
 case atStart=>exact⟨0,Nat.zero_le _,rfl,E,(by rw[List.take_zero];rfl),S0.out,(by have:=HE.out;omega),Below.refl _ _,fun z hz => .inl (by rw[←UE.out];exact hz)⟩
 case round =>
  obtain⟨j,hj,rfl,J⟩:=hrel
  clear k2 S0
  by_cases hlt:j < n
  ·have hjl:j < rs.length:=by rw[HN.out];exact hlt
   have g1:(j:Int) < (n:Int):=by omega
   obtain⟨Ek,e1,e2,e3,e4,e5⟩:=J.out
   obtain⟨ta,to_,rfl,c1⟩:=(tx.out.later e4) j hjl
   obtain⟨na,nc,rfl,n1,n2,n3,n4⟩:=owns_en rfl e2
   obtain⟨m,hm⟩:∃m,Ek.length=m:=⟨_,rfl⟩
   have hjn:j < 300:=by omega
   have T1:Hid _:=TK.out na m nc Ek rs[j] wr hm (by omega) (by omega) (by rw[←hm];exact n3) (fun y hy=>(n4 y hy).1) (HRL.out _ (List.getElem_mem hjl)) n1
   have NEXT:Hid (∀W e,TkR wr (tkL Ek rs[j]) e W→∃y,e = .returned (.tuple #[y,.bool true])∧Hid (∃E2,tksL E (rs.take (j+1))=some E2∧OwnsE W y E2∧E2.length≤N+(j+1)∧Below w.heap.size w W∧∀z,y.ownBlock=some z→U.ownBlock=some z∨w.heap.size≤z)):=fun W e ht=>by
    obtain⟨E2,f1,f2⟩:=tksL_at HTK.out hjl e1
    rw[f1] at ht
    obtain⟨y,ey,oy,by_⟩:=ht
    refine⟨y,ey,E2,f2,owns_lowE oy (Nat.zero_le _),?_,chain e4 by_,fun z hz => .inr (Nat.le_trans e4.size (oy.lt z hz).1)⟩
    have:=tkL_len f1
    omega
   rw[hm] at e2 ⊢
   obtain⟨t,ht⟩:∃t,st rs[j]=t:=⟨_,rfl⟩
   unfold sv at c1
   rw[ht] at T1 c1
   obtain⟨o,ho⟩:∃o,tkL Ek rs[j]=o:=⟨_,rfl⟩
   rw[ho] at T1 NEXT
   clear J e1 e2 e3 e4 e5 n1 n2 n3 n4 ht ho hm
   go_wp2_with fail
   refine Calls.mono T1.out ?_
   intro e w5 hT
   obtain⟨y,rfl,NX⟩:=NEXT.out w5 e hT
   clear T1 NEXT hT c1
   go_wp2
   go_roundw
   case rel=>exact⟨j+1,by omega,by go_num,NX.out⟩
   case measure=>simp[intOf];omega
  ·obtain rfl:j=n:=by omega
   have g1:¬(j:Int) < (j:Int):=by omega
   obtain⟨Ek,e1,e2,e3,e4,e5⟩:=J.out
   obtain rfl:Ek=F:=by
    rw[List.take_of_length_le (by rw[HN.out];exact Nat.le_refl _),HTK.out] at e1
    exact (Option.some.inj e1).symm
   have B4:Hid (Below w.heap.size w wr):=e4
   obtain⟨na,nc,rfl,-,-,-,-⟩:=owns_en rfl e2
   obtain⟨NF,hNF⟩:∃m,Ek.length=m:=⟨_,rfl⟩
   have HNF:Hid (Ek.length=NF):=hNF
   rw[hNF] at e2 e3 e5 ⊢
   have OF:Hid (OwnsE wr (.slice na NF nc) Ek):=e2
   have KW:Hid (Yz wr d G s q v x b quota U E):=KK.out.later e4
   have nq:∀z,(Value.slice na NF nc).ownBlock=some z→¬FQ G q v z∧z≠b∧(FZ G q v b U z∨w.heap.size≤z):=fun z hz=>by
    rcases e5 z hz with c|c
    ·exact⟨KK.out.ap z (.inr c),fun e=>KK.out.rs.bv (by rw[c,e]),.inl (.inr (.inr c))⟩
    ·exact⟨fun e=>Nat.not_lt.2 c (KK.out.rl.fq e),fun e=>by have:=KK.out.rs.bk.lt;omega,.inr c⟩
   have NQ:Hid _:=nq
   have ROW:Hid (∀W s' x',YzL wr G v d q b quota U s' x' E W→OwnsE W (.slice na NF nc) Ek):=fun W s' x' z=>z.row OF.out (fun g hg=>(NQ.out g hg).1)
   have SET:Hid (∀W s' x',YzL wr G v d q b quota U s' x' E W→YzP w (FZ G q v b U) d q b quota s' x' Ek (W.setCell ⟨b,2,none⟩ (.slice na NF nc))):=fun W s' x' z=>z.set OF.out (fun g hg=>(NQ.out g hg).1) (Nx.refl _ _) (Bf.of B4.out) (fun e=>(NQ.out b e).2.1 rfl) (fun g hg=>(NQ.out g hg).2.2)
   have KEEP:Hid (∀W s' x',YzL wr G v d q b quota U s' x' E W→YzP w (FZ G q v b U) d q b quota s' x' E W):=fun W s' x' z=>z.yzp.trans (Nx.refl _ _) (Bf.of B4.out)
   have CELL:Hid (∀W s' x',YzL wr G v d q b quota U s' x' E W→W.cell? ⟨b,0,none⟩=some (.pointer (some ⟨q,0,none⟩))∧W.cell? ⟨q,0,none⟩=some (.pointer (some ⟨d,0,none⟩))∧(∃y,W.cell? ⟨b,2,none⟩=some y)∧W.frozen? ⟨b,2,none⟩=false):=fun W s' x' ⟨G',v',z,_,_⟩=>⟨z.rs.bk.c 0 _ rfl,z.rl.rd.rf.bk.c 0 _ rfl,⟨_,z.rs.bk.c 2 _ rfl⟩,z.rs.bk.f 2⟩
   have TEXT:Hid (∀W s' x',YzL wr G v d q b quota U s' x' E W→TxAt W a rs):=fun W s' x' ⟨G',v',z,_,f⟩ i hi=>by
    obtain⟨y,o,ey,cc⟩:=(tx.out.later B4.out) i hi
    refine⟨y,o,ey,f.cell cc (fun hq => ?_)⟩
    exact (HAP.out _ ey (by omega)).2 (.inl hq)
   have AP:Hid (∀W s' x' (r:Bs),s'.l.length+100≤1000000→YzL wr G v d q b quota U s' x' E W→Calls Tryz.prog 53 #[.pointer (some ⟨q,0,none⟩),.string (st r)] W fun e w'=>e = .returned (.int .i64 (app s' x' r).1.1)∧Hid (YzL wr G v d q b quota U (app s' x' r).1.2 (app s' x' r).2 E w')):=fun W s' x' r hl z=>by
    have z0:=z
    obtain⟨G',v',zz,n1,f1⟩:=z
    refine (rappend_any W d G' s' q v' x' (st r) hl zz.rl).mono fun _ w' ⟨q1,q2⟩=>⟨q1,?_⟩
    obtain⟨G2,v2,r2,n2,f2⟩:=zz.log q2
    exact⟨G2,v2,r2,n1.trans n2 f1.size,f1.trans n1 f2⟩
   have SY:Hid (∀W s' x',s'.l.length≤1000000→YzL wr G v d q b quota U s' x' E W→Calls Tryz.prog 55 #[.pointer (some ⟨d,0,none⟩)] W fun e w'=>e = .returned (.int .i64 (syE s'))∧Hid (YzL wr G v d q b quota U (syS s') x' E w')):=fun W s' x' hl z=>by
    obtain⟨G',v',zz,n1,f1⟩:=z
    refine (rsync_rl hl zz.rl).mono fun _ w' ⟨q1,q2⟩=>⟨q1,?_⟩
    obtain⟨G2,v2,r2,n2,f2⟩:=zz.log q2
    exact⟨G2,v2,r2,n1.trans n2 f1.size,f1.trans n1 f2⟩
   have SH:Hid (∀W s' x',YzL wr G v d q b quota U s' x' E W→∀V,Below W.heap.size W V→Calls Tryz.prog 99 #[.slice na NF nc] V fun e w'=>∃a c,e = .returned (.slice a (shX (ofE Ek)).length c)∧Hid (TxAt w' a (shX (ofE Ek))∧Below V.heap.size V w'∧∀y,a=some y→V.heap.size≤y.block)):=fun W s' x' z V hV=>by
    have oo:=owns_laterE (ROW.out W s' x' z) hV
    obtain⟨na',nc',en,at_,-,-,-⟩:=owns_en rfl oo
    injection en with en1 en2 en3
    subst en1
    have hj3:j≤300:=hnb
    exact (ybshort_any na NF nc Ek HNF.out (by omega) gF uF V at_).mono fun _ w' ⟨a,c,q1,q2,q3,q4⟩=>⟨a,c,q1,q2,q3,q4⟩
   have CP:Hid (∀W V s' x' a c,YzL wr G v d q b quota U s' x' E W→Below W.heap.size W V→TxAt V a (shX (ofE Ek))→(∀y,a=some y→W.heap.size≤y.block)→s'.down=false→s'.l.length+4000≤1000000→Calls Tryz.prog 98 #[.pointer (some ⟨q,0,none⟩),.slice a (shX (ofE Ek)).length c] V fun e w'=>e = .returned (.int .i64 (cmp s' x' (shX (ofE Ek))).1.1)∧Hid (YzL wr G v d q b quota U (cmp s' x' (shX (ofE Ek))).1.2 (cmp s' x' (shX (ofE Ek))).2 E w')):=fun W V s' x' a c z hV tx ha hd hl=>by
    obtain⟨G',v',zz,n1,f1⟩:=z
    have zv:=zz.later hV
    refine (rcompact_any V d G' s' q v' x' a _ c (shX (ofE Ek)) rfl (by have:=SHL.out;omega) hd hl zv.rl tx (fun y e _ cc => ?_)).mono fun _ w' ⟨q1,q2⟩=>⟨q1,?_⟩
    ·have:=ha y e
     have:=zz.rl.rd.at_.lt cc
     omega
    ·obtain⟨G2,v2,r2,n2,f2⟩:=zv.log q2
     exact⟨G2,v2,r2,(n1.trans n2 (Nat.le_trans f1.size hV.size)),(f1.later hV).trans n1 f2⟩
   obtain⟨N0,hN0⟩:∃N,s.l.length=N:=⟨_,rfl⟩
   have I0:Hid (∃s' x',apX s' x' (rs.drop 0)=R∧s'.down=false∧s'.l.length≤N0+40*0∧YzL wr G v d q b quota U s' x' E wr):=⟨s,x,HR0.out,hdn,by omega,YzL.start KW.out⟩
   rw[hN0] at hl
   obtain⟨SN,hSN⟩:∃m,(shX (ofE Ek)).length=m:=⟨_,rfl⟩
   rw[hSN] at SH CP
   obtain⟨WS,rfl⟩:∃W,W=wr:=⟨_,rfl⟩
   clear J e1 e2 e3 e4 e5 OF KW nq NQ KK HAP tx HNF hNF hN0 hSN
   go_wp2
   go_loopw [7] (fun i wr=>∃l:Nat,l≤j∧i = .int .i64 (l:Int)∧Hid (∃s' x',apX s' x' (rs.drop l)=R∧s'.down=false∧s'.l.length≤N0+40*l∧YzL WS G v d q b quota U s' x' E wr)) (fun i _=>j - (intOf i).toNat)
   case atStart=>exact⟨0,Nat.zero_le _,rfl,I0.out⟩
   case round =>
    obtain⟨l,hl2,rfl,I⟩:=hrel
    clear I0
    obtain⟨s',x',f1,f2,f3,f4⟩:=I.out
    obtain⟨cb,cq,⟨cy,cb2⟩,cf⟩:=CELL.out _ _ _ f4
    by_cases hlj:l < j
    ·have hll:l < rs.length:=by rw[HN.out];exact hlj
     have g2:(l:Int) < (j:Int):=by omega
     obtain⟨ta,to_,rfl,c1⟩:=(TEXT.out _ _ _ f4) l hll
     rw[List.drop_eq_getElem_cons hll,apX] at f1
     have FD:Hid (YzL WS G v d q b quota U s' x' E wr.drew):=f4.later (Below.refl _ _).drew
     have A1:Hid _:=AP.out wr.drew s' x' rs[l] (by omega) FD.out
     have hal:=app_len s' x' rs[l]
     have had:=app_downY (x:=x') (t:=rs[l]) f2
     have H151:Hid ((app s' x' rs[l]).1.1=151→app s' x' rs[l]=((151,s'),x')):=fun e=>app_151 e
     have A2:Hid (Calls Tryz.prog 53 #[.pointer (some ⟨q,0,none⟩),.string (st rs[l])] wr.drew fun e w'=>e = .returned (.int .i64 (app s' x' rs[l]).1.1)∧(w'.cell? ⟨b,0,none⟩=some (.pointer (some ⟨q,0,none⟩))∧w'.cell? ⟨ta,to_+l,none⟩=some (sv rs[l]))∧Hid (YzL WS G v d q b quota U (app s' x' rs[l]).1.2 (app s' x' rs[l]).2 E w')):=Calls.mono A1.out fun _ w' ⟨q1,q2⟩=>by
      obtain⟨y,o,ey,cc⟩:=TEXT.out _ _ _ q2.out l hll
      injection ey with ey
      injection ey with ey1 ey2
      subst ey1
      subst ey2
      exact⟨q1,⟨(CELL.out _ _ _ q2.out).1,cc⟩,q2⟩
     obtain⟨t,ht⟩:∃t,st rs[l]=t:=⟨_,rfl⟩
     unfold sv at c1 A2
     rw[ht] at A2 c1
     have c1d:wr.drew.cell? ⟨ta,to_+l,none⟩=some (.string t):=c1
     have cbd:wr.drew.cell? ⟨b,0,none⟩=some (.pointer (some ⟨q,0,none⟩)):=cb
     obtain⟨⟨⟨ae,ass⟩,ax⟩,hA⟩:∃z,app s' x' rs[l]=z:=⟨_,rfl⟩
     rw[hA] at f1 A2 hal had H151
     have FA:Hid ((if ae=0 then apX ass ax (rs.drop (l+1)) else ((ae,ass),ax))=R):=f1
     have LA:Hid (ass.l.length≤N0+40*(l+1)∧(ae=0→ass.down=false)∧s'.down=false∧s'.l.length≤N0+40*l):=⟨by have:=hal.1;show ass.l.length≤_;have h5:ass.l.length≤s'.l.length+40:=hal.1;omega,had,f2,f3⟩
     have f4':Hid _:=f4
     clear I f1 f2 f3 f4 hal had ht hA FD c1 cb cq cb2 cf TEXT A1
     go_wp2_with fail
     go_region_held3 (fun w'=>w'.cell? ⟨b,0,none⟩=some (.pointer (some ⟨q,0,none⟩))∧w'.cell? ⟨ta,to_+l,none⟩=some (.string t)) (first|exact⟨cbd,c1d⟩|assumption|trivial) (first|(go_at_call 53;refine Calls.mono A2.out ?_;rintro e w4 ⟨rfl,hc4,Z4⟩))
     clear A2 cbd c1d hc4
     by_cases h0:ae=0
     ·subst h0
      have F1:Hid (apX ass ax (rs.drop (l+1))=R):=by
       have:=FA.out
       rw[if_pos rfl] at this
       exact this
      clear FA H151
      go_wp2
      go_roundw
      case rel=>exact⟨l+1,by omega,by go_num,ass,ax,F1.out,LA.out.2.1 rfl,LA.out.1,Z4.out⟩
      case measure=>simp[intOf];omega
     ·have FA2:=FA.out
      rw[if_neg h0] at FA2
      by_cases h151:ae=151
      ·subst h151
       have H2:=H151.out rfl
       injection H2 with H3 H4
       injection H3 with H5 H6
       subst H6
       subst H4
       have W3:Hid _:=F151.out ass ax FA2.symm
       have HL:=LA.out.2.2.2
       have LD:Hid (ass.down=false):=LA.out.2.2.1
       have S5:Hid (Calls Tryz.prog 99 #[.slice na NF nc] w4.drew fun e w'=>∃a c,e = .returned (.slice a SN c)∧w'.cell? ⟨b,0,none⟩=some (.pointer (some ⟨q,0,none⟩))∧Hid (TxAt w' a (shX (ofE Ek))∧Below w4.heap.size w4 w'∧∀y,a=some y→w4.heap.size≤y.block)):=(SH.out w4 ass ax Z4.out w4.drew (Below.refl _ _).drew).mono fun _ w' ⟨a,c,q1,q2⟩=>⟨a,c,q1,cell_later q2.out.2.1 (CELL.out _ _ _ Z4.out).1,q2.out.1,chain (Below.refl _ _).drew q2.out.2.1,q2.out.2.2⟩
       have C5:Hid (∀V a c,Below w4.heap.size w4 V→TxAt V a (shX (ofE Ek))→(∀y,a=some y→w4.heap.size≤y.block)→Calls Tryz.prog 98 #[.pointer (some ⟨q,0,none⟩),.slice a SN c] V fun e w'=>e = .returned (.int .i64 (cmp ass ax (shX (ofE Ek))).1.1)∧w'.cell? ⟨b,0,none⟩=some (.pointer (some ⟨q,0,none⟩))∧Hid (YzL WS G v d q b quota U (cmp ass ax (shX (ofE Ek))).1.2 (cmp ass ax (shX (ofE Ek))).2 E w')):=fun V a c hV tx ha=>(CP.out w4 V ass ax a c Z4.out hV tx ha LD.out (by omega)).mono fun _ w' ⟨q1,q2⟩=>⟨q1,(CELL.out _ _ _ q2.out).1,q2⟩
       obtain⟨cc,hcc⟩:∃z,cmp ass ax (shX (ofE Ek))=z:=⟨_,rfl⟩
       rw[hcc] at W3 C5
       obtain⟨⟨ce,cs⟩,cx⟩:=cc
       have c0:w4.drew.cell? ⟨b,0,none⟩=some (.pointer (some ⟨q,0,none⟩)):=(CELL.out _ _ _ Z4.out).1
       clear FA FA2 H151 LD HL Z4 f4' SH CP hcc
       go_wp2_with fail
       go_region_held3 (fun w'=>w'.cell? ⟨b,0,none⟩=some (.pointer (some ⟨q,0,none⟩))) (first|exact c0|assumption|trivial) (first|(go_at_call 99;refine Calls.mono S5.out ?_;rintro e w5 ⟨a5,c5,rfl,hc5,H5⟩)|(go_at_call 98;refine Calls.mono (C5.out _ _ _ H5.out.2.1 H5.out.1 H5.out.2.2) ?_;rintro e w6 ⟨rfl,hc6,Z6⟩))
       clear S5 C5 hc5 H5 c0
       by_cases h6:ce=0
       ·subst h6
        have SS:Hid _:=SET.out w6 _ _ Z6.out
        have W4:Hid (WR=(((0,cs),cx),Ek)):=by
         have:=W3.out
         rw[if_pos rfl] at this
         exact this
        obtain⟨-,-,⟨cy6,cb6⟩,cf6⟩:=CELL.out _ _ _ Z6.out
        clear W3 Z6 SET KEEP hc6
        go_wp2
        go_ret
        rw[W4.out]
        exact⟨rfl,SS.out⟩
       ·have KP6:Hid _:=KEEP.out w6 _ _ Z6.out
        have W4:Hid (WR=(((ce,cs),cx),E)):=by
         have:=W3.out
         rw[if_neg h6] at this
         exact this
        clear W3 Z6 SET KEEP hc6
        go_wp2
        go_ret
        rw[W4.out]
        exact⟨rfl,KP6.out⟩
      ·have W4:Hid (WR=(((ae,ass),ax),E)):=by
        have:=FNO.out (by rw[←FA2];exact h0) (by rw[←FA2];exact h151)
        rw[←FA2] at this
        exact this
       have KP4:Hid _:=KEEP.out w4 _ _ Z4.out
       clear FA FA2 H151 Z4 SET KEEP SH CP f4'
       go_wp2
       go_ret
       rw[W4.out]
       exact⟨rfl,KP4.out⟩
    ·obtain rfl:l=j:=by omega
     have g2:¬(l:Int) < (l:Int):=by omega
     have FR:R=((0,s'),x'):=by
      rw[List.drop_of_length_le (by rw[HN.out];exact Nat.le_refl _),apX] at f1
      exact f1.symm
     have W3:Hid _:=FOK.out s' x' FR
     have S5:Hid _:=SY.out wr s' x' (by omega) f4
     obtain⟨ye,hye⟩:∃z,syE s'=z:=⟨_,rfl⟩
     rw[hye] at S5 W3
     clear I f1 f2 f3 f4 FR cb2 hye
     go_wp2_with fail
     refine Calls.mono S5.out ?_
     rintro e w4 ⟨rfl,Z4⟩
     clear S5 cb cq
     by_cases h6:ye=0
     ·subst h6
      have SS:Hid _:=SET.out w4 _ _ Z4.out
      have W4:Hid (WR=(((0,syS s'),x'),Ek)):=by
       have:=W3.out
       rw[if_pos rfl] at this
       exact this
      obtain⟨-,-,⟨cy6,cb6⟩,cf6⟩:=CELL.out _ _ _ Z4.out
      clear W3 Z4 SET KEEP
      go_wp2
      go_ret
      rw[W4.out]
      exact⟨rfl,SS.out⟩
     ·have KP6:Hid _:=KEEP.out w4 _ _ Z4.out
      have W4:Hid (WR=(((ye,syS s'),x'),E)):=by
       have:=W3.out
       rw[if_neg h6] at this
       exact this
      clear W3 Z4 SET KEEP
      go_wp2
      go_ret
      rw[W4.out]
      exact⟨rfl,KP6.out⟩
theorem sl_head0' (a:Option Addr) (n c i:Nat) (hi:i≤n) (hc:n≤c) (h0:a=none→n=0∧c=0) (hs:∀x,a=some x→x.spot=none) (W:World):(Instr.slice 45 (.slice a n c) none (some (.int .i64 (i:Int))) none).run Tryz.prog W = .ok (.slice a i c) W:=by
 cases a with
 | none =>
  obtain⟨rfl,rfl⟩:=h0 rfl
  obtain rfl:i=0:=by omega
  simp[go_sem]
 | some x =>
  obtain⟨b,o,sp⟩:=x
  have:sp=none:=hs _ rfl
  subst this
  have h1:(i:Int)≤(c:Int):=by omega
  simp[go_sem,h1]
section
variable (w:World) (d:Nat) (G:Nat→Prop) (s:St) (q:Nat) (v:Value) (x:Lo) (b quota:Nat) (u:Value) (E:List En)
theorem ybOf_any (z:Int) (hE:E.length≤50000) (k:Hid (Yz w d G s q v x b quota u E)) :
  Calls Tryz.prog 11 #[.pointer (some ⟨b,0,none⟩),.int .i64 z] w fun e w'=>∃y,e = .returned y∧w'.ownsRow w.heap.size 58 2 y (ofZ E z).length (scx (ofZ E z))∧Below w.heap.size w w':=by
 obtain⟨ua,uc,rfl,at_,-,-,-⟩:=owns_en rfl k.out.rs.row
 have k2:=k.out.rs.bk.c 2 _ rfl
 have O1:Hid _:=ybof_any ua E.length uc E z rfl (by omega) w at_
 obtain⟨N,hN⟩:∃N,E.length=N:=⟨_,rfl⟩
 rw[hN] at O1 k2
 clear k at_ hN hE
 go_enter Tryz.func11, Tryz.ntmps11
 go_wp2_with fail
 refine Calls.mono O1.out ?_
 rintro e w1 ⟨y,rfl,ho,hb⟩
 have FF:Hid (w1.ownsRow w.heap.size 58 2 y (ofZ E z).length (scx (ofZ E z))∧Below w.heap.size w w1):=⟨ho,hb⟩
 clear O1 ho hb
 go_wp2
 go_ret
 exact⟨_,rfl,FF.out⟩
set_option maxHeartbeats 4000000 in
theorem ybPut_any (z:Int) (X T:ByteArray) (hE:E.length≤30000) (gE:Gx (ofE E)) (uE:Bx.Us E) (hdn:s.down=false) (hl:s.l.length+60000≤1000000) (k:Hid (Yz w d G s q v x b quota u E)) :
  Calls Tryz.prog 26 #[.pointer (some ⟨b,0,none⟩),.int .i64 z,.string X,.string T] w fun e w'=>e = .returned (.int .i64 (puEn quota s x E z X.data.toList T.data.toList).1.1.1)∧YzP w (FZ G q v b u) d q b quota (puEn quota s x E z X.data.toList T.data.toList).1.1.2 (puEn quota s x E z X.data.toList T.data.toList).1.2 (puEn quota s x E z X.data.toList T.data.toList).2 w':=by
 have US:Hid _:=ybuser_any z w
 have ID:Hid _:=ybid_any X w
 have STAY:Hid (∀W,Below w.heap.size w W→YzP w (FZ G q v b u) d q b quota s x E W):=fun W hb=>k.out.start.later hb
 have hTl:T.data.toList.length=T.size:=by simp
 obtain⟨R,hR⟩:∃R,puEn quota s x E z X.data.toList T.data.toList=R:=⟨_,rfl⟩
 rw[hR]
 unfold puEn at hR
 cases hU:noU z with
 | true =>
  rw[if_pos hU] at hR
  rw[hU] at US
  have FF:Hid _:=STAY.out w (Below.refl _ _)
  have ER:Hid _:=hR
  clear hR k hU STAY ID hTl
  go_enter Tryz.func26, Tryz.ntmps26
  go_wp2_with fail
  refine Calls.mono US.out ?_
  rintro e w2 ⟨rfl,rfl⟩
  clear US
  go_wp2
  go_ret
  exact⟨by rw[←ER.out];rfl,by rw[←ER.out];exact FF.out⟩
 | false =>
  rw[if_neg (by rw[hU];simp)] at hR
  rw[hU] at US
  cases hI:okI X.data.toList with
  | false =>
   rw[if_pos hI] at hR
   rw[hI] at ID
   have ER:Hid _:=hR
   clear hR k hU hI hTl
   go_enter Tryz.func26, Tryz.ntmps26
   go_wp2_with fail
   refine Calls.mono US.out ?_
   rintro e w2 ⟨rfl,rfl⟩
   clear US
   go_wp2_with fail
   refine Calls.mono ID.out ?_
   rintro e w3 ⟨rfl,hb3⟩
   have FF:Hid _:=STAY.out _ hb3
   clear ID STAY hb3
   go_wp2
   go_ret
   exact⟨by rw[←ER.out];rfl,by rw[←ER.out];exact FF.out⟩
  | true =>
   rw[if_neg (by rw[hI];simp),hTl] at hR
   rw[hI] at ID
   by_cases hT:T.size≤222
   ·rw[if_neg (by omega)] at hR
    have gT:¬(222:Int) < (T.size:Int):=by omega
    obtain⟨n,rfl,hn⟩:=noU_nat hU
    rw[Int.toNat_natCast] at hR
    have uK:∃ua uc,u = .slice ua E.length uc∧∀W,Below w.heap.size w W→EnAt W ua E:=by
     obtain⟨ua,uc,e,at_,-⟩:=owns_en rfl k.out.rs.row
     exact⟨ua,uc,e,fun W hb=>at_.later hb⟩
    obtain⟨ua,uc,hu,at_⟩:=uK
    have C2:Hid (∀W,Below w.heap.size w W→W.cell? ⟨b,2,none⟩=some (.slice ua E.length uc)∧W.cell? ⟨b,1,none⟩=some (.int .i64 (quota:Int))):=fun W hb=>by
     have bk:=(k.out.later hb).rs.bk
     rw[hu] at bk
     exact⟨bk.c 2 _ rfl,bk.c 1 _ rfl⟩
    have AT:Hid (∀W,Below w.heap.size w W→Calls Tryz.prog 58 #[.slice ua E.length uc,.int .i64 (n:Int),.string X] W fun e w'=>e = .returned (.int .i64 (fndE E n X.data.toList))∧w'=W):=fun W hb=>ybat_any ua E.length uc E n X rfl (by omega) W (at_ W hb)
    by_cases hm:X.data.toList∈ids (ofE E n)
    ·rw[if_pos hm] at hR
     have hf:fndE E n X.data.toList=(Bx.plc E n X.data.toList:Int):=if_pos hm
     obtain⟨p,hp⟩:∃p,Bx.plc E n X.data.toList=p:=⟨_,rfl⟩
     rw[hf,hp] at AT
     have gp:(0:Int)≤(p:Int):=by omega
     have ER:Hid _:=hR
     clear hR k hU hI hTl hm hf hp at_
     go_enter Tryz.func26, Tryz.ntmps26
     go_wp2_with fail
     refine Calls.mono US.out ?_
     rintro e w2 ⟨rfl,rfl⟩
     clear US
     go_wp2_with fail
     refine Calls.mono ID.out ?_
     rintro e w3 ⟨rfl,hb3⟩
     have FF:Hid _:=STAY.out _ hb3
     obtain⟨c2,-⟩:=C2.out w3 hb3
     have A3:Hid _:=AT.out w3 hb3
     clear ID STAY hb3 AT C2
     go_wp2_with fail
     refine Calls.mono A3.out ?_
     rintro e w4 ⟨rfl,rfl⟩
     clear A3
     go_wp2
     go_ret
     exact⟨by rw[←ER.out];rfl,by rw[←ER.out];exact FF.out⟩
    ·rw[if_neg hm] at hR
     have hf:fndE E n X.data.toList = -1:=if_neg hm
     rw[hf] at AT
     have OFC:Hid (∀W,Below w.heap.size w W→Calls Tryz.prog 11 #[.pointer (some ⟨b,0,none⟩),.int .i64 (n:Int)] W fun e w'=>∃a c,e = .returned (.slice a (ofE E n).length c)∧(w'.cell? ⟨b,2,none⟩=some (.slice ua E.length uc)∧w'.cell? ⟨b,1,none⟩=some (.int .i64 (quota:Int)))∧Hid (Below w.heap.size w w')):=fun W hb=>by
      have:=ybOf_any W d G s q v x b quota u E (n:Int) (by omega) (k.out.later hb)
      rw[ofZ_nat] at this
      refine this.mono ?_
      rintro e w' ⟨y,he,ho,hb'⟩
      obtain⟨a,c,rfl,-,-⟩:=owns_sl rfl ho
      exact⟨a,c,he,C2.out w' (chain hb hb'),chain hb hb'⟩
     obtain⟨m,hmm⟩:∃m,(ofE E n).length=m:=⟨_,rfl⟩
     rw[hmm] at hR OFC
     by_cases hq:quota≤m
     ·rw[if_pos hq] at hR
      have gq:(quota:Int)≤(m:Int):=by omega
      have ER:Hid _:=hR
      clear hR k hU hI hTl hm hf at_ hmm
      obtain⟨NE,hNE⟩:∃N,E.length=N:=⟨_,rfl⟩
      rw[hNE] at C2 AT OFC
      clear hNE
      go_enter Tryz.func26, Tryz.ntmps26
      go_wp2_with fail
      refine Calls.mono US.out ?_
      rintro e w2 ⟨rfl,rfl⟩
      clear US
      go_wp2_with fail
      refine Calls.mono ID.out ?_
      rintro e w3 ⟨rfl,hb3⟩
      obtain⟨c2,c1⟩:=C2.out w3 hb3
      have A3:Hid _:=AT.out w3 hb3
      have O3:Hid _:=OFC.out w3.drew hb3.drew
      have D12:w3.drew.cell? ⟨b,2,none⟩=some (.slice ua NE uc)∧w3.drew.cell? ⟨b,1,none⟩=some (.int .i64 (quota:Int)):=⟨c2,c1⟩
      clear ID hb3 AT C2 OFC
      go_wp2_with fail
      refine Calls.mono A3.out ?_
      rintro e w4 ⟨rfl,hw4⟩
      have hw4':=hw4.symm
      subst hw4'
      clear A3 hw4
      go_wp2_with fail
      go_region_held3 (fun w'=>w'.cell? ⟨b,2,none⟩=some (.slice ua NE uc)∧w'.cell? ⟨b,1,none⟩=some (.int .i64 (quota:Int))) (first|exact D12|assumption) (first|(go_at_call 11;refine Calls.mono O3.out ?_;rintro e w5 ⟨a5,c5,rfl,hc5,B5⟩))
      have FF:Hid _:=STAY.out _ B5.out
      clear O3 D12 hc5 STAY
      go_wp2
      go_ret
      exact⟨by rw[←ER.out];rfl,by rw[←ER.out];exact FF.out⟩
     ·rw[if_neg hq] at hR
      have gq:¬(quota:Int)≤(m:Int):=by omega
      have ht:T.data.toList.length≤222:=by omega
      have TKP:=tkL_put (E:=E) hn hI ht hm
      have tk1:tksL E [putR n X.data.toList T.data.toList]=some (E++[(n,(X.data.toList,T.data.toList))]):=by
       rw[tksL,TKP]
       rfl
      have gF:Gx (ofE (E++[(n,(X.data.toList,T.data.toList))])):=by
       rw[ofE_snoc]
       exact gE.put hn hI ht hm
      have uF:=uE.put hn (X.data.toList,T.data.toList)
      have hpl:(putR n X.data.toList T.data.toList).length≤2000:=by
       have:=okI_len hI
       show (X.data.toList++T.data.toList).length+1+1≤2000
       rw[List.length_append]
       omega
      have PU:Hid (∀W,Calls Tryz.prog 60 #[.int .i64 (n:Int),.agg #[.string X,.string T]] W fun e w'=>e = .returned (.string (st (putR n X.data.toList T.data.toList)))∧Below W.heap.size W w'):=fun W=>ybput_any n hn X.data.toList T.data.toList (okI_len hI) ht W
      have WR:Hid (∀W V,Below w.heap.size w W→V=W.alloc (.cells #[.string (st (putR n X.data.toList T.data.toList))] 9)→Calls Tryz.prog 59 #[.pointer (some ⟨b,0,none⟩),.slice (some ⟨W.heap.size,0,none⟩) 1 1] V fun e w'=>e = .returned (.int .i64 R.1.1.1)∧YzP w (FZ G q v b u) d q b quota R.1.1.2 R.1.2 R.2 w'):=fun W V hb hV=>by
       have nV:Below W.heap.size W V:=by rw[hV];exact nb _ _
       have hbV:=chain hb nV
       have kV:=k.out.later hbV
       have tx:TxAt V (some ⟨W.heap.size,0,none⟩) [putR n X.data.toList T.data.toList]:=fun i hi=>by
        obtain rfl:i=0:=by simpa using hi
        exact⟨W.heap.size,0,rfl,by rw[hV,World.cell?_alloc_new];rfl⟩
       rw[←hR]
       refine (ybwrite_any V d G s q v x b quota u E _ (some ⟨W.heap.size,0,none⟩) 1 1 [putR n X.data.toList T.data.toList] rfl (by decide) (fun r hr=>by rw[List.mem_singleton.1 hr];exact hpl) tk1 (by omega) gF uF hdn hl kV tx (fun y ey _ => ?_)).mono fun _ w' ⟨e1,e2⟩=>⟨e1,e2.trans (Nx.refl _ _) (Bf.of hbV)⟩
       injection ey with ey
       subst ey
       refine⟨by rw[hV];simp,fun c => ?_⟩
       have h1:W.heap.size < w.heap.size:=k.out.lt c
       have:=hb.size
       omega
      obtain⟨Z,hZ⟩:∃Z,st (putR n X.data.toList T.data.toList)=Z:=⟨_,rfl⟩
      rw[hZ] at PU WR
      clear hR k hU hI hTl hm hf at_ hmm TKP tk1 gF uF hpl hZ STAY gE uE
      obtain⟨NE,hNE⟩:∃N,E.length=N:=⟨_,rfl⟩
      rw[hNE] at C2 AT OFC
      clear hNE
      go_enter Tryz.func26, Tryz.ntmps26
      go_wp2_with fail
      refine Calls.mono US.out ?_
      rintro e w2 ⟨rfl,rfl⟩
      clear US
      go_wp2_with fail
      refine Calls.mono ID.out ?_
      rintro e w3 ⟨rfl,hb3⟩
      obtain⟨c2,c1⟩:=C2.out w3 hb3
      have A3:Hid _:=AT.out w3 hb3
      have O3:Hid _:=OFC.out w3.drew hb3.drew
      have D12:w3.drew.cell? ⟨b,2,none⟩=some (.slice ua NE uc)∧w3.drew.cell? ⟨b,1,none⟩=some (.int .i64 (quota:Int)):=⟨c2,c1⟩
      clear ID hb3 AT C2 OFC
      go_wp2_with fail
      refine Calls.mono A3.out ?_
      rintro e w4 ⟨rfl,hw4⟩
      have hw4':=hw4.symm
      subst hw4'
      clear A3 hw4
      go_wp2_with fail
      go_region_held3 (fun w'=>w'.cell? ⟨b,2,none⟩=some (.slice ua NE uc)∧w'.cell? ⟨b,1,none⟩=some (.int .i64 (quota:Int))) (first|exact D12|assumption) (first|(go_at_call 11;refine Calls.mono O3.out ?_;rintro e w5 ⟨a5,c5,rfl,hc5,B5⟩))
      clear O3 D12 hc5 c1 c2
      go_wp2_with fail
      refine Calls.mono (PU.out _) ?_
      rintro e w6 ⟨rfl,hb6⟩
      have W6:Hid _:=WR.out w6 _ (chain B5.out hb6) rfl
      clear PU hb6 WR B5
      go_wp2_with fail
      refine Calls.mono W6.out ?_
      rintro e w7 ⟨rfl,h7⟩
      have F7:Hid _:=h7
      clear W6 h7
      go_wp2
      go_ret
      exact⟨rfl,F7.out⟩
   ·rw[if_pos (by omega)] at hR
    have gT:(222:Int) < (T.size:Int):=by omega
    have ER:Hid _:=hR
    clear hR k hU hI hTl
    go_enter Tryz.func26, Tryz.ntmps26
    go_wp2_with fail
    refine Calls.mono US.out ?_
    rintro e w2 ⟨rfl,rfl⟩
    clear US
    go_wp2_with fail
    refine Calls.mono ID.out ?_
    rintro e w3 ⟨rfl,hb3⟩
    have FF:Hid _:=STAY.out _ hb3
    clear ID STAY hb3
    go_wp2
    go_ret
    exact⟨by rw[←ER.out];rfl,by rw[←ER.out];exact FF.out⟩
set_option maxHeartbeats 2000000 in
theorem ybFirst_any (z n:Int) (hE:E.length≤50000) (k:Hid (Yz w d G s q v x b quota u E)) :
  Calls Tryz.prog 27 #[.pointer (some ⟨b,0,none⟩),.int .i64 z,.int .i64 n] w fun e w'=>∃a c,e = .returned (.tuple #[.slice a (fiX (ofE E) z n).2.length c,.int .i64 (fiX (ofE E) z n).1])∧SlAt w' a (fiX (ofE E) z n).2∧Below w.heap.size w w':=by
 have US:Hid _:=ybuser_any z w
 obtain⟨R,hR⟩:∃R,fiX (ofE E) z n=R:=⟨_,rfl⟩
 rw[hR]
 unfold fiX at hR
 have NO:Hid (noU z=true∨n < 0∨256 < n→(.returned (.tuple #[.slice none 0 0,.int .i64 1]):Ending) = .returned (.tuple #[.slice none R.2.length 0,.int .i64 R.1])∧SlAt w none R.2∧Below w.heap.size w w):=fun c=>by
  rw[if_pos c] at hR
  rw[←hR]
  exact⟨rfl,SlAt.nil _ _,Below.refl _ _⟩
 cases hU:noU z with
 | true =>
  rw[hU] at US
  have FF:Hid _:=NO.out (.inl hU)
  clear hR k hU NO
  go_enter Tryz.func27, Tryz.ntmps27
  go_wp2_with fail
  refine Calls.mono US.out ?_
  rintro e w2 ⟨rfl,rfl⟩
  clear US
  go_wp2
  go_ret2
  exact⟨none,0,FF.out⟩
 | false =>
  rw[hU] at US
  by_cases h1:n < 0
  ·have FF:Hid _:=NO.out (.inr (.inl h1))
   clear hR k hU NO
   go_enter Tryz.func27, Tryz.ntmps27
   go_wp2_with fail
   refine Calls.mono US.out ?_
   rintro e w2 ⟨rfl,rfl⟩
   clear US
   go_wp2
   go_ret2
   exact⟨none,0,FF.out⟩
  ·by_cases h2:256 < n
   ·have FF:Hid _:=NO.out (.inr (.inr h2))
    clear hR k hU NO
    go_enter Tryz.func27, Tryz.ntmps27
    go_wp2_with fail
    refine Calls.mono US.out ?_
    rintro e w2 ⟨rfl,rfl⟩
    clear US
    go_wp2
    go_ret2
    exact⟨none,0,FF.out⟩
   ·rw[if_neg (by rw[hU];intro h;rcases h with h|h|h;cases h;exact h1 h;exact h2 h)] at hR
    obtain⟨m,rfl,hm⟩:=noU_nat hU
    obtain⟨Z,rfl⟩:∃Z:Nat,n=(Z:Int):=⟨n.toNat,by omega⟩
    rw[Int.toNat_natCast,Int.toNat_natCast] at hR
    have O1:=ybOf_any w d G s q v x b quota u E (m:Int) (by omega) k
    rw[ofZ_nat] at O1
    have O2:Hid _:=O1
    have LE:Hid ((ofE E m).length≤50000):=by
     have:=ofZ_le E (m:Int)
     rw[ofZ_nat] at this
     exact Nat.le_trans this hE
    obtain⟨L,hL⟩:∃l,ofE E m=l:=⟨_,rfl⟩
    rw[hL] at hR O2 LE
    have g1:¬(Z:Int) < 0:=by omega
    have g2:¬(256:Int) < (Z:Int):=by omega
    have ER:Hid ((0,L.take Z)=R):=hR
    clear hR k hU NO O1 hL h1 h2
    go_enter Tryz.func27, Tryz.ntmps27
    go_wp2_with fail
    refine Calls.mono US.out ?_
    rintro e w2 ⟨rfl,rfl⟩
    clear US
    go_wp2_with fail
    refine Calls.mono O2.out ?_
    rintro e w3 ⟨y,rfl,ho,hb3⟩
    obtain⟨a,c,rfl,sl,-⟩:=owns_sl rfl ho
    obtain⟨r,hr⟩:∃r,min Z L.length=r:=⟨_,rfl⟩
    have hrl:r≤L.length:=by omega
    have SH:=sl_head0' a L.length c r hrl sl.le sl.nl sl.sp
    have FF:Hid (SlAt w3 a R.2∧Below w2.heap.size w2 w3∧R.2.length=r∧R.1=0):=by
     rw[←ER.out]
     exact⟨sl.at_.take Z,hb3,by rw[List.length_take];exact hr,rfl⟩
    obtain⟨NL,hNL⟩:∃n,L.length=n:=⟨_,rfl⟩
    rw[hNL] at hr hrl SH ⊢
    have m1:min (Z:Int) (NL:Int)=(r:Int):=by omega
    have m2:min (NL:Int) (Z:Int)=(r:Int):=by omega
    clear O2 ho hb3 sl hr hNL LE
    go_wp2
    go_ret2
    exact⟨a,c,by rw[FF.out.2.2.1,FF.out.2.2.2];rfl,FF.out.1,FF.out.2.1⟩
end
end Go.Proofs.YtjpaodepnacimaaGreatDoor
