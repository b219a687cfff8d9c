/- Parts: LrE,LrC,LrF,LrG,LrH,LrI. -/
import Derived.Test.YtjpaodepnacimaaGreatDoorZdG13
import Derived.Deep.CutBlock
import Derived.Test.YtjpaodepnacimaaGreatDoorZdG12
namespace Go.Proofs.YtjpaodepnacimaaGreatDoor
open Go.RowKit Go.Proofs.Fd Go.Proofs.Dk Go.Proofs.Lg
set_option maxRecDepth 20000
theorem rcls_zero {s:St} {k j m:Nat} {d:Bool} (hj:j < m) (hz:s.sh (k+j)=zr 64):cls s (k+j) (m - j) d=cls s (k+(j+1)) (m - (j+1)) d:=by
 obtain⟨q,hq⟩:∃q,m - j=q+1:=⟨m - j - 1,by omega⟩
 rw[hq,cls,if_pos hz,show m - (j+1)=q by omega]
 rfl
theorem rcls_some {s:St} {k j m:Nat} {d:Bool} (hj:j < m) (hz:s.sh (k+j)≠zr 64):cls s (k+j) (m - j) d=thn (wrE s ((k+j:Nat):Int) (zr 64),wrS s ((k+j:Nat):Int) (zr 64)) fun s'=>cls s' (k+(j+1)) (m - (j+1)) true:=by
 obtain⟨q,hq⟩:∃q,m - j=q+1:=⟨m - j - 1,by omega⟩
 rw[hq,cls,if_neg hz,show m - (j+1)=q by omega]
 rfl
theorem rbytes_ne {a b:Bs} (h:a≠b):((st a).toList == (st b).toList)=false:=by
 rw[beq_eq_false_iff_ne]
 intro c
 rw[ByteArray.toList_eq,ByteArray.toList_eq,st_data,st_data] at c
 exact h c
theorem wrS_up {s:St} {k:Int} {t:Bs} (h:wrE s k t=0):(wrS s k t).down=false:=by
 unfold wrE at h
 unfold wrS
 by_cases h1:rch s k≠0
 ·rw[if_pos h1] at h
  exact absurd h h1
 ·rw[if_neg h1] at h ⊢
  by_cases h2:t.length≠64
  ·rw[if_pos h2] at h
   exact absurd h (by decide)
  ·rw[if_neg h2] at h ⊢
   by_cases h3:s.fuse=1
   ·rw[if_pos h3] at h
    exact absurd h (by decide)
   ·rw[if_neg h3]
    show decide (s.fuse=1)=false
    simp[h3]
set_option maxHeartbeats 4000000 in
theorem rclean_any (v:World) (d:Nat) (G:Nat→Prop) (s:St) (hh fr:Nat) (h1:hh≤1) (hn:s.n≤1024) (hz:fr≤s.n / 2) (hdn:s.down=false) (hl:s.l.length+1024≤1000000) (h:Hid (DAt v d G s)) :
  Calls Tryz.prog 87 #[.pointer (some ⟨d,0,none⟩),.int .i64 (hh:Int),.int .i64 (fr:Int)] v fun e w'=>e = .returned (.int .i64 (cln s (hh*(s.n / 2)+fr) (s.n / 2 - fr)).1)∧DSt v d G (cln s (hh*(s.n / 2)+fr) (s.n / 2 - fr)).2 w':=by
 have ec:cln s (hh*(s.n / 2)+fr) (s.n / 2 - fr)=cls s (hh*(s.n / 2)+fr) (s.n / 2 - fr) false:=if_neg (by rw[hdn];decide)
 rw[ec]
 have hfit:hh*(s.n / 2)+s.n / 2≤s.n:=by
  rcases (by omega:hh=0∨hh=1) with e|e
  ·rw[e,Nat.zero_mul];omega
  ·rw[e,Nat.one_mul];omega
 obtain⟨H,hH⟩:∃H,s.n / 2=H:=⟨_,rfl⟩
 have hH2:H≤512:=by omega
 rw[hH] at hz hfit ⊢
 obtain⟨K,hK⟩:∃K,hh*H=K:=⟨_,rfl⟩
 rw[hK] at hfit ⊢
 have hK2:K≤1024:=by omega
 have eK:(hh:Int)*(H:Int)=(K:Int):=by rw[←hK];simp
 have yK:IntKind.i64.wrap (K:Int)=(K:Int):=by rw[IntKind.wrap_i64];omega
 obtain⟨r,hr⟩:∃r,cls s (K+fr) (H - fr) false=r:=⟨_,rfl⟩
 rw[hr]
 have I0:Hid (Dw v d G v G s∧s.n=s.n∧s.down=false∧s.l.length≤s.l.length+(fr - fr)∧r=cls s (K+fr) (H - fr) false):=⟨⟨h.out,Nx.refl _ _,Bf.refl _ _⟩,rfl,hdn,Nat.le_add_right _ _,hr.symm⟩
 have HN:Hid (s.n / 2=H∧s.n≤1024∧K+H≤s.n∧s.l.length+1024≤1000000):=⟨hH,hn,hfit,hl⟩
 have ZR:Hid (∀W,Calls Tryz.prog 123 #[.int .i64 64] W fun e w'=>e = .returned (.string (st (zr 64)))∧Below W.heap.size W w'):=rzeros_any 64 (by decide)
 obtain⟨Z,hZ⟩:∃Z,st (zr 64)=Z:=⟨_,rfl⟩
 rw[hZ] at ZR
 have HZ:Hid (st (zr 64)=Z):=hZ
 clear ec hH hK hr h hdn hn h1 hfit hl hZ
 go_enter Tryz.func87, Tryz.ntmps87
 go_upto_block 0 with fail
 go_cut [7,8,9,10,11] (fun dv _ _ _ _ wx=>∃(G':Nat→Prop) (s':St) (b:Bool),dv = .bool b∧Hid (Dw v d G wx G' s'∧s'.l.length≤1000000∧r=if b=true then (syE s',syS s') else (0,s')))
 case first =>
  go_wp2_with fail
  go_loopw [7,8] (fun dv i wr=>∃(j:Nat) (G':Nat→Prop) (s':St) (b:Bool),fr≤j∧j≤H∧dv = .bool b∧i = .int .i64 (j:Int)∧Hid (Dw v d G wr G' s'∧s'.n=s.n∧s'.down=false∧s'.l.length≤s.l.length+(j - fr)∧r=cls s' (K+j) (H - j) b)) (fun _ i _=>H - (intOf i).toNat)
  case atStart=>exact⟨fr,G,s,false,Nat.le_refl _,hz,rfl,rfl,I0.out.1,rfl,I0.out.2.2⟩
  case round =>
   obtain⟨j,G',s',b,hj1,hj2,rfl,rfl,I⟩:=hrel
   clear I0
   have HA:Hid (∀W,Below wr.heap.size wr W→Calls Tryz.prog 79 #[.pointer (some ⟨d,0,none⟩)] W fun e w'=>e = .returned (.int .i64 (H:Int))∧w'=W):=fun W hb=>by
    have e:=I.out.2.1
    have:=rhalf_any d G' s' W (I.out.1.at_.later hb) (by rw[e];have:=HN.out.2.1;omega)
    rw[e,HN.out.1] at this
    exact this
   by_cases hjH:j < H
   ·have g1:(j:Int) < (H:Int):=by omega
    have y2:IntKind.i64.wrap ((K:Int)+(j:Int))=(K:Int)+(j:Int):=by rw[IntKind.wrap_i64];omega
    have ek:((K+j:Nat):Int)=(K:Int)+(j:Int):=by omega
    have er:rch s' ((K:Int)+(j:Int))=0:=by
     rw[rch,if_neg (by rw[I.out.2.2.1];decide),if_neg (by rw[I.out.2.1];have:=HN.out.2.2.1;omega)]
    have ev:rdV s' ((K:Int)+(j:Int))=s'.sh (K+j):=by
     rw[rdV,if_pos er,←ek,Int.toNat_natCast]
    have RD:Hid (∀W,Below wr.heap.size wr W→Calls Tryz.prog 13 #[.pointer (some ⟨d,0,none⟩),.int .i64 ((K:Int)+(j:Int))] W fun e w'=>e = .returned (.tuple #[.string (st (s'.sh (K+j))),.int .i64 0])∧w'=W):=fun W hb=>by
     have:=rread_any d G' s' ((K:Int)+(j:Int)) W (I.out.1.at_.later hb) (by have:=I.out.2.2.2.1;have:=HN.out.2.2.2;omega)
     rw[er,ev] at this
     exact this
    by_cases hzz:s'.sh (K+j)=zr 64
    ·rw[hzz,HZ.out] at RD
     have J:Hid (∀W,Below wr.heap.size wr W→Dw v d G W G' s'∧s'.n=s.n∧s'.down=false∧s'.l.length≤s.l.length+(j+1 - fr)∧r=cls s' (K+(j+1)) (H - (j+1)) b):=fun W hb=>⟨I.out.1.later hb,I.out.2.1,I.out.2.2.1,by have:=I.out.2.2.2.1;omega,by rw[I.out.2.2.2.2,rcls_zero hjH hzz]⟩
     clear I er ev ek hzz
     go_wp2_with fail
     refine Calls.mono (HA.out _ (Below.refl _ _)) ?_
     rintro e w1 ⟨rfl,rfl⟩
     go_wp2_with fail
     refine Calls.mono (HA.out _ (Below.refl _ _)) ?_
     rintro e w1 ⟨rfl,rfl⟩
     go_wp2_with fail
     refine Calls.mono (RD.out _ (Below.refl _ _)) ?_
     rintro e w1 ⟨rfl,rfl⟩
     go_wp2_with fail
     refine Calls.mono (ZR.out _) ?_
     rintro e w2 ⟨rfl,hb⟩
     have J2:Hid _:=J.out w2 hb
     clear hb J HA RD
     go_wp2
     go_roundw
     case rel=>exact⟨j+1,G',s',b,by omega,by omega,rfl,rfl,J2.out⟩
     case measure=>simp[intOf];omega
    ·have NE:=rbytes_ne hzz
     rw[HZ.out] at NE
     have HR:Hid (r=_):=I.out.2.2.2.2.trans (rcls_some hjH hzz)
     have W1:Hid (∀W,Below wr.heap.size wr W→Calls Tryz.prog 121 #[.pointer (some ⟨d,0,none⟩),.int .i64 ((K:Int)+(j:Int)),.string Z] W fun e w'=>e = .returned (.int .i64 (wrE s' ((K+j:Nat):Int) (zr 64)))∧∃G'',Dw v d G w' G'' (wrS s' ((K+j:Nat):Int) (zr 64))):=fun W hb=>by
      have:=rwrite_any d G' s' ((K+j:Nat):Int) (st (zr 64)) W (I.out.1.at_.later hb) (by have:=I.out.2.2.2.1;have:=HN.out.2.2.2;omega)
      rw[HZ.out] at this
      rw[ek] at this ⊢
      have e5:Z.data.toList=zr 64:=by rw[←HZ.out];rfl
      rw[e5] at this
      exact this.mono fun _ _ ⟨he,k⟩=>⟨he,(I.out.1.later hb).stp k⟩
     have L1:Hid ((wrS s' ((K+j:Nat):Int) (zr 64)).n=s.n∧(wrE s' ((K+j:Nat):Int) (zr 64)=0→(wrS s' ((K+j:Nat):Int) (zr 64)).down=false)∧(wrS s' ((K+j:Nat):Int) (zr 64)).l.length≤s.l.length+(j+1 - fr)):=⟨(wrS_n _ _ _).trans I.out.2.1,wrS_up,Nat.le_trans (wrS_len _ _ _) (by have:=I.out.2.2.2.1;omega)⟩
     obtain⟨x,hx⟩:∃x,wrE s' ((K+j:Nat):Int) (zr 64)=x:=⟨_,rfl⟩
     obtain⟨s2,hs2⟩:∃s2,wrS s' ((K+j:Nat):Int) (zr 64)=s2:=⟨_,rfl⟩
     rw[hx,hs2] at HR W1 L1
     obtain⟨Y,hY⟩:∃Y,st (s'.sh (K+j))=Y:=⟨_,rfl⟩
     rw[hY] at RD NE
     clear I er ev ek hzz hx hs2 hY
     go_wp2_with fail
     refine Calls.mono (HA.out _ (Below.refl _ _)) ?_
     rintro e w1 ⟨rfl,rfl⟩
     go_wp2_with fail
     refine Calls.mono (HA.out _ (Below.refl _ _)) ?_
     rintro e w1 ⟨rfl,rfl⟩
     go_wp2_with fail
     refine Calls.mono (RD.out _ (Below.refl _ _)) ?_
     rintro e w1 ⟨rfl,rfl⟩
     go_wp2_with fail
     refine Calls.mono (ZR.out _) ?_
     rintro e w2 ⟨rfl,hb⟩
     have B2:Hid _:=hb
     clear hb RD
     go_wp2_with fail
     refine Calls.mono (HA.out _ B2.out) ?_
     rintro e w3 ⟨rfl,rfl⟩
     go_wp2_with fail
     refine Calls.mono (ZR.out _) ?_
     rintro e w4 ⟨rfl,hb⟩
     have B4:Hid _:=chain B2.out hb
     clear hb B2 HA
     by_cases h0:x=0
     ·subst h0
      have HR2:Hid (r=cls s2 (K+(j+1)) (H - (j+1)) true):=HR.out
      clear HR
      go_wp2_with fail
      refine Calls.mono (W1.out _ B4.out) ?_
      rintro e w5 ⟨rfl,G5,J5⟩
      have J6:Hid _:=J5
      clear J5 W1 B4
      go_wp2
      go_roundw
      case rel=>exact⟨j+1,G5,s2,true,by omega,by omega,rfl,rfl,J6.out,L1.out.1,L1.out.2.1 (by first|rfl|trivial),L1.out.2.2,HR2.out⟩
      case measure=>simp[intOf];omega
     ·have HR2:Hid (r=(x,s2)):=by
       show r=(x,s2)
       rw[HR.out,thn_no h0]
      clear HR
      go_wp2_with fail
      refine Calls.mono (W1.out _ B4.out) ?_
      rintro e w5 ⟨rfl,G5,J5⟩
      have J6:Hid _:=J5
      clear J5 W1 B4
      go_wp2
      go_ret
      exact⟨by rw[HR2.out];rfl,by rw[HR2.out];exact J6.out.ds⟩
   ·obtain rfl:j=H:=by omega
    have g1:¬(j:Int) < (j:Int):=by omega
    have J:Hid (Dw v d G wr G' s'∧s'.l.length≤1000000∧r=if b=true then (syE s',syS s') else (0,s')):=⟨I.out.1,by have:=I.out.2.2.2.1;have:=HN.out.2.2.2;omega,by rw[I.out.2.2.2.2,Nat.sub_self,cls]⟩
    clear I
    go_wp2_with fail
    refine Calls.mono (HA.out _ (Below.refl _ _)) ?_
    rintro e w1 ⟨rfl,rfl⟩
    clear HA
    go_wp2
    go_meet
    case rel=>exact⟨G',s',b,rfl,J.out⟩
 case rest =>
  obtain⟨G',s',b,rfl,I⟩:=hcut
  clear I0
  cases b
  ·have HR:Hid (r=(0,s')):=I.out.2.2
   go_wp2
   go_ret
   exact⟨by rw[HR.out];rfl,by rw[HR.out];exact I.out.1.ds⟩
  ·have HR:Hid (r=(syE s',syS s')):=I.out.2.2
   have SY:Hid _:=rsync_any d G' s' wc I.out.1.at_ I.out.2.1
   go_wp2_with fail
   refine Calls.mono SY.out ?_
   rintro e w1 ⟨rfl,k⟩
   have FF:Hid (DSt v d G (syS s') w1):=by
    obtain⟨G2,k2⟩:=I.out.1.stp k
    exact k2.ds
   clear SY k I
   obtain⟨x,hx⟩:∃x,syE s'=x:=⟨_,rfl⟩
   rw[hx] at HR ⊢
   go_wp2
   go_ret
   exact⟨by rw[HR.out];rfl,by rw[HR.out];exact FF.out⟩
set_option maxHeartbeats 1000000 in
theorem rrecord_any (a t:Bs) (ha:a.length=16) (ht:t.length≤2000) (w:World):Calls Tryz.prog 86 #[sv a,sv t] w fun e w'=>e = .returned (.tuple #[sv (rcd a t),sv (rmk a t)])∧Below w.heap.size w w':=by
 have hb2:ben t.length 2=[UInt8.ofNat (t.length / 256),UInt8.ofNat t.length]:=by simp[ben,List.range_succ]
 have b1:((st t).size:Int) / 256=((UInt8.ofNat (t.length / 256)).toNat:Int):=by rw[st_size,UInt8.toNat_ofNat'];omega
 have b0:((st t).size:Int) % 256=((UInt8.ofNat t.length).toNat:Int):=by rw[st_size,UInt8.toNat_ofNat'];omega
 have MK:Hid (∀w,Calls Tryz.prog 82 #[sv (a++ben t.length 2++t)] w fun e w'=>e = .returned (sv (rmk a t))∧Below w.heap.size w w'):=rmark_any (a++ben t.length 2++t) (by rw[List.length_append,List.length_append,ben_len];omega)
 obtain⟨z,hz⟩:∃z,(64 - (18+t.length) % 64) % 64=z:=⟨_,rfl⟩
 have ZR:Hid (∀w,_):=rzeros_any z (by omega)
 have hl:(ben t.length 2++rmk a t++t).length=18+t.length:=by rw[List.length_append,List.length_append,ben_len,rmk,mk_len]
 have HP:Hid (st (ben t.length 2)++st (rmk a t)++st t++st (zr z)=st (rcd a t)):=by
  show st (ben t.length 2)++st (rmk a t)++st t++st (zr z)=st (rcd a t)
  rw[st_app,st_app,st_app,rcd,pdd,hl,hz]
 have e3:st (a++ben t.length 2++t)=st a++st (ben t.length 2)++st t:=by rw[st_app,st_app]
 have s1:(st a).size=16:=by rw[st_size,ha]
 have s2:(st (rmk a t)).size=16:=by rw[st_size,rmk,mk_len]
 have s3:(st (ben t.length 2)).size=2:=by rw[st_size,ben_len]
 have s4:(st (zr z)).size=z:=by rw[st_size,zr_len]
 have s5:(st t).size≤2000:=by rw[st_size];exact ht
 have e4 : -((18+((st t).size:Int)) % 64) % 64=(z:Int):=by rw[st_size];omega
 have hz2:z < 64:=by omega
 unfold sv at *
 rw[e3] at MK
 have CV:∀W:World,(convert 70 9 (.slice (some ⟨W.heap.size,0,none⟩) 2 2)).run Tryz.prog (W.alloc (.cells #[.int .u8 ((UInt8.ofNat (t.length / 256)).toNat:Int),.int .u8 ((UInt8.ofNat t.length).toNat:Int)] 5)) = .ok (.string (st (ben t.length 2))) (W.alloc (.cells #[.int .u8 ((UInt8.ofNat (t.length / 256)).toNat:Int),.int .u8 ((UInt8.ofNat t.length).toNat:Int)] 5)):=fun W=>by
  have:=(bytes_new W (ben t.length 2) #[.int .u8 ((UInt8.ofNat (t.length / 256)).toNat:Int),.int .u8 ((UInt8.ofNat t.length).toNat:Int)] (by rw[hb2];rfl)).string (cap:=2) (n:=2) (ben_len _ _)
  exact this
 obtain⟨A,hA⟩:∃A,st a=A:=⟨_,rfl⟩
 obtain⟨T,hT⟩:∃A,st t=A:=⟨_,rfl⟩
 obtain⟨L,hL⟩:∃A,st (ben t.length 2)=A:=⟨_,rfl⟩
 obtain⟨M,hM⟩:∃A,st (rmk a t)=A:=⟨_,rfl⟩
 obtain⟨Z,hZ⟩:∃A,st (zr z)=A:=⟨_,rfl⟩
 obtain⟨c1,h1⟩:∃c,UInt8.ofNat (t.length / 256)=c:=⟨_,rfl⟩
 obtain⟨c0,h0⟩:∃c,UInt8.ofNat t.length=c:=⟨_,rfl⟩
 rw[hA] at MK s1 ⊢
 rw[hT] at MK s5 HP b0 b1 e4 ⊢
 rw[hL] at MK HP s3 CV
 rw[hM] at MK HP s2 ⊢
 rw[hZ] at ZR HP s4
 rw[h1] at b1 CV
 rw[h0] at b0 CV
 have CV0:=CV w
 clear hA hT hL hM hZ h1 h0 hb2 e3 hl hz ha ht CV
 have q1:=c1.toNat_lt
 have y1:IntKind.i64.wrap (c1.toNat:Int)=(c1.toNat:Int):=by rw[IntKind.wrap_i64];omega
 have y2:(c1.toNat:Int) % 256=(c1.toNat:Int):=by omega
 go_enter Tryz.func86, Tryz.ntmps86
 go_wp2_with fail
 refine Calls.mono (MK.out _) ?_
 rintro e w1 ⟨rfl,hb⟩
 have B1:Hid (Below w.heap.size w w1):=chain ((Below.refl _ _).alloc (Nat.le_refl _) _) hb
 clear hb MK
 go_wp2_with fail
 refine Calls.mono (ZR.out _) ?_
 rintro e w2 ⟨rfl,hb⟩
 have B2:Hid _:=chain B1.out hb
 clear hb B1
 go_wp2
 go_ret2
 exact⟨by rw[←HP.out];rfl,B2.out⟩
abbrev rc (d h g:Nat) (v:Value) (m:Bs) (tk:Nat):List Value:=[.pointer (some ⟨d,0,none⟩),.int .i64 (h:Int),.int .i64 (g:Int),v,sv m,.int .i64 (tk:Int)]
structure Rf (w:World) (q d h g:Nat) (v:Value) (ts:List Bs) (tk:Nat) (m:Bs):Prop where
 bk:Blk w q (rc d h g v m tk)
 row:OwnsS w v ts
 qv:v.ownBlock≠some q
section
variable {w:World} {q d h g:Nat} {v:Value} {ts:List Bs} {tk:Nat} {m:Bs}
theorem Rf.lt (k:Rf w q d h g v ts tk m) {x:Nat} (hx:HFt q v x):x < w.heap.size:=by
 rcases hx with rfl|e
 ·exact k.bk.lt
 ·exact (k.row.lt x e).2
theorem Rf.same (k:Rf w q d h g v ts tk m) {w':World} (hs:∀x,HFt q v x→w'.heap[x]?=w.heap[x]?):Rf w' q d h g v ts tk m :=
 ⟨k.bk.same (hs q (.inl rfl)),ownsRow_same k.row (fun x e=>hs x (.inr e)),k.qv⟩
theorem Rf.later (k:Rf w q d h g v ts tk m) {w':World} (hb:Below w.heap.size w w'):Rf w' q d h g v ts tk m:=k.same fun x hx=>hb.block x (k.lt hx)
theorem Rf.bf (k:Rf w q d h g v ts tk m) {F:Nat→Prop} {w':World} (hb:Bf F w w') (hF:∀x,HFt q v x→¬F x):Rf w' q d h g v ts tk m:=k.same fun x hx=>hb.block x (k.lt hx) (hF x hx)
theorem Rf.next (k:Rf w q d h g v ts tk m) {w1:World} (hb:Below w.heap.size w w1) {u:Value} {us:List Bs} (ho:OwnsS w1 u us) (hu:∀x,u.ownBlock=some x→w.heap.size≤x) (m':Bs) (tk':Nat) :
  Rf (((w1.setCell ⟨q,3,none⟩ u).setCell ⟨q,4,none⟩ (sv m')).setCell ⟨q,5,none⟩ (.int .i64 (tk':Int))) q d h g u us tk' m'∧Bf (fun x=>x=q) w (((w1.setCell ⟨q,3,none⟩ u).setCell ⟨q,4,none⟩ (sv m')).setCell ⟨q,5,none⟩ (.int .i64 (tk':Int))):=by
 have hq:=k.bk.lt
 have nq:u.ownBlock≠some q:=fun e=>by have:=hu q e;omega
 have b1:=(((k.bk.later hb).set 3 (by simp) u).set 4 (by simp) (sv m')).set 5 (by simp) (.int .i64 (tk':Int))
 have s1:∀(W:World) (i:Nat) (y:Value),OwnsS W u us→OwnsS (W.setCell ⟨q,i,none⟩ y) u us:=fun W i y ho=>ownsRow_same ho (fun x e=>Below.heap_setCell W ⟨q,i,none⟩ y x (fun c=>nq (by rw[e,c])))
 exact⟨⟨b1,s1 _ _ _ (s1 _ _ _ (s1 _ _ _ ho)),nq⟩,bf_set (F:=fun x=>x=q) (bf_set (F:=fun x=>x=q) (bf_set (F:=fun x=>x=q) (Bf.of hb) rfl) rfl) rfl⟩
end
theorem copy1 (w:World) (v:Value) (l:List Bs) (h:OwnsS w v l) (hl:l.length≤1000) (t:Bs) :
  ∃v1 w1 v2 w2,(Builtin.append_ #[37, 37] 37 #[.slice (some ⟨w.heap.size,0,none⟩) 0 0,v]).run Tryz.prog (w.alloc (.cells #[] 9)) = .ok v1 w1
   ∧ (Builtin.append_ #[37, 37] 37 #[v1,.slice (some ⟨w1.heap.size,0,none⟩) 1 1]).run Tryz.prog (w1.alloc (.cells #[sv t] 9)) = .ok v2 w2
   ∧ OwnsS w2 v2 (l++[t])∧Below w.heap.size w w1∧Below w.heap.size w w2∧∀x,v2.ownBlock=some x→w.heap.size≤x:=by
 obtain⟨i0,hi,hz0,hz1,hz2⟩:=info_parts infoS
 have hb0:Below w.heap.size w (w.alloc (.cells #[] 9)):=nb w _
 have o0:(w.alloc (.cells #[] 9)).ownsRow w.heap.size 9 1 (.slice (some ⟨w.heap.size,0,none⟩) 0 0) 0 []:=World.ownsRow_made (base:=w.heap.size) (e := 9) (size:=1) w #[] 0 (Nat.le_refl _) (Nat.zero_le _) rfl
 have step:∃v1 w1,(Builtin.append_ #[37, 37] 37 #[.slice (some ⟨w.heap.size,0,none⟩) 0 0,v]).run Tryz.prog (w.alloc (.cells #[] 9)) = .ok v1 w1∧w1.ownsRow w.heap.size 9 1 v1 l.length (scs l)∧Below w.heap.size w w1:=by
  rcases h.2 with ⟨rfl,h0⟩|⟨g,cap,cur,rfl,-,hh,hnc,-,hcs,ht⟩
  ·obtain rfl:=List.length_eq_zero_iff.1 h0
   exact⟨_,_,run_append_owned_none (P:=Tryz.prog) _ w.heap.size 37 37 9 i0 1 Tryz.underlying37 hi _ 0 [] o0,o0,hb0⟩
  ·obtain ⟨v', w', r1, r2, r3, -, -⟩ := run_append_own_at (P := Tryz.prog) _ w.heap.size 37 37 9 i0 _ 1 16 Tryz.underlying37 hi hz0 hz1 hz2 rfl (by decide) _ 0 [] o0 ⟨g, 0, none⟩ l.length cap (scs l) (by rw [scs_len]; omega) (fun i y hy => by
        have hi:i < l.length:=by
          have:=(List.getElem?_eq_some_iff.1 hy).1
          rw[scs_len] at this
          exact this
        rw[Nat.mul_one] at ht
        rw[←ht,List.getElem?_take_of_lt hi] at hy
        have q:Addr.add ⟨g,0,none⟩ i=⟨g,i,none⟩:=by simp[Addr.add];intro h;exact h.symm
        rw[q]
        have hh2:(w.alloc (.cells #[] 9)).heap[g]?=some (.cells cur 9 (0,0)):=(hb0.block g (Array.getElem?_eq_some_iff.1 hh).1).trans hh
        unfold World.cell?
        rw[hh2]
        simp only[Option.isSome_none]
        show cur[i]?=_
        rw[←hy]
        simp) (scs_one _) (by unfold maxLen;omega) (by omega) (by simp)
   rw[Nat.zero_add,List.nil_append] at r2
   exact⟨v',w',r1,r2,hb0.grown r3 (by simp) (fun k hk=>(o0.lt k hk).1)⟩
 obtain⟨v1,w1,r1,r2,b1⟩:=step
 have b1':Below w.heap.size w (w1.alloc (.cells #[sv t] 9)):=b1.alloc b1.size _
 obtain⟨v2,w2,q1,q2,q3,-,-⟩:=run_append_own_at (P:=Tryz.prog) _ w.heap.size 37 37 9 i0 _ 1 16 Tryz.underlying37 hi hz0 hz1 hz2 rfl (by decide) v1 l.length (scs l) (r2.alloc _) ⟨w1.heap.size,0,none⟩ 1 1 [sv t] rfl (fun j u hu=>by
   have q:Addr.add ⟨w1.heap.size,0,none⟩ j=⟨w1.heap.size,j,none⟩:=by simp[Addr.add];intro h;exact h.symm
   rw[q]
   match j,hu with
   | 0,hu=>simp at hu;subst hu;rw[World.cell?_alloc_new];rfl
   | j+1,hu=>simp at hu) (scs_one [t]) (by unfold maxLen;omega) (by omega) b1'.size
 refine⟨v1,w1,v2,w2,r1,q1,?_,b1,b1'.grown q3 b1'.size (fun k hk=>(r2.lt k hk).1),fun x e=>(q2.lt x e).1⟩
 refine⟨?_,?_⟩
 ·rw[scs_len,Nat.mul_one]
 ·have q4:w2.ownsRow w.heap.size 9 1 v2 (l++[t]).length (scs (l++[t])):=by
   rw[scs_app,List.length_append]
   exact q2
  rcases q4.2 with c|⟨g,cap,cur,e1,-,e2⟩
  ·exact .inl c
  ·exact .inr ⟨g,cap,cur,e1,Nat.zero_le _,e2⟩
structure Rd (w:World) (d:Nat) (G:Nat→Prop) (s:St) (q h g:Nat) (v:Value) (ts:List Bs) (tk:Nat) (m:Bs):Prop where
 at_:DAt w d G s
 rf:Rf w q d h g v ts tk m
 ap:∀x,HFt q v x→¬G x
def FQ (G:Nat→Prop) (q:Nat) (v:Value) (x:Nat):Prop:=G x∨HFt q v x
section
variable {w:World} {d:Nat} {G:Nat→Prop} {s:St} {q h g:Nat} {v:Value} {ts:List Bs} {tk:Nat} {m:Bs}
theorem Rd.later (k:Rd w d G s q h g v ts tk m) {w':World} (hb:Below w.heap.size w w'):Rd w' d G s q h g v ts tk m:=⟨k.at_.later hb,k.rf.later hb,k.ap⟩
theorem Rd.disk (k:Rd w d G s q h g v ts tk m) {w':World} {G':Nat→Prop} {s':St} (h1:DAt w' d G' s') (h2:Nx w G G') (h3:Bf G w w'):Rd w' d G' s' q h g v ts tk m :=
 ⟨h1,k.rf.bf h3 k.ap,fun x hx=>h2.apart (k.ap x hx) (k.rf.lt hx)⟩
end
set_option maxHeartbeats 2000000 in
theorem rput_any (d:Nat) (G:Nat→Prop) (s:St) (q h g:Nat) (v:Value) (ts:List Bs) (tk:Nat) (m:Bs) (t:Bs) (w:World) (hm:m.length=16) (ht:t.length≤2000) (h1:h≤1) (hn:s.n≤1024) (htk:tk≤1024) (hts:ts.length≤1000) (hl:s.l.length+100≤1000000) (k:Hid (Rd w d G s q h g v ts tk m)) :
  Calls Tryz.prog 95 #[.pointer (some ⟨q,0,none⟩),sv t] w fun e w'=>e = .returned (.int .i64 (wrb s (h*(s.n / 2)+tk) (rcd m t)).1)
   ∧ ∃G' v',((wrb s (h*(s.n / 2)+tk) (rcd m t)).1=0∧Rd w' d G' (wrb s (h*(s.n / 2)+tk) (rcd m t)).2 q h g v' (ts++[t]) (tk+sn t) (rmk m t)∨(wrb s (h*(s.n / 2)+tk) (rcd m t)).1≠0∧Rd w' d G' (wrb s (h*(s.n / 2)+tk) (rcd m t)).2 q h g v' ts tk m)
   ∧ Nx w G G'∧Nx w (HFt q v) (HFt q v')∧Bf (FQ G q v) w w':=by
 have hsn:sn t≤40:=by unfold sn;omega
 have RC:Hid _:=rrecord_any m t hm ht w
 have WR:Hid (∀W,Below w.heap.size w W→Calls Tryz.prog 127 #[.pointer (some ⟨d,0,none⟩),.int .i64 (h:Int),.int .i64 (tk:Int),sv (rcd m t)] W fun e w'=>e = .returned (.int .i64 (wrb s (h*(s.n / 2)+tk) (rcd m t)).1)∧∃G',Rd w' d G' (wrb s (h*(s.n / 2)+tk) (rcd m t)).2 q h g v ts tk m∧Nx w G G'∧Bf G w w'):=fun W hb =>
  (rwrb_any W d G s h tk (rcd m t) (sn t) h1 hn (rcd_len m t) (by omega) htk (by omega) (k.out.at_.later hb)).mono fun _ _ ⟨he,G',e1,e2,e3⟩=>⟨he,G',(k.out.later hb).disk e1 e2 e3,fun x hx=>(e2 x hx).imp id (fun z=>Nat.le_trans hb.size z),(Bf.of hb).trans (Nx.refl _ _) e3⟩
 have k4:=k.out.rf.bk.c 4 _ rfl
 have kk:∀W,Below w.heap.size w W→W.cell? ⟨q,0,none⟩=some (.pointer (some ⟨d,0,none⟩))∧W.cell? ⟨q,1,none⟩=some (.int .i64 (h:Int))∧W.cell? ⟨q,5,none⟩=some (.int .i64 (tk:Int)):=fun W hb=>by
  have b:=(k.out.rf.later hb).bk
  exact⟨b.c 0 _ rfl,b.c 1 _ rfl,b.c 5 _ rfl⟩
 have KK:Hid (∀W,Below w.heap.size w W→W.cell? ⟨q,0,none⟩=some (.pointer (some ⟨d,0,none⟩))∧W.cell? ⟨q,1,none⟩=some (.int .i64 (h:Int))∧W.cell? ⟨q,5,none⟩=some (.int .i64 (tk:Int))):=kk
 obtain⟨r,hr⟩:∃r,wrb s (h*(s.n / 2)+tk) (rcd m t)=r:=⟨_,rfl⟩
 rw[hr] at WR ⊢
 have hsz:(st (rcd m t)).size=64*sn t:=by rw[st_size,rcd_len]
 obtain⟨z,hz⟩:∃z,sn t=z:=⟨_,rfl⟩
 rw[hz] at hsz hsn ⊢
 obtain⟨e,s2⟩:=r
 have WR2:Hid (∀W,Below w.heap.size w W→Calls Tryz.prog 127 #[.pointer (some ⟨d,0,none⟩),.int .i64 (h:Int),.int .i64 (tk:Int),sv (rcd m t)] W fun e' w'=>e' = .returned (.int .i64 e)∧∃G',Rd w' d G' s2 q h g v ts tk m∧Nx w G G'∧Bf G w w'):=WR.out
 have C1:Hid (∀(W:World),OwnsS W v ts→_):=fun W hw=>copy1 W v ts hw hts t
 have HM:Hid (Value.string (st (rmk m t))=sv (rmk m t)):=(rfl:Value.string (st (rmk m t))=sv (rmk m t))
 have HT:Hid (Value.string (st t)=sv t):=(rfl:Value.string (st t)=sv t)
 unfold sv at k4 RC WR2
 show Calls Tryz.prog 95 #[.pointer (some ⟨q,0,none⟩),.string (st t)] w _
 obtain⟨S,hS⟩:∃S,st (rcd m t)=S:=⟨_,rfl⟩
 obtain⟨M,hM⟩:∃S,st (rmk m t)=S:=⟨_,rfl⟩
 obtain⟨A,hA⟩:∃S,st m=S:=⟨_,rfl⟩
 obtain⟨T,hT⟩:∃S,st t=S:=⟨_,rfl⟩
 rw[hS] at RC WR2 hsz
 rw[hM] at RC HM
 rw[hA] at k4 RC
 rw[hT] at RC HT ⊢
 clear hS hM hA hT hr hz WR hm ht h1 hn hl kk hts
 go_enter Tryz.func95, Tryz.ntmps95
 go_wp2_with fail
 refine Calls.mono RC.out ?_
 rintro e1 w1 ⟨rfl,hb⟩
 have B1:Hid (Below w.heap.size w w1):=hb
 clear hb RC k4
 obtain⟨k0,k1,k5⟩:=KK.out w1 B1.out
 go_upto_region 2 with fail
 go_cut [7] (fun s7 wx=>s7 = .int .i64 e∧Hid (∃G',Rd wx d G' s2 q h g v ts tk m∧Nx w G G'∧Bf G w wx))
 case first =>
  go_wp2_with fail
  go_region_with (go_at_call 127;refine Calls.mono (WR2.out _ (by first|exact B1.out|exact B1.out.drew)) ?_;rintro e1 w2 ⟨rfl,J2⟩)
  all_goals (go_wp2;go_meet)
  all_goals exact⟨rfl,J2⟩
 case rest =>
  obtain⟨rfl,J⟩:=hcut
  clear WR2 k0 k1 k5 B1 KK
  obtain⟨G2,K2,N2,F2⟩:=J.out
  have J2:Hid _:=K2
  have NN:Hid (Nx w G G2∧Bf G w wc):=⟨N2,F2⟩
  clear J K2 N2 F2
  by_cases h0:e=0
  ·subst h0
   obtain⟨v1,wa,v2,wb,r1,r2,o2,b1,b2,n2⟩:=C1.out wc J2.out.rf.row
   have FI:Hid (_∧_):=J2.out.rf.next b2 o2 n2 (rmk m t) (tk+z)
   have R1:Hid _:=r1
   have R2:Hid ((Builtin.append_ #[37, 37] 37 #[v1,.slice (some ⟨wa.heap.size,0,none⟩) 1 1]).run Tryz.prog (wa.alloc (.cells #[.string T] 9)) = .ok v2 wb):=by rw[HT.out];exact r2
   have c3:(wc.alloc (.cells #[] 9)).cell? ⟨q,3,none⟩=some v:=(J2.out.rf.later (nb wc _)).bk.c 3 _ rfl
   have bb:=(J2.out.rf.later b2).bk
   have d3:=bb.c 3 _ rfl
   have d4:=bb.c 4 _ rfl
   have d5:=bb.c 5 _ rfl
   have df:=bb.f
   have g1:(S.size:Int) / 64=(z:Int):=by omega
   have y1:IntKind.i64.wrap (z:Int)=(z:Int):=by rw[IntKind.wrap_i64];omega
   have y2:IntKind.i64.wrap ((tk:Int)+(z:Int))=((tk+z:Nat):Int):=by rw[IntKind.wrap_i64];omega
   obtain⟨vs1,vs2,vs3,rfl⟩:=owns_sliceS J2.out.rf.row
   obtain⟨xs1,xs2,xs3,rfl⟩:=owns_sliceS o2
   obtain⟨y,hy⟩:∃y:Int,((tk+z:Nat):Int)=y:=⟨_,rfl⟩
   rw[hy] at y2
   have HY:Hid (((tk+z:Nat):Int)=y):=hy
   have FIN:Hid (∃G' v',Rd (((wb.setCell ⟨q,3,none⟩ (.slice xs1 xs2 xs3)).setCell ⟨q,4,none⟩ (.string M)).setCell ⟨q,5,none⟩ (.int .i64 y)) d G' s2 q h g v' (ts++[t]) (tk+z) (rmk m t)∧Nx w G G'∧Nx w (HFt q (.slice vs1 vs2 vs3)) (HFt q v')∧Bf (FQ G q (.slice vs1 vs2 vs3)) w (((wb.setCell ⟨q,3,none⟩ (.slice xs1 xs2 xs3)).setCell ⟨q,4,none⟩ (.string M)).setCell ⟨q,5,none⟩ (.int .i64 y))):=by
    have f1:=FI.out.1
    have f2:=FI.out.2
    rw[←HM.out,HY.out] at f1 f2
    have hws:=NN.out.2.size
    refine⟨G2,_,⟨J2.out.at_.other f2 (fun x hx c=>J2.out.ap x (.inl c) hx),f1,fun x hx => ?_⟩,NN.out.1,fun x hx => ?_,?_⟩
    ·rcases hx with e|e
     ·exact J2.out.ap x (.inl e)
     ·intro c
      have:=n2 x e
      have:=J2.out.at_.lt c
      omega
    ·rcases hx with e|e
     ·exact .inl (.inl e)
     ·exact .inr (Nat.le_trans hws (n2 x e))
    ·refine⟨f2.os.trans NN.out.2.os,f2.tape.trans NN.out.2.tape,f2.output.trans NN.out.2.output,Nat.le_trans hws f2.size,fun x hx hF => ?_⟩
     rw[f2.block x (by omega) (fun c=>hF (.inr (.inl c))),NN.out.2.block x hx (fun c=>hF (.inl c))]
   clear FI J2 NN r1 r2 o2 b1 b2 n2 bb hy C1 HM HY
   go_wp2_with (first
    | (at_builtin;refine Go.Lib.wpList_append_run _ rfl _ _ _ _ rfl _ _ rfl rfl _ _ R1.out ?_)
    | (at_builtin;refine Go.Lib.wpList_append_run _ rfl _ _ _ _ rfl _ _ rfl rfl _ _ R2.out ?_))
   go_ret
   exact⟨rfl,FIN.out⟩
  ·have FIN:Hid (∃G' v',(e=0∧Rd wc d G' s2 q h g v' (ts++[t]) (tk+z) (rmk m t)∨e≠0∧Rd wc d G' s2 q h g v' ts tk m)∧Nx w G G'∧Nx w (HFt q v) (HFt q v')∧Bf (FQ G q v) w wc):=⟨G2,v,.inr ⟨h0,J2.out⟩,NN.out.1,Nx.refl _ _,⟨NN.out.2.os,NN.out.2.tape,NN.out.2.output,NN.out.2.size,fun x hx hF=>NN.out.2.block x hx (fun c=>hF (.inl c))⟩⟩
   clear J2 NN C1
   go_wp2
   go_ret
   exact⟨rfl,FIN.out⟩
set_option maxHeartbeats 2000000 in
theorem rhb_any (v:World) (d:Nat) (G:Nat→Prop) (s:St) (hh fr:Nat) (h1:hh≤1) (hn:s.n≤1024) (hz:fr≤s.n / 2) (hdn:s.down=false) (hl:s.l.length≤1000000) (h:Hid (DAt v d G s)) :
  Calls Tryz.prog 84 #[.pointer (some ⟨d,0,none⟩),.int .i64 (hh:Int),.int .i64 (fr:Int)] v fun e w'=>e = .returned (sv (hb s (hh*(s.n / 2)+fr) (s.n / 2 - fr)))∧w'=v:=by
 have OK:=h.out.1
 have hfit:hh*(s.n / 2)+s.n / 2≤s.n:=by
  rcases (by omega:hh=0∨hh=1) with e|e
  ·rw[e,Nat.zero_mul];omega
  ·rw[e,Nat.one_mul];omega
 have HA:Hid (Calls Tryz.prog 79 #[.pointer (some ⟨d,0,none⟩)] v fun e w'=>e = .returned (.int .i64 ((s.n / 2:Nat):Int))∧w'=v):=rhalf_any d G s v h.out (by omega)
 obtain⟨H,hH⟩:∃H,s.n / 2=H:=⟨_,rfl⟩
 have hH2:H≤512:=by omega
 rw[hH] at hz hfit HA ⊢
 obtain⟨K,hK⟩:∃K,hh*H=K:=⟨_,rfl⟩
 rw[hK] at hfit ⊢
 have hK2:K≤1024:=by omega
 have eK:(hh:Int)*(H:Int)=(K:Int):=by rw[←hK];simp
 have yK:IntKind.i64.wrap (K:Int)=(K:Int):=by rw[IntKind.wrap_i64];omega
 have RD:Hid (∀j,j < H→Calls Tryz.prog 13 #[.pointer (some ⟨d,0,none⟩),.int .i64 ((K:Int)+(j:Int))] v fun e w'=>e = .returned (.tuple #[.string (st (s.sh (K+j))),.int .i64 0])∧w'=v):=fun j hj=>by
  have ek:((K+j:Nat):Int)=(K:Int)+(j:Int):=by omega
  have er:rch s ((K:Int)+(j:Int))=0:=by
   rw[rch,if_neg (by rw[hdn];decide),if_neg (by omega)]
  have ev:rdV s ((K:Int)+(j:Int))=s.sh (K+j):=by
   rw[rdV,if_pos er,←ek,Int.toNat_natCast]
  have:=rread_any d G s ((K:Int)+(j:Int)) v h.out hl
  rw[er,ev] at this
  exact this
 have ST:Hid (∀j,fr≤j→st (hb s (K+fr) (j - fr))++st (s.sh (K+j))=st (hb s (K+fr) (j+1 - fr))):=fun j hj=>by
  rw[show j+1 - fr=(j - fr)+1 by omega,hb_succ,st_app,show K+fr+(j - fr)=K+j by omega]
 have SZ:Hid (∀j,fr≤j→(st (hb s (K+fr) (j - fr))).size=64*(j - fr)∧(st (s.sh (K+j))).size=64):=fun j _=>⟨by rw[st_size,hb_len OK],by rw[st_size,OK.sh64]⟩
 obtain⟨R,hR⟩:∃R,st (hb s (K+fr) (H - fr))=R:=⟨_,rfl⟩
 unfold sv
 have HR:Hid (st (hb s (K+fr) (H - fr))=R):=hR
 rw[hR]
 clear hR hH hK hdn hl hn h1 hfit OK h
 go_enter Tryz.func84, Tryz.ntmps84
 go_wp2
 go_loopw [7,8] (fun x i wr=>∃j:Nat,fr≤j∧j≤H∧x = .string (st (hb s (K+fr) (j - fr)))∧i = .int .i64 (j:Int)∧wr=v) (fun _ i _=>H - (intOf i).toNat)
 case atStart=>exact⟨fr,Nat.le_refl _,hz,by rw[Nat.sub_self];rfl,rfl,rfl⟩
 case round =>
  obtain⟨j,hj1,hj2,rfl,rfl,rfl⟩:=hrel
  by_cases hjH:j < H
  ·have g1:(j:Int) < (H:Int):=by omega
   have y2:IntKind.i64.wrap ((K:Int)+(j:Int))=(K:Int)+(j:Int):=by rw[IntKind.wrap_i64];omega
   obtain⟨z1,z2⟩:=SZ.out j hj1
   have S1:Hid _:=ST.out j hj1
   have R1:Hid _:=RD.out j hjH
   obtain⟨X,hX⟩:∃X,st (hb s (K+fr) (j - fr))=X:=⟨_,rfl⟩
   obtain⟨Y,hY⟩:∃X,st (s.sh (K+j))=X:=⟨_,rfl⟩
   rw[hX] at z1 S1 ⊢
   rw[hY] at z2 S1 R1
   clear hX hY
   go_wp2_with fail
   refine Calls.mono HA.out ?_
   rintro e w1 ⟨rfl,rfl⟩
   go_wp2_with fail
   refine Calls.mono HA.out ?_
   rintro e w1 ⟨rfl,rfl⟩
   go_wp2_with fail
   refine Calls.mono R1.out ?_
   rintro e w1 ⟨rfl,rfl⟩
   go_wp2
   go_roundw
   case rel=>exact⟨j+1,by omega,by omega,by rw[←S1.out],rfl,by first|rfl|trivial⟩
   case measure=>simp[intOf];omega
  ·obtain rfl:j=H:=by omega
   have g1:¬(j:Int) < (j:Int):=by omega
   rw[HR.out]
   go_wp2_with fail
   refine Calls.mono HA.out ?_
   rintro e w1 ⟨rfl,rfl⟩
   go_wp2
   go_ret
   exact⟨rfl,rfl⟩
theorem two (b:Bs) (h:2≤b.length):nm (b.take 2)=b[0].toNat*256+b[1].toNat:=by
 have e:b.take 2=[b[0],b[1]]:=by
  apply List.ext_getElem
  ·simp;omega
  ·intro i h1 h2
   have:i < 2:=by simpa using h2
   rcases (by omega:i=0∨i=1) with rfl|rfl <;> simp
 rw[e,nm]
 simp
def FoundR (b m:Bs) (e:Ending):Prop:=∃(T:Bs) (ok:Bool),e = .returned (.tuple #[sv T,.bool ok])∧(ok=true∧rof b m=some T∨ok=false∧rof b m=none)
theorem found_no {b m:Bs} (h:rof b m=none):FoundR b m (.returned (.tuple #[sv [],.bool false])):=⟨[],false,rfl,.inr ⟨rfl,h⟩⟩
theorem found_is {b m t:Bs} {ok:Bool} (h:ok=true∧rof b m=some t∨ok=false∧rof b m=none):FoundR b m (.returned (.tuple #[.string (st t),.bool ok])):=⟨t,ok,rfl,h⟩
set_option maxHeartbeats 2000000 in
theorem rfound_any (q d h g:Nat) (v:Value) (ts:List Bs) (tk:Nat) (m b:Bs) (w:World) (hm:m.length=16) (hb64:b.length % 64=0) (hbl:b.length≤65536) (k:Hid (Rf w q d h g v ts tk m)) :
  Calls Tryz.prog 85 #[.pointer (some ⟨q,0,none⟩),sv b] w fun e w'=>FoundR b m e∧Below w.heap.size w w':=by
 have hs:(st b).size=b.length:=st_size b
 have k4:=k.out.bk.c 4 _ rfl
 obtain⟨X,hX⟩:∃X,st b=X:=⟨_,rfl⟩
 have HX:Hid (st b=X):=hX
 show Calls Tryz.prog 85 #[.pointer (some ⟨q,0,none⟩),.string (st b)] w _
 rw[hX] at hs ⊢
 by_cases h1:b.length < 64
 ·have g1:(X.size:Int) < 64:=by omega
  have HR:Hid (rof b m=none):=by show rof b m=none;rw[rof,if_pos h1]
  clear hX k
  go_enter Tryz.func85, Tryz.ntmps85
  go_wp2
  go_ret2
  exact⟨found_no HR.out,Below.refl _ _⟩
 ·have g1:¬(X.size:Int) < 64:=by omega
  have h2:=two b (by omega)
  have x0:X[0]'(by omega)=b[0]'(by omega):=by subst hX;rfl
  have x1:X[1]'(by omega)=b[1]'(by omega):=by subst hX;rfl
  have q0:=(b[0]'(by omega)).toNat_lt
  have q1:=(b[1]'(by omega)).toNat_lt
  have RO:Hid (rof b m=if nm (b.take 2) < 1∨2000 < nm (b.take 2)∨b.length < 18+nm (b.take 2) then none else if (rcd m ((b.drop 18).take (nm (b.take 2)))).isPrefixOf b=true then some ((b.drop 18).take (nm (b.take 2))) else none):=by
   show rof b m=_
   rw[rof,if_neg h1]
  obtain⟨n,hn⟩:∃n,nm (b.take 2)=n:=⟨_,rfl⟩
  rw[hn] at h2 RO
  obtain⟨c0,e0⟩:∃c,b[0]'(by omega)=c:=⟨_,rfl⟩
  obtain⟨c1,e1⟩:∃c,b[1]'(by omega)=c:=⟨_,rfl⟩
  rw[e0] at x0 q0 h2
  rw[e1] at x1 q1 h2
  have t0:IntKind.i64.wrap (c0.toNat:Int)=(c0.toNat:Int):=by rw[IntKind.wrap_i64];omega
  have t1:IntKind.i64.wrap (c1.toNat:Int)=(c1.toNat:Int):=by rw[IntKind.wrap_i64];omega
  have t2:IntKind.i64.wrap ((c0.toNat:Int)*256)=(c0.toNat:Int)*256:=by rw[IntKind.wrap_i64];omega
  have t3:IntKind.i64.wrap ((c0.toNat:Int)*256+(c1.toNat:Int))=(n:Int):=by rw[IntKind.wrap_i64];omega
  have l0:(0:Int) < (X.size:Int):=by omega
  have l1:(1:Int) < (X.size:Int):=by omega
  have hn2:n < 65536:=by omega
  have KK:Hid (∀W,Below w.heap.size w W→W.cell? ⟨q,4,none⟩=some (sv m)):=fun W hb=>(k.out.later hb).bk.c 4 _ rfl
  clear hn e0 e1 hX k k4 q0 q1 h2
  go_enter Tryz.func85, Tryz.ntmps85
  go_upto_region 3 with fail
  go_cut [6] (fun s6 wx=>s6 = .int .i64 (n:Int)∧Hid (Below w.heap.size w wx))
  case first =>
   go_wp2_with fail
   go_region_with fail
   all_goals (go_wp2;go_meet)
   all_goals first
    | exact⟨rfl,(Below.refl _ _).drew⟩
    | exact⟨rfl,Below.refl _ _⟩
  case rest =>
   obtain⟨rfl,BW⟩:=hcut
   clear t0 t1 t2 t3 x0 x1 l0 l1
   by_cases hbad:n < 1∨2000 < n∨b.length < 18+n
   ·have HR:Hid (rof b m=none):=by show rof b m=none;rw[RO.out,if_pos hbad]
    clear RO KK
    by_cases a1:n < 1
    ·have g2:(n:Int) < 1:=by omega
     go_wp2
     go_ret2
     exact⟨found_no HR.out,BW.out⟩
    ·have g2:¬(n:Int) < 1:=by omega
     by_cases a2:2000 < n
     ·have g3:(2000:Int) < (n:Int):=by omega
      go_wp2
      go_ret2
      exact⟨found_no HR.out,BW.out⟩
     ·have g3:¬(2000:Int) < (n:Int):=by omega
      have g4:(X.size:Int) < 18+(n:Int):=by omega
      have y1:IntKind.i64.wrap (18+(n:Int))=18+(n:Int):=by rw[IntKind.wrap_i64];omega
      go_wp2
      go_ret2
      exact⟨found_no HR.out,BW.out⟩
   ·have g2:¬(n:Int) < 1:=by omega
    have g3:¬(2000:Int) < (n:Int):=by omega
    have g4:¬(X.size:Int) < 18+(n:Int):=by omega
    have y1:IntKind.i64.wrap (18+(n:Int))=18+(n:Int):=by rw[IntKind.wrap_i64];omega
    obtain⟨t,ht⟩:∃t,(b.drop 18).take n=t:=⟨_,rfl⟩
    have htl:t.length=n:=by rw[←ht,List.length_take,List.length_drop];omega
    have HR:Hid (rof b m=if (rcd m t).isPrefixOf b=true then some t else none):=by
     show rof b m=_
     rw[RO.out,if_neg hbad,ht]
    have SLI:∀W,(Instr.slice 9 (.string X) (some (.int .i64 18)) (some (.int .i64 (18+(n:Int)))) none).run Tryz.prog W = .ok (.string (st t)) W:=fun W=>by
     have e:X.extract 18 (18+n)=st t:=by
      rw[←HX.out,st_cut,List.drop_take,show 18+n - 18=n by omega,ht]
     rw[←e]
     exact cut_run X 18 (18+n) _ _ rfl (by omega) (by omega) (by omega) W
    have RC:Hid _:=rrecord_any m t hm (by omega) wc
    have c4:=KK.out wc BW.out
    have hrl:(st (rcd m t)).size≤X.size:=by
     rw[st_size,rcd_len,sn,htl]
     omega
    have PX:Hid (((X.extract 0 (st (rcd m t)).size).toList == (st (rcd m t)).toList)=(rcd m t).isPrefixOf b):=by
     show _=_
     have e1:(X.extract 0 (st (rcd m t)).size).toList=b.take (rcd m t).length:=by
      rw[←HX.out,st_cut,List.drop_zero,ByteArray.toList_eq,st_data,st_size]
     have e2:(st (rcd m t)).toList=rcd m t:=by rw[ByteArray.toList_eq,st_data]
     rw[e1,e2]
     cases hp:(rcd m t).isPrefixOf b with
     | true =>
      obtain⟨r,hr⟩:=List.isPrefixOf_iff_prefix.1 hp
      rw[beq_iff_eq,←hr,List.take_left]
     | false =>
      rw[beq_eq_false_iff_ne]
      intro c
      have:(rcd m t).isPrefixOf b=true:=List.isPrefixOf_iff_prefix.2 ⟨b.drop (rcd m t).length,by rw[←c,List.length_take,Nat.min_eq_left (by rw[rcd_len,sn,htl];omega),List.take_append_drop]⟩
      rw[hp] at this
      cases this
    obtain⟨ok,hok⟩:∃ok,(rcd m t).isPrefixOf b=ok:=⟨_,rfl⟩
    rw[hok] at HR PX
    have FIN:Hid (ok=true∧rof b m=some t∨ok=false∧rof b m=none):=by
     cases ok
     ·exact .inr ⟨rfl,HR.out⟩
     ·exact .inl ⟨rfl,HR.out⟩
    unfold sv at RC c4
    obtain⟨S,hS⟩:∃S,st (rcd m t)=S:=⟨_,rfl⟩
    rw[hS] at RC PX hrl
    have PX2:=PX.out
    have g5:(S.size:Int)≤(X.size:Int):=by omega
    clear HR PX hok hS RO KK hbad ht htl HX
    go_wp2_with fail
    refine Calls.mono RC.out ?_
    rintro e w1 ⟨rfl,hb⟩
    have B1:Hid (Below w.heap.size w w1):=chain BW.out hb
    clear hb RC BW c4 SLI
    go_wp2_with fail
    go_region_with fail
    all_goals
     go_wp2
     go_ret2
     exact⟨found_is FIN.out,by first|exact B1.out|exact B1.out.drew⟩
end Go.Proofs.YtjpaodepnacimaaGreatDoor
