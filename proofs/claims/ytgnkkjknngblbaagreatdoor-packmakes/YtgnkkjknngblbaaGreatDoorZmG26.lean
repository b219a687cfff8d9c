/- Parts: ST4,ST5,ST6,ST7. -/
import Derived.Test.YtgnkkjknngblbaaGreatDoorZmG25
import Derived.Laws.MakeOwn
namespace Go.Proofs.YtgnkkjknngblbaaGreatDoor
open Go.RowKit Go.Proofs.Fd Go.Proofs.Hs Go.Proofs.Cc
set_option maxRecDepth 20000
theorem set_next (l:List UInt32) (n p:Nat) (hl:l.length=p) (x:UInt32):(l++List.replicate (n+1) 0).set p x=l++[x]++List.replicate n 0:=by
 subst hl
 simp[List.replicate_succ]
def bg1 (k:List UInt8) (q:Nat):List UInt32:=[1634760805,857760878,2036477234,1797285236]++rd k q++List.replicate (12 - q) 0
def bg2 (k n:List UInt8) (c:UInt32) (q:Nat):List UInt32:=[1634760805,857760878,2036477234,1797285236]++rd k 8++[c]++rd n q++List.replicate (3 - q) 0
theorem bg1_len (k:List UInt8) (q:Nat) (h:q≤12):(bg1 k q).length=16:=by simp[bg1,rd_len];omega
theorem bg2_len (k n:List UInt8) (c:UInt32) (q:Nat) (h:q≤3):(bg2 k n c q).length=16:=by simp[bg2,rd_len];omega
theorem bg1_succ (k:List UInt8) (q:Nat) (h:q < 12):(bg1 k q).set (4+q) (rdw k q)=bg1 k (q+1):=by
 unfold bg1
 rw[show 12 - q=(12 - (q+1))+1 by omega,set_next _ _ _ (by simp[rd_len];omega),rd_succ]
 simp
theorem bg1_c (k n:List UInt8) (c:UInt32):(bg1 k 8).set 12 c=bg2 k n c 0:=by
 unfold bg1
 rw[show 12 - 8=3+1 by omega,set_next _ _ _ (by simp[rd_len])]
 simp[bg2,rd]
theorem bg2_succ (k n:List UInt8) (c:UInt32) (q:Nat) (h:q < 3):(bg2 k n c q).set (13+q) (rdw n q)=bg2 k n c (q+1):=by
 unfold bg2
 rw[show 3 - q=(3 - (q+1))+1 by omega,set_next _ _ _ (by simp[rd_len];omega),rd_succ n q]
 simp
theorem bg2_all (k n:List UInt8) (c:UInt32):bg2 k n c 3=fstw k n c:=by simp[bg2,fstw]
theorem res_begin (tmps:Array Value) (w:World) (b:Nat) (x:Array Value) (h0:tmps.getD 6 undef = .pointer (some ⟨b,0,none⟩))
  (l1:(loadVar 126 ⟨b,0,none⟩).run Tryz.prog w = .ok (.agg x) w) :
  (results Tryz.f108 tmps).run Tryz.prog w = .ok (.agg x) w:=by
 unfold results
 rw[Tryz.results108]
 have h0':tmps[6]?.getD undef = .pointer (some ⟨b,0,none⟩):=by simpa using h0
 simp[h0',l1,asAddr]
theorem rdw_cut (s:ByteArray) (k:Nat) (h:4*k+4≤s.size):rdw (s.extract (4*k) s.size).data.toList 0=rdw s.data.toList k:=by
 unfold rdw
 simp only[List.getD_eq_getElem?_getD,ByteArray.data_extract,Array.toList_extract,List.extract_eq_take_drop,List.getElem?_take,List.getElem?_drop]
 have hl:s.data.size=s.size:=rfl
 simp only[Nat.mul_zero,Nat.zero_add,Nat.add_zero]
 rw[if_pos (by omega),if_pos (by omega),if_pos (by omega),if_pos (by omega)]
theorem QAt.stored {w:World} {b:Nat} {l0 l:List UInt32} (h:QAt w b l0) (hl:l.length=l0.length):QAt (w.setCells b 0 (wcl l)) b l:=fun j hj=>by
 have h1:=World.rangeAt_setCells_same w b 0 (wcl l) (by rw[wcl_len,hl];exact h.there _ rfl) j (.int .u32 (tv l[j])) (by simp[wcl,hj])
 rw[Nat.zero_add] at h1
 exact⟨h1,by rw[World.frozen?_setCells];exact (h j (by omega)).2⟩
theorem QAt.apart {w:World} {b c:Nat} {l:List UInt32} (h:QAt w b l) (hne:b≠c) (o:Nat) (vs:List Value):QAt (w.setCells c o vs) b l:=fun j hj =>
 ⟨by rw[World.cell?_setCells_out c vs o w _ (fun hh=>absurd hh hne)];exact (h j hj).1,by rw[World.frozen?_setCells];exact (h j hj).2⟩
theorem QAt.some {w:World} {b:Nat} {l:List UInt32} (h:QAt w b l) (j:Nat) (hj:j < l.length):∃v,w.cell? ⟨b,j,none⟩ = .some v∧w.frozen? ⟨b,j,none⟩=false:=⟨_,h j hj⟩
set_option maxRecDepth 20000 in
set_option maxHeartbeats 1000000 in
theorem sbegin_any (k n:ByteArray) (c:UInt32) (hk:Hid (k.size=32)) (hn:Hid (n.size=12)) (w:World) :
  Calls Tryz.prog 108 #[.string k,.string n,.int .u32 (tv c)] w fun e w'=>e = .returned (.agg (wcl (fstw k.data.toList n.data.toList c)).toArray)∧Below w.heap.size w w':=by
 obtain⟨cs,hcs⟩:∃cs,wcl (fstw k.data.toList n.data.toList c)=cs:=⟨_,rfl⟩
 rw[hcs]
 have HC:Hid (wcl (bg2 k.data.toList n.data.toList c 3)=cs):=by rw[bg2_all];exact hcs
 clear hcs
 obtain⟨A,hA⟩:∃A,w.alloc (.cells #[.int .u32 0,.int .u32 0,.int .u32 0,.int .u32 0,.int .u32 0,.int .u32 0,.int .u32 0,.int .u32 0,.int .u32 0,.int .u32 0,.int .u32 0,.int .u32 0,.int .u32 0,.int .u32 0,.int .u32 0,.int .u32 0] 126)=A:=⟨_,rfl⟩
 obtain⟨D,hD⟩:∃D,A.alloc (.cells #[.int .u32 0,.int .u32 0,.int .u32 0,.int .u32 0,.int .u32 0,.int .u32 0,.int .u32 0,.int .u32 0,.int .u32 0,.int .u32 0,.int .u32 0,.int .u32 0,.int .u32 0,.int .u32 0,.int .u32 0,.int .u32 0] 126)=D:=⟨_,rfl⟩
 have sA:A.heap.size=w.heap.size+1:=by rw[←hA];simp
 obtain⟨g,hg⟩:∃g,w.heap.size=g:=⟨_,rfl⟩
 obtain⟨g2,hg2⟩:∃g2,g+1=g2:=⟨_,rfl⟩
 have BL:Hid (bg1 [] 0=bg1 k.data.toList 0):=by show _=_;simp[bg1,rd]
 have ID:Hid (QAt D g (List.replicate 16 0)∧QAt D g2 (List.replicate 16 0)∧Below g w D):=by
  have q1:=QAt.zeros w 126
  rw[hA,hg] at q1
  have q2:=QAt.zeros A 126
  rw[hD,sA,hg,hg2] at q2
  have bD:Below A.heap.size A D:=hD ▸ (Below.refl _ _).alloc (Nat.le_refl _) _
  have bA:Below w.heap.size w A:=hA ▸ (Below.refl _ _).alloc (Nat.le_refl _) _
  exact⟨q1.later bD,q2,hg ▸ chain bA bD⟩
 obtain⟨V,hV⟩:∃V,D.setCells g2 0 (wcl (bg1 [] 0)).toArray.toList=V:=⟨_,rfl⟩
 have TH:Hid (D.there g2 0 16):=ID.out.2.1.there 16 rfl
 have HL:Hid ((wcl (bg1 [] 0)).length=16∧(wcl (bg1 [] 0)).toArray.all (·.oneCell')=true):=⟨rfl,all_oneCell_toArray (wcl_one _)⟩
 have HV:Hid (_=_):=hV
 go_enter Tryz.func108, Tryz.ntmps108
 go_wp2_with (first
  | (refine wpList_store_mid rfl 126 (.tmp 7) (.tmp 10) rfl g2 0 (wcl (bg1 [] 0)).toArray rfl (by kernel_rfl) (by rw[List.size_toArray,HL.out.1];exact TH.out) (by rw[List.size_toArray,HL.out.1];exact size16) HL.out.2 ?_;rw[HV.out]))
 have IV:Hid (QAt V g (List.replicate 16 0)∧QAt V g2 (bg1 k.data.toList 0)∧Below g w V):=by
  obtain⟨h1,h2,h3⟩:=ID.out
  rw[←BL.out,←hV]
  exact⟨h1.apart (by omega) _ _,h2.stored rfl,below_setCells (by omega) _ _ _ h3⟩
 have HG:Hid (w.heap.size=g):=hg
 have HN:Hid (g≤g2∧g2≠g):=by show _∧_;omega
 clear hA hD sA hg hg2 ID hV TH HL HV BL
 go_loopw [11] (fun i wr=>∃q:Nat,q≤8∧i = .int .i64 (q:Int)∧Hid (QAt wr g (List.replicate 16 0)∧QAt wr g2 (bg1 k.data.toList q)∧Below g w wr)) (fun i _=>8 - (intOf i).toNat)
 case atStart=>exact⟨0,by omega,rfl,IV.out⟩
 case round =>
  obtain⟨q,hq,rfl,I⟩:=hrel
  clear IV
  by_cases hq8:q=8
  ·subst hq8
   rw[show ((8:Nat):Int)=8 from rfl]
   obtain⟨v0,c12,f12⟩:=I.out.2.1.some 12 (by rw[bg1_len _ _ (by decide)];decide)
   go_wp2
   obtain⟨X,hX⟩:∃X,wr.setCell ⟨g2,12,none⟩ (.int .u32 (tv c))=X:=⟨_,rfl⟩
   have IX:Hid (QAt X g (List.replicate 16 0)∧QAt X g2 (bg2 k.data.toList n.data.toList c 0)∧Below g w X):=by
    obtain⟨h1,h2,h3⟩:=I.out
    obtain⟨m1,m2⟩:=HN.out
    rw[←hX,←bg1_c]
    exact⟨h1.other (a:=⟨g2,12,none⟩) m2 _,h2.set 12 c,h3.setCell (p:=⟨g2,12,none⟩) m1 _⟩
   rw[hX]
   clear hX c12 f12 I
   go_loopw [25] (fun i wx=>∃q:Nat,q≤3∧i = .int .i64 (q:Int)∧Hid (QAt wx g (List.replicate 16 0)∧QAt wx g2 (bg2 k.data.toList n.data.toList c q)∧Below g w wx)) (fun i _=>3 - (intOf i).toNat)
   case atStart=>exact⟨0,by omega,rfl,IX.out⟩
   case round =>
    obtain⟨q,hq,rfl,I⟩:=hrel
    clear IX
    by_cases hq3:q=3
    ·subst hq3
     have J:=I.out
     have RG:Hid (wr.rangeAt g2 0 cs):=by show wr.rangeAt g2 0 cs;rw[←HC.out];exact J.2.1.range
     have TH:Hid (wr.there g 0 16):=J.1.there 16 rfl
     have HL:Hid (cs.length=16∧cs.toArray.all (·.oneCell')=true):=by rw[←HC.out];exact⟨by rw[wcl_len,bg2_len _ _ _ _ (by decide)],all_oneCell_toArray (wcl_one _)⟩
     obtain⟨V,hV⟩:∃V,wr.setCells g 0 cs.toArray.toList=V:=⟨_,rfl⟩
     have RV:Hid (V.rangeAt g 0 cs∧Below g w V):=by
      rw[←hV]
      exact⟨World.rangeAt_setCells_same wr g 0 _ (by show wr.there g 0 cs.length;rw[HL.out.1];exact TH.out),below_setCells (Nat.le_refl _) _ _ _ J.2.2⟩
     have HV:Hid (_=_):=hV
     clear hV I J HC
     go_wp2_with (first
      | (refine wpList_load_mid rfl 126 (.tmp 7) rfl g2 0 rfl cs _ RG.out Tryz.underlying126 rfl (by rw[HL.out.1];exact size16) ?_)
      | (refine wpList_store_mid rfl 126 (.tmp 6) (.tmp 37) rfl g 0 cs.toArray rfl rfl (by rw[List.size_toArray,HL.out.1];exact TH.out) (by rw[List.size_toArray,HL.out.1];exact size16) HL.out.2 ?_;rw[HV.out]))
     refine bodyPost_ret (v := .agg cs.toArray) ?_ rfl ⟨rfl,by rw[HG.out];exact RV.out.2⟩
     exact res_begin _ V g _ (by kernel_rfl) (run_loadVar_mid V g 0 126 cs _ RV.out.1 Tryz.underlying126 rfl (by rw[HL.out.1];exact size16))
    ·obtain⟨p,hp⟩:∃p,13+q=p:=⟨_,rfl⟩
     obtain⟨r,hr⟩:∃r,4*q=r:=⟨_,rfl⟩
     have z3:(q:Int) < 3:=by omega
     have a0:IntKind.i64.wrap (13+(q:Int))=(p:Int):=by rw[IntKind.wrap_i64];omega
     have a1:IntKind.i64.wrap (4*(q:Int))=(r:Int):=by rw[IntKind.wrap_i64];omega
     have e0:13+(q:Int)=(p:Int):=by omega
     have e1:4*(q:Int)=(r:Int):=by omega
     have p16:(p:Int) < 16:=by omega
     have r12:(r:Int)≤(n.size:Int):=by have:=hn.out;omega
     obtain⟨v0,cp,fp⟩:=I.out.2.1.some p (by rw[bg2_len _ _ _ _ (by omega)];omega)
     have RC:Hid (rdw (n.extract r n.size).data.toList 0=rdw n.data.toList q∧4≤(n.extract r n.size).size):=by
      have hn':=hn.out
      refine⟨by rw[←hr];exact rdw_cut n q (by omega),by rw[ByteArray.size_extract];omega⟩
     have BS:Hid (_=_):=bg2_succ k.data.toList n.data.toList c q (by omega)
     rw[hp] at BS
     have HR:Hid (4*q=r∧13+q=p):=⟨hr,hp⟩
     clear hr hp
     go_wp2_with fail
     refine Calls.mono (sword_any _ RC.out.2 _) ?_
     rintro e w2 ⟨rfl,m,rfl⟩
     rw[RC.out.1]
     have NX:Hid (QAt ((wr.drewN m).setCell ⟨g2,p,none⟩ (.int .u32 (tv (rdw n.data.toList q)))) g (List.replicate 16 0)∧QAt ((wr.drewN m).setCell ⟨g2,p,none⟩ (.int .u32 (tv (rdw n.data.toList q)))) g2 (bg2 k.data.toList n.data.toList c (q+1))∧Below g w ((wr.drewN m).setCell ⟨g2,p,none⟩ (.int .u32 (tv (rdw n.data.toList q))))):=by
      obtain⟨h1,h2,h3⟩:=I.out
      obtain⟨m1,m2⟩:=HN.out
      rw[←BS.out]
      exact⟨QAt.other (w:=wr.drewN m) h1 (a:=⟨g2,p,none⟩) m2 _,QAt.set (w:=wr.drewN m) h2 p _,(below_drewN h3 m).setCell (p:=⟨g2,p,none⟩) m1 _⟩
     clear BS RC I
     go_wp2
     go_roundw
     case rel=>exact⟨q+1,by omega,by go_num,NX.out⟩
     case measure=>simp[intOf];omega
  ·obtain⟨p,hp⟩:∃p,4+q=p:=⟨_,rfl⟩
   obtain⟨r,hr⟩:∃r,4*q=r:=⟨_,rfl⟩
   have z3:(q:Int) < 8:=by omega
   have a0:IntKind.i64.wrap (4+(q:Int))=(p:Int):=by rw[IntKind.wrap_i64];omega
   have a1:IntKind.i64.wrap (4*(q:Int))=(r:Int):=by rw[IntKind.wrap_i64];omega
   have e0:4+(q:Int)=(p:Int):=by omega
   have e1:4*(q:Int)=(r:Int):=by omega
   have p16:(p:Int) < 16:=by omega
   have r12:(r:Int)≤(k.size:Int):=by have:=hk.out;omega
   obtain⟨v0,cp,fp⟩:=I.out.2.1.some p (by rw[bg1_len _ _ (by omega)];omega)
   have RC:Hid (rdw (k.extract r k.size).data.toList 0=rdw k.data.toList q∧4≤(k.extract r k.size).size):=by
    have hk':=hk.out
    refine⟨by rw[←hr];exact rdw_cut k q (by omega),by rw[ByteArray.size_extract];omega⟩
   have BS:Hid (_=_):=bg1_succ k.data.toList q (by omega)
   rw[hp] at BS
   have HR:Hid (4*q=r∧4+q=p):=⟨hr,hp⟩
   clear hr hp
   go_wp2_with fail
   refine Calls.mono (sword_any _ RC.out.2 _) ?_
   rintro e w2 ⟨rfl,m,rfl⟩
   rw[RC.out.1]
   have NX:Hid (QAt ((wr.drewN m).setCell ⟨g2,p,none⟩ (.int .u32 (tv (rdw k.data.toList q)))) g (List.replicate 16 0)∧QAt ((wr.drewN m).setCell ⟨g2,p,none⟩ (.int .u32 (tv (rdw k.data.toList q)))) g2 (bg1 k.data.toList (q+1))∧Below g w ((wr.drewN m).setCell ⟨g2,p,none⟩ (.int .u32 (tv (rdw k.data.toList q))))):=by
    obtain⟨h1,h2,h3⟩:=I.out
    obtain⟨m1,m2⟩:=HN.out
    rw[←BS.out]
    exact⟨QAt.other (w:=wr.drewN m) h1 (a:=⟨g2,p,none⟩) m2 _,QAt.set (w:=wr.drewN m) h2 p _,(below_drewN h3 m).setCell (p:=⟨g2,p,none⟩) m1 _⟩
   clear BS RC I
   go_wp2
   go_roundw
   case rel=>exact⟨q+1,by omega,by go_num,NX.out⟩
   case measure=>simp[intOf];omega
end Go.Proofs.YtgnkkjknngblbaaGreatDoor
namespace Go.Proofs.Cc
theorem fstw_next (k n:List UInt8) (c:UInt32):(fstw k n c).set 12 (c+1)=fstw k n (c+1):=by
 unfold fstw
 rw[List.set_append_left _ _ (by simp[rd_len]),List.set_append_right _ _ (by simp[rd_len])]
 simp[rd_len]
theorem fstw_at (k n:List UInt8) (c:UInt32):(fstw k n c).getD 12 0=c:=by
 unfold fstw
 rw[List.getD_eq_getElem?_getD,List.getElem?_append_left (by simp[rd_len]),List.getElem?_append_right (by simp[rd_len])]
 simp[rd_len]
def mixd (T S:List UInt8) (o:Nat):List UInt8:=(xorl T S).take o++T.drop o
theorem mixd_zero (T S:List UInt8):mixd T S 0=T:=by simp[mixd]
theorem mixd_len (T S:List UInt8) (o:Nat) (h:T.length≤S.length) (ho:o≤T.length):(mixd T S o).length=T.length:=by
 unfold mixd;rw[List.length_append,List.length_take,List.length_drop,xorl_len _ _ h];omega
theorem mixd_all (T S:List UInt8) (h:T.length≤S.length):mixd T S T.length=xorl T S:=by
 unfold mixd;rw[List.take_of_length_le (by rw[xorl_len _ _ h];exact Nat.le_refl _),List.drop_length,List.append_nil]
theorem mixd_get (T S:List UInt8) (o:Nat) (h:T.length≤S.length) (ho:o < T.length):(mixd T S o)[o]?=some T[o]:=by
 unfold mixd
 have e:((xorl T S).take o).length=o:=by rw[List.length_take,xorl_len _ _ h];omega
 rw[List.getElem?_append_right (by omega),e,Nat.sub_self,List.getElem?_drop,Nat.add_zero,List.getElem?_eq_getElem ho]
theorem mixd_succ (T S:List UInt8) (o:Nat) (h:T.length≤S.length) (ho:o < T.length) (b:UInt8) (hb:S[o]?=some b):(mixd T S o).set o (T[o] ^^^ b)=mixd T S (o+1):=by
 unfold mixd
 have e:((xorl T S).take o).length=o:=by rw[List.length_take,xorl_len _ _ h];omega
 rw[List.set_append_right _ _ (by omega),e,Nat.sub_self,List.drop_eq_getElem_cons ho,List.set_cons_zero]
 have hx:(xorl T S)[o]?=some (T[o] ^^^ b):=by
  unfold xorl
  rw[List.getElem?_zipWith,List.getElem?_eq_getElem ho,hb]
 rw[List.take_add_one,hx]
 simp
theorem strm_at (k n:List UInt8) (c:UInt32) (N i j:Nat) (hj:j < 64) (h:64*i+j < N):(strm k n c N)[64*i+j]?=(blk k n (c+UInt32.ofNat i))[j]?:=by
 rw[←strm_of k n c N ((i+1)+(N+63) / 64) (by omega),List.getElem?_take_of_lt h,blks_add,List.getElem?_append_left (by rw[blks_len];omega),blks_succ,List.getElem?_append_right (by rw[blks_len];omega),blks_len]
 congr 1
 omega
theorem count_next (c:UInt32) (i:Nat):c+UInt32.ofNat i+1=c+UInt32.ofNat (i+1):=by
 rw[UInt32.add_assoc]
 congr 1
 apply UInt32.toNat_inj.1
 rw[UInt32.toNat_add,UInt32.toNat_ofNat',UInt32.toNat_ofNat']
 show (i % 2 ^ 32+1) % 2 ^ 32=_
 omega
end Go.Proofs.Cc
namespace Go.Proofs.YtgnkkjknngblbaaGreatDoor
open Go.RowKit Go.Proofs.Fd Go.Proofs.Hs Go.Proofs.Cc
set_option maxRecDepth 20000
theorem BytesAt.stored {w:World} {b:Nat} {l0 l:List UInt8} (h:BytesAt w b l0) (hl:l.length=l0.length):BytesAt (w.setCells b 0 (bcells l)) b l:=fun j hj=>by
 have h1:=World.rangeAt_setCells_same w b 0 (bcells l) (by rw[bcells_len,hl];exact h.bthere _ rfl) j (.int .u8 (l[j].toNat:Int)) (by simp[bcells,hj])
 rw[Nat.zero_add] at h1
 exact⟨h1,by rw[World.frozen?_setCells];exact (h j (by omega)).2⟩
theorem QAt.below {w:World} {b:Nat} {l:List UInt32} (h:QAt w b l) (hl:0 < l.length):b < w.heap.size:=World.block_lt_of_cell? _ _ (h 0 hl).1
def slLen:Value→Nat | .slice _ n _=>n|_=>0
theorem sxor8 (a b:UInt8):bits .xor .u8 (a.toNat:Int) (b.toNat:Int)=((a ^^^ b).toNat:Int):=by
 have h1:a.toNat < 2 ^ 8:=a.toNat_lt
 have h2:b.toNat < 2 ^ 8:=b.toNat_lt
 have h3:a.toNat ^^^ b.toNat < 2 ^ 8:=Nat.xor_lt_two_pow h1 h2
 rw[UInt8.toNat_xor]
 have e1:a.toNat % 2 ^ IntKind.u8.bits=a.toNat:=Nat.mod_eq_of_lt h1
 have e2:b.toNat % 2 ^ IntKind.u8.bits=b.toNat:=Nat.mod_eq_of_lt h2
 simp only[bits,BitVec.ofInt_natCast,BitVec.toNat_xor,BitVec.toNat_ofNat,e1,e2]
 rw[IntKind.wrap_u8]
 omega
set_option maxRecDepth 20000 in
set_option maxHeartbeats 1000000 in
theorem sxor_any (k n:List UInt8) (c:UInt32) (gb cap N:Nat) (T:List UInt8) (hN:Hid (T.length=N)) (hc:N≤cap) (hcap:cap≤9223372036854775807) (w:World) (hT:Hid (BytesAt w gb T)) (hgb:Hid (gb < w.heap.size)) :
  Calls Tryz.prog 109 #[.agg (wcl (fstw k n c)).toArray,.slice (some ⟨gb,0,none⟩) N cap] w fun e w'=>e = .returned (.tuple #[])∧BytesAt w' gb (xorl T (strm k n c N))∧Below gb w w':=by
 obtain⟨S,hS⟩:∃S,strm k n c N=S:=⟨_,rfl⟩
 rw[hS]
 have HS:Hid (strm k n c N=S∧T.length≤S.length):=⟨hS,by rw[←hS,strm_len,hN.out];exact Nat.le_refl _⟩
 clear hS
 go_enter Tryz.func109, Tryz.ntmps109
 go_wp2
 obtain⟨A,hA⟩:∃A,w.alloc (.cells (wcl (fstw k n c)).toArray 126)=A:=⟨_,rfl⟩
 obtain⟨g,hg⟩:∃g,w.heap.size=g:=⟨_,rfl⟩
 have IA:Hid (QAt A g (fstw k n (c+UInt32.ofNat 0))∧BytesAt A gb (mixd T S 0)∧Below gb w A):=by
  have q1:=QAt.new w (fstw k n c) 126
  rw[hA,hg] at q1
  have hb:Below w.heap.size w A:=hA ▸ (Below.refl _ _).alloc (Nat.le_refl _) _
  refine⟨?_,?_,hb.mono (Nat.le_of_lt hgb.out)⟩
  ·have:c+UInt32.ofNat 0=c:=by simp
   rw[this];exact q1
  ·rw[mixd_zero];exact hT.out.later hb
 rw[hA]
 try rw[hg]
 have HG:Hid (gb < g∧g≠gb):=by have:=hgb.out;show _∧_;omega
 clear hA hg
 go_loopw [1] (fun sl wr=>∃i o a:Nat,o≤N∧sl = .slice (some ⟨gb,a,none⟩) (N - o) (cap - o)∧Hid ((o=64*i∨o=N)∧(o < N→a=o)∧QAt wr g (fstw k n (c+UInt32.ofNat i))∧BytesAt wr gb (mixd T S o)∧Below gb w wr)) (fun sl _=>slLen sl)
 case atStart=>exact⟨0,0,0,Nat.zero_le _,rfl,.inl rfl,fun _=>rfl,IA.out⟩
 case round =>
  obtain⟨i,o,a,ho,rfl,I⟩:=hrel
  clear IA
  by_cases hoN:o=N
  ·subst hoN
   have FI:Hid (BytesAt wr gb (xorl T S)∧Below gb w wr):=by
    obtain⟨-,-,-,h3,h4⟩:=I.out
    rw[←hN.out,mixd_all _ _ HS.out.2] at h3
    exact⟨h3,h4⟩
   rw[Nat.sub_self]
   go_wp2
   exact bodyPost_end (results_none Tryz.results109 _ _ _) rfl ⟨rfl,FI.out⟩
  ·have hlt:o < N:=by omega
   have J:Hid (o=64*i∧QAt wr g (fstw k n (c+UInt32.ofNat i))∧BytesAt wr gb (mixd T S o)∧Below gb w wr):=by
    obtain⟨h1,-,h2⟩:=I.out
    exact⟨h1.resolve_right hoN,h2⟩
   have hao:o=a:=(I.out.2.1 hlt).symm
   subst hao
   clear I hoN
   obtain⟨r,hr⟩:∃r,N - o=r:=⟨_,rfl⟩
   obtain⟨cr,hcr⟩:∃r,cap - o=r:=⟨_,rfl⟩
   rw[hr,hcr]
   have r0:(0:Int) < (r:Int):=by omega
   have rc:r≤cr:=by omega
   have rc':(r:Int)≤(cr:Int):=by omega
   have crb:(cr:Int)≤9223372036854775807:=by omega
   obtain⟨C,hC⟩:∃C,c+UInt32.ofNat i=C:=⟨_,rfl⟩
   obtain⟨cs,hcs⟩:∃cs,wcl (fstw k n C)=cs:=⟨_,rfl⟩
   have RG:Hid (wr.rangeAt g 0 cs∧cs.length=16):=by
    rw[←hcs,←hC]
    exact⟨J.out.2.1.range,by rw[wcl_len,fstw_len]⟩
   obtain⟨bs,hbs⟩:∃bs,bcells (blk k n C)=bs:=⟨_,rfl⟩
   have BY:Hid (∀w,Calls Tryz.prog 137 #[.agg cs.toArray] w fun e w'=>e = .returned (.agg bs.toArray)∧Below w.heap.size w w'):=fun w=>by
    rw[←hcs,←hbs,←wbn_blk];exact sbytes_any _ (fstw_len _ _ _) w
   have HB:Hid (bcells (blk k n C)=bs∧c+UInt32.ofNat i=C):=⟨hbs,hC⟩
   have HR:Hid (N - o=r∧cap - o=cr):=⟨hr,hcr⟩
   clear hcs hbs hC hr hcr
   go_wp2_with (first
    | (refine wpList_load_mid rfl 126 (.tmp 2) rfl g 0 rfl cs _ RG.out.1 Tryz.underlying126 rfl (by rw[RG.out.2];exact size16) ?_))
   refine Calls.mono (BY.out _) ?_
   rintro e w1 ⟨rfl,hb1⟩
   clear BY RG
   obtain⟨D,hD⟩:∃D,w1.alloc (.cells (Value.int .u8 0::Value.int .u8 0::Value.int .u8 0::Value.int .u8 0::Value.int .u8 0::Value.int .u8 0::Value.int .u8 0::Value.int .u8 0::Value.int .u8 0::Value.int .u8 0::Value.int .u8 0::Value.int .u8 0::Value.int .u8 0::Value.int .u8 0::Value.int .u8 0::Value.int .u8 0::Value.int .u8 0::Value.int .u8 0::Value.int .u8 0::Value.int .u8 0::Value.int .u8 0::Value.int .u8 0::Value.int .u8 0::Value.int .u8 0::Value.int .u8 0::Value.int .u8 0::Value.int .u8 0::Value.int .u8 0::Value.int .u8 0::Value.int .u8 0::Value.int .u8 0::Value.int .u8 0::Value.int .u8 0::Value.int .u8 0::Value.int .u8 0::Value.int .u8 0::Value.int .u8 0::Value.int .u8 0::Value.int .u8 0::Value.int .u8 0::Value.int .u8 0::Value.int .u8 0::Value.int .u8 0::Value.int .u8 0::Value.int .u8 0::Value.int .u8 0::Value.int .u8 0::Value.int .u8 0::Value.int .u8 0::Value.int .u8 0::Value.int .u8 0::Value.int .u8 0::Value.int .u8 0::Value.int .u8 0::Value.int .u8 0::Value.int .u8 0::Value.int .u8 0::Value.int .u8 0::Value.int .u8 0::Value.int .u8 0::Value.int .u8 0::Value.int .u8 0::Value.int .u8 0::Value.int .u8 0::[]).toArray 156)=D:=⟨_,rfl⟩
   obtain⟨gB,hgB⟩:∃g,w1.heap.size=g:=⟨_,rfl⟩
   have ZD:=bz64 w1 156
   rw[hD,hgB] at ZD
   have TH:Hid (D.there gB 0 64):=ZD.bthere 64 (by simp)
   have HL:Hid (bs.length=64∧bs.toArray.all (·.oneCell')=true):=by rw[←HB.out.1];exact⟨by rw[bcells_len,blk_len],all_oneCell_toArray (bcells_one _)⟩
   obtain⟨V,hV⟩:∃V,D.setCells gB 0 bs.toArray.toList=V:=⟨_,rfl⟩
   have HV:Hid (_=_):=hV
   have IV:Hid (QAt V g (fstw k n C)∧BytesAt V gb (mixd T S (o+0))∧BytesAt V gB (blk k n C)∧Below gb w V):=by
    obtain⟨-,h1,h2,h3⟩:=J.out
    have bD:Below w1.heap.size w1 D:=hD ▸ (Below.refl _ _).alloc (Nat.le_refl _) _
    have bV:Below w1.heap.size w1 V:=by rw[←hV];exact below_setCells (by omega) _ _ _ bD
    have b2:Below wr.heap.size wr V:=chain hb1 bV
    have gw:gb≤wr.heap.size:=Nat.le_trans (Nat.le_of_lt hgb.out) h3.size
    rw[HB.out.2] at h1
    refine⟨h1.later b2,h2.later b2,?_,h3.trans (b2.mono gw)⟩
    have:=ZD.stored (l:=blk k n C) (by rw[blk_len];simp)
    rw[HB.out.1] at this
    rw[←hV]
    exact this
   have HN2:Hid (gB≠gb∧gB≠g):=by
    obtain⟨-,h1,h2,h3⟩:=J.out
    have a1:=h1.below (by rw[fstw_len];decide)
    have a2:=hb1.size
    have a3:=HG.out
    show _∧_
    omega
   clear hV ZD hb1
   by_cases h64:64≤r
   ·have h64':(64:Int)≤(r:Int):=by omega
    go_wp2_with (first
     | (refine wpList_store_mid rfl 156 (.tmp 4) (.tmp 11) rfl gB 0 bs.toArray rfl rfl (by rw[List.size_toArray,HL.out.1];exact TH.out) (by rw[List.size_toArray,HL.out.1];exact bsize64) HL.out.2 ?_;rw[HV.out]))
    go_loopw [16] (fun jv wx=>∃q:Nat,q≤64∧jv = .int .i64 (q:Int)∧Hid (QAt wx g (fstw k n C)∧BytesAt wx gb (mixd T S (o+q))∧BytesAt wx gB (blk k n C)∧Below gb w wx)) (fun jv _=>64 - (intOf jv).toNat)
    case atStart=>exact⟨0,Nat.zero_le _,rfl,IV.out⟩
    case round =>
     obtain⟨q,hq,rfl,I⟩:=hrel
     clear IV TH HL
     by_cases hqM:q=64
     ·subst hqM
      rw[show ((64:Nat):Int)=64 from rfl]
      obtain⟨c12,f12⟩:=I.out.1.at 12 (by rw[fstw_len];decide)
      rw[fstw_at] at c12
      have A1:IntKind.u32.wrap (tv C+1)=tv (C+1):=add32 C 1
      have A2:(tv C+1) % 4294967296=tv (C+1):=add32' C 1
      have NX:Hid (QAt (wr.setCell ⟨g,12,none⟩ (.int .u32 (tv (C+1)))) g (fstw k n (c+UInt32.ofNat (i+1)))∧BytesAt (wr.setCell ⟨g,12,none⟩ (.int .u32 (tv (C+1)))) gb (mixd T S (o+64))∧Below gb w (wr.setCell ⟨g,12,none⟩ (.int .u32 (tv (C+1))))):=by
       obtain⟨h1,h2,h3,h4⟩:=I.out
       have h5:=h1.set 12 (C+1)
       rw[fstw_next] at h5
       have hc:=count_next c i
       rw[HB.out.2] at hc
       rw[←hc]
       exact⟨h5,h2.other (a:=⟨g,12,none⟩) HG.out.2 _,h4.setCell (p:=⟨g,12,none⟩) (Nat.le_of_lt HG.out.1) _⟩
      clear I
      go_wp2
      obtain⟨HR1,HR2⟩:=HR.out
      by_cases hcr:cr=64
      ·rw[if_pos hcr]
       exact⟨⟨i+1,o+64,o,by omega,by congr 1 <;> omega,.inr (by omega),fun h=>by omega,NX.out⟩,by simp only[slLen];omega⟩
      ·rw[if_neg hcr]
       exact⟨⟨i+1,o+64,o+64,by omega,by congr 1 <;> omega,.inl (by have:=J.out.1;omega),fun _=>rfl,NX.out⟩,by simp only[slLen];omega⟩
     ·have qm:(q:Int) < 64:=by omega
      have q64:(q:Int) < 64:=by omega
      have qr:(q:Int) < (r:Int):=by omega
      obtain⟨HR1,-⟩:=HR.out
      have oT:o+q < T.length:=by rw[hN.out];omega
      have lT:=mixd_len T S (o+q) HS.out.2 (by omega)
      obtain⟨cx,fx⟩:=I.out.2.1 (o+q) (by rw[lT];exact oT)
      have ex:(mixd T S (o+q))[o+q]'(by rw[lT];exact oT)=T[o+q]:=by
       have:=mixd_get T S (o+q) HS.out.2 oT
       rw[List.getElem?_eq_getElem (by rw[lT];exact oT)] at this
       exact Option.some.inj this
      rw[ex] at cx
      have bq:q < (blk k n C).length:=by rw[blk_len];omega
      obtain⟨cy,-⟩:=I.out.2.2.1 q bq
      have SB:S[o+q]?=some (blk k n C)[q]:=by
       rw[←HS.out.1,J.out.1,strm_at k n c N i q (by omega) (by rw[←J.out.1];have:=hN.out;omega),HB.out.2,List.getElem?_eq_getElem bq]
      have MS:Hid (_=_):=mixd_succ T S (o+q) HS.out.2 oT _ SB
      clear ex SB
      generalize T[o+q]=x at *
      generalize (blk k n C)[q]=y at *
      clear lT oT bq HR1
      have XY:=sxor8 x y
      have NX:Hid (QAt ((wr.setCell ⟨gb,o+q,none⟩ (.int .u8 ((x.toNat ^^^ y.toNat:Nat):Int))).drew) g (fstw k n C)∧BytesAt ((wr.setCell ⟨gb,o+q,none⟩ (.int .u8 ((x.toNat ^^^ y.toNat:Nat):Int))).drew) gb (mixd T S (o+(q+1)))∧BytesAt ((wr.setCell ⟨gb,o+q,none⟩ (.int .u8 ((x.toNat ^^^ y.toNat:Nat):Int))).drew) gB (blk k n C)∧Below gb w ((wr.setCell ⟨gb,o+q,none⟩ (.int .u8 ((x.toNat ^^^ y.toNat:Nat):Int))).drew)):=by
       obtain⟨h1,h2,h3,h4⟩:=I.out
       have e:mixd T S (o+(q+1))=(mixd T S (o+q)).set (o+q) (x ^^^ y):=MS.out.symm
       rw[e]
       exact⟨h1.other (a:=⟨gb,o+q,none⟩) (Ne.symm HG.out.2) _,h2.set (o+q) (x ^^^ y) _ (by rw[UInt8.toNat_xor]),h3.other (a:=⟨gb,o+q,none⟩) (Ne.symm HN2.out.1) _,(h4.setCell (p:=⟨gb,o+q,none⟩) (Nat.le_refl _) _).drew⟩
      clear MS I
      go_wp2
      go_region
      go_wp2
      go_roundw
      case rel=>exact⟨q+1,by omega,by go_num,NX.out⟩
      case measure=>simp[intOf];omega
   ·have h64':(r:Int) < 64:=by omega
    have h64'':¬(64:Int)≤(r:Int):=by omega
    go_wp2_with (first
     | (refine wpList_store_mid rfl 156 (.tmp 4) (.tmp 11) rfl gB 0 bs.toArray rfl rfl (by rw[List.size_toArray,HL.out.1];exact TH.out) (by rw[List.size_toArray,HL.out.1];exact bsize64) HL.out.2 ?_;rw[HV.out]))
    go_loopw [16] (fun jv wx=>∃q:Nat,q≤r∧jv = .int .i64 (q:Int)∧Hid (QAt wx g (fstw k n C)∧BytesAt wx gb (mixd T S (o+q))∧BytesAt wx gB (blk k n C)∧Below gb w wx)) (fun jv _=>r - (intOf jv).toNat)
    case atStart=>exact⟨0,Nat.zero_le _,rfl,IV.out⟩
    case round =>
     obtain⟨q,hq,rfl,I⟩:=hrel
     clear IV TH HL
     by_cases hqM:q=r
     ·have hqM2:=hqM.symm
      subst hqM2
      obtain⟨c12,f12⟩:=I.out.1.at 12 (by rw[fstw_len];decide)
      rw[fstw_at] at c12
      have A1:IntKind.u32.wrap (tv C+1)=tv (C+1):=add32 C 1
      have A2:(tv C+1) % 4294967296=tv (C+1):=add32' C 1
      have NX:Hid (QAt (wr.setCell ⟨g,12,none⟩ (.int .u32 (tv (C+1)))) g (fstw k n (c+UInt32.ofNat (i+1)))∧BytesAt (wr.setCell ⟨g,12,none⟩ (.int .u32 (tv (C+1)))) gb (mixd T S (o+r))∧Below gb w (wr.setCell ⟨g,12,none⟩ (.int .u32 (tv (C+1))))):=by
       obtain⟨h1,h2,h3,h4⟩:=I.out
       have h5:=h1.set 12 (C+1)
       rw[fstw_next] at h5
       have hc:=count_next c i
       rw[HB.out.2] at hc
       rw[←hc]
       exact⟨h5,h2.other (a:=⟨g,12,none⟩) HG.out.2 _,h4.setCell (p:=⟨g,12,none⟩) (Nat.le_of_lt HG.out.1) _⟩
      clear I
      go_wp2
      obtain⟨HR1,HR2⟩:=HR.out
      by_cases hcr:cr=r
      ·rw[if_pos hcr]
       exact⟨⟨i+1,o+r,o,by omega,by congr 1 <;> omega,.inr (by omega),fun h=>by omega,NX.out⟩,by simp only[slLen];omega⟩
      ·rw[if_neg hcr]
       exact⟨⟨i+1,o+r,o+r,by omega,by congr 1 <;> omega,.inr (by omega),fun _=>rfl,NX.out⟩,by simp only[slLen];omega⟩
     ·have qm:(q:Int) < (r:Int):=by omega
      have q64:(q:Int) < 64:=by omega
      have qr:(q:Int) < (r:Int):=by omega
      obtain⟨HR1,-⟩:=HR.out
      have oT:o+q < T.length:=by rw[hN.out];omega
      have lT:=mixd_len T S (o+q) HS.out.2 (by omega)
      obtain⟨cx,fx⟩:=I.out.2.1 (o+q) (by rw[lT];exact oT)
      have ex:(mixd T S (o+q))[o+q]'(by rw[lT];exact oT)=T[o+q]:=by
       have:=mixd_get T S (o+q) HS.out.2 oT
       rw[List.getElem?_eq_getElem (by rw[lT];exact oT)] at this
       exact Option.some.inj this
      rw[ex] at cx
      have bq:q < (blk k n C).length:=by rw[blk_len];omega
      obtain⟨cy,-⟩:=I.out.2.2.1 q bq
      have SB:S[o+q]?=some (blk k n C)[q]:=by
       rw[←HS.out.1,J.out.1,strm_at k n c N i q (by omega) (by rw[←J.out.1];have:=hN.out;omega),HB.out.2,List.getElem?_eq_getElem bq]
      have MS:Hid (_=_):=mixd_succ T S (o+q) HS.out.2 oT _ SB
      clear ex SB
      generalize T[o+q]=x at *
      generalize (blk k n C)[q]=y at *
      clear lT oT bq HR1
      have XY:=sxor8 x y
      have NX:Hid (QAt ((wr.setCell ⟨gb,o+q,none⟩ (.int .u8 ((x.toNat ^^^ y.toNat:Nat):Int))).drew) g (fstw k n C)∧BytesAt ((wr.setCell ⟨gb,o+q,none⟩ (.int .u8 ((x.toNat ^^^ y.toNat:Nat):Int))).drew) gb (mixd T S (o+(q+1)))∧BytesAt ((wr.setCell ⟨gb,o+q,none⟩ (.int .u8 ((x.toNat ^^^ y.toNat:Nat):Int))).drew) gB (blk k n C)∧Below gb w ((wr.setCell ⟨gb,o+q,none⟩ (.int .u8 ((x.toNat ^^^ y.toNat:Nat):Int))).drew)):=by
       obtain⟨h1,h2,h3,h4⟩:=I.out
       have e:mixd T S (o+(q+1))=(mixd T S (o+q)).set (o+q) (x ^^^ y):=MS.out.symm
       rw[e]
       exact⟨h1.other (a:=⟨gb,o+q,none⟩) (Ne.symm HG.out.2) _,h2.set (o+q) (x ^^^ y) _ (by rw[UInt8.toNat_xor]),h3.other (a:=⟨gb,o+q,none⟩) (Ne.symm HN2.out.1) _,(h4.setCell (p:=⟨gb,o+q,none⟩) (Nat.le_refl _) _).drew⟩
      clear MS I
      go_wp2
      go_region
      go_wp2
      go_roundw
      case rel=>exact⟨q+1,by omega,by go_num,NX.out⟩
      case measure=>simp[intOf];omega
end Go.Proofs.YtgnkkjknngblbaaGreatDoor
namespace Go.Proofs.YtgnkkjknngblbaaGreatDoor
open Go.RowKit Go.Proofs.Fd Go.Proofs.Hs Go.Proofs.Cc
set_option maxRecDepth 20000
def merr (k n:ByteArray) (c:Int):Int:=if k.size≠32∨n.size≠12 then 3 else if c < 0∨4294967295 < c then 1 else 0
theorem merr_form (k n:ByteArray) (c:Int) (h:k.size≠32∨n.size≠12):merr k n c=3:=if_pos h
theorem merr_range (k n:ByteArray) (c:Int) (h1:k.size=32) (h2:n.size=12) (h:c < 0∨4294967295 < c):merr k n c=1:=by
 unfold merr;rw[if_neg (by omega),if_pos h]
theorem merr_ok (k n:ByteArray) (c:Int) (h1:k.size=32) (h2:n.size=12) (h3:0≤c) (h4:c≤4294967295):merr k n c=0:=by
 unfold merr;rw[if_neg (by omega),if_neg (by omega)]
set_option maxHeartbeats 400000 in
theorem swrong_any (k n:ByteArray) (c:Int) (w:World) :
  Calls Tryz.prog 107 #[.string k,.string n,.int .i64 c] w fun e w'=>e = .returned (.int .i64 (merr k n c))∧w'=w:=by
 by_cases h1:k.size=32
 ·have g1:(k.size:Int)=32:=by omega
  by_cases h2:n.size=12
  ·have g2:(n.size:Int)=12:=by omega
   by_cases h3:c < 0
   ·have E:Hid (merr k n c=1):=merr_range k n c h1 h2 (.inl h3)
    clear h1 h2
    go_enter Tryz.func107, Tryz.ntmps107
    go_wp2
    go_ret
    exact⟨by rw[E.out];rfl,rfl⟩
   ·have g3:0≤c:=by omega
    by_cases h4:4294967295 < c
    ·have E:Hid (merr k n c=1):=merr_range k n c h1 h2 (.inr h4)
     clear h1 h2
     go_enter Tryz.func107, Tryz.ntmps107
     go_wp2
     go_ret
     exact⟨by rw[E.out];rfl,rfl⟩
    ·have E:Hid (merr k n c=0):=merr_ok k n c h1 h2 g3 (by omega)
     clear h1 h2
     go_enter Tryz.func107, Tryz.ntmps107
     go_wp2
     go_ret
     exact⟨by rw[E.out];rfl,rfl⟩
  ·have g2:¬(n.size:Int)=12:=by omega
   have E:Hid (merr k n c=3):=merr_form k n c (.inr h2)
   clear h1
   go_enter Tryz.func107, Tryz.ntmps107
   go_wp2
   go_ret
   exact⟨by rw[E.out];rfl,rfl⟩
 ·have g1:¬(k.size:Int)=32:=by omega
  have E:Hid (merr k n c=3):=merr_form k n c (.inl h1)
  go_enter Tryz.func107, Tryz.ntmps107
  go_wp2
  go_ret
  exact⟨by rw[E.out];rfl,rfl⟩
end Go.Proofs.YtgnkkjknngblbaaGreatDoor
namespace Go.Proofs.YtgnkkjknngblbaaGreatDoor
open Go.RowKit Go.Proofs.Fd Go.Proofs.Hs Go.Proofs.Cc
set_option maxRecDepth 20000
theorem bytes_of2 (s:ByteArray) (hs:s.size≤140737488355328) (w:World):∃(cap:Nat) (W:World),(convert 9 43 (.string s)).run Tryz.prog w = .ok (.slice (some ⟨w.heap.size,0,none⟩) s.size cap) W
  ∧ BytesAt W w.heap.size s.data.toList∧Below w.heap.size w W∧s.size≤cap∧cap≤9223372036854775807∧w.heap.size < W.heap.size:=by
 have hm:grownCap w s.size 0 5 ≤ 9223372036854775807:=by
  have:=grownCap_le_maxLen w s.size 0 5 (by unfold maxLen;omega)
  unfold maxLen at this
  omega
 refine⟨_,_,run_bytes_of_string (P:=Tryz.prog) w 9 43 5 s Tryz.underlying9 Tryz.underlying43 Tryz.underlying5, ?_,?_,?_,hm,?_⟩
 ·intro j hj
  have hj':j < s.data.size:=by simpa using hj
  generalize grownCap w s.size 0 5 = cap
  have hc:=bytesRow_at s cap j hj'
  have hlt:j < (bytesRow s cap).size:=by
   obtain⟨h,_⟩:=Array.getElem?_eq_some_iff.1 hc
   exact h
  refine⟨?_,?_⟩
  ·show (w.drew.alloc _).cell? ⟨w.drew.heap.size,j,none⟩=_
   rw[World.cell?_alloc_mark,hc]
   simp
  ·show (w.drew.alloc _).frozen? ⟨w.drew.heap.size,j,none⟩=false
   rw[World.frozen?_alloc_mark]
   have:¬(bytesRow s cap).size≤j:=by omega
   simp[this]
 ·exact (Below.refl _ w).drew.alloc (Nat.le_refl _) _
 ·exact grownCap_ge _ _ _ _
 ·show w.heap.size < (w.drew.alloc _).heap.size
  simp
theorem wrap_tv (c:UInt32):IntKind.u32.wrap (tv c)=tv c:=wr32 _ (tv_nn c) (tv_lt c)
theorem tv_mod (c:UInt32):tv c % 4294967296=tv c:=by have:=tv_nn c;have:=tv_lt c;omega
theorem wrong_ok (k n:ByteArray) (c:UInt32) (hk:k.size=32) (hn:n.size=12) (w:World) :
  Calls Tryz.prog 107 #[.string k,.string n,.int .i64 (tv c)] w fun e w'=>e = .returned (.int .i64 0)∧w'=w:=by
 have:=swrong_any k n (tv c) w
 rw[merr_ok k n (tv c) hk hn (tv_nn c) (by have:=tv_lt c;omega)] at this
 exact this
set_option maxRecDepth 20000 in
set_option maxHeartbeats 1000000 in
theorem sXor_ok (k n:ByteArray) (c:UInt32) (t:ByteArray) (hk:Hid (k.size=32)) (hn:Hid (n.size=12)) (ht:t.size≤65536) (w:World) :
  Calls Tryz.prog 80 #[.string k,.string n,.int .i64 (tv c),.string t] w fun e w'=>e = .returned (.tuple #[.string ⟨(xorl t.data.toList (strm k.data.toList n.data.toList c t.size)).toArray⟩,.int .i64 0])∧Below w.heap.size w w':=by
 have WR:Hid (∀w,Calls Tryz.prog 107 #[.string k,.string n,.int .i64 (tv c)] w fun e w'=>e = .returned (.int .i64 0)∧w'=w):=wrong_ok k n c hk.out hn.out
 obtain⟨X,hX⟩:∃X,xorl t.data.toList (strm k.data.toList n.data.toList c t.size)=X:=⟨_,rfl⟩
 have LX:Hid (X.length=t.size):=by
  show _=_
  rw[←hX,xorl_len _ _ (by rw[strm_len];simp)];simp
 rw[hX]
 have HX:Hid (_=_):=hX
 have BG:Hid (∀w,Calls Tryz.prog 108 #[.string k,.string n,.int .u32 (tv c)] w fun e w'=>e = .returned (.agg (wcl (fstw k.data.toList n.data.toList c)).toArray)∧Below w.heap.size w w'):=fun w=>sbegin_any k n c hk hn w
 have W1:=wrap_tv c
 have W2:=tv_mod c
 have ht':(t.size:Int)≤65536:=by omega
 obtain⟨cap,A,CA,BA,bA,hcap,CB,sA⟩:=bytes_of2 t (by omega) w
 have IA:Hid (BytesAt A w.heap.size t.data.toList∧Below w.heap.size w A∧w.heap.size < A.heap.size):=⟨BA,bA,sA⟩
 clear hX BA bA sA
 go_enter Tryz.func80, Tryz.ntmps80
 go_wp2_with fail
 refine Calls.mono (WR.out _) ?_
 rintro e w1 ⟨rfl,hw1⟩
 have hw2:=hw1.symm
 subst hw2
 go_wp2_with fail
 refine Calls.mono (BG.out _) ?_
 rintro e w2 ⟨rfl,hb2⟩
 have I2:Hid (BytesAt w2 w.heap.size t.data.toList∧Below w.heap.size w w2∧w.heap.size < w2.heap.size):=by
  obtain⟨h1,h2,h3⟩:=IA.out
  exact⟨h1.later hb2,chain h2 hb2,by have:=hb2.size;omega⟩
 clear hb2 IA BG CA
 go_wp2_with fail
 refine Calls.mono (sxor_any _ _ c w.heap.size cap t.size t.data.toList (by show _=_;simp) hcap CB _ I2.out.1 I2.out.2.2) ?_
 rintro e w3 ⟨rfl,h31,h32⟩
 rw[HX.out] at h31
 have B3:Hid (Below w.heap.size w w3):=I2.out.2.1.trans h32
 have CV:=h31.string (cap:=cap) LX.out
 clear h31 h32 I2
 go_wp2
 go_ret2
 exact⟨rfl,B3.out⟩
theorem made_zeros (n:Nat):madeCells (Value.int .u8 0).cells (n*1)=Array.replicate n (.int .u8 0):=by
 apply Array.ext
 ·rw[size_madeCells,Array.size_replicate,Nat.mul_one]
 ·intro i h1 h2
  rw[Array.getElem_replicate]
  simp[madeCells,Value.cells,Nat.mod_one]
theorem make_n (n:Nat) (hn:n≤140737488355328) (w:World):∃W:World,(Instr.makeSlice 43 (.int .i64 (n:Int)) (.int .i64 (n:Int))).run Tryz.prog w = .ok (.slice (some ⟨w.heap.size,0,none⟩) n n) W
  ∧ BytesAt W w.heap.size (List.replicate n 0)∧Below w.heap.size w W∧w.heap.size < W.heap.size:=by
 obtain⟨i0,hi,hz0,hz1,hz2⟩:=info_parts infoByte
 have h:=run_make (P:=Tryz.prog) w 43 5 i0 (.int .u8 0) Tryz.underlying43 hi hz0 .i64 .i64 (n:Int) (n:Int) (by omega) (Int.le_refl _) (by rw[hz2];omega) (by omega)
 rw[Int.toNat_natCast,hz1,made_zeros] at h
 refine⟨_,h,fun j hj => ?_,(Below.refl _ _).alloc (Nat.le_refl _) _,by simp⟩
 have hj':j < n:=by simpa using hj
 refine⟨?_,by simp[go_sem]⟩
 rw[World.cell?_alloc_new,List.getElem_replicate,Array.getElem?_replicate,if_pos hj']
 rfl
end Go.Proofs.YtgnkkjknngblbaaGreatDoor
