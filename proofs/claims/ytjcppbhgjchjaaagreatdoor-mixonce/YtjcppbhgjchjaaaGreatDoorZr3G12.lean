/- A part of the walk. -/
import Derived.Test.YtjcppbhgjchjaaaGreatDoorZr3G11
set_option maxHeartbeats 8000000
set_option maxRecDepth 20000
namespace Go.Proofs.YtjcppbhgjchjaaaGreatDoor
open Go.RowKit Go.Proofs.Fd Go.Proofs.Hs
theorem zfK (w:Wo) (b n cap:Nat) (s:Ba) (m:Nat) (hm:Nat.min s.size n=m)
  (hc:∀j,j < n->(w.cell? ⟨b,j,none⟩).isSome=true) (hf:∀j,j < n->w.frozen? ⟨b,j,none⟩=false) :
  (Builtin.copy_ #[99, 9] 3 #[.slice (some ⟨b,0,none⟩) n cap,.string s]).run Tryz.prog w = .ok (.int .i64 (m:Int)) (w.setCells b 0 ((s.data.toList.take m).map fun x=>Value.int .u8 (x.toNat:Int))):=by
 have hmn:m<=n:=by rw[<-hm];exact Nat.min_le_right _ _
 have hms:m<=s.size:=by rw[<-hm];exact Nat.min_le_left _ _
 have hl:((s.data.toList.take m).map fun x=>Value.int .u8 (x.toNat:Int)).length=m:=by
  rw[List.length_map,List.length_take];have:s.data.toList.length=s.size:=by simp
  omega
 have hst:=run_storeCells_cells (P:=Tryz.prog) b 0 ((s.data.toList.take m).map fun x=>Value.int .u8 (x.toNat:Int)) 0 w
  (by rw[hl];intro j hj;simpa using hc j (by omega)) (by rw[hl];intro j hj;simpa using hf j (by omega))
  (by intro v hv;obtain⟨x,_,rfl⟩:=List.mem_map.1 hv;rfl)
 simp[Builtin.copy_,run_underlying Tryz.underlying99, Builtin.lenOf,Builtin.firstCells,hm];rw[<-List.map_take,hst];rfl
theorem BytesAt.pcopied {w:Wo} {b:Nat} {l:List UInt8} (h:BytesAt w b l) (xs:List UInt8) (hx:xs.length<=l.length) :
  BytesAt (w.setCells b 0 (xs.map fun x=>Value.int .u8 (x.toNat:Int))) b (xs++l.drop xs.length):=fun j hj=>by
 have hj':j < l.length:=by rw[List.length_append,List.length_drop] at hj;omega
 obtain⟨h0,h1⟩:=h j hj';refine⟨?_,by rw[World.frozen?_setCells];exact h1⟩;by_cases hlt:j < xs.length
 ·have:=World.cell?_setCells_in b (xs.map fun x=>Value.int .u8 (x.toNat:Int)) 0 w (fun i hi=>by
   rw[List.length_map] at hi;rw[Nat.zero_add,(h i (by omega)).1];rfl) j (by simpa using hlt)
  rw[Nat.zero_add] at this;rw[this,List.getElem_map,List.getElem_append_left hlt]
 ·rw[World.cell?_setCells_out b _ 0 w _ (fun _ _ => .inr (by simp;omega)),h0,List.getElem_append_right (by omega),List.getElem_drop]
  congr 3;have:xs.length+(j - xs.length)=j:=by omega
  simp only[this]
theorem BytesAt.range {w:Wo} {b:Nat} {l:List UInt8} (h:BytesAt w b l):w.rangeAt b 0 (l.map fun x=>Value.int .u8 (x.toNat:Int)):=fun j v hv=>by
 rw[List.getElem?_map] at hv;by_cases hj:j < l.length
 ·rw[List.getElem?_eq_getElem hj] at hv
  rw[Nat.zero_add,(h j hj).1];exact hv
 ·rw[List.getElem?_eq_none (by omega)] at hv;cases hv
theorem zoQ (b:Nat) (vs:List Value) (o:Nat) (w:Wo):(w.setCells b o vs).heap.size=w.heap.size:=by
 induction vs generalizing o w with
 | nil=>rfl
 | cons v vs ih=>show ((w.setCell ⟨b,o,none⟩ v).setCells b (o+1) vs).heap.size=_;rw[ih];simp[go_sem]
def xm (c:UInt8) (l:List UInt8) (q:Nat):List UInt8:=(l.take q).map (fun b=>b ^^^ c)++l.drop q
theorem zdc (c:UInt8) (l:List UInt8):xm c l 0=l:=by simp[xm]
theorem zaG (c:UInt8) (l:List UInt8) (q:Nat) (h:q<=l.length):(xm c l q).length=l.length:=by
 unfold xm;rw[List.length_append,List.length_map,List.length_take,List.length_drop];omega
theorem zfL (c:UInt8) (l:List UInt8) (h:l.length=64):xm c l 64=l.map fun b=>b ^^^ c:=by
 unfold xm;rw[List.take_of_length_le (by omega),List.drop_of_length_le (by omega),List.append_nil]
theorem zfM (c:UInt8) (l:List UInt8) (q:Nat) (h:q < l.length):(xm c l q)[q]?=some l[q]:=by
 unfold xm;rw[List.getElem?_append_right (by rw[List.length_map,List.length_take];omega),List.getElem?_drop,List.length_map,List.length_take];rw[show q+(q - min q l.length)=q by omega,List.getElem?_eq_getElem h]
theorem zdd (c:UInt8) (l:List UInt8) (q:Nat) (h:q < l.length):(xm c l q).set q (l[q] ^^^ c)=xm c l (q+1):=by
 unfold xm;have e:((l.take q).map fun b=>b ^^^ c).length=q:=by rw[List.length_map,List.length_take];omega
 rw[List.set_append_right _ _ (by rw[e];exact nL _),e,Nat.sub_self,List.drop_eq_getElem_cons h,List.set_cons_zero,List.take_succ_eq_append_getElem h,List.map_append,List.append_assoc];rfl
theorem zhN (k:List UInt8) (h:k.length<=64):k++(List.replicate 64 (0:UInt8)).drop k.length=k64 k:=by
 apply List.ext_getElem?;intro i;unfold k64;by_cases h64:i < 64
 ·rw[List.getElem?_map,List.getElem?_range h64,Option.map_some,List.getD_eq_getElem?_getD]
  by_cases h1:i < k.length
  ·rw[List.getElem?_append_left h1,List.getElem?_eq_getElem h1];rfl
  ·rw[List.getElem?_append_right (by omega),List.getElem?_eq_none (by omega:k.length<=i),List.getElem?_drop,show k.length+(i - k.length)=i by omega,List.getElem?_replicate,if_pos h64];rfl
 ·rw[List.getElem?_eq_none (by rw[List.length_append,List.length_drop,List.length_replicate];omega),List.getElem?_eq_none (by simp;omega)]
theorem zfN (w:Wo):BytesAt (w.alloc (.cells (Z64).toArray 117)) w.heap.size (List.replicate 64 0):=fun j hj=>by
 have hj':j < 64:=by simpa using hj
 refine⟨?_,by simp[go_sem]⟩;rw[World.cell?_alloc_new,List.getElem_replicate,show ((Z64).toArray:Array Value)=Array.replicate 64 (.int .u8 0) from rfl,Array.getElem?_replicate,if_pos hj'];rfl
theorem zfO (tmps:Array Value) (w:Wo) (b:Nat) (x:Array Value) (h0:tmps.getD 2 undef = .pointer (some ⟨b,0,none⟩))
  (l1:(loadVar 197 ⟨b,0,none⟩).run Tryz.prog w = .ok (.agg x) w) :
  (results Tryz.f99 tmps).run Tryz.prog w = .ok (.agg x) w:=by
 unfold results;rw[Tryz.results99];have h0':tmps[2]?.getD undef = .pointer (some ⟨b,0,none⟩):=by simpa using h0
 simp[h0',l1,asAddr]
theorem zfP:(Tryz.prog.info? 117).map (·.size)=some 64:=by kernel_rfl
set_option maxRecDepth 20000 in
theorem zcM (key:Ba) (w:Wo) (hk:Hid (key.size<=140737488355328)) (hK:Hid (Kh w)) :
  Cl 99 #[.string key] w fun e w'=>e = .returned (.agg #[.string ⟨(xk 54 key.data.toList).toArray⟩,.string ⟨(xk 92 key.data.toList).toArray⟩])/\Below w.heap.size w w':=by
 have hl:Hid (key.data.toList.length=key.size):=by show _=_;simp
 by_cases h64:64 < key.size
 ·have g0:(64:Int) < (key.size:Int):=by omega
  obtain⟨K,hKK⟩:∃K:Ba,⟨(sha key.data.toList).toArray⟩=K:=⟨_,rfl⟩;have FK:Hid (zeU key.data.toList=K.data.toList):=by
   show _=_;rw[<-hKK,zjY _ (by rw[hl.out];omega)]
  have hlK:Hid (K.data.toList.length=K.size):=by show _=_;simp
  have zK:¬64 < K.size:=by rw[<-hKK];show ¬64 < (32:Nat);decide
  have ZK:Hid (K.data.toList.length<=64):=by have:=hlK.out;show _<=_;omega
  have SM:Hid (∀(B:Nat) (w:Wo),Kh w->w.cell? ⟨B,0,none⟩=some (.string key)->Cl 174 #[.slice (some ⟨B,0,none⟩) 1 1] w fun e w'=>e = .returned (.string K)/\Below w.heap.size w w'):=fun B w h h0=>by
   have:=zdb (some ⟨B,0,none⟩) [key] 1 1 rfl (by omega) w h.1 h.2 (zhM h0) (fun s hs=>by simp at hs;subst hs;have:=hk.out;omega);rw[<-hKK]
   simpa using this
  have FI:Hid (xk 54 key.data.toList=xm 54 (k64 K.data.toList) 64/\xk 92 key.data.toList=xm 92 (k64 K.data.toList) 64):=by
   unfold xk;rw[FK.out,zfL _ _ (zaB _),zfL _ _ (zaB _)];exact⟨rfl,rfl⟩
  rw[FI.out.1,FI.out.2];obtain⟨L,hL⟩:∃L,k64 K.data.toList=L:=⟨_,rfl⟩;rw[hL];have LL:Hid (L.length=64):=by show L.length=64;rw[<-hL];exact zaB _
  clear hKK FI;go_enter Tryz.func99, Tryz.ntmps99;go_wp2_with fail;refine cM (SM.out (w.heap.size+1) _ ((hK.out.alloc _).alloc _) (by simp[go_sem])) ?_;rintro e A ⟨rfl,hbA⟩;have RA:Hid (A.cell? ⟨w.heap.size,0,none⟩=some (.string ⟨#[]⟩)/\A.cell? ⟨w.heap.size,1,none⟩=some (.string ⟨#[]⟩)/\(∀o,A.frozen? ⟨w.heap.size,o,none⟩=false)/\Below w.heap.size w A):=by
   refine⟨cell_later hbA (by simp[go_sem]),cell_later hbA (by simp[go_sem]),fun o=>(zae hbA (by simp;omega)).trans (by simp[go_sem]),?_⟩;exact chain (((bQ _ _).alloc (nL _) _).alloc (by simp) _) hbA
  have HSP:w.heap.size < A.heap.size:=by have:=hbA.size;simp at this;omega
  clear hbA SM;have HS:w.heap.size < A.heap.size:=HSP;have SZ:∀(b:Nat) (vs:List Value) (o:Nat) (w:Wo),(w.setCells b o vs).heap.size=w.heap.size:=zoQ;obtain⟨W,hW⟩:∃W,A.alloc (.cells (Z64).toArray 117)=W:=⟨_,rfl⟩;have Z:=zfN A;rw[hW] at Z;obtain⟨m,hm⟩:∃m,Nat.min K.size 64=m:=⟨_,rfl⟩;obtain⟨C,hC⟩:∃C,W.setCells A.heap.size 0 ((K.data.toList.take m).map fun x=>Value.int .u8 (x.toNat:Int))=C:=⟨_,rfl⟩;have CP:=zfK W A.heap.size 64 64 K m hm (fun j hj=>by rw[(Z j (by simpa using hj)).1];rfl) (fun j hj=>(Z j (by simpa using hj)).2);rw[hC] at CP;have ZC:BytesAt C A.heap.size (k64 K.data.toList):=by
   have hm':m=K.data.toList.length:=by rw[<-hm,hlK.out];exact Nat.min_eq_left (by omega)
   have:=Z.pcopied (K.data.toList.take m) (by rw[List.length_take,List.length_replicate];have:=hlK.out;omega);rw[hC,hm',List.take_length,zhN _ ZK.out] at this;exact this
  have BC:Below A.heap.size A C:=by
   rw[<-hC,<-hW];exact below_setCells (nL _) _ _ _ ((bQ _ _).alloc (nL _) _)
  have HC:C.heap.size=A.heap.size+1:=by rw[<-hC,<-hW];show (World.setCells _ _ _ _).heap.size=_;rw[SZ];simp
  obtain⟨cs,hcs⟩:∃cs,((k64 K.data.toList).map fun x=>Value.int .u8 (x.toNat:Int))=cs:=⟨_,rfl⟩;have hcl:cs.length=64:=by rw[<-hcs,List.length_map,zaB]
  have RC:Hid (C.rangeAt A.heap.size 0 cs):=by show C.rangeAt _ _ _;rw[<-hcs];exact ZC.range
  have HL:Hid (cs.length=64/\cs.toArray.all (·.oneCell')=true):=⟨hcl,all_oneCell_toArray (by intro v hv;rw[<-hcs] at hv;obtain⟨x,_,rfl⟩:=List.mem_map.1 hv;rfl)⟩;obtain⟨D,hD⟩:∃D,C.alloc (.cells ((Z64).toArray) 117)=D:=⟨_,rfl⟩;have ZD:=zfN C;rw[hD] at ZD;obtain⟨V,hV⟩:∃V,D.setCells C.heap.size 0 cs=V:=⟨_,rfl⟩;have TH:Hid (D.there C.heap.size 0 64):=fun j hj=>by
   obtain⟨h0,h1⟩:=ZD j (by simpa using hj);exact⟨by rw[Nat.zero_add,h0];rfl,by rw[Nat.zero_add];exact h1⟩
  have HV:Hid (D.setCells C.heap.size 0 cs.toArray.toList=V):=hV;have d12:A.heap.size≠C.heap.size:=by omega
  have IV:Hid (BytesAt V A.heap.size (xm 54 (k64 K.data.toList) 0)/\BytesAt V C.heap.size (xm 92 (k64 K.data.toList) 0)/\(V.cell? ⟨w.heap.size,0,none⟩=some (.string ⟨#[]⟩)/\V.cell? ⟨w.heap.size,1,none⟩=some (.string ⟨#[]⟩)/\(∀o,V.frozen? ⟨w.heap.size,o,none⟩=false))/\Below w.heap.size w V):=by
   have BD:Below C.heap.size C V:=by
    rw[<-hV,<-hD];exact below_setCells (nL _) _ _ _ ((bQ _ _).alloc (nL _) _)
   have BA:Below A.heap.size A V:=BC.trans (BD.mono (by omega));rw[zdc,zdc];refine⟨ZC.later BD,?_,⟨cell_later BA RA.out.1,cell_later BA RA.out.2.1,fun o=>(zae BA (by omega)).trans (RA.out.2.2.1 o)⟩,chain RA.out.2.2.2 BA⟩;have:=ZD.pcopied (k64 K.data.toList) (by rw[zaB];simp);rw[zaB,List.drop_of_length_le (by simp),List.append_nil,hcs,hV] at this;exact this
  obtain⟨gi,hgi⟩:∃g,A.heap.size=g:=⟨_,rfl⟩;obtain⟨go_,hgo⟩:∃g,C.heap.size=g:=⟨_,rfl⟩;rw[hgo] at IV TH HV;rw[hgi] at IV CP RC;have HG:Hid (w.heap.size<=gi/\w.heap.size<=go_/\w.heap.size≠gi/\w.heap.size≠go_):=by show _/\_;omega
  have d1:gi≠go_:=by omega
  have d2:go_≠gi:=by omega
  rw[hL] at IV;clear hcs;clear Z ZC BC ZD hC hV SZ HS HC d12 hcl;go_wp2_with (first
   | (refine wpList_load_mid rfl 117 (.tmp 3) rfl gi 0 rfl cs _ RC.out Tryz.underlying117 rfl (by rw[HL.out.1];exact zfP) ?_)
   | (refine wpList_store_mid rfl 117 (.tmp 4) (.tmp 15) rfl go_ 0 cs.toArray rfl rfl (by rw[List.size_toArray,HL.out.1];exact TH.out) (by rw[List.size_toArray,HL.out.1];exact zfP) HL.out.2 ?_;rw[HV.out]))
  go_loopw [16] (fun i wr=>∃q:Nat,q<=64/\i = .int .i64 (q:Int)/\Hid (BytesAt wr gi (xm 54 L q)/\BytesAt wr go_ (xm 92 L q)/\(wr.cell? ⟨w.heap.size,0,none⟩=some (.string ⟨#[]⟩)/\wr.cell? ⟨w.heap.size,1,none⟩=some (.string ⟨#[]⟩)/\(∀o,wr.frozen? ⟨w.heap.size,o,none⟩=false))/\Below w.heap.size w wr)) (fun i _=>64 - (intOf i).toNat)
  case atStart=>exact⟨0,by omega,rfl,IV.out⟩
  case round =>
   obtain⟨q,hq,rfl,I⟩:=hrel;clear IV RC HL TH HV hW hD CP;by_cases hq64:q=64
   ·subst hq64
    have CVI:=(BytesAt.later I.out.1 (bQ _ _).drew).string (cap:=64) (n:=64) ((zaG _ _ _ (by rw[LL.out];decide)).trans LL.out);have CVO:=(BytesAt.later I.out.2.1 (bQ _ _).drew).string (cap:=64) (n:=64) ((zaG _ _ _ (by rw[LL.out];decide)).trans LL.out);obtain⟨XI,hXI⟩:∃X:Ba,⟨(xm 54 L 64).toArray⟩=X:=⟨_,rfl⟩;obtain⟨XO,hXO⟩:∃X:Ba,⟨(xm 92 L 64).toArray⟩=X:=⟨_,rfl⟩;have HX:Hid (_=_/\_=_):=⟨hXI,hXO⟩;rw[hXI] at CVI;rw[hXO] at CVO;clear hXI hXO;have c0:=I.out.2.2.1.1;have c1:=I.out.2.2.1.2.1;have f0:=I.out.2.2.1.2.2;go_wp2;go_region
    all_goals
     go_wp2;obtain⟨X,hX⟩:∃X,((wr.setCell ⟨w.heap.size,0,none⟩ (.string XI)).setCell ⟨w.heap.size,1,none⟩ (.string XO)).drew=X:=⟨_,rfl⟩;have RX:X.rangeAt w.heap.size 0 [.string XI,.string XO]:=by
      rw[<-hX];intro j v hv;rcases (by have:=(List.getElem?_eq_some_iff.1 hv).1;simp at this;omega:j=0\/j=1) with rfl|rfl
      ·simp at hv;subst hv;simp[go_sem,c0]
      ·simp at hv;subst hv;simp[go_sem,c1]
     have BX:Below w.heap.size w X:=by rw[<-hX];exact ((I.out.2.2.2.setCell (p:=⟨w.heap.size,0,none⟩) (nL _) _).setCell (p:=⟨w.heap.size,1,none⟩) (nL _) _).drew
     rw[hX];rw[HX.out.1,HX.out.2];refine bodyPost_ret (v := .agg #[.string XI,.string XO]) ?_ rfl ⟨rfl,BX⟩;exact zfO _ X w.heap.size _ (by kernel_rfl) (run_loadVar_mid X w.heap.size 0 197 [.string XI,.string XO] _ RX Tryz.underlying197 rfl (by kernel_rfl))
   ·have q64:(q:Int) < 64:=by omega
    have qL:q < L.length:=by rw[LL.out];omega
    obtain⟨ci,fi⟩:=I.out.1 q (by rw[zaG _ _ _ (by omega)];exact qL);obtain⟨co,fo⟩:=I.out.2.1 q (by rw[zaG _ _ _ (by omega)];exact qL);have ei:(xm 54 L q)[q]'(by rw[zaG _ _ _ (by omega)];exact qL)=L[q]:=by
     have:=zfM 54 L q qL;rw[List.getElem?_eq_getElem (by rw[zaG _ _ _ (by omega)];exact qL)] at this;exact Option.some.inj this
    have eo:(xm 92 L q)[q]'(by rw[zaG _ _ _ (by omega)];exact qL)=L[q]:=by
     have:=zfM 92 L q qL;rw[List.getElem?_eq_getElem (by rw[zaG _ _ _ (by omega)];exact qL)] at this;exact Option.some.inj this
    rw[ei] at ci;rw[eo] at co;have S1:Hid ((xm 54 L q).set q (L[q] ^^^ 54)=xm 54 L (q+1)/\(xm 92 L q).set q (L[q] ^^^ 92)=xm 92 L (q+1)):=⟨zdd _ _ _ qL,zdd _ _ _ qL⟩;generalize L[q]=c at *;have NX:Hid (BytesAt ((wr.setCell ⟨gi,q,none⟩ (.int .u8 (bits BinOp.xor IntKind.u8 (c.toNat:Int) 54))).setCell ⟨go_,q,none⟩ (.int .u8 (bits BinOp.xor IntKind.u8 (c.toNat:Int) 92))) gi (xm 54 L (q+1))/\BytesAt ((wr.setCell ⟨gi,q,none⟩ (.int .u8 (bits BinOp.xor IntKind.u8 (c.toNat:Int) 54))).setCell ⟨go_,q,none⟩ (.int .u8 (bits BinOp.xor IntKind.u8 (c.toNat:Int) 92))) go_ (xm 92 L (q+1))/\((((wr.setCell ⟨gi,q,none⟩ (.int .u8 (bits BinOp.xor IntKind.u8 (c.toNat:Int) 54))).setCell ⟨go_,q,none⟩ (.int .u8 (bits BinOp.xor IntKind.u8 (c.toNat:Int) 92)))).cell? ⟨w.heap.size,0,none⟩=some (.string ⟨#[]⟩)/\((wr.setCell ⟨gi,q,none⟩ (.int .u8 (bits BinOp.xor IntKind.u8 (c.toNat:Int) 54))).setCell ⟨go_,q,none⟩ (.int .u8 (bits BinOp.xor IntKind.u8 (c.toNat:Int) 92))).cell? ⟨w.heap.size,1,none⟩=some (.string ⟨#[]⟩)/\(∀o,((wr.setCell ⟨gi,q,none⟩ (.int .u8 (bits BinOp.xor IntKind.u8 (c.toNat:Int) 54))).setCell ⟨go_,q,none⟩ (.int .u8 (bits BinOp.xor IntKind.u8 (c.toNat:Int) 92))).frozen? ⟨w.heap.size,o,none⟩=false))/\Below w.heap.size w ((wr.setCell ⟨gi,q,none⟩ (.int .u8 (bits BinOp.xor IntKind.u8 (c.toNat:Int) 54))).setCell ⟨go_,q,none⟩ (.int .u8 (bits BinOp.xor IntKind.u8 (c.toNat:Int) 92)))):=by
     rw[<-S1.out.1,<-S1.out.2];obtain⟨G1,G2,G3,G4⟩:=HG.out;exact⟨(I.out.1.set q _ _ (zj1 c 54)).other (a:=⟨go_,q,none⟩) d2 _,(I.out.2.1.other (a:=⟨gi,q,none⟩) d1 _).set q _ _ (zj1 c 92),⟨zaa (zaa I.out.2.2.1.1 (Ne.symm G3)) (Ne.symm G4),zaa (zaa I.out.2.2.1.2.1 (Ne.symm G3)) (Ne.symm G4),fun o=>(zag (Ne.symm G4)).trans ((zag (Ne.symm G3)).trans (I.out.2.2.1.2.2 o))⟩,(I.out.2.2.2.setCell (p:=⟨gi,q,none⟩) G1 _).setCell (p:=⟨go_,q,none⟩) G2 _⟩
    clear S1 ei eo;go_wp2;exact⟨⟨q+1,by omega,by go_num,NX.out⟩,by simp[intOf];omega⟩
 ·have g0:¬(64:Int) < (key.size:Int):=by omega
  obtain⟨A,hA⟩:∃A,w.alloc (.cells #[.string ⟨#[]⟩,.string ⟨#[]⟩] 197)=A:=⟨_,rfl⟩;have FK:Hid (zeU key.data.toList=key.data.toList):=zjX _ (by rw[hl.out];omega);have ZK:Hid (key.data.toList.length<=64):=by have:=hl.out;show _<=_;omega
  have RA:Hid (A.cell? ⟨w.heap.size,0,none⟩=some (.string ⟨#[]⟩)/\A.cell? ⟨w.heap.size,1,none⟩=some (.string ⟨#[]⟩)/\(∀o,A.frozen? ⟨w.heap.size,o,none⟩=false)/\Below w.heap.size w A):=by
   rw[<-hA];exact⟨by simp[go_sem],by simp[go_sem],fun o=>by simp[go_sem],(bQ _ _).alloc (nL _) _⟩
  have HSP:w.heap.size < A.heap.size:=by rw[<-hA];simp
  have HS:w.heap.size < A.heap.size:=HSP;have SZ:∀(b:Nat) (vs:List Value) (o:Nat) (w:Wo),(w.setCells b o vs).heap.size=w.heap.size:=zoQ;obtain⟨W,hW⟩:∃W,A.alloc (.cells (Z64).toArray 117)=W:=⟨_,rfl⟩;have Z:=zfN A;rw[hW] at Z;obtain⟨m,hm⟩:∃m,Nat.min key.size 64=m:=⟨_,rfl⟩;obtain⟨C,hC⟩:∃C,W.setCells A.heap.size 0 ((key.data.toList.take m).map fun x=>Value.int .u8 (x.toNat:Int))=C:=⟨_,rfl⟩;have CP:=zfK W A.heap.size 64 64 key m hm (fun j hj=>by rw[(Z j (by simpa using hj)).1];rfl) (fun j hj=>(Z j (by simpa using hj)).2);rw[hC] at CP;have ZC:BytesAt C A.heap.size (k64 key.data.toList):=by
   have hm':m=key.data.toList.length:=by rw[<-hm,hl.out];exact Nat.min_eq_left (by omega)
   have:=Z.pcopied (key.data.toList.take m) (by rw[List.length_take,List.length_replicate];have:=hl.out;omega);rw[hC,hm',List.take_length,zhN _ ZK.out] at this;exact this
  have BC:Below A.heap.size A C:=by
   rw[<-hC,<-hW];exact below_setCells (nL _) _ _ _ ((bQ _ _).alloc (nL _) _)
  have HC:C.heap.size=A.heap.size+1:=by rw[<-hC,<-hW];show (World.setCells _ _ _ _).heap.size=_;rw[SZ];simp
  obtain⟨cs,hcs⟩:∃cs,((k64 key.data.toList).map fun x=>Value.int .u8 (x.toNat:Int))=cs:=⟨_,rfl⟩;have hcl:cs.length=64:=by rw[<-hcs,List.length_map,zaB]
  have RC:Hid (C.rangeAt A.heap.size 0 cs):=by show C.rangeAt _ _ _;rw[<-hcs];exact ZC.range
  have HL:Hid (cs.length=64/\cs.toArray.all (·.oneCell')=true):=⟨hcl,all_oneCell_toArray (by intro v hv;rw[<-hcs] at hv;obtain⟨x,_,rfl⟩:=List.mem_map.1 hv;rfl)⟩;obtain⟨D,hD⟩:∃D,C.alloc (.cells ((Z64).toArray) 117)=D:=⟨_,rfl⟩;have ZD:=zfN C;rw[hD] at ZD;obtain⟨V,hV⟩:∃V,D.setCells C.heap.size 0 cs=V:=⟨_,rfl⟩;have TH:Hid (D.there C.heap.size 0 64):=fun j hj=>by
   obtain⟨h0,h1⟩:=ZD j (by simpa using hj);exact⟨by rw[Nat.zero_add,h0];rfl,by rw[Nat.zero_add];exact h1⟩
  have HV:Hid (D.setCells C.heap.size 0 cs.toArray.toList=V):=hV;have d12:A.heap.size≠C.heap.size:=by omega
  have IV:Hid (BytesAt V A.heap.size (xm 54 (k64 key.data.toList) 0)/\BytesAt V C.heap.size (xm 92 (k64 key.data.toList) 0)/\(V.cell? ⟨w.heap.size,0,none⟩=some (.string ⟨#[]⟩)/\V.cell? ⟨w.heap.size,1,none⟩=some (.string ⟨#[]⟩)/\(∀o,V.frozen? ⟨w.heap.size,o,none⟩=false))/\Below w.heap.size w V):=by
   have BD:Below C.heap.size C V:=by
    rw[<-hV,<-hD];exact below_setCells (nL _) _ _ _ ((bQ _ _).alloc (nL _) _)
   have BA:Below A.heap.size A V:=BC.trans (BD.mono (by omega));rw[zdc,zdc];refine⟨ZC.later BD,?_,⟨cell_later BA RA.out.1,cell_later BA RA.out.2.1,fun o=>(zae BA (by omega)).trans (RA.out.2.2.1 o)⟩,chain RA.out.2.2.2 BA⟩;have:=ZD.pcopied (k64 key.data.toList) (by rw[zaB];simp);rw[zaB,List.drop_of_length_le (by simp),List.append_nil,hcs,hV] at this;exact this
  obtain⟨gi,hgi⟩:∃g,A.heap.size=g:=⟨_,rfl⟩;obtain⟨go_,hgo⟩:∃g,C.heap.size=g:=⟨_,rfl⟩;rw[hgo] at IV TH HV;rw[hgi] at IV CP RC;have HG:Hid (w.heap.size<=gi/\w.heap.size<=go_/\w.heap.size≠gi/\w.heap.size≠go_):=by show _/\_;omega
  have d1:gi≠go_:=by omega
  have d2:go_≠gi:=by omega
  have FI:Hid (xk 54 key.data.toList=xm 54 (k64 key.data.toList) 64/\xk 92 key.data.toList=xm 92 (k64 key.data.toList) 64):=by
   unfold xk;rw[FK.out,zfL _ _ (zaB _),zfL _ _ (zaB _)];exact⟨rfl,rfl⟩
  rw[FI.out.1,FI.out.2];have LL:Hid ((k64 key.data.toList).length=64):=zaB _;clear FI hcs;generalize k64 key.data.toList=L at *;clear Z ZC BC ZD hC hV SZ HS HC d12 hcl;go_enter Tryz.func99, Tryz.ntmps99;go_wp2_with (first
   | (refine wpList_load_mid rfl 117 (.tmp 3) rfl gi 0 rfl cs _ RC.out Tryz.underlying117 rfl (by rw[HL.out.1];exact zfP) ?_)
   | (refine wpList_store_mid rfl 117 (.tmp 4) (.tmp 15) rfl go_ 0 cs.toArray rfl rfl (by rw[List.size_toArray,HL.out.1];exact TH.out) (by rw[List.size_toArray,HL.out.1];exact zfP) HL.out.2 ?_;rw[HV.out]))
  go_loopw [16] (fun i wr=>∃q:Nat,q<=64/\i = .int .i64 (q:Int)/\Hid (BytesAt wr gi (xm 54 L q)/\BytesAt wr go_ (xm 92 L q)/\(wr.cell? ⟨w.heap.size,0,none⟩=some (.string ⟨#[]⟩)/\wr.cell? ⟨w.heap.size,1,none⟩=some (.string ⟨#[]⟩)/\(∀o,wr.frozen? ⟨w.heap.size,o,none⟩=false))/\Below w.heap.size w wr)) (fun i _=>64 - (intOf i).toNat)
  case atStart=>exact⟨0,by omega,rfl,IV.out⟩
  case round =>
   obtain⟨q,hq,rfl,I⟩:=hrel;clear IV RC HL TH HV hW hD CP hA;by_cases hq64:q=64
   ·subst hq64
    have CVI:=(BytesAt.later I.out.1 (bQ _ _).drew).string (cap:=64) (n:=64) ((zaG _ _ _ (by rw[LL.out];decide)).trans LL.out);have CVO:=(BytesAt.later I.out.2.1 (bQ _ _).drew).string (cap:=64) (n:=64) ((zaG _ _ _ (by rw[LL.out];decide)).trans LL.out);obtain⟨XI,hXI⟩:∃X:Ba,⟨(xm 54 L 64).toArray⟩=X:=⟨_,rfl⟩;obtain⟨XO,hXO⟩:∃X:Ba,⟨(xm 92 L 64).toArray⟩=X:=⟨_,rfl⟩;have HX:Hid (_=_/\_=_):=⟨hXI,hXO⟩;rw[hXI] at CVI;rw[hXO] at CVO;clear hXI hXO;have c0:=I.out.2.2.1.1;have c1:=I.out.2.2.1.2.1;have f0:=I.out.2.2.1.2.2;go_wp2;go_region
    all_goals
     go_wp2;obtain⟨X,hX⟩:∃X,((wr.setCell ⟨w.heap.size,0,none⟩ (.string XI)).setCell ⟨w.heap.size,1,none⟩ (.string XO)).drew=X:=⟨_,rfl⟩;have RX:X.rangeAt w.heap.size 0 [.string XI,.string XO]:=by
      rw[<-hX];intro j v hv;rcases (by have:=(List.getElem?_eq_some_iff.1 hv).1;simp at this;omega:j=0\/j=1) with rfl|rfl
      ·simp at hv;subst hv;simp[go_sem,c0]
      ·simp at hv;subst hv;simp[go_sem,c1]
     have BX:Below w.heap.size w X:=by rw[<-hX];exact ((I.out.2.2.2.setCell (p:=⟨w.heap.size,0,none⟩) (nL _) _).setCell (p:=⟨w.heap.size,1,none⟩) (nL _) _).drew
     rw[hX];rw[HX.out.1,HX.out.2];refine bodyPost_ret (v := .agg #[.string XI,.string XO]) ?_ rfl ⟨rfl,BX⟩;exact zfO _ X w.heap.size _ (by kernel_rfl) (run_loadVar_mid X w.heap.size 0 197 [.string XI,.string XO] _ RX Tryz.underlying197 rfl (by kernel_rfl))
   ·have q64:(q:Int) < 64:=by omega
    have qL:q < L.length:=by rw[LL.out];omega
    obtain⟨ci,fi⟩:=I.out.1 q (by rw[zaG _ _ _ (by omega)];exact qL);obtain⟨co,fo⟩:=I.out.2.1 q (by rw[zaG _ _ _ (by omega)];exact qL);have ei:(xm 54 L q)[q]'(by rw[zaG _ _ _ (by omega)];exact qL)=L[q]:=by
     have:=zfM 54 L q qL;rw[List.getElem?_eq_getElem (by rw[zaG _ _ _ (by omega)];exact qL)] at this;exact Option.some.inj this
    have eo:(xm 92 L q)[q]'(by rw[zaG _ _ _ (by omega)];exact qL)=L[q]:=by
     have:=zfM 92 L q qL;rw[List.getElem?_eq_getElem (by rw[zaG _ _ _ (by omega)];exact qL)] at this;exact Option.some.inj this
    rw[ei] at ci;rw[eo] at co;have S1:Hid ((xm 54 L q).set q (L[q] ^^^ 54)=xm 54 L (q+1)/\(xm 92 L q).set q (L[q] ^^^ 92)=xm 92 L (q+1)):=⟨zdd _ _ _ qL,zdd _ _ _ qL⟩;generalize L[q]=c at *;have NX:Hid (BytesAt ((wr.setCell ⟨gi,q,none⟩ (.int .u8 (bits BinOp.xor IntKind.u8 (c.toNat:Int) 54))).setCell ⟨go_,q,none⟩ (.int .u8 (bits BinOp.xor IntKind.u8 (c.toNat:Int) 92))) gi (xm 54 L (q+1))/\BytesAt ((wr.setCell ⟨gi,q,none⟩ (.int .u8 (bits BinOp.xor IntKind.u8 (c.toNat:Int) 54))).setCell ⟨go_,q,none⟩ (.int .u8 (bits BinOp.xor IntKind.u8 (c.toNat:Int) 92))) go_ (xm 92 L (q+1))/\((((wr.setCell ⟨gi,q,none⟩ (.int .u8 (bits BinOp.xor IntKind.u8 (c.toNat:Int) 54))).setCell ⟨go_,q,none⟩ (.int .u8 (bits BinOp.xor IntKind.u8 (c.toNat:Int) 92)))).cell? ⟨w.heap.size,0,none⟩=some (.string ⟨#[]⟩)/\((wr.setCell ⟨gi,q,none⟩ (.int .u8 (bits BinOp.xor IntKind.u8 (c.toNat:Int) 54))).setCell ⟨go_,q,none⟩ (.int .u8 (bits BinOp.xor IntKind.u8 (c.toNat:Int) 92))).cell? ⟨w.heap.size,1,none⟩=some (.string ⟨#[]⟩)/\(∀o,((wr.setCell ⟨gi,q,none⟩ (.int .u8 (bits BinOp.xor IntKind.u8 (c.toNat:Int) 54))).setCell ⟨go_,q,none⟩ (.int .u8 (bits BinOp.xor IntKind.u8 (c.toNat:Int) 92))).frozen? ⟨w.heap.size,o,none⟩=false))/\Below w.heap.size w ((wr.setCell ⟨gi,q,none⟩ (.int .u8 (bits BinOp.xor IntKind.u8 (c.toNat:Int) 54))).setCell ⟨go_,q,none⟩ (.int .u8 (bits BinOp.xor IntKind.u8 (c.toNat:Int) 92)))):=by
     rw[<-S1.out.1,<-S1.out.2];obtain⟨G1,G2,G3,G4⟩:=HG.out;exact⟨(I.out.1.set q _ _ (zj1 c 54)).other (a:=⟨go_,q,none⟩) d2 _,(I.out.2.1.other (a:=⟨gi,q,none⟩) d1 _).set q _ _ (zj1 c 92),⟨zaa (zaa I.out.2.2.1.1 (Ne.symm G3)) (Ne.symm G4),zaa (zaa I.out.2.2.1.2.1 (Ne.symm G3)) (Ne.symm G4),fun o=>(zag (Ne.symm G4)).trans ((zag (Ne.symm G3)).trans (I.out.2.2.1.2.2 o))⟩,(I.out.2.2.2.setCell (p:=⟨gi,q,none⟩) G1 _).setCell (p:=⟨go_,q,none⟩) G2 _⟩
    clear S1 ei eo;go_wp2;exact⟨⟨q+1,by omega,by go_num,NX.out⟩,by simp[intOf];omega⟩
end Go.Proofs.YtjcppbhgjchjaaaGreatDoor
