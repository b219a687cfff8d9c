/- A part of the walk. -/
import Derived.Lib.LazyBuf
import Derived.Test.YtjcppbhgjchjaaaGreatDoorZr3G21
import Derived.Shelf.Pu.Clone
set_option maxHeartbeats 8000000
set_option maxRecDepth 20000
namespace Go.Proofs.YtjcppbhgjchjaaaGreatDoor
open Go.RowKit Go.Proofs.Fd Go.Proofs.Rt
theorem zvH (w:Wo) (b o n cap:Nat) (s:Ba) (m:Nat) (hm:Nat.min s.size n=m)
  (hc:∀j,j < n->(w.cell? ⟨b,o+j,none⟩).isSome=true) (hf:∀j,j < n->w.frozen? ⟨b,o+j,none⟩=false) :
  (Builtin.copy_ #[99, 9] 3 #[.slice (some ⟨b,o,none⟩) n cap,.string s]).run Tryz.prog w = .ok (.int .i64 (m:Int)) (w.setCells b o ((s.data.toList.take m).map fun x=>Value.int .u8 (x.toNat:Int))):=by
 have hmn:m<=n:=by rw[<-hm];exact Nat.min_le_right _ _
 have hms:m<=s.size:=by rw[<-hm];exact Nat.min_le_left _ _
 have hl:((s.data.toList.take m).map fun x=>Value.int .u8 (x.toNat:Int)).length=m:=by
  rw[List.length_map,List.length_take];have:s.data.toList.length=s.size:=by simp
  omega
 have hst:=run_storeCells_cells (P:=Tryz.prog) b o ((s.data.toList.take m).map fun x=>Value.int .u8 (x.toNat:Int)) 0 w
  (by rw[hl];intro j hj;simpa using hc j (by omega)) (by rw[hl];intro j hj;simpa using hf j (by omega))
  (by intro v hv;obtain⟨x,_,rfl⟩:=List.mem_map.1 hv;rfl)
 simp[Builtin.copy_,run_underlying Tryz.underlying99, Builtin.lenOf,Builtin.firstCells,hm];rw[<-List.map_take,hst];rfl
theorem BytesAt.rcopied {w:Wo} {b:Nat} {l:List UInt8} (h:BytesAt w b l) (o:Nat) (xs:List UInt8) (hx:o+xs.length<=l.length) :
  BytesAt (w.setCells b o (xs.map fun x=>Value.int .u8 (x.toNat:Int))) b (l.take o++xs++l.drop (o+xs.length)):=fun j hj=>by
 have hj':j < l.length:=by rw[List.length_append,List.length_append,List.length_take,List.length_drop] at hj;omega
 obtain⟨h0,h1⟩:=h j hj';refine⟨?_,by rw[World.frozen?_setCells];exact h1⟩;have key:=List.getElem?_eq_getElem hj;generalize (l.take o++xs++l.drop (o+xs.length))[j]=v at key ⊢;by_cases hlo:j < o
 ·rw[World.cell?_setCells_out b _ o w _ (fun _ _ => .inl hlo),h0]
  rw[List.append_assoc,List.getElem?_append_left (by rw[List.length_take];omega),List.getElem?_take_of_lt hlo,List.getElem?_eq_getElem hj'] at key;rw[Option.some.inj key]
 ·by_cases hhi:j < o+xs.length
  ·have hx2:j - o < xs.length:=by omega
   have:=World.cell?_setCells_in b (xs.map fun x=>Value.int .u8 (x.toNat:Int)) o w (fun i hi=>by
    rw[List.length_map] at hi;rw[(h (o+i) (by omega)).1];rfl) (j - o) (by rw[List.length_map];exact hx2)
   rw[show o+(j - o)=j by omega] at this;rw[List.append_assoc,List.getElem?_append_right (by rw[List.length_take];omega),List.length_take,Nat.min_eq_left (by omega),List.getElem?_append_left hx2,List.getElem?_eq_getElem hx2] at key;rw[this,List.getElem_map,Option.some.inj key]
  ·rw[World.cell?_setCells_out b _ o w _ (fun _ _ => .inr (by rw[List.length_map];show o+xs.length<=j;omega)),h0]
   rw[List.getElem?_append_right (by rw[List.length_append,List.length_take];omega),List.length_append,List.length_take,Nat.min_eq_left (by omega),List.getElem?_drop,show o+xs.length+(j - (o+xs.length))=j by omega,List.getElem?_eq_getElem hj'] at key;rw[Option.some.inj key]
theorem zw1 (h:Hp):(bq h 0).take 4++h.id.data.toList++(bq h 0).drop (4+h.id.data.toList.length)=byt h:=by
 have e:h.id.data.toList.length=h.id.size:=by simp
 unfold bq byt;rw[e,List.take_zero,List.append_nil,<-List.drop_drop];show [UInt8.ofNat h.k.toNat,UInt8.ofNat (h.n+h.u).toNat,UInt8.ofNat (h.d / 256).toNat,UInt8.ofNat (h.d % 256).toNat]++h.id.data.toList++(List.replicate (20 - 0) (0:UInt8)).drop h.id.size=_
 rw[List.drop_replicate]
theorem zuO (h:Hp) (hk:ok h=true) (w:Wo) :
  Cl 183 #[hv h] w fun e w'=>e = .returned (.tuple #[.string ⟨(byt h).toArray⟩,.int .i64 0])/\Below w.heap.size w w':=by
 have CK:Hid (∀w,Cl 256 #[hv h] w fun e w'=>e = .returned (.int .i64 0)/\Below w.heap.size w w'):=fun w=>zt0 h hk w
 have hI:=zoT h hk;have hB:0<=h.k/\h.k < 256/\0<=h.n+h.u/\h.n+h.u < 256/\0<=h.d/\h.d<=4096:=by
  rcases zde h hk with g|g|g|g <;> omega
 clear hk;obtain⟨k,n,u,d,id⟩:=h;simp only at hI hB;obtain⟨b1,b2,b3,b4,b5,b6⟩:=hB;unfold hv at CK ⊢;simp only at CK ⊢;have t1:IntKind.u8.wrap k=k:=by rw[IntKind.wrap_u8];omega
 have t2:IntKind.i64.wrap (n+u)=n+u:=by rw[IntKind.wrap_i64];omega
 have t3:IntKind.u8.wrap (n+u)=n+u:=by rw[IntKind.wrap_u8];omega
 have t6:IntKind.u8.wrap (d / 256)=d / 256:=by rw[IntKind.wrap_u8];omega
 have t7:IntKind.u8.wrap d=d % 256:=by rw[IntKind.wrap_u8]
 go_enter Tryz.func183, Tryz.ntmps183;go_wp2_with fail;refine cM (CK.out _) ?_;rintro e w1 ⟨rfl,hb1⟩;have B1:Hid (zsd w1 w.heap.size ⟨k,n,u,d,id⟩/\Below w.heap.size w w1):=⟨(zsd.fresh _ _ _ _ _ _ _).later hb1,chain ((bQ _ _).alloc (nL _) _) hb1⟩;clear hb1 CK;obtain⟨W,CM,BW,bW,sW⟩:=zwv w1;obtain⟨g,hg⟩:∃g,w.heap.size=g:=⟨_,rfl⟩;obtain⟨gb,hgb⟩:∃g,w1.heap.size=g:=⟨_,rfl⟩;rw[hgb] at CM BW;rw[hg] at B1 ⊢;have CB:Hid (zsd W g ⟨k,n,u,d,id⟩/\Below g w W/\g < gb):=by
  refine⟨B1.out.1.later bW,?_,by rw[<-hgb];exact B1.out.1.lt⟩;rw[<-hg];exact chain (hg ▸ B1.out.2) bW
 have ne1:¬gb=g:=by have:=CB.out.2.2;omega
 have ne2:¬g=gb:=by have:=CB.out.2.2;omega
 obtain⟨c0,c1,c2,c3,c4⟩:=CB.out.1.cells;obtain⟨v0,x0,f0⟩:=BW.cell 0 (by decide);obtain⟨v1,x1,f1⟩:=BW.cell 1 (by decide);obtain⟨v2,x2,f2⟩:=BW.cell 2 (by decide);obtain⟨v3,x3,f3⟩:=BW.cell 3 (by decide);clear B1 bW sW hgb;have t8:IntKind.u8.wrap (d / 256)=d / 256:=by rw[IntKind.wrap_u8];omega
 have t9:d / 256 % 256=d / 256:=by omega
 go_wp2;go_region;obtain⟨Z,hZ⟩:∃Z,((((W.setCell ⟨gb,0,none⟩ (.int .u8 k)).setCell ⟨gb,1,none⟩ (.int .u8 (n+u))).setCell ⟨gb,2,none⟩ (.int .u8 (d / 256))).setCell ⟨gb,3,none⟩ (.int .u8 (d % 256))).drew=Z:=⟨_,rfl⟩;rw[hZ];obtain⟨F,CP,CF,bF,cZ⟩:∃F:Wo,(Builtin.copy_ #[99, 9] 3 #[.slice (some ⟨gb,4,none⟩) 20 20,.string id]).run Tryz.prog Z.drew = .ok (.int .i64 (id.size:Int)) F
   /\ (convert 99 9 (.slice (some ⟨gb,0,none⟩) 24 24)).run Tryz.prog F = .ok (.string ⟨(byt ⟨k,n,u,d,id⟩).toArray⟩) F/\Hid (Below g w F)/\Z.cell? ⟨g,4,none⟩=some (.string id):=by
  obtain⟨h1,h2,h3⟩:=CB.out;have le:g<=gb:=by omega
  have hh:zsd ((((W.setCell ⟨gb,0,none⟩ (.int .u8 k)).setCell ⟨gb,1,none⟩ (.int .u8 (n+u))).setCell ⟨gb,2,none⟩ (.int .u8 (d / 256))).setCell ⟨gb,3,none⟩ (.int .u8 (d % 256))) g ⟨k,n,u,d,id⟩:=(((h1.other (a:=⟨gb,0,none⟩) ne1 _).other (a:=⟨gb,1,none⟩) ne1 _).other (a:=⟨gb,2,none⟩) ne1 _).other (a:=⟨gb,3,none⟩) ne1 _;have hw:Below g w ((((W.setCell ⟨gb,0,none⟩ (.int .u8 k)).setCell ⟨gb,1,none⟩ (.int .u8 (n+u))).setCell ⟨gb,2,none⟩ (.int .u8 (d / 256))).setCell ⟨gb,3,none⟩ (.int .u8 (d % 256))):=(((h2.setCell (p:=⟨gb,0,none⟩) le _).setCell (p:=⟨gb,1,none⟩) le _).setCell (p:=⟨gb,2,none⟩) le _).setCell (p:=⟨gb,3,none⟩) le _;have hy:BytesAt ((((W.setCell ⟨gb,0,none⟩ (.int .u8 k)).setCell ⟨gb,1,none⟩ (.int .u8 (n+u))).setCell ⟨gb,2,none⟩ (.int .u8 (d / 256))).setCell ⟨gb,3,none⟩ (.int .u8 (d % 256))) gb (bq ⟨k,n,u,d,id⟩ 0):=by
   rw[<-zwu];exact (((BW.set 0 _ _ (by rw[zgI _ b1 b2])).set 1 _ _ (by rw[zgI _ b3 b4])).set 2 _ _ (by show _=((UInt8.ofNat (d / 256).toNat).toNat:Int);rw[zgI (d / 256) (by omega) (by omega)])).set 3 _ _ (by show _=((UInt8.ofNat (d % 256).toNat).toNat:Int);rw[zgI (d % 256) (by omega) (by omega)])
  have hyZ:BytesAt Z.drew gb (bq ⟨k,n,u,d,id⟩ 0):=(hZ ▸ hy.later (bQ _ _).drew:BytesAt Z gb (bq ⟨k,n,u,d,id⟩ 0)).later (bQ _ _).drew;have hhZ:zsd Z g ⟨k,n,u,d,id⟩:=hZ ▸ hh.later (bQ _ _).drew;have hwZ:Below g w Z.drew:=(hZ ▸ hw.drew:Below g w Z).drew;have lb:(bq ⟨k,n,u,d,id⟩ 0).length=24:=zwY _ _ (Nat.zero_le _) (by show id.size<=20;omega);have lt:id.data.toList.length=id.size:=by simp
  have CP:=zvH Z.drew gb 4 20 20 id id.size (Nat.min_eq_left (by omega)) (fun j hj=>by rw[(hyZ (4+j) (by omega)).1];rfl) (fun j hj=>(hyZ (4+j) (by omega)).2);rw[List.take_of_length_le (by rw[lt];exact nL _)] at CP;have BF:=hyZ.rcopied 4 id.data.toList (by omega);have e:=zw1 ⟨k,n,u,d,id⟩;simp only at e;rw[e] at BF;refine⟨_,CP,BF.string (cap:=24) ?_,below_setCells le _ _ _ hwZ,hhZ.cells.2.2.2.2⟩;rw[<-e,List.length_append,List.length_append,List.length_take,List.length_drop,lb,lt];omega
 have HG:Hid (w.heap.size=g):=hg;clear hZ CB BW CM x0 x1 x2 x3 f0 f1 f2 f3 c0 c1 c2 c3 c4 hg;go_wp2;go_region;go_wp2;go_ret2;exact⟨rfl,by rw[HG.out];exact bF.out⟩
theorem zuP (h:Hp) (hk:¬ok h=true) (hi:h.id.size<=140737488355328) (w:Wo) :
  Cl 183 #[hv h] w fun e w'=>e = .returned (.tuple #[.string ⟨#[]⟩,.int .i64 70])/\Bw w w':=by
 have CK:Hid (∀w,Cl 256 #[hv h] w fun e w'=>e = .returned (.int .i64 70)/\Bw w w'):=fun w=>by
  have:=zuN h w hi;rw[zwa h hk] at this;exact this
 clear hk hi;obtain⟨k,n,u,d,id⟩:=h;unfold hv at CK ⊢;simp only at CK ⊢;go_enter Tryz.func183, Tryz.ntmps183;go_wp2_with fail;refine cM (CK.out _) ?_;rintro e w1 ⟨rfl,hb1⟩;have B1:Hid (Bw w w1):=chain ((bQ _ _).alloc (nL _) _) hb1;clear hb1 CK;go_wp2;go_ret2;exact⟨rfl,B1.out⟩
theorem zt1:zww:=fun h w hi=>by
 by_cases hk:ok h=true
 ·rw[zuM h hk];exact zuO h hk w
 ·rw[zv9 h hk];exact zuP h hk hi.out w
def cloneAt:Go.Shelf.Ren:=⟨fun _ => 79, fun t=>if t=3 then 3 else if t=4 then 4 else if t=5 then 5 else if t=9 then 9 else if t=37 then 99 else if t=47 then 247 else 0, fun n=>n⟩
theorem cloneLies:LaysPu.n25 Tryz.prog cloneAt :=
 { mixed:=by kernel_rfl,f25:=by kernel_rfl,t0:=by kernel_rfl,a0:=fun _=>by kernel_rfl,z0:=fun _=>by kernel_rfl,v0:=fun _=>by kernel_rfl,i0:=by kernel_rfl,t3:=by kernel_rfl,a3:=fun _=>by kernel_rfl,z3:=fun _=>by kernel_rfl,v3:=fun _=>by kernel_rfl,i3:=by kernel_rfl,t4:=by kernel_rfl,a4:=fun _=>by kernel_rfl,z4:=fun _=>by kernel_rfl,v4:=fun _=>by kernel_rfl,i4:=by kernel_rfl,t5:=by kernel_rfl,a5:=fun _=>by kernel_rfl,z5:=fun _=>by kernel_rfl,v5:=fun _=>by kernel_rfl,i5:=by kernel_rfl,t9:=by kernel_rfl,a9:=fun _=>by kernel_rfl,z9:=fun _=>by kernel_rfl,v9:=fun _=>by kernel_rfl,i9:=by kernel_rfl,t37:=by kernel_rfl,a37:=fun _=>by kernel_rfl,z37:=fun _=>by kernel_rfl,v37:=fun _=>by kernel_rfl,i37:=by kernel_rfl,t47:=by kernel_rfl,a47:=fun _=>by kernel_rfl,z47:=fun _=>by kernel_rfl,v47:=fun _=>by kernel_rfl,i47:=by kernel_rfl }
theorem clone_in (s:Ba) (hs:s.size<=281474976710656) (w:Wo) :
  Cl 79 #[.string s] w fun e w'=>e = .returned (.string s)/\Bw w w':=AnyPu.stringslite_Clone cloneLies s w hs
theorem clone_any (s:Ba) (hs:s.size<=281474976710656) (w:Wo) :
  Cl 46 #[.string s] w fun e w'=>e = .returned (.string s)/\Bw w w':=by
 go_enter Tryz.func46, Tryz.ntmps46;go_wp2_with fail;refine cM (clone_in s hs _) ?_;rintro e w1 ⟨rfl,hb⟩;have B1:Hid (Bw w w1):=hb;clear hb;go_wp2;go_ret;exact⟨rfl,B1.out⟩
theorem zvI (tmps:Array Value) (w:Wo) (b:Nat) (k n u d:Int) (id:Ba) (h2:tmps.getD 2 undef = .pointer (some ⟨b,0,none⟩)) (l:zsd w b ⟨k,n,u,d,id⟩) :
  (results Tryz.f303 tmps).run Tryz.prog w = .ok (.agg #[.int .i64 k,.int .i64 n,.int .i64 u,.int .i64 d,.string id]) w:=by
 have l1:=run_loadVar_mid (P:=Tryz.prog) w b 0 82 [.int .i64 k,.int .i64 n,.int .i64 u,.int .i64 d,.string id] _ l.range Tryz.underlying82 rfl (by kernel_rfl);unfold results;rw[Tryz.results303];have h2':tmps[2]?.getD undef = .pointer (some ⟨b,0,none⟩):=by simpa using h2
 simp[h2',l1,asAddr]
theorem zw2 (c2 c3:UInt8):bits .or .i64 ((c2.toNat:Int)*256) (c3.toNat:Int)=(c2.toNat:Int)*256+(c3.toNat:Int):=by
 have h2:=c2.toNat_lt;have h3:=c3.toNat_lt;rw[show (c2.toNat:Int)*256=((c2.toNat*256:Nat):Int) by omega,(bits_nat .i64 16 (by decide) (fun n _ _=>by rw[IntKind.wrap_i64];omega) (c2.toNat*256) c3.toNat (by omega) (by omega)).2];have:=Nat.shiftLeft_add_eq_or_of_lt (show c3.toNat < 2 ^ 8 from h3) c2.toNat;rw[Nat.shiftLeft_eq] at this;rw[show c2.toNat*256=c2.toNat*2 ^ 8 by omega,<-this];omega
theorem read_any (b:Ba) (hb:b.size=24) (c0 c1 c2 c3:UInt8) (l0:0 < b.size) (l1:1 < b.size) (l2:2 < b.size) (l3:3 < b.size) (hc0:b[0]=c0) (hc1:b[1]=c1) (hc2:b[2]=c2) (hc3:b[3]=c3) (w:Wo) :
  Cl 303 #[.string b] w fun e w'=>e = .returned (hv ⟨(c0.toNat:Int),(c1.toNat:Int),(c1.toNat:Int),(c2.toNat:Int)*256+(c3.toNat:Int),b.extract 4 20⟩)/\Bw w w':=by
 have zb:(b.size:Int)=24:=by omega
 have z0:(0:Int) < (b.size:Int):=by omega
 have z1:(1:Int) < (b.size:Int):=by omega
 have z2:(2:Int) < (b.size:Int):=by omega
 have z3:(3:Int) < (b.size:Int):=by omega
 have q0:=c0.toNat_lt;have q1:=c1.toNat_lt;have q2:=c2.toNat_lt;have q3:=c3.toNat_lt;obtain⟨X,hX⟩:∃X,b.extract 4 20=X:=⟨_,rfl⟩;have sX:X.size=16:=by rw[<-hX];simp[hb]
 have CL:Hid (∀w,Cl 46 #[.string X] w fun e w'=>e = .returned (.string X)/\Bw w w'):=fun w=>clone_any X (by omega) w
 have t0:IntKind.i64.wrap (c0.toNat:Int)=(c0.toNat:Int):=by rw[IntKind.wrap_i64];omega
 have t2:IntKind.i64.wrap (c2.toNat:Int)=(c2.toNat:Int):=by rw[IntKind.wrap_i64];omega
 have t3:IntKind.i64.wrap (c3.toNat:Int)=(c3.toNat:Int):=by rw[IntKind.wrap_i64];omega
 have t4:IntKind.i64.wrap ((c2.toNat:Int)*256)=(c2.toNat:Int)*256:=by rw[IntKind.wrap_i64];omega
 have OW:=zw2 c2 c3;rw[hX];unfold hv;simp only;go_enter Tryz.func303, Tryz.ntmps303;go_wp2_with fail;obtain⟨A,hA⟩:∃A,w.alloc (.cells #[.int .i64 0,.int .i64 0,.int .i64 0,.int .i64 0,.string ⟨#[]⟩] 82)=A:=⟨_,rfl⟩;have C0:Hid (zsd A w.heap.size ⟨0,0,0,0,⟨#[]⟩⟩/\Bw w A.drew):=by
  rw[<-hA];exact⟨zsd.fresh _ _ _ _ _ _ _,((bQ _ _).alloc (nL _) _).drew⟩
 have HB:Hid (∀w1,Below A.drew.heap.size A.drew w1->zsd w1 w.heap.size ⟨0,0,0,0,⟨#[]⟩⟩/\Bw w w1):=fun w1 h=>⟨(C0.out.1.later (bQ _ _).drew).later h,chain C0.out.2 h⟩
 rw[hA];clear hA;refine wp_region_noPanic ?_;refine wp_region_held_drew (S:=fun w'=>Bw w w') (by kernel_rfl) C0.out.2 (fun hHeld => ?_);refine wpAnyH_take (i:=0) (oi:={ dst:=some 7,op := .move (.tmp 0),type := 9, pos := "route.go:94", after:=#[],guard:=none }) (v := ?_) rfl (by kernel_rfl) (by kernel_rfl) (by kernel_rfl) (fun _ _ _ h=>h) (Or.inl ⟨by rfl,?_⟩) (by assumption) ?_
 rotate_left
 ·intro w' hSw
  first
  | (go_simp;done)
  | (go_simp;with_reducible rfl)
 simp only[Act.put,wA,wB,wC];refine wpAnyH_take (i:=1) (oi:={ dst:=some 8,op := .index 9 (.tmp 7) (.const (Value.int IntKind.i64 0)),type := 5, pos := "route.go:94", after:=#[eD 0],guard:=none }) (v := ?_) rfl (by kernel_rfl) (by kernel_rfl) (by kernel_rfl) (fun _ _ _ h=>h) (Or.inl ⟨by rfl,?_⟩) (by assumption) ?_
 rotate_left
 ·intro w' hSw
  first
  | (go_simp;done)
  | (go_simp;with_reducible rfl)
 simp only[Act.put,wA,wB,wC];refine wpAnyH_take (i:=2) (oi:={ dst:=some 9,op := .convert 5 3 (.tmp 8),type := 3, pos := "route.go:94", after:=#[eD 1],guard:=none }) (v := ?_) rfl (by kernel_rfl) (by kernel_rfl) (by kernel_rfl) (fun _ _ _ h=>h) (Or.inl ⟨by rfl,?_⟩) (by assumption) ?_
 rotate_left
 ·intro w' hSw
  first
  | (go_simp;done)
  | (go_simp;with_reducible rfl)
 simp only[Act.put,wA,wB,wC];refine wpAnyH_take (i:=3) (oi:={ dst:=some 10,op := .move (.tmp 3),type := 3, pos := "route.go:94", after:=#[],guard:=none }) (v := ?_) rfl (by kernel_rfl) (by kernel_rfl) (by kernel_rfl) (fun _ _ _ h=>h) (Or.inl ⟨by rfl,?_⟩) (by assumption) ?_
 rotate_left
 ·intro w' hSw
  first
  | (go_simp;done)
  | (go_simp;with_reducible rfl)
 simp only[Act.put,wA,wB,wC];refine wpAnyH_take (i:=4) (oi:={ dst:=some 11,op := .move (.tmp 3),type := 3, pos := "route.go:94", after:=#[],guard:=none }) (v := ?_) rfl (by kernel_rfl) (by kernel_rfl) (by kernel_rfl) (fun _ _ _ h=>h) (Or.inl ⟨by rfl,?_⟩) (by assumption) ?_
 rotate_left
 ·intro w' hSw
  first
  | (go_simp;done)
  | (go_simp;with_reducible rfl)
 simp only[Act.put,wA,wB,wC];refine wpAnyH_take (i:=5) (oi:={ dst:=some 12,op := .move (.tmp 0),type := 9, pos := "route.go:94", after:=#[],guard:=none }) (v := ?_) rfl (by kernel_rfl) (by kernel_rfl) (by kernel_rfl) (fun _ _ _ h=>h) (Or.inl ⟨by rfl,?_⟩) (by assumption) ?_
 rotate_left
 ·intro w' hSw
  first
  | (go_simp;done)
  | (go_simp;with_reducible rfl)
 simp only[Act.put,wA,wB,wC];refine wpAnyH_take (i:=6) (oi:={ dst:=some 13,op := .index 9 (.tmp 12) (.const (Value.int IntKind.i64 2)),type := 5, pos := "route.go:94", after:=#[eD 5],guard:=none }) (v := ?_) rfl (by kernel_rfl) (by kernel_rfl) (by kernel_rfl) (fun _ _ _ h=>h) (Or.inl ⟨by rfl,?_⟩) (by assumption) ?_
 rotate_left
 ·intro w' hSw
  first
  | (go_simp;done)
  | (go_simp;with_reducible rfl)
 simp only[Act.put,wA,wB,wC];refine wpAnyH_take (i:=7) (oi:={ dst:=some 14,op := .convert 5 3 (.tmp 13),type := 3, pos := "route.go:94", after:=#[eD 6],guard:=none }) (v := ?_) rfl (by kernel_rfl) (by kernel_rfl) (by kernel_rfl) (fun _ _ _ h=>h) (Or.inl ⟨by rfl,?_⟩) (by assumption) ?_
 rotate_left
 ·intro w' hSw
  first
  | (go_simp;done)
  | (go_simp;with_reducible rfl)
 simp only[Act.put,wA,wB,wC];refine wpAnyH_take (i:=8) (oi:={ dst:=some 15,op := .binOp BinOp.shl 3 (.tmp 14) (.const (Value.int IntKind.u64 8)) 124, type := 3, pos := "route.go:94", after:=#[eD 7],guard:=none }) (v := ?_) rfl (by kernel_rfl) (by kernel_rfl) (by kernel_rfl) (fun _ _ _ h=>h) (Or.inl ⟨by rfl,?_⟩) (by assumption) ?_
 rotate_left
 ·intro w' hSw
  first
  | (go_simp;done)
  | (go_simp;with_reducible rfl)
 simp only[Act.put,wA,wB,wC];refine wpAnyH_take (i:=9) (oi:={ dst:=some 16,op := .move (.tmp 0),type := 9, pos := "route.go:94", after:=#[],guard:=none }) (v := ?_) rfl (by kernel_rfl) (by kernel_rfl) (by kernel_rfl) (fun _ _ _ h=>h) (Or.inl ⟨by rfl,?_⟩) (by assumption) ?_
 rotate_left
 ·intro w' hSw
  first
  | (go_simp;done)
  | (go_simp;with_reducible rfl)
 simp only[Act.put,wA,wB,wC];refine wpAnyH_take (i:=10) (oi:={ dst:=some 17,op := .index 9 (.tmp 16) (.const (Value.int IntKind.i64 3)),type := 5, pos := "route.go:94", after:=#[eD 9],guard:=none }) (v := ?_) rfl (by kernel_rfl) (by kernel_rfl) (by kernel_rfl) (fun _ _ _ h=>h) (Or.inl ⟨by rfl,?_⟩) (by assumption) ?_
 rotate_left
 ·intro w' hSw
  first
  | (go_simp;done)
  | (go_simp;with_reducible rfl)
 simp only[Act.put,wA,wB,wC];refine wpAnyH_take (i:=11) (oi:={ dst:=some 18,op := .convert 5 3 (.tmp 17),type := 3, pos := "route.go:94", after:=#[eD 10],guard:=none }) (v := ?_) rfl (by kernel_rfl) (by kernel_rfl) (by kernel_rfl) (fun _ _ _ h=>h) (Or.inl ⟨by rfl,?_⟩) (by assumption) ?_
 rotate_left
 ·intro w' hSw
  first
  | (go_simp;done)
  | (go_simp;with_reducible rfl)
 simp only[Act.put,wA,wB,wC];refine wpAnyH_take (i:=12) (oi:={ dst:=some 19,op := .binOp BinOp.or 3 (.tmp 15) (.tmp 18) 3, type := 3, pos := "route.go:94", after:=#[eD 8,eD 11],guard:=none }) (v := ?_) rfl (by kernel_rfl) (by kernel_rfl) (by kernel_rfl) (fun _ _ _ h=>h) (Or.inl ⟨by rfl,?_⟩) (by assumption) ?_
 rotate_left
 ·intro w' hSw
  first
  | (go_simp;done)
  | (go_simp;with_reducible rfl)
 simp only[Act.put,wA,wB,wC];refine wpAnyH_take (i:=13) (oi:={ dst:=some 20,op := .move (.tmp 0),type := 9, pos := "route.go:94", after:=#[],guard:=none }) (v := ?_) rfl (by kernel_rfl) (by kernel_rfl) (by kernel_rfl) (fun _ _ _ h=>h) (Or.inl ⟨by rfl,?_⟩) (by assumption) ?_
 rotate_left
 ·intro w' hSw
  first
  | (go_simp;done)
  | (go_simp;with_reducible rfl)
 simp only[Act.put,wA,wB,wC];refine wpAnyH_take (i:=14) (oi:={ dst:=some 21,op := .slice 9 (.tmp 20) (some (.const (Value.int IntKind.i64 4))) (some (.const (Value.int IntKind.i64 20))) none,type := 9, pos := "route.go:94", after:=#[eD 13],guard:=none }) (v := ?_) rfl (by kernel_rfl) (by kernel_rfl) (by kernel_rfl) (fun _ _ _ h=>h) (Or.inl ⟨by rfl,?_⟩) (by assumption) ?_
 rotate_left
 ·intro w' hSw
  first
  | (go_simp;done)
  | (go_simp;with_reducible rfl)
 simp only[Act.put,wA,wB,wC];refine wpAnyH_ready (rs:=[15]) (by kernel_rfl) (by simp) ?_;refine AllReadyH.cons (o:={ dst:=some 22,op := .call { callee:=Callee.value (.func 46),args:=#[Operand.tmp 21],argTypes:=#[9] },type := 9, pos := "route.go:99", after:=#[eD 14],guard:=none }) rfl (fun K hK => ?_) AllReadyH.nil;go_simp;refine cM (CL.out _) ?_;rintro e w1 ⟨rfl,hb1⟩;have B1:Hid (zsd w1 w.heap.size ⟨0,0,0,0,⟨#[]⟩⟩/\Bw w w1):=HB.out _ hb1;obtain⟨r0,r1,r2,r3,r4⟩:=B1.out.1.cells;have fz:=B1.out.1.1;have f0:=fz 0;have f1:=fz 1;have f2:=fz 2;have f3:=fz 3;have f4:=fz 4;clear hb1 fz hHeld;refine hK.out _ _ B1.out.2 (fun hHeld => ?_);clear hK K;refine wpAnyH_take (i:=16) (oi:={ dst:=some 23,op := .build 82 #[(0,Operand.tmp 9),(1,Operand.tmp 10),(2,Operand.tmp 11),(3,Operand.tmp 19),(4,Operand.tmp 22)],type := 82, pos := "route.go:94", after:=#[eD 2,eD 3,eD 4,eD 12,eD 15],guard:=none }) (v := ?_) rfl (by kernel_rfl) (by kernel_rfl) (by kernel_rfl) (fun _ _ _ h=>h) (Or.inl ⟨by rfl,?_⟩) (by assumption) ?_
 rotate_left
 ·intro w' hSw
  first
  | (go_simp;done)
  | (go_simp;with_reducible rfl)
 simp only[Act.put,wA,wB,wC];refine wpAnyH_ready (rs:=[17]) (by kernel_rfl) (by simp) ?_;refine AllReadyH.cons rfl (fun K hK => ?_) AllReadyH.nil;go_simp;refine hK.out _ _ (zsr B1.out.2 (nL _) _ _ _ _ _) (fun hHeld2 => ?_);clear hK K;refine wpAnyH_done (by kernel_rfl) ?_ _;refine NoPanic.normal ?_;have HW:Hid (_/\_):=And.intro (zsd.whole B1.out.1 (c0.toNat:Int) (c1.toNat:Int) (c1.toNat:Int) ((c2.toNat:Int)*256+(c3.toNat:Int)) X) (zsr B1.out.2 (nL w.heap.size) (.int .i64 (c0.toNat:Int)) (.int .i64 (c1.toNat:Int)) (.int .i64 (c1.toNat:Int)) (.int .i64 ((c2.toNat:Int)*256+(c3.toNat:Int))) (.string X));clear B1 hHeld hHeld2 HB C0 CL;go_wp2;refine bodyPost_ret (v := .agg #[.int .i64 (c0.toNat:Int),.int .i64 (c1.toNat:Int),.int .i64 (c1.toNat:Int),.int .i64 ((c2.toNat:Int)*256+(c3.toNat:Int)),.string X]) ?_ rfl ⟨rfl,HW.out.2⟩;exact zvI _ _ w.heap.size _ _ _ _ _ (by kernel_rfl) HW.out.1
theorem ztg (tmps:Array Value) (w:Wo) (b:Nat) (k n u d:Int) (id:Ba) (e:Int) (h2:tmps.getD 2 undef = .pointer (some ⟨b,0,none⟩)) (h3:tmps.getD 3 undef = .int .i64 e) (l:zsd w b ⟨k,n,u,d,id⟩) :
  (results Tryz.f242 tmps).run Tryz.prog w = .ok (.tuple #[.agg #[.int .i64 k,.int .i64 n,.int .i64 u,.int .i64 d,.string id],.int .i64 e]) w:=by
 have l1:=run_loadVar_mid (P:=Tryz.prog) w b 0 82 [.int .i64 k,.int .i64 n,.int .i64 u,.int .i64 d,.string id] _ l.range Tryz.underlying82 rfl (by kernel_rfl);unfold results;rw[Tryz.results242];have h2':tmps[2]?.getD undef = .pointer (some ⟨b,0,none⟩):=by simpa using h2
 have h3':tmps[3]?.getD undef = .int .i64 e:=by simpa using h3
 simp[h2',h3',l1,asAddr]
theorem ztK (b:Ba) (h:¬b.size=24) (w:Wo) :
  Cl 242 #[.string b] w fun e w'=>e = .returned (.tuple #[hv zh,.int .i64 3])/\Bw w w':=by
 have h':¬(b.size:Int)=24:=by omega
 unfold hv zh;simp only;go_enter Tryz.func242, Tryz.ntmps242;go_wp2;refine bodyPost_ret ?_ rfl ⟨rfl,(bQ _ _).alloc (nL _) _⟩;exact ztg _ _ w.heap.size 0 0 0 0 ⟨#[]⟩ 3 (by kernel_rfl) (by kernel_rfl) (zsd.fresh _ _ _ _ _ _ _)
theorem zwy (b:Ba) (hb:b.size=24) :
  ∃x:Hp,nm x=zol b.data.toList/\x.id.size<=16/\∀w,Cl 303 #[.string b] w fun e w'=>e = .returned (hv x)/\Bw w w':=by
 have l0:0 < b.size:=by omega
 have l1:1 < b.size:=by omega
 have l2:2 < b.size:=by omega
 have l3:3 < b.size:=by omega
 obtain⟨c0,hc0⟩:∃c,b[0]=c:=⟨_,rfl⟩;obtain⟨c1,hc1⟩:∃c,b[1]=c:=⟨_,rfl⟩;obtain⟨c2,hc2⟩:∃c,b[2]=c:=⟨_,rfl⟩;obtain⟨c3,hc3⟩:∃c,b[3]=c:=⟨_,rfl⟩;have CD:=zug b c0 c1 c2 c3 (by rw[List.getD_eq_getElem?_getD,List.getElem?_eq_getElem (by simpa using l0),<-hc0];rfl) (by rw[List.getD_eq_getElem?_getD,List.getElem?_eq_getElem (by simpa using l1),<-hc1];rfl) (by rw[List.getD_eq_getElem?_getD,List.getElem?_eq_getElem (by simpa using l2),<-hc2];rfl) (by rw[List.getD_eq_getElem?_getD,List.getElem?_eq_getElem (by simpa using l3),<-hc3];rfl);refine⟨_,?_,?_,fun w=>read_any b hb c0 c1 c2 c3 l0 l1 l2 l3 hc0 hc1 hc2 hc3 w⟩
 ·have key:∀v:UInt8,c0=v↔(c0.toNat:Int)=(v.toNat:Int):=fun v=>⟨fun h=>by rw[h],fun h=>UInt8.toNat.inj (by omega)⟩
  have k1:c0=1↔(c0.toNat:Int)=1:=key 1;have k2:c0=2↔(c0.toNat:Int)=2:=key 2;have k3:c0=3↔(c0.toNat:Int)=3:=key 3;unfold nm;simp only;by_cases h1:c0=1
  ·rw[CD.1 h1,if_pos (k1.1 h1),k1.1 h1]
  ·by_cases h2:c0=2
   ·rw[CD.2.1 h2,if_neg (fun h=>h1 (k1.2 h)),if_pos (k2.1 h2),k2.1 h2]
   ·by_cases h3:c0=3
    ·rw[CD.2.2.1 h3,if_neg (fun h=>h1 (k1.2 h)),if_neg (fun h=>h2 (k2.2 h)),if_pos (k3.1 h3),k3.1 h3]
    ·rw[CD.2.2.2 h1 h2 h3,if_neg (fun h=>h1 (k1.2 h)),if_neg (fun h=>h2 (k2.2 h)),if_neg (fun h=>h3 (k3.2 h))]
 ·show (b.extract 4 20).size<=16
  simp;omega
theorem zuQ (b:Ba) (hb:b.size=24) (w:Wo) :
  Cl 242 #[.string b] w fun e w'=>e = .returned (.tuple (dcV b))/\Below w.heap.size w w':=by
 obtain⟨x,hx,sx,RD⟩:=zwy b hb;have R0:Hid (∀w,Cl 303 #[.string b] w fun e w'=>e = .returned (hv x)/\Below w.heap.size w w'):=RD;have N0:Hid (∀w,Cl 302 #[hv x] w fun e w'=>e = .returned (hv (zol b.data.toList))/\Below w.heap.size w w'):=fun w=>by
  have:=zsJ x w;rw[hx] at this;exact this
 have si:(zol b.data.toList).id.size<=16:=by
  rw[<-hx];unfold nm;repeat' split
  all_goals first|exact sx|exact Nat.zero_le _
 have hl:b.data.toList.length=24:=by simpa using hb
 have zb:(b.size:Int)=24:=by omega
 have E0:Hid (∀w,Cl 183 #[hv (zol b.data.toList)] w fun e w'=>e = .returned (.tuple (enV (zol b.data.toList)))/\Below w.heap.size w w'):=fun w=>zt1 _ w (by show _<=_;omega)
 have FN:Hid ((¬ok (zol b.data.toList)=true->dcV b=#[hv zh,.int .i64 70])/\(¬byt (zol b.data.toList)=b.data.toList->dcV b=#[hv zh,.int .i64 70])/\(ok (zol b.data.toList)=true->byt (zol b.data.toList)=b.data.toList->dcV b=#[hv (zol b.data.toList),.int .i64 0])):=by
  refine⟨fun h=>ztf b hb ?_,fun h=>ztf b hb ?_,fun h1 h2=>ztY b _ hb ?_⟩
  ·unfold dcd;rw[if_neg (fun g=>h g.2.1)]
  ·unfold dcd;rw[if_neg (fun g=>h g.2.2)]
  ·unfold dcd;rw[if_pos ⟨hl,h1,h2⟩]
 clear RD hx sx si hl;generalize zol b.data.toList=y at *;obtain⟨k',n',u',d',id'⟩:=x;obtain⟨k,n,u,d,id⟩:=y;unfold hv at R0 N0 E0 FN;simp only at R0 N0 E0 FN;go_enter Tryz.func242, Tryz.ntmps242;go_wp2_with fail;refine cM (R0.out _) ?_;rintro e w1 ⟨rfl,hb1⟩;have B1:Hid (zsd w1 w.heap.size ⟨0,0,0,0,⟨#[]⟩⟩/\Below w.heap.size w w1):=⟨(zsd.fresh _ _ _ _ _ _ _).later hb1,chain ((bQ _ _).alloc (nL _) _) hb1⟩;clear hb1 R0;go_wp2_with fail;refine cM (N0.out _) ?_;rintro e w2 ⟨rfl,hb2⟩;have B2:Hid (zsd w2 w.heap.size ⟨0,0,0,0,⟨#[]⟩⟩/\Below w.heap.size w w2):=⟨B1.out.1.later hb2,chain B1.out.2 hb2⟩;clear hb2 N0 B1;go_wp2_with fail;obtain⟨D,hD⟩:∃D,w2.alloc (.cells #[.int .i64 k,.int .i64 n,.int .i64 u,.int .i64 d,.string id] 82)=D:=⟨_,rfl⟩;obtain⟨g,hg⟩:∃g,w2.heap.size=g:=⟨_,rfl⟩;have HD:Hid (zsd D w.heap.size ⟨0,0,0,0,⟨#[]⟩⟩/\zsd D g ⟨k,n,u,d,id⟩/\Below w.heap.size w D):=by
  have bd:=(bQ w2.heap.size w2).alloc (nL _) (.cells #[.int .i64 k,.int .i64 n,.int .i64 u,.int .i64 d,.string id] 82);rw[<-hD,<-hg];exact⟨B2.out.1.later bd,zsd.fresh _ _ _ _ _ _ _,chain B2.out.2 bd⟩
 rw[hD,hg];clear hD hg B2;by_cases hok:ok ⟨k,n,u,d,id⟩=true
 ·rw[zuM _ hok] at E0
  obtain⟨X,hX⟩:∃X:Ba,⟨(byt ⟨k,n,u,d,id⟩).toArray⟩=X:=⟨_,rfl⟩;have EX:Hid ((X.toList=b.toList)=(byt ⟨k,n,u,d,id⟩=b.data.toList)):=by
   show _=_;rw[ByteArray.toList_eq,ByteArray.toList_eq,<-hX]
  rw[hX] at E0;have OK1:Hid (ok ⟨k,n,u,d,id⟩=true):=hok;refine cM (E0.out _) ?_;rintro e w3 ⟨rfl,hb3⟩;have H2:Hid (zsd w3 w.heap.size ⟨0,0,0,0,⟨#[]⟩⟩/\zsd w3 g ⟨k,n,u,d,id⟩/\Below w.heap.size w w3):=⟨HD.out.1.later hb3,HD.out.2.1.later hb3,chain HD.out.2.2 hb3⟩;obtain⟨r0,r1,r2,r3,r4⟩:=H2.out.2.1.cells;obtain⟨s0,s1,s2,s3,s4⟩:=H2.out.1.cells;have fz:=H2.out.1.1;have f0:=fz 0;have f1:=fz 1;have f2:=fz 2;have f3:=fz 3;have f4:=fz 4;clear hb3 HD E0 fz hok hX;by_cases hq:X.toList=b.toList
  ·have E:Hid (dcV b=#[.agg #[.int .i64 k,.int .i64 n,.int .i64 u,.int .i64 d,.string id],.int .i64 0]):=FN.out.2.2 OK1.out (EX.out ▸ hq)
   have hq2:(X.toList == b.toList)=true:=by simpa using hq
   have HW:Hid (_/\_):=And.intro (zsd.whole H2.out.1 k n u d id) (zsr H2.out.2.2 (nL w.heap.size) (.int .i64 k) (.int .i64 n) (.int .i64 u) (.int .i64 d) (.string id));clear FN EX OK1 H2;go_wp2;refine bodyPost_ret (v := .tuple #[.agg #[.int .i64 k,.int .i64 n,.int .i64 u,.int .i64 d,.string id],.int .i64 0]) ?_ rfl ⟨by rw[E.out],HW.out.2⟩;exact ztg _ _ w.heap.size _ _ _ _ _ 0 (by kernel_rfl) (by kernel_rfl) HW.out.1
  ·have hq2:(X.toList == b.toList)=false:=beq_eq_false_iff_ne.2 hq
   have E:Hid (dcV b=#[.agg #[.int .i64 0,.int .i64 0,.int .i64 0,.int .i64 0,.string ⟨#[]⟩],.int .i64 70]):=FN.out.2.1 (fun h=>hq (EX.out ▸ h));have HW:Hid (_/\_):=And.intro (zsd.whole H2.out.1 0 0 0 0 ⟨#[]⟩) (zsr H2.out.2.2 (nL w.heap.size) (.int .i64 0) (.int .i64 0) (.int .i64 0) (.int .i64 0) (.string ⟨#[]⟩));clear FN EX OK1 H2;go_wp2;refine bodyPost_ret (v := .tuple #[.agg #[.int .i64 0,.int .i64 0,.int .i64 0,.int .i64 0,.string ⟨#[]⟩],.int .i64 70]) ?_ rfl ⟨by rw[E.out],HW.out.2⟩;exact ztg _ _ w.heap.size 0 0 0 0 ⟨#[]⟩ 70 (by kernel_rfl) (by kernel_rfl) HW.out.1
 ·rw[zv9 _ hok] at E0
  refine cM (E0.out _) ?_;rintro e w3 ⟨rfl,hb3⟩;have H2:Hid (zsd w3 w.heap.size ⟨0,0,0,0,⟨#[]⟩⟩/\Below w.heap.size w w3):=⟨HD.out.1.later hb3,chain HD.out.2.2 hb3⟩;obtain⟨s0,s1,s2,s3,s4⟩:=H2.out.1.cells;have fz:=H2.out.1.1;have f0:=fz 0;have f1:=fz 1;have f2:=fz 2;have f3:=fz 3;have f4:=fz 4;have E:Hid (dcV b=#[.agg #[.int .i64 0,.int .i64 0,.int .i64 0,.int .i64 0,.string ⟨#[]⟩],.int .i64 70]):=FN.out.1 hok;have HW:Hid (_/\_):=And.intro (zsd.whole H2.out.1 0 0 0 0 ⟨#[]⟩) (zsr H2.out.2 (nL w.heap.size) (.int .i64 0) (.int .i64 0) (.int .i64 0) (.int .i64 0) (.string ⟨#[]⟩));clear FN hb3 HD E0 H2 fz hok;go_wp2;refine bodyPost_ret (v := .tuple #[.agg #[.int .i64 0,.int .i64 0,.int .i64 0,.int .i64 0,.string ⟨#[]⟩],.int .i64 70]) ?_ rfl ⟨by rw[E.out],HW.out.2⟩;exact ztg _ _ w.heap.size 0 0 0 0 ⟨#[]⟩ 70 (by kernel_rfl) (by kernel_rfl) HW.out.1
theorem zvJ:zwx:=fun b w _=>by
 by_cases h:b.size=24
 ·exact zuQ b h w
 ·rw[zvC b h];exact ztK b h w
theorem zvK (a:Option Addr) (hs:List Hp) (n cap:Nat) (hn:Hid (hs.length=n)) (hn2:n < 9223372036854775807) (hid:Hid (∀h∈hs,h.id.size<=140737488355328)) (w:Wo) (hc:Hid (zfS w a hs)) :
  Cl 176 #[.slice a n cap] w fun e w'=>e = .returned (.int .i64 (pth hs))/\Bw w w':=by
 have CK:Hid (∀(k n u d:Int) (id:Ba) (w:Wo),id.size<=140737488355328->Cl 256 #[.agg #[.int .i64 k,.int .i64 n,.int .i64 u,.int .i64 d,.string id]] w fun e w'=>e = .returned (.int .i64 (chk ⟨k,n,u,d,id⟩))/\Bw w w'):=fun k n u d id w h=>zuN ⟨k,n,u,d,id⟩ w h
 go_enter Tryz.func176, Tryz.ntmps176;go_wp2;go_loopw [11] (fun iv wr=>∃q:Nat,q<=n/\iv = .int .i64 (q:Int)/\Hid ((∀j,j < q->ok (hs.getD j zh)=true)/\Bw w wr)) (fun iv _=>n - (intOf iv).toNat)
 case atStart=>exact⟨0,Nat.zero_le _,rfl,fun j hj=>absurd hj (Nat.not_lt_zero _),bQ _ _⟩
 case round =>
  obtain⟨q,hq,rfl,I⟩:=hrel;by_cases hlt:q < n
  ·have g1:(q:Int) < (n:Int):=by omega
   obtain⟨b,o,rfl,c0,c1,c2,c3,c4⟩:=(hc.out.later I.out.2 rfl) q (by rw[hn.out];exact hlt);have PN:Hid (¬ok (hs.getD q zh)=true->pth hs=70):=fun h=>zwV hs q (by rw[hn.out];exact hlt) h
   have EX:Hid (ok (hs.getD q zh)=true->∀j,j < q+1->ok (hs.getD j zh)=true):=fun h j hj=>by
    rcases Nat.lt_or_ge j q with g|g
    ·exact I.out.1 j g
    ·obtain rfl:j=q:=by omega
     exact h
   have SI:Hid ((hs.getD q zh).id.size<=140737488355328):=hid.out _ (by
    have hq':q < hs.length:=by rw[hn.out];exact hlt
    rw[List.getD_eq_getElem?_getD,List.getElem?_eq_getElem hq'];exact List.getElem_mem hq')
   have BA:Hid (∀o,Bw w (wr.alloc o)):=fun o=>I.out.2.alloc I.out.2.size o
   generalize hs.getD q zh=h at *;obtain⟨k,nn,u,d,id⟩:=h;simp only at c0 c1 c2 c3 c4;have CK1:Hid (∀w,Cl 256 #[.agg #[.int .i64 k,.int .i64 nn,.int .i64 u,.int .i64 d,.string id]] w fun e w'=>e = .returned (.int .i64 (chk ⟨k,nn,u,d,id⟩))/\Bw w w'):=fun w=>CK.out _ _ _ _ _ w SI.out
   clear CK SI;by_cases hk:ok ⟨k,nn,u,d,id⟩=true
   ·rw[zwZ _ hk] at CK1
    have EY:=EX.out hk;have EZ:Hid (∀j,j < q+1->ok (hs.getD j zh)=true):=EY;clear EX PN EY hk;go_wp2_with fail;refine cM (CK1.out _) ?_;rintro e w1 ⟨rfl,hb1⟩;have B1:Hid (Bw w w1):=chain (BA.out _) hb1;clear hb1 CK1 I BA c0 c1 c2 c3 c4;go_wp2;exact⟨⟨q+1,by omega,by go_num,EZ.out,B1.out⟩,by simp[intOf];omega⟩
   ·rw[zwa _ hk] at CK1
    have E:Hid (pth hs=70):=PN.out hk;clear EX PN hk;go_wp2_with fail;refine cM (CK1.out _) ?_;rintro e w1 ⟨rfl,hb1⟩;have B1:Hid (Bw w w1):=chain (BA.out _) hb1;clear hb1 CK1 I BA c0 c1 c2 c3 c4;go_wp2;go_ret;exact⟨by rw[E.out];rfl,B1.out⟩
  ·obtain rfl:q=n:=by omega
   have g1:¬(q:Int) < (q:Int):=by omega
   have AL:Hid (hs.all ok=true):=zwW hs (by rw[hn.out];exact I.out.1);have B1:Hid (Bw w wr):=I.out.2;clear I CK;by_cases hl:q=0\/5 < q
   ·have E:Hid (pth hs=4):=zwt hs AL.out (by rw[hn.out];exact hl)
    clear AL;rcases hl with hl|hl
    ·have g2:(q:Int) < 1:=by omega
     go_wp2;go_ret;exact⟨by rw[E.out];rfl,B1.out⟩
    ·have g2:¬(q:Int) < 1:=by omega
     have g3:(5:Int) < (q:Int):=by omega
     go_wp2;go_ret;exact⟨by rw[E.out];rfl,B1.out⟩
   ·have g2:¬(q:Int) < 1:=by omega
    have g3:¬(5:Int) < (q:Int):=by omega
    go_wp2;have HL:Hid (¬(hs.length=0\/5 < hs.length)):=by rw[hn.out];exact hl
    go_loopw [31] (fun iv wx=>∃p:Nat,p<=q/\iv = .int .i64 (p:Int)/\Hid ((∀j,j < p->((hs.getD j zh).k=1↔j+1 < q))/\Bw w wx)) (fun iv _=>q - (intOf iv).toNat)
    case atStart=>exact⟨0,Nat.zero_le _,rfl,fun j hj=>absurd hj (Nat.not_lt_zero _),B1.out⟩
    case round =>
     obtain⟨p,hp,rfl,I⟩:=hrel;clear B1;by_cases hpl:p < q
     ·have x1:(p:Int) < (q:Int):=by omega
      obtain⟨b,o,rfl,c0,c1,c2,c3,c4⟩:=(hc.out.later I.out.2 rfl) p (by rw[hn.out];exact hpl);have x2:IntKind.i64.wrap ((q:Int) - 1)=(q:Int) - 1:=by rw[IntKind.wrap_i64];omega
      have PN:Hid (¬((hs.getD p zh).k=1↔p+1 < q)->pth hs=4):=fun h=>zuL hs AL.out HL.out p (by rw[hn.out];exact hpl) (by rw[hn.out];exact h)
      have EX:Hid (((hs.getD p zh).k=1↔p+1 < q)->∀j,j < p+1->((hs.getD j zh).k=1↔j+1 < q)):=fun h j hj=>by
       rcases Nat.lt_or_ge j p with g|g
       ·exact I.out.1 j g
       ·obtain rfl:j=p:=by omega
        exact h
      generalize (hs.getD p zh).k=k at *;by_cases k1:k=1
      ·by_cases l1:p+1 < q
       ·have x3:¬(p:Int)=(q:Int) - 1:=by omega
        have x4:((p:Int) == (q:Int) - 1)=false:=beq_eq_false_iff_ne.2 x3;have EZ:Hid (∀j,j < p+1->((hs.getD j zh).k=1↔j+1 < q)):=EX.out ⟨fun _=>l1,fun _=>k1⟩;have BF:Hid (∀o,Bw w (wr.alloc o)):=fun o=>I.out.2.alloc I.out.2.size o
        subst k1;clear EX PN I;go_wp2;exact⟨⟨p+1,by omega,by go_num,EZ.out,BF.out _⟩,by simp[intOf];omega⟩
       ·have x3:(p:Int)=(q:Int) - 1:=by omega
        have x4:((p:Int) == (q:Int) - 1)=true:=beq_iff_eq.2 x3;clear x3;have E:Hid (pth hs=4):=PN.out (fun h=>l1 (h.1 k1));have BF:Hid (∀o,Bw w (wr.alloc o)):=fun o=>I.out.2.alloc I.out.2.size o
        subst k1;clear EX PN I;go_wp2;go_ret;exact⟨by rw[E.out];rfl,BF.out _⟩
      ·have kb:(k == 1)=false:=beq_eq_false_iff_ne.2 k1
       by_cases l1:p+1 < q
       ·have x3:¬(p:Int)=(q:Int) - 1:=by omega
        have x4:((p:Int) == (q:Int) - 1)=false:=beq_eq_false_iff_ne.2 x3;have E:Hid (pth hs=4):=PN.out (fun h=>k1 (h.2 l1));have BF:Hid (∀o,Bw w (wr.alloc o)):=fun o=>I.out.2.alloc I.out.2.size o
        clear EX PN I;go_wp2;go_ret;exact⟨by rw[E.out];rfl,BF.out _⟩
       ·have x3:(p:Int)=(q:Int) - 1:=by omega
        have x4:((p:Int) == (q:Int) - 1)=true:=beq_iff_eq.2 x3;clear x3;have EZ:Hid (∀j,j < p+1->((hs.getD j zh).k=1↔j+1 < q)):=EX.out ⟨fun h=>absurd h k1,fun h=>absurd h l1⟩;have BF:Hid (∀o,Bw w (wr.alloc o)):=fun o=>I.out.2.alloc I.out.2.size o
        clear EX PN I;go_wp2;exact⟨⟨p+1,by omega,by go_num,EZ.out,BF.out _⟩,by simp[intOf];omega⟩
     ·obtain rfl:p=q:=by omega
      have x1:¬(p:Int) < (p:Int):=by omega
      have E:Hid (pth hs=0):=zwX hs AL.out HL.out (by rw[hn.out];exact I.out.1);have BF:Hid (Bw w wr):=I.out.2;clear I;go_wp2;go_ret;exact⟨by rw[E.out];rfl,BF.out⟩
theorem zw3:zxo:=fun a hs n cap w hn hn2 hid hc=>zvK a hs n cap hn (by have:=hn2.out;omega) hid w hc
end Go.Proofs.YtjcppbhgjchjaaaGreatDoor
