/- A part of the walk. -/
import Derived.Test.YtjcppbhgjchjaaaGreatDoorZr3G25
set_option maxHeartbeats 8000000
set_option maxRecDepth 20000
namespace Go.Proofs.Wd
theorem zuk (t:List UInt8) (n:Nat):(pln t n 0).take 34++t++(pln t n 0).drop (34+t.length)=zfU t n:=by
 unfold pln zfU;generalize hz:List.replicate 32 (0:UInt8)=Z;have lz:Z.length=32:=by rw[<-hz,List.length_replicate]
 have l2:(Z++[UInt8.ofNat (t.length / 256),UInt8.ofNat t.length]).length=34:=by simp[lz]
 have e1:(Z++[UInt8.ofNat (t.length / 256),UInt8.ofNat t.length]).drop 34=[]:=List.drop_of_length_le (by rw[l2];exact nL _);have e2:(Z++[UInt8.ofNat (t.length / 256),UInt8.ofNat t.length]).take 34=Z++[UInt8.ofNat (t.length / 256),UInt8.ofNat t.length]:=List.take_of_length_le (by rw[l2];exact nL _);rw[List.take_zero,List.append_nil,List.take_append_of_le_length (by rw[l2];exact nL _),e2,<-List.drop_drop,List.drop_append_of_le_length (by rw[l2];exact nL _),e1,List.nil_append,List.drop_replicate,Nat.sub_zero]
end Go.Proofs.Wd
namespace Go.Proofs.YtjcppbhgjchjaaaGreatDoor
open Go.RowKit Go.Proofs.Fd Go.Proofs.Hs Go.Proofs.Cc Go.Proofs.Wd
theorem zvT (w:Wo) (b o n cap:Nat) (s:Ba) (m:Nat) (hm:Nat.min s.size n=m)
  (hc:∀j,j < n->(w.cell? ⟨b,o+j,none⟩).isSome=true) (hf:∀j,j < n->w.frozen? ⟨b,o+j,none⟩=false) :
  (Builtin.copy_ #[99, 9] 3 #[.slice (some ⟨b,o,none⟩) n cap,.string s]).run Tryz.prog w = .ok (.int .i64 (m:Int)) (w.setCells b o ((s.data.toList.take m).map fun x=>Value.int .u8 (x.toNat:Int))):=by
 have hmn:m<=n:=by rw[<-hm];exact Nat.min_le_right _ _
 have hms:m<=s.size:=by rw[<-hm];exact Nat.min_le_left _ _
 have hl:((s.data.toList.take m).map fun x=>Value.int .u8 (x.toNat:Int)).length=m:=by
  rw[List.length_map,List.length_take];have:s.data.toList.length=s.size:=by simp
  omega
 have hst:=run_storeCells_cells (P:=Tryz.prog) b o ((s.data.toList.take m).map fun x=>Value.int .u8 (x.toNat:Int)) 0 w
  (by rw[hl];intro j hj;simpa using hc j (by omega)) (by rw[hl];intro j hj;have:=hf j (by omega);simp)
  (by intro v hv;obtain⟨x,_,rfl⟩:=List.mem_map.1 hv;rfl)
 simp[Builtin.copy_,run_underlying Tryz.underlying99, Builtin.lenOf,Builtin.firstCells,hm];rw[<-List.map_take,hst];rfl
theorem BytesAt.wcopied {w:Wo} {b:Nat} {l:List UInt8} (h:BytesAt w b l) (o:Nat) (xs:List UInt8) (hx:o+xs.length<=l.length) :
  BytesAt (w.setCells b o (xs.map fun x=>Value.int .u8 (x.toNat:Int))) b (l.take o++xs++l.drop (o+xs.length)):=fun j hj=>by
 have hj':j < l.length:=by rw[List.length_append,List.length_append,List.length_take,List.length_drop] at hj;omega
 obtain⟨h0,h1⟩:=h j hj';refine⟨?_,by rw[World.frozen?_setCells];exact h1⟩;have key:=List.getElem?_eq_getElem hj;generalize (l.take o++xs++l.drop (o+xs.length))[j]=v at key ⊢;by_cases hlo:j < o
 ·rw[World.cell?_setCells_out b _ o w _ (fun _ _ => .inl hlo),h0]
  rw[List.append_assoc,List.getElem?_append_left (by rw[List.length_take];omega),List.getElem?_take_of_lt hlo,List.getElem?_eq_getElem hj'] at key;rw[Option.some.inj key]
 ·by_cases hhi:j < o+xs.length
  ·have hx2:j - o < xs.length:=by omega
   have:=World.cell?_setCells_in b (xs.map fun x=>Value.int .u8 (x.toNat:Int)) o w (fun i hi=>by
    rw[List.length_map] at hi;rw[(h (o+i) (by omega)).1];rfl) (j - o) (by rw[List.length_map];exact hx2)
   rw[show o+(j - o)=j by omega] at this;rw[List.append_assoc,List.getElem?_append_right (by rw[List.length_take];omega),List.length_take,Nat.min_eq_left (by omega),List.getElem?_append_left hx2,List.getElem?_eq_getElem hx2] at key;rw[this,List.getElem_map,Option.some.inj key]
  ·rw[World.cell?_setCells_out b _ o w _ (fun _ _ => .inr (by rw[List.length_map];show o+xs.length<=j;omega)),h0]
   rw[List.getElem?_append_right (by rw[List.length_append,List.length_take];omega),List.length_append,List.length_take,Nat.min_eq_left (by omega),List.getElem?_drop,show o+xs.length+(j - (o+xs.length))=j by omega,List.getElem?_eq_getElem hj'] at key;rw[Option.some.inj key]
theorem zul (t : Ba) (y : Int) (hy : y = (t.size : Int) % 256) (n : Nat) (w : Wo) (h0 : 64 <= n) (h1 : t.size + 34 <= n) (h2 : n <= 8192) : ∃ A E F : Wo, (Instr.makeSlice 99 (.int .i64 (n : Int)) (.int .i64 (n : Int))).run Tryz.prog w = .ok (.slice (some ⟨w.heap.size, 0, none⟩) n n) A
        /\ (∃v,A.cell? ⟨w.heap.size,32,none⟩=some v/\A.frozen? ⟨w.heap.size,32,none⟩=false)/\(∃v,A.cell? ⟨w.heap.size,33,none⟩=some v/\A.frozen? ⟨w.heap.size,33,none⟩=false)
        /\ (A.setCell ⟨w.heap.size,32,none⟩ (.int .u8 ((t.size:Int) / 256))).setCell ⟨w.heap.size,33,none⟩ (.int .u8 y)=E
        /\ (Builtin.copy_ #[99, 9] 3 #[.slice (some ⟨w.heap.size,34,none⟩) (n - 34) (n - 34),.string t]).run Tryz.prog E = .ok (.int .i64 (t.size:Int)) F
        /\ BytesAt F w.heap.size (zfU t.data.toList n)/\Bw w F:=by
      obtain⟨A,CA,BA,bA,sA⟩:=zwU n (by omega) w;have lt:t.data.toList.length=t.size:=zcg t;have BE:=(BA.set 32 (UInt8.ofNat (t.data.toList.length / 256)) ((t.size:Int) / 256) (by rw[UInt8.toNat_ofNat',lt];omega)).set 33 (UInt8.ofNat t.data.toList.length) y (by rw[UInt8.toNat_ofNat',lt];omega);rw[zvM _ n (by omega)] at BE;have lE:(pln t.data.toList n 0).length=n:=zwz _ _ _ (Nat.zero_le _) (by omega);have CP:=zvT ((A.setCell ⟨w.heap.size,32,none⟩ (.int .u8 ((t.size:Int) / 256))).setCell ⟨w.heap.size,33,none⟩ (.int .u8 y)) w.heap.size 34 (n - 34) (n - 34) t t.size (Nat.min_eq_left (by omega)) (fun j hj=>by rw[(BE (34+j) (by omega)).1];rfl) (fun j hj=>(BE (34+j) (by omega)).2);rw[List.take_of_length_le (by rw[lt];exact nL _)] at CP;have BF:=BE.wcopied 34 t.data.toList (by omega);rw[zuk] at BF;exact⟨A,_,_,CA,BA.some 32 (by rw[List.length_replicate];omega),BA.some 33 (by rw[List.length_replicate];omega),rfl,CP,BF,below_setCells (nL _) _ _ _ ((bA.setCell (p:=⟨w.heap.size,32,none⟩) (nL _) _).setCell (p:=⟨w.heap.size,33,none⟩) (nL _) _)⟩
theorem zwD (key t:Ba) (n:Int) (h:Hid (zso n≠0)) (w:Wo) :
  Cl 186 #[.string key,.string t,.int .i64 n] w fun e w'=>e = .returned (.tuple #[.string ⟨#[]⟩,.int .i64 (zso n)])/\Bw w w':=by
 have WR:Hid (∀w,Cl 260 #[.int .i64 n] w fun e w'=>e = .returned (.int .i64 (zso n))/\w'=w):=fun w=>zsm n w
 obtain⟨e0,he⟩:∃e0,zso n=e0:=⟨_,rfl⟩;rw[he] at WR h ⊢;have hne:¬e0=0:=h.out;clear he h;go_enter Tryz.func186, Tryz.ntmps186;go_wp2_with fail;refine cM (WR.out _) ?_;rintro e w1 ⟨rfl,hw1⟩;have hw2:=hw1.symm;subst hw2;clear WR hw1;go_wp2;go_ret2;exact⟨rfl,bQ _ _⟩
theorem zu4 (key t:Ba) (n:Nat) (h0:64<=n) (h1:n<=8192) (ht:n < t.size+34) (w:Wo) :
  Cl 186 #[.string key,.string t,.int .i64 (n:Int)] w fun e w'=>e = .returned (.tuple #[.string ⟨#[]⟩,.int .i64 2])/\Bw w w':=by
 have WR:Hid (∀w,Cl 260 #[.int .i64 (n:Int)] w fun e w'=>e = .returned (.int .i64 0)/\w'=w):=fun w=>by
  have h:=zsm (n:Int) w;rw[zsp _ (by omega) (by omega)] at h;exact h
 have g1:(n:Int) - 34 < (t.size:Int):=by omega
 have g2:IntKind.i64.wrap ((n:Int) - 34)=(n:Int) - 34:=by rw[IntKind.wrap_i64];omega
 go_enter Tryz.func186, Tryz.ntmps186;go_wp2_with fail;refine cM (WR.out _) ?_;rintro e w1 ⟨rfl,hw1⟩;have hw2:=hw1.symm;subst hw2;clear WR hw1;go_wp2;go_ret2;exact⟨rfl,bQ _ _⟩
theorem zwE (key t:Ba) (n:Nat) (h0:64<=n) (h1:n<=8192) (ht:t.size+34<=n) (hk:Hid (key.size+64<=140737488355328)) (w:Wo) (hK:Hid (Kh w)) :
  Cl 186 #[.string key,.string t,.int .i64 (n:Int)] w fun e w'=>e = .returned (.tuple #[.string ⟨(zmM key.data.toList (zfU t.data.toList n)).toArray⟩,.int .i64 0])/\Bw w w':=by
 have WR:Hid (∀w,Cl 260 #[.int .i64 (n:Int)] w fun e w'=>e = .returned (.int .i64 0)/\w'=w):=fun w=>by
  have h:=zsm (n:Int) w;rw[zsp _ (by omega) (by omega)] at h;exact h
 obtain⟨P,hP⟩:∃P:Ba,P=⟨(zfU t.data.toList n).toArray⟩:=⟨_,rfl⟩;have lp:(zfU t.data.toList n).length=n:=zgJ _ _ (by rw[zcg];exact ht);obtain⟨X,hX⟩:∃X:Ba,⟨(zmM key.data.toList (zfU t.data.toList n)).toArray⟩=X:=⟨_,rfl⟩;have SH:Hid (∀w,Kh w->Cl 187 #[.string key,.string P] w fun e w'=>e = .returned (.tuple #[.string X,.int .i64 0])/\Bw w w'):=fun w h=>by
  have sP:P.size=n:=by rw[hP,zko,lp]
  have:=zu1 key P (by omega) (by omega) hk w h;rw[hP] at this ⊢;rw[<-hX];exact this
 rw[hX];obtain⟨A,E,F,CA,⟨v32,c32,f32⟩,⟨v33,c33,f33⟩,hE,CP,BF,bF⟩:=zul t ((t.size:Int) % 256) rfl n w h0 ht h1;have CF:(convert 99 9 (.slice (some ⟨w.heap.size,0,none⟩) n n)).run Tryz.prog F = .ok (.string P) F:=by
  rw[hP];exact BF.string (cap:=n) lp
 have BF1:Hid (Bw w F/\Kh F):=⟨bF,hK.out.later bF⟩;have g1:¬(n:Int) - 34 < (t.size:Int):=by omega
 have g2:IntKind.i64.wrap ((n:Int) - 34)=(n:Int) - 34:=by rw[IntKind.wrap_i64];omega
 have z1:(32:Int) < (n:Int):=by omega
 have z2:(33:Int) < (n:Int):=by omega
 have z3:(34:Int)<=(n:Int):=by omega
 have z4:¬n=34:=by omega
 have z5:¬n<=34:=by omega
 have z6:IntKind.u8.wrap ((t.size:Int) / 256)=(t.size:Int) / 256:=by rw[IntKind.wrap_u8];omega
 have z7:IntKind.u8.wrap (t.size:Int)=(t.size:Int) % 256:=by rw[IntKind.wrap_u8]
 have z8:(t.size:Int) / 256 % 256=(t.size:Int) / 256:=by omega
 clear hX hP lp BF bF;go_enter Tryz.func186, Tryz.ntmps186;go_wp2_with fail;refine cM (WR.out _) ?_;rintro e w1 ⟨rfl,hw1⟩;have hw2:=hw1.symm;subst hw2;clear WR hw1;go_wp2_with fail;refine cM (SH.out _ BF1.out.2) ?_;rintro e w2 ⟨rfl,hb2⟩;have B2:Hid (Bw w w2):=chain BF1.out.1 hb2;clear hb2 SH CP CA CF c32 f32 c33 f33 hE;go_wp2;go_ret2;exact⟨rfl,B2.out⟩
theorem zw9:zvP:=fun k t n w hk _ hK=>by
 by_cases h:zso n=0
 ·obtain⟨h1,h2⟩:=zsK _ h
  obtain⟨m,rfl⟩:∃m:Nat,n=(m:Int):=⟨n.toNat,by omega⟩;by_cases ht:t.size+34<=m
  ·rw[zwd k t m (by omega) (by omega) ht]
   exact zwE k t m (by omega) (by omega) ht hk w hK
  ·unfold wrV
   rw[if_pos h,if_pos (by omega)];exact zu4 k t m (by omega) (by omega) (by omega) w
 ·unfold wrV
  rw[if_neg h];exact zwD k t n h w
theorem zu5 (key b:Ba) (h:Hid (zso (b.size:Int)≠0)) (w:Wo) :
  Cl 244 #[.string key,.string b] w fun e w'=>e = .returned (.tuple #[.string ⟨#[]⟩,.int .i64 (zso (b.size:Int))])/\Bw w w':=by
 have OP:Hid (∀w,Cl 243 #[.string key,.string b] w fun e w'=>e = .returned (.tuple #[.string ⟨#[]⟩,.int .i64 (zso (b.size:Int))])/\Bw w w'):=fun w=>zu3 key b h w
 obtain⟨e0,he⟩:∃e0,zso (b.size:Int)=e0:=⟨_,rfl⟩;rw[he] at OP h ⊢;have hne:¬e0=0:=h.out;clear he h;go_enter Tryz.func244, Tryz.ntmps244;go_wp2_with fail;refine cM (OP.out _) ?_;rintro e w1 ⟨rfl,hb1⟩;have B1:Hid (Bw w w1):=hb1;clear OP hb1;go_wp2;go_ret2;exact⟨rfl,B1.out⟩
theorem ztP (x:Ba) (a b:Nat):(x.extract a b).data.toList=(x.data.toList.drop a).take (b - a):=by
 have e:x=⟨x.data.toList.toArray⟩:=ztL rfl;rw[e,zoU]
theorem zum (X:Ba) (c d:UInt8) (p:Nat) (hc:X.data.toList.getD 32 0=c) (hd:X.data.toList.getD 33 0=d) (hp:34+c.toNat*256+d.toNat=p) :
  ((X.extract 0 32).data.toList.all (· == 0)=false->zgK X.data.toList=none)/\(X.size < p->zgK X.data.toList=none)/\((X.extract p X.size).data.toList.all (· == 0)=false->p<=X.size->zgK X.data.toList=none)
  /\ ((X.extract 0 32).data.toList.all (· == 0)=true->p<=X.size->(X.extract p X.size).data.toList.all (· == 0)=true->zgK X.data.toList=some (X.extract 34 p).data.toList):=by
 have hl:X.data.toList.length=X.size:=zcg X;have ht:34+zqF X.data.toList=p:=by unfold zqF;rw[hc,hd];omega
 have e1:(X.extract 0 32).data.toList=X.data.toList.take 32:=by rw[ztP];simp
 have e2:(X.extract p X.size).data.toList=X.data.toList.drop (34+zqF X.data.toList):=by
  rw[ztP,ht,List.take_of_length_le (by rw[List.length_drop,hl];exact nL _)]
 have e3:(X.extract 34 p).data.toList=(X.data.toList.drop 34).take (zqF X.data.toList):=by
  rw[ztP,<-ht,show 34+zqF X.data.toList - 34=zqF X.data.toList by omega]
 rw[e1,e2,e3];unfold zgK;refine⟨fun h=>if_neg fun g => ?_,fun h=>if_neg fun g => ?_,fun h _=>if_neg fun g => ?_,fun h1 h2 h3=>if_pos ⟨h1,by omega,h3⟩⟩
 ·rw[h] at g;exact absurd g.1 (by decide)
 ·have:=g.2.1;omega
 ·rw[h] at g;exact absurd g.2.2 (by decide)
theorem zu6 (key b:Ba) (hb:64<=b.size) (hb2:b.size<=8192) (hk:Hid (key.size+64<=140737488355328)) (w:Wo) (hK:Hid (Kh w)) :
  Cl 244 #[.string key,.string b] w fun e w'=>e = .returned (.tuple (uwV key b))/\Bw w w':=by
 obtain⟨X,hX⟩:∃X:Ba,⟨(zb4 key.data.toList b.data.toList).toArray⟩=X:=⟨_,rfl⟩;have sX:X.size=b.size:=by rw[<-hX,zko,zhZ _ _ (by rw[zcg];omega),zcg]
 have dX:zb4 key.data.toList b.data.toList=X.data.toList:=by rw[<-hX]
 have OP:Hid (∀w,Kh w->Cl 243 #[.string key,.string b] w fun e w'=>e = .returned (.tuple #[.string X,.int .i64 0])/\Bw w w'):=fun w h=>by
  rw[<-hX];exact zu2 key b hb hb2 hk w h
 have BL:Hid (∀(s:Ba) (w:Wo),s.size<=8192->Cl 305 #[.string s] w fun e w'=>e = .returned (.bool (s.data.toList.all (· == 0)))/\w'=w):=fun s w h=>zuV s (by omega) w
 have UW:Hid ((∀t,zgK X.data.toList=some t->uwV key b=#[.string ⟨t.toArray⟩,.int .i64 0])/\(zgK X.data.toList=none->uwV key b=#[.string ⟨#[]⟩,.int .i64 90])):=by
  rw[<-dX];exact⟨fun t h=>zt2 key b t hb hb2 h,fun h=>zt3 key b hb hb2 h⟩
 clear hX dX;have l32:32 < X.size:=by omega
 have l33:33 < X.size:=by omega
 obtain⟨c,hc⟩:∃c,X[32]=c:=⟨_,rfl⟩;obtain⟨d,hd⟩:∃d,X[33]=d:=⟨_,rfl⟩;obtain⟨p,hp⟩:∃p,34+c.toNat*256+d.toNat=p:=⟨_,rfl⟩;have TC:Hid (_/\_):=zum X c d p (by rw[List.getD_eq_getElem?_getD,List.getElem?_eq_getElem (by simpa using l32),<-hc];rfl) (by rw[List.getD_eq_getElem?_getD,List.getElem?_eq_getElem (by simpa using l33),<-hd];rfl) hp;have z32:(32:Int) < (X.size:Int):=by omega
 have z33:(33:Int) < (X.size:Int):=by omega
 have pz:34+(c.toNat:Int)*256+(d.toNat:Int)=(p:Int):=by omega
 have SX:Hid (64<=X.size/\X.size<=8192):=by show _/\_;omega
 go_enter Tryz.func244, Tryz.ntmps244;go_wp2_with fail;refine cM (OP.out _ hK.out) ?_;rintro e w1 ⟨rfl,hb1⟩;have B1:Hid (Bw w w1):=hb1;clear OP hb1;go_wp2_with fail;go_quiet (fail);have B2:Hid (Bw w (w1.drewN nq)):=below_drewN B1.out nq;clear B1;have EQ:wrap64 (wrap64 (34+wrap64 (wrap64 (c.toNat:Int)*256))+wrap64 (d.toNat:Int))=(p:Int):=by
  have:=c.toNat_lt;have:=d.toNat_lt;unfold wrap64;omega
 go_wp2_with fail;rw[EQ];clear EQ;have sE:∀a e,(X.extract a e).size<=8192:=fun a e=>by rw[ByteArray.size_extract];have:=SX.out;omega
 obtain⟨v1,q1⟩:∃v,(X.extract 0 32).data.toList.all (fun x=>x == 0)=v:=⟨_,rfl⟩;obtain⟨v2,q2⟩:∃v,(X.extract p X.size).data.toList.all (fun x=>x == 0)=v:=⟨_,rfl⟩;have BA:Hid (∀w,Cl 305 #[.string (X.extract 0 32)] w fun e w'=>e = .returned (.bool v1)/\w'=w):=fun w=>by rw[<-q1];exact BL.out _ w (sE _ _)
 have BB:Hid (∀w,Cl 305 #[.string (X.extract p X.size)] w fun e w'=>e = .returned (.bool v2)/\w'=w):=fun w=>by rw[<-q2];exact BL.out _ w (sE _ _)
 have TD:Hid ((v1=false->zgK X.data.toList=none)/\(X.size < p->zgK X.data.toList=none)/\(v2=false->p<=X.size->zgK X.data.toList=none)/\(v1=true->p<=X.size->v2=true->zgK X.data.toList=some (X.extract 34 p).data.toList)):=by
  rw[<-q1,<-q2];exact TC.out
 clear q1 q2 sE BL TC sX;refine cM (BA.out _) ?_;rintro e w2 ⟨rfl,rfl⟩;have s1:34<=p:=by omega
 have s2:(34:Int)<=(p:Int):=by omega
 have s3:(X.size:Int)<=8192:=by have:=SX.out;omega
 clear hc hd pz hp;cases v1 with
 | false =>
  have E:Hid (uwV key b=_):=UW.out.2 (TD.out.1 rfl);go_wp2;go_ret2;exact⟨by rw[E.out];rfl,B2.out⟩
 | true =>
  by_cases hp:p<=X.size
  ·have g1:¬(X.size:Int) < (p:Int):=by omega
   have g2:(p:Int)<=(X.size:Int):=by omega
   go_wp2_with fail;refine cM (BB.out _) ?_;rintro e w2 ⟨rfl,rfl⟩;cases v2 with
   | false =>
    have E:Hid (uwV key b=_):=UW.out.2 (TD.out.2.2.1 rfl hp);go_wp2;go_ret2;exact⟨by rw[E.out];rfl,B2.out⟩
   | true =>
    have E:Hid (uwV key b=#[.string (X.extract 34 p),.int .i64 0]):=UW.out.1 _ (TD.out.2.2.2 (by simp) hp (by simp));go_wp2;go_ret2;exact⟨by rw[E.out];rfl,B2.out⟩
  ·have g1:(X.size:Int) < (p:Int):=by omega
   have E:Hid (uwV key b=_):=UW.out.2 (TD.out.2.1 (by omega));go_wp2;go_ret2;exact⟨by rw[E.out];rfl,B2.out⟩
theorem zvU:zuU:=fun k b w hk _ hK=>by
 by_cases h:zso (b.size:Int)=0
 ·obtain⟨h1,h2⟩:=zsK _ h
  exact zu6 k b (by omega) (by omega) hk w hK
 ·unfold uwV
  rw[if_neg h];exact zu5 k b h w
end Go.Proofs.YtjcppbhgjchjaaaGreatDoor
