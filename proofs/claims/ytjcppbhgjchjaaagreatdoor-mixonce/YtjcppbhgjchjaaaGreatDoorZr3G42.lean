/- A part of the walk. -/
import Derived.Test.YtjcppbhgjchjaaaGreatDoorZr3G41
set_option maxHeartbeats 8000000
set_option maxRecDepth 20000
namespace Go.Proofs.YtjcppbhgjchjaaaGreatDoor
open Go.RowKit Go.Proofs.Fd Go.Proofs.Hs Go.Proofs.Cc Go.Proofs.Hd Go.Proofs.Rt
def Had (w W:Wo) (seed:Ba) (k:Nat) (ss:List Ba) (v6 v7:Value):Prop :=
 W.ownsRow w.heap.size 208 6 v6 k (zse ss)/\W.ownsRow w.heap.size 9 1 v7 (k+1) (zbb (seed::ss.map bld))/\Bw w W
theorem Had.later {w W W':Wo} {seed:Ba} {k:Nat} {ss:List Ba} {v6 v7:Value} (h:Had w W seed k ss v6 v7) (hb:Bw W W'):Had w W' seed k ss v6 v7:=⟨zsl h.1 hb,zsl h.2.1 hb,chain h.2.2 hb⟩
theorem zwh {w:Wo} {base:Nat} {e:TypeId} {size:Nat} {v:Value} {n:Nat} {xs:List Value} (h:w.ownsRow base e size v n xs):v.ownBlock≠some w.heap.size:=fun he=>by
 rcases h.2 with ⟨rfl,-⟩|⟨g,cap,cur,rfl,-,hg,-⟩
 ·cases he
 ·have:g=w.heap.size:=by simpa[Value.ownBlock] using he
  have:=(Array.getElem?_eq_some_iff.1 hg).1;omega
theorem zst {w w':Wo} {g:Nat} {v:Value} {k0 k1 k2 k3 k4 k5:Ba} (h:Six w g k0 k1 k2 k3 k4 k5) (hg:w.grownBy w' v.ownBlock) (hne:v.ownBlock≠some g):Six w' g k0 k1 k2 k3 k4 k5:=by
 have hb:=hg.block g h.lt (fun q=>hne q.symm);obtain⟨f,h0,h1,h2,h3,h4,h5⟩:=h;exact⟨fun o=>(World.frozen?_of_block (a:=⟨g,o,none⟩) hb).trans (f o),(World.cell?_of_block (a:=⟨g,0,none⟩) hb).trans h0,(World.cell?_of_block (a:=⟨g,1,none⟩) hb).trans h1,(World.cell?_of_block (a:=⟨g,2,none⟩) hb).trans h2,(World.cell?_of_block (a:=⟨g,3,none⟩) hb).trans h3,(World.cell?_of_block (a:=⟨g,4,none⟩) hb).trans h4,(World.cell?_of_block (a:=⟨g,5,none⟩) hb).trans h5⟩
def ChP (w w':Wo) (seed:Ba) (pts:List Ba) (n:Nat) (e:Ending):Prop :=
 (zpb seed pts []=none->e = .returned (.tuple #[.slice none 0 0,.int .i64 20]))/\(∀ss,zpb seed pts []=some ss->∃v,e = .returned (.tuple #[v,.int .i64 0])/\w'.ownsRow w.heap.size 208 6 v n (zse ss))/\Bw w w'
theorem ztT (seed:Ba) (zs:Hid (seed.size=32)) (a:Option Addr) (pts:List Ba) (n cap:Nat) (hn:Hid (pts.length=n)) (h5:n<=5) (hw:Hid (Crv.wh pts=true)) (w:Wo) (hK:Hid (Kh w)) (hc:Hid (StrAt w a pts)) :
  Cl 103 #[.string seed,.slice a n cap] w fun e w'=>ChP w w' seed pts n e:=by
 obtain⟨i6,hi6,hz60,hz61,hz62⟩:=info_parts zxf;obtain⟨i7,hi7,hz70,hz71,hz72⟩:=info_parts zeX;go_enter Tryz.func103, Tryz.ntmps103;go_wp2_with fail;have H0:Hid (Had w (w.alloc (.cells #[.string seed] 9)) seed 0 [] (.slice none 0 0) (.slice (some ⟨w.heap.size,0,none⟩) 1 1)) :=
  ⟨⟨rfl,.inl ⟨rfl,rfl⟩⟩,zv5 w w.heap.size 9 1 [.string seed] (nL _) rfl,(bQ _ _).alloc (nL _) _⟩
 go_loopw [6,7,17] (fun v6 v7 iv wr=>∃(k:Nat) (ss:List Ba),k<=n/\iv = .int .i64 (k:Int)/\Hid (ztC seed pts k ss/\Had w wr seed k ss v6 v7)) (fun _ _ iv _=>n - (intOf iv).toNat)
 case atStart=>exact⟨0,[],Nat.zero_le _,rfl,ztC.zero _ _,H0.out⟩
 case round =>
  obtain⟨k,ss,hk,rfl,I⟩:=hrel;clear H0;by_cases hlt:k < n
  ·have g1:(k:Int) < (n:Int):=by omega
   have hk':k < pts.length:=by have:=hn.out;omega
   obtain⟨b,o,rfl,hcell⟩:=StrAt.later hc.out I.out.2.2.2 rfl k hk';obtain⟨p,hp⟩:∃p,pts[k]=p:=⟨_,rfl⟩;rw[hp] at hcell;have zp:Hid (p.size=32):=by rw[<-hp];exact Crv.wh_mem hw.out k hk'
   obtain⟨g7,c7,hv7,hst⟩:∃g c,u7=Value.slice (some ⟨g,0,none⟩) (k+1) c/\StrAt wr (some ⟨g,0,none⟩) (seed::ss.map bld):=by
    obtain⟨-,hor⟩:=zhO I.out.2.2.1;rcases hor with ⟨e1,e2⟩|⟨g,c,e1,e2⟩
    ·omega
    ·exact⟨g,c,e1,e2⟩
   subst hv7;have lss:ss.length=k:=I.out.1.1;have CH:Hid (Cl 178 #[.string p,.slice (some ⟨g7,0,none⟩) (k+1) c7] wr fun e w'=>e = .returned (.tuple (Crv.och (Crv.chn (seed::ss.map bld) p)))/\Below wr.heap.size wr w') :=
    Crv.Chain_walk p zp.out (some ⟨g7,0,none⟩) (seed::ss.map bld) (k+1) c7 (by show (seed::ss.map bld).length=k+1;simp[lss]) (by omega) (zwM seed ss zs.out) wr hst
   clear hst lss;cases hch:Crv.chn (seed::ss.map bld) p with
   | none =>
    have FN:Hid (zpb seed pts []=none):=I.out.1.none hk' (by rw[hp];exact hch);rw[hch] at CH;have CH':Hid (Cl 178 #[.string p,.slice (some ⟨g7,0,none⟩) (k+1) c7] wr fun e w'=>e = .returned (.tuple #[.string ⟨#[]⟩,.int .i64 20])/\Below wr.heap.size wr w'):=CH;clear CH hch hp;go_wp2_with fail;refine cM CH'.out ?_;rintro e w1 ⟨rfl,hb1⟩;have B1:Hid (Below w.heap.size w w1):=chain I.out.2.2.2 hb1;clear hb1 CH';go_wp2;go_ret2;exact⟨fun _=>rfl,fun ss h=>by rw[FN.out] at h;(cases h),B1.out⟩
   | some s =>
    have FS:Hid (ztC seed pts (k+1) (ss++[s])):=I.out.1.succ hk' s (by rw[hp];exact hch);have zs':Hid (s.size+64<=140737488355328):=by
     have:=Crv.chn_size _ _ _ zp.out hch;show s.size+64<=_
     omega
    rw[hch] at CH;have CH':Hid (Cl 178 #[.string p,.slice (some ⟨g7,0,none⟩) (k+1) c7] wr fun e w'=>e = .returned (.tuple #[.string s,.int .i64 0])/\Below wr.heap.size wr w'):=CH;have KO:Hid (∀w,Kh w->Cl 179 #[.string s] w fun e w'=>e = .returned (hk6 s)/\Below w.heap.size w w'):=fun w h=>ztb s zs'.out w h
    unfold hk6 at KO;have KS:Hid (zse (ss++[s])=zse ss++zvg s/\zbb (seed::(ss++[s]).map bld)=zbb (seed::ss.map bld)++[.string (bld s)]):=⟨ztS ss s,by simp[zbb]⟩;unfold zvg at KS;clear CH hch hp;go_wp2_with fail;refine cM CH'.out ?_;rintro e w1 ⟨rfl,hb1⟩;have J1:Hid (Had w w1 seed k ss u6 (.slice (some ⟨g7,0,none⟩) (k+1) c7)):=I.out.2.later hb1;clear hb1 CH' I hcell;go_wp2_with fail;refine cM (KO.out _ (hK.out.later J1.out.2.2)) ?_;rintro e w2 ⟨rfl,hb2⟩;have J2:Hid (Had w w2 seed k ss u6 (.slice (some ⟨g7,0,none⟩) (k+1) c7)):=J1.out.later hb2;clear hb2 J1 KO zs';obtain⟨k1,hk1⟩:∃x,hdk s zo9 32=x:=⟨_,rfl⟩;obtain⟨k2,hk2⟩:∃x,hdk s zr8 32=x:=⟨_,rfl⟩;obtain⟨k3,hk3⟩:∃x,hdk s zpa 32=x:=⟨_,rfl⟩;obtain⟨k4,hk4⟩:∃x,bld s=x:=⟨_,rfl⟩;obtain⟨k5,hk5⟩:∃x,hdk s zqe 16=x:=⟨_,rfl⟩;rw[hk1,hk2,hk3,hk4,hk5] at KS;rw[hk1,hk2,hk3,hk4,hk5];clear hk1 hk2 hk3 hk4 hk5;go_wp2_with fail;obtain⟨A,hA⟩:∃A,w2.alloc (.cells #[.string s,.string k1,.string k2,.string k3,.string k4,.string k5] 208)=A:=⟨_,rfl⟩;have J3:Hid (Six A w2.heap.size s k1 k2 k3 k4 k5/\Had w A seed k ss u6 (.slice (some ⟨g7,0,none⟩) (k+1) c7)):=by
     rw[<-hA];exact⟨Six.new _ _ _ _ _ _ _ _,J2.out.later ((bQ _ _).alloc (nL _) _)⟩
    rw[hA];have HDJ:u6.ownBlock≠some w2.heap.size/\(Value.slice (some ⟨g7,0,none⟩) (k+1) c7).ownBlock≠some w2.heap.size:=⟨zwh J2.out.1,zwh J2.out.2.1⟩;have HS0:Six A.drew w2.heap.size s k1 k2 k3 k4 k5:=J3.out.1;clear hA J2;generalize w2.heap.size=g12 at *
    -- REGION
    have DJ:Hid (u6.ownBlock≠some g12/\(Value.slice (some ⟨g7,0,none⟩) (k+1) c7).ownBlock≠some g12):=HDJ;have hHeld1:Six A.drew g12 s k1 k2 k3 k4 k5:=J3.out.1;have R0:Hid (A.drew.ownsRow w.heap.size 208 6 u6 k (zse ss)/\A.drew.ownsRow w.heap.size 9 1 (.slice (some ⟨g7,0,none⟩) (k+1) c7) (k+1) (zbb (seed::ss.map bld))/\Below w.heap.size w A.drew):=⟨J3.out.2.1,J3.out.2.2.1,J3.out.2.2.2.drew⟩;clear J3 HDJ hHeld1;refine wp_region_noPanic ?_;refine wp_region_held_drew (S:=fun w'=>Six w' g12 s k1 k2 k3 k4 k5) (by kernel_rfl) HS0 (fun hHeld => ?_);refine wpAnyH_take (i:=0) (oi:={ dst:=some 32,op := .move (.tmp 6),type := 202, pos := "head.go:96", after:=#[],guard:=none }) (v := ?_) rfl (by kernel_rfl) (by kernel_rfl) (by kernel_rfl) (fun _ _ _ h=>h) (Or.inl ⟨by rfl,?_⟩) (by assumption) ?_
    rotate_left
    ·intro w' hSw
     first
     | (go_simp;done)
     | (go_simp;with_reducible rfl)
    simp only[Act.put,wA,wB,wC];refine wpAnyH_take (i:=1) (oi:={ dst:=some 33,op := .load 208 (.tmp 12),type := 208, pos := "head.go:96", after:=#[],guard:=none }) (v := ?_) rfl (by kernel_rfl) (by kernel_rfl) (by kernel_rfl) (fun _ _ _ h=>h) (Or.inl ⟨by rfl,?_⟩) (by assumption) ?_
    rotate_left
    ·intro w' hSw
     obtain⟨-,q0,q1,q2,q3,q4,q5⟩:=hSw
     first
     | (go_simp;done)
     | (go_simp;with_reducible rfl)
    simp only[Act.put,wA,wB,wC];refine wpAnyH_take (i:=4) (oi:={ dst:=some 36,op := .move (.tmp 7),type := 25, pos := "head.go:96", after:=#[],guard:=none }) (v := ?_) rfl (by kernel_rfl) (by kernel_rfl) (by kernel_rfl) (fun _ _ _ h=>h) (Or.inl ⟨by rfl,?_⟩) (by assumption) ?_
    rotate_left
    ·intro w' hSw
     first
     | (go_simp;done)
     | (go_simp;with_reducible rfl)
    simp only[Act.put,wA,wB,wC];refine wpAnyH_take (i:=5) (oi:={ dst:=some 37,op := .fieldAddr 208 (.tmp 12) 1,type:=0,pos := "head.go:96", after:=#[],guard:=none }) (v := ?_) rfl (by kernel_rfl) (by kernel_rfl) (by kernel_rfl) (fun _ _ _ h=>h) (Or.inl ⟨by rfl,?_⟩) (by assumption) ?_
    rotate_left
    ·intro w' hSw
     first
     | (go_simp;done)
     | (go_simp;with_reducible rfl)
    simp only[Act.put,wA,wB,wC];refine wpAnyH_take (i:=6) (oi:={ dst:=some 38,op := .fieldAddr 144 (.tmp 37) 3,type:=0,pos := "head.go:96", after:=#[eD 5],guard:=none }) (v := ?_) rfl (by kernel_rfl) (by kernel_rfl) (by kernel_rfl) (fun _ _ _ h=>h) (Or.inl ⟨by rfl,?_⟩) (by assumption) ?_
    rotate_left
    ·intro w' hSw
     first
     | (go_simp;done)
     | (go_simp;with_reducible rfl)
    simp only[Act.put,wA,wB,wC];refine wpAnyH_take (i:=7) (oi:={ dst:=some 39,op := .load 9 (.tmp 38),type := 9, pos := "head.go:96", after:=#[eD 6],guard:=none }) (v := ?_) rfl (by kernel_rfl) (by kernel_rfl) (by kernel_rfl) (fun _ _ _ h=>h) (Or.inl ⟨by rfl,?_⟩) (by assumption) ?_
    rotate_left
    ·intro w' hSw
     obtain⟨-,q0,q1,q2,q3,q4,q5⟩:=hSw
     first
     | (go_simp;done)
     | (go_simp;with_reducible rfl)
    simp only[Act.put,wA,wB,wC];obtain⟨D,hD⟩:∃D,A.drew=D:=⟨_,rfl⟩;rw[hD] at R0 hHeld;rw[hD];clear hD;refine wpAnyH_ready (rs:=[2,8]) (by kernel_rfl) (by simp) ?_;refine AllReadyH.cons (o:={ dst:=some 34,op := .buildSlice 202 1 #[(0,Operand.tmp 33)],type := 202, pos := "head.go:96", after:=#[eD 1],guard:=none }) rfl (fun K hK => ?_) (AllReadyH.cons (o:={ dst:=some 40,op := .buildSlice 25 1 #[(0,Operand.tmp 39)],type := 25, pos := "head.go:96", after:=#[eD 7],guard:=none }) rfl (fun K hK => ?_) AllReadyH.nil)
    ·
     go_simp;have BA:Below D.heap.size D (D.alloc (.cells #[.string s,.string k1,.string k2,.string k3,.string k4,.string k5] 208)):=(bQ _ _).alloc (nL _) _;have HB:(D.alloc (.cells #[.string s,.string k1,.string k2,.string k3,.string k4,.string k5] 208)).heap[D.heap.size]?=some (.cells #[.string s,.string k1,.string k2,.string k3,.string k4,.string k5] 208):=zsz D _;refine hK.out _ _ (hHeld.later BA) (fun hHeld2 => ?_);clear hK K;obtain⟨X1,hX1⟩:∃W,D.alloc (.cells #[.string s,.string k1,.string k2,.string k3,.string k4,.string k5] 208)=W:=⟨_,rfl⟩;rw[hX1] at BA HB hHeld2;rw[hX1];have RX1:Hid (X1.ownsRow w.heap.size 208 6 u6 k (zse ss)/\X1.ownsRow w.heap.size 9 1 (.slice (some ⟨g7,0,none⟩) (k+1) c7) (k+1) (zbb (seed::ss.map bld))/\Below w.heap.size w X1):=⟨zsl R0.out.1 BA,zsl R0.out.2.1 BA,chain R0.out.2.2 BA⟩;obtain⟨tX1,htX1⟩:∃t,D.heap.size=t:=⟨_,rfl⟩;rw[htX1] at HB;rw[htX1];have b34X1:Hid (X1.heap[tX1]?=some (.cells #[.string s,.string k1,.string k2,.string k3,.string k4,.string k5] 208)):=HB;clear hX1 htX1 HB BA;refine wpAnyH_ready (rs:=[3,8]) (by kernel_rfl) (by simp) ?_
     refine AllReadyH.cons (o:={ dst:=some 35,op := .call { callee:=Callee.builtin Builtin.append,args:=#[Operand.tmp 32,Operand.tmp 34],argTypes:=#[202, 202] },type := 202, pos := "head.go:96", after:=#[eD 0,eD 2],guard:=none }) rfl (fun K hK => ?_) (AllReadyH.cons (o:={ dst:=some 40,op := .buildSlice 25 1 #[(0,Operand.tmp 39)],type := 25, pos := "head.go:96", after:=#[eD 7],guard:=none }) rfl (fun K hK => ?_) AllReadyH.nil)
     ·
      rw[if_pos (by kernel_rfl)];refine wp_append_own X1 (.tmp 32) (.tmp 34) 202 rfl w.heap.size 208 i6 _ 6 96 Tryz.underlying202 hi6 hz60 hz61 hz62 rfl (by decide) u6 k (zse ss) rfl RX1.out.1 ⟨tX1,0,none⟩ 1 1 [.string s,.string k1,.string k2,.string k3,.string k4,.string k5] rfl rfl (zsk b34X1.out) (by intro u hu;simp at hu;rcases hu with rfl|rfl|rfl|rfl|rfl|rfl <;> rfl) (by unfold maxLen;omega) (by omega) (by exact RX1.out.2.2.size) ?_;intro v6 X2 hown hgrow hnil;have SX:Six X2 g12 s k1 k2 k3 k4 k5:=zst hHeld2 hgrow DJ.out.1;have RX2:Hid (X2.ownsRow w.heap.size 208 6 v6 (k+1) (zse ss++[.string s,.string k1,.string k2,.string k3,.string k4,.string k5])/\X2.ownsRow w.heap.size 9 1 (.slice (some ⟨g7,0,none⟩) (k+1) c7) (k+1) (zbb (seed::ss.map bld))/\Below w.heap.size w X2):=⟨hown,zss RX1.out.2.1 RX1.out.1 (by decide) hgrow,RX1.out.2.2.grown hgrow RX1.out.2.2.size (fun j hj=>(RX1.out.1.lt j hj).1)⟩;refine hK.out _ _ SX (fun hHeld3 => ?_);clear hK K SX hown hgrow hnil;refine wpAnyH_ready (rs:=[8]) (by kernel_rfl) (by simp) ?_;refine AllReadyH.cons (o:={ dst:=some 40,op := .buildSlice 25 1 #[(0,Operand.tmp 39)],type := 25, pos := "head.go:96", after:=#[eD 7],guard:=none }) rfl (fun K hK => ?_) AllReadyH.nil;go_simp;have BA:Below X2.heap.size X2 (X2.alloc (.cells #[.string k4] 9)):=(bQ _ _).alloc (nL _) _
      have HB:(X2.alloc (.cells #[.string k4] 9)).heap[X2.heap.size]?=some (.cells #[.string k4] 9):=zsz X2 _;refine hK.out _ _ (hHeld3.later BA) (fun hHeld2 => ?_);clear hK K;obtain⟨X3,hX3⟩:∃W,X2.alloc (.cells #[.string k4] 9)=W:=⟨_,rfl⟩;rw[hX3] at BA HB hHeld2;rw[hX3];have RX3:Hid (X3.ownsRow w.heap.size 208 6 v6 (k+1) (zse ss++[.string s,.string k1,.string k2,.string k3,.string k4,.string k5])/\X3.ownsRow w.heap.size 9 1 (.slice (some ⟨g7,0,none⟩) (k+1) c7) (k+1) (zbb (seed::ss.map bld))/\Below w.heap.size w X3):=⟨zsl RX2.out.1 BA,zsl RX2.out.2.1 BA,chain RX2.out.2.2 BA⟩;obtain⟨tX3,htX3⟩:∃t,X2.heap.size=t:=⟨_,rfl⟩;rw[htX3] at HB;rw[htX3];have b40X3:Hid (X3.heap[tX3]?=some (.cells #[.string k4] 9)):=HB;clear hX3 htX3 HB BA;refine wpAnyH_ready (rs:=[9]) (by kernel_rfl) (by simp) ?_;refine AllReadyH.cons (o:={ dst:=some 41,op := .call { callee:=Callee.builtin Builtin.append,args:=#[Operand.tmp 36,Operand.tmp 40],argTypes:=#[25, 25] },type := 25, pos := "head.go:96", after:=#[eD 4,eD 8,eC 3],guard:=none }) rfl (fun K hK => ?_) AllReadyH.nil;rw[if_pos (by kernel_rfl)]
      refine wp_append_own X3 (.tmp 36) (.tmp 40) 25 rfl w.heap.size 9 i7 _ 1 16 Tryz.underlying25 hi7 hz70 hz71 hz72 rfl (by decide) (.slice (some ⟨g7,0,none⟩) (k+1) c7) (k+1) (zbb (seed::ss.map bld)) rfl RX3.out.2.1 ⟨tX3,0,none⟩ 1 1 [.string k4] rfl rfl (zsk b40X3.out) (by intro u hu;simp at hu;subst hu;rfl) (by unfold maxLen;omega) (by omega) (by exact RX3.out.2.2.size) ?_;intro v7 X4 hown hgrow hnil;have SX:Six X4 g12 s k1 k2 k3 k4 k5:=zst hHeld2 hgrow DJ.out.2;have RZ:Hid (X4.ownsRow w.heap.size 208 6 v6 (k+1) (zse ss++[.string s,.string k1,.string k2,.string k3,.string k4,.string k5])/\X4.ownsRow w.heap.size 9 1 v7 (k+1+1) (zbb (seed::ss.map bld)++[.string k4])/\Below w.heap.size w X4):=⟨zss RX3.out.1 RX3.out.2.1 (by decide) hgrow,hown,RX3.out.2.2.grown hgrow RX3.out.2.2.size (fun j hj=>(RX3.out.2.1.lt j hj).1)⟩;refine hK.out _ _ SX (fun hHeld4 => ?_);clear hK K SX hown hgrow hnil;obtain⟨XE,hXE⟩:∃X,X4=X:=⟨_,rfl⟩;rw[hXE] at RZ hHeld4;rw[hXE];clear hXE
      refine wpAnyH_take (i:=10) (oi:={ dst:=some 6,op := .assign (.tmp 35),type := 202, pos := "head.go:96", after:=#[eD 3,eC 9,eP 0,eP 1,eP 2,eP 3,{ on:=4,ground:=Ground.textOnly Departure.lateStores },{ on:=5,ground:=Ground.textOnly Departure.lateStores },{ on:=6,ground:=Ground.textOnly Departure.lateStores },{ on:=7,ground:=Ground.textOnly Departure.lateStores },{ on:=8,ground:=Ground.textOnly Departure.lateStores },{ on:=9,ground:=Ground.textOnly Departure.lateStoresUnsure }],guard:=none }) (v := ?_) rfl (by kernel_rfl) (by kernel_rfl) (by kernel_rfl) (fun _ _ _ h=>h) (Or.inl ⟨by rfl,?_⟩) (by assumption) ?_
      rotate_left
      ·intro w' hSw
       first
       | (go_simp;done)
       | (go_simp;with_reducible rfl)
      simp only[Act.put,wA,wB,wC];refine wpAnyH_take (i:=11) (oi:={ dst:=some 7,op := .assign (.tmp 41),type := 25, pos := "head.go:96", after:=#[eD 9,eC 10,eP 0,eP 1,eP 2,eP 3,eP 4,eP 5,eP 6,eP 7,eP 8,eP 9,eP 10],guard:=none }) (v := ?_) rfl (by kernel_rfl) (by kernel_rfl) (by kernel_rfl) (fun _ _ _ h=>h) (Or.inl ⟨by rfl,?_⟩) (by assumption) ?_
      rotate_left
      ·intro w' hSw
       first
       | (go_simp;done)
       | (go_simp;with_reducible rfl)
      simp only[Act.put,wA,wB,wC];refine wpAnyH_done (by kernel_rfl) ?_ _;refine NoPanic.normal ?_;have RE:Hid (ztC seed pts (k+1) (ss++[s])/\Had w XE seed (k+1) (ss++[s]) v6 v7):=⟨FS.out,by rw[KS.out.1];exact RZ.out.1,by rw[KS.out.2];exact RZ.out.2.1,RZ.out.2.2⟩;clear RZ hHeld4;go_wp2;go_roundw
      case rel=>exact⟨k+1,ss++[s],by omega,by go_num,RE.out⟩
      case measure=>simp[intOf];omega
     ·
      go_simp;have BA:Below X1.heap.size X1 (X1.alloc (.cells #[.string k4] 9)):=(bQ _ _).alloc (nL _) _;have HB:(X1.alloc (.cells #[.string k4] 9)).heap[X1.heap.size]?=some (.cells #[.string k4] 9):=zsz X1 _;refine hK.out _ _ (hHeld2.later BA) (fun hHeld2 => ?_);clear hK K;obtain⟨X5,hX5⟩:∃W,X1.alloc (.cells #[.string k4] 9)=W:=⟨_,rfl⟩;rw[hX5] at BA HB hHeld2;rw[hX5];have RX5:Hid (X5.ownsRow w.heap.size 208 6 u6 k (zse ss)/\X5.ownsRow w.heap.size 9 1 (.slice (some ⟨g7,0,none⟩) (k+1) c7) (k+1) (zbb (seed::ss.map bld))/\Below w.heap.size w X5):=⟨zsl RX1.out.1 BA,zsl RX1.out.2.1 BA,chain RX1.out.2.2 BA⟩;have b34X5:Hid (X5.heap[tX1]?=some (.cells #[.string s,.string k1,.string k2,.string k3,.string k4,.string k5] 208)):=(BA.block _ (Array.getElem?_eq_some_iff.1 b34X1.out).1).trans b34X1.out;obtain⟨tX5,htX5⟩:∃t,X1.heap.size=t:=⟨_,rfl⟩;rw[htX5] at HB;rw[htX5];have b40X5:Hid (X5.heap[tX5]?=some (.cells #[.string k4] 9)):=HB;clear hX5 htX5 HB BA;refine wpAnyH_ready (rs:=[3]) (by kernel_rfl) (by simp) ?_;refine AllReadyH.cons (o:={ dst:=some 35,op := .call { callee:=Callee.builtin Builtin.append,args:=#[Operand.tmp 32,Operand.tmp 34],argTypes:=#[202, 202] },type := 202, pos := "head.go:96", after:=#[eD 0,eD 2],guard:=none }) rfl (fun K hK => ?_) AllReadyH.nil;rw[if_pos (by kernel_rfl)]
      refine wp_append_own X5 (.tmp 32) (.tmp 34) 202 rfl w.heap.size 208 i6 _ 6 96 Tryz.underlying202 hi6 hz60 hz61 hz62 rfl (by decide) u6 k (zse ss) rfl RX5.out.1 ⟨tX1,0,none⟩ 1 1 [.string s,.string k1,.string k2,.string k3,.string k4,.string k5] rfl rfl (zsk b34X5.out) (by intro u hu;simp at hu;rcases hu with rfl|rfl|rfl|rfl|rfl|rfl <;> rfl) (by unfold maxLen;omega) (by omega) (by exact RX5.out.2.2.size) ?_;intro v6 X6 hown hgrow hnil;have SX:Six X6 g12 s k1 k2 k3 k4 k5:=zst hHeld2 hgrow DJ.out.1;have RX6:Hid (X6.ownsRow w.heap.size 208 6 v6 (k+1) (zse ss++[.string s,.string k1,.string k2,.string k3,.string k4,.string k5])/\X6.ownsRow w.heap.size 9 1 (.slice (some ⟨g7,0,none⟩) (k+1) c7) (k+1) (zbb (seed::ss.map bld))/\Below w.heap.size w X6):=⟨hown,zss RX5.out.2.1 RX5.out.1 (by decide) hgrow,RX5.out.2.2.grown hgrow RX5.out.2.2.size (fun j hj=>(RX5.out.1.lt j hj).1)⟩;have b40X6:Hid (X6.heap[tX5]?=some (.cells #[.string k4] 9)):=ztx b40X5.out RX5.out.1 (by decide) hgrow;refine hK.out _ _ SX (fun hHeld3 => ?_);clear hK K SX hown hgrow hnil;refine wpAnyH_ready (rs:=[9]) (by kernel_rfl) (by simp) ?_;refine AllReadyH.cons (o:={ dst:=some 41,op := .call { callee:=Callee.builtin Builtin.append,args:=#[Operand.tmp 36,Operand.tmp 40],argTypes:=#[25, 25] },type := 25, pos := "head.go:96", after:=#[eD 4,eD 8,eC 3],guard:=none }) rfl (fun K hK => ?_) AllReadyH.nil
      rw[if_pos (by kernel_rfl)];refine wp_append_own X6 (.tmp 36) (.tmp 40) 25 rfl w.heap.size 9 i7 _ 1 16 Tryz.underlying25 hi7 hz70 hz71 hz72 rfl (by decide) (.slice (some ⟨g7,0,none⟩) (k+1) c7) (k+1) (zbb (seed::ss.map bld)) rfl RX6.out.2.1 ⟨tX5,0,none⟩ 1 1 [.string k4] rfl rfl (zsk b40X6.out) (by intro u hu;simp at hu;subst hu;rfl) (by unfold maxLen;omega) (by omega) (by exact RX6.out.2.2.size) ?_;intro v7 X7 hown hgrow hnil;have SX:Six X7 g12 s k1 k2 k3 k4 k5:=zst hHeld3 hgrow DJ.out.2;have RZ:Hid (X7.ownsRow w.heap.size 208 6 v6 (k+1) (zse ss++[.string s,.string k1,.string k2,.string k3,.string k4,.string k5])/\X7.ownsRow w.heap.size 9 1 v7 (k+1+1) (zbb (seed::ss.map bld)++[.string k4])/\Below w.heap.size w X7):=⟨zss RX6.out.1 RX6.out.2.1 (by decide) hgrow,hown,RX6.out.2.2.grown hgrow RX6.out.2.2.size (fun j hj=>(RX6.out.2.1.lt j hj).1)⟩;refine hK.out _ _ SX (fun hHeld4 => ?_);clear hK K SX hown hgrow hnil;obtain⟨XE,hXE⟩:∃X,X7=X:=⟨_,rfl⟩;rw[hXE] at RZ hHeld4;rw[hXE];clear hXE
      refine wpAnyH_take (i:=10) (oi:={ dst:=some 6,op := .assign (.tmp 35),type := 202, pos := "head.go:96", after:=#[eD 3,eC 9,eP 0,eP 1,eP 2,eP 3,{ on:=4,ground:=Ground.textOnly Departure.lateStores },{ on:=5,ground:=Ground.textOnly Departure.lateStores },{ on:=6,ground:=Ground.textOnly Departure.lateStores },{ on:=7,ground:=Ground.textOnly Departure.lateStores },{ on:=8,ground:=Ground.textOnly Departure.lateStores },{ on:=9,ground:=Ground.textOnly Departure.lateStoresUnsure }],guard:=none }) (v := ?_) rfl (by kernel_rfl) (by kernel_rfl) (by kernel_rfl) (fun _ _ _ h=>h) (Or.inl ⟨by rfl,?_⟩) (by assumption) ?_
      rotate_left
      ·intro w' hSw
       first
       | (go_simp;done)
       | (go_simp;with_reducible rfl)
      simp only[Act.put,wA,wB,wC];refine wpAnyH_take (i:=11) (oi:={ dst:=some 7,op := .assign (.tmp 41),type := 25, pos := "head.go:96", after:=#[eD 9,eC 10,eP 0,eP 1,eP 2,eP 3,eP 4,eP 5,eP 6,eP 7,eP 8,eP 9,eP 10],guard:=none }) (v := ?_) rfl (by kernel_rfl) (by kernel_rfl) (by kernel_rfl) (fun _ _ _ h=>h) (Or.inl ⟨by rfl,?_⟩) (by assumption) ?_
      rotate_left
      ·intro w' hSw
       first
       | (go_simp;done)
       | (go_simp;with_reducible rfl)
      simp only[Act.put,wA,wB,wC];refine wpAnyH_done (by kernel_rfl) ?_ _;refine NoPanic.normal ?_;have RE:Hid (ztC seed pts (k+1) (ss++[s])/\Had w XE seed (k+1) (ss++[s]) v6 v7):=⟨FS.out,by rw[KS.out.1];exact RZ.out.1,by rw[KS.out.2];exact RZ.out.2.1,RZ.out.2.2⟩;clear RZ hHeld4;go_wp2;go_roundw
      case rel=>exact⟨k+1,ss++[s],by omega,by go_num,RE.out⟩
      case measure=>simp[intOf];omega
    ·
     go_simp;have BA:Below D.heap.size D (D.alloc (.cells #[.string k4] 9)):=(bQ _ _).alloc (nL _) _;have HB:(D.alloc (.cells #[.string k4] 9)).heap[D.heap.size]?=some (.cells #[.string k4] 9):=zsz D _;refine hK.out _ _ (hHeld.later BA) (fun hHeld2 => ?_);clear hK K;obtain⟨X8,hX8⟩:∃W,D.alloc (.cells #[.string k4] 9)=W:=⟨_,rfl⟩;rw[hX8] at BA HB hHeld2;rw[hX8];have RX8:Hid (X8.ownsRow w.heap.size 208 6 u6 k (zse ss)/\X8.ownsRow w.heap.size 9 1 (.slice (some ⟨g7,0,none⟩) (k+1) c7) (k+1) (zbb (seed::ss.map bld))/\Below w.heap.size w X8):=⟨zsl R0.out.1 BA,zsl R0.out.2.1 BA,chain R0.out.2.2 BA⟩;obtain⟨tX8,htX8⟩:∃t,D.heap.size=t:=⟨_,rfl⟩;rw[htX8] at HB;rw[htX8];have b40X8:Hid (X8.heap[tX8]?=some (.cells #[.string k4] 9)):=HB;clear hX8 htX8 HB BA;refine wpAnyH_ready (rs:=[2]) (by kernel_rfl) (by simp) ?_;refine AllReadyH.cons (o:={ dst:=some 34,op := .buildSlice 202 1 #[(0,Operand.tmp 33)],type := 202, pos := "head.go:96", after:=#[eD 1],guard:=none }) rfl (fun K hK => ?_) AllReadyH.nil;go_simp;have BA:Below X8.heap.size X8 (X8.alloc (.cells #[.string s,.string k1,.string k2,.string k3,.string k4,.string k5] 208)):=(bQ _ _).alloc (nL _) _
     have HB:(X8.alloc (.cells #[.string s,.string k1,.string k2,.string k3,.string k4,.string k5] 208)).heap[X8.heap.size]?=some (.cells #[.string s,.string k1,.string k2,.string k3,.string k4,.string k5] 208):=zsz X8 _;refine hK.out _ _ (hHeld2.later BA) (fun hHeld2 => ?_);clear hK K;obtain⟨X9,hX9⟩:∃W,X8.alloc (.cells #[.string s,.string k1,.string k2,.string k3,.string k4,.string k5] 208)=W:=⟨_,rfl⟩;rw[hX9] at BA HB hHeld2;rw[hX9];have RX9:Hid (X9.ownsRow w.heap.size 208 6 u6 k (zse ss)/\X9.ownsRow w.heap.size 9 1 (.slice (some ⟨g7,0,none⟩) (k+1) c7) (k+1) (zbb (seed::ss.map bld))/\Below w.heap.size w X9):=⟨zsl RX8.out.1 BA,zsl RX8.out.2.1 BA,chain RX8.out.2.2 BA⟩;have b40X9:Hid (X9.heap[tX8]?=some (.cells #[.string k4] 9)):=(BA.block _ (Array.getElem?_eq_some_iff.1 b40X8.out).1).trans b40X8.out;obtain⟨tX9,htX9⟩:∃t,X8.heap.size=t:=⟨_,rfl⟩;rw[htX9] at HB;rw[htX9];have b34X9:Hid (X9.heap[tX9]?=some (.cells #[.string s,.string k1,.string k2,.string k3,.string k4,.string k5] 208)):=HB;clear hX9 htX9 HB BA;refine wpAnyH_ready (rs:=[3]) (by kernel_rfl) (by simp) ?_
     refine AllReadyH.cons (o:={ dst:=some 35,op := .call { callee:=Callee.builtin Builtin.append,args:=#[Operand.tmp 32,Operand.tmp 34],argTypes:=#[202, 202] },type := 202, pos := "head.go:96", after:=#[eD 0,eD 2],guard:=none }) rfl (fun K hK => ?_) AllReadyH.nil;rw[if_pos (by kernel_rfl)];refine wp_append_own X9 (.tmp 32) (.tmp 34) 202 rfl w.heap.size 208 i6 _ 6 96 Tryz.underlying202 hi6 hz60 hz61 hz62 rfl (by decide) u6 k (zse ss) rfl RX9.out.1 ⟨tX9,0,none⟩ 1 1 [.string s,.string k1,.string k2,.string k3,.string k4,.string k5] rfl rfl (zsk b34X9.out) (by intro u hu;simp at hu;rcases hu with rfl|rfl|rfl|rfl|rfl|rfl <;> rfl) (by unfold maxLen;omega) (by omega) (by exact RX9.out.2.2.size) ?_;intro v6 X10 hown hgrow hnil;have SX:Six X10 g12 s k1 k2 k3 k4 k5:=zst hHeld2 hgrow DJ.out.1;have RX10:Hid (X10.ownsRow w.heap.size 208 6 v6 (k+1) (zse ss++[.string s,.string k1,.string k2,.string k3,.string k4,.string k5])/\X10.ownsRow w.heap.size 9 1 (.slice (some ⟨g7,0,none⟩) (k+1) c7) (k+1) (zbb (seed::ss.map bld))/\Below w.heap.size w X10):=⟨hown,zss RX9.out.2.1 RX9.out.1 (by decide) hgrow,RX9.out.2.2.grown hgrow RX9.out.2.2.size (fun j hj=>(RX9.out.1.lt j hj).1)⟩;have b40X10:Hid (X10.heap[tX8]?=some (.cells #[.string k4] 9)):=ztx b40X9.out RX9.out.1 (by decide) hgrow;refine hK.out _ _ SX (fun hHeld3 => ?_);clear hK K SX hown hgrow hnil
     refine wpAnyH_ready (rs:=[9]) (by kernel_rfl) (by simp) ?_;refine AllReadyH.cons (o:={ dst:=some 41,op := .call { callee:=Callee.builtin Builtin.append,args:=#[Operand.tmp 36,Operand.tmp 40],argTypes:=#[25, 25] },type := 25, pos := "head.go:96", after:=#[eD 4,eD 8,eC 3],guard:=none }) rfl (fun K hK => ?_) AllReadyH.nil;rw[if_pos (by kernel_rfl)];refine wp_append_own X10 (.tmp 36) (.tmp 40) 25 rfl w.heap.size 9 i7 _ 1 16 Tryz.underlying25 hi7 hz70 hz71 hz72 rfl (by decide) (.slice (some ⟨g7,0,none⟩) (k+1) c7) (k+1) (zbb (seed::ss.map bld)) rfl RX10.out.2.1 ⟨tX8,0,none⟩ 1 1 [.string k4] rfl rfl (zsk b40X10.out) (by intro u hu;simp at hu;subst hu;rfl) (by unfold maxLen;omega) (by omega) (by exact RX10.out.2.2.size) ?_;intro v7 X11 hown hgrow hnil;have SX:Six X11 g12 s k1 k2 k3 k4 k5:=zst hHeld3 hgrow DJ.out.2;have RZ:Hid (X11.ownsRow w.heap.size 208 6 v6 (k+1) (zse ss++[.string s,.string k1,.string k2,.string k3,.string k4,.string k5])/\X11.ownsRow w.heap.size 9 1 v7 (k+1+1) (zbb (seed::ss.map bld)++[.string k4])/\Below w.heap.size w X11):=⟨zss RX10.out.1 RX10.out.2.1 (by decide) hgrow,hown,RX10.out.2.2.grown hgrow RX10.out.2.2.size (fun j hj=>(RX10.out.2.1.lt j hj).1)⟩;refine hK.out _ _ SX (fun hHeld4 => ?_);clear hK K SX hown hgrow hnil;obtain⟨XE,hXE⟩:∃X,X11=X:=⟨_,rfl⟩;rw[hXE] at RZ hHeld4;rw[hXE];clear hXE
     refine wpAnyH_take (i:=10) (oi:={ dst:=some 6,op := .assign (.tmp 35),type := 202, pos := "head.go:96", after:=#[eD 3,eC 9,eP 0,eP 1,eP 2,eP 3,{ on:=4,ground:=Ground.textOnly Departure.lateStores },{ on:=5,ground:=Ground.textOnly Departure.lateStores },{ on:=6,ground:=Ground.textOnly Departure.lateStores },{ on:=7,ground:=Ground.textOnly Departure.lateStores },{ on:=8,ground:=Ground.textOnly Departure.lateStores },{ on:=9,ground:=Ground.textOnly Departure.lateStoresUnsure }],guard:=none }) (v := ?_) rfl (by kernel_rfl) (by kernel_rfl) (by kernel_rfl) (fun _ _ _ h=>h) (Or.inl ⟨by rfl,?_⟩) (by assumption) ?_
     rotate_left
     ·intro w' hSw
      first
      | (go_simp;done)
      | (go_simp;with_reducible rfl)
     simp only[Act.put,wA,wB,wC];refine wpAnyH_take (i:=11) (oi:={ dst:=some 7,op := .assign (.tmp 41),type := 25, pos := "head.go:96", after:=#[eD 9,eC 10,eP 0,eP 1,eP 2,eP 3,eP 4,eP 5,eP 6,eP 7,eP 8,eP 9,eP 10],guard:=none }) (v := ?_) rfl (by kernel_rfl) (by kernel_rfl) (by kernel_rfl) (fun _ _ _ h=>h) (Or.inl ⟨by rfl,?_⟩) (by assumption) ?_
     rotate_left
     ·intro w' hSw
      first
      | (go_simp;done)
      | (go_simp;with_reducible rfl)
     simp only[Act.put,wA,wB,wC];refine wpAnyH_done (by kernel_rfl) ?_ _;refine NoPanic.normal ?_;have RE:Hid (ztC seed pts (k+1) (ss++[s])/\Had w XE seed (k+1) (ss++[s]) v6 v7):=⟨FS.out,by rw[KS.out.1];exact RZ.out.1,by rw[KS.out.2];exact RZ.out.2.1,RZ.out.2.2⟩;clear RZ hHeld4;go_wp2;go_roundw
     case rel=>exact⟨k+1,ss++[s],by omega,by go_num,RE.out⟩
     case measure=>simp[intOf];omega
  ·obtain rfl:k=n:=by omega
   have g1:¬(k:Int) < (k:Int):=by omega
   have FS:Hid (zpb seed pts []=some ss):=ztC.all (by rw[hn.out];exact I.out.1);go_wp2;go_ret2;exact⟨fun h=>by rw[FS.out] at h;(cases h),fun ss' h=>by rw[FS.out] at h;cases h;exact⟨_,rfl,I.out.2.1⟩,I.out.2.2.2⟩
end Go.Proofs.YtjcppbhgjchjaaaGreatDoor
