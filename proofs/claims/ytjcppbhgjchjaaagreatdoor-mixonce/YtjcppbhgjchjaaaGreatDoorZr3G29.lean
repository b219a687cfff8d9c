/- A part of the walk. -/
import Derived.Test.YtjcppbhgjchjaaaGreatDoorZr3G28
import Derived.Shelf.Strings.Repeat
set_option maxHeartbeats 8000000
set_option maxRecDepth 20000
namespace Go.Proofs.YtjcppbhgjchjaaaGreatDoor.Sto
open Go.RowKit Go.Proofs.Fd Go.Proofs.Dk
def IntAt (w:Wo) (a:Option Addr) (cs:List Int):Prop:=∀i (hi:i < cs.length),∃b o,a=some ⟨b,o,none⟩/\w.cell? ⟨b,o+i,none⟩=some (.int .i64 cs[i])
theorem IntAt.later {W w1:Wo} {a:Option Addr} {cs:List Int} (h:IntAt W a cs) (hb:Bw W w1):IntAt w1 a cs:=fun i hi=>by
 obtain⟨b,o,e,hc⟩:=h i hi;exact⟨b,o,e,cell_later hb hc⟩
theorem zgU (w:Wo) (b o B m:Nat) (l:Bs) (hm:m<=64) (hl:l.length=64) (hth:w.there b o 64) (hr:w.rangeAt B 1 (bc l)) :
  (Builtin.copy_ #[99, 99] 3 #[.slice (some ⟨b,o,none⟩) 64 64,.slice (some ⟨B,1,none⟩) m 64]).run Tryz.prog w = .ok (.int .i64 (m:Int)) (w.setCells b o (bc (l.take m))):=by
 have hlen:(bc (l.take m)).length=m:=by rw[zaK,List.length_take];omega
 have hst:=run_storeCells_cells (P:=Tryz.prog) b o (bc (l.take m)) 0 w
  (by rw[hlen];intro j hj;simpa using (hth j (by omega)).1) (by rw[hlen];intro j hj;simpa using (hth j (by omega)).2) (zf3 _)
 have hld:=run_loadCells_list (P:=Tryz.prog) w ⟨B,1,none⟩ (bc (l.take m)) (fun j v hv=>by
  rw[Addr.add_mid];refine hr j v ?_;have hj:=(List.getElem?_eq_some_iff.1 hv).1;rw[hlen] at hj;unfold bc at hv ⊢;rw[List.getElem?_map] at hv ⊢;rw[List.getElem?_take_of_lt hj] at hv;exact hv)
 rw[hlen] at hld;have hmn:Nat.min m 64=m:=Nat.min_eq_left hm;simp[Builtin.copy_,run_underlying Tryz.underlying99, Builtin.lenOf,Builtin.firstCells,hmn];rw[hld,Result.andThen_ok];simp only[];rw[hst];rfl
theorem ze8 {P:Program} (w:Wo) {o:Oper} {a:Act} {K:Act->Wo->Prop} {Q:Exit->Act->Wo->Prop} (s x:Operand) (t tn:TypeId)
  (ho:o.op = .call { callee := .builtin .copy,args:=#[s,x],argTypes:=#[t,tn] }) (vs vx:Value) (hs:a.eval s=vs) (hx:a.eval x=vx)
  (v':Value) (w':Wo) (hr:(Builtin.copy_ #[t,tn] o.type #[vs,vx]).run P w = .ok v' w') (h:K (a.put o.dst v') w'):o.wp P a w K Q:=by
 unfold Oper.wp execOp;simp only[ho,resolve,invoke,builtin,Sem.run_bind,Sem.run_pure,Result.andThen_ok,List.map_toArray,List.map_cons,List.map_nil,hs,hx,hr];exact h
theorem IntAt.kept {w w':Wo} {F:Nat->Prop} {a:Option Addr} {cs:List Int} (h:IntAt w a cs) (hb:Bf F w w') (hF:∀x,a=some x->0 < cs.length->¬F x.block):IntAt w' a cs:=fun i hi=>by
 obtain⟨b,o,e,hc⟩:=h i hi;exact⟨b,o,e,hb.cell hc (hF ⟨b,o,none⟩ e (by omega))⟩
def zq8:Oper:={ dst:=some 23,op := .move (.tmp 0),type := 31, pos := "disk.go:100", after:=#[],guard:=none }
def zq9:Oper:={ dst:=some 24,op := .nilCheck (.tmp 23),type:=0,pos := "disk.go:100", after:=#[eD 0],guard:=none }
def zra:Oper:={ dst:=some 25,op := .fieldAddr 95 (.tmp 24) 2,type:=0,pos := "disk.go:100", after:=#[eD 1],guard:=none }
def zrb:Oper:={ dst:=some 26,op := .load 92 (.tmp 25),type := 92, pos := "disk.go:100", after:=#[eD 2],guard:=none }
def zrc:Oper:={ dst:=some 27,op := .fieldAddr 120 (.tmp 6) 0,type:=0,pos := "disk.go:100", after:=#[],guard:=none }
def zrd:Oper:={ dst:=some 28,op := .load 3 (.tmp 27),type := 3, pos := "disk.go:100", after:=#[eD 4],guard:=none }
def zre:Oper:={ dst:=some 29,op := .indexAddr 92 (.tmp 26) (.tmp 28),type:=0,pos := "disk.go:100", after:=#[eD 3,eD 5],guard:=none }
def zrf:Oper:={ dst:=some 30,op := .slice 118 (.tmp 29) none none none,type := 99, pos := "disk.go:100", after:=#[eD 6],guard:=none }
def zrg:Oper:={ dst:=some 31,op := .fieldAddr 120 (.tmp 6) 1,type:=0,pos := "disk.go:100", after:=#[],guard:=none }
def zrh:Oper:={ dst:=some 32,op := .move (.tmp 1),type := 45, pos := "disk.go:100", after:=#[],guard:=none }
def znq:Oper:={ dst:=some 33,op := .move (.tmp 5),type := 3, pos := "disk.go:100", after:=#[],guard:=none }
def znr:Oper:={ dst:=some 34,op := .indexAddr 45 (.tmp 32) (.tmp 33),type:=0,pos := "disk.go:100", after:=#[eD 9,eD 10],guard:=none }
def zns:Oper:={ dst:=some 35,op := .load 3 (.tmp 34),type := 3, pos := "disk.go:100", after:=#[eD 11],guard:=none }
def zpg:Oper:={ dst:=some 36,op := .call { callee:=Go.Callee.value (.func 48),args:=#[Go.Operand.tmp 35],argTypes:=#[3] },type := 3, pos := "disk.go:100", after:=#[eD 12],guard:=none }
def znt:Oper:={ dst:=some 37,op := .slice 118 (.tmp 31) none (some (.tmp 36)) none,type := 99, pos := "disk.go:100", after:=#[eD 8,eD 13],guard:=none }
def zph:Oper:={ dst:=some 38,op := .call { callee:=Go.Callee.builtin Go.Builtin.copy,args:=#[Go.Operand.tmp 30,Go.Operand.tmp 37],argTypes:=#[99, 99] },type := 3, pos := "disk.go:100", after:=#[eD 7,eD 14,eC 13],guard:=none }
def zri:Oper:={ dst:=some 49,op := .move (.tmp 0),type := 31, pos := "disk.go:104", after:=#[],guard:=none }
def zrj:Oper:={ dst:=some 50,op := .nilCheck (.tmp 49),type:=0,pos := "disk.go:104", after:=#[eD 0],guard:=none }
def zrk:Oper:={ dst:=some 51,op := .fieldAddr 95 (.tmp 50) 3,type:=0,pos := "disk.go:104", after:=#[eD 1],guard:=none }
def zrl:Oper:={ dst:=some 52,op := .load 92 (.tmp 51),type := 92, pos := "disk.go:104", after:=#[eD 2],guard:=none }
def zrm:Oper:={ dst:=some 53,op := .fieldAddr 120 (.tmp 8) 0,type:=0,pos := "disk.go:104", after:=#[],guard:=none }
def zrn:Oper:={ dst:=some 54,op := .load 3 (.tmp 53),type := 3, pos := "disk.go:104", after:=#[eD 4],guard:=none }
def zro:Oper:={ dst:=some 55,op := .move (.tmp 0),type := 31, pos := "disk.go:104", after:=#[],guard:=none }
def zrp:Oper:={ dst:=some 56,op := .nilCheck (.tmp 55),type:=0,pos := "disk.go:104", after:=#[eD 6],guard:=none }
def zrq:Oper:={ dst:=some 57,op := .fieldAddr 95 (.tmp 56) 2,type:=0,pos := "disk.go:104", after:=#[eD 7],guard:=none }
def zrr:Oper:={ dst:=some 58,op := .load 92 (.tmp 57),type := 92, pos := "disk.go:104", after:=#[eD 8],guard:=none }
def znu:Oper:={ dst:=some 59,op := .fieldAddr 120 (.tmp 8) 0,type:=0,pos := "disk.go:104", after:=#[],guard:=none }
def znv:Oper:={ dst:=some 60,op := .load 3 (.tmp 59),type := 3, pos := "disk.go:104", after:=#[eD 10],guard:=none }
def znw:Oper:={ dst:=some 61,op := .indexAddr 92 (.tmp 58) (.tmp 60),type:=0,pos := "disk.go:104", after:=#[eD 9,eD 11],guard:=none }
def zpi:Oper:={ dst:=some 62,op := .load 118 (.tmp 61),type := 118, pos := "disk.go:104", after:=#[eD 12],guard:=none }
def znx:Oper:={ dst:=some 63,op := .indexAddr 92 (.tmp 52) (.tmp 54),type:=0,pos := "disk.go:104", after:=#[eD 3,eD 5,eP 0,eP 1,eP 2,eP 3,eP 4,eP 5,eP 6,eP 7,eP 8,eP 9,eP 10,eP 11,eP 12,eP 13],guard:=none }
def zpj:Oper:={ dst:=none,op := .store 118 (.tmp 63) (.tmp 62),type:=0,pos := "disk.go:104", after:=#[eD 14,eD 13,eP 0,eP 1,eP 2,eP 3,eP 4,eP 5,eP 6,eP 7,eP 8,eP 9,eP 10,eP 11,eP 12,eP 13],guard:=none }
theorem ziy (p:Nat) (F:Nat->Prop) (s:St) (pa:Option Addr) (pn pc:Nat) (ps:List Int) (hpn:ps.length=pn) (w:Wo) (h:KAt w p F s) (hl:s.l.length<=1000000) (hp:IntAt w pa ps) (hF:∀x,pa=some x->0 < ps.length->¬F x.block) :
  Cl 21 #[.pointer (some ⟨p,0,none⟩),.slice pa pn pc] w fun e w'=>e = .returned (.int .i64 0)/\Stp w p F (crS s ps) w':=by
 have HO:Hid (Ok s):=h.1;have HP:Hid (IntAt w pa ps):=hp;have HF:Hid (∀x,pa=some x->0 < ps.length->¬F x.block):=hF;have HPN:Hid (ps.length=pn):=hpn;obtain⟨-,a,b,v,rfl,hr⟩:=h;have hrow:=hr.row;obtain⟨va,vc,rfl⟩:=zbu hrow;have I0:Hid (Raw w p s.n s.down s.fuse s.f s.sh s.l a b (.slice va s.l.length vc)):=hr;have c4:=hr.c4;obtain⟨n,hn⟩:∃n,s.l.length=n:=⟨_,rfl⟩;have HN:Hid (s.l.length=n):=hn;rw[hn] at I0 hl c4 HF ⊢;clear hr hrow hp hF hn hpn;obtain⟨T,hT⟩:∃T,zgO ps s.f s.l 0=T:=⟨_,rfl⟩;have HT:Hid (zgO ps s.f s.l 0=T):=hT;clear hT;go_enter Tryz.func21, Tryz.ntmps21;go_wp2_with fail;go_loopw [14] (fun i wr=>∃(k:Nat) (f:Nat->Bs),k<=n/\i = .int .i64 (k:Int)/\Hid (Raw wr p s.n s.down s.fuse f s.sh s.l a b (.slice va n vc)/\Bf (Foot p a b (.slice va n vc)) w wr/\zgO ps f (s.l.drop k) k=T)) (fun i wr=>n - (intOf i).toNat)
 case atStart=>exact⟨0,s.f,Nat.zero_le _,rfl,I0.out,Bf.refl _ _,HT.out⟩
 case round =>
  obtain⟨k,f,hk,rfl,I⟩:=hrel;clear I0 c4;by_cases hlt:k < n
  ·have g1:(k:Int) < (n:Int):=by omega
   have hkl:k < s.l.length:=by have:=HN.out;omega
   obtain⟨g,rfl,RW⟩:=zdq I.out.1.row (fun x hx=>(HO.out.wk x hx).2) k hkl;have LW:Hid _:=ziw RW (HO.out.wk _ (List.getElem_mem hkl)).2;obtain⟨x,hx⟩:∃x,s.l[k]=x:=⟨_,rfl⟩;have h64:x.b.length=64:=by rw[<-hx];exact (HO.out.wk _ (List.getElem_mem hkl)).2
   have hxk:x.k < s.n:=by rw[<-hx];exact (HO.out.wk _ (List.getElem_mem hkl)).1
   rw[hx] at LW;have SN:Hid _:=zcm x h64 wr;have BX:Hid _:=znp x wr;have J1:Hid (Raw (wr.alloc (.cells (wc x).toArray 120)) p s.n s.down s.fuse f s.sh s.l a b (.slice (some ⟨g,0,none⟩) n vc)/\Bf (Foot p a b (.slice (some ⟨g,0,none⟩) n vc)) w (wr.alloc (.cells (wc x).toArray 120))):=⟨I.out.1.later ((bQ _ _).alloc (nL _) _),I.out.2.1.later ((bQ _ _).alloc (nL _) _)⟩;have LY:Hid (zgO ps (upd f x.k (mix (zon ps k) x.b (f x.k))) (s.l.drop (k+1)) (k+1)=T):=by
    have:=I.out.2.2;rw[List.drop_eq_getElem_cons hkl,hx,zgO] at this;exact this
   have NB:Hid (∀q,Foot p a b (.slice (some ⟨g,0,none⟩) n vc) q->q≠wr.heap.size):=fun q hq=>Nat.ne_of_lt (I.out.1.lt hq)
   clear I RW hx;go_upto_region 3 with fail
   refine wp_region_lit ?_;refine wpList_plain rfl (fun K hK => ?_);go_simp;refine hK _ _ ?_;clear hK K;refine wpList_plain rfl (fun K hK => ?_);go_simp;refine hK _ _ ?_;clear hK K;refine wpList_plain rfl (fun K hK=>zaC _ _ rfl _ rfl _ LW.out (hK _ _ ?_));refine wpList_plain rfl (fun K hK=>zbh _ rfl _ _ (ze7 _) (hK _ _ ?_));refine wpList_plain rfl (fun K hK => ?_);go_simp;refine hK _ _ ?_;clear hK K;refine wpList_plain rfl (fun K hK=>zaE _ _ _ rfl _ rfl _ rfl _ SN.out (hK _ _ ?_));refine wpList_nil ?_;obtain⟨B,hB⟩:∃B,wr.heap.size=B:=⟨_,rfl⟩;obtain⟨W,hW⟩:∃W,wr.alloc (.cells (wc x).toArray 120)=W:=⟨_,rfl⟩;simp only[Act.put];rw[hB] at NB BX ⊢;rw[hW] at BX J1 ⊢;clear LW SN hB hW;by_cases hpk:k < ps.length
   ·have g4:(k:Int) < (pn:Int):=by have:=HPN.out;omega
    obtain⟨pb,po,rfl,pc0⟩:=(HP.out.kept J1.out.2 HF.out) k hpk;have PB:Hid (¬Foot p a b (.slice (some ⟨g,0,none⟩) n vc) pb):=HF.out _ rfl (by omega);have hpk2:zon ps k=pk ps[k]:=dif_pos hpk;rw[hpk2] at LY;obtain⟨y,hy⟩:∃y,ps[k]=y:=⟨_,rfl⟩;rw[hy] at pc0 LY;have BG:Hid (∀w,_):=zdo y;obtain⟨m,hm⟩:∃m,pk y=m:=⟨_,rfl⟩;have hm65:m < 65:=by rw[<-hm];exact znf y
    rw[hm] at LY BG;have gm:(m:Int)<=64:=by omega
    have c2:=J1.out.1.c2;have G3:(x.k:Int) < ((s.n:Nat):Int):=by omega
    have RA:Hid (Raw (W.drew.setCells a (x.k*64) (bc (x.b.take m))) p s.n s.down s.fuse (upd f x.k (mix m x.b (f x.k))) s.sh s.l a b (.slice (some ⟨g,0,none⟩) n vc)/\Bf (Foot p a b (.slice (some ⟨g,0,none⟩) n vc)) w (W.drew.setCells a (x.k*64) (bc (x.b.take m)))):=by
     have htl:(x.b.take m).length=m:=by rw[List.length_take];omega
     have:=(J1.out.1.later (bQ _ _).drew).putA hxk (x.b.take m) (by omega);rw[htl] at this;exact⟨this,(J1.out.2.later (bQ _ _).drew).trans (Nx.refl _ _) (Bf.sets _ a (.inr (.inl rfl)) _ _ _)⟩
    have PA:Hid (a≠p):=J1.out.1.pa;have TH:Hid (W.drew.there a (x.k*64) 64):=(J1.out.1.later (bQ _ _).drew).sa.there hxk;have AB:Hid (a≠B):=NB.out a (.inr (.inl rfl));have AP:Hid (a≠pb):=fun e=>PB.out (.inr (.inl e.symm))
    have b0:=BX.out.1;have RB:=BX.out.2;have H64:Hid (x.b.length=64):=h64;obtain⟨N,hN⟩:∃N,s.n=N:=⟨_,rfl⟩;rw[hN] at c2 G3;have HM:Hid (m<=64):=by have:=hm65;exact (show m<=64 by omega)
    go_upto_region 5 with fail
    clear J1 BX NB h64 hpk2 hy hm;refine wp_region_noPanic ?_;refine wp_region_held_drew (S:=fun w'=>w'.cell? ⟨p,2,none⟩=some (.slice (some ⟨a,0,none⟩) N N)/\w'.cell? ⟨B,0,none⟩=some (.int .i64 (x.k:Int))/\w'.cell? ⟨pb,po+k,none⟩=some (.int .i64 y)/\w'.rangeAt B 1 (bc x.b)) (by kernel_rfl) (⟨c2,b0,pc0,RB⟩) (fun hHeld => ?_);obtain⟨Z,hZ⟩:∃Z,W.drew=Z:=⟨_,rfl⟩;rw[hZ] at hHeld RA TH ⊢;clear c2 b0 RB pc0 hZ;refine wT 0 zq8 ?_ ?_ ?_;rotate_left
    ·intro w' hSw;clear hSw;unfold zq8;first|(go_simp;done)|(go_simp;with_reducible rfl)
    simp only[zq8,Act.put,wA,wB,wC];refine wT 1 zq9 ?_ ?_ ?_;rotate_left
    ·intro w' hSw;clear hSw;unfold zq9;first|(go_simp;done)|(go_simp;with_reducible rfl)
    simp only[zq9,Act.put,wA,wB,wC];refine wT 2 zra ?_ ?_ ?_;rotate_left
    ·intro w' hSw;clear hSw;unfold zra;first|(go_simp;done)|(go_simp;with_reducible rfl)
    simp only[zra,Act.put,wA,wB,wC];refine wT 3 zrb ?_ ?_ ?_;rotate_left
    ·intro w' hSw;obtain⟨s0,s1,s2,s3⟩:=hSw;unfold zrb;first|(go_simp;done)|(go_simp;with_reducible rfl)
    simp only[zrb,Act.put,wA,wB,wC];refine wT 4 zrc ?_ ?_ ?_;rotate_left
    ·intro w' hSw;clear hSw;unfold zrc;first|(go_simp;done)|(go_simp;with_reducible rfl)
    simp only[zrc,Act.put,wA,wB,wC];refine wT 5 zrd ?_ ?_ ?_;rotate_left
    ·intro w' hSw;obtain⟨s0,s1,s2,s3⟩:=hSw;unfold zrd;first|(go_simp;done)|(go_simp;with_reducible rfl)
    simp only[zrd,Act.put,wA,wB,wC];refine wT 6 zre ?_ ?_ ?_;rotate_left
    ·intro w' hSw;clear hSw;unfold zre;first|(go_simp;done)|(go_simp;with_reducible rfl)
    simp only[zre,Act.put,wA,wB,wC];refine wT 7 zrf ?_ ?_ ?_;rotate_left
    ·intro w' hSw;clear hSw;unfold zrf;first|(go_simp;done)|(go_simp;with_reducible rfl)
    simp only[zrf,Act.put,wA,wB,wC];refine wT 8 zrg ?_ ?_ ?_;rotate_left
    ·intro w' hSw;clear hSw;unfold zrg;first|(go_simp;done)|(go_simp;with_reducible rfl)
    simp only[zrg,Act.put,wA,wB,wC];refine wT 9 zrh ?_ ?_ ?_;rotate_left
    ·intro w' hSw;clear hSw;unfold zrh;first|(go_simp;done)|(go_simp;with_reducible rfl)
    simp only[zrh,Act.put,wA,wB,wC];refine wT 10 znq ?_ ?_ ?_;rotate_left
    ·intro w' hSw;clear hSw;unfold znq;first|(go_simp;done)|(go_simp;with_reducible rfl)
    simp only[znq,Act.put,wA,wB,wC];refine wT 11 znr ?_ ?_ ?_;rotate_left
    ·intro w' hSw;clear hSw;unfold znr;first|(go_simp;done)|(go_simp;with_reducible rfl)
    simp only[znr,Act.put,wA,wB,wC];refine wT 12 zns ?_ ?_ ?_;rotate_left
    ·intro w' hSw;obtain⟨s0,s1,s2,s3⟩:=hSw;unfold zns;first|(go_simp;done)|(go_simp;with_reducible rfl)
    simp only[zns,Act.put,wA,wB,wC];refine wpAnyH_ready (rs:=[13]) (by kernel_rfl) (by simp) ?_;refine AllReadyH.cons (o:=zpg) rfl (fun KK hKK => ?_) AllReadyH.nil;unfold zpg;go_simp;refine cM (BG.out _) ?_;rintro e w9 ⟨rfl,rfl⟩;refine hKK.out _ _ hHeld (fun hHeldC => ?_);clear hKK KK hHeldC;refine wT 14 znt ?_ ?_ ?_;rotate_left
    ·intro w' hSw;clear hSw;unfold znt;first|(go_simp;done)|(go_simp;with_reducible rfl)
    simp only[znt,Act.put,wA,wB,wC];refine wpAnyH_ready (rs:=[15]) (by kernel_rfl) (by simp) ?_;refine AllReadyH.cons (o:=zph) rfl (fun KK hKK => ?_) AllReadyH.nil;rw[if_pos (by kernel_rfl)];refine ze8 _ _ _ _ _ rfl _ _ rfl rfl _ _ (zgU _ _ _ _ _ _ HM.out H64.out TH.out hHeld.2.2.2) ?_;refine hKK.out _ _ ⟨Bk.cell PA.out hHeld.1,Bk.cell AB.out hHeld.2.1,Bk.cell AP.out hHeld.2.2.1,Bk.range AB.out hHeld.2.2.2⟩ (fun hHeldS => ?_);clear hKK KK hHeldS hHeld;simp only[zph,Act.put,wA,wB,wC];refine wpAnyH_done (by kernel_rfl) ?_ _;refine NoPanic.normal ?_
    all_goals (go_wp2;go_roundw)
    case rel=>exact⟨k+1,_,by omega,by go_num,RA.out.1,RA.out.2,LY.out⟩
    case measure=>simp[intOf];omega
   ·have g4:¬(k:Int) < (pn:Int):=by have:=HPN.out;omega
    have hpk2:zon ps k=0:=dif_neg hpk;rw[hpk2,zkO,zkN] at LY;clear hpk2 BX NB h64;go_wp2;go_roundw
    case rel=>exact⟨k+1,f,by omega,by go_num,J1.out.1,J1.out.2,LY.out⟩
    case measure=>simp[intOf];omega
  ·obtain rfl:k=n:=by omega
   have e0:f=T:=by
    have:=I.out.2.2;rw[List.drop_of_length_le (by have:=HN.out;omega),zgO] at this;exact this
   subst e0;have c4:=I.out.1.c4;have SH:Hid (shw f s.sh s.l=f):=by rw[<-HT.out];exact zio s ps
   have I1:Hid (Raw wr p s.n s.down s.fuse f s.sh s.l a b (.slice va k vc)/\Bf (Foot p a b (.slice va k vc)) w wr):=⟨I.out.1,I.out.2.1⟩;clear I hlt hk;go_wp2_with fail;go_loopw [45] (fun i wr=>∃(j:Nat) (fb:Nat->Bs),j<=k/\i = .int .i64 (j:Int)/\Hid (Raw wr p s.n s.down s.fuse f fb s.l a b (.slice va k vc)/\Bf (Foot p a b (.slice va k vc)) w wr/\shw f fb (s.l.drop j)=f)) (fun i wr=>k - (intOf i).toNat)
   case atStart=>exact⟨0,s.sh,Nat.zero_le _,rfl,I1.out.1,I1.out.2,SH.out⟩
   case round =>
    obtain⟨j,fb,hj,rfl,I⟩:=hrel;clear I1 c4;by_cases hjt:j < k
    ·have g1:(j:Int) < (k:Int):=by omega
     have hjl:j < s.l.length:=by have:=HN.out;omega
     obtain⟨g,rfl,RW⟩:=zdq I.out.1.row (fun x hx=>(HO.out.wk x hx).2) j hjl;have LW:Hid _:=ziw RW (HO.out.wk _ (List.getElem_mem hjl)).2;obtain⟨x,hx⟩:∃x,s.l[j]=x:=⟨_,rfl⟩;have h64:x.b.length=64:=by rw[<-hx];exact (HO.out.wk _ (List.getElem_mem hjl)).2
     have hxk:x.k < s.n:=by rw[<-hx];exact (HO.out.wk _ (List.getElem_mem hjl)).1
     rw[hx] at LW;have SN:Hid _:=zcm x h64 wr;have BX:Hid _:=znp x wr;have J1:Hid (Raw (wr.alloc (.cells (wc x).toArray 120)) p s.n s.down s.fuse f fb s.l a b (.slice (some ⟨g,0,none⟩) k vc)/\Bf (Foot p a b (.slice (some ⟨g,0,none⟩) k vc)) w (wr.alloc (.cells (wc x).toArray 120))):=⟨I.out.1.later ((bQ _ _).alloc (nL _) _),I.out.2.1.later ((bQ _ _).alloc (nL _) _)⟩;have LY:Hid (shw f (upd fb x.k (f x.k)) (s.l.drop (j+1))=f):=by
      have:=I.out.2.2;rw[List.drop_eq_getElem_cons hjl,hx,shw] at this;exact this
     have NB:Hid (∀q,Foot p a b (.slice (some ⟨g,0,none⟩) k vc) q->q≠wr.heap.size):=fun q hq=>Nat.ne_of_lt (I.out.1.lt hq)
     clear I RW hx;go_upto_region 9 with fail
     refine wp_region_lit ?_;refine wpList_plain rfl (fun K hK => ?_);go_simp;refine hK _ _ ?_;clear hK K;refine wpList_plain rfl (fun K hK=>zaC _ _ rfl _ rfl _ LW.out (hK _ _ ?_));refine wpList_plain rfl (fun K hK=>zbh _ rfl _ _ (ze7 _) (hK _ _ ?_));refine wpList_plain rfl (fun K hK=>zaE _ _ _ rfl _ rfl _ rfl _ SN.out (hK _ _ ?_));refine wpList_nil ?_;obtain⟨B,hB⟩:∃B,wr.heap.size=B:=⟨_,rfl⟩;obtain⟨W,hW⟩:∃W,wr.alloc (.cells (wc x).toArray 120)=W:=⟨_,rfl⟩;simp only[Act.put,wA,wB,wC];rw[hB] at NB BX ⊢;rw[hW] at BX J1 ⊢;clear LW SN hB hW;have c2:=J1.out.1.c2;have c3:=J1.out.1.c3;have RG:=J1.out.1.sa.at_ x.k hxk;have F64:=J1.out.1.sa.l64 x.k;have G3:(x.k:Int) < ((s.n:Nat):Int):=by omega
     have RA:Hid (Raw (W.drew.setCells b (x.k*64) (bc (f x.k))) p s.n s.down s.fuse f (upd fb x.k (f x.k)) s.l a b (.slice (some ⟨g,0,none⟩) k vc)/\Bf (Foot p a b (.slice (some ⟨g,0,none⟩) k vc)) w (W.drew.setCells b (x.k*64) (bc (f x.k)))) :=
      ⟨(J1.out.1.later (bQ _ _).drew).wholeB hxk F64,(J1.out.2.later (bQ _ _).drew).trans (Nx.refl _ _) (Bf.sets _ b (.inr (.inr (.inl rfl))) _ _ _)⟩
     have PA:Hid (b≠p):=J1.out.1.pb;have TH:Hid (W.drew.there b (x.k*64) 64):=(J1.out.1.later (bQ _ _).drew).sb.there hxk;have AB:Hid (b≠B):=NB.out b (.inr (.inr (.inl rfl)));have AA:Hid (b≠a):=Ne.symm J1.out.1.ab;have b0:=BX.out.1;obtain⟨N,hN⟩:∃N,s.n=N:=⟨_,rfl⟩;rw[hN] at c2 c3 G3;obtain⟨bs,hbs⟩:∃bs,f x.k=bs:=⟨_,rfl⟩;rw[hbs] at RG RA F64 LY;have H64:Hid (bs.length=64):=F64;go_upto_region 10 with fail
     clear J1 BX NB h64 F64;refine wp_region_noPanic ?_;refine wp_region_held_drew (S:=fun w'=>w'.cell? ⟨p,2,none⟩=some (.slice (some ⟨a,0,none⟩) N N)/\w'.cell? ⟨p,3,none⟩=some (.slice (some ⟨b,0,none⟩) N N)/\w'.cell? ⟨B,0,none⟩=some (.int .i64 (x.k:Int))/\w'.rangeAt a (x.k*64) (bc bs)) (by kernel_rfl) (⟨c2,c3,b0,RG⟩) (fun hHeld => ?_);obtain⟨Z,hZ⟩:∃Z,W.drew=Z:=⟨_,rfl⟩;rw[hZ] at hHeld RA TH ⊢;clear c2 c3 b0 RG hZ;refine wT 0 zri ?_ ?_ ?_;rotate_left
     ·intro w' hSw;clear hSw;unfold zri;first|(go_simp;done)|(go_simp;with_reducible rfl)
     simp only[zri,Act.put,wA,wB,wC];refine wT 1 zrj ?_ ?_ ?_;rotate_left
     ·intro w' hSw;clear hSw;unfold zrj;first|(go_simp;done)|(go_simp;with_reducible rfl)
     simp only[zrj,Act.put,wA,wB,wC];refine wT 2 zrk ?_ ?_ ?_;rotate_left
     ·intro w' hSw;clear hSw;unfold zrk;first|(go_simp;done)|(go_simp;with_reducible rfl)
     simp only[zrk,Act.put,wA,wB,wC];refine wT 3 zrl ?_ ?_ ?_;rotate_left
     ·intro w' hSw;obtain⟨s0,s1,s2,s3⟩:=hSw;unfold zrl;first|(go_simp;done)|(go_simp;with_reducible rfl)
     simp only[zrl,Act.put,wA,wB,wC];refine wT 4 zrm ?_ ?_ ?_;rotate_left
     ·intro w' hSw;clear hSw;unfold zrm;first|(go_simp;done)|(go_simp;with_reducible rfl)
     simp only[zrm,Act.put,wA,wB,wC];refine wT 5 zrn ?_ ?_ ?_;rotate_left
     ·intro w' hSw;obtain⟨s0,s1,s2,s3⟩:=hSw;unfold zrn;first|(go_simp;done)|(go_simp;with_reducible rfl)
     simp only[zrn,Act.put,wA,wB,wC];refine wT 6 zro ?_ ?_ ?_;rotate_left
     ·intro w' hSw;clear hSw;unfold zro;first|(go_simp;done)|(go_simp;with_reducible rfl)
     simp only[zro,Act.put,wA,wB,wC];refine wT 7 zrp ?_ ?_ ?_;rotate_left
     ·intro w' hSw;clear hSw;unfold zrp;first|(go_simp;done)|(go_simp;with_reducible rfl)
     simp only[zrp,Act.put,wA,wB,wC];refine wT 8 zrq ?_ ?_ ?_;rotate_left
     ·intro w' hSw;clear hSw;unfold zrq;first|(go_simp;done)|(go_simp;with_reducible rfl)
     simp only[zrq,Act.put,wA,wB,wC];refine wT 9 zrr ?_ ?_ ?_;rotate_left
     ·intro w' hSw;obtain⟨s0,s1,s2,s3⟩:=hSw;unfold zrr;first|(go_simp;done)|(go_simp;with_reducible rfl)
     simp only[zrr,Act.put,wA,wB,wC];refine wT 10 znu ?_ ?_ ?_;rotate_left
     ·intro w' hSw;clear hSw;unfold znu;first|(go_simp;done)|(go_simp;with_reducible rfl)
     simp only[znu,Act.put,wA,wB,wC];refine wT 11 znv ?_ ?_ ?_;rotate_left
     ·intro w' hSw;obtain⟨s0,s1,s2,s3⟩:=hSw;unfold znv;first|(go_simp;done)|(go_simp;with_reducible rfl)
     simp only[znv,Act.put,wA,wB,wC];refine wT 12 znw ?_ ?_ ?_;rotate_left
     ·intro w' hSw;clear hSw;unfold znw;first|(go_simp;done)|(go_simp;with_reducible rfl)
     simp only[znw,Act.put,wA,wB,wC];refine wpAnyH_take (i:=13) (oi:=zpi) (v:=(.agg (bc bs).toArray)) rfl (by kernel_rfl) (by kernel_rfl) (by kernel_rfl) (fun _ _ _ h=>h) (Or.inl ⟨by rfl,fun w' hSw=>zem _ _ rfl _ rfl _ (zis hSw.2.2.2 H64.out)⟩) (by assumption) ?_;simp only[zpi,Act.put,wA,wB,wC];refine wT 14 znx ?_ ?_ ?_;rotate_left
     ·intro w' hSw;clear hSw;unfold znx;first|(go_simp;done)|(go_simp;with_reducible rfl)
     simp only[znx,Act.put,wA,wB,wC];refine wpAnyH_ready (rs:=[15]) (by kernel_rfl) (by simp) ?_;refine AllReadyH.cons (o:=zpj) rfl (fun KK hKK => ?_) AllReadyH.nil;rw[if_pos (by kernel_rfl)];refine zaE _ _ _ rfl _ rfl _ rfl _ (zix TH.out H64.out) ?_;refine hKK.out _ _ ⟨Bk.cell PA.out hHeld.1,Bk.cell PA.out hHeld.2.1,Bk.cell AB.out hHeld.2.2.1,Bk.range AA.out hHeld.2.2.2⟩ (fun hHeldS => ?_);clear hKK KK hHeldS hHeld;simp only[zpj,Act.put];refine wpAnyH_done (by kernel_rfl) ?_ _;refine NoPanic.normal ?_
     all_goals (go_wp2;go_roundw)
     case rel=>exact⟨j+1,_,by omega,by go_num,RA.out.1,RA.out.2,LY.out⟩
     case measure=>simp[intOf];omega
    ·obtain rfl:j=k:=by omega
     have e1:fb=f:=by
      have:=I.out.2.2;rw[List.drop_of_length_le (by have:=HN.out;omega),shw] at this;exact this
     subst e1;have R2:=I.out.1.setRow (w1:=wr) (u := .slice none 0 0) (m:=[]) ⟨rfl,rfl,rfl,nL _,fun _ _ _=>rfl⟩ (World.ownsRow_nil _ _ _ _) (fun g e=>by cases e);have R3:=(R2.1.setDown false).setFuse 0;have B3:Bf (Foot p a b (.slice va j vc)) w (((wr.setCell ⟨p,4,none⟩ (.slice none 0 0)).setCell ⟨p,0,none⟩ (.int .i64 0)).setCell ⟨p,1,none⟩ (.int .i64 0)):=((I.out.2.1.trans (Nx.refl _ _) R2.2.2).trans (Nx.refl _ _) (Bf.set _ _ p 0 _ (.inl rfl))).trans (Nx.refl _ _) (Bf.set _ _ p 1 _ (.inl rfl));have FF:Hid (Stp w p (Foot p a b (.slice va j vc)) (crS s ps) (((wr.setCell ⟨p,4,none⟩ (.slice none 0 0)).setCell ⟨p,0,none⟩ (.int .i64 0)).setCell ⟨p,1,none⟩ (.int .i64 0))):=by
      refine⟨_,⟨HO.out.cr ps,a,b,.slice none 0 0,rfl,?_⟩,(Nx.refl w _).trans R2.2.1 I.out.2.1.size,B3⟩;have e2:(crS s ps).f=fb:=HT.out;have e3:(crS s ps).sh=fb:=HT.out;rw[e2,e3];exact R3
     have c0:=I.out.1.c0;have c1:=I.out.1.c1;have c4:=I.out.1.c4;have f0:=I.out.1.fr 0;have f1:=I.out.1.fr 1;have f4:=I.out.1.fr 4;clear I R2 R3 B3;go_wp2;go_ret;exact⟨rfl,FF.out⟩
def repAt:Go.Shelf.Ren:=⟨fun x=>if x=99 then 311 else if x=105 then 258 else if x=165 then 312 else if x=166 then 290 else if x=169 then 291 else if x=170 then 313 else if x=206 then 293 else if x=212 then 310 else if x=240 then 340 else if x=241 then 349 else if x=263 then 347 else if x=264 then 348 else if x=276 then 370 else if x=277 then 373 else 0,fun x=>if x=0 then 0 else if x=3 then 3 else if x=4 then 4 else if x=5 then 5 else if x=9 then 9 else if x=20 then 20 else if x=37 then 99 else if x=46 then 124 else if x=51 then 192 else if x=53 then 80 else if x=70 then 346 else if x=72 then 348 else if x=75 then 350 else if x=76 then 351 else if x=80 then 280 else if x=109 then 367 else if x=127 then 247 else if x=146 then 393 else if x=148 then 375 else if x=164 then 408 else 0,fun n=>n⟩
theorem repLies:Lays.n105 Tryz.prog repAt :=
 { mixed:=by kernel_rfl,f99:=by kernel_rfl,f105:=by kernel_rfl,f165:=by kernel_rfl,f166:=by kernel_rfl,f169:=by kernel_rfl,f170:=by kernel_rfl,f206:=by kernel_rfl,f212:=by kernel_rfl,f240:=by kernel_rfl,f241:=by kernel_rfl,f263:=by kernel_rfl,f264:=by kernel_rfl,f276:=by kernel_rfl,f277:=by kernel_rfl,t0:=by kernel_rfl,a0:=fun _=>by kernel_rfl,z0:=fun _=>by kernel_rfl,v0:=fun _=>by kernel_rfl,t3:=by kernel_rfl,a3:=fun _=>by kernel_rfl,z3:=fun _=>by kernel_rfl,v3:=fun _=>by kernel_rfl,t4:=by kernel_rfl,a4:=fun _=>by kernel_rfl,z4:=fun _=>by kernel_rfl,v4:=fun _=>by kernel_rfl,t5:=by kernel_rfl,a5:=fun _=>by kernel_rfl,z5:=fun _=>by kernel_rfl,v5:=fun _=>by kernel_rfl,t9:=by kernel_rfl,a9:=fun _=>by kernel_rfl,z9:=fun _=>by kernel_rfl,v9:=fun _=>by kernel_rfl,t20:=by kernel_rfl,a20:=fun _=>by kernel_rfl,z20:=fun _=>by kernel_rfl,v20:=fun _=>by kernel_rfl,t37:=by kernel_rfl,a37:=fun _=>by kernel_rfl,z37:=fun _=>by kernel_rfl,v37:=fun _=>by kernel_rfl,t46:=by kernel_rfl,a46:=fun _=>by kernel_rfl,z46:=fun _=>by kernel_rfl,v46:=fun _=>by kernel_rfl,t51:=by kernel_rfl,a51:=fun _=>by kernel_rfl,z51:=fun _=>by kernel_rfl,v51:=fun _=>by kernel_rfl,t53:=by kernel_rfl,a53:=fun _=>by kernel_rfl,z53:=fun _=>by kernel_rfl,v53:=fun _=>by kernel_rfl,t70:=by kernel_rfl,a70:=fun _=>by kernel_rfl,z70:=fun _=>by kernel_rfl,v70:=fun _=>by kernel_rfl,t72:=by kernel_rfl,a72:=fun _=>by kernel_rfl,z72:=fun _=>by kernel_rfl,v72:=fun _=>by kernel_rfl,t75:=by kernel_rfl,a75:=fun _=>by kernel_rfl,z75:=fun _=>by kernel_rfl,v75:=fun _=>by kernel_rfl,t76:=by kernel_rfl,a76:=fun _=>by kernel_rfl,z76:=fun _=>by kernel_rfl,v76:=fun _=>by kernel_rfl,t109:=by kernel_rfl,a109:=fun _=>by kernel_rfl,z109:=fun _=>by kernel_rfl,v109:=fun _=>by kernel_rfl,t127:=by kernel_rfl,a127:=fun _=>by kernel_rfl,z127:=fun _=>by kernel_rfl,v127:=fun _=>by kernel_rfl,t146:=by kernel_rfl,a146:=fun _=>by kernel_rfl,z146:=fun _=>by kernel_rfl,v146:=fun _=>by kernel_rfl,t148:=by kernel_rfl,a148:=fun _=>by kernel_rfl,z148:=fun _=>by kernel_rfl,v148:=fun _=>by kernel_rfl,t164:=by kernel_rfl,a164:=fun _=>by kernel_rfl,z164:=fun _=>by kernel_rfl,v164:=fun _=>by kernel_rfl }
theorem repMore:Builder.Extra Tryz.prog repAt :=
 { sizeBuilder:=by kernel_rfl,liesBuilder:=by kernel_rfl,t5:=by kernel_rfl,a5:=fun _=>by kernel_rfl,z5:=fun _=>by kernel_rfl,v5:=fun _=>by kernel_rfl,infoByte:=by kernel_rfl,cellsByte:=by kernel_rfl,sizeByte:=by kernel_rfl,neB5:=by decide }
theorem zny (c:UInt8) (n:Nat) (h1:n<=1000) (w:Wo) :
  Cl 258 #[.string ⟨#[c]⟩,.int .i64 (n:Int)] w fun e w'=>e = .returned (sv (List.replicate n c))/\Bw w w':=by
 have hs:(⟨#[c]⟩:Ba).size=1:=rfl;refine (Any.strings_Repeat repLies repMore ⟨#[c]⟩ n w (by omega) (by rw[hs];omega)).mono fun e w' ⟨he,hb⟩=>⟨?_,hb⟩
 rw[he];have:Lib.repeatL [c] n=List.replicate n c:=by
  simpa using Lib.repeatL_replicate c 1 n
 simp[st,this]
theorem zpk:(Tryz.prog.info? 5).map (fun i=>(i.zero,i.size,i.bytes))=some (some (.int .u8 0),1,1):=by kernel_rfl
structure Dl (w wr:Wo) (p:Nat) (F:Nat->Prop) (s:St):Prop where
 at_:KAt wr p F s
 new:∀g,F g->w.heap.size<=g
 below:Bw w wr
theorem Dl.stp {w wr w':Wo} {p:Nat} {F F':Nat->Prop} {s t:St} (h:Dl w wr p F s) (h1:KAt w' p F' t) (h2:Nx wr F F') (h3:Bf F wr w'):Dl w w' p F' t :=
 ⟨h1,fun g hg=>by
  rcases h2 g hg with c|c
  ·exact h.new g c
  ·exact Nat.le_trans h.below.size c,h.below.trans (h3.below h.new h.below.size)⟩
theorem Dl.later {w wr w':Wo} {p:Nat} {F:Nat->Prop} {s:St} (h:Dl w wr p F s) (hb:Bw wr w'):Dl w w' p F s:=⟨h.at_.later hb,h.new,chain h.below hb⟩
theorem newL (w wr:Wo) (n:Nat) (h1:1<=n) (h2:n<=1024) (hb:Bw w wr) :
  Cl 11 #[.int .i64 (n:Int)] wr fun e w'=>∃p F,e = .returned (.tuple #[.pointer (some ⟨p,0,none⟩),.int .i64 0])/\Dl w w' p F (St.init n)/\(∀g,F g->wr.heap.size<=g)/\Bw wr w' :=
 (new_any n h1 h2 wr).mono fun _ _ ⟨p,F,he,k1,k2,k3⟩=>⟨p,F,he,⟨k1,fun g hg=>Nat.le_trans hb.size (k2 g hg),chain hb k3⟩,k2,k3⟩
theorem zpl (w wr:Wo) (p:Nat) (F:Nat->Prop) (s:St) (k:Int) (t:Ba) (hl:s.l.length<=1000000) (h:Dl w wr p F s) :
  Cl 292 #[.pointer (some ⟨p,0,none⟩),.int .i64 k,.string t] wr fun e w'=>e = .returned (.int .i64 (wrE s k t.data.toList))/\∃F',Dl w w' p F' (wrS s k t.data.toList)/\Nx wr F F'/\Bf F wr w' :=
 (ziv p F s k t wr h.at_ hl).mono fun _ _ ⟨he,F',h1,h2,h3⟩=>⟨he,F',h.stp h1 h2 h3,h2,h3⟩
theorem zrs (w wr:Wo) (p:Nat) (F:Nat->Prop) (s:St) (hl:s.l.length<=1000000) (h:Dl w wr p F s) :
  Cl 283 #[.pointer (some ⟨p,0,none⟩)] wr fun e w'=>e = .returned (.int .i64 (syE s))/\∃F',Dl w w' p F' (syS s)/\Nx wr F F'/\Bf F wr w' :=
 (zkT p F s wr h.at_ hl).mono fun _ _ ⟨he,F',h1,h2,h3⟩=>⟨he,F',h.stp h1 h2 h3,h2,h3⟩
theorem crashL (w wr:Wo) (p:Nat) (F:Nat->Prop) (s:St) (pa:Option Addr) (pn pc:Nat) (ps:List Int) (hpn:ps.length=pn) (hl:s.l.length<=1000000) (hp:IntAt wr pa ps) (hF:∀x,pa=some x->0 < ps.length->¬F x.block) (h:Dl w wr p F s) :
  Cl 21 #[.pointer (some ⟨p,0,none⟩),.slice pa pn pc] wr fun e w'=>e = .returned (.int .i64 0)/\∃F',Dl w w' p F' (crS s ps)/\Nx wr F F'/\Bf F wr w' :=
 (ziy p F s pa pn pc ps hpn wr h.at_ hl hp hF).mono fun _ _ ⟨he,F',h1,h2,h3⟩=>⟨he,F',h.stp h1 h2 h3,h2,h3⟩
theorem zrt (w wr:Wo) (p:Nat) (F:Nat->Prop) (s:St) (k:Int) (h:Dl w wr p F s) :
  Cl 289 #[.pointer (some ⟨p,0,none⟩),.int .i64 k] wr fun e w'=>e = .returned (.tuple #[sv (rdV s k),.int .i64 (rch s k)])/\w'=wr:=read_any p F s k wr h.at_
def zs:Nat->Bs:=fun _=>List.replicate 64 0
theorem zcn (a b:Bs):st a++st b=st (a++b):=by
 apply ByteArray.ext;rw[ByteArray.data_append];simp[st]
theorem zaf (a:Bs):(st a).size=a.length:=by simp[st,ByteArray.size]
theorem zco (l:Bs) (i j:Nat):(st l).extract i j=st ((l.take j).drop i):=by
 apply ByteArray.ext;apply Array.ext';simp[st,ByteArray.data_extract,List.extract_eq_take_drop,List.drop_take]
def cC:Bs:=List.replicate 61 97
end Go.Proofs.YtjcppbhgjchjaaaGreatDoor.Sto
namespace Go.Proofs.YtjcppbhgjchjaaaGreatDoor
open Go.RowKit Go.Proofs.Fd
def zkU:Go.Shelf.Ren:=⟨fun _ => 79, fun t=>if t=3 then 3 else if t=4 then 4 else if t=5 then 5 else if t=9 then 9 else if t=37 then 99 else if t=47 then 247 else 0, fun n=>n⟩
theorem zgV:LaysPu.n25 Tryz.prog zkU :=
 { mixed:=by kernel_rfl,f25:=by kernel_rfl,t0:=by kernel_rfl,a0:=fun _=>by kernel_rfl,z0:=fun _=>by kernel_rfl,v0:=fun _=>by kernel_rfl,i0:=by kernel_rfl,t3:=by kernel_rfl,a3:=fun _=>by kernel_rfl,z3:=fun _=>by kernel_rfl,v3:=fun _=>by kernel_rfl,i3:=by kernel_rfl,t4:=by kernel_rfl,a4:=fun _=>by kernel_rfl,z4:=fun _=>by kernel_rfl,v4:=fun _=>by kernel_rfl,i4:=by kernel_rfl,t5:=by kernel_rfl,a5:=fun _=>by kernel_rfl,z5:=fun _=>by kernel_rfl,v5:=fun _=>by kernel_rfl,i5:=by kernel_rfl,t9:=by kernel_rfl,a9:=fun _=>by kernel_rfl,z9:=fun _=>by kernel_rfl,v9:=fun _=>by kernel_rfl,i9:=by kernel_rfl,t37:=by kernel_rfl,a37:=fun _=>by kernel_rfl,z37:=fun _=>by kernel_rfl,v37:=fun _=>by kernel_rfl,i37:=by kernel_rfl,t47:=by kernel_rfl,a47:=fun _=>by kernel_rfl,z47:=fun _=>by kernel_rfl,v47:=fun _=>by kernel_rfl,i47:=by kernel_rfl }
theorem ziA (s:Ba) (hs:s.size<=281474976710656) (w:Wo) :
  Cl 79 #[.string s] w fun e w'=>e = .returned (.string s)/\Bw w w':=AnyPu.stringslite_Clone zgV s w hs
theorem zbU (s:Ba) (hs:s.size<=281474976710656) (w:Wo) :
  Cl 46 #[.string s] w fun e w'=>e = .returned (.string s)/\Bw w w':=by
 go_enter Tryz.func46, Tryz.ntmps46;go_wp2_with fail;refine cM (ziA s hs _) ?_;rintro e w1 ⟨rfl,hb⟩;have B1:Hid (Bw w w1):=hb;clear hb;go_wp2;go_ret;exact⟨rfl,B1.out⟩
end Go.Proofs.YtjcppbhgjchjaaaGreatDoor
namespace Go.Proofs.Lg
open Go.Proofs.Dk
def mk (l:Bs):Bs:=(Hs.sha l).take 16
theorem zcP (l:Bs):(mk l).length=16:=rfl
def zr (n:Nat):Bs:=List.replicate n 0
theorem zbH (n:Nat):(zr n).length=n:=List.length_replicate
def ben (n m:Nat):Bs:=(List.range m).map fun i=>UInt8.ofNat (n / 2 ^ (8*(m - 1 - i)))
theorem zav (n m:Nat):(ben n m).length=m:=by simp[ben]
def nm (l:Bs):Nat:=l.foldl (fun n b=>n*256+b.toNat) 0
def pdd (b:Bs):Bs:=b++zr ((64 - b.length % 64) % 64)
theorem ziB (b:Bs):(pdd b).length=64*((b.length+63) / 64):=by
 rw[pdd,List.length_append,zbH];omega
def hf (g:Nat):Bs:=[76,79,71,0]++ben g 4
theorem zf6 (g:Nat):(hf g).length=8:=by rw[hf,List.length_append,zav];rfl
def hm (g:Nat):Bs:=mk (hf g)
def hd (g:Nat):Bs:=pdd (hf g++hm g)
theorem zbi (g:Nat):(hd g).length=64:=by
 rw[hd,ziB,List.length_append,zf6,hm,zcP]
def rmk (a t:Bs):Bs:=mk (a++ben t.length 2++t)
def rcd (a t:Bs):Bs:=pdd (ben t.length 2++rmk a t++t)
def sn (t:Bs):Nat:=(18+t.length+63) / 64
theorem zaF (a t:Bs):(rcd a t).length=64*sn t:=by
 rw[rcd,ziB,List.length_append,List.length_append,zav,rmk,zcP];rfl
theorem zf7 (t:Bs):1<=sn t:=by unfold sn;omega
def gen (b:Bs):Nat:=if nm ((b.drop 4).take 4)<=2147483647/\(hd (nm ((b.drop 4).take 4))).isPrefixOf b=true then nm ((b.drop 4).take 4) else 0
theorem zlX (b:Bs):gen b<=2147483647:=by
 unfold gen
 split
 ·rename_i h
  exact h.1
 ·exact Nat.zero_le _
def rof (b a:Bs):Option Bs :=
 if b.length < 64 then none
 else if nm (b.take 2) < 1\/2000 < nm (b.take 2)\/b.length < 18+nm (b.take 2) then none
 else if (rcd a ((b.drop 18).take (nm (b.take 2)))).isPrefixOf b=true then some ((b.drop 18).take (nm (b.take 2))) else none
theorem zen {b a t:Bs} (h:rof b a=some t):64*sn t<=b.length/\1<=t.length/\t.length<=2000:=by
 unfold rof at h
 split at h
 ·cases h
 ·split at h
  ·cases h
  ·split at h
   ·rename_i h1 h2 h3
    injection h with h
    obtain⟨r,hr⟩:=List.isPrefixOf_iff_prefix.1 h3;have hl:=congrArg List.length hr;rw[List.length_append,zaF,h] at hl;refine⟨by omega,?_⟩;rw[<-h,List.length_take,List.length_drop];omega
   ·cases h
def zb7:Nat->Bs->Bs->List Bs
 | 0,_,_=>[]
 | m+1,b,a=>match rof b a with
  | none=>[]
  | some t=>t::zb7 m (b.drop (64*sn t)) (rmk a t)
def tkn:Nat->List Bs->Nat
 | k,[]=>k
 | k,t::l=>tkn (k+sn t) l
def mks:Bs->List Bs->Bs
 | a,[]=>a
 | a,t::l=>mks (rmk a t) l
theorem zds:∀(l:List Bs) (k:Nat) (t:Bs),tkn k (l++[t])=tkn k l+sn t
 | [],_,_=>rfl
 | x::l,k,t=>by rw[List.cons_append,tkn,zds l,tkn]
theorem zdt:∀(l:List Bs) (a:Bs) (t:Bs),mks a (l++[t])=rmk (mks a l) t
 | [],_,_=>rfl
 | x::l,a,t=>by rw[List.cons_append,mks,zdt l,mks]
theorem zdu:∀(l:List Bs) (a:Bs),a.length=16->(mks a l).length=16
 | [],_,h=>h
 | _::l,_,_=>zdu l _ (zcP _)
def thn (x:Int×St) (k:St->Int×St):Int×St:=if x.1=0 then k x.2 else x
theorem zao {x:Int×St} {k:St->Int×St} (h:x.1=0):thn x k=k x.2:=if_pos h
theorem zaA {x:Int×St} {k:St->Int×St} (h:x.1≠0):thn x k=x:=if_neg h
def chs:Nat->Bs->List Bs
 | 0,_=>[]
 | m+1,b=>b.take 64::chs m (b.drop 64)
theorem zaL:∀(m:Nat) (b:Bs),(chs m b).length=m
 | 0,_=>rfl
 | m+1,b=>by rw[chs,List.length_cons,zaL m]
theorem zlY:∀(m:Nat) (b:Bs),b.length=64*m->∀x∈chs m b,x.length=64
 | 0,_,_,x,hx=>by cases hx
 | m+1,b,h,x,hx=>by
  rcases List.mem_cons.1 hx with rfl|hx
  ·rw[List.length_take]
   omega
  ·exact zlY m (b.drop 64) (by rw[List.length_drop];omega) x hx
def wrs:St->Nat->List Bs->Int×St
 | s,_,[]=>(0,s)
 | s,k,b::l=>thn (wrE s k b,wrS s k b) fun s'=>wrs s' (k+1) l
def wrb (s:St) (k:Nat) (b:Bs):Int×St:=wrs s k (chs (b.length / 64) b)
def cls:St->Nat->Nat->Bool->Int×St
 | s,_,0,d=>if d=true then (syE s,syS s) else (0,s)
 | s,k,m+1,d=>if s.sh k=zr 64 then cls s (k+1) m d else thn (wrE s k (zr 64),wrS s k (zr 64)) fun s'=>cls s' (k+1) m true
def cln (s:St) (k m:Nat):Int×St:=if s.down=true then (150,s) else cls s k m false
def pts:St->Nat->Nat->Bs->List Bs->Int×St
 | s,_,_,_,[]=>(0,s)
 | s,k,tk,a,t::l=>thn (wrb s (k+tk) (rcd a t)) fun s'=>pts s' k (tk+sn t) (rmk a t) l
def bgn (s:St) (k H g:Nat) (ts:List Bs):Int×St :=
 thn (cln s k H) fun s1=>thn (pts s1 k 1 (hm g) ts) fun s2=>thn (syE s2,syS s2) fun s3=>thn (wrb s3 k (hd g)) fun s4=>(syE s4,syS s4)
def hb (s:St) (k H:Nat):Bs:=(List.range H).flatMap fun i=>s.sh (k+i)
theorem zcp (s:St) (k H:Nat):hb s k (H+1)=hb s k H++s.sh (k+H):=by
 simp[hb,List.range_succ]
theorem zcQ {s:St} (h:Ok s) (k H:Nat):(hb s k H).length=64*H:=by
 induction H with
 | zero=>rfl
 | succ n ih =>
  rw[zcp,List.length_append,ih,h.sh64];omega
structure Lo where
 h:Nat
 g:Nat
 ts:List Bs
def Lo.tk (x:Lo):Nat:=tkn 1 x.ts
def Lo.mr (x:Lo):Bs:=mks (hm x.g) x.ts
def use (s:St):Nat×Nat:=if gen (hb s 0 (s.n / 2)) < gen (hb s (s.n / 2) (s.n / 2)) then (1,gen (hb s (s.n / 2) (s.n / 2))) else (0,gen (hb s 0 (s.n / 2)))
def zdP (s:St) (k H g:Nat):List Bs:=zb7 H ((hb s k H).drop 64) (hm g)
def opn (s:St):(Int×St)×Lo :=
 if s.n / 2 < 2 then ((4,s),⟨0,0,[]⟩)
 else if s.down=true then ((150,s),⟨0,0,[]⟩)
 else if (use s).2=0 then (bgn s 0 (s.n / 2) 1 [],⟨0,1,[]⟩)
 else
  let ts:=zdP s ((use s).1*(s.n / 2)) (s.n / 2) (use s).2
  (cln s ((use s).1*(s.n / 2)+tkn 1 ts) (s.n / 2 - tkn 1 ts),⟨(use s).1,(use s).2,ts⟩)
def may (t:Bs):Int:=if t.length < 1 then 1 else if 2000 < t.length then 2 else 0
def app (s:St) (x:Lo) (t:Bs):(Int×St)×Lo :=
 if may t≠0 then ((may t,s),x)
 else if s.n / 2 < x.tk+sn t then ((151,s),x)
 else
  let y:=wrb s (x.h*(s.n / 2)+x.tk) (rcd x.mr t)
  (y,if y.1=0 then { x with ts:=x.ts++[t] } else x)
def zeN:List Bs->Int
 | []=>0
 | t::l=>if may t≠0 then may t else zeN l
def sns:List Bs->Nat
 | []=>0
 | t::l=>sn t+sns l
def cmp (s:St) (x:Lo) (ts:List Bs):(Int×St)×Lo :=
 if zeN ts≠0 then ((zeN ts,s),x)
 else if s.n / 2 - 1 < sns ts then ((151,s),x)
 else if 2147483647<=x.g then ((2,s),x)
 else
  let y:=bgn s ((1 - x.h)*(s.n / 2)) (s.n / 2) (x.g+1) ts
  (y,if y.1=0 then ⟨1 - x.h,x.g+1,ts⟩ else x)
theorem zpm (s:St):(use s).2<=2147483647:=by
 unfold use
 split
 ·exact zlX _
 ·exact zlX _
theorem zpn (s:St):(opn s).2.g<=2147483647:=by
 unfold opn
 split
 ·exact Nat.zero_le _
 ·split
  ·exact Nat.zero_le _
  ·split
   ·show (1:Nat)<=_
    decide
   ·exact zpm s
theorem zeo:∀(m:Nat) (b a:Bs) (k:Nat),b.length=64*m->tkn k (zb7 m b a)<=k+m/\∀t∈zb7 m b a,1<=t.length/\t.length<=2000
 | 0,_,_,k,_=>⟨nL _,fun _ h=>by cases h⟩
 | m+1,b,a,k,hb=>by
  rw[zb7]
  split
  ·exact⟨Nat.le_add_right _ _,fun _ h=>by cases h⟩
  ·rename_i t ht
   have hl:=zen ht;have hp:=zf7 t;refine⟨?_,fun x hx => ?_⟩
   ·rw[tkn]
    obtain⟨d,hd⟩:∃d,m=d+(sn t - 1):=⟨m - (sn t - 1),by omega⟩;have:=scan_le m d (b.drop (64*sn t)) (rmk a t) (k+sn t) (by rw[List.length_drop];omega);omega
   ·rcases List.mem_cons.1 hx with rfl|hx
    ·exact hl.2
    ·exact scan_ok m _ _ x hx
 where
 scan_ok:∀(m:Nat) (b a:Bs),∀t∈zb7 m b a,1<=t.length/\t.length<=2000
  | 0,_,_,_,h=>by cases h
  | m+1,b,a,x,hx=>by
   rw[zb7] at hx
   split at hx
   ·cases hx
   ·rename_i t ht
    rcases List.mem_cons.1 hx with rfl|hx
    ·exact (zen ht).2
    ·exact scan_ok m _ _ x hx
 scan_le:∀(m d:Nat) (b a:Bs) (k:Nat),b.length=64*d->tkn k (zb7 m b a)<=k+d
  | 0,_,_,_,_,_=>Nat.le_add_right _ _
  | m+1,d,b,a,k,hb=>by
   rw[zb7]
   split
   ·exact Nat.le_add_right _ _
   ·rename_i t ht
    have hl:=zen ht;rw[tkn];have:=scan_le m (d - sn t) (b.drop (64*sn t)) (rmk a t) (k+sn t) (by rw[List.length_drop];omega);omega
end Go.Proofs.Lg
