/- Parts: DkW,DkS. -/
import Derived.Test.YtjpaodepnacimaaGreatDoorZdG08
import Derived.Deep.WholeRow
import Derived.Deep.Cut
namespace Go.Proofs.YtjpaodepnacimaaGreatDoor
open Go.RowKit Go.Proofs.Fd Go.Proofs.Dk
set_option maxRecDepth 20000
theorem Raw.wrote {w:World} {p:Nat} {s:St} {a b:Nat} {v:Value} {x:Wt} (h:Raw w p s.n s.down s.fuse s.f (upd s.sh x.k x.b) s.l a b v) {w1:World} (hg:w.grownBy w1 v.ownBlock) {u:Value} (ho:OwnsW w1 u (s.l++[x])) (hl:u.ownBlock=v.ownBlock∨u.ownBlock=some w.heap.size) (hk:Ok { s with l:=s.l++[x] }) :
  (∃F',KAt (w1.setCell ⟨p,4,none⟩ u) p F' { s with l:=s.l++[x] }∧Nx w (Foot p a b v) F')∧Bf (Foot p a b v) w (w1.setCell ⟨p,4,none⟩ u):=by
 obtain⟨r1,r2,r3⟩:=h.setRow hg ho (fun g e=>by
  rcases hl with h1|h1
  ·exact .inl (h1.symm.trans e)
  ·rw[h1] at e
   injection e with e
   exact .inr (by omega))
 refine⟨⟨Foot p a b u,⟨hk,a,b,u,rfl,?_⟩,r2⟩,r3⟩
 have e:St.sh { s with l:=s.l++[x] }=upd s.sh x.k x.b:=lay_app _ _ _
 rw[e]
 exact r1
theorem wrote_all (W:World) (p n:Nat) (dn:Bool) (fu:Nat) (f:Nat→Bs) (l:List Wt) (a b:Nat) (v:Value) (x:Wt) (R:Raw W p n dn fu f (upd (lay f l) x.k x.b) l a b v) (hl:l.length≤1000000) (hx:x.b.length=64) (hk:Ok ⟨n,f,l++[x],fu,dn⟩) :
  ∃va vc w',(Builtin.append_ #[67, 67] 67 #[v,.slice (some ⟨W.heap.size,0,none⟩) 1 1]).run Tryz.prog (W.alloc (.cells (wc x).toArray 149)) = .ok (.slice va (l++[x]).length vc) w'
   ∧ w'.cell? ⟨p,4,none⟩=some v∧w'.frozen? ⟨p,4,none⟩=false
   ∧ (∃F',KAt (w'.setCell ⟨p,4,none⟩ (.slice va (l++[x]).length vc)) p F' ⟨n,f,l++[x],fu,dn⟩∧Nx W (Foot p a b v) F')∧Bf (Foot p a b v) W (w'.setCell ⟨p,4,none⟩ (.slice va (l++[x]).length vc)):=by
 have nb:Below W.heap.size W (W.alloc (.cells (wc x).toArray 149)):=(Below.refl _ _).alloc (Nat.le_refl _) _
 have R1:=R.later nb
 obtain⟨va,vc,w',r1,r2,r3,r4⟩:=app_w (W.alloc (.cells (wc x).toArray 149)) 67 v l R1.row hl x hx W.heap.size (fun j u hu=>by
  rw[Nat.zero_add,World.cell?_alloc_new]
  simpa using hu)
 have hp:w'.heap[p]?=_:=r3.block p (R1.lt (.inl rfl)) (fun e=>R1.pv e.symm)
 have:=Raw.wrote (s:=⟨n,f,l,fu,dn⟩) R1 r3 r2 r4 hk
 obtain⟨⟨F',k1,k2⟩,k3⟩:=this
 exact⟨va,vc,w',r1,(World.cell?_of_block (a:=⟨p,4,none⟩) hp).trans R1.c4,(World.frozen?_of_block (a:=⟨p,4,none⟩) hp).trans (R1.fr 4),⟨F',k1,(Nx.refl W _).trans k2 nb.size⟩,(Bf.of nb).trans (Nx.refl _ _) k3⟩
def opw0:Oper:={ dst:=some 28,op:=Go.Op.move (Go.Operand.tmp 0),type := 23, pos := "disk.go:68", after:=#[],guard:=none }
def opw1:Oper:={ dst:=some 29,op:=Go.Op.move (Go.Operand.tmp 0),type := 23, pos := "disk.go:68", after:=#[],guard:=none }
def opw2:Oper:={ dst:=some 30,op:=Go.Op.nilCheck (Go.Operand.tmp 29),type:=0,pos := "disk.go:68", after:=#[{ on:=1,ground:=Go.Ground.data }],guard:=none }
def opw3:Oper:={ dst:=some 31,op:=Go.Op.fieldAddr 69 (Go.Operand.tmp 30) 4,type:=0,pos := "disk.go:68", after:=#[{ on:=2,ground:=Go.Ground.data }],guard:=none }
def opw4:Oper:={ dst:=some 32,op:=Go.Op.load 67 (Go.Operand.tmp 31),type := 67, pos := "disk.go:68", after:=#[{ on:=3,ground:=Go.Ground.data }],guard:=none }
def opw5:Oper:={ dst:=some 33,op:=Go.Op.move (Go.Operand.tmp 1),type := 3, pos := "disk.go:68", after:=#[],guard:=none }
def opw6:Oper:={ dst:=some 34,op:=Go.Op.move (Go.Operand.tmp 0),type := 23, pos := "disk.go:68", after:=#[],guard:=none }
def opw7:Oper:={ dst:=some 35,op:=Go.Op.nilCheck (Go.Operand.tmp 34),type:=0,pos := "disk.go:68", after:=#[{ on:=6,ground:=Go.Ground.data }],guard:=none }
def opw8:Oper:={ dst:=some 36,op:=Go.Op.fieldAddr 69 (Go.Operand.tmp 35) 3,type:=0,pos := "disk.go:68", after:=#[{ on:=7,ground:=Go.Ground.data }],guard:=none }
def opw9:Oper:={ dst:=some 37,op:=Go.Op.load 66 (Go.Operand.tmp 36),type := 66, pos := "disk.go:68", after:=#[{ on:=8,ground:=Go.Ground.data }],guard:=none }
def opw10:Oper:={ dst:=some 38,op:=Go.Op.move (Go.Operand.tmp 1),type := 3, pos := "disk.go:68", after:=#[],guard:=none }
def opw11:Oper:={ dst:=some 39,op:=Go.Op.indexAddr 66 (Go.Operand.tmp 37) (Go.Operand.tmp 38),type:=0,pos := "disk.go:68", after:=#[{ on:=9,ground:=Go.Ground.data },{ on:=10,ground:=Go.Ground.data }],guard:=none }
def opw12:Oper:={ dst:=some 40,op:=Go.Op.load 96 (Go.Operand.tmp 39),type := 96, pos := "disk.go:68", after:=#[{ on:=11,ground:=Go.Ground.data }],guard:=none }
def opw13:Oper:={ dst:=some 41,op:=Go.Op.build 149 #[(0,Go.Operand.tmp 33),(1,Go.Operand.tmp 40)],type := 149, pos := "disk.go:68", after:=#[{ on:=5,ground:=Go.Ground.data },{ on:=12,ground:=Go.Ground.data }],guard:=none }
def opw14:Oper:={ dst:=some 42,op:=Go.Op.buildSlice 67 1 #[(0,Go.Operand.tmp 41)],type := 67, pos := "disk.go:68", after:=#[{ on:=13,ground:=Go.Ground.data }],guard:=none }
def opw15:Oper:={ dst:=some 43,op:=Go.Op.call { callee:=Go.Callee.builtin Go.Builtin.append,args:=#[Go.Operand.tmp 32,Go.Operand.tmp 42],argTypes:=#[67, 67] },type := 67, pos := "disk.go:68", after:=#[{ on:=4,ground:=Go.Ground.data },{ on:=14,ground:=Go.Ground.data }],guard:=none }
def opw16:Oper:={ dst:=some 44,op:=Go.Op.nilCheck (Go.Operand.tmp 28),type:=0,pos := "disk.go:68", after:=#[{ on:=0,ground:=Go.Ground.data },{ on:=0,ground:=Go.Ground.phase },{ on:=1,ground:=Go.Ground.phase },{ on:=2,ground:=Go.Ground.phase },{ on:=3,ground:=Go.Ground.phase },{ on:=4,ground:=Go.Ground.phase },{ on:=5,ground:=Go.Ground.phase },{ on:=6,ground:=Go.Ground.phase },{ on:=7,ground:=Go.Ground.phase },{ on:=8,ground:=Go.Ground.phase },{ on:=9,ground:=Go.Ground.phase },{ on:=10,ground:=Go.Ground.phase },{ on:=11,ground:=Go.Ground.phase },{ on:=12,ground:=Go.Ground.phase },{ on:=13,ground:=Go.Ground.phase },{ on:=14,ground:=Go.Ground.phase },{ on:=15,ground:=Go.Ground.phase }],guard:=none }
def opw17:Oper:={ dst:=some 45,op:=Go.Op.fieldAddr 69 (Go.Operand.tmp 44) 4,type:=0,pos := "disk.go:68", after:=#[{ on:=16,ground:=Go.Ground.data },{ on:=0,ground:=Go.Ground.phase },{ on:=1,ground:=Go.Ground.phase },{ on:=2,ground:=Go.Ground.phase },{ on:=3,ground:=Go.Ground.phase },{ on:=4,ground:=Go.Ground.phase },{ on:=5,ground:=Go.Ground.phase },{ on:=6,ground:=Go.Ground.phase },{ on:=7,ground:=Go.Ground.phase },{ on:=8,ground:=Go.Ground.phase },{ on:=9,ground:=Go.Ground.phase },{ on:=10,ground:=Go.Ground.phase },{ on:=11,ground:=Go.Ground.phase },{ on:=12,ground:=Go.Ground.phase },{ on:=13,ground:=Go.Ground.phase },{ on:=14,ground:=Go.Ground.phase },{ on:=15,ground:=Go.Ground.phase }],guard:=none }
def opw18:Oper:={ dst:=none,op:=Go.Op.store 67 (Go.Operand.tmp 45) (Go.Operand.tmp 43),type:=0,pos := "disk.go:68", after:=#[{ on:=17,ground:=Go.Ground.data },{ on:=15,ground:=Go.Ground.data },{ on:=15,ground:=Go.Ground.chain },{ on:=0,ground:=Go.Ground.phase },{ on:=1,ground:=Go.Ground.phase },{ on:=2,ground:=Go.Ground.phase },{ on:=3,ground:=Go.Ground.phase },{ on:=4,ground:=Go.Ground.phase },{ on:=5,ground:=Go.Ground.phase },{ on:=6,ground:=Go.Ground.phase },{ on:=7,ground:=Go.Ground.phase },{ on:=8,ground:=Go.Ground.phase },{ on:=9,ground:=Go.Ground.phase },{ on:=10,ground:=Go.Ground.phase },{ on:=11,ground:=Go.Ground.phase },{ on:=12,ground:=Go.Ground.phase },{ on:=13,ground:=Go.Ground.phase },{ on:=14,ground:=Go.Ground.phase },{ on:=15,ground:=Go.Ground.phase }],guard:=none }
theorem wrE_reach {s:St} {k:Int} {t:Bs} (h:rch s k≠0):wrE s k t=rch s k∧wrS s k t=s:=⟨if_pos h,if_pos h⟩
theorem wrE_form {s:St} {k:Int} {t:Bs} (h:rch s k=0) (h1:t.length≠64):wrE s k t=3∧wrS s k t=s:=by
 unfold wrE wrS
 have a:¬rch s k≠0:=by simp[h]
 rw[if_neg a,if_neg a,if_pos h1,if_pos h1]
 exact⟨rfl,rfl⟩
theorem wrE_fuse {s:St} {k:Int} {t:Bs} (h:rch s k=0) (h1:t.length=64) (h2:s.fuse=1):wrE s k t=150∧wrS s k t=brnS s:=by
 unfold wrE wrS
 have a:¬rch s k≠0:=by simp[h]
 have b:¬t.length≠64:=by simp[h1]
 rw[if_neg a,if_neg a,if_neg b,if_neg b,if_pos h2,if_pos h2]
 exact⟨rfl,rfl⟩
theorem wrE_ok {s:St} {k:Int} {t:Bs} (h:rch s k=0) (h1:t.length=64) (h2:s.fuse≠1):wrE s k t=0∧wrS s k t={ brnS s with l:=s.l++[⟨k.toNat,t⟩] }:=by
 unfold wrE wrS
 have a:¬rch s k≠0:=by simp[h]
 have b:¬t.length≠64:=by simp[h1]
 rw[if_neg a,if_neg a,if_neg b,if_neg b,if_neg h2,if_neg h2]
 exact⟨rfl,rfl⟩
set_option maxHeartbeats 2000000 in
theorem write_any (p:Nat) (F:Nat→Prop) (s:St) (k:Int) (t:ByteArray) (w:World) (h:KAt w p F s) (hl:s.l.length≤1000000) :
  Calls Tryz.prog 136 #[.pointer (some ⟨p,0,none⟩),.int .i64 k,.string t] w fun e w'=>e = .returned (.int .i64 (wrE s k t.data.toList))∧Stp w p F (wrS s k t.data.toList) w':=by
 have RC:Hid _:=reach_any p F s k w h
 have ts:t.data.toList.length=t.size:=by simp
 rcases rch_cases s k with ⟨h0,hd,hk0,hk1⟩|hne
 ·by_cases h64:t.data.toList.length=64
  ·by_cases hf:s.fuse=1
   ·rw[(wrE_fuse h0 h64 hf).1,(wrE_fuse h0 h64 hf).2]
    have BN:Hid _:=burn_any p F s hd w h
    rw[h0] at RC
    have e1:decide (s.fuse=1)=true:=decide_eq_true hf
    have hsz:t.size=64:=by omega
    rw[e1] at BN
    clear h hd hk0 hk1 hf e1 h64 h0 ts hl
    go_enter Tryz.func136, Tryz.ntmps136
    go_wp2_with fail
    refine Calls.mono RC.out ?_
    rintro e w1 ⟨rfl,rfl⟩
    go_wp2_with fail
    refine Calls.mono BN.out ?_
    rintro e w2 ⟨rfl,h1,h2⟩
    have FF:Hid (Stp w1 p F (brnS s) w2):=⟨F,h1,Nx.refl _ _,h2⟩
    clear h1 h2 BN RC
    go_wp2
    go_ret
    exact⟨rfl,FF.out⟩
   ·have hkk:Ok (wrS s k t.data.toList):=h.1.wr k _
    rw[(wrE_ok h0 h64 hf).2] at hkk
    rw[(wrE_ok h0 h64 hf).1,(wrE_ok h0 h64 hf).2]
    have HK:Hid _:=hkk
    have BN:Hid _:=burn_any p F s hd w h
    rw[h0] at RC
    have e1:decide (s.fuse=1)=false:=decide_eq_false hf
    have hsz:t.size=64:=by omega
    rw[e1] at BN
    have H64:Hid (t.data.toList.length=64):=h64
    have HL:Hid (s.l.length≤1000000):=hl
    obtain⟨m,rfl⟩:∃m:Nat,k=(m:Int):=⟨k.toNat,by omega⟩
    rw[Int.toNat_natCast] at HK ⊢
    clear h hd hk0 hf e1 h64 h0 ts hl hkk
    go_enter Tryz.func136, Tryz.ntmps136
    go_wp2_with fail
    refine Calls.mono RC.out ?_
    rintro e w0 ⟨rfl,rfl⟩
    go_wp2_with fail
    refine Calls.mono BN.out ?_
    rintro e w1 ⟨rfl,h1,h2⟩
    obtain⟨ho,a,b,v,rfl,hr⟩:=h1
    clear BN RC
    obtain⟨n,hn⟩:∃n,s.n=n:=⟨_,rfl⟩
    have hn2:(brnS s).n=n:=hn
    have hr0:=hr
    rw[hn2] at hr0
    have hm:m < n:=by omega
    have c3:=hr0.c3
    have CP:=copy_in w1 b (m*64) 64 t H64.out (hr0.sb.there hm)
    have Z1:Hid (Bf (Foot p a b v) w0 w1):=h2
    have R1:Hid (Raw (w1.setCells b (m*64) (bc t.data.toList)) p (brnS s).n (brnS s).down (brnS s).fuse (brnS s).f (upd (brnS s).sh m t.data.toList) (brnS s).l a b v∧Bf (Foot p a b v) w0 (w1.setCells b (m*64) (bc t.data.toList))):=⟨hr.wholeB (by rw[hn2];exact hm) H64.out,h2.trans (Nx.refl _ _) (Bf.sets _ b (.inr (.inr (.inl rfl))) _ _ _)⟩
    rw[hn] at hk1
    clear hr hr0 ho h2
    go_wp2_with fail
    obtain⟨W,hW⟩:∃W,w1.setCells b (m*64) (bc t.data.toList)=W:=⟨_,rfl⟩
    rw[hW] at R1 ⊢
    clear hW CP Z1 c3
    have AA:=wrote_all W.drew p (brnS s).n (brnS s).down (brnS s).fuse (brnS s).f s.l a b v ⟨m,t.data.toList⟩ (R1.out.1.later (Below.refl _ _).drew) HL.out H64.out HK.out
    obtain⟨va,vc,w',hrun,sc',sf',⟨F',k1,k2⟩,k3⟩:=AA
    have HB:Bf (Foot p a b v) w0 W.drew:=R1.out.2.later (Below.refl _ _).drew
    have FF:Hid (Stp w0 p (Foot p a b v) _ _):=⟨F',k1,(Nx.refl w0 _).trans k2 HB.size,HB.trans (Nx.refl _ _) k3⟩
    have SC:Hid (w'.cell? ⟨p,4,none⟩=some v∧w'.frozen? ⟨p,4,none⟩=false):=⟨sc',sf'⟩
    have c3:=R1.out.1.c3
    have c4:=R1.out.1.c4
    rw[hn2] at c3
    have RG:=R1.out.1.sb.at_ m (by rw[hn2];exact hm)
    rw[upd_same] at RG
    obtain⟨L,hL⟩:∃L,(s.l++[(⟨m,t.data.toList⟩:Wt)]).length=L:=⟨_,rfl⟩
    rw[hL] at hrun FF
    obtain⟨bs,hbs⟩:∃bs:Bs,t.data.toList=bs:=⟨_,rfl⟩
    rw[hbs] at RG H64 hrun
    have HR:Hid _:=hrun
    have BD:Hid (∀w',(Instr.build 149 #[(0,.int .i64 (m:Int)),(1,.agg (bc bs).toArray)]).run Tryz.prog w' = .ok (.agg (wc ⟨m,bs⟩).toArray) w'):=build_w ⟨m,bs⟩ H64.out
    have BS:Hid _:=buildS_w ⟨m,bs⟩ H64.out
    have LD:Hid (∀w',w'.rangeAt b (m*64) (bc bs)→(Instr.loadAt 96 (.pointer (some ⟨b,m*64,none⟩))).run Tryz.prog w' = .ok (.agg (bc bs).toArray) w'):=fun w' hh=>load_c hh H64.out
    obtain⟨Z,hZ⟩:∃Z,W.drew=Z:=⟨_,rfl⟩
    have C3:Hid (Z.cell? ⟨p,3,none⟩=some (.slice (some ⟨b,0,none⟩) n n)):=by rw[←hZ];exact c3
    have C4:Hid (Z.cell? ⟨p,4,none⟩=some v):=by rw[←hZ];exact c4
    have C5:Hid (Z.rangeAt b (m*64) (bc bs)):=by rw[←hZ];exact RG
    clear R1 hL hbs hrun k1 k2 k3 HB sc' sf' c3 c4 RG HK H64 HL
    refine wp_region_noPanic ?_
    refine wp_region_held_drew (S:=fun _=>True) (by kernel_rfl) (trivial) (fun hHeld => ?_)
    rw[hZ]
    rw[hZ] at HR
    clear hZ
    refine wT 0 opw0 ?_ ?_ ?_;rotate_left
    ·intro w' hSw;clear hSw;unfold opw0;first|(go_simp;done)|(go_simp;with_reducible rfl)
    simp only[opw0,Act.put,wA,wB,wC]
    refine wT 1 opw1 ?_ ?_ ?_;rotate_left
    ·intro w' hSw;clear hSw;unfold opw1;first|(go_simp;done)|(go_simp;with_reducible rfl)
    simp only[opw1,Act.put,wA,wB,wC]
    refine wT 2 opw2 ?_ ?_ ?_;rotate_left
    ·intro w' hSw;clear hSw;unfold opw2;first|(go_simp;done)|(go_simp;with_reducible rfl)
    simp only[opw2,Act.put,wA,wB,wC]
    refine wT 3 opw3 ?_ ?_ ?_;rotate_left
    ·intro w' hSw;clear hSw;unfold opw3;first|(go_simp;done)|(go_simp;with_reducible rfl)
    simp only[opw3,Act.put,wA,wB,wC]
    refine wT 5 opw5 ?_ ?_ ?_;rotate_left
    ·intro w' hSw;clear hSw;unfold opw5;first|(go_simp;done)|(go_simp;with_reducible rfl)
    simp only[opw5,Act.put,wA,wB,wC]
    refine wT 6 opw6 ?_ ?_ ?_;rotate_left
    ·intro w' hSw;clear hSw;unfold opw6;first|(go_simp;done)|(go_simp;with_reducible rfl)
    simp only[opw6,Act.put,wA,wB,wC]
    refine wT 7 opw7 ?_ ?_ ?_;rotate_left
    ·intro w' hSw;clear hSw;unfold opw7;first|(go_simp;done)|(go_simp;with_reducible rfl)
    simp only[opw7,Act.put,wA,wB,wC]
    refine wT 8 opw8 ?_ ?_ ?_;rotate_left
    ·intro w' hSw;clear hSw;unfold opw8;first|(go_simp;done)|(go_simp;with_reducible rfl)
    simp only[opw8,Act.put,wA,wB,wC]
    refine wT 10 opw10 ?_ ?_ ?_;rotate_left
    ·intro w' hSw;clear hSw;unfold opw10;first|(go_simp;done)|(go_simp;with_reducible rfl)
    simp only[opw10,Act.put,wA,wB,wC]
    refine wpAnyH_ready (rs:=[4,9]) (by kernel_rfl) (by simp) ?_
    refine AllReadyH.cons (o:=opw4) rfl (fun KK hKK => ?_) (AllReadyH.cons (o:=opw9) rfl (fun KK hKK => ?_) AllReadyH.nil)
    ·have lc:=C4.out
     unfold opw4
     go_simp
     refine hKK.out _ _ trivial (fun hHeld4 => ?_)
     clear hKK KK lc
     refine wpAnyH_ready (rs:=[9]) (by kernel_rfl) (by simp) ?_
     refine AllReadyH.cons (o:=opw9) rfl (fun KK hKK => ?_) AllReadyH.nil
     have lc:=C3.out
     unfold opw9
     go_simp
     refine hKK.out _ _ trivial (fun hHeld9 => ?_)
     clear hKK KK lc
     refine wT 11 opw11 ?_ ?_ ?_;rotate_left
     ·intro w' hSw;clear hSw;unfold opw11;first|(go_simp;done)|(go_simp;with_reducible rfl)
     simp only[opw11,Act.put,wA,wB,wC]
     refine wpAnyH_ready (rs:=[12]) (by kernel_rfl) (by simp) ?_
     refine AllReadyH.cons (o:=opw12) rfl (fun KK hKK => ?_) AllReadyH.nil
     rw[if_pos (by kernel_rfl)]
     refine wp_load_run _ _ rfl _ rfl _ (LD.out _ C5.out) ?_
     refine hKK.out _ _ trivial (fun hHeld12 => ?_)
     clear hKK KK
     simp only[opw12,Act.put,wA,wB,wC]
     refine wpAnyH_take (i:=13) (oi:=opw13) (v:=(.agg (wc ⟨m,bs⟩).toArray)) rfl (by kernel_rfl) (by kernel_rfl) (by kernel_rfl) (fun _ _ _ h=>h) (yields_build (by rfl) _ _ rfl #[(0,.int .i64 (m:Int)),(1,.agg (bc bs).toArray)] (by simp only[List.map_toArray,List.map_cons,List.map_nil];rfl) _ BD.out) (by assumption) ?_
     simp only[opw13,Act.put,wA,wB,wC]
     refine wpAnyH_ready (rs:=[14]) (by kernel_rfl) (by simp) ?_
     refine AllReadyH.cons (o:=opw14) rfl (fun KK hKK => ?_) AllReadyH.nil
     rw[if_pos (by kernel_rfl)]
     refine wp_buildSlice_run _ _ _ rfl #[(0,.agg (wc ⟨m,bs⟩).toArray)] (by simp only[List.map_toArray,List.map_cons,List.map_nil];rfl) _ _ (BS.out Z) ?_
     refine hKK.out _ _ trivial (fun hHeld14 => ?_)
     clear hKK KK
     simp only[opw14,Act.put,wA,wB,wC]
     refine wpAnyH_ready (rs:=[15]) (by kernel_rfl) (by simp) ?_
     refine AllReadyH.cons (o:=opw15) rfl (fun KK hKK => ?_) AllReadyH.nil
     have hr:=HR.out
     rw[if_pos (by kernel_rfl)]
     refine Go.Lib.wp_append_run _ _ _ _ _ rfl _ _ rfl rfl _ _ hr ?_
     refine hKK.out _ _ trivial (fun hHeldA => ?_)
     clear hKK KK hr
     simp only[opw15,Act.put,wA,wB,wC]
     refine wT 16 opw16 ?_ ?_ ?_;rotate_left
     ·intro w' hSw;clear hSw;unfold opw16;first|(go_simp;done)|(go_simp;with_reducible rfl)
     simp only[opw16,Act.put,wA,wB,wC]
     refine wT 17 opw17 ?_ ?_ ?_;rotate_left
     ·intro w' hSw;clear hSw;unfold opw17;first|(go_simp;done)|(go_simp;with_reducible rfl)
     simp only[opw17,Act.put,wA,wB,wC]
     refine wpAnyH_ready (rs:=[18]) (by kernel_rfl) (by simp) ?_
     refine AllReadyH.cons (o:=opw18) rfl (fun KK hKK => ?_) AllReadyH.nil
     have sc:=SC.out.1
     have sf:=SC.out.2
     unfold opw18
     go_simp
     refine hKK.out _ _ trivial (fun hHeldS => ?_)
     clear hKK KK sc sf
     refine wpAnyH_done (by kernel_rfl) ?_ _
     refine NoPanic.normal ?_
     go_wp2
     go_ret
     exact⟨rfl,FF.out⟩
    ·have lc:=C3.out
     unfold opw9
     go_simp
     refine hKK.out _ _ trivial (fun hHeld9 => ?_)
     clear hKK KK lc
     refine wT 11 opw11 ?_ ?_ ?_;rotate_left
     ·intro w' hSw;clear hSw;unfold opw11;first|(go_simp;done)|(go_simp;with_reducible rfl)
     simp only[opw11,Act.put,wA,wB,wC]
     refine wpAnyH_ready (rs:=[4,12]) (by kernel_rfl) (by simp) ?_
     refine AllReadyH.cons (o:=opw4) rfl (fun KK hKK => ?_) (AllReadyH.cons (o:=opw12) rfl (fun KK hKK => ?_) AllReadyH.nil)
     ·have lc:=C4.out
      unfold opw4
      go_simp
      refine hKK.out _ _ trivial (fun hHeld4 => ?_)
      clear hKK KK lc
      refine wpAnyH_ready (rs:=[12]) (by kernel_rfl) (by simp) ?_
      refine AllReadyH.cons (o:=opw12) rfl (fun KK hKK => ?_) AllReadyH.nil
      rw[if_pos (by kernel_rfl)]
      refine wp_load_run _ _ rfl _ rfl _ (LD.out _ C5.out) ?_
      refine hKK.out _ _ trivial (fun hHeld12 => ?_)
      clear hKK KK
      simp only[opw12,Act.put,wA,wB,wC]
      refine wpAnyH_take (i:=13) (oi:=opw13) (v:=(.agg (wc ⟨m,bs⟩).toArray)) rfl (by kernel_rfl) (by kernel_rfl) (by kernel_rfl) (fun _ _ _ h=>h) (yields_build (by rfl) _ _ rfl #[(0,.int .i64 (m:Int)),(1,.agg (bc bs).toArray)] (by simp only[List.map_toArray,List.map_cons,List.map_nil];rfl) _ BD.out) (by assumption) ?_
      simp only[opw13,Act.put,wA,wB,wC]
      refine wpAnyH_ready (rs:=[14]) (by kernel_rfl) (by simp) ?_
      refine AllReadyH.cons (o:=opw14) rfl (fun KK hKK => ?_) AllReadyH.nil
      rw[if_pos (by kernel_rfl)]
      refine wp_buildSlice_run _ _ _ rfl #[(0,.agg (wc ⟨m,bs⟩).toArray)] (by simp only[List.map_toArray,List.map_cons,List.map_nil];rfl) _ _ (BS.out Z) ?_
      refine hKK.out _ _ trivial (fun hHeld14 => ?_)
      clear hKK KK
      simp only[opw14,Act.put,wA,wB,wC]
      refine wpAnyH_ready (rs:=[15]) (by kernel_rfl) (by simp) ?_
      refine AllReadyH.cons (o:=opw15) rfl (fun KK hKK => ?_) AllReadyH.nil
      have hr:=HR.out
      rw[if_pos (by kernel_rfl)]
      refine Go.Lib.wp_append_run _ _ _ _ _ rfl _ _ rfl rfl _ _ hr ?_
      refine hKK.out _ _ trivial (fun hHeldA => ?_)
      clear hKK KK hr
      simp only[opw15,Act.put,wA,wB,wC]
      refine wT 16 opw16 ?_ ?_ ?_;rotate_left
      ·intro w' hSw;clear hSw;unfold opw16;first|(go_simp;done)|(go_simp;with_reducible rfl)
      simp only[opw16,Act.put,wA,wB,wC]
      refine wT 17 opw17 ?_ ?_ ?_;rotate_left
      ·intro w' hSw;clear hSw;unfold opw17;first|(go_simp;done)|(go_simp;with_reducible rfl)
      simp only[opw17,Act.put,wA,wB,wC]
      refine wpAnyH_ready (rs:=[18]) (by kernel_rfl) (by simp) ?_
      refine AllReadyH.cons (o:=opw18) rfl (fun KK hKK => ?_) AllReadyH.nil
      have sc:=SC.out.1
      have sf:=SC.out.2
      unfold opw18
      go_simp
      refine hKK.out _ _ trivial (fun hHeldS => ?_)
      clear hKK KK sc sf
      refine wpAnyH_done (by kernel_rfl) ?_ _
      refine NoPanic.normal ?_
      go_wp2
      go_ret
      exact⟨rfl,FF.out⟩
     ·rw[if_pos (by kernel_rfl)]
      refine wp_load_run _ _ rfl _ rfl _ (LD.out _ C5.out) ?_
      refine hKK.out _ _ trivial (fun hHeld12 => ?_)
      clear hKK KK
      simp only[opw12,Act.put,wA,wB,wC]
      refine wpAnyH_take (i:=13) (oi:=opw13) (v:=(.agg (wc ⟨m,bs⟩).toArray)) rfl (by kernel_rfl) (by kernel_rfl) (by kernel_rfl) (fun _ _ _ h=>h) (yields_build (by rfl) _ _ rfl #[(0,.int .i64 (m:Int)),(1,.agg (bc bs).toArray)] (by simp only[List.map_toArray,List.map_cons,List.map_nil];rfl) _ BD.out) (by assumption) ?_
      simp only[opw13,Act.put,wA,wB,wC]
      refine wpAnyH_ready (rs:=[4,14]) (by kernel_rfl) (by simp) ?_
      refine AllReadyH.cons (o:=opw4) rfl (fun KK hKK => ?_) (AllReadyH.cons (o:=opw14) rfl (fun KK hKK => ?_) AllReadyH.nil)
      ·have lc:=C4.out
       unfold opw4
       go_simp
       refine hKK.out _ _ trivial (fun hHeld4 => ?_)
       clear hKK KK lc
       refine wpAnyH_ready (rs:=[14]) (by kernel_rfl) (by simp) ?_
       refine AllReadyH.cons (o:=opw14) rfl (fun KK hKK => ?_) AllReadyH.nil
       rw[if_pos (by kernel_rfl)]
       refine wp_buildSlice_run _ _ _ rfl #[(0,.agg (wc ⟨m,bs⟩).toArray)] (by simp only[List.map_toArray,List.map_cons,List.map_nil];rfl) _ _ (BS.out Z) ?_
       refine hKK.out _ _ trivial (fun hHeld14 => ?_)
       clear hKK KK
       simp only[opw14,Act.put,wA,wB,wC]
       refine wpAnyH_ready (rs:=[15]) (by kernel_rfl) (by simp) ?_
       refine AllReadyH.cons (o:=opw15) rfl (fun KK hKK => ?_) AllReadyH.nil
       have hr:=HR.out
       rw[if_pos (by kernel_rfl)]
       refine Go.Lib.wp_append_run _ _ _ _ _ rfl _ _ rfl rfl _ _ hr ?_
       refine hKK.out _ _ trivial (fun hHeldA => ?_)
       clear hKK KK hr
       simp only[opw15,Act.put,wA,wB,wC]
       refine wT 16 opw16 ?_ ?_ ?_;rotate_left
       ·intro w' hSw;clear hSw;unfold opw16;first|(go_simp;done)|(go_simp;with_reducible rfl)
       simp only[opw16,Act.put,wA,wB,wC]
       refine wT 17 opw17 ?_ ?_ ?_;rotate_left
       ·intro w' hSw;clear hSw;unfold opw17;first|(go_simp;done)|(go_simp;with_reducible rfl)
       simp only[opw17,Act.put,wA,wB,wC]
       refine wpAnyH_ready (rs:=[18]) (by kernel_rfl) (by simp) ?_
       refine AllReadyH.cons (o:=opw18) rfl (fun KK hKK => ?_) AllReadyH.nil
       have sc:=SC.out.1
       have sf:=SC.out.2
       unfold opw18
       go_simp
       refine hKK.out _ _ trivial (fun hHeldS => ?_)
       clear hKK KK sc sf
       refine wpAnyH_done (by kernel_rfl) ?_ _
       refine NoPanic.normal ?_
       go_wp2
       go_ret
       exact⟨rfl,FF.out⟩
      ·rw[if_pos (by kernel_rfl)]
       refine wp_buildSlice_run _ _ _ rfl #[(0,.agg (wc ⟨m,bs⟩).toArray)] (by simp only[List.map_toArray,List.map_cons,List.map_nil];rfl) _ _ (BS.out Z) ?_
       refine hKK.out _ _ trivial (fun hHeld14 => ?_)
       clear hKK KK
       simp only[opw14,Act.put,wA,wB,wC]
       refine wpAnyH_ready (rs:=[4]) (by kernel_rfl) (by simp) ?_
       refine AllReadyH.cons (o:=opw4) rfl (fun KK hKK => ?_) AllReadyH.nil
       have lc:=(cell_alloc (o:=(.cells (wc ⟨m,bs⟩).toArray 149)) C4.out)
       unfold opw4
       go_simp
       refine hKK.out _ _ trivial (fun hHeld4 => ?_)
       clear hKK KK lc
       refine wpAnyH_ready (rs:=[15]) (by kernel_rfl) (by simp) ?_
       refine AllReadyH.cons (o:=opw15) rfl (fun KK hKK => ?_) AllReadyH.nil
       have hr:=HR.out
       rw[if_pos (by kernel_rfl)]
       refine Go.Lib.wp_append_run _ _ _ _ _ rfl _ _ rfl rfl _ _ hr ?_
       refine hKK.out _ _ trivial (fun hHeldA => ?_)
       clear hKK KK hr
       simp only[opw15,Act.put,wA,wB,wC]
       refine wT 16 opw16 ?_ ?_ ?_;rotate_left
       ·intro w' hSw;clear hSw;unfold opw16;first|(go_simp;done)|(go_simp;with_reducible rfl)
       simp only[opw16,Act.put,wA,wB,wC]
       refine wT 17 opw17 ?_ ?_ ?_;rotate_left
       ·intro w' hSw;clear hSw;unfold opw17;first|(go_simp;done)|(go_simp;with_reducible rfl)
       simp only[opw17,Act.put,wA,wB,wC]
       refine wpAnyH_ready (rs:=[18]) (by kernel_rfl) (by simp) ?_
       refine AllReadyH.cons (o:=opw18) rfl (fun KK hKK => ?_) AllReadyH.nil
       have sc:=SC.out.1
       have sf:=SC.out.2
       unfold opw18
       go_simp
       refine hKK.out _ _ trivial (fun hHeldS => ?_)
       clear hKK KK sc sf
       refine wpAnyH_done (by kernel_rfl) ?_ _
       refine NoPanic.normal ?_
       go_wp2
       go_ret
       exact⟨rfl,FF.out⟩
  ·rw[(wrE_form h0 h64).1,(wrE_form h0 h64).2]
   have FF:Hid (Stp w p F s w):=h.stays (Below.refl _ _)
   rw[h0] at RC
   have hsz:¬(t.size:Int)=64:=by omega
   clear h hd hk0 hk1 h64 h0 ts hl
   go_enter Tryz.func136, Tryz.ntmps136
   go_wp2_with (go_at_call 34;refine Calls.mono RC.out ?_;rintro e w1 ⟨rfl,rfl⟩)
   go_ret
   exact⟨rfl,FF.out⟩
 ·rw[(wrE_reach hne).1,(wrE_reach hne).2]
  have FF:Hid (Stp w p F s w):=h.stays (Below.refl _ _)
  obtain⟨x,hx⟩:∃x,rch s k=x:=⟨_,rfl⟩
  rw[hx] at RC hne ⊢
  clear h hx ts hl
  go_enter Tryz.func136, Tryz.ntmps136
  go_wp2_with (go_at_call 34;refine Calls.mono RC.out ?_;rintro e w1 ⟨rfl,rfl⟩)
  go_ret
  exact⟨rfl,FF.out⟩
theorem ownsW_at {w:World} {va:Option Addr} {n vc:Nat} {l:List Wt} (h:OwnsW w (.slice va n vc) l) (h64:∀x∈l,x.b.length=64) (k:Nat) (hk:k < l.length):∃g,va=some ⟨g,0,none⟩∧w.rangeAt g (k*65) (wc l[k]):=by
 rcases h.2 with ⟨h1,h2⟩|⟨g,cap,cur,h1,-⟩
 ·omega
 ·have h1':=h1
  injection h1' with e1 e2 e3
  subst e1
  subst e2
  refine⟨g,rfl,fun j u hu => ?_⟩
  have hj:j < 65:=by
   have:=(List.getElem?_eq_some_iff.1 hu).1
   rw[wc_len (h64 _ (List.getElem_mem hk))] at this
   exact this
  rw[h.cellAt (k*65+j) (by omega),wcs_at l h64 k hk j hj,hu]
theorem load_w {w:World} {b o:Nat} {x:Wt} (h:w.rangeAt b o (wc x)) (hl:x.b.length=64):(Instr.loadAt 149 (.pointer (some ⟨b,o,none⟩))).run Tryz.prog w = .ok (.agg (wc x).toArray) w:=by
 obtain⟨i0,hi,hz0,hz1,hz2⟩:=info_parts infoW
 exact run_loadAt_mid w b o _ (wc x) _ h Tryz.underlying149 rfl (by rw[hi,wc_len hl,←hz1];rfl)
theorem alloc_w (w:World):(Instr.alloc 149 true (.tuple #[])).run Tryz.prog w = .ok (.pointer (some ⟨w.heap.size,0,none⟩)) (w.alloc (.cells (#[.int .i64 0]++Array.replicate 64 (.int .u8 0)) 149)):=by
 obtain⟨i0,hi,hz0,hz1,hz2⟩:=info_parts infoW
 simp[Instr.alloc,newVar,newRow,zeroValue,typeInfo,hi,hz0,zeroW,Value.cells]
theorem store_new (x:Wt) (hx:x.b.length=64) (w:World):(Instr.storeAt 149 (.pointer (some ⟨w.heap.size,0,none⟩)) (.agg (wc x).toArray)).run Tryz.prog (w.alloc (.cells (#[.int .i64 0]++Array.replicate 64 (.int .u8 0)) 149)) = .ok () (w.alloc (.cells (wc x).toArray 149)):=by
 obtain⟨i0,hi,hz0,hz1,hz2⟩:=info_parts infoW
 refine run_storeAt_new w _ _ _ (by rw[hi];simp[hz1,wc_len hx]) (by simp[wc_len hx]) (all_oneCell_toArray (fun v hv=>wcs_one [x] v (by simpa[wcs] using hv)))
theorem wp_alloc_run {P:Program} {o:Oper} {a:Act} {w:World} {K:Act→World→Prop} {Q:Exit→Act→World→Prop} (t:TypeId) (ho:o.op = .alloc t)
  (v:Value) (w':World) (hr:(Instr.alloc t true (.tuple #[])).run P w = .ok v w') (h:K (a.put o.dst v) w'):o.wp P a w K Q:=by
 unfold Oper.wp execOp
 simp only[ho,Sem.run_bind,hr,Result.andThen_ok]
 exact h
theorem box_w (x:Wt) (w:World):(w.alloc (.cells (wc x).toArray 149)).cell? ⟨w.heap.size,0,none⟩=some (.int .i64 (x.k:Int))∧(w.alloc (.cells (wc x).toArray 149)).rangeAt w.heap.size 1 (bc x.b):=by
 refine⟨by rw[World.cell?_alloc_new];simp[wc],fun j u hu => ?_⟩
 rw[World.cell?_alloc_new,Nat.add_comm]
 simpa[wc] using hu
theorem exec_load {P:Program} {o:Oper} {a:Act} {w:World} (t:TypeId) (x:Operand) (ho:o.op = .load t x) (u:Value) (hu:a.eval x=u) (v:Value) (hr:(Instr.loadAt t u).run P w = .ok v w):(execOp a.eval o).run P w = .ok (.value v) w:=by
 unfold execOp
 simp only[ho,hu,Sem.run_bind,hr,Result.andThen_ok]
 rfl
theorem store_c {w:World} {b o:Nat} {l:Bs} (h:w.there b o 64) (hl:l.length=64):(Instr.storeAt 96 (.pointer (some ⟨b,o,none⟩)) (.agg (bc l).toArray)).run Tryz.prog w = .ok () (w.setCells b o (bc l)):=by
 obtain⟨i0,hi,hz0,hz1,hz2⟩:=info_parts infoC
 have hs:(bc l).toArray.size=64:=by simp[bc_len,hl]
 have:=run_storeAt_mid (P:=Tryz.prog) w b o 96 (bc l).toArray (by rw[hs];exact h) (by rw[hi,hs,←hz1];rfl) (all_oneCell_toArray (bc_one l))
 simpa using this
theorem Bk.cell {w:World} {a o:Nat} {vs:List Value} {g j:Nat} {v:Value} (hne:a≠g) (h:w.cell? ⟨g,j,none⟩=some v):(w.setCells a o vs).cell? ⟨g,j,none⟩=some v:=(World.cell?_of_block (a:=⟨g,j,none⟩) (setCells_other w a o vs g (Ne.symm hne))).trans h
theorem Bk.range {w:World} {a o:Nat} {vs:List Value} {g j:Nat} {cs:List Value} (hne:a≠g) (h:w.rangeAt g j cs):(w.setCells a o vs).rangeAt g j cs:=rangeAt_same h (setCells_other w a o vs g (Ne.symm hne))
def ops0:Oper:={ dst:=some 23,op:=Go.Op.move (Go.Operand.tmp 0),type := 23, pos := "disk.go:78", after:=#[],guard:=none }
def ops1:Oper:={ dst:=some 24,op:=Go.Op.nilCheck (Go.Operand.tmp 23),type:=0,pos := "disk.go:78", after:=#[{ on:=0,ground:=Go.Ground.data }],guard:=none }
def ops2:Oper:={ dst:=some 25,op:=Go.Op.fieldAddr 69 (Go.Operand.tmp 24) 2,type:=0,pos := "disk.go:78", after:=#[{ on:=1,ground:=Go.Ground.data }],guard:=none }
def ops3:Oper:={ dst:=some 26,op:=Go.Op.load 66 (Go.Operand.tmp 25),type := 66, pos := "disk.go:78", after:=#[{ on:=2,ground:=Go.Ground.data }],guard:=none }
def ops4:Oper:={ dst:=some 27,op:=Go.Op.fieldAddr 149 (Go.Operand.tmp 4) 0,type:=0,pos := "disk.go:78", after:=#[],guard:=none }
def ops5:Oper:={ dst:=some 28,op:=Go.Op.load 3 (Go.Operand.tmp 27),type := 3, pos := "disk.go:78", after:=#[{ on:=4,ground:=Go.Ground.data }],guard:=none }
def ops6:Oper:={ dst:=some 29,op:=Go.Op.fieldAddr 149 (Go.Operand.tmp 4) 1,type:=0,pos := "disk.go:78", after:=#[],guard:=none }
def ops7:Oper:={ dst:=some 30,op:=Go.Op.load 96 (Go.Operand.tmp 29),type := 96, pos := "disk.go:78", after:=#[{ on:=6,ground:=Go.Ground.data }],guard:=none }
def ops8:Oper:={ dst:=some 31,op:=Go.Op.indexAddr 66 (Go.Operand.tmp 26) (Go.Operand.tmp 28),type:=0,pos := "disk.go:78", after:=#[{ on:=3,ground:=Go.Ground.data },{ on:=5,ground:=Go.Ground.data },{ on:=0,ground:=Go.Ground.phase },{ on:=1,ground:=Go.Ground.phase },{ on:=2,ground:=Go.Ground.phase },{ on:=3,ground:=Go.Ground.phase },{ on:=4,ground:=Go.Ground.phase },{ on:=5,ground:=Go.Ground.phase },{ on:=6,ground:=Go.Ground.phase },{ on:=7,ground:=Go.Ground.phase }],guard:=none }
def ops9:Oper:={ dst:=none,op:=Go.Op.store 96 (Go.Operand.tmp 31) (Go.Operand.tmp 30),type:=0,pos := "disk.go:78", after:=#[{ on:=8,ground:=Go.Ground.data },{ on:=7,ground:=Go.Ground.data },{ on:=0,ground:=Go.Ground.phase },{ on:=1,ground:=Go.Ground.phase },{ on:=2,ground:=Go.Ground.phase },{ on:=3,ground:=Go.Ground.phase },{ on:=4,ground:=Go.Ground.phase },{ on:=5,ground:=Go.Ground.phase },{ on:=6,ground:=Go.Ground.phase },{ on:=7,ground:=Go.Ground.phase }],guard:=none }
set_option maxHeartbeats 2000000 in
theorem sync_any (p:Nat) (F:Nat→Prop) (s:St) (w:World) (h:KAt w p F s) (hl:s.l.length≤1000000) :
  Calls Tryz.prog 128 #[.pointer (some ⟨p,0,none⟩)] w fun e w'=>e = .returned (.int .i64 (syE s))∧Stp w p F (syS s) w':=by
 have c0:w.cell? ⟨p,0,none⟩=some (.int .i64 (if s.down=true then 1 else 0)):=by
  obtain⟨-,a,b,v,-,hr⟩:=h
  exact hr.c0
 unfold syE syS
 by_cases hd:s.down=true
 ·rw[if_pos hd] at c0
  rw[if_pos hd,if_pos hd]
  have FF:Hid (Stp w p F s w):=h.stays (Below.refl _ _)
  clear h hl hd
  go_enter Tryz.func128, Tryz.ntmps128
  go_wp2
  go_ret
  exact⟨rfl,FF.out⟩
 ·rw[if_neg hd] at c0
  rw[if_neg hd,if_neg hd]
  have BN:Hid _:=burn_any p F s (by simpa using hd) w h
  by_cases hf:s.fuse=1
  ·rw[if_pos hf,if_pos hf]
   have e1:decide (s.fuse=1)=true:=decide_eq_true hf
   rw[e1] at BN
   clear h hl hd hf e1
   go_enter Tryz.func128, Tryz.ntmps128
   go_wp2_with fail
   refine Calls.mono BN.out ?_
   rintro e w2 ⟨rfl,h1,h2⟩
   have FF:Hid (Stp w p F (brnS s) w2):=⟨F,h1,Nx.refl _ _,h2⟩
   clear h1 h2 BN
   go_wp2
   go_ret
   exact⟨rfl,FF.out⟩
  ·rw[if_neg hf,if_neg hf]
   have e1:decide (s.fuse=1)=false:=decide_eq_false hf
   rw[e1] at BN
   have HL:Hid (s.l.length≤1000000):=hl
   have HO0:Hid (Ok s):=h.1
   clear h hd hf e1
   go_enter Tryz.func128, Tryz.ntmps128
   go_wp2_with fail
   refine Calls.mono BN.out ?_
   rintro e w1 ⟨rfl,h1,h2⟩
   obtain⟨ho,a,b,v,rfl,hr⟩:=h1
   have hrow:=hr.row
   obtain⟨va,vc,rfl⟩:=ownsW_slice hrow
   have c4:=hr.c4
   have I0:Hid (Raw w1 p s.n (brnS s).down (brnS s).fuse s.f s.sh s.l a b (.slice va s.l.length vc)∧Bf (Foot p a b (.slice va s.l.length vc)) w w1):=⟨hr,h2⟩
   have HO:Hid (Ok s):=HO0.out
   obtain⟨n,hn⟩:∃n,s.l.length=n:=⟨_,rfl⟩
   have c4':w1.cell? ⟨p,4,none⟩=some (.slice va n vc):=by rw[←hn];exact c4
   rw[hn] at I0 hl
   clear hr h2 ho BN hrow c4
   go_wp2_with fail
   go_loopw [19] (fun i wr=>∃(k:Nat) (f:Nat→Bs),k≤n∧i = .int .i64 (k:Int)∧Hid (Raw wr p s.n (brnS s).down (brnS s).fuse f s.sh s.l a b (.slice va n vc)∧Bf (Foot p a b (.slice va n vc)) w wr∧lay f (s.l.drop k)=s.sh)) (fun i wr=>n - (intOf i).toNat)
   case atStart=>exact⟨0,s.f,Nat.zero_le _,rfl,I0.out.1,I0.out.2,rfl⟩
   case round =>
    obtain⟨k,f,hk,rfl,I⟩:=hrel
    clear I0
    by_cases hlt:k < n
    ·have g1:(k:Int) < (n:Int):=by omega
     have hkl:k < s.l.length:=by omega
     obtain⟨g,rfl,RW⟩:=ownsW_at I.out.1.row (fun x hx=>(HO.out.wk x hx).2) k hkl
     have LW:Hid _:=load_w RW (HO.out.wk _ (List.getElem_mem hkl)).2
     obtain⟨x,hx⟩:∃x,s.l[k]=x:=⟨_,rfl⟩
     have h64:x.b.length=64:=by rw[←hx];exact (HO.out.wk _ (List.getElem_mem hkl)).2
     have hxk:x.k < s.n:=by rw[←hx];exact (HO.out.wk _ (List.getElem_mem hkl)).1
     rw[hx] at LW
     have SN:Hid _:=store_new x h64 wr
     have BX:Hid _:=box_w x wr
     have J1:Hid (Raw (wr.alloc (.cells (wc x).toArray 149)) p s.n (brnS s).down (brnS s).fuse f s.sh s.l a b (.slice (some ⟨g,0,none⟩) n vc)∧Bf (Foot p a b (.slice (some ⟨g,0,none⟩) n vc)) w (wr.alloc (.cells (wc x).toArray 149))):=⟨I.out.1.later ((Below.refl _ _).alloc (Nat.le_refl _) _),I.out.2.1.later ((Below.refl _ _).alloc (Nat.le_refl _) _)⟩
     have LY:Hid (lay (upd f x.k x.b) (s.l.drop (k+1))=s.sh):=by
      have:=I.out.2.2
      rw[List.drop_eq_getElem_cons hkl,hx,lay] at this
      exact this
     have NB:Hid (∀q,Foot p a b (.slice (some ⟨g,0,none⟩) n vc) q→q≠wr.heap.size):=fun q hq=>Nat.ne_of_lt (I.out.1.lt hq)
     clear I RW hx
     go_upto_region 5 with fail
     refine wp_region_lit ?_
     refine wpList_plain rfl (fun K hK => ?_)
     go_simp
     refine hK _ _ ?_
     clear hK K
     refine wpList_plain rfl (fun K hK=>wp_load_run _ _ rfl _ rfl _ LW.out (hK _ _ ?_))
     refine wpList_plain rfl (fun K hK=>wp_alloc_run _ rfl _ _ (alloc_w _) (hK _ _ ?_))
     refine wpList_plain rfl (fun K hK=>wp_store_run _ _ _ rfl _ rfl _ rfl _ SN.out (hK _ _ ?_))
     refine wpList_nil ?_
     obtain⟨B,hB⟩:∃B,wr.heap.size=B:=⟨_,rfl⟩
     obtain⟨W,hW⟩:∃W,wr.alloc (.cells (wc x).toArray 149)=W:=⟨_,rfl⟩
     simp only[Act.put,wA,wB,wC]
     rw[hB] at NB BX ⊢
     rw[hW] at BX J1 ⊢
     clear LW SN hB hW
     have c2:=J1.out.1.c2
     have G3:(x.k:Int) < ((s.n:Nat):Int):=by omega
     have RA:Hid (Raw ((W.drew).setCells a (x.k*64) (bc x.b)) p s.n (brnS s).down (brnS s).fuse (upd f x.k x.b) s.sh s.l a b (.slice (some ⟨g,0,none⟩) n vc)∧Bf (Foot p a b (.slice (some ⟨g,0,none⟩) n vc)) w ((W.drew).setCells a (x.k*64) (bc x.b))) :=
      ⟨(J1.out.1.later (Below.refl _ _).drew).wholeA hxk h64,(J1.out.2.later (Below.refl _ _).drew).trans (Nx.refl _ _) (Bf.sets _ a (.inr (.inl rfl)) _ _ _)⟩
     have PA:Hid (a≠p):=J1.out.1.pa
     have TH:Hid (W.drew.there a (x.k*64) 64):=(J1.out.1.later (Below.refl _ _).drew).sa.there hxk
     have AB:Hid (a≠B):=NB.out a (.inr (.inl rfl))
     have b0:=BX.out.1
     have RB:=BX.out.2
     have H64:Hid (x.b.length=64):=h64
     obtain⟨N,hN⟩:∃N,s.n=N:=⟨_,rfl⟩
     rw[hN] at c2 G3
     go_upto_region 6 with fail
     clear J1 BX NB h64
     refine wp_region_noPanic ?_
     refine wp_region_held_drew (S:=fun w'=>w'.cell? ⟨p,2,none⟩=some (.slice (some ⟨a,0,none⟩) N N)∧w'.cell? ⟨B,0,none⟩=some (.int .i64 (x.k:Int))∧w'.rangeAt B 1 (bc x.b)) (by kernel_rfl) (⟨c2,b0,RB⟩) (fun hHeld => ?_)
     obtain⟨Z,hZ⟩:∃Z,W.drew=Z:=⟨_,rfl⟩
     rw[hZ] at hHeld RA TH ⊢
     clear c2 b0 RB hZ
     refine wT 0 ops0 ?_ ?_ ?_;rotate_left
     ·intro w' hSw;clear hSw;unfold ops0;first|(go_simp;done)|(go_simp;with_reducible rfl)
     simp only[ops0,Act.put,wA,wB,wC]
     refine wT 1 ops1 ?_ ?_ ?_;rotate_left
     ·intro w' hSw;clear hSw;unfold ops1;first|(go_simp;done)|(go_simp;with_reducible rfl)
     simp only[ops1,Act.put,wA,wB,wC]
     refine wT 2 ops2 ?_ ?_ ?_;rotate_left
     ·intro w' hSw;clear hSw;unfold ops2;first|(go_simp;done)|(go_simp;with_reducible rfl)
     simp only[ops2,Act.put,wA,wB,wC]
     refine wT 3 ops3 ?_ ?_ ?_;rotate_left
     ·intro w' hSw;obtain⟨s0,s1,s2⟩:=hSw;unfold ops3;first|(go_simp;done)|(go_simp;with_reducible rfl)
     simp only[ops3,Act.put,wA,wB,wC]
     refine wT 4 ops4 ?_ ?_ ?_;rotate_left
     ·intro w' hSw;clear hSw;unfold ops4;first|(go_simp;done)|(go_simp;with_reducible rfl)
     simp only[ops4,Act.put,wA,wB,wC]
     refine wT 5 ops5 ?_ ?_ ?_;rotate_left
     ·intro w' hSw;obtain⟨s0,s1,s2⟩:=hSw;unfold ops5;first|(go_simp;done)|(go_simp;with_reducible rfl)
     simp only[ops5,Act.put,wA,wB,wC]
     refine wT 6 ops6 ?_ ?_ ?_;rotate_left
     ·intro w' hSw;clear hSw;unfold ops6;first|(go_simp;done)|(go_simp;with_reducible rfl)
     simp only[ops6,Act.put,wA,wB,wC]
     refine wpAnyH_take (i:=7) (oi:=ops7) (v:=(.agg (bc x.b).toArray)) rfl (by kernel_rfl) (by kernel_rfl) (by kernel_rfl) (fun _ _ _ h=>h) (Or.inl ⟨by rfl,fun w' hSw=>exec_load _ _ rfl _ rfl _ (load_c hSw.2.2 H64.out)⟩) (by assumption) ?_
     simp only[ops7,Act.put,wA,wB,wC]
     refine wT 8 ops8 ?_ ?_ ?_;rotate_left
     ·intro w' hSw;clear hSw;unfold ops8;first|(go_simp;done)|(go_simp;with_reducible rfl)
     simp only[ops8,Act.put,wA,wB,wC]
     refine wpAnyH_ready (rs:=[9]) (by kernel_rfl) (by simp) ?_
     refine AllReadyH.cons (o:=ops9) rfl (fun KK hKK => ?_) AllReadyH.nil
     rw[if_pos (by kernel_rfl)]
     refine wp_store_run _ _ _ rfl _ rfl _ rfl _ (store_c TH.out H64.out) ?_
     refine hKK.out _ _ ⟨Bk.cell PA.out hHeld.1,Bk.cell AB.out hHeld.2.1,Bk.range AB.out hHeld.2.2⟩ (fun hHeldS => ?_)
     clear hKK KK hHeldS hHeld
     simp only[ops9,Act.put]
     refine wpAnyH_done (by kernel_rfl) ?_ _
     refine NoPanic.normal ?_
     all_goals (go_wp2;go_roundw)
     case rel=>exact⟨k+1,upd f x.k x.b,by omega,by go_num,RA.out.1,RA.out.2,LY.out⟩
     case measure=>simp[intOf];omega
    ·obtain rfl:k=n:=by omega
     have e0:f=s.sh:=by
      have:=I.out.2.2
      rw[List.drop_of_length_le (by omega),lay] at this
      exact this
     subst e0
     have R2:=I.out.1.setRow (w1:=wr) (u := .slice none 0 0) (m:=[]) ⟨rfl,rfl,rfl,Nat.le_refl _,fun _ _ _=>rfl⟩ (World.ownsRow_nil _ _ _ _) (fun g e=>by cases e)
     have FF:Hid (Stp w p (Foot p a b (.slice va k vc)) { brnS s with f:=s.sh,l:=[] } (wr.setCell ⟨p,4,none⟩ (.slice none 0 0))):=by
      refine⟨_,⟨⟨HO.out.n1,HO.out.n2,HO.out.sh64,nofun,HO.out.brn.fu⟩,a,b,_,rfl,R2.1⟩,?_,I.out.2.1.trans (Nx.refl _ _) R2.2.2⟩
      exact (Nx.refl w _).trans R2.2.1 I.out.2.1.size
     have c4:=I.out.1.c4
     have f4:=I.out.1.fr 4
     have HN:Hid (s.l.length=k):=hn
     clear I R2 c4' hn c0
     go_wp2
     go_ret
     refine⟨rfl,?_⟩
     have e:(brnS s).l.length=k:=HN.out
     rw[e]
     exact FF.out
end Go.Proofs.YtjpaodepnacimaaGreatDoor
