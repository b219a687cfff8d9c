/- The document's set: an epoch is entered,a tag added. -/
import Derived.Test.YtdcimnmebgkmjaaGreatDoorZuG24
namespace Go.Proofs.YtdcimnmebgkmjaaGreatDoor
open Go.RowKit Go.Proofs.Fd Go.Proofs.Dk Go.Proofs.Lg
set_option maxRecDepth 20000
theorem app_hadB (base:Nat) (w:World) (ty:TypeId) (v:Value) (l:List Hx) (h:w.ownsRow base 96 2 v l.length (hxs2 l)) (hbase:base≤w.heap.size) (hl:l.length≤1000000) (x:Hx) (b:Nat) (hc:∀j u,(hx1 x)[j]?=some u→w.cell? ⟨b,j,none⟩=some u) :
  ∃v' w',(Builtin.append_ #[55, 55] ty #[v,.slice (some ⟨b,0,none⟩) 1 1]).run Tryz.prog w = .ok v' w'∧w'.ownsRow base 96 2 v' (l++[x]).length (hxs2 (l++[x]))∧w.grownBy w' v.ownBlock:=by
 obtain⟨i0,hi,hz0,hz1,hz2⟩:=info_parts infoH
 obtain⟨v',w',r1,r2,r3,-,r5⟩:=run_append_own_at (P:=Tryz.prog) w base 55 ty 96 i0 _ 2 24 Tryz.underlying55 hi hz0 hz1 hz2 rfl (by decide) v l.length (hxs2 l) h ⟨b,0,none⟩ 1 1 (hx1 x) rfl (fun j u hu=>by
   rw[Addr.add_mid,Nat.zero_add]
   exact hc j u hu) (fun u hu=>hxs2_one [x] u (by rw[hxs2,hxs2,List.append_nil];exact hu)) (by unfold maxLen;omega) (by omega) hbase
 refine⟨v',w',r1,?_,r3⟩
 have e:hxs2 (l++[x])=hxs2 l++hx1 x:=by rw[hxs2_app,hxs2,hxs2,List.append_nil]
 rw[e,List.length_append]
 exact r2
theorem owns_low2 {w:World} {base base':Nat} {e:TypeId} {size n:Nat} {v:Value} {xs:List Value} (h:w.ownsRow base e size v n xs) (hb:base'≤base):w.ownsRow base' e size v n xs:=by
 refine⟨h.1,?_⟩
 rcases h.2 with h2|⟨g,cap,cur,rfl,hg,hh⟩
 ·exact .inl h2
 ·exact .inr ⟨g,cap,cur,rfl,Nat.le_trans hb hg,hh⟩
theorem cells_two {w:World} {t:Bs} {e:Int} (j:Nat) (u:Value) (hu:(hx1 (t,e))[j]?=some u):(w.alloc (.cells #[.string (st t),.int .i64 e] 96)).cell? ⟨w.heap.size,j,none⟩=some u:=by
 rw[World.cell?_alloc_new]
 simpa[hx1,sv] using hu
set_option maxHeartbeats 2000000 in
theorem rsenter_any (b q most ep n:Nat) (v:Value) (l:List Hx) (hl:l.length≤100000) (hn:n≤4294967296) (w:World) (h:Hid (Rs w b q most ep v l)) :
  Calls Tryz.prog 88 #[.pointer (some ⟨b,0,none⟩),.int .i64 (n:Int)] w fun e w'=>e = .returned (.tuple #[])∧∃v',Rs w' b q most n v' (l.filter fun x=>decide ((n:Int) - 1≤x.2))∧Bf (HFt b v) w w'∧Nx w (HFt b v) (HFt b v'):=by
 have k2:=h.out.bk.c 2 _ rfl
 have kf:=h.out.bk.f
 have E0:Hid _:=h.out.ep' n
 obtain⟨w0,hw0⟩:∃w0,w.setCell ⟨b,2,none⟩ (.int .i64 (n:Int))=w0:=⟨_,rfl⟩
 rw[hw0] at E0
 have hsz:w0.heap.size=w.heap.size:=by rw[←hw0];simp
 obtain⟨va,vc,rfl⟩:=ownsH_slice h.out.row
 obtain⟨N,hN⟩:∃N,l.length=N:=⟨_,rfl⟩
 have HN:Hid (l.length=N):=hN
 have K3:Hid (∀W,Below w0.heap.size w0 W→W.cell? ⟨b,3,none⟩=some (.slice va N vc)∧∀o,W.frozen? ⟨b,o,none⟩=false):=fun W hb=>by
  have k:=(E0.out.1.later hb).bk
  have k3:=k.c 3 _ rfl
  rw[hN] at k3
  exact⟨k3,k.f⟩
 have CS:Hid (∀W,Below w0.heap.size w0 W→∀i (hi:i < l.length),∃g,va=some ⟨g,0,none⟩∧W.cell? ⟨g,i*2,none⟩=some (sv l[i].1)∧W.cell? ⟨g,i*2+1,none⟩=some (.int .i64 l[i].2)):=fun W hb i hi=>by
  obtain⟨g,e1,-,e2,e3⟩:=ownsH_cells (E0.out.1.later hb).row i hi
  exact⟨g,e1,e2,e3⟩
 have FIN:Hid (∀W u,Below w0.heap.size w0 W→W.ownsRow w0.heap.size 96 2 u (l.filter fun x=>decide ((n:Int) - 1≤x.2)).length (hxs2 (l.filter fun x=>decide ((n:Int) - 1≤x.2)))→Rs (W.setCell ⟨b,3,none⟩ u) b q most n u (l.filter fun x=>decide ((n:Int) - 1≤x.2))∧Bf (HFt b (.slice va l.length vc)) w (W.setCell ⟨b,3,none⟩ u)∧Nx w (HFt b (.slice va l.length vc)) (HFt b u)):=fun W u hb ho=>by
  obtain⟨z1,z2,z3⟩:=E0.out.1.row' hb (owns_low2 ho (Nat.zero_le _)) (fun x e=>(ho.lt x e).1)
  exact⟨z1,E0.out.2.trans (Nx.refl _ _) z2,fun y hy=>(z3 y hy).imp id (fun z=>by omega)⟩
 have y1:IntKind.i64.wrap ((n:Int) - 1)=(n:Int) - 1:=by rw[IntKind.wrap_i64];omega
 rw[hN] at hl FIN
 rw[hN]
 obtain⟨P,hP⟩:∃P:Hx→Bool,(fun x=>decide ((n:Int) - 1≤x.2))=P:=⟨_,rfl⟩
 have HP:Hid (∀x:Hx,P x=decide ((n:Int) - 1≤x.2)):=fun x=>by rw[←hP]
 rw[hP] at FIN ⊢
 clear h hN hP E0
 go_enter Tryz.func88, Tryz.ntmps88
 go_wp2
 clear hw0 k2 kf
 go_loopw [4,5] (fun sl i wr=>∃k:Nat,k≤N∧i = .int .i64 (k:Int)∧Hid (wr.ownsRow w0.heap.size 96 2 sl ((l.take k).filter P).length (hxs2 ((l.take k).filter P))∧Below w0.heap.size w0 wr)) (fun _ i _=>N - (intOf i).toNat)
 case atStart=>exact⟨0,Nat.zero_le _,rfl,⟨rfl,.inl ⟨rfl,rfl⟩⟩,Below.refl _ _⟩
 case round =>
  obtain⟨k,hk,rfl,J⟩:=hrel
  obtain⟨k3,kf⟩:=K3.out wr J.out.2
  by_cases hlt:k < N
  ·have hkl:k < l.length:=by rw[HN.out];exact hlt
   have g1:(k:Int) < (N:Int):=by omega
   obtain⟨g,rfl,c1,c2⟩:=CS.out wr J.out.2 k hkl
   have ET:Hid ((l.take (k+1)).filter P=(l.take k).filter P++if P l[k]=true then [l[k]] else []):=by
    show _=_
    rw[List.take_succ_eq_append_getElem hkl,List.filter_append]
    congr 1
    by_cases hp:P l[k]=true
    ·rw[if_pos hp,List.filter_cons_of_pos hp];rfl
    ·rw[if_neg hp,List.filter_cons_of_neg hp];rfl
   have hpl:((l.take k).filter P).length≤1000000:=by
    have:=List.length_filter_le P (l.take k)
    rw[List.length_take] at this
    omega
   have hp0:=HP.out l[k]
   obtain⟨⟨t,e⟩,ht⟩:∃t,l[k]=t:=⟨_,rfl⟩
   rw[ht] at c1 c2 ET hp0
   have c2':wr.cell? ⟨g,k*2+1,none⟩=some (.int .i64 e):=c2
   have c1':wr.cell? ⟨g,k*2,none⟩=some (.string (st t)):=c1
   clear c1 c2 ht
   by_cases hp:(n:Int) - 1≤e
   ·rw[show P (t,e)=true by rw[hp0];exact decide_eq_true hp,if_pos rfl] at ET
    have B1:Below w0.heap.size w0 (wr.alloc (.cells #[.string (st t),.int .i64 e] 96)):=J.out.2.alloc J.out.2.size _
    obtain⟨v2,w2,r1,r2,r3⟩:=app_hadB w0.heap.size (wr.alloc (.cells #[.string (st t),.int .i64 e] 96)) 55 u4 ((l.take k).filter P) (J.out.1.alloc _) B1.size hpl (t,e) wr.heap.size (cells_two)
    have K:Hid (w2.ownsRow w0.heap.size 96 2 v2 ((l.take (k+1)).filter P).length (hxs2 ((l.take (k+1)).filter P))∧Below w0.heap.size w0 w2):=by
     rw[ET.out]
     exact⟨r2,B1.grown r3 B1.size (fun q hq=>(J.out.1.lt q hq).1)⟩
    obtain⟨T,hT⟩:∃T,st t=T:=⟨_,rfl⟩
    rw[hT] at r1 c1'
    clear r2 r3 J B1 ET hp0 hT
    go_wp2_with (first|(at_builtin;refine Go.Lib.wpList_append_run _ rfl _ _ _ _ rfl _ _ rfl rfl _ _ r1 ?_))
    go_roundw
    case rel=>exact⟨k+1,by omega,rfl,K.out⟩
    case measure=>simp[intOf];omega
   ·rw[show P (t,e)=false by rw[hp0];exact decide_eq_false hp,if_neg (by decide),List.append_nil] at ET
    have K:Hid (wr.ownsRow w0.heap.size 96 2 u4 ((l.take (k+1)).filter P).length (hxs2 ((l.take (k+1)).filter P))∧Below w0.heap.size w0 wr):=by
     rw[ET.out]
     exact J.out
    clear J ET hp0 c1'
    go_wp2
    go_roundw
    case rel=>exact⟨k+1,by omega,rfl,K.out⟩
    case measure=>simp[intOf];omega
  ·have g1:¬(k:Int) < (N:Int):=by omega
   have J1:=J.out
   rw[List.take_of_length_le (show l.length≤k by rw[HN.out];omega)] at J1
   have FF:Hid _:=FIN.out wr u4 J1.2 J1.1
   obtain⟨ua,uc,rfl⟩:∃a c,u4 = .slice a (l.filter P).length c:=ownsH_slice (owns_low2 J1.1 (Nat.zero_le _))
   clear J1 J FIN CS K3
   go_wp2
   go_end0
   exact⟨rfl,_,FF.out⟩
theorem cell_alloc2 {w:World} {a:Addr} {v:Value} {o:Obj} (h:w.cell? a=some v):(w.alloc o).cell? a=some v:=cell_later (nb w o) h
theorem Rs.ap1 {W:World} {base g:Nat} {v:Value} {l:List Hx} (o:W.ownsRow base 96 2 (.slice (some ⟨g,0,none⟩) 0 0) 0 []) (h:OwnsH W v l) (hl:l.length≤100000) (hb:base≤W.heap.size) :
  ∃xa xn xc w',(Builtin.append_ #[55, 55] 55 #[.slice (some ⟨g,0,none⟩) 0 0,v]).run Tryz.prog W = .ok (.slice xa xn xc) w'∧w'.ownsRow base 96 2 (.slice xa xn xc) l.length (hxs2 l)∧W.grownBy w' (some g):=by
 obtain⟨i0,hi,hz0,hz1,hz2⟩:=info_parts infoH
 have h0:=h
 rcases h.2 with ⟨rfl,hl0⟩|⟨k,cap,cur,rfl,-⟩
 ·obtain rfl:=List.length_eq_zero_iff.1 hl0
  exact⟨_,_,_,_,run_append_owned_none (P:=Tryz.prog) _ base 55 55 96 i0 2 Tryz.underlying55 hi _ 0 [] o,o,⟨rfl,rfl,rfl,Nat.le_refl _,fun _ _ _=>rfl⟩⟩
 ·obtain ⟨v', w', r1, r2, r3, -, -⟩ := run_append_own_at (P := Tryz.prog) _ base 55 55 96 i0 _ 2 24 Tryz.underlying55 hi hz0 hz1 hz2 rfl (by decide) _ 0 [] o ⟨k, 0, none⟩ l.length cap (hxs2 l) (hxs2_len l) (fun j u hu => by
       rw[Addr.add_mid,Nat.zero_add]
       have hj:j < l.length*2:=by have:=(List.getElem?_eq_some_iff.1 hu).1;rw[hxs2_len] at this;exact this
       rw[h0.cellAt j hj]
       exact hu) (hxs2_one _) (by unfold maxLen;omega) (by omega) hb
  rw[Nat.zero_add,List.nil_append] at r2
  obtain⟨xa,xc,rfl⟩:∃a c,v' = .slice a l.length c:=ownsH_slice (owns_low2 r2 (Nat.zero_le _))
  exact⟨xa,_,xc,w',r1,r2,r3⟩
def opa0:Oper:={ dst:=some 8,op:=Go.Op.move (Go.Operand.tmp 0),type := 45, pos := "ref.go:64", after:=#[],guard:=none }
def opa1:Oper:={ dst:=some 9,op:=Go.Op.buildSlice 55 0 #[],type := 55, pos := "ref.go:64", after:=#[],guard:=none }
def opa2:Oper:={ dst:=some 10,op:=Go.Op.move (Go.Operand.tmp 0),type := 45, pos := "ref.go:64", after:=#[],guard:=none }
def opa3:Oper:={ dst:=some 11,op:=Go.Op.nilCheck (Go.Operand.tmp 10),type:=0,pos := "ref.go:64", after:=#[{ on:=2,ground:=Go.Ground.data }],guard:=none }
def opa4:Oper:={ dst:=some 12,op:=Go.Op.fieldAddr 57 (Go.Operand.tmp 11) 3,type:=0,pos := "ref.go:64", after:=#[{ on:=3,ground:=Go.Ground.data }],guard:=none }
def opa5:Oper:={ dst:=some 13,op:=Go.Op.load 55 (Go.Operand.tmp 12),type := 55, pos := "ref.go:64", after:=#[{ on:=4,ground:=Go.Ground.data }],guard:=none }
def opa6:Oper:={ dst:=some 14,op:=Go.Op.call { callee:=Go.Callee.builtin Go.Builtin.append,args:=#[Go.Operand.tmp 9,Go.Operand.tmp 13],argTypes:=#[55, 55] },type := 55, pos := "ref.go:64", after:=#[{ on:=1,ground:=Go.Ground.data },{ on:=5,ground:=Go.Ground.data }],guard:=none }
def opa7:Oper:={ dst:=some 15,op:=Go.Op.move (Go.Operand.tmp 1),type := 9, pos := "ref.go:64", after:=#[],guard:=none }
def opa8:Oper:={ dst:=some 16,op:=Go.Op.move (Go.Operand.tmp 0),type := 45, pos := "ref.go:64", after:=#[],guard:=none }
def opa9:Oper:={ dst:=some 17,op:=Go.Op.nilCheck (Go.Operand.tmp 16),type:=0,pos := "ref.go:64", after:=#[{ on:=8,ground:=Go.Ground.data }],guard:=none }
def opa10:Oper:={ dst:=some 18,op:=Go.Op.fieldAddr 57 (Go.Operand.tmp 17) 2,type:=0,pos := "ref.go:64", after:=#[{ on:=9,ground:=Go.Ground.data }],guard:=none }
def opa11:Oper:={ dst:=some 19,op:=Go.Op.load 3 (Go.Operand.tmp 18),type := 3, pos := "ref.go:64", after:=#[{ on:=10,ground:=Go.Ground.data }],guard:=none }
def opa12:Oper:={ dst:=some 20,op:=Go.Op.build 96 #[(0,Go.Operand.tmp 15),(1,Go.Operand.tmp 19)],type := 96, pos := "ref.go:64", after:=#[{ on:=7,ground:=Go.Ground.data },{ on:=11,ground:=Go.Ground.data }],guard:=none }
def opa13:Oper:={ dst:=some 21,op:=Go.Op.buildSlice 55 1 #[(0,Go.Operand.tmp 20)],type := 55, pos := "ref.go:64", after:=#[{ on:=12,ground:=Go.Ground.data }],guard:=none }
def opa14:Oper:={ dst:=some 22,op:=Go.Op.call { callee:=Go.Callee.builtin Go.Builtin.append,args:=#[Go.Operand.tmp 14,Go.Operand.tmp 21],argTypes:=#[55, 55] },type := 55, pos := "ref.go:64", after:=#[{ on:=6,ground:=Go.Ground.data },{ on:=13,ground:=Go.Ground.data },{ on:=6,ground:=Go.Ground.chain }],guard:=none }
def opa15:Oper:={ dst:=some 23,op:=Go.Op.nilCheck (Go.Operand.tmp 8),type:=0,pos := "ref.go:64", after:=#[{ on:=0,ground:=Go.Ground.data },{ on:=0,ground:=Go.Ground.phase },{ on:=1,ground:=Go.Ground.phase },{ on:=2,ground:=Go.Ground.phase },{ on:=3,ground:=Go.Ground.phase },{ on:=4,ground:=Go.Ground.phase },{ on:=5,ground:=Go.Ground.phase },{ on:=6,ground:=Go.Ground.phase },{ on:=7,ground:=Go.Ground.phase },{ on:=8,ground:=Go.Ground.phase },{ on:=9,ground:=Go.Ground.phase },{ on:=10,ground:=Go.Ground.phase },{ on:=11,ground:=Go.Ground.phase },{ on:=12,ground:=Go.Ground.phase },{ on:=13,ground:=Go.Ground.phase },{ on:=14,ground:=Go.Ground.phase }],guard:=none }
def opa16:Oper:={ dst:=some 24,op:=Go.Op.fieldAddr 57 (Go.Operand.tmp 23) 3,type:=0,pos := "ref.go:64", after:=#[{ on:=15,ground:=Go.Ground.data },{ on:=0,ground:=Go.Ground.phase },{ on:=1,ground:=Go.Ground.phase },{ on:=2,ground:=Go.Ground.phase },{ on:=3,ground:=Go.Ground.phase },{ on:=4,ground:=Go.Ground.phase },{ on:=5,ground:=Go.Ground.phase },{ on:=6,ground:=Go.Ground.phase },{ on:=7,ground:=Go.Ground.phase },{ on:=8,ground:=Go.Ground.phase },{ on:=9,ground:=Go.Ground.phase },{ on:=10,ground:=Go.Ground.phase },{ on:=11,ground:=Go.Ground.phase },{ on:=12,ground:=Go.Ground.phase },{ on:=13,ground:=Go.Ground.phase },{ on:=14,ground:=Go.Ground.phase }],guard:=none }
def opa17:Oper:={ dst:=none,op:=Go.Op.store 55 (Go.Operand.tmp 24) (Go.Operand.tmp 22),type:=0,pos := "ref.go:64", after:=#[{ on:=16,ground:=Go.Ground.data },{ on:=14,ground:=Go.Ground.data },{ on:=14,ground:=Go.Ground.chain },{ on:=0,ground:=Go.Ground.phase },{ on:=1,ground:=Go.Ground.phase },{ on:=2,ground:=Go.Ground.phase },{ on:=3,ground:=Go.Ground.phase },{ on:=4,ground:=Go.Ground.phase },{ on:=5,ground:=Go.Ground.phase },{ on:=6,ground:=Go.Ground.phase },{ on:=7,ground:=Go.Ground.phase },{ on:=8,ground:=Go.Ground.phase },{ on:=9,ground:=Go.Ground.phase },{ on:=10,ground:=Go.Ground.phase },{ on:=11,ground:=Go.Ground.phase },{ on:=12,ground:=Go.Ground.phase },{ on:=13,ground:=Go.Ground.phase },{ on:=14,ground:=Go.Ground.phase }],guard:=none }
set_option maxHeartbeats 4000000 in
theorem rsadd_new (b q most ep:Nat) (v:Value) (l:List Hx) (hl:l.length≤100000) (t:Bs) (hm:t ∉ l.map (·.1)) (w:World) (h:Hid (Rs w b q most ep v l)) :
  Calls Tryz.prog 86 #[.pointer (some ⟨b,0,none⟩),.string (st t)] w fun e w'=>e = .returned (.tuple #[])∧∃v',Rs w' b q most ep v' (l++[(t,(ep:Int))])∧Bf (HFt b v) w w'∧Nx w (HFt b v) (HFt b v'):=by
 have HS:Hid _:=rshas_any b q most ep v l hl (st t) w h
 rw[st_data,decide_eq_false hm] at HS
 obtain⟨Z,hZ⟩:∃Z,w.drew=Z:=⟨_,rfl⟩
 have HZ:Hid (Rs Z b q most ep v l):=by rw[←hZ];exact h.out.later (Below.refl _ _).drew
 have BZ:Hid (Below w.heap.size w Z):=by rw[←hZ];exact (Below.refl _ _).drew
 have SZ:Hid (Z.heap.size=w.heap.size):=by rw[←hZ];rfl
 obtain⟨va,vn,vc,rfl⟩:∃a n c,v = .slice a n c:=by obtain⟨a,c,e⟩:=ownsH_slice h.out.row;exact⟨a,_,c,e⟩
 have b1:w.cell? ⟨b,2,none⟩=some (.int .i64 (ep:Int)):=h.out.bk.c 2 _ rfl
 have K3:Hid (∀V,Below Z.heap.size Z V→V.cell? ⟨b,3,none⟩=some (.slice va vn vc)∧V.frozen? ⟨b,3,none⟩=false∧V.cell? ⟨b,2,none⟩=some (.int .i64 (ep:Int))):=fun V hb=>⟨(HZ.out.later hb).bk.c 3 _ rfl,(HZ.out.later hb).bk.f 3,(HZ.out.later hb).bk.c 2 _ rfl⟩
 have MK:Hid (∀V,Below Z.heap.size Z V→(V.alloc (.cells #[] 96)).ownsRow Z.heap.size 96 2 (.slice (some ⟨V.heap.size,0,none⟩) 0 0) 0 []):=fun V hb=>World.ownsRow_made (base:=Z.heap.size) (e := 96) (size:=2) V #[] 0 hb.size (Nat.zero_le _) rfl
 have A1:Hid (∀V g,Below Z.heap.size Z V→V.ownsRow Z.heap.size 96 2 (.slice (some ⟨g,0,none⟩) 0 0) 0 []→∃xa xn xc w',(Builtin.append_ #[55, 55] 55 #[.slice (some ⟨g,0,none⟩) 0 0,.slice va vn vc]).run Tryz.prog V = .ok (.slice xa xn xc) w'∧Hid (w'.ownsRow Z.heap.size 96 2 (.slice xa xn xc) l.length (hxs2 l)∧Below Z.heap.size Z w'∧∀y,y < V.heap.size→y≠g→w'.heap[y]?=V.heap[y]?)):=fun V g hb o=>by
  obtain⟨xa,xn,xc,w',r1,r2,r3⟩:=Rs.ap1 o (HZ.out.later hb).row hl hb.size
  exact⟨xa,xn,xc,w',r1,r2,hb.grown r3 hb.size (fun k hk=>by injection hk with hk;rw[←hk];exact (o.lt g rfl).1),fun y hy hg=>r3.block y hy (fun e=>by injection e with e;exact hg e)⟩
 have A2:Hid (∀V xa xn xc g,Below Z.heap.size Z V→V.ownsRow Z.heap.size 96 2 (.slice xa xn xc) l.length (hxs2 l)→(∀j u,(hx1 (t,(ep:Int)))[j]?=some u→V.cell? ⟨g,j,none⟩=some u)→∃ya yn yc w',(Builtin.append_ #[55, 55] 55 #[.slice xa xn xc,.slice (some ⟨g,0,none⟩) 1 1]).run Tryz.prog V = .ok (.slice ya yn yc) w'∧Hid (Below Z.heap.size Z w'∧Rs (w'.setCell ⟨b,3,none⟩ (.slice ya yn yc)) b q most ep (.slice ya yn yc) (l++[(t,(ep:Int))])∧Bf (HFt b (.slice va vn vc)) w (w'.setCell ⟨b,3,none⟩ (.slice ya yn yc))∧Nx w (HFt b (.slice va vn vc)) (HFt b (.slice ya yn yc)))):=fun V xa xn xc g hb o hc=>by
  obtain⟨v',w',r1,r2,r3⟩:=app_hadB Z.heap.size V 55 (.slice xa xn xc) l o hb.size (by omega) (t,(ep:Int)) g hc
  have hb':Below Z.heap.size Z w':=hb.grown r3 hb.size (fun k hk=>(o.lt k hk).1)
  obtain⟨ya,yc,rfl⟩:∃a c,v' = .slice a (l++[(t,(ep:Int))]).length c:=ownsH_slice (owns_low2 r2 (Nat.zero_le _))
  obtain⟨z1,z2,z3⟩:=HZ.out.row' hb' (owns_low2 r2 (Nat.zero_le _)) (fun x e=>(r2.lt x e).1)
  exact⟨ya,_,yc,w',r1,hb',z1,(Bf.of BZ.out).trans (Nx.refl _ _) z2,fun y hy=>(z3 y hy).imp id (fun z=>by rw[←SZ.out];exact z)⟩
 have HT:Hid (Value.string (st t)=sv t):=(rfl:Value.string (st t)=sv t)
 obtain⟨T,hT⟩:∃T,st t=T:=⟨_,rfl⟩
 have CT:Hid (∀(V:World) (j:Nat) (u:Value),(hx1 (t,(ep:Int)))[j]?=some u→(V.alloc (.cells #[.string T,.int .i64 (ep:Int)] 96)).cell? ⟨V.heap.size,j,none⟩=some u):=fun V j u hu=>by rw[←hT];exact cells_two j u hu
 obtain⟨Bz,hBz⟩:∃B,Z.heap.size=B:=⟨_,rfl⟩
 have HB0:Hid (Below Z.heap.size Z Z):=Below.refl _ _
 have HBZ:Hid (Bz≤Z.heap.size):=Nat.le_of_eq hBz.symm
 rw[hBz] at K3 MK A1 A2 HB0
 rw[hT] at HS ⊢
 clear hT h HZ hm hBz SZ BZ
 go_enter Tryz.func86, Tryz.ntmps86
 go_wp2_with fail
 refine Calls.mono HS.out ?_
 rintro e w1 ⟨rfl,rfl⟩
 clear HS
 go_wp2_with fail
 refine wp_region_noPanic ?_
 refine wp_region_held_drew (S:=fun w'=>w'.cell? ⟨b,2,none⟩=some (.int .i64 (ep:Int))) (by kernel_rfl) (b1) (fun hHeld => ?_)
 rw[hZ] at hHeld ⊢
 clear hZ b1
 refine wpAnyH_take (i:=0) (oi:=opa0) (v := ?_) rfl (by kernel_rfl) (by kernel_rfl) (by kernel_rfl) (fun _ _ _ h=>h) (Or.inl ⟨by rfl,?_⟩) (by assumption) ?_
 rotate_left
 ·intro w' hSw
  clear hSw
  unfold opa0
  first
  | (go_simp;done)
  | (go_simp;with_reducible rfl)
 simp only[opa0,Act.put,List.setIfInBounds_toArray,List.set_cons_zero,List.set_cons_succ]
 refine wpAnyH_take (i:=2) (oi:=opa2) (v := ?_) rfl (by kernel_rfl) (by kernel_rfl) (by kernel_rfl) (fun _ _ _ h=>h) (Or.inl ⟨by rfl,?_⟩) (by assumption) ?_
 rotate_left
 ·intro w' hSw
  clear hSw
  unfold opa2
  first
  | (go_simp;done)
  | (go_simp;with_reducible rfl)
 simp only[opa2,Act.put,List.setIfInBounds_toArray,List.set_cons_zero,List.set_cons_succ]
 refine wpAnyH_take (i:=3) (oi:=opa3) (v := ?_) rfl (by kernel_rfl) (by kernel_rfl) (by kernel_rfl) (fun _ _ _ h=>h) (Or.inl ⟨by rfl,?_⟩) (by assumption) ?_
 rotate_left
 ·intro w' hSw
  clear hSw
  unfold opa3
  first
  | (go_simp;done)
  | (go_simp;with_reducible rfl)
 simp only[opa3,Act.put,List.setIfInBounds_toArray,List.set_cons_zero,List.set_cons_succ]
 refine wpAnyH_take (i:=4) (oi:=opa4) (v := ?_) rfl (by kernel_rfl) (by kernel_rfl) (by kernel_rfl) (fun _ _ _ h=>h) (Or.inl ⟨by rfl,?_⟩) (by assumption) ?_
 rotate_left
 ·intro w' hSw
  clear hSw
  unfold opa4
  first
  | (go_simp;done)
  | (go_simp;with_reducible rfl)
 simp only[opa4,Act.put,List.setIfInBounds_toArray,List.set_cons_zero,List.set_cons_succ]
 refine wpAnyH_take (i:=7) (oi:=opa7) (v := ?_) rfl (by kernel_rfl) (by kernel_rfl) (by kernel_rfl) (fun _ _ _ h=>h) (Or.inl ⟨by rfl,?_⟩) (by assumption) ?_
 rotate_left
 ·intro w' hSw
  clear hSw
  unfold opa7
  first
  | (go_simp;done)
  | (go_simp;with_reducible rfl)
 simp only[opa7,Act.put,List.setIfInBounds_toArray,List.set_cons_zero,List.set_cons_succ]
 refine wpAnyH_take (i:=8) (oi:=opa8) (v := ?_) rfl (by kernel_rfl) (by kernel_rfl) (by kernel_rfl) (fun _ _ _ h=>h) (Or.inl ⟨by rfl,?_⟩) (by assumption) ?_
 rotate_left
 ·intro w' hSw
  clear hSw
  unfold opa8
  first
  | (go_simp;done)
  | (go_simp;with_reducible rfl)
 simp only[opa8,Act.put,List.setIfInBounds_toArray,List.set_cons_zero,List.set_cons_succ]
 refine wpAnyH_take (i:=9) (oi:=opa9) (v := ?_) rfl (by kernel_rfl) (by kernel_rfl) (by kernel_rfl) (fun _ _ _ h=>h) (Or.inl ⟨by rfl,?_⟩) (by assumption) ?_
 rotate_left
 ·intro w' hSw
  clear hSw
  unfold opa9
  first
  | (go_simp;done)
  | (go_simp;with_reducible rfl)
 simp only[opa9,Act.put,List.setIfInBounds_toArray,List.set_cons_zero,List.set_cons_succ]
 refine wpAnyH_take (i:=10) (oi:=opa10) (v := ?_) rfl (by kernel_rfl) (by kernel_rfl) (by kernel_rfl) (fun _ _ _ h=>h) (Or.inl ⟨by rfl,?_⟩) (by assumption) ?_
 rotate_left
 ·intro w' hSw
  clear hSw
  unfold opa10
  first
  | (go_simp;done)
  | (go_simp;with_reducible rfl)
 simp only[opa10,Act.put,List.setIfInBounds_toArray,List.set_cons_zero,List.set_cons_succ]
 refine wpAnyH_take (i:=11) (oi:=opa11) (v := ?_) rfl (by kernel_rfl) (by kernel_rfl) (by kernel_rfl) (fun _ _ _ h=>h) (Or.inl ⟨by rfl,?_⟩) (by assumption) ?_
 rotate_left
 ·intro w' hSw
  have s1:=hSw
  unfold opa11
  first
  | (go_simp;done)
  | (go_simp;with_reducible rfl)
 simp only[opa11,Act.put,List.setIfInBounds_toArray,List.set_cons_zero,List.set_cons_succ]
 refine wpAnyH_take (i:=12) (oi:=opa12) (v := ?_) rfl (by kernel_rfl) (by kernel_rfl) (by kernel_rfl) (fun _ _ _ h=>h) (Or.inl ⟨by rfl,?_⟩) (by assumption) ?_
 rotate_left
 ·intro w' hSw
  clear hSw
  unfold opa12
  first
  | (go_simp;done)
  | (go_simp;with_reducible rfl)
 simp only[opa12,Act.put,List.setIfInBounds_toArray,List.set_cons_zero,List.set_cons_succ]
 refine wpAnyH_ready (rs:=[1,5,13]) (by kernel_rfl) (by simp) ?_
 refine AllReadyH.cons (o:=opa1) rfl (fun KK hKK => ?_) (AllReadyH.cons (o:=opa5) rfl (fun KK hKK => ?_) (AllReadyH.cons (o:=opa13) rfl (fun KK hKK => ?_) AllReadyH.nil))
 ·unfold opa1
  go_simp
  have HB1:Hid (Below Bz Z (Z.alloc (.cells #[] 96))):=HB0.out.alloc (Nat.le_trans HBZ.out HB0.out.size) _
  have OW1:Hid _:=MK.out Z HB0.out
  refine hKK.out _ _ (cell_alloc2 hHeld) (fun hHeld1 => ?_)
  clear hKK KK
  obtain⟨V1,hV1⟩:∃V,Z.alloc (.cells #[] 96)=V:=⟨_,rfl⟩
  rw[hV1] at hHeld1 HB1 OW1 ⊢
  obtain⟨g1,hg1⟩:∃g,Z.heap.size=g:=⟨_,rfl⟩
  rw[hg1] at OW1 ⊢
  clear hV1 hg1
  refine wpAnyH_ready (rs:=[5,13]) (by kernel_rfl) (by simp) ?_
  refine AllReadyH.cons (o:=opa5) rfl (fun KK hKK => ?_) (AllReadyH.cons (o:=opa13) rfl (fun KK hKK => ?_) AllReadyH.nil)
  ·have lc:=(K3.out _ HB1.out).1
   unfold opa5
   go_simp
   refine hKK.out _ _ hHeld1 (fun hHeldL => ?_)
   clear hKK KK lc
   refine wpAnyH_ready (rs:=[6,13]) (by kernel_rfl) (by simp) ?_
   refine AllReadyH.cons (o:=opa6) rfl (fun KK hKK => ?_) (AllReadyH.cons (o:=opa13) rfl (fun KK hKK => ?_) AllReadyH.nil)
   ·obtain⟨xa,xn,xc,V2,hr,AO2⟩:=A1.out V1 g1 HB1.out OW1.out
    rw[if_pos (by kernel_rfl)]
    refine Go.Lib.wp_append_run _ _ _ _ _ rfl _ _ rfl rfl _ _ hr ?_
    have HB2:Hid _:=AO2.out.2.1
    have OA2:Hid _:=AO2.out.1
    refine hKK.out _ _ ((K3.out _ HB2.out).2.2) (fun hHeld2 => ?_)
    clear hKK KK hr AO2
    simp only[opa6,Act.put,List.setIfInBounds_toArray,List.set_cons_zero,List.set_cons_succ]
    refine wpAnyH_ready (rs:=[13]) (by kernel_rfl) (by simp) ?_
    refine AllReadyH.cons (o:=opa13) rfl (fun KK hKK => ?_) AllReadyH.nil
    unfold opa13
    go_simp
    have HB3:Hid (Below Bz Z (V2.alloc (.cells #[.string T,.int .i64 (ep:Int)] 96))):=HB2.out.alloc (Nat.le_trans HBZ.out HB2.out.size) _
    have CC3:Hid _:=CT.out V2
    have OA3:Hid _:=World.ownsRow.alloc OA2.out (.cells #[.string T,.int .i64 (ep:Int)] 96)
    refine hKK.out _ _ (cell_alloc2 hHeld2) (fun hHeld3 => ?_)
    clear hKK KK
    obtain⟨V3,hV3⟩:∃V,V2.alloc (.cells #[.string T,.int .i64 (ep:Int)] 96)=V:=⟨_,rfl⟩
    rw[hV3] at hHeld3 HB3 CC3 OA3 ⊢
    obtain⟨g2,hg2⟩:∃g,V2.heap.size=g:=⟨_,rfl⟩
    rw[hg2] at CC3 ⊢
    clear hV3 hg2
    refine wpAnyH_ready (rs:=[14]) (by kernel_rfl) (by simp) ?_
    refine AllReadyH.cons (o:=opa14) rfl (fun KK hKK => ?_) AllReadyH.nil
    obtain⟨ya,yn,yc,V4,hr,AO4⟩:=A2.out V3 xa xn xc g2 HB3.out OA3.out CC3.out
    rw[if_pos (by kernel_rfl)]
    refine Go.Lib.wp_append_run _ _ _ _ _ rfl _ _ rfl rfl _ _ hr ?_
    have HB4:Hid _:=AO4.out.1
    refine hKK.out _ _ ((K3.out _ HB4.out).2.2) (fun hHeld4 => ?_)
    clear hKK KK hr
    simp only[opa14,Act.put,List.setIfInBounds_toArray,List.set_cons_zero,List.set_cons_succ]
    refine wpAnyH_take (i:=15) (oi:=opa15) (v := ?_) rfl (by kernel_rfl) (by kernel_rfl) (by kernel_rfl) (fun _ _ _ h=>h) (Or.inl ⟨by rfl,?_⟩) (by assumption) ?_
    rotate_left
    ·intro w' hSw
     clear hSw
     unfold opa15
     first
     | (go_simp;done)
     | (go_simp;with_reducible rfl)
    simp only[opa15,Act.put,List.setIfInBounds_toArray,List.set_cons_zero,List.set_cons_succ]
    refine wpAnyH_take (i:=16) (oi:=opa16) (v := ?_) rfl (by kernel_rfl) (by kernel_rfl) (by kernel_rfl) (fun _ _ _ h=>h) (Or.inl ⟨by rfl,?_⟩) (by assumption) ?_
    rotate_left
    ·intro w' hSw
     clear hSw
     unfold opa16
     first
     | (go_simp;done)
     | (go_simp;with_reducible rfl)
    simp only[opa16,Act.put,List.setIfInBounds_toArray,List.set_cons_zero,List.set_cons_succ]
    refine wpAnyH_ready (rs:=[17]) (by kernel_rfl) (by simp) ?_
    refine AllReadyH.cons (o:=opa17) rfl (fun KK hKK => ?_) AllReadyH.nil
    have sc:=(K3.out _ HB4.out).1
    have sf:=(K3.out _ HB4.out).2.1
    have SS:(V4.setCell ⟨b,3,none⟩ (.slice ya yn yc)).cell? ⟨b,2,none⟩=some (.int .i64 (ep:Int)):=by rw[World.cell?_setCell_other _ _ _ _ (by simp)];exact hHeld4
    unfold opa17
    go_simp
    refine hKK.out _ _ SS (fun hHeldS => ?_)
    clear hKK KK sc sf SS
    refine wpAnyH_done (by kernel_rfl) ?_ _
    refine NoPanic.normal ?_
    have FF:Hid _:=AO4.out.2
    clear A1 A2 K3 MK CT
    go_wp2_with fail
    go_end0
    exact⟨rfl,_,FF.out⟩
   ·unfold opa13
    go_simp
    have HB2:Hid (Below Bz Z (V1.alloc (.cells #[.string T,.int .i64 (ep:Int)] 96))):=HB1.out.alloc (Nat.le_trans HBZ.out HB1.out.size) _
    have CC2:Hid _:=CT.out V1
    have OW2:Hid _:=World.ownsRow.alloc OW1.out (.cells #[.string T,.int .i64 (ep:Int)] 96)
    have NE2:Hid (g1 < V1.heap.size):=(World.ownsRow.lt OW1.out g1 rfl).2
    refine hKK.out _ _ (cell_alloc2 hHeldL) (fun hHeld2 => ?_)
    clear hKK KK
    obtain⟨V2,hV2⟩:∃V,V1.alloc (.cells #[.string T,.int .i64 (ep:Int)] 96)=V:=⟨_,rfl⟩
    rw[hV2] at hHeld2 HB2 CC2 OW2 ⊢
    obtain⟨g2,hg2⟩:∃g,V1.heap.size=g:=⟨_,rfl⟩
    rw[hg2] at CC2 NE2 ⊢
    clear hV2 hg2
    refine wpAnyH_ready (rs:=[6]) (by kernel_rfl) (by simp) ?_
    refine AllReadyH.cons (o:=opa6) rfl (fun KK hKK => ?_) AllReadyH.nil
    obtain⟨xa,xn,xc,V3,hr,AO3⟩:=A1.out V2 g1 HB2.out OW2.out
    rw[if_pos (by kernel_rfl)]
    refine Go.Lib.wp_append_run _ _ _ _ _ rfl _ _ rfl rfl _ _ hr ?_
    have HB3:Hid _:=AO3.out.2.1
    have OA3:Hid _:=AO3.out.1
    have CC3:Hid (∀j u,(hx1 (t,(ep:Int)))[j]?=some u→V3.cell? ⟨g2,j,none⟩=some u):=fun j u hu=>(World.cell?_of_block (a:=⟨g2,j,none⟩) (AO3.out.2.2 g2 (World.block_lt_of_cell? _ _ (CC2.out 0 _ rfl)) (Ne.symm (Nat.ne_of_lt NE2.out)))).trans (CC2.out j u hu)
    refine hKK.out _ _ ((K3.out _ HB3.out).2.2) (fun hHeld3 => ?_)
    clear hKK KK hr AO3
    simp only[opa6,Act.put,List.setIfInBounds_toArray,List.set_cons_zero,List.set_cons_succ]
    refine wpAnyH_ready (rs:=[14]) (by kernel_rfl) (by simp) ?_
    refine AllReadyH.cons (o:=opa14) rfl (fun KK hKK => ?_) AllReadyH.nil
    obtain⟨ya,yn,yc,V4,hr,AO4⟩:=A2.out V3 xa xn xc g2 HB3.out OA3.out CC3.out
    rw[if_pos (by kernel_rfl)]
    refine Go.Lib.wp_append_run _ _ _ _ _ rfl _ _ rfl rfl _ _ hr ?_
    have HB4:Hid _:=AO4.out.1
    refine hKK.out _ _ ((K3.out _ HB4.out).2.2) (fun hHeld4 => ?_)
    clear hKK KK hr
    simp only[opa14,Act.put,List.setIfInBounds_toArray,List.set_cons_zero,List.set_cons_succ]
    refine wpAnyH_take (i:=15) (oi:=opa15) (v := ?_) rfl (by kernel_rfl) (by kernel_rfl) (by kernel_rfl) (fun _ _ _ h=>h) (Or.inl ⟨by rfl,?_⟩) (by assumption) ?_
    rotate_left
    ·intro w' hSw
     clear hSw
     unfold opa15
     first
     | (go_simp;done)
     | (go_simp;with_reducible rfl)
    simp only[opa15,Act.put,List.setIfInBounds_toArray,List.set_cons_zero,List.set_cons_succ]
    refine wpAnyH_take (i:=16) (oi:=opa16) (v := ?_) rfl (by kernel_rfl) (by kernel_rfl) (by kernel_rfl) (fun _ _ _ h=>h) (Or.inl ⟨by rfl,?_⟩) (by assumption) ?_
    rotate_left
    ·intro w' hSw
     clear hSw
     unfold opa16
     first
     | (go_simp;done)
     | (go_simp;with_reducible rfl)
    simp only[opa16,Act.put,List.setIfInBounds_toArray,List.set_cons_zero,List.set_cons_succ]
    refine wpAnyH_ready (rs:=[17]) (by kernel_rfl) (by simp) ?_
    refine AllReadyH.cons (o:=opa17) rfl (fun KK hKK => ?_) AllReadyH.nil
    have sc:=(K3.out _ HB4.out).1
    have sf:=(K3.out _ HB4.out).2.1
    have SS:(V4.setCell ⟨b,3,none⟩ (.slice ya yn yc)).cell? ⟨b,2,none⟩=some (.int .i64 (ep:Int)):=by rw[World.cell?_setCell_other _ _ _ _ (by simp)];exact hHeld4
    unfold opa17
    go_simp
    refine hKK.out _ _ SS (fun hHeldS => ?_)
    clear hKK KK sc sf SS
    refine wpAnyH_done (by kernel_rfl) ?_ _
    refine NoPanic.normal ?_
    have FF:Hid _:=AO4.out.2
    clear A1 A2 K3 MK CT
    go_wp2_with fail
    go_end0
    exact⟨rfl,_,FF.out⟩
  ·unfold opa13
   go_simp
   have HB2:Hid (Below Bz Z (V1.alloc (.cells #[.string T,.int .i64 (ep:Int)] 96))):=HB1.out.alloc (Nat.le_trans HBZ.out HB1.out.size) _
   have CC2:Hid _:=CT.out V1
   have OW2:Hid _:=World.ownsRow.alloc OW1.out (.cells #[.string T,.int .i64 (ep:Int)] 96)
   have NE2:Hid (g1 < V1.heap.size):=(World.ownsRow.lt OW1.out g1 rfl).2
   refine hKK.out _ _ (cell_alloc2 hHeld1) (fun hHeld2 => ?_)
   clear hKK KK
   obtain⟨V2,hV2⟩:∃V,V1.alloc (.cells #[.string T,.int .i64 (ep:Int)] 96)=V:=⟨_,rfl⟩
   rw[hV2] at hHeld2 HB2 CC2 OW2 ⊢
   obtain⟨g2,hg2⟩:∃g,V1.heap.size=g:=⟨_,rfl⟩
   rw[hg2] at CC2 NE2 ⊢
   clear hV2 hg2
   refine wpAnyH_ready (rs:=[5]) (by kernel_rfl) (by simp) ?_
   refine AllReadyH.cons (o:=opa5) rfl (fun KK hKK => ?_) AllReadyH.nil
   have lc:=(K3.out _ HB2.out).1
   unfold opa5
   go_simp
   refine hKK.out _ _ hHeld2 (fun hHeldL => ?_)
   clear hKK KK lc
   refine wpAnyH_ready (rs:=[6]) (by kernel_rfl) (by simp) ?_
   refine AllReadyH.cons (o:=opa6) rfl (fun KK hKK => ?_) AllReadyH.nil
   obtain⟨xa,xn,xc,V3,hr,AO3⟩:=A1.out V2 g1 HB2.out OW2.out
   rw[if_pos (by kernel_rfl)]
   refine Go.Lib.wp_append_run _ _ _ _ _ rfl _ _ rfl rfl _ _ hr ?_
   have HB3:Hid _:=AO3.out.2.1
   have OA3:Hid _:=AO3.out.1
   have CC3:Hid (∀j u,(hx1 (t,(ep:Int)))[j]?=some u→V3.cell? ⟨g2,j,none⟩=some u):=fun j u hu=>(World.cell?_of_block (a:=⟨g2,j,none⟩) (AO3.out.2.2 g2 (World.block_lt_of_cell? _ _ (CC2.out 0 _ rfl)) (Ne.symm (Nat.ne_of_lt NE2.out)))).trans (CC2.out j u hu)
   refine hKK.out _ _ ((K3.out _ HB3.out).2.2) (fun hHeld3 => ?_)
   clear hKK KK hr AO3
   simp only[opa6,Act.put,List.setIfInBounds_toArray,List.set_cons_zero,List.set_cons_succ]
   refine wpAnyH_ready (rs:=[14]) (by kernel_rfl) (by simp) ?_
   refine AllReadyH.cons (o:=opa14) rfl (fun KK hKK => ?_) AllReadyH.nil
   obtain⟨ya,yn,yc,V4,hr,AO4⟩:=A2.out V3 xa xn xc g2 HB3.out OA3.out CC3.out
   rw[if_pos (by kernel_rfl)]
   refine Go.Lib.wp_append_run _ _ _ _ _ rfl _ _ rfl rfl _ _ hr ?_
   have HB4:Hid _:=AO4.out.1
   refine hKK.out _ _ ((K3.out _ HB4.out).2.2) (fun hHeld4 => ?_)
   clear hKK KK hr
   simp only[opa14,Act.put,List.setIfInBounds_toArray,List.set_cons_zero,List.set_cons_succ]
   refine wpAnyH_take (i:=15) (oi:=opa15) (v := ?_) rfl (by kernel_rfl) (by kernel_rfl) (by kernel_rfl) (fun _ _ _ h=>h) (Or.inl ⟨by rfl,?_⟩) (by assumption) ?_
   rotate_left
   ·intro w' hSw
    clear hSw
    unfold opa15
    first
    | (go_simp;done)
    | (go_simp;with_reducible rfl)
   simp only[opa15,Act.put,List.setIfInBounds_toArray,List.set_cons_zero,List.set_cons_succ]
   refine wpAnyH_take (i:=16) (oi:=opa16) (v := ?_) rfl (by kernel_rfl) (by kernel_rfl) (by kernel_rfl) (fun _ _ _ h=>h) (Or.inl ⟨by rfl,?_⟩) (by assumption) ?_
   rotate_left
   ·intro w' hSw
    clear hSw
    unfold opa16
    first
    | (go_simp;done)
    | (go_simp;with_reducible rfl)
   simp only[opa16,Act.put,List.setIfInBounds_toArray,List.set_cons_zero,List.set_cons_succ]
   refine wpAnyH_ready (rs:=[17]) (by kernel_rfl) (by simp) ?_
   refine AllReadyH.cons (o:=opa17) rfl (fun KK hKK => ?_) AllReadyH.nil
   have sc:=(K3.out _ HB4.out).1
   have sf:=(K3.out _ HB4.out).2.1
   have SS:(V4.setCell ⟨b,3,none⟩ (.slice ya yn yc)).cell? ⟨b,2,none⟩=some (.int .i64 (ep:Int)):=by rw[World.cell?_setCell_other _ _ _ _ (by simp)];exact hHeld4
   unfold opa17
   go_simp
   refine hKK.out _ _ SS (fun hHeldS => ?_)
   clear hKK KK sc sf SS
   refine wpAnyH_done (by kernel_rfl) ?_ _
   refine NoPanic.normal ?_
   have FF:Hid _:=AO4.out.2
   clear A1 A2 K3 MK CT
   go_wp2_with fail
   go_end0
   exact⟨rfl,_,FF.out⟩
 ·have lc:=(K3.out _ HB0.out).1
  unfold opa5
  go_simp
  refine hKK.out _ _ hHeld (fun hHeldL => ?_)
  clear hKK KK lc
  refine wpAnyH_ready (rs:=[1,13]) (by kernel_rfl) (by simp) ?_
  refine AllReadyH.cons (o:=opa1) rfl (fun KK hKK => ?_) (AllReadyH.cons (o:=opa13) rfl (fun KK hKK => ?_) AllReadyH.nil)
  ·unfold opa1
   go_simp
   have HB1:Hid (Below Bz Z (Z.alloc (.cells #[] 96))):=HB0.out.alloc (Nat.le_trans HBZ.out HB0.out.size) _
   have OW1:Hid _:=MK.out Z HB0.out
   refine hKK.out _ _ (cell_alloc2 hHeldL) (fun hHeld1 => ?_)
   clear hKK KK
   obtain⟨V1,hV1⟩:∃V,Z.alloc (.cells #[] 96)=V:=⟨_,rfl⟩
   rw[hV1] at hHeld1 HB1 OW1 ⊢
   obtain⟨g1,hg1⟩:∃g,Z.heap.size=g:=⟨_,rfl⟩
   rw[hg1] at OW1 ⊢
   clear hV1 hg1
   refine wpAnyH_ready (rs:=[6,13]) (by kernel_rfl) (by simp) ?_
   refine AllReadyH.cons (o:=opa6) rfl (fun KK hKK => ?_) (AllReadyH.cons (o:=opa13) rfl (fun KK hKK => ?_) AllReadyH.nil)
   ·obtain⟨xa,xn,xc,V2,hr,AO2⟩:=A1.out V1 g1 HB1.out OW1.out
    rw[if_pos (by kernel_rfl)]
    refine Go.Lib.wp_append_run _ _ _ _ _ rfl _ _ rfl rfl _ _ hr ?_
    have HB2:Hid _:=AO2.out.2.1
    have OA2:Hid _:=AO2.out.1
    refine hKK.out _ _ ((K3.out _ HB2.out).2.2) (fun hHeld2 => ?_)
    clear hKK KK hr AO2
    simp only[opa6,Act.put,List.setIfInBounds_toArray,List.set_cons_zero,List.set_cons_succ]
    refine wpAnyH_ready (rs:=[13]) (by kernel_rfl) (by simp) ?_
    refine AllReadyH.cons (o:=opa13) rfl (fun KK hKK => ?_) AllReadyH.nil
    unfold opa13
    go_simp
    have HB3:Hid (Below Bz Z (V2.alloc (.cells #[.string T,.int .i64 (ep:Int)] 96))):=HB2.out.alloc (Nat.le_trans HBZ.out HB2.out.size) _
    have CC3:Hid _:=CT.out V2
    have OA3:Hid _:=World.ownsRow.alloc OA2.out (.cells #[.string T,.int .i64 (ep:Int)] 96)
    refine hKK.out _ _ (cell_alloc2 hHeld2) (fun hHeld3 => ?_)
    clear hKK KK
    obtain⟨V3,hV3⟩:∃V,V2.alloc (.cells #[.string T,.int .i64 (ep:Int)] 96)=V:=⟨_,rfl⟩
    rw[hV3] at hHeld3 HB3 CC3 OA3 ⊢
    obtain⟨g2,hg2⟩:∃g,V2.heap.size=g:=⟨_,rfl⟩
    rw[hg2] at CC3 ⊢
    clear hV3 hg2
    refine wpAnyH_ready (rs:=[14]) (by kernel_rfl) (by simp) ?_
    refine AllReadyH.cons (o:=opa14) rfl (fun KK hKK => ?_) AllReadyH.nil
    obtain⟨ya,yn,yc,V4,hr,AO4⟩:=A2.out V3 xa xn xc g2 HB3.out OA3.out CC3.out
    rw[if_pos (by kernel_rfl)]
    refine Go.Lib.wp_append_run _ _ _ _ _ rfl _ _ rfl rfl _ _ hr ?_
    have HB4:Hid _:=AO4.out.1
    refine hKK.out _ _ ((K3.out _ HB4.out).2.2) (fun hHeld4 => ?_)
    clear hKK KK hr
    simp only[opa14,Act.put,List.setIfInBounds_toArray,List.set_cons_zero,List.set_cons_succ]
    refine wpAnyH_take (i:=15) (oi:=opa15) (v := ?_) rfl (by kernel_rfl) (by kernel_rfl) (by kernel_rfl) (fun _ _ _ h=>h) (Or.inl ⟨by rfl,?_⟩) (by assumption) ?_
    rotate_left
    ·intro w' hSw
     clear hSw
     unfold opa15
     first
     | (go_simp;done)
     | (go_simp;with_reducible rfl)
    simp only[opa15,Act.put,List.setIfInBounds_toArray,List.set_cons_zero,List.set_cons_succ]
    refine wpAnyH_take (i:=16) (oi:=opa16) (v := ?_) rfl (by kernel_rfl) (by kernel_rfl) (by kernel_rfl) (fun _ _ _ h=>h) (Or.inl ⟨by rfl,?_⟩) (by assumption) ?_
    rotate_left
    ·intro w' hSw
     clear hSw
     unfold opa16
     first
     | (go_simp;done)
     | (go_simp;with_reducible rfl)
    simp only[opa16,Act.put,List.setIfInBounds_toArray,List.set_cons_zero,List.set_cons_succ]
    refine wpAnyH_ready (rs:=[17]) (by kernel_rfl) (by simp) ?_
    refine AllReadyH.cons (o:=opa17) rfl (fun KK hKK => ?_) AllReadyH.nil
    have sc:=(K3.out _ HB4.out).1
    have sf:=(K3.out _ HB4.out).2.1
    have SS:(V4.setCell ⟨b,3,none⟩ (.slice ya yn yc)).cell? ⟨b,2,none⟩=some (.int .i64 (ep:Int)):=by rw[World.cell?_setCell_other _ _ _ _ (by simp)];exact hHeld4
    unfold opa17
    go_simp
    refine hKK.out _ _ SS (fun hHeldS => ?_)
    clear hKK KK sc sf SS
    refine wpAnyH_done (by kernel_rfl) ?_ _
    refine NoPanic.normal ?_
    have FF:Hid _:=AO4.out.2
    clear A1 A2 K3 MK CT
    go_wp2_with fail
    go_end0
    exact⟨rfl,_,FF.out⟩
   ·unfold opa13
    go_simp
    have HB2:Hid (Below Bz Z (V1.alloc (.cells #[.string T,.int .i64 (ep:Int)] 96))):=HB1.out.alloc (Nat.le_trans HBZ.out HB1.out.size) _
    have CC2:Hid _:=CT.out V1
    have OW2:Hid _:=World.ownsRow.alloc OW1.out (.cells #[.string T,.int .i64 (ep:Int)] 96)
    have NE2:Hid (g1 < V1.heap.size):=(World.ownsRow.lt OW1.out g1 rfl).2
    refine hKK.out _ _ (cell_alloc2 hHeld1) (fun hHeld2 => ?_)
    clear hKK KK
    obtain⟨V2,hV2⟩:∃V,V1.alloc (.cells #[.string T,.int .i64 (ep:Int)] 96)=V:=⟨_,rfl⟩
    rw[hV2] at hHeld2 HB2 CC2 OW2 ⊢
    obtain⟨g2,hg2⟩:∃g,V1.heap.size=g:=⟨_,rfl⟩
    rw[hg2] at CC2 NE2 ⊢
    clear hV2 hg2
    refine wpAnyH_ready (rs:=[6]) (by kernel_rfl) (by simp) ?_
    refine AllReadyH.cons (o:=opa6) rfl (fun KK hKK => ?_) AllReadyH.nil
    obtain⟨xa,xn,xc,V3,hr,AO3⟩:=A1.out V2 g1 HB2.out OW2.out
    rw[if_pos (by kernel_rfl)]
    refine Go.Lib.wp_append_run _ _ _ _ _ rfl _ _ rfl rfl _ _ hr ?_
    have HB3:Hid _:=AO3.out.2.1
    have OA3:Hid _:=AO3.out.1
    have CC3:Hid (∀j u,(hx1 (t,(ep:Int)))[j]?=some u→V3.cell? ⟨g2,j,none⟩=some u):=fun j u hu=>(World.cell?_of_block (a:=⟨g2,j,none⟩) (AO3.out.2.2 g2 (World.block_lt_of_cell? _ _ (CC2.out 0 _ rfl)) (Ne.symm (Nat.ne_of_lt NE2.out)))).trans (CC2.out j u hu)
    refine hKK.out _ _ ((K3.out _ HB3.out).2.2) (fun hHeld3 => ?_)
    clear hKK KK hr AO3
    simp only[opa6,Act.put,List.setIfInBounds_toArray,List.set_cons_zero,List.set_cons_succ]
    refine wpAnyH_ready (rs:=[14]) (by kernel_rfl) (by simp) ?_
    refine AllReadyH.cons (o:=opa14) rfl (fun KK hKK => ?_) AllReadyH.nil
    obtain⟨ya,yn,yc,V4,hr,AO4⟩:=A2.out V3 xa xn xc g2 HB3.out OA3.out CC3.out
    rw[if_pos (by kernel_rfl)]
    refine Go.Lib.wp_append_run _ _ _ _ _ rfl _ _ rfl rfl _ _ hr ?_
    have HB4:Hid _:=AO4.out.1
    refine hKK.out _ _ ((K3.out _ HB4.out).2.2) (fun hHeld4 => ?_)
    clear hKK KK hr
    simp only[opa14,Act.put,List.setIfInBounds_toArray,List.set_cons_zero,List.set_cons_succ]
    refine wpAnyH_take (i:=15) (oi:=opa15) (v := ?_) rfl (by kernel_rfl) (by kernel_rfl) (by kernel_rfl) (fun _ _ _ h=>h) (Or.inl ⟨by rfl,?_⟩) (by assumption) ?_
    rotate_left
    ·intro w' hSw
     clear hSw
     unfold opa15
     first
     | (go_simp;done)
     | (go_simp;with_reducible rfl)
    simp only[opa15,Act.put,List.setIfInBounds_toArray,List.set_cons_zero,List.set_cons_succ]
    refine wpAnyH_take (i:=16) (oi:=opa16) (v := ?_) rfl (by kernel_rfl) (by kernel_rfl) (by kernel_rfl) (fun _ _ _ h=>h) (Or.inl ⟨by rfl,?_⟩) (by assumption) ?_
    rotate_left
    ·intro w' hSw
     clear hSw
     unfold opa16
     first
     | (go_simp;done)
     | (go_simp;with_reducible rfl)
    simp only[opa16,Act.put,List.setIfInBounds_toArray,List.set_cons_zero,List.set_cons_succ]
    refine wpAnyH_ready (rs:=[17]) (by kernel_rfl) (by simp) ?_
    refine AllReadyH.cons (o:=opa17) rfl (fun KK hKK => ?_) AllReadyH.nil
    have sc:=(K3.out _ HB4.out).1
    have sf:=(K3.out _ HB4.out).2.1
    have SS:(V4.setCell ⟨b,3,none⟩ (.slice ya yn yc)).cell? ⟨b,2,none⟩=some (.int .i64 (ep:Int)):=by rw[World.cell?_setCell_other _ _ _ _ (by simp)];exact hHeld4
    unfold opa17
    go_simp
    refine hKK.out _ _ SS (fun hHeldS => ?_)
    clear hKK KK sc sf SS
    refine wpAnyH_done (by kernel_rfl) ?_ _
    refine NoPanic.normal ?_
    have FF:Hid _:=AO4.out.2
    clear A1 A2 K3 MK CT
    go_wp2_with fail
    go_end0
    exact⟨rfl,_,FF.out⟩
  ·unfold opa13
   go_simp
   have HB1:Hid (Below Bz Z (Z.alloc (.cells #[.string T,.int .i64 (ep:Int)] 96))):=HB0.out.alloc (Nat.le_trans HBZ.out HB0.out.size) _
   have CC1:Hid _:=CT.out Z
   refine hKK.out _ _ (cell_alloc2 hHeldL) (fun hHeld1 => ?_)
   clear hKK KK
   obtain⟨V1,hV1⟩:∃V,Z.alloc (.cells #[.string T,.int .i64 (ep:Int)] 96)=V:=⟨_,rfl⟩
   rw[hV1] at hHeld1 HB1 CC1 ⊢
   obtain⟨g2,hg2⟩:∃g,Z.heap.size=g:=⟨_,rfl⟩
   rw[hg2] at CC1 ⊢
   clear hV1 hg2
   refine wpAnyH_ready (rs:=[1]) (by kernel_rfl) (by simp) ?_
   refine AllReadyH.cons (o:=opa1) rfl (fun KK hKK => ?_) AllReadyH.nil
   unfold opa1
   go_simp
   have HB2:Hid (Below Bz Z (V1.alloc (.cells #[] 96))):=HB1.out.alloc (Nat.le_trans HBZ.out HB1.out.size) _
   have OW2:Hid _:=MK.out V1 HB1.out
   have CC2:Hid (∀j u,(hx1 (t,(ep:Int)))[j]?=some u→(V1.alloc (.cells #[] 96)).cell? ⟨g2,j,none⟩=some u):=fun j u hu=>cell_alloc2 (CC1.out j u hu)
   have NE2:Hid (g2 < V1.heap.size):=World.block_lt_of_cell? _ _ (CC1.out 0 _ rfl)
   refine hKK.out _ _ (cell_alloc2 hHeld1) (fun hHeld2 => ?_)
   clear hKK KK
   obtain⟨V2,hV2⟩:∃V,V1.alloc (.cells #[] 96)=V:=⟨_,rfl⟩
   rw[hV2] at hHeld2 HB2 OW2 CC2 ⊢
   obtain⟨g1,hg1⟩:∃g,V1.heap.size=g:=⟨_,rfl⟩
   rw[hg1] at OW2 NE2 ⊢
   clear hV2 hg1
   refine wpAnyH_ready (rs:=[6]) (by kernel_rfl) (by simp) ?_
   refine AllReadyH.cons (o:=opa6) rfl (fun KK hKK => ?_) AllReadyH.nil
   obtain⟨xa,xn,xc,V3,hr,AO3⟩:=A1.out V2 g1 HB2.out OW2.out
   rw[if_pos (by kernel_rfl)]
   refine Go.Lib.wp_append_run _ _ _ _ _ rfl _ _ rfl rfl _ _ hr ?_
   have HB3:Hid _:=AO3.out.2.1
   have OA3:Hid _:=AO3.out.1
   have CC3:Hid (∀j u,(hx1 (t,(ep:Int)))[j]?=some u→V3.cell? ⟨g2,j,none⟩=some u):=fun j u hu=>(World.cell?_of_block (a:=⟨g2,j,none⟩) (AO3.out.2.2 g2 (World.block_lt_of_cell? _ _ (CC2.out 0 _ rfl)) (Nat.ne_of_lt NE2.out))).trans (CC2.out j u hu)
   refine hKK.out _ _ ((K3.out _ HB3.out).2.2) (fun hHeld3 => ?_)
   clear hKK KK hr AO3
   simp only[opa6,Act.put,List.setIfInBounds_toArray,List.set_cons_zero,List.set_cons_succ]
   refine wpAnyH_ready (rs:=[14]) (by kernel_rfl) (by simp) ?_
   refine AllReadyH.cons (o:=opa14) rfl (fun KK hKK => ?_) AllReadyH.nil
   obtain⟨ya,yn,yc,V4,hr,AO4⟩:=A2.out V3 xa xn xc g2 HB3.out OA3.out CC3.out
   rw[if_pos (by kernel_rfl)]
   refine Go.Lib.wp_append_run _ _ _ _ _ rfl _ _ rfl rfl _ _ hr ?_
   have HB4:Hid _:=AO4.out.1
   refine hKK.out _ _ ((K3.out _ HB4.out).2.2) (fun hHeld4 => ?_)
   clear hKK KK hr
   simp only[opa14,Act.put,List.setIfInBounds_toArray,List.set_cons_zero,List.set_cons_succ]
   refine wpAnyH_take (i:=15) (oi:=opa15) (v := ?_) rfl (by kernel_rfl) (by kernel_rfl) (by kernel_rfl) (fun _ _ _ h=>h) (Or.inl ⟨by rfl,?_⟩) (by assumption) ?_
   rotate_left
   ·intro w' hSw
    clear hSw
    unfold opa15
    first
    | (go_simp;done)
    | (go_simp;with_reducible rfl)
   simp only[opa15,Act.put,List.setIfInBounds_toArray,List.set_cons_zero,List.set_cons_succ]
   refine wpAnyH_take (i:=16) (oi:=opa16) (v := ?_) rfl (by kernel_rfl) (by kernel_rfl) (by kernel_rfl) (fun _ _ _ h=>h) (Or.inl ⟨by rfl,?_⟩) (by assumption) ?_
   rotate_left
   ·intro w' hSw
    clear hSw
    unfold opa16
    first
    | (go_simp;done)
    | (go_simp;with_reducible rfl)
   simp only[opa16,Act.put,List.setIfInBounds_toArray,List.set_cons_zero,List.set_cons_succ]
   refine wpAnyH_ready (rs:=[17]) (by kernel_rfl) (by simp) ?_
   refine AllReadyH.cons (o:=opa17) rfl (fun KK hKK => ?_) AllReadyH.nil
   have sc:=(K3.out _ HB4.out).1
   have sf:=(K3.out _ HB4.out).2.1
   have SS:(V4.setCell ⟨b,3,none⟩ (.slice ya yn yc)).cell? ⟨b,2,none⟩=some (.int .i64 (ep:Int)):=by rw[World.cell?_setCell_other _ _ _ _ (by simp)];exact hHeld4
   unfold opa17
   go_simp
   refine hKK.out _ _ SS (fun hHeldS => ?_)
   clear hKK KK sc sf SS
   refine wpAnyH_done (by kernel_rfl) ?_ _
   refine NoPanic.normal ?_
   have FF:Hid _:=AO4.out.2
   clear A1 A2 K3 MK CT
   go_wp2_with fail
   go_end0
   exact⟨rfl,_,FF.out⟩
 ·unfold opa13
  go_simp
  have HB1:Hid (Below Bz Z (Z.alloc (.cells #[.string T,.int .i64 (ep:Int)] 96))):=HB0.out.alloc (Nat.le_trans HBZ.out HB0.out.size) _
  have CC1:Hid _:=CT.out Z
  refine hKK.out _ _ (cell_alloc2 hHeld) (fun hHeld1 => ?_)
  clear hKK KK
  obtain⟨V1,hV1⟩:∃V,Z.alloc (.cells #[.string T,.int .i64 (ep:Int)] 96)=V:=⟨_,rfl⟩
  rw[hV1] at hHeld1 HB1 CC1 ⊢
  obtain⟨g2,hg2⟩:∃g,Z.heap.size=g:=⟨_,rfl⟩
  rw[hg2] at CC1 ⊢
  clear hV1 hg2
  refine wpAnyH_ready (rs:=[1,5]) (by kernel_rfl) (by simp) ?_
  refine AllReadyH.cons (o:=opa1) rfl (fun KK hKK => ?_) (AllReadyH.cons (o:=opa5) rfl (fun KK hKK => ?_) AllReadyH.nil)
  ·unfold opa1
   go_simp
   have HB2:Hid (Below Bz Z (V1.alloc (.cells #[] 96))):=HB1.out.alloc (Nat.le_trans HBZ.out HB1.out.size) _
   have OW2:Hid _:=MK.out V1 HB1.out
   have CC2:Hid (∀j u,(hx1 (t,(ep:Int)))[j]?=some u→(V1.alloc (.cells #[] 96)).cell? ⟨g2,j,none⟩=some u):=fun j u hu=>cell_alloc2 (CC1.out j u hu)
   have NE2:Hid (g2 < V1.heap.size):=World.block_lt_of_cell? _ _ (CC1.out 0 _ rfl)
   refine hKK.out _ _ (cell_alloc2 hHeld1) (fun hHeld2 => ?_)
   clear hKK KK
   obtain⟨V2,hV2⟩:∃V,V1.alloc (.cells #[] 96)=V:=⟨_,rfl⟩
   rw[hV2] at hHeld2 HB2 OW2 CC2 ⊢
   obtain⟨g1,hg1⟩:∃g,V1.heap.size=g:=⟨_,rfl⟩
   rw[hg1] at OW2 NE2 ⊢
   clear hV2 hg1
   refine wpAnyH_ready (rs:=[5]) (by kernel_rfl) (by simp) ?_
   refine AllReadyH.cons (o:=opa5) rfl (fun KK hKK => ?_) AllReadyH.nil
   have lc:=(K3.out _ HB2.out).1
   unfold opa5
   go_simp
   refine hKK.out _ _ hHeld2 (fun hHeldL => ?_)
   clear hKK KK lc
   refine wpAnyH_ready (rs:=[6]) (by kernel_rfl) (by simp) ?_
   refine AllReadyH.cons (o:=opa6) rfl (fun KK hKK => ?_) AllReadyH.nil
   obtain⟨xa,xn,xc,V3,hr,AO3⟩:=A1.out V2 g1 HB2.out OW2.out
   rw[if_pos (by kernel_rfl)]
   refine Go.Lib.wp_append_run _ _ _ _ _ rfl _ _ rfl rfl _ _ hr ?_
   have HB3:Hid _:=AO3.out.2.1
   have OA3:Hid _:=AO3.out.1
   have CC3:Hid (∀j u,(hx1 (t,(ep:Int)))[j]?=some u→V3.cell? ⟨g2,j,none⟩=some u):=fun j u hu=>(World.cell?_of_block (a:=⟨g2,j,none⟩) (AO3.out.2.2 g2 (World.block_lt_of_cell? _ _ (CC2.out 0 _ rfl)) (Nat.ne_of_lt NE2.out))).trans (CC2.out j u hu)
   refine hKK.out _ _ ((K3.out _ HB3.out).2.2) (fun hHeld3 => ?_)
   clear hKK KK hr AO3
   simp only[opa6,Act.put,List.setIfInBounds_toArray,List.set_cons_zero,List.set_cons_succ]
   refine wpAnyH_ready (rs:=[14]) (by kernel_rfl) (by simp) ?_
   refine AllReadyH.cons (o:=opa14) rfl (fun KK hKK => ?_) AllReadyH.nil
   obtain⟨ya,yn,yc,V4,hr,AO4⟩:=A2.out V3 xa xn xc g2 HB3.out OA3.out CC3.out
   rw[if_pos (by kernel_rfl)]
   refine Go.Lib.wp_append_run _ _ _ _ _ rfl _ _ rfl rfl _ _ hr ?_
   have HB4:Hid _:=AO4.out.1
   refine hKK.out _ _ ((K3.out _ HB4.out).2.2) (fun hHeld4 => ?_)
   clear hKK KK hr
   simp only[opa14,Act.put,List.setIfInBounds_toArray,List.set_cons_zero,List.set_cons_succ]
   refine wpAnyH_take (i:=15) (oi:=opa15) (v := ?_) rfl (by kernel_rfl) (by kernel_rfl) (by kernel_rfl) (fun _ _ _ h=>h) (Or.inl ⟨by rfl,?_⟩) (by assumption) ?_
   rotate_left
   ·intro w' hSw
    clear hSw
    unfold opa15
    first
    | (go_simp;done)
    | (go_simp;with_reducible rfl)
   simp only[opa15,Act.put,List.setIfInBounds_toArray,List.set_cons_zero,List.set_cons_succ]
   refine wpAnyH_take (i:=16) (oi:=opa16) (v := ?_) rfl (by kernel_rfl) (by kernel_rfl) (by kernel_rfl) (fun _ _ _ h=>h) (Or.inl ⟨by rfl,?_⟩) (by assumption) ?_
   rotate_left
   ·intro w' hSw
    clear hSw
    unfold opa16
    first
    | (go_simp;done)
    | (go_simp;with_reducible rfl)
   simp only[opa16,Act.put,List.setIfInBounds_toArray,List.set_cons_zero,List.set_cons_succ]
   refine wpAnyH_ready (rs:=[17]) (by kernel_rfl) (by simp) ?_
   refine AllReadyH.cons (o:=opa17) rfl (fun KK hKK => ?_) AllReadyH.nil
   have sc:=(K3.out _ HB4.out).1
   have sf:=(K3.out _ HB4.out).2.1
   have SS:(V4.setCell ⟨b,3,none⟩ (.slice ya yn yc)).cell? ⟨b,2,none⟩=some (.int .i64 (ep:Int)):=by rw[World.cell?_setCell_other _ _ _ _ (by simp)];exact hHeld4
   unfold opa17
   go_simp
   refine hKK.out _ _ SS (fun hHeldS => ?_)
   clear hKK KK sc sf SS
   refine wpAnyH_done (by kernel_rfl) ?_ _
   refine NoPanic.normal ?_
   have FF:Hid _:=AO4.out.2
   clear A1 A2 K3 MK CT
   go_wp2_with fail
   go_end0
   exact⟨rfl,_,FF.out⟩
  ·have lc:=(K3.out _ HB1.out).1
   unfold opa5
   go_simp
   refine hKK.out _ _ hHeld1 (fun hHeldL => ?_)
   clear hKK KK lc
   refine wpAnyH_ready (rs:=[1]) (by kernel_rfl) (by simp) ?_
   refine AllReadyH.cons (o:=opa1) rfl (fun KK hKK => ?_) AllReadyH.nil
   unfold opa1
   go_simp
   have HB2:Hid (Below Bz Z (V1.alloc (.cells #[] 96))):=HB1.out.alloc (Nat.le_trans HBZ.out HB1.out.size) _
   have OW2:Hid _:=MK.out V1 HB1.out
   have CC2:Hid (∀j u,(hx1 (t,(ep:Int)))[j]?=some u→(V1.alloc (.cells #[] 96)).cell? ⟨g2,j,none⟩=some u):=fun j u hu=>cell_alloc2 (CC1.out j u hu)
   have NE2:Hid (g2 < V1.heap.size):=World.block_lt_of_cell? _ _ (CC1.out 0 _ rfl)
   refine hKK.out _ _ (cell_alloc2 hHeldL) (fun hHeld2 => ?_)
   clear hKK KK
   obtain⟨V2,hV2⟩:∃V,V1.alloc (.cells #[] 96)=V:=⟨_,rfl⟩
   rw[hV2] at hHeld2 HB2 OW2 CC2 ⊢
   obtain⟨g1,hg1⟩:∃g,V1.heap.size=g:=⟨_,rfl⟩
   rw[hg1] at OW2 NE2 ⊢
   clear hV2 hg1
   refine wpAnyH_ready (rs:=[6]) (by kernel_rfl) (by simp) ?_
   refine AllReadyH.cons (o:=opa6) rfl (fun KK hKK => ?_) AllReadyH.nil
   obtain⟨xa,xn,xc,V3,hr,AO3⟩:=A1.out V2 g1 HB2.out OW2.out
   rw[if_pos (by kernel_rfl)]
   refine Go.Lib.wp_append_run _ _ _ _ _ rfl _ _ rfl rfl _ _ hr ?_
   have HB3:Hid _:=AO3.out.2.1
   have OA3:Hid _:=AO3.out.1
   have CC3:Hid (∀j u,(hx1 (t,(ep:Int)))[j]?=some u→V3.cell? ⟨g2,j,none⟩=some u):=fun j u hu=>(World.cell?_of_block (a:=⟨g2,j,none⟩) (AO3.out.2.2 g2 (World.block_lt_of_cell? _ _ (CC2.out 0 _ rfl)) (Nat.ne_of_lt NE2.out))).trans (CC2.out j u hu)
   refine hKK.out _ _ ((K3.out _ HB3.out).2.2) (fun hHeld3 => ?_)
   clear hKK KK hr AO3
   simp only[opa6,Act.put,List.setIfInBounds_toArray,List.set_cons_zero,List.set_cons_succ]
   refine wpAnyH_ready (rs:=[14]) (by kernel_rfl) (by simp) ?_
   refine AllReadyH.cons (o:=opa14) rfl (fun KK hKK => ?_) AllReadyH.nil
   obtain⟨ya,yn,yc,V4,hr,AO4⟩:=A2.out V3 xa xn xc g2 HB3.out OA3.out CC3.out
   rw[if_pos (by kernel_rfl)]
   refine Go.Lib.wp_append_run _ _ _ _ _ rfl _ _ rfl rfl _ _ hr ?_
   have HB4:Hid _:=AO4.out.1
   refine hKK.out _ _ ((K3.out _ HB4.out).2.2) (fun hHeld4 => ?_)
   clear hKK KK hr
   simp only[opa14,Act.put,List.setIfInBounds_toArray,List.set_cons_zero,List.set_cons_succ]
   refine wpAnyH_take (i:=15) (oi:=opa15) (v := ?_) rfl (by kernel_rfl) (by kernel_rfl) (by kernel_rfl) (fun _ _ _ h=>h) (Or.inl ⟨by rfl,?_⟩) (by assumption) ?_
   rotate_left
   ·intro w' hSw
    clear hSw
    unfold opa15
    first
    | (go_simp;done)
    | (go_simp;with_reducible rfl)
   simp only[opa15,Act.put,List.setIfInBounds_toArray,List.set_cons_zero,List.set_cons_succ]
   refine wpAnyH_take (i:=16) (oi:=opa16) (v := ?_) rfl (by kernel_rfl) (by kernel_rfl) (by kernel_rfl) (fun _ _ _ h=>h) (Or.inl ⟨by rfl,?_⟩) (by assumption) ?_
   rotate_left
   ·intro w' hSw
    clear hSw
    unfold opa16
    first
    | (go_simp;done)
    | (go_simp;with_reducible rfl)
   simp only[opa16,Act.put,List.setIfInBounds_toArray,List.set_cons_zero,List.set_cons_succ]
   refine wpAnyH_ready (rs:=[17]) (by kernel_rfl) (by simp) ?_
   refine AllReadyH.cons (o:=opa17) rfl (fun KK hKK => ?_) AllReadyH.nil
   have sc:=(K3.out _ HB4.out).1
   have sf:=(K3.out _ HB4.out).2.1
   have SS:(V4.setCell ⟨b,3,none⟩ (.slice ya yn yc)).cell? ⟨b,2,none⟩=some (.int .i64 (ep:Int)):=by rw[World.cell?_setCell_other _ _ _ _ (by simp)];exact hHeld4
   unfold opa17
   go_simp
   refine hKK.out _ _ SS (fun hHeldS => ?_)
   clear hKK KK sc sf SS
   refine wpAnyH_done (by kernel_rfl) ?_ _
   refine NoPanic.normal ?_
   have FF:Hid _:=AO4.out.2
   clear A1 A2 K3 MK CT
   go_wp2_with fail
   go_end0
   exact⟨rfl,_,FF.out⟩
end Go.Proofs.YtdcimnmebgkmjaaGreatDoor
