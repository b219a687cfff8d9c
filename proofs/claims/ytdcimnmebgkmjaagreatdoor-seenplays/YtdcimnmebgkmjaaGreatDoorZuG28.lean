/- Parts: SrF,SrG,SrH. -/
import Derived.Test.YtdcimnmebgkmjaaGreatDoorZuG27
namespace Go.Proofs.YtdcimnmebgkmjaaGreatDoor
open Go.RowKit Go.Proofs.Fd Go.Proofs.Dk Go.Proofs.Lg
set_option maxRecDepth 20000
def tkp (ep:Nat) (ah he:List Bs) (r:Bs):Option (Nat×List Bs×List Bs) :=
 if r.length=17∧r.head?=some 84 then some (ep,ah,if r.tail∈ah++he then he else he++[r.tail])
 else if r.length=5∧r.head?=some 69 then (if nm r.tail < ep∨2147483647 < nm r.tail then none else some (nm r.tail,tun ep ah he (nm r.tail)))
 else none
def RsP (w:World) (b q most:Nat) (v:Value) (y:Nat×List Bs×List Bs) (w':World):Prop:=∃v',Rs w' b q most y.1 v' (hads y.1 y.2.1 y.2.2)∧Bf (HFt b v) w w'∧Nx w (HFt b v) (HFt b v')
theorem RsP.stay {w:World} {b q most ep:Nat} {v:Value} {ah he:List Bs} (h:Rs w b q most ep v (hads ep ah he)) {w':World} (hb:Below w.heap.size w w'):RsP w b q most v (ep,ah,he) w':=⟨v,h.later hb,Bf.of hb,Nx.refl _ _⟩
theorem hads_add (ep:Nat) (ah he:List Bs) (t:Bs):hads ep ah he++[(t,(ep:Int))]=hads ep ah (he++[t]):=by
 simp[hads]
theorem rsadd_any (b q most ep:Nat) (v:Value) (ah he:List Bs) (hl:ah.length+he.length≤100000) (t:Bs) (w:World) (h:Hid (Rs w b q most ep v (hads ep ah he))) :
  Calls Tryz.prog 86 #[.pointer (some ⟨b,0,none⟩),.string (st t)] w fun e w'=>e = .returned (.tuple #[])∧RsP w b q most v (ep,ah,if t∈ah++he then he else he++[t]) w':=by
 have hm:t∈(hads ep ah he).map (·.1)↔t∈ah++he:=by rw[hads_fst]
 by_cases hx:t∈ah++he
 ·rw[if_pos hx]
  refine (rsadd_old b q most ep v _ (by rw[hads_len];exact hl) t (hm.2 hx) w h).mono ?_
  rintro e w' ⟨he',rfl⟩
  exact⟨he',RsP.stay h.out (Below.refl _ _)⟩
 ·rw[if_neg hx]
  refine (rsadd_new b q most ep v _ (by rw[hads_len];exact hl) t (fun c=>hx (hm.1 c)) w h).mono ?_
  rintro e w' ⟨he',v',z1,z2,z3⟩
  rw[hads_add] at z1
  exact⟨he',v',z1,z2,z3⟩
def opt6_0:Oper:={ dst:=some 26,op:=Go.Op.move (Go.Operand.tmp 1),type := 9, pos := "ref.go:77", after:=#[],guard:=none }
def opt6_1:Oper:={ dst:=some 27,op:=Go.Op.index 9 (Go.Operand.tmp 26) (Go.Operand.const (Go.Value.int Go.IntKind.i64 1)),type := 5, pos := "ref.go:77", after:=#[{ on:=0,ground:=Go.Ground.data }],guard:=none }
def opt6_2:Oper:={ dst:=some 28,op:=Go.Op.convert 5 3 (Go.Operand.tmp 27),type := 3, pos := "ref.go:77", after:=#[{ on:=1,ground:=Go.Ground.data }],guard:=none }
def opt6_3:Oper:={ dst:=some 29,op:=Go.Op.binOp Go.BinOp.shl 3 (Go.Operand.tmp 28) (Go.Operand.const (Go.Value.int Go.IntKind.u64 24)) 141, type := 3, pos := "ref.go:77", after:=#[{ on:=2,ground:=Go.Ground.data }],guard:=none }
def opt6_4:Oper:={ dst:=some 30,op:=Go.Op.move (Go.Operand.tmp 1),type := 9, pos := "ref.go:77", after:=#[],guard:=none }
def opt6_5:Oper:={ dst:=some 31,op:=Go.Op.index 9 (Go.Operand.tmp 30) (Go.Operand.const (Go.Value.int Go.IntKind.i64 2)),type := 5, pos := "ref.go:77", after:=#[{ on:=4,ground:=Go.Ground.data }],guard:=none }
def opt6_6:Oper:={ dst:=some 32,op:=Go.Op.convert 5 3 (Go.Operand.tmp 31),type := 3, pos := "ref.go:77", after:=#[{ on:=5,ground:=Go.Ground.data }],guard:=none }
def opt6_7:Oper:={ dst:=some 33,op:=Go.Op.binOp Go.BinOp.shl 3 (Go.Operand.tmp 32) (Go.Operand.const (Go.Value.int Go.IntKind.u64 16)) 141, type := 3, pos := "ref.go:77", after:=#[{ on:=6,ground:=Go.Ground.data }],guard:=none }
def opt6_8:Oper:={ dst:=some 34,op:=Go.Op.binOp Go.BinOp.add 3 (Go.Operand.tmp 29) (Go.Operand.tmp 33) 3, type := 3, pos := "ref.go:77", after:=#[{ on:=3,ground:=Go.Ground.data },{ on:=7,ground:=Go.Ground.data }],guard:=none }
def opt6_9:Oper:={ dst:=some 35,op:=Go.Op.move (Go.Operand.tmp 1),type := 9, pos := "ref.go:77", after:=#[],guard:=none }
def opt6_10:Oper:={ dst:=some 36,op:=Go.Op.index 9 (Go.Operand.tmp 35) (Go.Operand.const (Go.Value.int Go.IntKind.i64 3)),type := 5, pos := "ref.go:77", after:=#[{ on:=9,ground:=Go.Ground.data }],guard:=none }
def opt6_11:Oper:={ dst:=some 37,op:=Go.Op.convert 5 3 (Go.Operand.tmp 36),type := 3, pos := "ref.go:77", after:=#[{ on:=10,ground:=Go.Ground.data }],guard:=none }
def opt6_12:Oper:={ dst:=some 38,op:=Go.Op.binOp Go.BinOp.shl 3 (Go.Operand.tmp 37) (Go.Operand.const (Go.Value.int Go.IntKind.u64 8)) 141, type := 3, pos := "ref.go:77", after:=#[{ on:=11,ground:=Go.Ground.data }],guard:=none }
def opt6_13:Oper:={ dst:=some 39,op:=Go.Op.binOp Go.BinOp.add 3 (Go.Operand.tmp 34) (Go.Operand.tmp 38) 3, type := 3, pos := "ref.go:77", after:=#[{ on:=8,ground:=Go.Ground.data },{ on:=12,ground:=Go.Ground.data }],guard:=none }
def opt6_14:Oper:={ dst:=some 40,op:=Go.Op.move (Go.Operand.tmp 1),type := 9, pos := "ref.go:77", after:=#[],guard:=none }
def opt6_15:Oper:={ dst:=some 41,op:=Go.Op.index 9 (Go.Operand.tmp 40) (Go.Operand.const (Go.Value.int Go.IntKind.i64 4)),type := 5, pos := "ref.go:77", after:=#[{ on:=14,ground:=Go.Ground.data }],guard:=none }
def opt6_16:Oper:={ dst:=some 42,op:=Go.Op.convert 5 3 (Go.Operand.tmp 41),type := 3, pos := "ref.go:77", after:=#[{ on:=15,ground:=Go.Ground.data }],guard:=none }
def opt6_17:Oper:={ dst:=some 43,op:=Go.Op.binOp Go.BinOp.add 3 (Go.Operand.tmp 39) (Go.Operand.tmp 42) 3, type := 3, pos := "ref.go:77", after:=#[{ on:=13,ground:=Go.Ground.data },{ on:=16,ground:=Go.Ground.data }],guard:=none }
def opt6_18:Oper:={ dst:=some 5,op:=Go.Op.assign (Go.Operand.tmp 43),type := 3, pos := "ref.go:77", after:=#[{ on:=17,ground:=Go.Ground.data },{ on:=0,ground:=Go.Ground.phase },{ on:=1,ground:=Go.Ground.phase },{ on:=2,ground:=Go.Ground.phase },{ on:=3,ground:=Go.Ground.phase },{ on:=4,ground:=Go.Ground.phase },{ on:=5,ground:=Go.Ground.phase },{ on:=6,ground:=Go.Ground.phase },{ on:=7,ground:=Go.Ground.phase },{ on:=8,ground:=Go.Ground.phase },{ on:=9,ground:=Go.Ground.phase },{ on:=10,ground:=Go.Ground.phase },{ on:=11,ground:=Go.Ground.phase },{ on:=12,ground:=Go.Ground.phase },{ on:=13,ground:=Go.Ground.phase },{ on:=14,ground:=Go.Ground.phase },{ on:=15,ground:=Go.Ground.phase },{ on:=16,ground:=Go.Ground.phase },{ on:=17,ground:=Go.Ground.phase }],guard:=none }
set_option maxHeartbeats 4000000 in
theorem rstake_any (b q most ep:Nat) (v:Value) (ah he:List Bs) (hl:ah.length+he.length≤100000) (r:Bs) (hr:r.length≤2000) (w:World) (h:Hid (Rs w b q most ep v (hads ep ah he))) :
  Calls Tryz.prog 84 #[.pointer (some ⟨b,0,none⟩),.string (st r)] w fun e w'=>e = .returned (.bool (tkp ep ah he r).isSome)∧RsP w b q most v ((tkp ep ah he r).getD (ep,ah,he)) w':=by
 have hs:(st r).size=r.length:=st_size r
 have NO:tkp ep ah he r=none→Hid (false=(tkp ep ah he r).isSome∧∀w',Below w.heap.size w w'→RsP w b q most v ((tkp ep ah he r).getD (ep,ah,he)) w'):=fun e=>by
  rw[e]
  exact⟨rfl,fun w' hb=>RsP.stay h.out hb⟩
 obtain⟨X,hX⟩:∃X,st r=X:=⟨_,rfl⟩
 rw[hX] at hs ⊢
 by_cases h17:r.length=17
 ·obtain⟨c,t,rfl⟩:∃c t,r=c::t:=by cases r with|nil=>simp at h17|cons c t=>exact⟨c,t,rfl⟩
  rw[h17] at hs
  have x0:X[0]'(by rw[hs];decide)=c:=by subst hX;rfl
  by_cases hc:c=84
  ·subst hc
   have ek:tkp ep ah he (84::t)=some (ep,ah,if t∈ah++he then he else he++[t]):=by rw[tkp,if_pos ⟨h17,rfl⟩];rfl
   rw[ek]
   have AD:Hid _:=rsadd_any b q most ep v ah he hl t w h
   have hx:X.extract 1 17=st t:=by
    rw[←hX,st_cut,List.take_of_length_le (by rw[h17];exact Nat.le_refl _)]
    rfl
   obtain⟨T,hT⟩:∃X,st t=X:=⟨_,rfl⟩
   have HY:Hid (∀w',RsP w b q most v (ep,ah,if t∈ah++he then he else he++[t]) w'→RsP w b q most v ((some (ep,ah,if t∈ah++he then he else he++[t])).getD (ep,ah,he)) w'):=fun w' z=>z
   obtain⟨y,hy⟩:∃y,(ep,ah,if t∈ah++he then he else he++[t])=y:=⟨_,rfl⟩
   rw[hy] at AD HY ⊢
   rw[hT] at AD hx
   clear hX hT hy ek NO h h17 hr
   go_enter Tryz.func84, Tryz.ntmps84
   go_wp2_with fail
   refine Calls.mono AD.out ?_
   rintro e w1 ⟨rfl,z⟩
   have FF:Hid _:=HY.out w1 z
   clear AD HY z
   go_wp2
   go_ret
   exact⟨rfl,FF.out⟩
  ·have ek:tkp ep ah he (c::t)=none:=by rw[tkp,if_neg (fun z=>hc (by simpa using z.2)),if_neg (fun z=>by omega)]
   have FN:=NO ek
   have g1:¬(c.toNat:Int)=84:=fun z=>hc (by apply UInt8.toNat_inj.1;show c.toNat=84;omega)
   obtain⟨R,hR⟩:∃R,tkp ep ah he (c::t)=R:=⟨_,rfl⟩
   rw[hR] at FN ⊢
   clear hX hR ek NO h h17 hr hc
   go_enter Tryz.func84, Tryz.ntmps84
   go_wp2
   go_ret
   exact⟨by rw[←FN.out.1];rfl,FN.out.2 _ (Below.refl _ _)⟩
 ·by_cases h5:r.length=5
  ·obtain⟨c,c1,c2,c3,c4,rfl⟩:∃c c1 c2 c3 c4,r=[c,c1,c2,c3,c4]:=by
    match r,h5 with
    | [c,c1,c2,c3,c4],_=>exact⟨c,c1,c2,c3,c4,rfl⟩
   rw[h5] at hs
   have x0:X[0]'(by rw[hs];decide)=c:=by subst hX;rfl
   have x1:X[1]'(by rw[hs];decide)=c1:=by subst hX;rfl
   have x2:X[2]'(by rw[hs];decide)=c2:=by subst hX;rfl
   have x3:X[3]'(by rw[hs];decide)=c3:=by subst hX;rfl
   have x4:X[4]'(by rw[hs];decide)=c4:=by subst hX;rfl
   by_cases hc:c=69
   ·subst hc
    have hnm:nm [c1,c2,c3,c4]=((c1.toNat*256+c2.toNat)*256+c3.toNat)*256+c4.toNat:=by simp[nm]
    have ek:tkp ep ah he [69,c1,c2,c3,c4]=if nm [c1,c2,c3,c4] < ep∨2147483647 < nm [c1,c2,c3,c4] then none else some (nm [c1,c2,c3,c4],tun ep ah he (nm [c1,c2,c3,c4])):=by rw[tkp,if_neg (fun z=>h17 z.1),if_pos ⟨h5,rfl⟩];rfl
    obtain⟨n,hn⟩:∃n,nm [c1,c2,c3,c4]=n:=⟨_,rfl⟩
    rw[hn] at hnm ek
    have q1:=c1.toNat_lt
    have q2:=c2.toNat_lt
    have q3:=c3.toNat_lt
    have q4:=c4.toNat_lt
    have hn32:n≤4294967296:=by rw[hnm];clear hs x0 x1 x2 x3 x4;omega
    have t1:IntKind.i64.wrap (c1.toNat:Int)=(c1.toNat:Int):=by rw[IntKind.wrap_i64];omega
    have t2:IntKind.i64.wrap (c2.toNat:Int)=(c2.toNat:Int):=by rw[IntKind.wrap_i64];omega
    have t3:IntKind.i64.wrap (c3.toNat:Int)=(c3.toNat:Int):=by rw[IntKind.wrap_i64];omega
    have t4:IntKind.i64.wrap (c4.toNat:Int)=(c4.toNat:Int):=by rw[IntKind.wrap_i64];omega
    have u1:IntKind.i64.wrap ((c1.toNat:Int)*16777216)=(c1.toNat:Int)*16777216:=by rw[IntKind.wrap_i64];omega
    have u2:IntKind.i64.wrap ((c2.toNat:Int)*65536)=(c2.toNat:Int)*65536:=by rw[IntKind.wrap_i64];omega
    have u3:IntKind.i64.wrap ((c3.toNat:Int)*256)=(c3.toNat:Int)*256:=by rw[IntKind.wrap_i64];omega
    have s1:IntKind.i64.wrap ((c1.toNat:Int)*16777216+(c2.toNat:Int)*65536)=(c1.toNat:Int)*16777216+(c2.toNat:Int)*65536:=by rw[IntKind.wrap_i64];omega
    have s2:IntKind.i64.wrap ((c1.toNat:Int)*16777216+(c2.toNat:Int)*65536+(c3.toNat:Int)*256)=(c1.toNat:Int)*16777216+(c2.toNat:Int)*65536+(c3.toNat:Int)*256:=by rw[IntKind.wrap_i64];omega
    have s3:IntKind.i64.wrap ((c1.toNat:Int)*16777216+(c2.toNat:Int)*65536+(c3.toNat:Int)*256+(c4.toNat:Int))=(n:Int):=by rw[IntKind.wrap_i64];omega
    have HH:Hid (Rs w b q most ep v (hads ep ah he)):=h.out
    clear hX hnm hn q1 q2 q3 q4 h5 h17 hr NO
    have FIN:Hid (∀w' z,tkp ep ah he [69,c1,c2,c3,c4]=z→RsP w b q most v (z.getD (ep,ah,he)) w'→RsP w b q most v ((tkp ep ah he [69,c1,c2,c3,c4]).getD (ep,ah,he)) w'):=fun w' z e k=>by rw[e];exact k
    obtain⟨R,hR⟩:∃R,tkp ep ah he [69,c1,c2,c3,c4]=R:=⟨_,rfl⟩
    rw[hR] at ek FIN ⊢
    clear hR h FIN
    go_enter Tryz.func84, Tryz.ntmps84
    go_upto_region 6 with fail
    go_cut [5] (fun x5 wx=>x5 = .int .i64 (n:Int)∧wx=w.drew)
    case first =>
     go_wp2_with fail
     refine wp_region_noPanic ?_
     refine wp_region_held_drew (S:=fun _=>True) (by kernel_rfl) (trivial) (fun hHeld => ?_)
     refine wpAnyH_take (i:=0) (oi:=opt6_0) (v := ?_) rfl (by kernel_rfl) (by kernel_rfl) (by kernel_rfl) (fun _ _ _ h=>h) (Or.inl ⟨by rfl,?_⟩) (by assumption) ?_
     rotate_left
     ·intro w' hSw
      clear hSw
      unfold opt6_0
      first
      | (go_simp;done)
      | (go_simp;with_reducible rfl)
     simp only[opt6_0,Act.put,List.setIfInBounds_toArray,List.set_cons_zero,List.set_cons_succ]
     refine wpAnyH_take (i:=1) (oi:=opt6_1) (v := ?_) rfl (by kernel_rfl) (by kernel_rfl) (by kernel_rfl) (fun _ _ _ h=>h) (Or.inl ⟨by rfl,?_⟩) (by assumption) ?_
     rotate_left
     ·intro w' hSw
      clear hSw
      unfold opt6_1
      first
      | (go_simp;done)
      | (go_simp;with_reducible rfl)
     simp only[opt6_1,Act.put,List.setIfInBounds_toArray,List.set_cons_zero,List.set_cons_succ]
     refine wpAnyH_take (i:=2) (oi:=opt6_2) (v := ?_) rfl (by kernel_rfl) (by kernel_rfl) (by kernel_rfl) (fun _ _ _ h=>h) (Or.inl ⟨by rfl,?_⟩) (by assumption) ?_
     rotate_left
     ·intro w' hSw
      clear hSw
      unfold opt6_2
      first
      | (go_simp;done)
      | (go_simp;with_reducible rfl)
     simp only[opt6_2,Act.put,List.setIfInBounds_toArray,List.set_cons_zero,List.set_cons_succ]
     refine wpAnyH_take (i:=3) (oi:=opt6_3) (v := ?_) rfl (by kernel_rfl) (by kernel_rfl) (by kernel_rfl) (fun _ _ _ h=>h) (Or.inl ⟨by rfl,?_⟩) (by assumption) ?_
     rotate_left
     ·intro w' hSw
      clear hSw
      unfold opt6_3
      first
      | (go_simp;done)
      | (go_simp;with_reducible rfl)
     simp only[opt6_3,Act.put,List.setIfInBounds_toArray,List.set_cons_zero,List.set_cons_succ]
     refine wpAnyH_take (i:=4) (oi:=opt6_4) (v := ?_) rfl (by kernel_rfl) (by kernel_rfl) (by kernel_rfl) (fun _ _ _ h=>h) (Or.inl ⟨by rfl,?_⟩) (by assumption) ?_
     rotate_left
     ·intro w' hSw
      clear hSw
      unfold opt6_4
      first
      | (go_simp;done)
      | (go_simp;with_reducible rfl)
     simp only[opt6_4,Act.put,List.setIfInBounds_toArray,List.set_cons_zero,List.set_cons_succ]
     refine wpAnyH_take (i:=5) (oi:=opt6_5) (v := ?_) rfl (by kernel_rfl) (by kernel_rfl) (by kernel_rfl) (fun _ _ _ h=>h) (Or.inl ⟨by rfl,?_⟩) (by assumption) ?_
     rotate_left
     ·intro w' hSw
      clear hSw
      unfold opt6_5
      first
      | (go_simp;done)
      | (go_simp;with_reducible rfl)
     simp only[opt6_5,Act.put,List.setIfInBounds_toArray,List.set_cons_zero,List.set_cons_succ]
     refine wpAnyH_take (i:=6) (oi:=opt6_6) (v := ?_) rfl (by kernel_rfl) (by kernel_rfl) (by kernel_rfl) (fun _ _ _ h=>h) (Or.inl ⟨by rfl,?_⟩) (by assumption) ?_
     rotate_left
     ·intro w' hSw
      clear hSw
      unfold opt6_6
      first
      | (go_simp;done)
      | (go_simp;with_reducible rfl)
     simp only[opt6_6,Act.put,List.setIfInBounds_toArray,List.set_cons_zero,List.set_cons_succ]
     refine wpAnyH_take (i:=7) (oi:=opt6_7) (v := ?_) rfl (by kernel_rfl) (by kernel_rfl) (by kernel_rfl) (fun _ _ _ h=>h) (Or.inl ⟨by rfl,?_⟩) (by assumption) ?_
     rotate_left
     ·intro w' hSw
      clear hSw
      unfold opt6_7
      first
      | (go_simp;done)
      | (go_simp;with_reducible rfl)
     simp only[opt6_7,Act.put,List.setIfInBounds_toArray,List.set_cons_zero,List.set_cons_succ]
     refine wpAnyH_take (i:=8) (oi:=opt6_8) (v := ?_) rfl (by kernel_rfl) (by kernel_rfl) (by kernel_rfl) (fun _ _ _ h=>h) (Or.inl ⟨by rfl,?_⟩) (by assumption) ?_
     rotate_left
     ·intro w' hSw
      clear hSw
      unfold opt6_8
      first
      | (go_simp;done)
      | (go_simp;with_reducible rfl)
     simp only[opt6_8,Act.put,List.setIfInBounds_toArray,List.set_cons_zero,List.set_cons_succ]
     refine wpAnyH_take (i:=9) (oi:=opt6_9) (v := ?_) rfl (by kernel_rfl) (by kernel_rfl) (by kernel_rfl) (fun _ _ _ h=>h) (Or.inl ⟨by rfl,?_⟩) (by assumption) ?_
     rotate_left
     ·intro w' hSw
      clear hSw
      unfold opt6_9
      first
      | (go_simp;done)
      | (go_simp;with_reducible rfl)
     simp only[opt6_9,Act.put,List.setIfInBounds_toArray,List.set_cons_zero,List.set_cons_succ]
     refine wpAnyH_take (i:=10) (oi:=opt6_10) (v := ?_) rfl (by kernel_rfl) (by kernel_rfl) (by kernel_rfl) (fun _ _ _ h=>h) (Or.inl ⟨by rfl,?_⟩) (by assumption) ?_
     rotate_left
     ·intro w' hSw
      clear hSw
      unfold opt6_10
      first
      | (go_simp;done)
      | (go_simp;with_reducible rfl)
     simp only[opt6_10,Act.put,List.setIfInBounds_toArray,List.set_cons_zero,List.set_cons_succ]
     refine wpAnyH_take (i:=11) (oi:=opt6_11) (v := ?_) rfl (by kernel_rfl) (by kernel_rfl) (by kernel_rfl) (fun _ _ _ h=>h) (Or.inl ⟨by rfl,?_⟩) (by assumption) ?_
     rotate_left
     ·intro w' hSw
      clear hSw
      unfold opt6_11
      first
      | (go_simp;done)
      | (go_simp;with_reducible rfl)
     simp only[opt6_11,Act.put,List.setIfInBounds_toArray,List.set_cons_zero,List.set_cons_succ]
     refine wpAnyH_take (i:=12) (oi:=opt6_12) (v := ?_) rfl (by kernel_rfl) (by kernel_rfl) (by kernel_rfl) (fun _ _ _ h=>h) (Or.inl ⟨by rfl,?_⟩) (by assumption) ?_
     rotate_left
     ·intro w' hSw
      clear hSw
      unfold opt6_12
      first
      | (go_simp;done)
      | (go_simp;with_reducible rfl)
     simp only[opt6_12,Act.put,List.setIfInBounds_toArray,List.set_cons_zero,List.set_cons_succ]
     refine wpAnyH_take (i:=13) (oi:=opt6_13) (v := ?_) rfl (by kernel_rfl) (by kernel_rfl) (by kernel_rfl) (fun _ _ _ h=>h) (Or.inl ⟨by rfl,?_⟩) (by assumption) ?_
     rotate_left
     ·intro w' hSw
      clear hSw
      unfold opt6_13
      first
      | (go_simp;done)
      | (go_simp;with_reducible rfl)
     simp only[opt6_13,Act.put,List.setIfInBounds_toArray,List.set_cons_zero,List.set_cons_succ]
     refine wpAnyH_take (i:=14) (oi:=opt6_14) (v := ?_) rfl (by kernel_rfl) (by kernel_rfl) (by kernel_rfl) (fun _ _ _ h=>h) (Or.inl ⟨by rfl,?_⟩) (by assumption) ?_
     rotate_left
     ·intro w' hSw
      clear hSw
      unfold opt6_14
      first
      | (go_simp;done)
      | (go_simp;with_reducible rfl)
     simp only[opt6_14,Act.put,List.setIfInBounds_toArray,List.set_cons_zero,List.set_cons_succ]
     refine wpAnyH_take (i:=15) (oi:=opt6_15) (v := ?_) rfl (by kernel_rfl) (by kernel_rfl) (by kernel_rfl) (fun _ _ _ h=>h) (Or.inl ⟨by rfl,?_⟩) (by assumption) ?_
     rotate_left
     ·intro w' hSw
      clear hSw
      unfold opt6_15
      first
      | (go_simp;done)
      | (go_simp;with_reducible rfl)
     simp only[opt6_15,Act.put,List.setIfInBounds_toArray,List.set_cons_zero,List.set_cons_succ]
     refine wpAnyH_take (i:=16) (oi:=opt6_16) (v := ?_) rfl (by kernel_rfl) (by kernel_rfl) (by kernel_rfl) (fun _ _ _ h=>h) (Or.inl ⟨by rfl,?_⟩) (by assumption) ?_
     rotate_left
     ·intro w' hSw
      clear hSw
      unfold opt6_16
      first
      | (go_simp;done)
      | (go_simp;with_reducible rfl)
     simp only[opt6_16,Act.put,List.setIfInBounds_toArray,List.set_cons_zero,List.set_cons_succ]
     refine wpAnyH_take (i:=17) (oi:=opt6_17) (v := ?_) rfl (by kernel_rfl) (by kernel_rfl) (by kernel_rfl) (fun _ _ _ h=>h) (Or.inl ⟨by rfl,?_⟩) (by assumption) ?_
     rotate_left
     ·intro w' hSw
      clear hSw
      unfold opt6_17
      first
      | (go_simp;done)
      | (go_simp;with_reducible rfl)
     simp only[opt6_17,Act.put,List.setIfInBounds_toArray,List.set_cons_zero,List.set_cons_succ]
     refine wpAnyH_take (i:=18) (oi:=opt6_18) (v := ?_) rfl (by kernel_rfl) (by kernel_rfl) (by kernel_rfl) (fun _ _ _ h=>h) (Or.inl ⟨by rfl,?_⟩) (by assumption) ?_
     rotate_left
     ·intro w' hSw
      clear hSw
      unfold opt6_18
      first
      | (go_simp;done)
      | (go_simp;with_reducible rfl)
     simp only[opt6_18,Act.put,List.setIfInBounds_toArray,List.set_cons_zero,List.set_cons_succ]
     refine wpAnyH_done (by kernel_rfl) ?_ _
     refine NoPanic.normal ?_
     go_wp2
     go_meet
     exact⟨rfl,rfl⟩
    case rest =>
     obtain⟨rfl,rfl⟩:=hcut
     clear t1 t2 t3 t4 u1 u2 u3 s1 s2 s3 x0 x1 x2 x3 x4 hs
     have HD:Hid (Rs w.drew b q most ep v (hads ep ah he)):=HH.out.later (Below.refl _ _).drew
     have k2:=HD.out.bk.c 2 _ rfl
     by_cases hlow:n < ep
     ·rw[if_pos (.inl hlow)] at ek
      have FF:Hid (R=none∧RsP w b q most v (R.getD (ep,ah,he)) w.drew):=⟨ek,by rw[ek];exact RsP.stay HH.out (Below.refl _ _).drew⟩
      have g1:(n:Int) < (ep:Int):=by omega
      clear ek HH HD hlow
      go_wp2
      go_ret
      exact⟨by rw[FF.out.1];rfl,FF.out.2⟩
     ·have g1:¬(n:Int) < (ep:Int):=by omega
      by_cases hbig:2147483647 < n
      ·rw[if_pos (.inr hbig)] at ek
       have FF:Hid (R=none∧RsP w b q most v (R.getD (ep,ah,he)) w.drew):=⟨ek,by rw[ek];exact RsP.stay HH.out (Below.refl _ _).drew⟩
       have g2:(2147483647:Int) < (n:Int):=by omega
       clear ek HH HD hlow hbig
       go_wp2
       go_ret
       exact⟨by rw[FF.out.1];rfl,FF.out.2⟩
      ·rw[if_neg (by omega)] at ek
       have g2:¬(2147483647:Int) < (n:Int):=by omega
       have EN:Hid (Calls Tryz.prog 88 #[.pointer (some ⟨b,0,none⟩),.int .i64 (n:Int)] w.drew fun e w'=>e = .returned (.tuple #[])∧RsP w b q most v (R.getD (ep,ah,he)) w'):=by
        have:=rsenter_any b q most ep n v (hads ep ah he) (by rw[hads_len];exact hl) hn32 w.drew HD
        rw[hads_enter ep ah he n (by omega)] at this
        refine this.mono ?_
        rintro e w' ⟨e1,v',z1,z2,z3⟩
        rw[ek]
        exact⟨e1,v',z1,(Bf.of (Below.refl _ _).drew).trans (Nx.refl _ _) z2,z3⟩
       have ER:Hid (R.isSome=true):=by show R.isSome=true;rw[ek];rfl
       clear ek HH HD hlow hbig
       go_wp2_with fail
       refine Calls.mono EN.out ?_
       rintro e w1 ⟨rfl,z⟩
       have FF:Hid _:=z
       clear EN z k2
       go_wp2
       go_ret
       exact⟨by rw[ER.out];rfl,FF.out⟩
   ·have ek:tkp ep ah he [c,c1,c2,c3,c4]=none:=by rw[tkp,if_neg (fun z=>h17 z.1),if_neg (fun z=>hc (by simpa using z.2))]
    have FN:=NO ek
    have g1:¬(c.toNat:Int)=69:=fun z=>hc (by apply UInt8.toNat_inj.1;show c.toNat=69;omega)
    obtain⟨R,hR⟩:∃R,tkp ep ah he [c,c1,c2,c3,c4]=R:=⟨_,rfl⟩
    rw[hR] at FN ⊢
    clear hX hR ek NO h h17 hr hc x1 x2 x3 x4 h5
    go_enter Tryz.func84, Tryz.ntmps84
    go_wp2
    go_ret
    exact⟨by rw[←FN.out.1];rfl,FN.out.2 _ (Below.refl _ _)⟩
  ·have ek:tkp ep ah he r=none:=by rw[tkp,if_neg (fun z=>h17 z.1),if_neg (fun z=>h5 z.1)]
   have FN:=NO ek
   obtain⟨R,hR⟩:∃R,tkp ep ah he r=R:=⟨_,rfl⟩
   rw[hR] at FN ⊢
   have g1:¬(X.size:Int)=17:=by omega
   have g2:¬(X.size:Int)=5:=by omega
   clear hX hR ek NO h h17 hr h5 hs
   go_enter Tryz.func84, Tryz.ntmps84
   go_wp2
   go_ret
   exact⟨by rw[←FN.out.1];rfl,FN.out.2 _ (Below.refl _ _)⟩
end Go.Proofs.YtdcimnmebgkmjaaGreatDoor
namespace Go.Proofs.YtdcimnmebgkmjaaGreatDoor
open Go.RowKit Go.Proofs.Fd Go.Proofs.Dk Go.Proofs.Lg
set_option maxRecDepth 20000
def wrA (s:St) (x:Lo) (sh:List Bs) (r:Bs):(Int×St)×Lo :=
 if (app s x r).1.1=151 then (if (cmp s x sh).1.1=0 then app (cmp s x sh).1.2 (cmp s x sh).2 r else cmp s x sh) else app s x r
def wrp (s:St) (x:Lo) (sh:List Bs) (r:Bs):(Int×St)×Lo:=if (wrA s x sh r).1.1≠0 then wrA s x sh r else ((syE (wrA s x sh r).1.2,syS (wrA s x sh r).1.2),(wrA s x sh r).2)
structure Rz (w:World) (d:Nat) (G:Nat→Prop) (s:St) (q:Nat) (v:Value) (x:Lo) (b most ep:Nat) (u:Value) (ah he:List Bs):Prop where
 rl:Rl w d G s q v x
 rs:Rs w b q most ep u (hads ep ah he)
 ap:∀y,HFt b u y→¬FQ G q v y
def FZ (G:Nat→Prop) (q:Nat) (v:Value) (b:Nat) (u:Value) (y:Nat):Prop:=FQ G q v y∨HFt b u y
def RzP (w:World) (F:Nat→Prop) (d q b most:Nat) (s:St) (x:Lo) (ep:Nat) (ah he:List Bs) (w':World):Prop:=∃G v u,Rz w' d G s q v x b most ep u ah he∧Nx w F (FZ G q v b u)∧Bf F w w'
section
variable {w:World} {F:Nat→Prop} {d q b most:Nat} {s:St} {x:Lo} {ep:Nat} {ah he:List Bs} {w1:World}
theorem RzP.later (k:RzP w F d q b most s x ep ah he w1) {w2:World} (hb:Below w1.heap.size w1 w2):RzP w F d q b most s x ep ah he w2:=by
 obtain⟨G,v,u,z,n,f⟩:=k
 exact⟨G,v,u,⟨z.rl.later hb,z.rs.later hb,z.ap⟩,n,f.later hb⟩
theorem Rz.log {G:Nat→Prop} {v u:Value} (k:Rz w1 d G s q v x b most ep u ah he) {w2:World} {s':St} {x':Lo} (z:RlP w1 d G q v s' x' w2) (hn:Nx w F (FZ G q v b u)) (hf:Bf F w w1):RzP w F d q b most s' x' ep ah he w2:=by
 obtain⟨G',v',r,n1,n2,f⟩:=z
 have nq:Nx w1 (FQ G q v) (FQ G' q v'):=fun y hy=>by
  rcases hy with e|e
  ·rcases n1 y e with c|c
   ·exact .inl (.inl c)
   ·exact .inr c
  ·rcases n2 y e with c|c
   ·exact .inl (.inr c)
   ·exact .inr c
 refine⟨G',v',u,⟨r,k.rs.bf f k.ap,fun y hy=>nq.apart (k.ap y hy) (k.rs.lt hy)⟩,fun y hy => ?_,hf.trans hn (f.wide fun y e => .inl e)⟩
 have hs:=hf.size
 rcases hy with e|e
 ·rcases nq y e with c|c
  ·exact hn y (.inl c)
  ·exact .inr (by omega)
 ·exact hn y (.inr e)
theorem Rz.set {G:Nat→Prop} {v u:Value} (k:Rz w1 d G s q v x b most ep u ah he) {w2:World} {y:Nat×List Bs×List Bs} (z:RsP w1 b q most u y w2) (hn:Nx w F (FZ G q v b u)) (hf:Bf F w w1):RzP w F d q b most s x y.1 y.2.1 y.2.2 w2:=by
 obtain⟨u',r,f,n⟩:=z
 have hs:=hf.size
 refine⟨G,v,u',⟨k.rl.other f (fun g hg c=>k.ap g c hg),r,fun g hg => ?_⟩,fun g hg => ?_,hf.trans hn (f.wide fun g e => .inr e)⟩
 ·rcases n g hg with c|c
  ·exact k.ap g c
  ·intro e
   have:=k.rl.fq e
   omega
 ·rcases hg with e|e
  ·exact hn g (.inl e)
  ·rcases n g e with c|c
   ·exact hn g (.inr c)
   ·exact .inr (by omega)
end
set_option maxHeartbeats 4000000 in
theorem rswrite_any (w:World) (F:Nat→Prop) (d q b most:Nat) (s:St) (x:Lo) (ep:Nat) (ah he:List Bs) (r:Bs) (h1:ah.length≤10000) (h2:he.length≤10000) (hep:ep≤4294967296) (h0:ep=0→ah=[]) (hb:∀t∈ah++he,t.length≤2000) (hdn:s.down=false) (hl:s.l.length+6000≤1000000) (w1:World) (k:Hid (RzP w F d q b most s x ep ah he w1)) :
  Calls Tryz.prog 85 #[.pointer (some ⟨b,0,none⟩),.string (st r)] w1 fun e w'=>e = .returned (.int .i64 (wrp s x (sht ep ah he) r).1.1)∧RzP w F d q b most (wrp s x (sht ep ah he) r).1.2 (wrp s x (sht ep ah he) r).2 ep ah he w':=by
 have K0:Hid (∀W s x,RzP w F d q b most s x ep ah he W→W.cell? ⟨b,0,none⟩=some (.pointer (some ⟨q,0,none⟩))∧W.cell? ⟨q,0,none⟩=some (.pointer (some ⟨d,0,none⟩))):=fun W s x ⟨G,v,u,z,_,_⟩=>⟨z.rs.bk.c 0 _ rfl,z.rl.rd.rf.bk.c 0 _ rfl⟩
 have AP:Hid (∀W s x,s.l.length+100≤1000000→RzP w F d q b most s x ep ah he W→Calls Tryz.prog 36 #[.pointer (some ⟨q,0,none⟩),.string (st r)] W fun e w'=>e = .returned (.int .i64 (app s x r).1.1)∧RzP w F d q b most (app s x r).1.2 (app s x r).2 ep ah he w'):=fun W s x hl ⟨G,v,u,z,n,f⟩ =>
  (rappend_any W d G s q v x (st r) hl z.rl).mono fun _ _ ⟨e1,e2⟩=>⟨e1,z.log e2 n f⟩
 have SH:Hid (∀W,RzP w F d q b most s x ep ah he W→Calls Tryz.prog 112 #[.pointer (some ⟨b,0,none⟩)] W fun e w'=>∃a c,e = .returned (.slice a (sht ep ah he).length c)∧w'.cell? ⟨b,0,none⟩=some (.pointer (some ⟨q,0,none⟩))∧Hid (RzP w F d q b most s x ep ah he w'∧TxAt w' a (sht ep ah he)∧∀y,a=some y→W.heap.size≤y.block)∧Below W.heap.size W w'):=fun W ⟨G,v,u,z,n,f⟩ =>
  (rsshort_any b q most ep u ah he h1 h2 hep h0 hb W z.rs).mono fun _ w' ⟨a,c,e1,e2,e3,e4⟩=>⟨a,c,e1,(z.rs.later e3).bk.c 0 _ rfl,⟨RzP.later ⟨G,v,u,z,n,f⟩ e3,e2,e4⟩,e3⟩
 have hshl:(sht ep ah he).length≤100000:=by
  unfold sht
  by_cases e:ah=[]
  ·rw[if_pos e];simp;omega
  ·rw[if_neg e];simp;omega
 have CP:Hid (∀W W2 a c,RzP w F d q b most s x ep ah he W→Below W.heap.size W W2→TxAt W2 a (sht ep ah he)→(∀y,a=some y→W.heap.size≤y.block)→Calls Tryz.prog 39 #[.pointer (some ⟨q,0,none⟩),.slice a (sht ep ah he).length c] W2 fun e w'=>e = .returned (.int .i64 (cmp s x (sht ep ah he)).1.1)∧w'.cell? ⟨b,0,none⟩=some (.pointer (some ⟨q,0,none⟩))∧Hid (RzP w F d q b most (cmp s x (sht ep ah he)).1.2 (cmp s x (sht ep ah he)).2 ep ah he w')):=fun W W2 a c ⟨G,v,u,z,n,f⟩ hb tx hn=>by
  have z2:Rz W2 d G s q v x b most ep u ah he:=⟨z.rl.later hb,z.rs.later hb,z.ap⟩
  refine (rcompact_any W2 d G s q v x a _ c (sht ep ah he) rfl (by omega) hdn (by omega) z2.rl tx (fun y e _ cc => ?_)).mono ?_
  ·have:=hn y e
   have:=z.rl.rd.at_.lt cc
   omega
  ·rintro e w' ⟨e1,e2⟩
   have zz:=z2.log (F:=F) e2 n (f.later hb)
   exact⟨e1,by obtain⟨G',v',u',y,_,_⟩:=zz;exact y.rs.bk.c 0 _ rfl,zz⟩
 have SY:Hid (∀W s x,s.l.length≤1000000→RzP w F d q b most s x ep ah he W→Calls Tryz.prog 37 #[.pointer (some ⟨d,0,none⟩)] W fun e w'=>e = .returned (.int .i64 (syE s))∧RzP w F d q b most (syS s) x ep ah he w'):=fun W s x hl ⟨G,v,u,z,n,f⟩ =>
  (rsync_any d G s W z.rl.rd.at_ hl).mono fun _ w' ⟨e1,G',y1,y2,y3⟩=>⟨e1,z.log ⟨G',v,⟨z.rl.rd.disk y1 y2 y3,z.rl.h1,by rw[syS_n];exact z.rl.n4,by rw[syS_n];exact z.rl.n2,by rw[syS_n];exact z.rl.tk,z.rl.ok⟩,y2,Nx.refl _ _,y3.wide fun y e => .inl e⟩ n f⟩
 have hal:=app_len s x r
 have hcl:=cmp_len s x (sht ep ah he)
 have hn2:s.n≤1024:=by obtain⟨G,v,u,z,-,-⟩:=k.out;exact z.rl.n2
 have hac:=app_len (cmp s x (sht ep ah he)).1.2 (cmp s x (sht ep ah he)).2 r
 have hwl:(wrA s x (sht ep ah he) r).1.2.l.length≤1000000:=by
  unfold wrA
  by_cases e1:(app s x r).1.1=151
  ·rw[if_pos e1]
   by_cases e2:(cmp s x (sht ep ah he)).1.1=0
   ·rw[if_pos e2];omega
   ·rw[if_neg e2];omega
  ·rw[if_neg e1];omega
 have hcl2:(cmp s x (sht ep ah he)).1.2.l.length+100≤1000000:=by omega
 have A0:Hid _:=AP.out w1 s x (by omega) k.out
 have S0:Hid _:=SH.out w1 k.out
 have FIN:Hid (∀W,RzP w F d q b most (wrA s x (sht ep ah he) r).1.2 (wrA s x (sht ep ah he) r).2 ep ah he W→(wrA s x (sht ep ah he) r).1.1=0→Calls Tryz.prog 37 #[.pointer (some ⟨d,0,none⟩)] W fun e w'=>e = .returned (.int .i64 (wrp s x (sht ep ah he) r).1.1)∧RzP w F d q b most (wrp s x (sht ep ah he) r).1.2 (wrp s x (sht ep ah he) r).2 ep ah he w'):=fun W z e0=>by
  have ew:wrp s x (sht ep ah he) r=((syE (wrA s x (sht ep ah he) r).1.2,syS (wrA s x (sht ep ah he) r).1.2),(wrA s x (sht ep ah he) r).2):=by rw[wrp,if_neg (by rw[e0];simp)]
  rw[ew]
  exact SY.out W _ _ hwl z
 have FNO:Hid (∀W,RzP w F d q b most (wrA s x (sht ep ah he) r).1.2 (wrA s x (sht ep ah he) r).2 ep ah he W→(wrA s x (sht ep ah he) r).1.1≠0→(wrA s x (sht ep ah he) r).1.1=(wrp s x (sht ep ah he) r).1.1∧RzP w F d q b most (wrp s x (sht ep ah he) r).1.2 (wrp s x (sht ep ah he) r).2 ep ah he W):=fun W z e0=>by
  have ew:wrp s x (sht ep ah he) r=wrA s x (sht ep ah he) r:=by rw[wrp,if_pos e0]
  rw[ew]
  exact⟨rfl,z⟩
 have k0:=(K0.out w1 s x k.out).1
 obtain⟨R,hR⟩:∃R,st r=R:=⟨_,rfl⟩
 rw[hR] at A0 AP ⊢
 obtain⟨wP,hP⟩:∃z,wrp s x (sht ep ah he) r=z:=⟨_,rfl⟩
 rw[hP] at FIN FNO ⊢
 have EW:Hid (wrA s x (sht ep ah he) r=if (app s x r).1.1=151 then (if (cmp s x (sht ep ah he)).1.1=0 then app (cmp s x (sht ep ah he)).1.2 (cmp s x (sht ep ah he)).2 r else cmp s x (sht ep ah he)) else app s x r):=rfl
 obtain⟨wA,hA⟩:∃z,wrA s x (sht ep ah he) r=z:=⟨_,rfl⟩
 rw[hA] at FIN FNO EW
 clear hR hP hA hal hac hwl hcl
 by_cases e151:(app s x r).1.1=151
 ·have AP2:Hid _:=fun W z=>AP.out W (cmp s x (sht ep ah he)).1.2 (cmp s x (sht ep ah he)).2 hcl2 z
  have e2:=app_151 e151
  have EW2:=EW.out
  rw[if_pos e151] at EW2
  rw[e2] at A0
  obtain⟨⟨⟨yc,sc⟩,xc⟩,hcx⟩:∃z,cmp s x (sht ep ah he)=z:=⟨_,rfl⟩
  rw[hcx] at CP AP2 EW2
  have SHL:Hid ((sht ep ah he).length=(sht ep ah he).length):=rfl
  obtain⟨N,hN⟩:∃N,(sht ep ah he).length=N:=⟨_,rfl⟩
  rw[hN] at SH CP
  have EA:Hid (yc=0→wA=app sc xc r):=fun h=>by rw[EW2];exact if_pos h
  have EB:Hid (yc≠0→wA=((yc,sc),xc)):=fun h=>by rw[EW2];exact if_neg h
  clear EW EW2 SHL hN hcx hcl2 S0 AP e151 e2 hshl
  go_enter Tryz.func85, Tryz.ntmps85
  go_wp2_with fail
  refine Calls.mono A0.out ?_
  rintro e w2 ⟨rfl,z2⟩
  have J2:Hid (RzP w F d q b most s x ep ah he w2.drew):=RzP.later z2 (Below.refl _ _).drew
  have q0:=(K0.out w2 s x z2).1
  have SH3:Hid _:=SH.out w2.drew J2.out
  have CP3:Hid _:=fun W2 a c hb tx hn=>CP.out w2.drew W2 a c J2.out hb tx hn
  clear z2 A0 k0 k SH CP J2
  go_wp2_with fail
  go_region_held3 (fun w'=>w'.cell? ⟨b,0,none⟩=some (.pointer (some ⟨q,0,none⟩))) (first|exact q0|assumption) (first|(go_at_call 112;refine Calls.mono SH3.out ?_;rintro e w3 ⟨a3,c3,rfl,hc3,H3,hb3⟩)|(go_at_call 39;refine Calls.mono (CP3.out _ _ _ hb3 H3.out.2.1 H3.out.2.2) ?_;rintro e w4 ⟨rfl,hc4,H4⟩))
  clear SH3 CP3 hb3 H3 hc3 q0
  by_cases h0:yc=0
  ·have A4:Hid _:=AP2.out w4 H4.out
   have EA1:=EA.out h0
   rw[←EA1] at A4
   obtain⟨y,hy⟩:∃y,wA.1.1=y:=⟨_,rfl⟩
   rw[hy] at A4 FIN FNO
   subst h0
   clear AP2 H4 EA EB EA1 hy
   go_wp2_with fail
   refine Calls.mono A4.out ?_
   rintro e w5 ⟨rfl,z5⟩
   have J5:Hid _:=z5
   clear z5 A4 hc4
   by_cases h0:y=0
   ·obtain⟨q0,q1⟩:=K0.out w5 _ _ J5.out
    have S5:Hid _:=FIN.out w5 J5.out h0
    subst h0
    clear FIN FNO K0 J5
    go_wp2_with fail
    refine Calls.mono S5.out ?_
    rintro e w6 ⟨rfl,z6⟩
    have FF:Hid _:=z6
    clear z6 S5 q0 q1
    go_wp2
    go_ret
    exact⟨rfl,FF.out⟩
   ·have FF:Hid _:=FNO.out w5 J5.out h0
    clear FIN FNO K0 J5
    go_wp2
    go_ret
    exact⟨by rw[←FF.out.1];rfl,FF.out.2⟩
  ·have EB1:=EB.out h0
   have FF:Hid (yc=wP.1.1∧RzP w F d q b most wP.1.2 wP.2 ep ah he w4):=by
    have:=FNO.out w4
    rw[EB1] at this
    exact this H4.out h0
   clear FIN FNO K0 H4 AP2 EA EB EB1 hc4
   go_wp2
   go_ret
   exact⟨by rw[←FF.out.1];rfl,FF.out.2⟩
 ·have EW2:=EW.out
  rw[if_neg e151] at EW2
  rw[←EW2] at A0
  obtain⟨y,hy⟩:∃y,wA.1.1=y:=⟨_,rfl⟩
  rw[←EW2,hy] at e151
  rw[hy] at A0 FIN FNO
  clear CP SH S0 SY AP EW EW2 hy k
  go_enter Tryz.func85, Tryz.ntmps85
  go_wp2_with fail
  refine Calls.mono A0.out ?_
  rintro e w2 ⟨rfl,z2⟩
  have J2:Hid _:=z2
  clear z2 A0 k0
  by_cases h0:y=0
  ·obtain⟨q0,q1⟩:=K0.out w2 _ _ J2.out
   have S2:Hid _:=FIN.out w2 J2.out h0
   subst h0
   clear FIN FNO K0 J2
   go_wp2_with fail
   refine Calls.mono S2.out ?_
   rintro e w3 ⟨rfl,z3⟩
   have FF:Hid _:=z3
   clear z3 S2 q0 q1
   go_wp2
   go_ret
   exact⟨rfl,FF.out⟩
  ·have FF:Hid _:=FNO.out w2 J2.out h0
   clear FIN FNO K0 J2
   go_wp2
   go_ret
   exact⟨by rw[←FF.out.1];rfl,FF.out.2⟩
end Go.Proofs.YtdcimnmebgkmjaaGreatDoor
namespace Go.Proofs.YtdcimnmebgkmjaaGreatDoor
open Go.RowKit Go.Proofs.Fd Go.Proofs.Dk Go.Proofs.Lg
set_option maxRecDepth 20000
abbrev Ey:=Nat×List Bs×List Bs
structure Gd (y:Ey):Prop where
 e:y.1≤2147483647
 z:y.1=0→y.2.1=[]
 t:∀t∈y.2.1++y.2.2,t.length=16
 n:y.2.1.length+y.2.2.length≤10000
def adp (most:Nat) (s:St) (x:Lo) (y:Ey) (t:Bs):((Int×St)×Lo)×Ey :=
 if t.length≠16 then (((3,s),x),y)
 else if t∈y.2.1++y.2.2 then (((170,s),x),y)
 else if most≤y.2.1.length+y.2.2.length then (((180,s),x),y)
 else (wrp s x (sht y.1 y.2.1 y.2.2) (84::t),if (wrp s x (sht y.1 y.2.1 y.2.2) (84::t)).1.1=0 then (y.1,y.2.1,y.2.2++[t]) else y)
def rop (s:St) (x:Lo) (y:Ey):((Int×St)×Lo)×Ey :=
 if 2147483647≤y.1 then (((1,s),x),y)
 else (wrp s x (sht y.1 y.2.1 y.2.2) (69::ben (y.1+1) 4),if (wrp s x (sht y.1 y.2.1 y.2.2) (69::ben (y.1+1) 4)).1.1=0 then (y.1+1,y.2.2,[]) else y)
abbrev RzY (w:World) (F:Nat→Prop) (d q b most:Nat) (s:St) (x:Lo) (y:Ey) (w':World):Prop:=RzP w F d q b most s x y.1 y.2.1 y.2.2 w'
theorem rzhas_any (w:World) (F:Nat→Prop) (d q b most:Nat) (s:St) (x:Lo) (y:Ey) (hy:Gd y) (X:ByteArray) (w1:World) (k:RzY w F d q b most s x y w1) :
  Calls Tryz.prog 50 #[.pointer (some ⟨b,0,none⟩),.string X] w1 fun e w'=>e = .returned (.bool (decide (X.data.toList∈y.2.1++y.2.2)))∧w'=w1:=by
 obtain⟨G,v,u,z,-,-⟩:=k
 have:=rshas_any b q most y.1 u _ (by rw[hads_len];have:=hy.n;omega) X w1 z.rs
 rw[hads_fst] at this
 exact this
set_option maxHeartbeats 2000000 in
theorem rzadd_any (w:World) (F:Nat→Prop) (d q b most:Nat) (hmost:most≤4096) (s:St) (x:Lo) (y:Ey) (hy:Gd y) (hdn:s.down=false) (hl:s.l.length+6000≤1000000) (X:ByteArray) (w1:World) (k:Hid (RzY w F d q b most s x y w1)) :
  Calls Tryz.prog 48 #[.pointer (some ⟨b,0,none⟩),.string X] w1 fun e w'=>e = .returned (.int .i64 (adp most s x y X.data.toList).1.1.1)∧RzY w F d q b most (adp most s x y X.data.toList).1.1.2 (adp most s x y X.data.toList).1.2 (adp most s x y X.data.toList).2 w':=by
 have HS:Hid _:=rzhas_any w F d q b most s x y hy X w1 k.out
 have hXs:X.data.toList.length=X.size:=by simp
 obtain⟨t,ht⟩:∃t,X.data.toList=t:=⟨_,rfl⟩
 have hX:Hid (X=st t):=by show X=st t;rw[←ht];rfl
 rw[ht] at HS hXs ⊢
 clear ht
 obtain⟨r,hr⟩:∃r,adp most s x y t=r:=⟨_,rfl⟩
 rw[hr]
 unfold adp at hr
 by_cases h16:t.length≠16
 ·rw[if_pos h16] at hr
  have g1:¬(X.size:Int)=16:=by omega
  have FF:Hid (r.1.1.1=3∧RzY w F d q b most r.1.1.2 r.1.2 r.2 w1):=by rw[←hr];exact⟨rfl,k.out⟩
  clear hr k HS hX hXs h16
  go_enter Tryz.func48, Tryz.ntmps48
  go_wp2
  go_ret
  exact⟨by rw[FF.out.1];rfl,FF.out.2⟩
 ·rw[if_neg h16] at hr
  have hX16:X.size=16:=by omega
  by_cases hm:t∈y.2.1++y.2.2
  ·rw[if_pos hm] at hr
   rw[decide_eq_true hm] at HS
   have FF:Hid (r.1.1.1=170∧RzY w F d q b most r.1.1.2 r.1.2 r.2 w1):=by rw[←hr];exact⟨rfl,k.out⟩
   clear hr k hX hXs h16 hm
   go_enter Tryz.func48, Tryz.ntmps48
   go_wp2_with fail
   refine Calls.mono HS.out ?_
   rintro e w2 ⟨rfl,rfl⟩
   go_wp2
   go_ret
   exact⟨by rw[FF.out.1];rfl,FF.out.2⟩
  ·rw[if_neg hm] at hr
   rw[decide_eq_false hm] at HS
   have KK:w1.cell? ⟨b,1,none⟩=some (.int .i64 (most:Int))∧∃va vc,w1.cell? ⟨b,3,none⟩=some (.slice va (y.2.1.length+y.2.2.length) vc):=by
    obtain⟨G,v,u,z,-,-⟩:=k.out
    obtain⟨va,vc,rfl⟩:=ownsH_slice z.rs.row
    have:=z.rs.bk.c 3 _ rfl
    rw[hads_len] at this
    exact⟨z.rs.bk.c 1 _ rfl,va,vc,this⟩
   obtain⟨k1,va,vc,k3⟩:=KK
   have hyn:=hy.n
   by_cases hf:most≤y.2.1.length+y.2.2.length
   ·rw[if_pos hf] at hr
    have FF:Hid (r.1.1.1=180∧RzY w F d q b most r.1.1.2 r.1.2 r.2 w1.drew):=by rw[←hr];exact⟨rfl,RzP.later k.out (Below.refl _ _).drew⟩
    obtain⟨m,hmm⟩:∃m,y.2.1.length+y.2.2.length=m:=⟨_,rfl⟩
    rw[hmm] at k3 hf
    have g1:(most:Int)≤(m:Int):=by omega
    clear hr k hX hXs h16 hm hmm hyn
    go_enter Tryz.func48, Tryz.ntmps48
    go_wp2_with fail
    refine Calls.mono HS.out ?_
    rintro e w2 ⟨rfl,rfl⟩
    clear HS
    go_wp2_with fail
    go_region_held3 (fun w'=>w'.cell? ⟨b,1,none⟩=some (.int .i64 (most:Int))∧w'.cell? ⟨b,3,none⟩=some (.slice va m vc)) (first|exact⟨k1,k3⟩|assumption) (fail)
    go_wp2
    go_ret
    exact⟨by rw[FF.out.1];rfl,FF.out.2⟩
   ·rw[if_neg hf] at hr
    have WR:Hid _:=rswrite_any w F d q b most s x y.1 y.2.1 y.2.2 (84::t) (by omega) (by omega) (by have:=hy.e;omega) hy.z (fun u hu=>by have:=hy.t u hu;omega) hdn hl w1.drew (RzP.later k.out (Below.refl _ _).drew)
    obtain⟨⟨⟨ye,ys⟩,yx⟩,hw⟩:∃z,wrp s x (sht y.1 y.2.1 y.2.2) (84::t)=z:=⟨_,rfl⟩
    rw[hw] at hr WR
    have ADD:Hid (∀W,ye=0→RzY w F d q b most ys yx y W→Calls Tryz.prog 86 #[.pointer (some ⟨b,0,none⟩),.string X] W fun e w'=>e = .returned (.tuple #[])∧RzY w F d q b most r.1.1.2 r.1.2 r.2 w'):=fun W h0 ⟨G,v,u,z,n,f⟩=>by
     have:=rsadd_any b q most y.1 u y.2.1 y.2.2 (by omega) t W z.rs
     rw[if_neg hm] at this
     rw[hX.out]
     refine this.mono fun e w' ⟨e1,e2⟩=>⟨e1,?_⟩
     rw[←hr]
     show RzP w F d q b most ys yx (if ye=0 then _ else _:Ey).1 (if ye=0 then _ else _:Ey).2.1 (if ye=0 then _ else _:Ey).2.2 w'
     rw[if_pos h0]
     exact z.set e2 n f
    have FNO:Hid (∀W,ye≠0→RzY w F d q b most ys yx y W→r.1.1.1=ye∧RzY w F d q b most r.1.1.2 r.1.2 r.2 W):=fun W h0 z=>by
     rw[←hr]
     refine⟨rfl,?_⟩
     show RzP w F d q b most ys yx (if ye=0 then _ else _:Ey).1 (if ye=0 then _ else _:Ey).2.1 (if ye=0 then _ else _:Ey).2.2 W
     rw[if_neg h0]
     exact z
    have FOK:Hid (ye=0→r.1.1.1=0):=fun h0=>by rw[←hr];exact h0
    have HP:Hid ((⟨#[84]⟩:ByteArray)++X=st (84::t)):=by show _=_;rw[hX.out];exact st_app [84] t
    rw[←HP.out] at WR
    obtain⟨m,hmm⟩:∃m,y.2.1.length+y.2.2.length=m:=⟨_,rfl⟩
    rw[hmm] at k3 hf
    have g1:¬(most:Int)≤(m:Int):=by omega
    have h63:¬9223372036854775807 < 1+X.size:=by omega
    clear hr k hX hXs h16 hm hmm hyn hw HP
    go_enter Tryz.func48, Tryz.ntmps48
    go_wp2_with fail
    refine Calls.mono HS.out ?_
    rintro e w2 ⟨rfl,rfl⟩
    clear HS
    go_wp2_with fail
    go_region_held3 (fun w'=>w'.cell? ⟨b,1,none⟩=some (.int .i64 (most:Int))∧w'.cell? ⟨b,3,none⟩=some (.slice va m vc)) (first|exact⟨k1,k3⟩|assumption) (fail)
    clear k1 k3
    go_wp2_with fail
    refine Calls.mono WR.out ?_
    rintro e w3 ⟨rfl,z3⟩
    have J3:Hid _:=z3
    clear z3 WR
    by_cases h0:ye=0
    ·have A3:Hid _:=ADD.out w3 h0 J3.out
     have F0:Hid _:=FOK.out h0
     subst h0
     clear ADD FNO FOK J3
     go_wp2_with fail
     refine Calls.mono A3.out ?_
     rintro e w4 ⟨rfl,z4⟩
     have FF:Hid _:=z4
     clear z4 A3
     go_wp2
     go_ret
     exact⟨by rw[F0.out];rfl,FF.out⟩
    ·have FF:Hid _:=FNO.out w3 h0 J3.out
     clear ADD FNO FOK J3
     go_wp2
     go_ret
     exact⟨by rw[FF.out.1];rfl,FF.out.2⟩
set_option maxHeartbeats 2000000 in
theorem rzrot_any (w:World) (F:Nat→Prop) (d q b most:Nat) (s:St) (x:Lo) (y:Ey) (hy:Gd y) (hdn:s.down=false) (hl:s.l.length+6000≤1000000) (w1:World) (k:Hid (RzY w F d q b most s x y w1)) :
  Calls Tryz.prog 49 #[.pointer (some ⟨b,0,none⟩)] w1 fun e w'=>e = .returned (.int .i64 (rop s x y).1.1.1)∧RzY w F d q b most (rop s x y).1.1.2 (rop s x y).1.2 (rop s x y).2 w':=by
 have hyn:=hy.n
 have hye:=hy.e
 have K2:Hid (∀W s x,RzY w F d q b most s x y W→W.cell? ⟨b,2,none⟩=some (.int .i64 (y.1:Int))):=fun W s x ⟨G,v,u,z,_,_⟩=>z.rs.bk.c 2 _ rfl
 have k2:=K2.out w1 s x k.out
 obtain⟨r,hr⟩:∃r,rop s x y=r:=⟨_,rfl⟩
 rw[hr]
 unfold rop at hr
 by_cases hm:2147483647≤y.1
 ·rw[if_pos hm] at hr
  have FF:Hid (r.1.1.1=1∧RzY w F d q b most r.1.1.2 r.1.2 r.2 w1):=by rw[←hr];exact⟨rfl,k.out⟩
  obtain⟨ep,hep⟩:∃e:Int,(y.1:Int)=e:=⟨_,rfl⟩
  have g1:(2147483647:Int)≤ep:=by omega
  rw[hep] at k2
  clear hr k hm hep K2 hye hyn
  go_enter Tryz.func49, Tryz.ntmps49
  go_wp2
  go_ret
  exact⟨by rw[FF.out.1];rfl,FF.out.2⟩
 ·rw[if_neg hm] at hr
  have EP:Hid (Calls Tryz.prog 87 #[.int .i64 ((y.1:Int)+1)] w1 fun e w'=>e = .returned (.string (st (69::ben (y.1+1) 4)))∧Below w1.heap.size w1 w'):=repoch_any (y.1+1) w1
  have WR:Hid (∀W,Below w1.heap.size w1 W→_):=fun W (hb:Below w1.heap.size w1 W)=>rswrite_any w F d q b most s x y.1 y.2.1 y.2.2 (69::ben (y.1+1) 4) (by omega) (by omega) (by omega) hy.z (fun u hu=>by have:=hy.t u hu;omega) hdn hl W (RzP.later k.out hb)
  obtain⟨⟨⟨ye,ys⟩,yx⟩,hw⟩:∃z,wrp s x (sht y.1 y.2.1 y.2.2) (69::ben (y.1+1) 4)=z:=⟨_,rfl⟩
  rw[hw] at hr WR
  have ENT:Hid (∀W,ye=0→RzY w F d q b most ys yx y W→Calls Tryz.prog 88 #[.pointer (some ⟨b,0,none⟩),.int .i64 ((y.1:Int)+1)] W fun e w'=>e = .returned (.tuple #[])∧RzY w F d q b most r.1.1.2 r.1.2 r.2 w'):=fun W h0 ⟨G,v,u,z,n,f⟩=>by
   have:=rsenter_any b q most y.1 (y.1+1) u _ (by rw[hads_len];omega) (by omega) W z.rs
   rw[hads_enter y.1 y.2.1 y.2.2 (y.1+1) (by omega)] at this
   have et:tun y.1 y.2.1 y.2.2 (y.1+1)=(y.2.2,[]):=by rw[tun,if_neg (by omega),if_pos rfl]
   rw[et] at this
   refine this.mono fun e w' ⟨e1,v',z1,z2,z3⟩=>⟨e1,?_⟩
   rw[←hr]
   show RzP w F d q b most ys yx (if ye=0 then _ else _:Ey).1 (if ye=0 then _ else _:Ey).2.1 (if ye=0 then _ else _:Ey).2.2 w'
   rw[if_pos h0]
   exact z.set (y:=(y.1+1,y.2.2,[])) ⟨v',z1,z2,z3⟩ n f
  have FNO:Hid (∀W,ye≠0→RzY w F d q b most ys yx y W→r.1.1.1=ye∧RzY w F d q b most r.1.1.2 r.1.2 r.2 W):=fun W h0 z=>by
   rw[←hr]
   refine⟨rfl,?_⟩
   show RzP w F d q b most ys yx (if ye=0 then _ else _:Ey).1 (if ye=0 then _ else _:Ey).2.1 (if ye=0 then _ else _:Ey).2.2 W
   rw[if_neg h0]
   exact z
  have FOK:Hid (ye=0→r.1.1.1=0):=fun h0=>by rw[←hr];exact h0
  obtain⟨ep,hep⟩:∃e:Int,(y.1:Int)=e:=⟨_,rfl⟩
  have g1:¬(2147483647:Int)≤ep:=by omega
  have y1:IntKind.i64.wrap (ep+1)=ep+1:=by rw[IntKind.wrap_i64];omega
  rw[hep] at k2 EP ENT K2
  obtain⟨E,hE⟩:∃E,st (69::ben (y.1+1) 4)=E:=⟨_,rfl⟩
  rw[hE] at EP WR
  clear hr k hm hep hw hE hye hyn
  go_enter Tryz.func49, Tryz.ntmps49
  go_wp2_with fail
  refine Calls.mono EP.out ?_
  rintro e w2 ⟨rfl,hb2⟩
  have W2:Hid _:=WR.out w2 hb2
  clear WR EP hb2
  go_wp2_with fail
  refine Calls.mono W2.out ?_
  rintro e w3 ⟨rfl,z3⟩
  have J3:Hid _:=z3
  clear z3 W2 k2
  by_cases h0:ye=0
  ·have A3:Hid _:=ENT.out w3 h0 J3.out
   have F0:Hid _:=FOK.out h0
   have k3:=K2.out w3 ys yx J3.out
   subst h0
   clear ENT FNO FOK J3 K2
   go_wp2_with fail
   refine Calls.mono A3.out ?_
   rintro e w4 ⟨rfl,z4⟩
   have FF:Hid _:=z4
   clear z4 A3 k3
   go_wp2
   go_ret
   exact⟨by rw[F0.out];rfl,FF.out⟩
  ·have FF:Hid _:=FNO.out w3 h0 J3.out
   clear ENT FNO FOK J3 K2
   go_wp2
   go_ret
   exact⟨by rw[FF.out.1];rfl,FF.out.2⟩
end Go.Proofs.YtdcimnmebgkmjaaGreatDoor
