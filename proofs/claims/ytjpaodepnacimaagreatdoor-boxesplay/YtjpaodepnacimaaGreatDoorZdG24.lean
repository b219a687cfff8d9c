/- Parts: SnB,BpE,BpF,BpG. -/
import Derived.Test.YtjpaodepnacimaaGreatDoorZdG11
import Derived.Test.YtjpaodepnacimaaGreatDoorZdG23
import Derived.Deep.CutBlock
namespace Go.Proofs.YtjpaodepnacimaaGreatDoor
open Go.RowKit Go.Proofs.Fd Go.Proofs.Dk Go.Proofs.Lg
set_option maxRecDepth 20000
theorem sprefix_any (d c:UInt8) (t:Bs) (ht:t.length≤100000) (w:World) :
  Calls Tryz.prog 157 #[.string (st (d::t)),.string ⟨#[c]⟩] w fun e w'=>e = .returned (.bool (decide (d=c)))∧w'=w:=by
 have hs:(st (d::t)).size=t.length+1:=by rw[st_size];rfl
 have hx:(st (d::t)).extract 0 1=⟨#[d]⟩:=by rw[st_cut];rfl
 have hc:(⟨#[c]⟩:ByteArray).size=1:=rfl
 obtain⟨S,hS⟩:∃S,st (d::t)=S:=⟨_,rfl⟩
 rw[hS] at hs hx ⊢
 have l1:(1:Int)≤(S.size:Int):=by omega
 have l2:1≤S.size:=by omega
 clear hS hs ht
 by_cases e:d=c
 ·subst e
  rw[decide_eq_true rfl]
  obtain⟨C,hC⟩:∃C:ByteArray,⟨#[d]⟩=C:=⟨_,rfl⟩
  rw[hC] at hx hc ⊢
  clear hC
  go_enter Tryz.func157, Tryz.ntmps157
  go_wp2
  go_ret
  exact⟨rfl,rfl⟩
 ·rw[decide_eq_false e]
  have hne:((⟨#[d]⟩:ByteArray).toList == (⟨#[c]⟩:ByteArray).toList)=false:=by
   rw[ByteArray.toList_eq,ByteArray.toList_eq]
   exact beq_eq_false_iff_ne.2 fun h=>e (by injection h)
  obtain⟨C,hC⟩:∃C:ByteArray,⟨#[c]⟩=C:=⟨_,rfl⟩
  obtain⟨D,hD⟩:∃D:ByteArray,⟨#[d]⟩=D:=⟨_,rfl⟩
  rw[hC] at hc hne ⊢
  rw[hD] at hx hne
  clear hC hD e
  go_enter Tryz.func157, Tryz.ntmps157
  go_wp2
  go_ret
  exact⟨rfl,rfl⟩
theorem scut_any (d c:UInt8) (t:Bs) (ht:t.length≤100000) (w:World) :
  Calls Tryz.prog 107 #[.string (st (d::t)),.string ⟨#[c]⟩] w fun e w'=>e = .returned (.tuple #[.string (if d=c then st t else st (d::t)),.bool (decide (d=c))])∧w'=w:=by
 have CP:Hid (∀w,Calls Tryz.prog 137 #[.string (st (d::t)),.string ⟨#[c]⟩] w fun e w'=>e = .returned (.tuple #[.string (if d=c then st t else st (d::t)),.bool (decide (d=c))])∧w'=w):=fun w=>by
  have HP:Hid _:=sprefix_any d c t ht w
  have hs:(st (d::t)).size=t.length+1:=by rw[st_size];rfl
  have hx:(st (d::t)).extract 1 (st (d::t)).size=st t:=by
   rw[st_cut,hs,List.take_of_length_le (by rw[List.length_cons];exact Nat.le_refl _)];rfl
  have hc:(⟨#[c]⟩:ByteArray).size=1:=rfl
  by_cases e:d=c
  ·rw[if_pos e]
   rw[decide_eq_true e] at HP ⊢
   clear e
   obtain⟨S,hS⟩:∃S,st (d::t)=S:=⟨_,rfl⟩
   obtain⟨T,hT⟩:∃T,st t=T:=⟨_,rfl⟩
   obtain⟨C,hC⟩:∃C:ByteArray,⟨#[c]⟩=C:=⟨_,rfl⟩
   rw[hS] at hs hx HP ⊢
   rw[hC] at hc HP ⊢
   rw[hT] at hx ⊢
   have l1:(1:Int)≤(S.size:Int):=by omega
   have l2:1≤S.size:=by omega
   clear hS hT hC hs ht
   go_enter Tryz.func137, Tryz.ntmps137
   go_wp2_with fail
   refine Calls.mono HP.out ?_
   rintro e w1 ⟨rfl,rfl⟩
   go_wp2
   go_ret2
   exact⟨rfl,rfl⟩
  ·rw[if_neg e]
   rw[decide_eq_false e] at HP ⊢
   clear e hx
   obtain⟨S,hS⟩:∃S,st (d::t)=S:=⟨_,rfl⟩
   obtain⟨C,hC⟩:∃C:ByteArray,⟨#[c]⟩=C:=⟨_,rfl⟩
   rw[hS] at hs HP ⊢
   rw[hC] at hc HP ⊢
   clear hS hC hs ht
   go_enter Tryz.func137, Tryz.ntmps137
   go_wp2_with fail
   refine Calls.mono HP.out ?_
   rintro e w1 ⟨rfl,rfl⟩
   go_wp2
   go_ret2
   exact⟨rfl,rfl⟩
 obtain⟨S,hS⟩:∃S,st (d::t)=S:=⟨_,rfl⟩
 obtain⟨C,hC⟩:∃C:ByteArray,⟨#[c]⟩=C:=⟨_,rfl⟩
 obtain⟨z,hz⟩:∃z,decide (d=c)=z:=⟨_,rfl⟩
 obtain⟨R,hR⟩:∃R,(if d=c then st t else st (d::t))=R:=⟨_,rfl⟩
 rw[hR,hz] at CP ⊢
 rw[hS,hC] at CP ⊢
 clear hS hC hz hR ht
 go_enter Tryz.func107, Tryz.ntmps107
 go_wp2_with fail
 refine Calls.mono (CP.out _) ?_
 rintro e w1 ⟨rfl,rfl⟩
 go_wp2
 go_ret2
 exact⟨rfl,rfl⟩
end Go.Proofs.YtjpaodepnacimaaGreatDoor
namespace Go.Proofs.YtjpaodepnacimaaGreatDoor
open Go.RowKit Go.Proofs.Fd Go.Proofs.Dk Go.Proofs.Lg Go.Proofs.Bx
set_option maxRecDepth 20000
set_option maxHeartbeats 2000000 in
theorem xsput_no (K:Nat→Prop) (w:World) (S:Nat) (vs:List Value) (b:Bxs) (u:Nat) (X T:ByteArray) (hl:∀v,(b v).length≤100000) (hno:noU (u:Int)=true∨okI X.data.toList=false∨222 < T.size∨X.data.toList∈ids (b u)) (h:Hid (Shl K w S vs b)) :
  Calls Tryz.prog 108 #[.pointer (some ⟨S,0,none⟩),.int .i64 (u:Int),.string X,.string T] w fun e w'=>e = .returned (.bool false)∧Below w.heap.size w w':=by
 have US:Hid _:=xuser_any (u:Int) w
 cases hU:noU (u:Int) with
 | true =>
  rw[hU] at US
  clear h hl hno hU
  go_enter Tryz.func108, Tryz.ntmps108
  go_wp2_with fail
  refine Calls.mono US.out ?_
  rintro e w1 ⟨rfl,rfl⟩
  clear US
  go_wp2
  go_ret
  exact⟨rfl,Below.refl _ _⟩
 | false =>
  rw[hU] at US hno
  have ID:Hid _:=xid_any X w
  cases hI:okI X.data.toList with
  | false =>
   rw[hI] at ID
   clear h hl hno hU hI
   go_enter Tryz.func108, Tryz.ntmps108
   go_wp2_with fail
   refine Calls.mono US.out ?_
   rintro e w1 ⟨rfl,rfl⟩
   clear US
   go_wp2_with fail
   refine Calls.mono ID.out ?_
   rintro e w2 ⟨rfl,hb2⟩
   have FF:Hid _:=hb2
   clear ID hb2
   go_wp2
   go_ret
   exact⟨rfl,FF.out⟩
  | true =>
   rw[hI] at ID hno
   have TX:Hid (∀W,_):=fun W=>xtext_any T W
   by_cases hT:T.size≤222
   ·rw[decide_eq_true hT] at TX
    have hm:X.data.toList∈ids (b u):=by
     rcases hno with c|c|c|c
     ·cases c
     ·cases c
     ·omega
     ·exact c
    have hu:u < 64:=by unfold noU at hU;simp at hU;omega
    obtain⟨a,n,c,ev,sl,-⟩:=h.out.bv.bx u hu
    have cu:=h.out.bk.c u _ ev
    have HS:Hid (∀W,Below w.heap.size w W→Calls Tryz.prog 40 #[.slice a n c,.string X] W fun e w'=>e = .returned (.bool true)∧Below W.heap.size W w'):=fun W hb=>by
     have:=xhas_any a n c (b u) X sl.len (by have:=hl u;have:=sl.len;omega) W (sl.at_.later hb)
     rw[decide_eq_true hm] at this
     exact this
    have g0:(0:Int)≤(u:Int):=by omega
    have g64:(u:Int) < 64:=by omega
    clear h hl hno hU hI hT hm ev sl
    go_enter Tryz.func108, Tryz.ntmps108
    go_wp2_with fail
    refine Calls.mono US.out ?_
    rintro e w1 ⟨rfl,rfl⟩
    clear US
    go_wp2_with fail
    refine Calls.mono ID.out ?_
    rintro e w2 ⟨rfl,hb2⟩
    clear ID
    go_wp2_with fail
    refine Calls.mono (TX.out _) ?_
    rintro e w3 ⟨rfl,rfl⟩
    have c2:=cell_later hb2 cu
    clear TX cu
    go_wp2_with fail
    refine Calls.mono (HS.out _ hb2) ?_
    rintro e w4 ⟨rfl,hb4⟩
    have FF:Hid _:=chain hb2 hb4
    clear HS hb2 hb4 c2
    go_wp2
    go_ret
    exact⟨rfl,FF.out⟩
   ·rw[decide_eq_false hT] at TX
    clear h hl hno hU hI hT
    go_enter Tryz.func108, Tryz.ntmps108
    go_wp2_with fail
    refine Calls.mono US.out ?_
    rintro e w1 ⟨rfl,rfl⟩
    clear US
    go_wp2_with fail
    refine Calls.mono ID.out ?_
    rintro e w2 ⟨rfl,hb2⟩
    have FF:Hid _:=hb2
    clear ID hb2
    go_wp2_with fail
    refine Calls.mono (TX.out _) ?_
    rintro e w3 ⟨rfl,rfl⟩
    clear TX
    go_wp2
    go_ret
    exact⟨rfl,FF.out⟩
set_option maxHeartbeats 2000000 in
theorem xsack_no (K:Nat→Prop) (w:World) (S:Nat) (vs:List Value) (b:Bxs) (u:Nat) (X:ByteArray) (hl:∀v,(b v).length≤100000) (hno:noU (u:Int)=true∨X.data.toList ∉ ids (b u)) (h:Hid (Shl K w S vs b)) :
  Calls Tryz.prog 109 #[.pointer (some ⟨S,0,none⟩),.int .i64 (u:Int),.string X] w fun e w'=>e = .returned (.bool false)∧Below w.heap.size w w':=by
 have US:Hid _:=xuser_any (u:Int) w
 cases hU:noU (u:Int) with
 | true =>
  rw[hU] at US
  clear h hl hno hU
  go_enter Tryz.func109, Tryz.ntmps109
  go_wp2_with fail
  refine Calls.mono US.out ?_
  rintro e w1 ⟨rfl,rfl⟩
  clear US
  go_wp2
  go_ret
  exact⟨rfl,Below.refl _ _⟩
 | false =>
  rw[hU] at US hno
  have hm:X.data.toList ∉ ids (b u):=hno.resolve_left (by simp)
  have hu:u < 64:=by unfold noU at hU;simp at hU;omega
  obtain⟨a,n,c,ev,sl,-⟩:=h.out.bv.bx u hu
  have cu:=h.out.bk.c u _ ev
  have HS:Hid (Calls Tryz.prog 40 #[.slice a n c,.string X] w fun e w'=>e = .returned (.bool false)∧Below w.heap.size w w'):=by
   have:=xhas_any a n c (b u) X sl.len (by have:=hl u;have:=sl.len;omega) w sl.at_
   rw[decide_eq_false hm] at this
   exact this
  have g0:(0:Int)≤(u:Int):=by omega
  have g64:(u:Int) < 64:=by omega
  clear h hl hno hU hm ev sl
  go_enter Tryz.func109, Tryz.ntmps109
  go_wp2_with fail
  refine Calls.mono US.out ?_
  rintro e w1 ⟨rfl,rfl⟩
  clear US
  go_wp2_with fail
  refine Calls.mono HS.out ?_
  rintro e w4 ⟨rfl,hb4⟩
  have FF:Hid _:=hb4
  clear HS hb4 cu
  go_wp2
  go_ret
  exact⟨rfl,FF.out⟩
def tkB (b:Bxs) (r:Bs):Bxs:=(tkX b r).getD b
theorem ShP.stay {K:Nat→Prop} {w w':World} {S:Nat} {vs:List Value} {b:Bxs} (h:Shl K w S vs b) (hb:Below w.heap.size w w'):ShP K w S b w':=⟨vs,h.later hb,Bf.of hb⟩
theorem xsput_all (K:Nat→Prop) (w:World) (S:Nat) (vs:List Value) (b:Bxs) (u:Nat) (X T:ByteArray) (hl:∀v,(b v).length≤100000) (hK:∀z,w.heap.size≤z→K z) (h:Hid (Shl K w S vs b)) (ok:Bool) (hok:ok=(!noU (u:Int) && okI X.data.toList && decide (T.size≤222) && !decide (X.data.toList∈ids (b u)))) :
  Calls Tryz.prog 108 #[.pointer (some ⟨S,0,none⟩),.int .i64 (u:Int),.string X,.string T] w fun e w'=>e = .returned (.bool ok)∧ShP K w S (if ok=true then upB b u (b u++[(X.data.toList,T.data.toList)]) else b) w':=by
 cases ok with
 | true =>
  have hk:=hok.symm
  simp only[Bool.and_eq_true,Bool.not_eq_true',decide_eq_true_eq,decide_eq_false_iff_not] at hk
  obtain⟨⟨⟨h1,h2⟩,h3⟩,h4⟩:=hk
  have hu:u < 64:=by unfold noU at h1;simp at h1;omega
  exact xsput_any K w S vs b u hu X T h2 h3 h4 (hl u) hK h
 | false =>
  refine (xsput_no K w S vs b u X T hl ?_ h).mono fun _ _ ⟨e1,e2⟩=>⟨e1,ShP.stay h.out e2⟩
  by_cases h1:noU (u:Int)=true
  ·exact .inl h1
  ·by_cases h2:okI X.data.toList=false
   ·exact .inr (.inl h2)
   ·by_cases h3:T.size≤222
    ·by_cases h4:X.data.toList∈ids (b u)
     ·exact .inr (.inr (.inr h4))
     ·exfalso
      rw[show noU (u:Int)=false by simpa using h1,show okI X.data.toList=true by simpa using h2,decide_eq_true h3,decide_eq_false h4] at hok
      cases hok
    ·exact .inr (.inr (.inl (by omega)))
theorem xsack_all (K:Nat→Prop) (w:World) (S:Nat) (vs:List Value) (b:Bxs) (u:Nat) (X:ByteArray) (hl:∀v,(b v).length≤100000) (hK:∀z,w.heap.size≤z→K z) (h:Hid (Shl K w S vs b)) (ok:Bool) (hok:ok=(!noU (u:Int) && decide (X.data.toList∈ids (b u)))) :
  Calls Tryz.prog 109 #[.pointer (some ⟨S,0,none⟩),.int .i64 (u:Int),.string X] w fun e w'=>e = .returned (.bool ok)∧ShP K w S (if ok=true then upB b u (rmL (b u) X.data.toList) else b) w':=by
 cases ok with
 | true =>
  have hk:=hok.symm
  simp only[Bool.and_eq_true,Bool.not_eq_true',decide_eq_true_eq] at hk
  have hu:u < 64:=by have h1:=hk.1;unfold noU at h1;simp at h1;omega
  exact xsack_any K w S vs b u hu X hk.2 (hl u) hK h
 | false =>
  refine (xsack_no K w S vs b u X hl ?_ h).mono fun _ _ ⟨e1,e2⟩=>⟨e1,ShP.stay h.out e2⟩
  by_cases h1:noU (u:Int)=true
  ·exact .inl h1
  ·by_cases h4:X.data.toList∈ids (b u)
   ·exfalso
    rw[show noU (u:Int)=false by simpa using h1,decide_eq_true h4] at hok
    cases hok
   ·exact .inr h4
theorem tkX_p (b:Bxs) (x:UInt8) (t:Bs) (ht:16≤t.length):tkX b (80::x::t)=if (!noU (x.toNat:Int) && okI (t.take 16) && decide ((t.drop 16).length≤222) && !decide (t.take 16∈ids (b x.toNat)))=true then some (upB b x.toNat (b x.toNat++[(t.take 16,t.drop 16)])) else none:=by
 have eU:rU (80::x::t)=x.toNat:=rfl
 have eI:rI (80::x::t)=t.take 16:=rfl
 have eT:rT (80::x::t)=t.drop 16:=rfl
 have hlow:low (80::x::t)=!noU (x.toNat:Int):=by
  unfold low noU
  rw[eU,decide_eq_true (show 18≤(80::x::t).length by rw[List.length_cons,List.length_cons];omega),Bool.true_and,decide_eq_false (show ¬(x.toNat:Int) < 0 by omega),Bool.false_or]
  by_cases c:x.toNat < 64
  ·rw[decide_eq_true c,decide_eq_false (show ¬(64:Int)≤(x.toNat:Int) by omega)];rfl
  ·rw[decide_eq_false c,decide_eq_true (show (64:Int)≤(x.toNat:Int) by omega)];rfl
 have hA:isA (b x.toNat) (80::x::t)=false:=by
  unfold isA
  rw[decide_eq_false (show ¬(80::x::t).getD 0 0=65 by show ¬(80:UInt8)=65;decide)]
  rfl
 have hP:isP (b x.toNat) (80::x::t)=(okI (t.take 16) && decide ((t.drop 16).length≤222) && !decide (t.take 16∈ids (b x.toNat))):=by
  unfold isP
  rw[eI,eT,decide_eq_true (show (80::x::t).getD 0 0=80 from rfl),Bool.true_and]
 unfold tkX
 rw[hlow,eU,eI,eT,hP,hA]
 cases noU (x.toNat:Int)
 ·simp only[Bool.not_false,Bool.true_and,if_true]
  split
  ·rfl
  ·rfl
 ·rfl
theorem tkX_a (b:Bxs) (x:UInt8) (t:Bs) (ht:t.length=16):tkX b (65::x::t)=if (!noU (x.toNat:Int) && decide (t∈ids (b x.toNat)))=true then some (upB b x.toNat (rmL (b x.toNat) t)) else none:=by
 have eU:rU (65::x::t)=x.toNat:=rfl
 have eI:rI (65::x::t)=t:=List.take_of_length_le (show t.length≤16 by omega)
 have eT:rT (65::x::t)=[]:=List.drop_of_length_le (show t.length+1+1≤18 by omega)
 have hlow:low (65::x::t)=!noU (x.toNat:Int):=by
  unfold low noU
  rw[eU,decide_eq_true (show 18≤(65::x::t).length by rw[List.length_cons,List.length_cons];omega),Bool.true_and,decide_eq_false (show ¬(x.toNat:Int) < 0 by omega),Bool.false_or]
  by_cases c:x.toNat < 64
  ·rw[decide_eq_true c,decide_eq_false (show ¬(64:Int)≤(x.toNat:Int) by omega)];rfl
  ·rw[decide_eq_false c,decide_eq_true (show (64:Int)≤(x.toNat:Int) by omega)];rfl
 have hP:isP (b x.toNat) (65::x::t)=false:=by
  unfold isP
  rw[decide_eq_false (show ¬(65::x::t).getD 0 0=80 by show ¬(65:UInt8)=80;decide)]
  rfl
 have hA:isA (b x.toNat) (65::x::t)=decide (t∈ids (b x.toNat)):=by
  unfold isA
  rw[eI,eT,decide_eq_true (show (65::x::t).getD 0 0=65 from rfl),decide_eq_true rfl,Bool.true_and,Bool.true_and]
 unfold tkX
 rw[hlow,eU,eI,hP,hA]
 cases noU (x.toNat:Int)
 ·simp only[Bool.not_false,Bool.true_and,if_true]
  split
  ·rename_i h;cases h
  ·rfl
 ·rfl
theorem tkX_none (b:Bxs) (d:UInt8) (t:Bs) (h1:¬(d=80∧17≤t.length)) (h2:¬(d=65∧t.length=17)):tkX b (d::t)=none:=by
 unfold tkX
 by_cases hl:low (d::t)=true
 ·rw[if_pos hl]
  have h18:17≤t.length:=by
   unfold low at hl
   simp at hl
   omega
  have hP:isP (b (rU (d::t))) (d::t)=false:=by
   unfold isP
   rw[decide_eq_false (show ¬(d::t).getD 0 0=80 by show ¬d=80;exact fun e=>h1 ⟨e,h18⟩)]
   rfl
  have hA:isA (b (rU (d::t))) (d::t)=false:=by
   unfold isA
   by_cases e:d=65
   ·have:¬rT (d::t)=[]:=fun c=>by
     have:=congrArg List.length c
     unfold rT at this
     rw[List.length_drop,List.length_cons] at this
     simp at this
     exact h2 ⟨e,by omega⟩
    rw[decide_eq_false this,Bool.and_false]
    rfl
   ·rw[decide_eq_false (show ¬(d::t).getD 0 0=65 by show ¬d=65;exact e)]
    rfl
  rw[hP,hA]
  rfl
 ·rw[if_neg hl]
theorem st_ext (l:Bs) (i j:Nat):(st l).extract i j=st ((l.take j).drop i):=st_cut l i j
def optp0:Oper:={ dst:=some 20,op:=Go.Op.move (Go.Operand.tmp 0),type := 159, pos := "shelf.go:45", after:=#[],guard:=none }
def optp1:Oper:={ dst:=some 21,op:=Go.Op.move (Go.Operand.tmp 5),type := 9, pos := "shelf.go:45", after:=#[],guard:=none }
def optp2:Oper:={ dst:=some 22,op:=Go.Op.index 9 (Go.Operand.tmp 21) (Go.Operand.const (Go.Value.int Go.IntKind.i64 0)),type := 5, pos := "shelf.go:45", after:=#[{ on:=1,ground:=Go.Ground.data }],guard:=none }
def optp3:Oper:={ dst:=some 23,op:=Go.Op.convert 5 3 (Go.Operand.tmp 22),type := 3, pos := "shelf.go:45", after:=#[{ on:=2,ground:=Go.Ground.data }],guard:=none }
def optp4:Oper:={ dst:=some 24,op:=Go.Op.move (Go.Operand.tmp 5),type := 9, pos := "shelf.go:45", after:=#[],guard:=none }
def optp5:Oper:={ dst:=some 25,op:=Go.Op.slice 9 (Go.Operand.tmp 24) (some (Go.Operand.const (Go.Value.int Go.IntKind.i64 1))) (some (Go.Operand.const (Go.Value.int Go.IntKind.i64 17))) none,type := 9, pos := "shelf.go:45", after:=#[{ on:=4,ground:=Go.Ground.data }],guard:=none }
def optp6:Oper:={ dst:=some 26,op:=Go.Op.move (Go.Operand.tmp 5),type := 9, pos := "shelf.go:45", after:=#[],guard:=none }
def optp7:Oper:={ dst:=some 27,op:=Go.Op.slice 9 (Go.Operand.tmp 26) (some (Go.Operand.const (Go.Value.int Go.IntKind.i64 17))) none none,type := 9, pos := "shelf.go:45", after:=#[{ on:=6,ground:=Go.Ground.data }],guard:=none }
def optp8:Oper:={ dst:=some 28,op:=Go.Op.call { callee:=Go.Callee.value (Go.Operand.func 108),args:=#[Go.Operand.tmp 20,Go.Operand.tmp 23,Go.Operand.tmp 25,Go.Operand.tmp 27],argTypes:=#[159, 3, 9, 9] },type := 4, pos := "shelf.go:45", after:=#[{ on:=0,ground:=Go.Ground.data },{ on:=3,ground:=Go.Ground.data },{ on:=5,ground:=Go.Ground.data },{ on:=7,ground:=Go.Ground.data }],guard:=none }
def optp9:Oper:={ dst:=some 4,op:=Go.Op.assign (Go.Operand.tmp 28),type := 4, pos := "shelf.go:45", after:=#[{ on:=8,ground:=Go.Ground.data },{ on:=8,ground:=Go.Ground.chain },{ on:=0,ground:=Go.Ground.phase },{ on:=1,ground:=Go.Ground.phase },{ on:=2,ground:=Go.Ground.phase },{ on:=3,ground:=Go.Ground.phase },{ on:=4,ground:=Go.Ground.phase },{ on:=5,ground:=Go.Ground.phase },{ on:=6,ground:=Go.Ground.phase },{ on:=7,ground:=Go.Ground.phase },{ on:=8,ground:=Go.Ground.phase }],guard:=none }
def opta0:Oper:={ dst:=some 40,op:=Go.Op.move (Go.Operand.tmp 0),type := 159, pos := "shelf.go:48", after:=#[],guard:=none }
def opta1:Oper:={ dst:=some 41,op:=Go.Op.move (Go.Operand.tmp 7),type := 9, pos := "shelf.go:48", after:=#[],guard:=none }
def opta2:Oper:={ dst:=some 42,op:=Go.Op.index 9 (Go.Operand.tmp 41) (Go.Operand.const (Go.Value.int Go.IntKind.i64 0)),type := 5, pos := "shelf.go:48", after:=#[{ on:=1,ground:=Go.Ground.data }],guard:=none }
def opta3:Oper:={ dst:=some 43,op:=Go.Op.convert 5 3 (Go.Operand.tmp 42),type := 3, pos := "shelf.go:48", after:=#[{ on:=2,ground:=Go.Ground.data }],guard:=none }
def opta4:Oper:={ dst:=some 44,op:=Go.Op.move (Go.Operand.tmp 7),type := 9, pos := "shelf.go:48", after:=#[],guard:=none }
def opta5:Oper:={ dst:=some 45,op:=Go.Op.slice 9 (Go.Operand.tmp 44) (some (Go.Operand.const (Go.Value.int Go.IntKind.i64 1))) none none,type := 9, pos := "shelf.go:48", after:=#[{ on:=4,ground:=Go.Ground.data }],guard:=none }
def opta6:Oper:={ dst:=some 46,op:=Go.Op.call { callee:=Go.Callee.value (Go.Operand.func 109),args:=#[Go.Operand.tmp 40,Go.Operand.tmp 43,Go.Operand.tmp 45],argTypes:=#[159, 3, 9] },type := 4, pos := "shelf.go:48", after:=#[{ on:=0,ground:=Go.Ground.data },{ on:=3,ground:=Go.Ground.data },{ on:=5,ground:=Go.Ground.data }],guard:=none }
def opta7:Oper:={ dst:=some 4,op:=Go.Op.assign (Go.Operand.tmp 46),type := 4, pos := "shelf.go:48", after:=#[{ on:=6,ground:=Go.Ground.data },{ on:=6,ground:=Go.Ground.chain },{ on:=0,ground:=Go.Ground.phase },{ on:=1,ground:=Go.Ground.phase },{ on:=2,ground:=Go.Ground.phase },{ on:=3,ground:=Go.Ground.phase },{ on:=4,ground:=Go.Ground.phase },{ on:=5,ground:=Go.Ground.phase },{ on:=6,ground:=Go.Ground.phase }],guard:=none }
set_option maxHeartbeats 4000000 in
theorem xtake_any (K:Nat→Prop) (w:World) (S:Nat) (vs:List Value) (b:Bxs) (d:UInt8) (t:Bs) (ht:t.length≤2000) (hl:∀v,(b v).length≤100000) (hK:∀z,w.heap.size≤z→K z) (h:Hid (Shl K w S vs b)) :
  Calls Tryz.prog 67 #[.pointer (some ⟨S,0,none⟩),.string (st (d::t))] w fun e w'=>e = .returned (.bool (tkX b (d::t)).isSome)∧ShP K w S (tkB b (d::t)) w':=by
 have C1:Hid (∀W,_):=fun W=>scut_any d 80 t (by omega) W
 have C2:Hid (∀W,_):=fun W=>scut_any d 65 t (by omega) W
 have STAY:Hid (ShP K w S b w):=ShP.stay h.out (Below.refl _ _)
 have hR:(st (d::t)).size=t.length+1:=by rw[st_size];rfl
 by_cases hp:d=80∧17≤t.length
 ·obtain⟨rfl,h17⟩:=hp
  obtain⟨x,s,rfl⟩:∃x s,t=x::s:=by
   cases t with
   | nil=>simp at h17
   | cons x s=>exact⟨x,s,rfl⟩
  have hs16:16≤s.length:=by rw[List.length_cons] at h17;omega
  rw[List.length_cons] at ht
  rw[if_pos rfl,decide_eq_true rfl] at C1
  have hx:=x.toNat_lt
  have TS:(st (x::s)).size=s.length+1:=by rw[st_size];rfl
  have x1:(st (x::s)).extract 1 17=st (s.take 16):=by rw[st_ext];rfl
  have x2:(st (x::s)).extract 17 (st (x::s)).size=st (s.drop 16):=by
   rw[st_ext,TS,List.take_of_length_le (show s.length+1≤s.length+1 from Nat.le_refl _)]
   rfl
  have x0:∀hh:0 < (st (x::s)).size,(st (x::s))[0]'hh=x:=fun _=>rfl
  have E:=tkX_p b x s hs16
  obtain⟨ok,hok⟩:∃ok,(!noU (x.toNat:Int) && okI (s.take 16) && decide ((s.drop 16).length≤222) && !decide (s.take 16∈ids (b x.toNat)))=ok:=⟨_,rfl⟩
  rw[hok] at E
  have PU:Hid (∀W,Below w.heap.size w W→Calls Tryz.prog 108 #[.pointer (some ⟨S,0,none⟩),.int .i64 (x.toNat:Int),.string (st (s.take 16)),.string (st (s.drop 16))] W fun e w'=>e = .returned (.bool ok)∧ShP K w S (if ok=true then upB b x.toNat (b x.toNat++[(s.take 16,s.drop 16)]) else b) w'):=fun W hb =>
   (xsput_all K W S vs b x.toNat (st (s.take 16)) (st (s.drop 16)) hl (fun z hz=>hK z (Nat.le_trans hb.size hz)) (h.out.later hb) ok (by rw[←hok,st_size];rfl)).mono fun _ w' ⟨e1,vs',e2,e3⟩=>⟨e1,vs',e2,(Bf.of hb).trans (Nx.refl _ _) e3⟩
  have EE:Hid ((tkX b (80::x::s)).isSome=ok∧tkB b (80::x::s)=if ok=true then upB b x.toNat (b x.toNat++[(s.take 16,s.drop 16)]) else b):=by
   unfold tkB
   rw[E]
   cases ok
   ·exact⟨rfl,rfl⟩
   ·exact⟨rfl,rfl⟩
  obtain⟨bb,hbb⟩:∃bb,(if ok=true then upB b x.toNat (b x.toNat++[(s.take 16,s.drop 16)]) else b)=bb:=⟨_,rfl⟩
  rw[hbb] at PU EE
  rw[EE.out.1,EE.out.2]
  obtain⟨R,hRR⟩:∃R,st (80::x::s)=R:=⟨_,rfl⟩
  obtain⟨T,hTT⟩:∃R,st (x::s)=R:=⟨_,rfl⟩
  obtain⟨I,hII⟩:∃R,st (s.take 16)=R:=⟨_,rfl⟩
  obtain⟨Y,hYY⟩:∃R,st (s.drop 16)=R:=⟨_,rfl⟩
  rw[hTT,hII] at x1
  rw[hTT,hYY] at x2
  rw[hTT] at TS x0 C1
  rw[hRR] at C1 hR ⊢
  rw[hII,hYY] at PU
  have g1:(17:Int)≤(T.size:Int):=by omega
  have g2:17≤T.size:=by omega
  have g3:0 < T.size:=by omega
  have x0':=x0 g3
  have x0i:(0:Int) < (T.size:Int):=by omega
  clear x0 EE E hok hbb hRR hTT hII hYY C2 STAY h hl hK h17 hs16 ht hR TS
  go_enter Tryz.func67, Tryz.ntmps67
  go_wp2_with fail
  refine Calls.mono (C1.out _) ?_
  rintro e w1 ⟨rfl,rfl⟩
  have BD:Hid (Below w1.heap.size w1 w1.drew):=(Below.refl _ w1).drew
  have ew:IntKind.i64.wrap (x.toNat:Int)=(x.toNat:Int):=by rw[IntKind.wrap_i64];omega
  clear C1
  go_wp2_with fail
  refine wp_region_noPanic ?_
  refine wp_region_held_drew (S:=fun _=>True) (by kernel_rfl) (trivial) (fun hHeld => ?_)
  refine wT 0 optp0 ?_ ?_ ?_;rotate_left
  ·intro w' hSw;clear hSw;unfold optp0;first|(go_simp;done)|(go_simp;with_reducible rfl)
  simp only[optp0,Act.put,wA,wB,wC]
  refine wT 1 optp1 ?_ ?_ ?_;rotate_left
  ·intro w' hSw;clear hSw;unfold optp1;first|(go_simp;done)|(go_simp;with_reducible rfl)
  simp only[optp1,Act.put,wA,wB,wC]
  refine wT 2 optp2 ?_ ?_ ?_;rotate_left
  ·intro w' hSw;clear hSw;unfold optp2;first|(go_simp;done)|(go_simp;with_reducible rfl)
  simp only[optp2,Act.put,wA,wB,wC]
  refine wT 3 optp3 ?_ ?_ ?_;rotate_left
  ·intro w' hSw;clear hSw;unfold optp3;first|(go_simp;done)|(go_simp;with_reducible rfl)
  simp only[optp3,Act.put,wA,wB,wC]
  refine wT 4 optp4 ?_ ?_ ?_;rotate_left
  ·intro w' hSw;clear hSw;unfold optp4;first|(go_simp;done)|(go_simp;with_reducible rfl)
  simp only[optp4,Act.put,wA,wB,wC]
  refine wT 5 optp5 ?_ ?_ ?_;rotate_left
  ·intro w' hSw;clear hSw;unfold optp5;first|(go_simp;done)|(go_simp;with_reducible rfl)
  simp only[optp5,Act.put,wA,wB,wC]
  refine wT 6 optp6 ?_ ?_ ?_;rotate_left
  ·intro w' hSw;clear hSw;unfold optp6;first|(go_simp;done)|(go_simp;with_reducible rfl)
  simp only[optp6,Act.put,wA,wB,wC]
  refine wT 7 optp7 ?_ ?_ ?_;rotate_left
  ·intro w' hSw;clear hSw;unfold optp7;first|(go_simp;done)|(go_simp;with_reducible rfl)
  simp only[optp7,Act.put,wA,wB,wC]
  refine wpAnyH_ready (rs:=[8]) (by kernel_rfl) (by simp) ?_
  refine AllReadyH.cons (o:=optp8) rfl (fun KK hKK => ?_) AllReadyH.nil
  unfold optp8
  go_simp
  refine Calls.mono (PU.out _ BD.out) ?_
  rintro e w2 ⟨rfl,FF⟩
  refine hKK.out _ _ trivial (fun _ => ?_)
  clear hKK KK
  try simp only[optp8,Act.put,wA,wB,wC]
  refine wT 9 optp9 ?_ ?_ ?_;rotate_left
  ·intro w' hSw;clear hSw;unfold optp9;first|(go_simp;done)|(go_simp;with_reducible rfl)
  simp only[optp9,Act.put,wA,wB,wC]
  refine wpAnyH_done (by kernel_rfl) ?_ _
  refine NoPanic.normal ?_
  have F2:Hid _:=FF
  clear FF
  go_wp2
  go_ret
  exact⟨rfl,F2.out⟩
 ·by_cases ha:d=65∧t.length=17
  ·obtain⟨rfl,h17⟩:=ha
   obtain⟨x,s,rfl⟩:∃x s,t=x::s:=by
    cases t with
    | nil=>simp at h17
    | cons x s=>exact⟨x,s,rfl⟩
   have hs16:s.length=16:=by rw[List.length_cons] at h17;omega
   rw[if_neg (by decide),decide_eq_false (by decide)] at C1
   rw[if_pos rfl,decide_eq_true rfl] at C2
   have hx:=x.toNat_lt
   have TS:(st (x::s)).size=17:=by rw[st_size,List.length_cons,hs16]
   have x1:(st (x::s)).extract 1 (st (x::s)).size=st s:=by
    rw[st_ext,TS,List.take_of_length_le (show s.length+1≤17 by omega)]
    rfl
   have x1':(st (x::s)).extract 1 17=st s:=by rw[←TS];exact x1
   have x0:∀hh:0 < (st (x::s)).size,(st (x::s))[0]'hh=x:=fun _=>rfl
   have E:=tkX_a b x s hs16
   obtain⟨ok,hok⟩:∃ok,(!noU (x.toNat:Int) && decide (s∈ids (b x.toNat)))=ok:=⟨_,rfl⟩
   rw[hok] at E
   have PU:Hid (∀W,Below w.heap.size w W→Calls Tryz.prog 109 #[.pointer (some ⟨S,0,none⟩),.int .i64 (x.toNat:Int),.string (st s)] W fun e w'=>e = .returned (.bool ok)∧ShP K w S (if ok=true then upB b x.toNat (rmL (b x.toNat) s) else b) w'):=fun W hb =>
    (xsack_all K W S vs b x.toNat (st s) hl (fun z hz=>hK z (Nat.le_trans hb.size hz)) (h.out.later hb) ok hok.symm).mono fun _ w' ⟨e1,vs',e2,e3⟩=>⟨e1,vs',e2,(Bf.of hb).trans (Nx.refl _ _) e3⟩
   have EE:Hid ((tkX b (65::x::s)).isSome=ok∧tkB b (65::x::s)=if ok=true then upB b x.toNat (rmL (b x.toNat) s) else b):=by
    unfold tkB
    rw[E]
    cases ok
    ·exact⟨rfl,rfl⟩
    ·exact⟨rfl,rfl⟩
   obtain⟨bb,hbb⟩:∃bb,(if ok=true then upB b x.toNat (rmL (b x.toNat) s) else b)=bb:=⟨_,rfl⟩
   rw[hbb] at PU EE
   rw[EE.out.1,EE.out.2]
   obtain⟨R,hRR⟩:∃R,st (65::x::s)=R:=⟨_,rfl⟩
   obtain⟨T,hTT⟩:∃R,st (x::s)=R:=⟨_,rfl⟩
   obtain⟨I,hII⟩:∃R,st s=R:=⟨_,rfl⟩
   rw[hTT,hII] at x1 x1'
   rw[hTT] at TS x0 C2
   rw[hRR] at C1 C2 hR ⊢
   rw[hII] at PU
   have g1:(1:Int)≤(T.size:Int):=by omega
   have g2:1≤T.size:=by omega
   have g3:0 < T.size:=by omega
   have x0':=x0 g3
   have x0i:(0:Int) < (T.size:Int):=by omega
   have TSi:(T.size:Int)=17:=by omega
   clear x0 EE E hok hbb hRR hTT hII STAY h hl hK h17 hs16 ht hR hp
   go_enter Tryz.func67, Tryz.ntmps67
   go_wp2_with fail
   refine Calls.mono (C1.out _) ?_
   rintro e w1 ⟨rfl,rfl⟩
   clear C1
   go_wp2_with fail
   refine Calls.mono (C2.out _) ?_
   rintro e w1 ⟨rfl,rfl⟩
   have BD:Hid (Below w1.heap.size w1 w1.drew):=(Below.refl _ w1).drew
   have ew:IntKind.i64.wrap (x.toNat:Int)=(x.toNat:Int):=by rw[IntKind.wrap_i64];omega
   clear C2
   go_wp2_with fail
   refine wp_region_noPanic ?_
   refine wp_region_held_drew (S:=fun _=>True) (by kernel_rfl) (trivial) (fun hHeld => ?_)
   refine wT 0 opta0 ?_ ?_ ?_;rotate_left
   ·intro w' hSw;clear hSw;unfold opta0;first|(go_simp;done)|(go_simp;with_reducible rfl)
   simp only[opta0,Act.put,wA,wB,wC]
   refine wT 1 opta1 ?_ ?_ ?_;rotate_left
   ·intro w' hSw;clear hSw;unfold opta1;first|(go_simp;done)|(go_simp;with_reducible rfl)
   simp only[opta1,Act.put,wA,wB,wC]
   refine wT 2 opta2 ?_ ?_ ?_;rotate_left
   ·intro w' hSw;clear hSw;unfold opta2;first|(go_simp;done)|(go_simp;with_reducible rfl)
   simp only[opta2,Act.put,wA,wB,wC]
   refine wT 3 opta3 ?_ ?_ ?_;rotate_left
   ·intro w' hSw;clear hSw;unfold opta3;first|(go_simp;done)|(go_simp;with_reducible rfl)
   simp only[opta3,Act.put,wA,wB,wC]
   refine wT 4 opta4 ?_ ?_ ?_;rotate_left
   ·intro w' hSw;clear hSw;unfold opta4;first|(go_simp;done)|(go_simp;with_reducible rfl)
   simp only[opta4,Act.put,wA,wB,wC]
   refine wT 5 opta5 ?_ ?_ ?_;rotate_left
   ·intro w' hSw;clear hSw;unfold opta5;first|(go_simp;done)|(go_simp;with_reducible rfl)
   simp only[opta5,Act.put,wA,wB,wC]
   refine wpAnyH_ready (rs:=[6]) (by kernel_rfl) (by simp) ?_
   refine AllReadyH.cons (o:=opta6) rfl (fun KK hKK => ?_) AllReadyH.nil
   unfold opta6
   go_simp
   refine Calls.mono (PU.out _ BD.out) ?_
   rintro e w2 ⟨rfl,FF⟩
   refine hKK.out _ _ trivial (fun _ => ?_)
   clear hKK KK
   try simp only[opta6,Act.put,wA,wB,wC]
   refine wT 7 opta7 ?_ ?_ ?_;rotate_left
   ·intro w' hSw;clear hSw;unfold opta7;first|(go_simp;done)|(go_simp;with_reducible rfl)
   simp only[opta7,Act.put,wA,wB,wC]
   refine wpAnyH_done (by kernel_rfl) ?_ _
   refine NoPanic.normal ?_
   have F2:Hid _:=FF
   clear FF
   go_wp2
   go_ret
   exact⟨rfl,F2.out⟩
  ·have E:=tkX_none b d t hp ha
   have E2:tkB b (d::t)=b:=by unfold tkB;rw[E];rfl
   rw[E,E2]
   show Calls Tryz.prog _ _ _ fun e w'=>e = .returned (.bool false)∧_
   obtain⟨R,hRR⟩:∃R,st (d::t)=R:=⟨_,rfl⟩
   have TS:(st t).size=t.length:=st_size t
   obtain⟨T,hTT⟩:∃R,st t=R:=⟨_,rfl⟩
   rw[hRR] at C1 C2 ⊢
   rw[hTT] at C1 C2 TS
   by_cases d1:d=80
   ·subst d1
    rw[if_pos rfl,decide_eq_true rfl] at C1
    rw[if_neg (by decide),decide_eq_false (by decide)] at C2
    have g1:¬(17:Int)≤(T.size:Int):=by
     have:¬17≤t.length:=fun c=>hp ⟨rfl,c⟩
     omega
    clear hRR hTT TS E E2 h hl hK hp ha ht hR
    go_enter Tryz.func67, Tryz.ntmps67
    go_wp2_with fail
    refine Calls.mono (C1.out _) ?_
    rintro e w1 ⟨rfl,rfl⟩
    clear C1
    go_wp2_with fail
    refine Calls.mono (C2.out _) ?_
    rintro e w1 ⟨rfl,rfl⟩
    clear C2
    go_wp2
    go_ret
    exact⟨rfl,STAY.out⟩
   ·rw[if_neg d1,decide_eq_false d1] at C1
    by_cases d2:d=65
    ·subst d2
     rw[if_pos rfl,decide_eq_true rfl] at C2
     have g1:¬(T.size:Int)=17:=by
      have:¬t.length=17:=fun c=>ha ⟨rfl,c⟩
      omega
     clear hRR hTT TS E E2 h hl hK hp ha ht hR d1
     go_enter Tryz.func67, Tryz.ntmps67
     go_wp2_with fail
     refine Calls.mono (C1.out _) ?_
     rintro e w1 ⟨rfl,rfl⟩
     clear C1
     go_wp2_with fail
     refine Calls.mono (C2.out _) ?_
     rintro e w1 ⟨rfl,rfl⟩
     clear C2
     go_wp2
     go_ret
     exact⟨rfl,STAY.out⟩
    ·rw[if_neg d2,decide_eq_false d2] at C2
     clear hRR hTT TS E E2 h hl hK hp ha ht hR d1 d2
     go_enter Tryz.func67, Tryz.ntmps67
     go_wp2_with fail
     refine Calls.mono (C1.out _) ?_
     rintro e w1 ⟨rfl,rfl⟩
     clear C1
     go_wp2_with fail
     refine Calls.mono (C2.out _) ?_
     rintro e w1 ⟨rfl,rfl⟩
     clear C2
     go_wp2
     go_ret
     exact⟨rfl,STAY.out⟩
def zsh:List Value:=List.replicate 64 (.slice none 0 0)
theorem zsh_len:zsh.length=64:=List.length_replicate
theorem zsh_ne:zsh≠[]:=by decide
theorem bvs_zero (K:Nat→Prop) (w:World):Bvs K w zsh fun _=>[]:=⟨zsh_len,fun u hu=>⟨none,0,0,by unfold zsh;rw[List.getElem?_replicate,if_pos hu],Sli.nil w,(fun x e=>by cases e)⟩⟩
theorem infoSh:(Tryz.prog.info? 86).map (fun i=>(i.zero,i.size))=some (some (.agg zsh.toArray),64):=by kernel_rfl
theorem sizeSh:(Tryz.prog.info? 86).map (·.size)=some 64:=by kernel_rfl
theorem Bvs.one {K:Nat→Prop} {w:World} {vs:List Value} {b:Bxs} (h:Bvs K w vs b):∀v∈vs,v.oneCell'=true:=fun v hv=>by
 obtain⟨i,hi,e⟩:=List.mem_iff_getElem.1 hv
 obtain⟨a,n,c,e2,-,-⟩:=h.bx i (by rw[←h.ln];exact hi)
 rw[List.getElem?_eq_getElem hi,e] at e2
 rw[Option.some.inj e2]
 rfl
theorem load_sh {w:World} {S o:Nat} {vs:List Value} (h:w.rangeAt S o vs) (hl:vs.length=64):(Instr.loadAt 86 (.pointer (some ⟨S,o,none⟩))).run Tryz.prog w = .ok (.agg vs.toArray) w :=
 run_loadAt_mid w S o _ vs _ h Tryz.underlying86 rfl (by rw[hl];exact sizeSh)
theorem store_sh {w:World} {S o:Nat} {vs:List Value} (h:w.there S o 64) (hl:vs.length=64) (h1:∀v∈vs,v.oneCell'=true):(Instr.storeAt 86 (.pointer (some ⟨S,o,none⟩)) (.agg vs.toArray)).run Tryz.prog w = .ok () (w.setCells S o vs):=by
 have:=run_storeAt_mid (P:=Tryz.prog) w S o 86 vs.toArray (by rw[List.size_toArray,hl];exact h) (by rw[List.size_toArray,hl];exact sizeSh) (by simpa using h1)
 exact this
theorem tkX_grow {b c:Bxs} {r:Bs} (h:tkX b r=some c) (v:Nat):(c v).length≤(b v).length+1:=by
 unfold tkX at h
 split at h
 ·split at h
  ·cases h
   by_cases e:v=rU r
   ·subst e;rw[upB_same,List.length_append];simp
   ·rw[upB_other _ _ e];omega
  ·split at h
   ·cases h
    by_cases e:v=rU r
    ·subst e;rw[upB_same];have:=rmL_le (b (rU r)) (rI r);omega
    ·rw[upB_other _ _ e];omega
   ·cases h
 ·cases h
theorem alloc_sh (w:World):(Instr.alloc 86 true (.tuple #[])).run Tryz.prog w = .ok (.pointer (some ⟨w.heap.size,0,none⟩)) (w.alloc (.cells zsh.toArray 86)):=by
 obtain⟨i0,hi,hz0,hz1⟩:∃i0,Tryz.prog.info? 86 = some i0∧i0.zero=some (.agg zsh.toArray)∧i0.size=64:=by
  have h:=infoSh
  cases hq:Tryz.prog.info? 86 with
  | none=>rw[hq] at h;cases h
  | some i0 =>
   rw[hq] at h
   simp only[Option.map_some,Option.some.injEq,Prod.mk.injEq] at h
   exact⟨i0,rfl,h.1,h.2⟩
 simp[Instr.alloc,newVar,newRow,zeroValue,typeInfo,hi,hz0,Value.cells]
theorem wp_build_run {P:Program} {o:Oper} {a:Act} {w:World} {K:Act→World→Prop} {Q:Exit→Act→World→Prop} (t:TypeId) (parts:Array (Nat×Operand)) (ho:o.op = .build t parts) (vs:Array (Nat×Value)) (hv:(parts.map fun (i,x)=>(i,a.eval x))=vs)
  (v:Value) (hr:(Instr.build t vs).run P w = .ok v w) (h:K (a.put o.dst v) w):o.wp P a w K Q:=by
 unfold Oper.wp execOp
 simp only[ho,hv,Sem.run_bind,hr,Result.andThen_ok]
 exact h
theorem build_sh (w:World):(Instr.build 86 #[]).run Tryz.prog w = .ok (.agg zsh.toArray) w:=by kernel_rfl
def BhP (K:Nat→Prop) (w:World) (o:Option Bxs) (e:Ending) (w':World):Prop :=
 ∃vs,e = .returned (.tuple #[.agg vs.toArray,.bool o.isSome])∧Bvs K w' vs (o.getD fun _=>[])∧Below w.heap.size w w'
theorem tksX_take (b:Bxs) (rs:List Bs) (k:Nat) (hk:k < rs.length) (c:Bxs) (h:tksX b (rs.take k)=some c):tksX b (rs.take (k+1))=tkX c rs[k]:=by
 rw[List.take_succ_eq_append_getElem hk,tksX_app,h]
 show (tkX c rs[k]).bind (fun c=>tksX c [])=_
 cases tkX c rs[k] <;> rfl
theorem tksX_stop (b:Bxs) (rs:List Bs) (k:Nat) (h:tksX b (rs.take k)=none):tksX b rs=none:=by
 have:=tksX_app (rs.take k) b (rs.drop k)
 rw[List.take_append_drop,h] at this
 exact this
structure Bhl (K:Nat→Prop) (w:World) (b:Bxs) (rs:List Bs) (k:Nat) (wr:World):Prop where
 lp:∃c vs,tksX b (rs.take k)=some c∧Shl (fun z=>K z∧z≠w.heap.size∧z≠w.heap.size+1) wr w.heap.size vs c∧∀v,(c v).length≤(b v).length+k
 zb:Blk wr (w.heap.size+1) zsh
 bw:Below w.heap.size w wr
set_option maxHeartbeats 4000000 in
theorem xbehind_any (Kq:Nat→Prop) (w:World) (vs:List Value) (b:Bxs) (a:Option Addr) (n c:Nat) (rs:List Bs) (hn:rs.length=n) (hnb:n≤50000) (hr:∀r∈rs,1≤r.length∧r.length≤2000) (hl:∀v,(b v).length≤50000) (hK:∀z,w.heap.size≤z→Kq z) (h:Hid (Bvs Kq w vs b)) (tx:Hid (TxAt w a rs)) :
  Calls Tryz.prog 36 #[.agg vs.toArray,.slice a n c] w fun e w'=>BhP Kq w (tksX b rs) e w':=by
 have HN:Hid (rs.length=n):=hn
 have HR:Hid (∀r∈rs,1≤r.length∧r.length≤2000):=hr
 have vne:vs≠[]:=fun e=>by have:=h.out.ln;rw[e] at this;simp at this
 have nb1:=nb w (.cells vs.toArray 86)
 have nb2:=nb (w.alloc (.cells vs.toArray 86)) (.cells zsh.toArray 86)
 have es:(w.alloc (.cells vs.toArray 86)).heap.size=w.heap.size+1:=by simp
 have I0:Hid (Bhl Kq w b rs 0 ((w.alloc (.cells vs.toArray 86)).alloc (.cells zsh.toArray 86))):=by
  refine⟨⟨b,vs,rfl,⟨(Blk.new w vs _ vne).later nb2,?_,fun z=>z.2.1 rfl⟩,fun v=>Nat.le_refl _⟩,?_,chain nb1 nb2⟩
  ·exact (h.out.imp (K':=fun z=>Kq z∧z≠w.heap.size∧z≠w.heap.size+1) (fun z hz hlt=>⟨hz,by omega,by omega⟩)).later (chain nb1 nb2)
  ·have:=Blk.new (w.alloc (.cells vs.toArray 86)) zsh 86 zsh_ne
   rw[es] at this
   exact this
 have TK:Hid (∀(W:World) (k:Nat) (hk:k < rs.length) (o:Bool),Bhl Kq w b rs k W→k≤50000→Calls Tryz.prog 67 #[.pointer (some ⟨w.heap.size,0,none⟩),.string (st rs[k])] W fun e w'=>∃o,e = .returned (.bool o)∧(o=true→Hid (Bhl Kq w b rs (k+1) w'))∧(o=false→Hid (tksX b rs=none∧Blk w' (w.heap.size+1) zsh∧Below w.heap.size w w'))):=fun W k hk _ z hk5=>by
  obtain⟨⟨cc,vv,e1,sh,gl⟩,zb,bw⟩:=z
  obtain⟨r1,r2⟩:=HR.out _ (List.getElem_mem hk)
  have es2:=tksX_take b rs k hk cc e1
  have hS:=sh.bk.lt
  have hZ:=zb.lt
  obtain⟨x,t,hxt⟩:∃x t,rs[k]=x::t:=by
   cases hq:rs[k] with
   | nil=>rw[hq] at r1;simp at r1
   | cons x t=>exact⟨x,t,rfl⟩
  rw[hxt] at r2 es2 ⊢
  have hbw:=bw.size
  refine (xtake_any _ W w.heap.size vv cc x t (by rw[List.length_cons] at r2;omega) (fun v=>by have:=gl v;have:=hl v;omega) (fun z hz=>⟨hK z (by omega),by omega,by omega⟩) sh).mono ?_
  rintro e w' ⟨rfl,vs',s1,s2⟩
  refine⟨_,rfl,fun ho => ?_,fun ho => ?_⟩
  ·obtain⟨c2,hc2⟩:=Option.isSome_iff_exists.1 ho
   have:tkB cc (x::t)=c2:=by unfold tkB;rw[hc2];rfl
   rw[this] at s1
   exact⟨⟨c2,vs',es2.trans hc2,s1,fun v=>by have:=tkX_grow hc2 v;have:=gl v;omega⟩,zb.bf s2 (by intro e;omega),bw.trans (s2.below (fun g e=>by rw[e];exact Nat.le_refl _) hbw)⟩
  ·have hno:tkX cc (x::t)=none:=by
    cases hq:tkX cc (x::t) with
    | none=>rfl
    | some y=>rw[hq] at ho;cases ho
   exact⟨tksX_stop b rs (k+1) (es2.trans hno),zb.bf s2 (by intro e;omega),bw.trans (s2.below (fun g e=>by rw[e];exact Nat.le_refl _) hbw)⟩
 have FIN:Hid (∀W,Bhl Kq w b rs n W→∃vs',W.rangeAt w.heap.size 0 vs'∧(Instr.loadAt 86 (.pointer (some ⟨w.heap.size,0,none⟩))).run Tryz.prog W = .ok (.agg vs'.toArray) W∧(Instr.storeAt 86 (.pointer (some ⟨w.heap.size+1,0,none⟩)) (.agg vs'.toArray)).run Tryz.prog W = .ok () (W.setCells (w.heap.size+1) 0 vs')∧Hid (vs'.length=64∧(W.setCells (w.heap.size+1) 0 vs').rangeAt (w.heap.size+1) 0 vs'∧BhP Kq w (tksX b rs) (.returned (.tuple #[.agg vs'.toArray,.bool true])) (W.setCells (w.heap.size+1) 0 vs'))):=fun W z=>by
  obtain⟨⟨cc,vv,e1,sh,gl⟩,zb,bw⟩:=z
  have hlen:=sh.bv.ln
  have ht:W.there (w.heap.size+1) 0 64:=by have:=zb.there;rw[zsh_len] at this;exact this
  rw[List.take_of_length_le (by rw[HN.out];exact Nat.le_refl _)] at e1
  have bf:Bf (fun z=>z=w.heap.size+1) W (W.setCells (w.heap.size+1) 0 vv):=Bf.sets (fun z=>z=w.heap.size+1) (w.heap.size+1) rfl vv 0 W
  refine⟨vv,sh.bk.r,load_sh sh.bk.r hlen,store_sh ht hlen sh.bv.one,hlen,World.rangeAt_setCells_same W _ 0 vv (by rw[hlen];exact ht),vv,by rw[e1];rfl,?_,bw.trans (bf.below (fun g e=>by rw[e];omega) bw.size)⟩
  rw[e1]
  exact ((sh.bv.bf bf (fun z hz e=>hz.2.2 e)).imp fun z hz _=>hz.1)
 have NOP:Hid (∀W,tksX b rs=none∧Blk W (w.heap.size+1) zsh∧Below w.heap.size w W→(Instr.storeAt 86 (.pointer (some ⟨w.heap.size+1,0,none⟩)) (.agg zsh.toArray)).run Tryz.prog W = .ok () (W.setCells (w.heap.size+1) 0 zsh)∧Hid ((W.setCells (w.heap.size+1) 0 zsh).rangeAt (w.heap.size+1) 0 zsh∧BhP Kq w (tksX b rs) (.returned (.tuple #[.agg zsh.toArray,.bool false])) (W.setCells (w.heap.size+1) 0 zsh))):=fun W ⟨e1,zb,bw⟩=>by
  have ht:W.there (w.heap.size+1) 0 64:=by have:=zb.there;rw[zsh_len] at this;exact this
  have bf:Bf (fun z=>z=w.heap.size+1) W (W.setCells (w.heap.size+1) 0 zsh):=Bf.sets (fun z=>z=w.heap.size+1) (w.heap.size+1) rfl zsh 0 W
  refine⟨store_sh ht zsh_len (bvs_zero Kq W).one,World.rangeAt_setCells_same W _ 0 zsh (by rw[zsh_len];exact ht),zsh,by rw[e1];rfl,?_,bw.trans (bf.below (fun g e=>by rw[e];omega) bw.size)⟩
  rw[e1]
  exact bvs_zero Kq _
 have TXL:Hid (∀W,Below w.heap.size w W→TxAt W a rs):=fun W hb=>tx.out.later hb
 have AS:Hid ((Instr.alloc 86 true (.tuple #[])).run Tryz.prog (w.alloc (.cells vs.toArray 86)) = .ok (.pointer (some ⟨w.heap.size+1,0,none⟩)) ((w.alloc (.cells vs.toArray 86)).alloc (.cells zsh.toArray 86))):=by
  have:=alloc_sh (w.alloc (.cells vs.toArray 86))
  rw[es] at this
  exact this
 clear h tx hn hr hl hK nb1 nb2 es vne
 go_enter Tryz.func36, Tryz.ntmps36
 go_upto_region 0 with fail
 refine wp_region_lit ?_
 refine wpList_plain rfl (fun K2 hK2 => ?_)
 go_simp
 refine hK2 _ _ ?_
 clear hK2 K2
 refine wpList_plain rfl (fun K2 hK2=>wp_alloc_run _ rfl _ _ AS.out (hK2 _ _ ?_))
 refine wpList_plain rfl (fun K2 hK2 => ?_)
 go_simp
 refine hK2 _ _ ?_
 clear hK2 K2
 refine wpList_nil ?_
 obtain⟨W2,hW2⟩:∃W,(w.alloc (.cells vs.toArray 86)).alloc (.cells zsh.toArray 86)=W:=⟨_,rfl⟩
 try simp only[Act.put,wA,wB,wC]
 rw[hW2] at I0 ⊢
 clear AS hW2
 obtain⟨A,hA⟩:∃A,w.heap.size=A:=⟨_,rfl⟩
 obtain⟨Z,hZ⟩:∃Z,A+1=Z:=⟨_,rfl⟩
 rw[hA,hZ] at NOP FIN
 rw[hA] at TK
 rw[hZ] at TK
 rw[hA,hZ]
 go_wp2_with fail
 go_loopw [10] (fun i wr=>∃k:Nat,k≤n∧i = .int .i64 (k:Int)∧Hid (Bhl Kq w b rs k wr)) (fun i wr=>n - (intOf i).toNat)
 case atStart=>exact⟨0,Nat.zero_le _,rfl,I0.out⟩
 case round =>
  obtain⟨k,hk,rfl,I⟩:=hrel
  clear I0
  by_cases hlt:k < n
  ·have hkl:k < rs.length:=by rw[HN.out];exact hlt
   have g1:(k:Int) < (n:Int):=by omega
   obtain⟨b1,o1,rfl,c1⟩:=(TXL.out _ I.out.bw) k hkl
   have T1:Hid _:=TK.out wr k hkl true I.out (by omega)
   unfold sv at c1
   obtain⟨R,hR⟩:∃R,st rs[k]=R:=⟨_,rfl⟩
   rw[hR] at c1 T1
   clear hR I
   go_wp2_with fail
   refine Calls.mono T1.out ?_
   rintro e w3 ⟨o,rfl,y1,y2⟩
   clear T1 c1
   cases o with
   | true =>
    have J:Hid _:=(y1 rfl).out
    clear y1 y2
    go_wp2
    go_roundw
    case rel=>exact⟨k+1,by omega,by go_num,J.out⟩
    case measure=>simp[intOf];omega
   | false =>
    obtain⟨S1,F1⟩:=NOP.out _ (y2 rfl).out
    have F2:Hid _:=F1.out
    have S2:Hid _:=S1
    clear F1 y1 y2 S1 FIN NOP
    go_upto_region 5 with fail
    refine wp_region_lit ?_
    refine wpList_plain rfl (fun K2 hK2=>wp_build_run _ _ rfl #[] (by simp) _ (build_sh _) (hK2 _ _ ?_))
    refine wpList_plain rfl (fun K2 hK2=>wp_store_run _ _ _ rfl _ rfl _ rfl _ S2.out (hK2 _ _ ?_))
    refine wpList_plain rfl (fun K2 hK2 => ?_)
    go_simp
    refine hK2 _ _ ?_
    clear hK2 K2
    refine wpList_nil ?_
    obtain⟨W5,hW5⟩:∃W,w3.setCells Z 0 zsh=W:=⟨_,rfl⟩
    rw[hW5] at F2 ⊢
    clear S2 hW5
    go_wp2
    refine bodyPost_ret (v := .tuple #[.agg zsh.toArray,.bool false]) ?_ rfl ?_
    ·exact res_c2 Tryz.results36 _ _ Z _ _ (by kernel_rfl) (by kernel_rfl) (run_loadVar_mid _ Z 0 86 zsh _ F2.out.1 Tryz.underlying86 rfl (by rw[zsh_len];exact sizeSh))
    ·exact F2.out.2
  ·have hkn:k=n:=by omega
   subst hkn
   have g1:¬(k:Int) < (k:Int):=by omega
   obtain⟨vs',-,L1,S1,F1⟩:=FIN.out _ I.out
   have F2:Hid _:=F1.out
   have L2:Hid _:=L1
   have S2:Hid _:=S1
   clear F1 FIN NOP TK L1 S1 I
   go_upto_region 7 with fail
   refine wp_region_lit ?_
   refine wpList_plain rfl (fun K2 hK2=>wp_load_run _ _ rfl _ rfl _ L2.out (hK2 _ _ ?_))
   refine wpList_plain rfl (fun K2 hK2=>wp_store_run _ _ _ rfl _ rfl _ rfl _ S2.out (hK2 _ _ ?_))
   refine wpList_plain rfl (fun K2 hK2 => ?_)
   go_simp
   refine hK2 _ _ ?_
   clear hK2 K2
   refine wpList_nil ?_
   obtain⟨W5,hW5⟩:∃W,wr.setCells Z 0 vs'=W:=⟨_,rfl⟩
   rw[hW5] at F2 ⊢
   clear S2 L2 hW5
   go_wp2
   refine bodyPost_ret (v := .tuple #[.agg vs'.toArray,.bool true]) ?_ rfl ?_
   ·exact res_c2 Tryz.results36 _ _ Z _ _ (by kernel_rfl) (by kernel_rfl) (run_loadVar_mid _ Z 0 86 vs' _ F2.out.2.1 Tryz.underlying86 rfl (by rw[F2.out.1];exact sizeSh))
   ·exact F2.out.2.2
end Go.Proofs.YtjpaodepnacimaaGreatDoor
