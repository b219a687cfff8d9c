/- Parts: SzF,LsE,SnE,SnF. -/
import Derived.Test.YtdcimnmebgkmjaaGreatDoorZuG29
import Derived.Test.YtdcimnmebgkmjaaGreatDoorZuG21
import Derived.Test.YtdcimnmebgkmjaaGreatDoorZuG26
import Derived.Test.YtdcimnmebgkmjaaGreatDoorZuG27
namespace Go.Proofs.YtdcimnmebgkmjaaGreatDoor
open Go.RowKit Go.Proofs.Fd Go.Proofs.Dk Go.Proofs.Lg
set_option maxRecDepth 20000
theorem scut_nil (c:UInt8) (w:World) :
  Calls Tryz.prog 106 #[.string (st []),.string ⟨#[c]⟩] w fun e w'=>e = .returned (.tuple #[.string (st []),.bool false])∧w'=w:=by
 have hs:(st []).size=0:=by rw[st_size];rfl
 have hc:(⟨#[c]⟩:ByteArray).size=1:=rfl
 obtain⟨S,hS⟩:∃S,st []=S:=⟨_,rfl⟩
 obtain⟨C,hC⟩:∃C:ByteArray,⟨#[c]⟩=C:=⟨_,rfl⟩
 rw[hS] at hs ⊢
 rw[hC] at hc ⊢
 clear hS hC
 have HP:Hid (∀w,Calls Tryz.prog 141 #[.string S,.string C] w fun e w'=>e = .returned (.bool false)∧w'=w):=fun w=>by
  go_enter Tryz.func141, Tryz.ntmps141
  go_wp2
  go_ret
  exact⟨rfl,rfl⟩
 have CP:Hid (∀w,Calls Tryz.prog 126 #[.string S,.string C] w fun e w'=>e = .returned (.tuple #[.string S,.bool false])∧w'=w):=fun w=>by
  go_enter Tryz.func126, Tryz.ntmps126
  go_wp2_with fail
  refine Calls.mono (HP.out _) ?_
  rintro e w1 ⟨rfl,rfl⟩
  go_wp2
  go_ret2
  exact⟨rfl,rfl⟩
 go_enter Tryz.func106, Tryz.ntmps106
 go_wp2_with fail
 refine Calls.mono (CP.out _) ?_
 rintro e w1 ⟨rfl,rfl⟩
 go_wp2
 go_ret2
 exact⟨rfl,rfl⟩
theorem scut_no (r:Bs) (c:UInt8) (hr:r.length≤100000) (h:r.head?≠some c) (w:World) :
  Calls Tryz.prog 106 #[.string (st r),.string ⟨#[c]⟩] w fun e w'=>e = .returned (.tuple #[.string (st r),.bool false])∧w'=w:=by
 match r,hr,h with
 | [],_,_=>exact scut_nil c w
 | d::t,hr,h =>
  have hd:¬d=c:=fun e=>h (by rw[e];rfl)
  have:=scut_any d c t (by rw[List.length_cons] at hr;omega) w
  rw[if_neg hd,decide_eq_false hd] at this
  exact this
theorem scut_yes (r:Bs) (c:UInt8) (hr:r.length≤100000) (h:r.head?=some c) (w:World) :
  Calls Tryz.prog 106 #[.string (st r),.string ⟨#[c]⟩] w fun e w'=>e = .returned (.tuple #[.string (st r.tail),.bool true])∧w'=w:=by
 match r,hr,h with
 | [],_,h=>cases h
 | d::t,hr,h =>
  have hd:d=c:=by injection h
  have:=scut_any d c t (by rw[List.length_cons] at hr;omega) w
  rw[if_pos hd,decide_eq_true hd] at this
  exact this
set_option maxHeartbeats 1000000 in
theorem etake_no (b:Nat) (r:Bs) (hr:r.length≤2000) (h1:¬(r.length=17∧r.head?=some 84)) (h2:¬(r.length=5∧r.head?=some 69)) (w:World) :
  Calls Tryz.prog 78 #[.pointer (some ⟨b,1,none⟩),.string (st r)] w fun e w'=>e = .returned (.bool false)∧w'=w:=by
 have hs:(st r.tail).size=r.length - 1:=by rw[st_size,List.length_tail]
 by_cases a:r.head?=some 84
 ·have C1:Hid _:=scut_yes r 84 (by omega) a w
  have C2:Hid _:=scut_no r 69 (by omega) (by rw[a];decide) w
  have hl:0 < r.length:=by cases r with
   | nil=>cases a
   | cons=>simp
  have g1:¬((st r.tail).size:Int)=16:=fun c=>h1 ⟨by omega,a⟩
  obtain⟨S,hS⟩:∃S,st r=S:=⟨_,rfl⟩
  obtain⟨T,hT⟩:∃S,st r.tail=S:=⟨_,rfl⟩
  rw[hS] at C1 C2 ⊢
  rw[hT] at C1 g1
  clear hS hT hs a h1 h2 hr hl
  go_enter Tryz.func78, Tryz.ntmps78
  go_wp2_with fail
  refine Calls.mono C1.out ?_
  rintro e w1 ⟨rfl,rfl⟩
  clear C1
  go_wp2_with fail
  refine Calls.mono C2.out ?_
  rintro e w1 ⟨rfl,rfl⟩
  clear C2
  go_wp2
  go_ret
  exact⟨rfl,rfl⟩
 ·have C1:Hid _:=scut_no r 84 (by omega) a w
  by_cases c:r.head?=some 69
  ·have C2:Hid _:=scut_yes r 69 (by omega) c w
   have hl:0 < r.length:=by cases r with
    | nil=>cases c
    | cons=>simp
   have g1:¬((st r.tail).size:Int)=4:=fun e=>h2 ⟨by omega,c⟩
   obtain⟨S,hS⟩:∃S,st r=S:=⟨_,rfl⟩
   obtain⟨T,hT⟩:∃S,st r.tail=S:=⟨_,rfl⟩
   rw[hS] at C1 C2 ⊢
   rw[hT] at C2 g1
   clear hS hT hs a c h1 h2 hr hl
   go_enter Tryz.func78, Tryz.ntmps78
   go_wp2_with fail
   refine Calls.mono C1.out ?_
   rintro e w1 ⟨rfl,rfl⟩
   clear C1
   go_wp2_with fail
   refine Calls.mono C2.out ?_
   rintro e w1 ⟨rfl,rfl⟩
   clear C2
   go_wp2
   go_ret
   exact⟨rfl,rfl⟩
  ·have C2:Hid _:=scut_no r 69 (by omega) c w
   obtain⟨S,hS⟩:∃S,st r=S:=⟨_,rfl⟩
   rw[hS] at C1 C2 ⊢
   clear hS hs a c h1 h2 hr
   go_enter Tryz.func78, Tryz.ntmps78
   go_wp2_with fail
   refine Calls.mono C1.out ?_
   rintro e w1 ⟨rfl,rfl⟩
   clear C1
   go_wp2_with fail
   refine Calls.mono C2.out ?_
   rintro e w1 ⟨rfl,rfl⟩
   clear C2
   go_wp2
   go_ret
   exact⟨rfl,rfl⟩
set_option maxHeartbeats 1000000 in
theorem etake_old (b q ep most:Nat) (va vh:Value) (ah he:List Bs) (h1:ah.length≤100000) (h2:he.length≤100000) (t:Bs) (ht:t.length=16) (hm:t∈ah++he) (w:World) (h:Hid (Es w b q ep most va vh ah he)) :
  Calls Tryz.prog 78 #[.pointer (some ⟨b,1,none⟩),.string (st (84::t))] w fun e w'=>e = .returned (.bool true)∧w'=w:=by
 have C1:Hid _:=scut_any 84 84 t (by omega) w
 rw[if_pos rfl,decide_eq_true rfl] at C1
 have HS:Hid _:=ehas_any b q ep most va vh ah he h1 h2 (st t) w h
 rw[st_data,decide_eq_true hm] at HS
 have hs:(st t).size=16:=by rw[st_size,ht]
 obtain⟨T,hT⟩:∃T,st t=T:=⟨_,rfl⟩
 obtain⟨S,hS⟩:∃S,st (84::t)=S:=⟨_,rfl⟩
 rw[hT] at C1 HS hs
 rw[hS] at C1 ⊢
 have A1:Hid (Calls Tryz.prog 107 #[.pointer (some ⟨b,1,none⟩),.string T] w fun e w'=>e = .returned (.tuple #[])∧w'=w):=by
  clear C1 hT hS h hm
  go_enter Tryz.func107, Tryz.ntmps107
  go_wp2_with fail
  refine Calls.mono HS.out ?_
  rintro e w1 ⟨rfl,rfl⟩
  clear HS
  go_wp2
  go_end0
  exact⟨rfl,rfl⟩
 clear hT hS h hm HS
 go_enter Tryz.func78, Tryz.ntmps78
 go_wp2_with fail
 refine Calls.mono C1.out ?_
 rintro e w1 ⟨rfl,rfl⟩
 clear C1
 go_wp2_with fail
 refine Calls.mono A1.out ?_
 rintro e w2 ⟨rfl,rfl⟩
 clear A1
 go_wp2
 go_ret
 exact⟨rfl,rfl⟩
theorem Es.far {w:World} {b q ep most:Nat} {va vh:Value} {ah he:List Bs} (h:Es w b q ep most va vh ah he) (k:Nat) :
  Es (((w.setCell ⟨b,2,none⟩ (.slice none 0 0)).setCell ⟨b,3,none⟩ (.slice none 0 0)).setCell ⟨b,1,none⟩ (.int .i64 (k:Int))) b q k most (.slice none 0 0) (.slice none 0 0) [] [] :=
 ⟨((h.bk.set 2 (show 2 < 5 by decide) (.slice none 0 0)).set 3 (show 3 < 5 by decide) (.slice none 0 0)).set 1 (show 1 < 5 by decide) (.int .i64 (k:Int)),owns_nilS _,owns_nilS _,(fun c=>by cases c),(fun c=>by cases c),fun g _ c=>by cases c⟩
def TuP (w:World) (b q most:Nat) (va vh:Value) (y:Ey) (w':World):Prop:=∃va' vh',Es w' b q y.1 most va' vh' y.2.1 y.2.2∧Bf (EFt b va vh) w w'∧Nx w (EFt b va vh) (EFt b va' vh')
set_option maxHeartbeats 1000000 in
theorem eturn_no (b q ep most:Nat) (va vh:Value) (ah he:List Bs) (n:Nat) (hn:n < ep∨2147483647 < n) (w:World) (h:Hid (Es w b q ep most va vh ah he)) :
  Calls Tryz.prog 108 #[.pointer (some ⟨b,1,none⟩),.int .i64 (n:Int)] w fun e w'=>e = .returned (.bool false)∧w'=w:=by
 have k1:=h.out.bk.c 1 _ rfl
 obtain⟨z,hz⟩:∃z:Int,(n:Int)=z:=⟨_,rfl⟩
 obtain⟨y,hy⟩:∃z:Int,(ep:Int)=z:=⟨_,rfl⟩
 rw[hy] at k1
 rw[hz]
 by_cases c:z < y
 ·clear h hz hy hn
  go_enter Tryz.func108, Tryz.ntmps108
  go_wp2
  go_ret
  exact⟨rfl,rfl⟩
 ·have g:2147483647 < z:=by omega
  clear h hz hy hn
  go_enter Tryz.func108, Tryz.ntmps108
  go_wp2
  go_ret
  exact⟨rfl,rfl⟩
set_option maxHeartbeats 1000000 in
theorem eturn_all (b q ep most:Nat) (va vh:Value) (ah he:List Bs) (n:Nat) (h1:ep≤n) (h2:n≤2147483647) (w:World) (h:Hid (Es w b q ep most va vh ah he)) :
  Calls Tryz.prog 108 #[.pointer (some ⟨b,1,none⟩),.int .i64 (n:Int)] w fun e w'=>e = .returned (.bool true)∧TuP w b q most va vh (n,tun ep ah he n) w':=by
 by_cases e1:n=ep+1
 ·subst e1
  have et:tun ep ah he (ep+1)=(he,[]):=by unfold tun;rw[if_neg (by omega),if_pos rfl]
  rw[et]
  exact (eturn_any b q ep most va vh ah he h2 w h).mono fun _ _ ⟨x1,x2,x3,x4⟩=>⟨x1,_,_,x2,x3,x4⟩
 have k1:=h.out.bk.c 1 _ rfl
 have k2:=h.out.bk.c 2 _ rfl
 have k3:=h.out.bk.c 3 _ rfl
 have kf:=h.out.bk.f
 by_cases e0:n=ep
 ·subst e0
  have et:tun n ah he n=(ah,he):=if_pos rfl
  rw[et]
  have E2:Hid (TuP w b q most va vh (n,ah,he) (w.setCell ⟨b,1,none⟩ (.int .i64 (n:Int)))):=⟨va,vh,h.out.setEp n,bf_set (Bf.refl _ _) (.inl rfl),Nx.refl _ _⟩
  have g1:¬(n:Int) < (n:Int):=by omega
  have g3:¬(2147483647:Int) < (n:Int):=by omega
  have g2:(n:Int) - (n:Int)=0:=by omega
  obtain⟨z,hz⟩:∃z:Int,(n:Int)=z:=⟨_,rfl⟩
  rw[hz] at g1 g2 g3 E2 k1 ⊢
  clear h hz e1 et
  go_enter Tryz.func108, Tryz.ntmps108
  go_wp2
  go_ret
  exact⟨rfl,E2.out⟩
 ·have et:tun ep ah he n=([],[]):=by unfold tun;rw[if_neg e0,if_neg e1]
  rw[et]
  have E2:Hid (TuP w b q most va vh (n,[],[]) (((w.setCell ⟨b,2,none⟩ (.slice none 0 0)).setCell ⟨b,3,none⟩ (.slice none 0 0)).setCell ⟨b,1,none⟩ (.int .i64 (n:Int)))):=⟨_,_,h.out.far n,bf_set (bf_set (bf_set (Bf.refl _ _) (.inl rfl)) (.inl rfl)) (.inl rfl),fun x hx=>by
   rcases hx with e|e|e
   ·exact .inl (.inl e)
   ·cases e
   ·cases e⟩
  have g1:¬(n:Int) < (ep:Int):=by omega
  have g3:¬(2147483647:Int) < (n:Int):=by omega
  obtain⟨f,hf⟩:∃f:Int,(n:Int) - (ep:Int)=f:=⟨_,rfl⟩
  have g4:¬f=0:=by omega
  have g5:¬f=1:=by omega
  have g6:IntKind.i64.wrap f=f:=by rw[IntKind.wrap_i64];omega
  obtain⟨z,hz⟩:∃z:Int,(n:Int)=z:=⟨_,rfl⟩
  obtain⟨y,hy⟩:∃z:Int,(ep:Int)=z:=⟨_,rfl⟩
  rw[hz] at g1 g3 hf E2 ⊢
  rw[hy] at g1 hf k1
  obtain⟨a1,n1,c1,rfl⟩:=owns_sliceS h.out.ra
  obtain⟨a2,n2,c2,rfl⟩:=owns_sliceS h.out.rh
  clear h hz hy e0 e1 et
  go_enter Tryz.func108, Tryz.ntmps108
  go_wp2
  go_ret
  exact⟨rfl,E2.out⟩
set_option maxHeartbeats 1000000 in
theorem etake_ep (b q ep most:Nat) (va vh:Value) (ah he:List Bs) (t:Bs) (ht:t.length=4) (w:World) (h:Hid (Es w b q ep most va vh ah he)) :
  Calls Tryz.prog 78 #[.pointer (some ⟨b,1,none⟩),.string (st (69::t))] w fun e w'=>e = .returned (.bool (!decide (nm t < ep∨2147483647 < nm t)))∧TuP w b q most va vh (if nm t < ep∨2147483647 < nm t then (ep,ah,he) else (nm t,tun ep ah he (nm t))) w':=by
 have TN:Hid (Calls Tryz.prog 108 #[.pointer (some ⟨b,1,none⟩),.int .i64 (nm t:Int)] w fun e w'=>e = .returned (.bool (!decide (nm t < ep∨2147483647 < nm t)))∧TuP w b q most va vh (if nm t < ep∨2147483647 < nm t then (ep,ah,he) else (nm t,tun ep ah he (nm t))) w'):=by
  by_cases c:nm t < ep∨2147483647 < nm t
  ·rw[if_pos c,decide_eq_true c]
   exact (eturn_no b q ep most va vh ah he (nm t) c w h).mono fun _ _ ⟨x1,x2⟩=>⟨x1,by subst x2;exact⟨va,vh,h.out,Bf.refl _ _,Nx.refl _ _⟩⟩
  ·rw[if_neg c,decide_eq_false c]
   exact (eturn_all b q ep most va vh ah he (nm t) (by omega) (by omega) w h).mono fun _ _ x=>x
 have C1:Hid _:=scut_any 69 84 t (by omega) w
 rw[if_neg (by decide),decide_eq_false (by decide)] at C1
 have C2:Hid _:=scut_any 69 69 t (by omega) w
 rw[if_pos rfl,decide_eq_true rfl] at C2
 have N1:Hid (Calls Tryz.prog 109 #[.string (st t)] w fun e w'=>e = .returned (.int .i64 (nm t:Int))∧w'=w):=snumber_any t ht w
 have hs:(st t).size=4:=by rw[st_size,ht]
 obtain⟨T,hT⟩:∃T,st t=T:=⟨_,rfl⟩
 obtain⟨S,hS⟩:∃S,st (69::t)=S:=⟨_,rfl⟩
 obtain⟨Y,hY⟩:∃Y,(if nm t < ep∨2147483647 < nm t then (ep,ah,he) else (nm t,tun ep ah he (nm t)))=Y:=⟨_,rfl⟩
 obtain⟨d,hd⟩:∃d,(!decide (nm t < ep∨2147483647 < nm t))=d:=⟨_,rfl⟩
 obtain⟨z,hz⟩:∃z:Int,(nm t:Int)=z:=⟨_,rfl⟩
 rw[hY,hd] at TN ⊢
 rw[hz] at TN N1
 rw[hT] at C2 N1 hs
 rw[hS] at C1 C2 ⊢
 clear hT hS h hz hY hd ht
 go_enter Tryz.func78, Tryz.ntmps78
 go_wp2_with fail
 refine Calls.mono C1.out ?_
 rintro e w1 ⟨rfl,rfl⟩
 clear C1
 go_wp2_with fail
 refine Calls.mono C2.out ?_
 rintro e w1 ⟨rfl,rfl⟩
 clear C2
 go_wp2_with fail
 refine Calls.mono N1.out ?_
 rintro e w1 ⟨rfl,rfl⟩
 clear N1
 go_wp2_with fail
 refine Calls.mono TN.out ?_
 rintro e w2 ⟨rfl,E2⟩
 have FF:Hid _:=E2
 clear TN E2
 go_wp2
 go_ret
 exact⟨rfl,FF.out⟩
theorem take_c:TakeC:=by
 intro b q most va vh y r W hy hr h
 obtain⟨ep,ah,he⟩:=y
 have hn:=hy.n
 simp only at hn h
 have go:∀(o:Option Ey),tkE (ep,ah,he) r=o→(Calls Tryz.prog 78 #[.pointer (some ⟨b,1,none⟩),.string (st r)] W fun e w'=>e = .returned (.bool o.isSome)∧TuP W b q most va vh (o.getD (ep,ah,he)) w')→Calls Tryz.prog 78 #[.pointer (some ⟨b,1,none⟩),.string (st r)] W fun e w'=>e = .returned (.bool (tkE (ep,ah,he) r).isSome)∧∃va' vh',Es w' b q ((tkE (ep,ah,he) r).getD (ep,ah,he)).1 most va' vh' ((tkE (ep,ah,he) r).getD (ep,ah,he)).2.1 ((tkE (ep,ah,he) r).getD (ep,ah,he)).2.2∧Bf (EFt b va vh) W w'∧Nx W (EFt b va vh) (EFt b va' vh'):=fun o e c=>by
  rw[e]
  exact c
 by_cases h1:r.length=17∧r.head?=some 84
 ·obtain⟨t,rfl⟩:∃t,r=84::t:=by
   cases r with
   | nil=>cases h1.2
   | cons d t=>exact⟨t,by have:=h1.2;injection this with this;rw[this]⟩
  have ht:t.length=16:=by have:=h1.1;rw[List.length_cons] at this;omega
  have ek:tkE (ep,ah,he) (84::t)=some (ep,ah,if t∈ah++he then he else he++[t]):=if_pos h1
  refine go _ ek ?_
  by_cases hm:t∈ah++he
  ·rw[if_pos hm]
   exact (etake_old b q ep most va vh ah he (by omega) (by omega) t ht hm W h).mono fun _ _ ⟨x1,x2⟩=>⟨x1,by subst x2;exact⟨va,vh,h,Bf.refl _ _,Nx.refl _ _⟩⟩
  ·rw[if_neg hm]
   exact (etakeT_any b q ep most va vh ah he (by omega) (by omega) t ht hm W h).mono fun _ _ ⟨x1,v',x2,x3,x4⟩=>⟨x1,va,v',x2,x3,x4⟩
 ·by_cases h2:r.length=5∧r.head?=some 69
  ·obtain⟨t,rfl⟩:∃t,r=69::t:=by
    cases r with
    | nil=>cases h2.2
    | cons d t=>exact⟨t,by have:=h2.2;injection this with this;rw[this]⟩
   have ht:t.length=4:=by have:=h2.1;rw[List.length_cons] at this;omega
   have ek:tkE (ep,ah,he) (69::t)=if nm t < ep∨2147483647 < nm t then none else some (nm t,tun ep ah he (nm t)):=by
    unfold tkE tkp
    rw[if_neg h1,if_pos h2]
    rfl
   have T:=etake_ep b q ep most va vh ah he t ht W h
   by_cases c:nm t < ep∨2147483647 < nm t
   ·rw[if_pos c] at ek T
    rw[decide_eq_true c] at T
    exact go _ ek T
   ·rw[if_neg c] at ek T
    rw[decide_eq_false c] at T
    exact go _ ek T
  ·have ek:tkE (ep,ah,he) r=none:=by
    unfold tkE tkp
    rw[if_neg h1,if_neg h2]
   refine go _ ek ?_
   exact (etake_no b r hr h1 h2 W).mono fun _ _ ⟨x1,x2⟩=>⟨x1,by subst x2;exact⟨va,vh,h,Bf.refl _ _,Nx.refl _ _⟩⟩
end Go.Proofs.YtdcimnmebgkmjaaGreatDoor
namespace Go.Proofs.YtdcimnmebgkmjaaGreatDoor
open Go.RowKit Go.Proofs.Fd Go.Proofs.Dk Go.Proofs.Lg
set_option maxRecDepth 20000
theorem bgf_head (k H g:Nat) (r:Bs) (f:Nat→Bs):bgf k H (hd g++r) f k=hd g:=by
 have hl:0 < (hd g++r).length / 64:=by rw[List.length_append,hd_len];omega
 have:=bgf_in (k:=k) (H:=H) (b:=hd g++r) f hl
 rw[Nat.add_zero] at this
 rw[this]
 obtain⟨m,hm⟩:∃m,(hd g++r).length / 64=m+1:=⟨(hd g++r).length / 64 - 1,by omega⟩
 simp only[hm]
 show (hd g++r).take 64=hd g
 rw[List.take_left' (hd_len g)]
structure Lu (w wr:World) (p:Nat) (F:Nat→Prop) (n:Nat) (f:Nat→Bs) (l:List Wt) (q:Nat) (v:Value) (x:Lo):Prop where
 hd_:HD w wr p F (up n f l) q (x.h*(n / 2)) (n / 2) x.g v x.ts x.tk x.mr []
 h1:x.h≤1
 n4:4≤n
 n2:n≤1024
 tk:x.tk≤n / 2
 ok:∀t∈x.ts,1≤t.length∧t.length≤2000
 sh:lay f l (x.h*(n / 2))=hd x.g
 g1:1≤x.g
 g2:x.g≤1000000
 ln:l.length≤x.tk
section
variable {w wr:World} {p:Nat} {F:Nat→Prop} {n:Nat} {f:Nat→Bs} {l:List Wt} {q:Nat} {v:Value} {x:Lo}
theorem Lu.later (h:Lu w wr p F n f l q v x) {w':World} (hb:Below wr.heap.size wr w'):Lu w w' p F n f l q v x:=⟨h.hd_.later hb,h.h1,h.n4,h.n2,h.tk,h.ok,h.sh,h.g1,h.g2,h.ln⟩
theorem Lu.other (h:Lu w wr p F n f l q v x) {w':World} {G:Nat→Prop} (hb:Bf G wr w') (hG:∀y,FH F q v y→¬G y) (hw:∀y,G y→w.heap.size≤y):Lu w w' p F n f l q v x :=
 ⟨⟨⟨h.hd_.dl.at_.other hb (fun y hy=>hG y (.inl hy)),h.hd_.dl.new,h.hd_.dl.below.trans (hb.below hw h.hd_.dl.below.size)⟩,h.hd_.hf.bf hb (fun y hy=>hG y (.inr hy)),h.hd_.ap⟩,h.h1,h.n4,h.n2,h.tk,h.ok,h.sh,h.g1,h.g2,h.ln⟩
theorem Lu.fh (h:Lu w wr p F n f l q v x) {y:Nat} (hy:FH F q v y):y < wr.heap.size∧w.heap.size≤y:=by
 rcases hy with e|e
 ·exact⟨h.hd_.dl.at_.lt e,h.hd_.dl.new y e⟩
 ·exact⟨h.hd_.hf.lt e,(h.hd_.ap y e).2⟩
theorem Lu.tlen (h:Lu w wr p F n f l q v x):x.ts.length≤512:=by
 have h1:=tkn_ge_len x.ts
 have h2:tkn 1 x.ts≤n / 2:=h.tk
 have h3:=h.n2
 omega
theorem Lu.fr (h:Lu w wr p F n f l q v x):x.h*(n / 2)+n / 2≤n:=by
 rcases (by have:=h.h1;omega:x.h=0∨x.h=1) with e|e
 ·rw[e,Nat.zero_mul];omega
 ·rw[e,Nat.one_mul];omega
end
theorem recordsU (w wr:World) (p:Nat) (F:Nat→Prop) (n:Nat) (f:Nat→Bs) (l:List Wt) (q:Nat) (v:Value) (x:Lo) (h:Lu w wr p F n f l q v x) :
  Calls Tryz.prog 24 #[.pointer (some ⟨q,0,none⟩)] wr fun e w'=>∃a c,e = .returned (.slice a x.ts.length c)∧TxAt w' a x.ts∧Below wr.heap.size wr w' :=
 (lrecords_any q p _ (n / 2) x.g v x.ts x.tk x.mr [] wr (by have:=h.tlen;omega) (fun t ht=>(h.ok t ht).2) h.hd_.hf).mono fun _ _ ⟨u,he,hr,hb⟩=>by
  obtain⟨a,c,rfl,tx,-⟩:=owns_tx rfl hr
  exact⟨a,c,he,tx,hb⟩
theorem openU_new (w wr:World) (p:Nat) (F:Nat→Prop) (n:Nat) (hn4:4≤n) (hn2:n≤1024) (hk:Kh w) (h:Dl w wr p F (up n zs [])) :
  Calls Tryz.prog 20 #[.pointer (some ⟨p,0,none⟩)] wr fun e w'=>∃q v F',e = .returned (.tuple #[.pointer (some ⟨q,0,none⟩),.int .i64 0])∧Lu w w' p F' n (bgf 0 (n / 2) (hd 1++rcs (hm 1) []) zs) [] q v ⟨0,1,[]⟩∧Bf F wr w'∧Nx wr F F'∧∀z,HFt q v z→wr.heap.size≤z:=by
 have eo:=opn_blank (n:=n) zs (fun _=>rfl) (by omega)
 refine (lopen_any w wr p F (up n zs []) (by show 2≤n / 2;omega) (by show 0+2000≤1000000;decide) hk h).mono ?_
 rintro e w' ⟨F',d1,d2,d3,hres⟩
 rw[eo] at d1 hres
 rcases hres with ⟨-,q,v,he,hh,nn⟩|⟨c,-⟩
 ·refine⟨q,v,F',he,⟨hh,by decide,hn4,hn2,by show 1≤n / 2;omega,nofun,?_,by decide,by decide,Nat.zero_le _⟩,d3,d2,nn⟩
  show bgf 0 (n / 2) _ zs (0*(n / 2))=hd 1
  rw[Nat.zero_mul]
  exact bgf_head _ _ _ _ _
 ·exact absurd rfl c
theorem appendE (w wr:World) (p:Nat) (F:Nat→Prop) (n:Nat) (f:Nat→Bs) (l:List Wt) (q:Nat) (v:Value) (x:Lo) (X:ByteArray) (hX:may X.data.toList=0) (hf:x.tk+sn X.data.toList≤n / 2) (hk:Kh w) (h:Lu w wr p F n f l q v x) :
  Calls Tryz.prog 21 #[.pointer (some ⟨q,0,none⟩),.string X] wr fun e w' =>
   e = .returned (.int .i64 0)∧∃F' v',Lu w w' p F' n f (l++wts (x.h*(n / 2)+x.tk) (chs (sn X.data.toList) (rcd x.mr X.data.toList))) q v' { x with ts:=x.ts++[X.data.toList] }∧Nx2 wr F q v F' v'∧Bf (FH F q v) wr w':=by
 have hx:x.tk≤n / 2:=h.tk
 have hn2:=h.n2
 have hfr:=h.fr
 have hln:=h.ln
 refine (lappend_any w wr p F (up n f l) q (x.h*(n / 2)) (n / 2) x.g v x.ts x.tk x.mr X (mks_len _ _ rfl) (by have:=h.tlen;omega) h.tk (by omega) (by omega) (by show l.length+100≤1000000;omega) hk h.hd_).mono ?_
 rintro e w' ⟨he,F',v',n1,b1,hh⟩
 unfold apR at he hh
 rw[if_neg (by rw[hX];simp),if_neg (by omega)] at he hh
 have ew:=wrb_u (rcd_len x.mr X.data.toList) (n:=n) (k:=x.h*(n / 2)+x.tk) (by omega) f l
 rw[ew] at he hh
 refine⟨he,F',v',?_,n1,b1⟩
 have et:(⟨x.h,x.g,x.ts++[X.data.toList]⟩:Lo).tk=x.tk+sn X.data.toList:=tkn_app x.ts 1 _
 have em:(⟨x.h,x.g,x.ts++[X.data.toList]⟩:Lo).mr=rmk x.mr X.data.toList:=mks_app x.ts (hm x.g) _
 rcases hh with ⟨-,hh⟩|⟨c,-⟩
 ·refine⟨?_,h.h1,h.n4,h.n2,?_,?_,?_,h.g1,h.g2,?_⟩
  ·show HD _ _ _ _ _ _ _ _ _ _ _ (⟨x.h,x.g,x.ts++[X.data.toList]⟩:Lo).tk (⟨x.h,x.g,x.ts++[X.data.toList]⟩:Lo).mr _
   rw[et,em]
   exact hh
  ·show (⟨x.h,x.g,x.ts++[X.data.toList]⟩:Lo).tk≤_
   rw[et]
   omega
  ·intro t ht
   rcases List.mem_append.1 ht with ht|ht
   ·exact h.ok t ht
   ·rw[List.mem_singleton] at ht
    subst ht
    exact may_ok hX
  ·show lay f (l++_) (x.h*(n / 2))=hd x.g
   have h1:=tkn_ge x.ts 1
   rw[lay_lay,wts_at,dif_neg (by show ¬(x.h*(n / 2)+tkn 1 x.ts≤_∧_);omega)]
   exact h.sh
  ·show (l++_).length≤(⟨x.h,x.g,x.ts++[X.data.toList]⟩:Lo).tk
   rw[et,List.length_append,wts_len,chs_len]
   omega
 ·exact absurd rfl c
theorem syncE (w wr:World) (p:Nat) (F:Nat→Prop) (n:Nat) (f:Nat→Bs) (l:List Wt) (q:Nat) (v:Value) (x:Lo) (h:Lu w wr p F n f l q v x) :
  Calls Tryz.prog 22 #[.pointer (some ⟨q,0,none⟩)] wr fun e w'=>e = .returned (.int .i64 0)∧∃F',Lu w w' p F' n (lay f l) [] q v x∧Nx wr F F'∧Bf F wr w':=by
 have hln:=h.ln
 have htk:x.tk≤n / 2:=h.tk
 have hn2:=h.n2
 exact (lsyncl_any w wr p F (up n f l) q _ _ x.g v x.ts x.tk x.mr [] (by show l.length≤1000000;omega) h.hd_).mono fun _ _ ⟨he,F',d1,d2,d3⟩=>⟨he,F',⟨h.hd_.disk d1 d2 d3,h.h1,h.n4,h.n2,h.tk,h.ok,h.sh,h.g1,h.g2,Nat.zero_le _⟩,d2,d3⟩
end Go.Proofs.YtdcimnmebgkmjaaGreatDoor
namespace Go.Proofs.YtdcimnmebgkmjaaGreatDoor
open Go.RowKit Go.Proofs.Fd Go.Proofs.Dk Go.Proofs.Lg
set_option maxRecDepth 20000
structure Su (w wr:World) (p:Nat) (F:Nat→Prop) (n:Nat) (f:Nat→Bs) (l:List Wt) (q:Nat) (v:Value) (x:Lo) (b ep most:Nat) (va vh:Value) (ah he:List Bs):Prop where
 lu:Lu w wr p F n f l q v x
 es:Es wr b q ep most va vh ah he
 ap:∀y,EFt b va vh y→¬FH F q v y∧w.heap.size≤y
section
variable {w wr:World} {p:Nat} {F:Nat→Prop} {n:Nat} {f:Nat→Bs} {l:List Wt} {q:Nat} {v:Value} {x:Lo} {b ep most:Nat} {va vh:Value} {ah he:List Bs}
theorem Su.later (h:Su w wr p F n f l q v x b ep most va vh ah he) {w':World} (hb:Below wr.heap.size wr w'):Su w w' p F n f l q v x b ep most va vh ah he:=⟨h.lu.later hb,h.es.later hb,h.ap⟩
theorem Su.log (h:Su w wr p F n f l q v x b ep most va vh ah he) {w':World} {F':Nat→Prop} {f':Nat→Bs} {l':List Wt} {v':Value} {x':Lo} (k:Lu w w' p F' n f' l' q v' x') (nx:Nx wr (FH F q v) (FH F' q v')) (hb:Bf (FH F q v) wr w'):Su w w' p F' n f' l' q v' x' b ep most va vh ah he :=
 ⟨k,h.es.bf hb (fun y hy=>(h.ap y hy).1),fun y hy=>⟨nx.apart (h.ap y hy).1 (h.es.lt hy),(h.ap y hy).2⟩⟩
theorem Su.set (h:Su w wr p F n f l q v x b ep most va vh ah he) {w':World} {ep':Nat} {va' vh':Value} {ah' he':List Bs} (k:Es w' b q ep' most va' vh' ah' he') (hb:Bf (EFt b va vh) wr w') (nx:Nx wr (EFt b va vh) (EFt b va' vh')):Su w w' p F n f l q v x b ep' most va' vh' ah' he' :=
 ⟨h.lu.other hb (fun y hF c=>(h.ap y c).1 hF) (fun y c=>(h.ap y c).2),k,fun y hy=>by
  rcases nx y hy with e|e
  ·exact h.ap y e
  ·exact⟨fun c=>Nat.not_lt.2 e (h.lu.fh c).1,Nat.le_trans h.lu.hd_.dl.below.size e⟩⟩
end
def Sx (w wr:World) (b n most k ep:Nat) (ah he:List Bs):Prop:=∃p F f l q v x va vh,Su w wr p F n f l q v x b ep most va vh ah he∧x.tk≤1+k
theorem Sx.later {w wr w':World} {b n most k ep:Nat} {ah he:List Bs} (h:Sx w wr b n most k ep ah he) (hb:Below wr.heap.size wr w'):Sx w w' b n most k ep ah he:=by
 obtain⟨p,F,f,l,q,v,x,va,vh,s,ht⟩:=h
 exact⟨p,F,f,l,q,v,x,va,vh,s.later hb,ht⟩
theorem Sx.below {w wr:World} {b n most k ep:Nat} {ah he:List Bs} (h:Sx w wr b n most k ep ah he):Below w.heap.size w wr:=by
 obtain⟨p,F,f,l,q,v,x,va,vh,s,ht⟩:=h
 exact s.lu.hd_.dl.below
theorem Lu.kh {w wr:World} {p:Nat} {F:Nat→Prop} {n:Nat} {f:Nat→Bs} {l:List Wt} {q:Nat} {v:Value} {x:Lo} (h:Lu w wr p F n f l q v x) (hk:Kh w):Kh wr:=hk.later h.hd_.dl.below
set_option maxHeartbeats 1000000 in
theorem swrite_any (w wr:World) (p:Nat) (F:Nat→Prop) (n:Nat) (f:Nat→Bs) (l:List Wt) (q:Nat) (v:Value) (x:Lo) (b ep most:Nat) (va vh:Value) (ah he:List Bs) (r:Bs) (ep':Nat) (ah' he':List Bs) (hr:may r=0) (hf:x.tk+sn r≤n / 2)
  (TK:Hid (∀W,Es W b q ep most va vh ah he→Calls Tryz.prog 78 #[.pointer (some ⟨b,1,none⟩),.string (st r)] W fun e w'=>e = .returned (.bool true)∧∃va' vh',Es w' b q ep' most va' vh' ah' he'∧Bf (EFt b va vh) W w'∧Nx W (EFt b va vh) (EFt b va' vh')))
  (hk:Hid (Kh w)) (h:Hid (Su w wr p F n f l q v x b ep most va vh ah he)) :
  Calls Tryz.prog 80 #[.pointer (some ⟨b,0,none⟩),.string (st r)] wr fun e w'=>e = .returned (.int .i64 0)∧∃F' f' l' v' va' vh',Su w w' p F' n f' l' q v' { x with ts:=x.ts++[r] } b ep' most va' vh' ah' he':=by
 have A1:Hid (Calls Tryz.prog 21 #[.pointer (some ⟨q,0,none⟩),.string (st r)] wr fun e w'=>e = .returned (.int .i64 0)∧∃F' f' l' v',Su w w' p F' n f' l' q v' { x with ts:=x.ts++[r] } b ep most va vh ah he) :=
  (appendE w wr p F n f l q v x (st r) hr hf hk.out h.out.lu).mono fun _ _ ⟨e1,F',v',L1,N1,B1⟩=>⟨e1,F',_,_,v',h.out.log L1 N1.fh B1⟩
 have S1:Hid (∀W F f l v x,Su w W p F n f l q v x b ep most va vh ah he→Calls Tryz.prog 22 #[.pointer (some ⟨q,0,none⟩)] W fun e w'=>e = .returned (.int .i64 0)∧∃F' f' l',Su w w' p F' n f' l' q v x b ep most va vh ah he):=fun W F f l v x k =>
  (syncE w W p F n f l q v x k.lu).mono fun _ _ ⟨e1,F',L1,N1,B1⟩=>⟨e1,F',_,_,k.log L1 (FH.left N1) (B1.wide fun _ c => .inl c)⟩
 have k0:=h.out.es.bk.c 0 _ rfl
 obtain⟨R,hR⟩:∃R,st r=R:=⟨_,rfl⟩
 rw[hR] at TK A1 ⊢
 clear hR hr hf
 go_enter Tryz.func80, Tryz.ntmps80
 go_wp2_with fail
 refine Calls.mono A1.out ?_
 rintro e w1 ⟨rfl,F1,f1,l1,v1,s1⟩
 have J1:Hid _:=s1
 have k1:=J1.out.es.bk.c 0 _ rfl
 clear s1 A1 h k0
 have S2:Hid _:=S1.out w1 F1 f1 l1 v1 _ J1.out
 clear S1
 go_wp2_with fail
 refine Calls.mono S2.out ?_
 rintro e w2 ⟨rfl,F2,f2,l2,s2⟩
 have J2:Hid _:=s2
 have k2:=J2.out.es.bk.c 0 _ rfl
 clear s2 S2 J1 k1
 have T2:Hid _:=TK.out w2 J2.out.es
 clear TK
 go_wp2_with fail
 refine Calls.mono T2.out ?_
 rintro e w3 ⟨rfl,va3,vh3,E3,B3,N3⟩
 have J3:Hid _:=J2.out.set E3 B3 N3
 clear E3 B3 N3 J2 k2 T2
 go_wp2
 go_ret
 exact⟨rfl,F2,f2,l2,v1,va3,vh3,J3.out⟩
set_option maxHeartbeats 1000000 in
theorem sopen_new (w wr:World) (p:Nat) (F:Nat→Prop) (n most:Nat) (hn4:4≤n) (hn2:n≤1024) (hm1:1≤most) (hm2:most≤4096) (hk:Hid (Kh w)) (h:Hid (Dl w wr p F (up n zs []))) :
  Calls Tryz.prog 40 #[.pointer (some ⟨p,0,none⟩),.int .i64 (most:Int)] wr fun e w'=>∃b,e = .returned (.tuple #[.pointer (some ⟨b,0,none⟩),.int .i64 0])∧Sx w w' b n most 0 0 [] []:=by
 have O1:Hid _:=openU_new w wr p F n hn4 hn2 hk.out h.out
 have g1:¬(most:Int) < 1:=by omega
 have g2:¬(4096:Int) < (most:Int):=by omega
 clear h hk hm1 hm2
 go_enter Tryz.func40, Tryz.ntmps40
 go_wp2_with fail
 refine Calls.mono O1.out ?_
 rintro e w1 ⟨q,v,F1,rfl,L1,-,-,-⟩
 have E1:Hid (Es (w1.alloc (.cells #[.pointer (some ⟨q,0,none⟩),.int .i64 ((0:Nat):Int),.slice none 0 0,.slice none 0 0,.int .i64 (most:Int)] 94)) w1.heap.size q 0 most (.slice none 0 0) (.slice none 0 0) [] []) :=
  ⟨Blk.new w1 (stc q 0 (.slice none 0 0) (.slice none 0 0) most) _ (by simp),owns_nilS _,owns_nilS _,(fun c=>by cases c),(fun c=>by cases c),fun g c=>by cases c⟩
 have S1:Hid (∃f,Su w (w1.alloc (.cells #[.pointer (some ⟨q,0,none⟩),.int .i64 ((0:Nat):Int),.slice none 0 0,.slice none 0 0,.int .i64 (most:Int)] 94)) p F1 n f [] q v ⟨0,1,[]⟩ w1.heap.size 0 most (.slice none 0 0) (.slice none 0 0) [] []):=by
  refine⟨_,L1.later (nb _ _),E1.out,fun y hy => ?_⟩
  rcases hy with rfl|e|e
  ·exact⟨fun c=>Nat.lt_irrefl _ (L1.fh c).1,L1.hd_.dl.below.size⟩
  ·cases e
  ·cases e
 clear E1 L1 O1
 obtain⟨B,hB⟩:∃B,w1.heap.size=B:=⟨_,rfl⟩
 have S2:Hid (∃f,Su w (w1.alloc (.cells #[.pointer (some ⟨q,0,none⟩),.int .i64 0,.slice none 0 0,.slice none 0 0,.int .i64 (most:Int)] 94)) p F1 n f [] q v ⟨0,1,[]⟩ B 0 most (.slice none 0 0) (.slice none 0 0) [] []):=by
  rw[←hB]
  exact S1.out
 have R1:Hid (Calls Tryz.prog 24 #[.pointer (some ⟨q,0,none⟩)] (w1.alloc (.cells #[.pointer (some ⟨q,0,none⟩),.int .i64 0,.slice none 0 0,.slice none 0 0,.int .i64 (most:Int)] 94)) fun e w'=>∃a c,e = .returned (.slice a 0 c)∧Sx w w' B n most 0 0 [] []):=by
  obtain⟨f,s⟩:=S2.out
  exact (recordsU w _ p F1 n f [] q v ⟨0,1,[]⟩ s.lu).mono fun _ _ ⟨a,c,e1,_,hb⟩=>⟨a,c,e1,p,F1,f,[],q,v,⟨0,1,[]⟩,_,_,s.later hb,Nat.le_refl _⟩
 clear S1 S2
 go_wp2_with fail
 refine Calls.mono R1.out ?_
 rintro e w2 ⟨a,c,rfl,s2⟩
 have J2:Hid _:=s2
 clear s2 R1 hB
 go_wp2
 go_loopw [35] (fun i wr=>i = .int .i64 0∧wr=w2) (fun _ _=>0)
 case atStart=>exact⟨rfl,rfl⟩
 case round =>
  obtain⟨rfl,rfl⟩:=hrel
  go_wp2
  go_ret2
  exact⟨B,rfl,J2.out⟩
set_option maxHeartbeats 1000000 in
theorem sadd_ok (w wr:World) (b n most k ep:Nat) (ah he:List Bs) (t:Bs) (ht:t.length=16) (hm:t ∉ ah++he) (hfull:ah.length+he.length < most) (hmost:most≤4096) (hroom:2+k≤n / 2) (hk:Hid (Kh w)) (h:Hid (Sx w wr b n most k ep ah he)) :
  Calls Tryz.prog 41 #[.pointer (some ⟨b,0,none⟩),.string (st t)] wr fun e w'=>e = .returned (.int .i64 0)∧Sx w w' b n most (k+1) ep ah (he++[t]):=by
 have TR:Hid _:=stagr_any t (by omega)
 have hs:(st t).size=16:=by rw[st_size,ht]
 have sn1:sn (84::t)=1:=by unfold sn;rw[List.length_cons,ht]
 have mr:may (84::t)=0:=by unfold may;rw[List.length_cons,ht,if_neg (by decide),if_neg (by decide)]
 obtain⟨p,F,f,l,q,v,x,va,vh,s,hx⟩:=h.out
 have h1:ah.length≤100000:=by omega
 have h2:he.length≤100000:=by omega
 have HS:Hid _:=shas_any b q ep most va vh ah he h1 h2 (st t) wr s.es
 rw[st_data,decide_eq_false hm] at HS
 have MN:Hid (∀W,Below wr.heap.size wr W→Calls Tryz.prog 79 #[.pointer (some ⟨b,1,none⟩)] W fun e w'=>e = .returned (.int .i64 ((ah.length+he.length:Nat):Int))∧Below wr.heap.size wr w'):=fun W hW=>(emany_any b q ep most va vh ah he h1 h2 W (s.es.later hW)).mono fun _ _ ⟨e1,hb⟩=>⟨e1,chain hW hb⟩
 have WR:Hid (∀W,Below wr.heap.size wr W→Calls Tryz.prog 80 #[.pointer (some ⟨b,0,none⟩),.string (st (84::t))] W fun e w'=>e = .returned (.int .i64 0)∧Sx w w' b n most (k+1) ep ah (he++[t])):=fun W hW =>
  (swrite_any w W p F n f l q v x b ep most va vh ah he (84::t) ep ah (he++[t]) mr (by omega) (fun W' es=>(etakeT_any b q ep most va vh ah he h1 h2 t ht hm W' es).mono fun _ _ ⟨e1,v',e2⟩=>⟨e1,va,v',e2⟩) hk (s.later hW)).mono fun _ _ ⟨e1,F',f',l',v',va',vh',s'⟩=>⟨e1,p,F',f',l',q,v',_,va',vh',s',by
   show tkn 1 (x.ts++[84::t])≤1+(k+1)
   rw[tkn_app,sn1]
   have:tkn 1 x.ts≤1+k:=hx
   omega⟩
 have k4:=s.es.bk.c 4 _ rfl
 have k0:=s.es.bk.c 0 _ rfl
 obtain⟨m,hmm⟩:∃m,ah.length+he.length=m:=⟨_,rfl⟩
 rw[hmm] at MN hfull
 have g1:¬(most:Int)≤(m:Int):=by omega
 obtain⟨T,hT⟩:∃T,st t=T:=⟨_,rfl⟩
 obtain⟨S,hS⟩:∃S,st (84::t)=S:=⟨_,rfl⟩
 rw[hT] at TR HS hs ⊢
 rw[hS] at TR WR
 clear hT hS hmm s h hx sn1 mr hm ht
 go_enter Tryz.func41, Tryz.ntmps41
 go_wp2_with fail
 refine Calls.mono HS.out ?_
 rintro e w1 ⟨rfl,rfl⟩
 clear HS
 go_wp2_with fail
 go_region_held3 (fun w'=>w'.cell? ⟨b,4,none⟩=some (.int .i64 (most:Int))∧Below w1.heap.size w1 w') (first|exact⟨k4,(Below.refl _ _).drew⟩|assumption|exact⟨cell_later (by assumption) k4,by assumption⟩) (first|(go_at_call 79;refine Calls.mono (MN.out _ (by first|assumption|exact (Below.refl _ _).drew)) ?_;rintro e w2 ⟨rfl,hb2⟩))
 have BB:Hid (Below w1.heap.size w1 w2):=hb2
 clear hb2 MN k4
 go_wp2_with fail
 refine Calls.mono (TR.out _) ?_
 rintro e w3 ⟨rfl,rfl⟩
 clear TR
 have W3:Hid _:=WR.out w3 BB.out
 clear WR
 go_wp2_with fail
 refine Calls.mono W3.out ?_
 rintro e w4 ⟨rfl,s4⟩
 have FF:Hid _:=s4
 clear s4 W3
 go_wp2
 go_ret
 exact⟨rfl,FF.out⟩
end Go.Proofs.YtdcimnmebgkmjaaGreatDoor
namespace Go.Proofs.YtdcimnmebgkmjaaGreatDoor
open Go.RowKit Go.Proofs.Fd Go.Proofs.Dk Go.Proofs.Lg
set_option maxRecDepth 20000
theorem hasX (w wr:World) (b n most k ep:Nat) (ah he:List Bs) (t:Bs) (hl:ah.length+he.length≤4096) (h:Sx w wr b n most k ep ah he) :
  Calls Tryz.prog 43 #[.pointer (some ⟨b,0,none⟩),.string (st t)] wr fun e w'=>e = .returned (.bool (decide (t∈ah++he)))∧w'=wr:=by
 obtain⟨p,F,f,l,q,v,x,va,vh,s,hx⟩:=h
 exact shas_any b q ep most va vh ah he (by omega) (by omega) (st t) wr s.es
theorem epochX (w wr:World) (b n most k ep:Nat) (ah he:List Bs) (h:Sx w wr b n most k ep ah he) :
  Calls Tryz.prog 14 #[.pointer (some ⟨b,0,none⟩)] wr fun e w'=>e = .returned (.int .i64 (ep:Int))∧w'=wr:=by
 obtain⟨p,F,f,l,q,v,x,va,vh,s,hx⟩:=h
 exact sepoch_any b q ep most va vh ah he wr s.es
theorem sadd_seen (w wr:World) (b n most k ep:Nat) (ah he:List Bs) (t:Bs) (ht:t.length=16) (hm:t∈ah++he) (hl:ah.length+he.length≤4096) (h:Hid (Sx w wr b n most k ep ah he)) :
  Calls Tryz.prog 41 #[.pointer (some ⟨b,0,none⟩),.string (st t)] wr fun e w'=>e = .returned (.int .i64 170)∧w'=wr:=by
 have hs:(st t).size=16:=by rw[st_size,ht]
 have HS:Hid _:=hasX w wr b n most k ep ah he t hl h.out
 rw[decide_eq_true hm] at HS
 obtain⟨T,hT⟩:∃T,st t=T:=⟨_,rfl⟩
 rw[hT] at HS hs ⊢
 clear hT h hm ht
 go_enter Tryz.func41, Tryz.ntmps41
 go_wp2_with fail
 refine Calls.mono HS.out ?_
 rintro e w1 ⟨rfl,rfl⟩
 clear HS
 go_wp2
 go_ret
 exact⟨rfl,rfl⟩
set_option maxHeartbeats 1000000 in
theorem srot_ok (w wr:World) (b n most k ep:Nat) (ah he:List Bs) (hep:ep≤1000000) (hroom:2+k≤n / 2) (hk:Hid (Kh w)) (h:Hid (Sx w wr b n most k ep ah he)) :
  Calls Tryz.prog 42 #[.pointer (some ⟨b,0,none⟩)] wr fun e w'=>e = .returned (.int .i64 0)∧Sx w w' b n most (k+1) (ep+1) he []:=by
 have hl:(ben (ep+1) 4).length=4:=ben_len _ _
 have sn1:sn (69::ben (ep+1) 4)=1:=by unfold sn;rw[List.length_cons,hl]
 have mr:may (69::ben (ep+1) 4)=0:=by unfold may;rw[List.length_cons,hl,if_neg (by decide),if_neg (by decide)]
 have ER:Hid (Calls Tryz.prog 82 #[.int .i64 ((ep:Int)+1)] wr fun e w'=>e = .returned (.string (st (69::ben (ep+1) 4)))∧Below wr.heap.size wr w'):=sepr_any (ep+1) wr
 obtain⟨p,F,f,l,q,v,x,va,vh,s,hx⟩:=h.out
 have WR:Hid (∀W,Below wr.heap.size wr W→Calls Tryz.prog 80 #[.pointer (some ⟨b,0,none⟩),.string (st (69::ben (ep+1) 4))] W fun e w'=>e = .returned (.int .i64 0)∧Sx w w' b n most (k+1) (ep+1) he []):=fun W hW =>
  (swrite_any w W p F n f l q v x b ep most va vh ah he (69::ben (ep+1) 4) (ep+1) he [] mr (by omega) (fun W' es=>(etakeE_any b q ep most va vh ah he (by omega) W' es).mono fun _ _ ⟨e1,e2⟩=>⟨e1,vh,_,e2⟩) hk (s.later hW)).mono fun _ _ ⟨e1,F',f',l',v',va',vh',s'⟩=>⟨e1,p,F',f',l',q,v',_,va',vh',s',by
   show tkn 1 (x.ts++[69::ben (ep+1) 4])≤1+(k+1)
   rw[tkn_app,sn1]
   have:tkn 1 x.ts≤1+k:=hx
   omega⟩
 have k1:=s.es.bk.c 1 _ rfl
 have k0:=s.es.bk.c 0 _ rfl
 have g1:¬(ep:Int)=2147483647:=by omega
 have y1:IntKind.i64.wrap ((ep:Int)+1)=(ep:Int)+1:=by rw[IntKind.wrap_i64];omega
 obtain⟨S,hS⟩:∃S,st (69::ben (ep+1) 4)=S:=⟨_,rfl⟩
 rw[hS] at ER WR
 clear hS s h hx sn1 mr hl
 go_enter Tryz.func42, Tryz.ntmps42
 go_wp2_with fail
 refine Calls.mono ER.out ?_
 rintro e w2 ⟨rfl,hb⟩
 have W3:Hid _:=WR.out w2 hb
 clear WR ER hb
 go_wp2_with fail
 refine Calls.mono W3.out ?_
 rintro e w4 ⟨rfl,s4⟩
 have FF:Hid _:=s4
 clear s4 W3
 go_wp2
 go_ret
 exact⟨rfl,FF.out⟩
theorem samong_is (x:Int) (N:Nat) (h0:0 < N) (h1:N≤1000) :
  ∃m:Nat,m < N∧(∀i:Nat,x=(i:Int)→i < N→m=i)∧∀w,Calls Tryz.prog 45 #[.int .i64 x,.int .i64 (N:Int)] w fun e w'=>e = .returned (.int .i64 (m:Int))∧w'=w:=by
 have hN:(0:Int) < (N:Int):=by omega
 have r1:=Int.tmod_lt_of_pos x hN
 have r2:=Int.lt_tmod_of_pos x hN
 obtain⟨r,hr⟩:∃r,Int.tmod x (N:Int)=r:=⟨_,rfl⟩
 rw[hr] at r1 r2
 have s1:=Int.tmod_lt_of_pos (r+(N:Int)) hN
 have s2:=Int.tmod_nonneg (N:Int) (show 0≤r+(N:Int) by omega)
 obtain⟨m,hm⟩:∃m:Nat,Int.tmod (r+(N:Int)) (N:Int)=(m:Int):=⟨(Int.tmod (r+(N:Int)) (N:Int)).toNat,by omega⟩
 rw[hm] at s1
 have z1:IntKind.i64.wrap (Int.tmod x (N:Int))=r:=by rw[hr,IntKind.wrap_i64];omega
 have z2:IntKind.i64.wrap (r+(N:Int))=r+(N:Int):=by rw[IntKind.wrap_i64];omega
 have z3:IntKind.i64.wrap (Int.tmod (r+(N:Int)) (N:Int))=(m:Int):=by rw[hm,IntKind.wrap_i64];omega
 have hN2:¬(N:Int)=0:=by omega
 have hi:∀i:Nat,x=(i:Int)→i < N→m=i:=fun i e hi=>by
  have e1:r=(i:Int):=by rw[←hr,e,Int.tmod_eq_of_lt (by omega) (by omega)]
  have e2:Int.tmod (r+(N:Int)) (N:Int)=(i:Int):=by
   rw[e1,Int.tmod_eq_emod_of_nonneg (by omega),Int.add_emod_right,Int.emod_eq_of_lt (by omega) (by omega)]
  rw[hm] at e2
  omega
 refine⟨m,by omega,hi,fun w => ?_⟩
 clear r1 r2 s1 s2 h0 h1 hN hi
 go_enter Tryz.func45, Tryz.ntmps45
 go_wp2
 go_ret
 exact⟨rfl,rfl⟩
def tl:Bs:=[105,120,116,101,101,110,32,98,121,116,101,115,32,33,33]
end Go.Proofs.YtdcimnmebgkmjaaGreatDoor
