/- The document's boxes: a record is taken. -/
import Derived.Test.YtjpaodepnacimaaGreatDoorZdG26
namespace Go.Proofs.YtjpaodepnacimaaGreatDoor
open Go.RowKit Go.Proofs.Fd Go.Proofs.Dk Go.Proofs.Lg Go.Proofs.Bx
set_option maxRecDepth 20000
set_option linter.unusedVariables false
theorem sl_headE (a:Option Addr) (n c i:Nat) (hi:i≤n) (hc:n≤c) (h0:a=none→n=0∧c=0) (hs:∀x,a=some x→x.spot=none) (W:World):(Instr.slice 91 (.slice a n c) none (some (.int .i64 (i:Int))) none).run Tryz.prog W = .ok (.slice a i c) W:=by
 cases a with
 | none =>
  obtain⟨rfl,rfl⟩:=h0 rfl
  obtain rfl:i=0:=by omega
  simp[go_sem]
 | some x =>
  obtain⟨b,o,sp⟩:=x
  have:sp=none:=hs _ rfl
  subst this
  have h1:(i:Int)≤(c:Int):=by omega
  simp[go_sem,h1]
theorem sl_tailE (w:World) (b o n c i:Nat) (E:List En) (h:EnAt w (some ⟨b,o,none⟩) E) (hl:E.length=n) (hi:i≤n) (hc:n≤c):∃o2,(∀W,(Instr.slice 91 (.slice (some ⟨b,o,none⟩) n c) (some (.int .i64 (i:Int))) none none).run Tryz.prog W = .ok (.slice (some ⟨b,o2,none⟩) (n - i) (c - i)) W)∧EnAt w (some ⟨b,o2,none⟩) (E.drop i):=by
 have h1:(i:Int)≤(n:Int):=by omega
 by_cases q:c=i
 ·refine⟨o,fun W=>by simp[go_sem,h1,q],?_⟩
  rw[List.drop_of_length_le (by omega)]
  exact EnAt.nil _ _
 ·exact⟨o+i*3,fun W=>by simp[go_sem,h1,q],h.drop i⟩
theorem app_en (base:Nat) (W:World) (ty:TypeId) (v:Value) (E:List En) (h:W.ownsRow base 125 3 v E.length (ecx E)) (hb:base≤W.heap.size) (a:Option Addr) (n c:Nat) (F:List En) (hF:F.length=n) (ha:EnAt W a F) (h0:a=none→n=0∧c=0) (he:E.length≤200000) (hn:n≤200000) :
  ∃v' W2,(Builtin.append_ #[91, 91] ty #[v,.slice a n c]).run Tryz.prog W = .ok v' W2∧W2.ownsRow base 125 3 v' (E++F).length (ecx (E++F))∧Below base W W2:=by
 obtain⟨i0,hi,hz0,hz1,hz2⟩:=info_parts infoE
 cases a with
 | none =>
  obtain⟨rfl,rfl⟩:=h0 rfl
  obtain rfl:=List.length_eq_zero_iff.1 hF
  refine⟨v,W,run_append_owned_none (P:=Tryz.prog) W base 91 ty 125 i0 3 Tryz.underlying91 hi v _ _ h,?_,Below.refl _ _⟩
  rw[List.append_nil]
  exact h
 | some x =>
  obtain⟨v',w',r1,r2,r3,-,-⟩:=run_append_own_at (P:=Tryz.prog) W base 91 ty 125 i0 _ 3 40 Tryz.underlying91 hi hz0 hz1 hz2 rfl (by decide) v E.length (ecx E) h x n c (ecx F) (by rw[ecx_len,hF]) (ha.cells) (ecx_one _) (by unfold maxLen;omega) (by omega) hb
  refine⟨v',w',r1,?_,((Below.refl base W).grown r3 hb (fun q hq=>(h.lt q hq).1))⟩
  rw[ecx_app,List.length_append,hF]
  exact r2
theorem copy_en (w:World) (a:Option Addr) (n c:Nat) (F:List En) (hF:F.length=n) (ha:EnAt w a F) (h0:a=none→n=0∧c=0) (hn:n≤100000) :
  ∃v W2,(Builtin.append_ #[91, 91] 91 #[.slice (some ⟨w.heap.size,0,none⟩) 0 0,.slice a n c]).run Tryz.prog (w.alloc (.cells #[] 125)) = .ok v W2∧W2.ownsRow w.heap.size 125 3 v F.length (ecx F)∧Below w.heap.size w W2:=by
 have o0:(w.alloc (.cells #[] 125)).ownsRow w.heap.size 125 3 (.slice (some ⟨w.heap.size,0,none⟩) 0 0) ([]:List En).length (ecx []):=World.ownsRow_made (base:=w.heap.size) (e := 125) (size:=3) w #[] 0 (Nat.le_refl _) (Nat.zero_le _) rfl
 have b0:=nb w (.cells #[] 125)
 obtain⟨v,W2,r1,r2,r3⟩:=app_en w.heap.size (w.alloc (.cells #[] 125)) 91 _ [] o0 b0.size a n c F hF (ha.later b0) h0 (by decide) (by omega)
 exact⟨v,W2,r1,r2,b0.trans r3⟩
def TkR (w:World) (o:Option (List En)) (e:Ending) (w':World):Prop :=
 match o with
 | none=>e = .returned (.tuple #[.slice none 0 0,.bool false])∧Below w.heap.size w w'
 | some F=>∃v,e = .returned (.tuple #[v,.bool true])∧w'.ownsRow w.heap.size 125 3 v F.length (ecx F)∧Below w.heap.size w w'
theorem tkr_no {w w':World} {o:Option (List En)} (h:o=none) (hb:Below w.heap.size w w'):TkR w o (.returned (.tuple #[.slice none 0 0,.bool false])) w':=by
 subst h
 exact⟨rfl,hb⟩
theorem tkr_is {w w':World} {o:Option (List En)} {F:List En} {v:Value} (h:o=some F) (ho:w'.ownsRow w.heap.size 125 3 v F.length (ecx F)) (hb:Below w.heap.size w w'):TkR w o (.returned (.tuple #[v,.bool true])) w':=by
 subst h
 exact⟨v,rfl,ho,hb⟩
theorem tkL_low (E:List En) (d x:UInt8) (s:Bs) (hs:16≤s.length) (hx:x.toNat < 64):tkL E (d::x::s)=if (decide (d=80) && okI (s.take 16) && decide ((s.drop 16).length≤222) && !decide (s.take 16∈ids (ofE E x.toNat)))=true then some (E++[(x.toNat,(s.take 16,s.drop 16))]) else if (decide (d=65) && decide (s.drop 16=[]) && decide (s.take 16∈ids (ofE E x.toNat)))=true then some (rmE E x.toNat (s.take 16)) else none:=by
 have hl:low (d::x::s)=true:=by
  unfold low
  have:rU (d::x::s)=x.toNat:=rfl
  rw[this]
  simp[hx]
  omega
 unfold tkL
 rw[if_pos hl]
 rfl
def opyk3_0:Oper:={ dst:=some 20,op:=Go.Op.move (Go.Operand.tmp 1),type := 9, pos := "ref.go:58", after:=#[],guard:=none }
def opyk3_1:Oper:={ dst:=some 21,op:=Go.Op.index 9 (Go.Operand.tmp 20) (Go.Operand.const (Go.Value.int Go.IntKind.i64 1)),type := 5, pos := "ref.go:58", after:=#[{ on:=0,ground:=Go.Ground.data }],guard:=none }
def opyk3_2:Oper:={ dst:=some 22,op:=Go.Op.convert 5 3 (Go.Operand.tmp 21),type := 3, pos := "ref.go:58", after:=#[{ on:=1,ground:=Go.Ground.data }],guard:=none }
def opyk3_3:Oper:={ dst:=some 23,op:=Go.Op.move (Go.Operand.tmp 1),type := 9, pos := "ref.go:58", after:=#[],guard:=none }
def opyk3_4:Oper:={ dst:=some 24,op:=Go.Op.slice 9 (Go.Operand.tmp 23) (some (Go.Operand.const (Go.Value.int Go.IntKind.i64 2))) (some (Go.Operand.const (Go.Value.int Go.IntKind.i64 18))) none,type := 9, pos := "ref.go:58", after:=#[{ on:=3,ground:=Go.Ground.data }],guard:=none }
def opyk3_5:Oper:={ dst:=some 25,op:=Go.Op.move (Go.Operand.tmp 1),type := 9, pos := "ref.go:58", after:=#[],guard:=none }
def opyk3_6:Oper:={ dst:=some 26,op:=Go.Op.slice 9 (Go.Operand.tmp 25) (some (Go.Operand.const (Go.Value.int Go.IntKind.i64 18))) none none,type := 9, pos := "ref.go:58", after:=#[{ on:=5,ground:=Go.Ground.data }],guard:=none }
def opyk3_7:Oper:={ dst:=some 6,op:=Go.Op.assign (Go.Operand.tmp 22),type := 3, pos := "ref.go:58", after:=#[{ on:=2,ground:=Go.Ground.data },{ on:=0,ground:=Go.Ground.phase },{ on:=1,ground:=Go.Ground.phase },{ on:=2,ground:=Go.Ground.phase },{ on:=3,ground:=Go.Ground.textOnly Go.Departure.lateStores },{ on:=4,ground:=Go.Ground.textOnly Go.Departure.lateStoresUnsure },{ on:=5,ground:=Go.Ground.textOnly Go.Departure.lateStores },{ on:=6,ground:=Go.Ground.textOnly Go.Departure.lateStoresUnsure }],guard:=none }
def opyk3_8:Oper:={ dst:=some 7,op:=Go.Op.assign (Go.Operand.tmp 24),type := 9, pos := "ref.go:58", after:=#[{ on:=4,ground:=Go.Ground.data },{ on:=7,ground:=Go.Ground.chain },{ on:=0,ground:=Go.Ground.phase },{ on:=1,ground:=Go.Ground.phase },{ on:=2,ground:=Go.Ground.phase },{ on:=3,ground:=Go.Ground.phase },{ on:=4,ground:=Go.Ground.phase },{ on:=5,ground:=Go.Ground.textOnly Go.Departure.lateStores },{ on:=6,ground:=Go.Ground.textOnly Go.Departure.lateStoresUnsure },{ on:=7,ground:=Go.Ground.phase }],guard:=none }
def opyk3_9:Oper:={ dst:=some 8,op:=Go.Op.assign (Go.Operand.tmp 26),type := 9, pos := "ref.go:58", after:=#[{ on:=6,ground:=Go.Ground.data },{ on:=8,ground:=Go.Ground.chain },{ on:=0,ground:=Go.Ground.phase },{ on:=1,ground:=Go.Ground.phase },{ on:=2,ground:=Go.Ground.phase },{ on:=3,ground:=Go.Ground.phase },{ on:=4,ground:=Go.Ground.phase },{ on:=5,ground:=Go.Ground.phase },{ on:=6,ground:=Go.Ground.phase },{ on:=7,ground:=Go.Ground.phase },{ on:=8,ground:=Go.Ground.phase }],guard:=none }
def opyk8_0:Oper:={ dst:=some 68,op:=Go.Op.buildSlice 91 0 #[],type := 91, pos := "ref.go:64", after:=#[],guard:=none }
def opyk8_1:Oper:={ dst:=some 69,op:=Go.Op.move (Go.Operand.tmp 0),type := 91, pos := "ref.go:64", after:=#[],guard:=none }
def opyk8_2:Oper:={ dst:=some 70,op:=Go.Op.move (Go.Operand.tmp 9),type := 3, pos := "ref.go:64", after:=#[],guard:=none }
def opyk8_3:Oper:={ dst:=some 71,op:=Go.Op.slice 91 (Go.Operand.tmp 69) none (some (Go.Operand.tmp 70)) none,type := 91, pos := "ref.go:64", after:=#[{ on:=1,ground:=Go.Ground.data },{ on:=2,ground:=Go.Ground.data }],guard:=none }
def opyk8_4:Oper:={ dst:=some 72,op:=Go.Op.call { callee:=Go.Callee.builtin Go.Builtin.append,args:=#[Go.Operand.tmp 68,Go.Operand.tmp 71],argTypes:=#[91, 91] },type := 91, pos := "ref.go:64", after:=#[{ on:=0,ground:=Go.Ground.data },{ on:=3,ground:=Go.Ground.data }],guard:=none }
def opyk8_5:Oper:={ dst:=some 73,op:=Go.Op.move (Go.Operand.tmp 0),type := 91, pos := "ref.go:64", after:=#[],guard:=none }
def opyk8_6:Oper:={ dst:=some 74,op:=Go.Op.move (Go.Operand.tmp 9),type := 3, pos := "ref.go:64", after:=#[],guard:=none }
def opyk8_7:Oper:={ dst:=some 75,op:=Go.Op.binOp Go.BinOp.add 3 (Go.Operand.tmp 74) (Go.Operand.const (Go.Value.int Go.IntKind.i64 1)) 3, type := 3, pos := "ref.go:64", after:=#[{ on:=6,ground:=Go.Ground.data }],guard:=none }
def opyk8_8:Oper:={ dst:=some 76,op:=Go.Op.slice 91 (Go.Operand.tmp 73) (some (Go.Operand.tmp 75)) none none,type := 91, pos := "ref.go:64", after:=#[{ on:=5,ground:=Go.Ground.data },{ on:=7,ground:=Go.Ground.data }],guard:=none }
def opyk8_9:Oper:={ dst:=some 77,op:=Go.Op.call { callee:=Go.Callee.builtin Go.Builtin.append,args:=#[Go.Operand.tmp 72,Go.Operand.tmp 76],argTypes:=#[91, 91] },type := 91, pos := "ref.go:64", after:=#[{ on:=4,ground:=Go.Ground.data },{ on:=8,ground:=Go.Ground.data },{ on:=4,ground:=Go.Ground.chain }],guard:=none }
def opyk8_10:Oper:={ dst:=some 4,op:=Go.Op.assign (Go.Operand.tmp 77),type := 91, pos := "ref.go:64", after:=#[{ on:=9,ground:=Go.Ground.data },{ on:=9,ground:=Go.Ground.chain },{ on:=0,ground:=Go.Ground.phase },{ on:=1,ground:=Go.Ground.phase },{ on:=2,ground:=Go.Ground.phase },{ on:=3,ground:=Go.Ground.phase },{ on:=4,ground:=Go.Ground.phase },{ on:=5,ground:=Go.Ground.phase },{ on:=6,ground:=Go.Ground.phase },{ on:=7,ground:=Go.Ground.phase },{ on:=8,ground:=Go.Ground.phase },{ on:=9,ground:=Go.Ground.phase }],guard:=none }
def opyk8_11:Oper:={ dst:=some 5,op:=Go.Op.assign (Go.Operand.const (Go.Value.bool true)),type := 4, pos := "ref.go:64", after:=#[{ on:=10,ground:=Go.Ground.chain },{ on:=0,ground:=Go.Ground.phase },{ on:=1,ground:=Go.Ground.phase },{ on:=2,ground:=Go.Ground.phase },{ on:=3,ground:=Go.Ground.phase },{ on:=4,ground:=Go.Ground.phase },{ on:=5,ground:=Go.Ground.phase },{ on:=6,ground:=Go.Ground.phase },{ on:=7,ground:=Go.Ground.phase },{ on:=8,ground:=Go.Ground.phase },{ on:=9,ground:=Go.Ground.phase },{ on:=10,ground:=Go.Ground.phase }],guard:=none }
set_option maxHeartbeats 4000000 in
theorem ybtake_ok0 (d x:UInt8) (s:Bs) (hs:16≤s.length) (hx:x.toNat < 64) (hs2:s.length≤2000) (a:Option Addr) (n c:Nat) (E:List En) (hn:E.length=n) (hn1:n≤100000) (hnc:n≤c) (h0:a=none→n=0∧c=0) (hsp:∀y,a=some y→y.spot=none) (w:World) (h:Hid (EnAt w a E)) (hd:d=80) (ho:okI (s.take 16)=false) :
  Calls Tryz.prog 47 #[.slice a n c,.string (st (d::x::s))] w fun e w'=>TkR w (tkL E (d::x::s)) e w':=by
 have TL:=tkL_low E d x s hs hx
 have hR:(st (d::x::s)).size=s.length+2:=by rw[st_size];rfl
 have z0:∀hh:0 < (st (d::x::s)).size,(st (d::x::s))[0]'hh=d:=fun _=>rfl
 have z1:∀hh:1 < (st (d::x::s)).size,(st (d::x::s))[1]'hh=x:=fun _=>rfl
 have x1:(st (d::x::s)).extract 2 18=st (s.take 16):=by rw[st_ext];rfl
 have x2:(st (d::x::s)).extract 18 (st (d::x::s)).size=st (s.drop 16):=by
  rw[st_ext,hR,List.take_of_length_le (show s.length+1+1≤s.length+2 from Nat.le_refl _)]
  rfl
 have hxl:=x.toNat_lt
 have US:Hid (∀W,Calls Tryz.prog 56 #[.int .i64 (x.toNat:Int)] W fun e w'=>e = .returned (.bool true)∧w'=W):=fun W=>by
  have:=ybuser_any (x.toNat:Int) W
  rw[show noU (x.toNat:Int)=false by unfold noU;simp;omega] at this
  exact this
 have AT0:=ybat_any a n c E x.toNat (st (s.take 16)) hn (by omega) w.drew (h.out.later (Below.refl _ _).drew)
 have IDC:Hid (∀W,Calls Tryz.prog 57 #[.string (st (s.take 16))] W fun e w'=>e = .returned (.bool (okI (s.take 16)))∧Below W.heap.size W w'):=fun W=>by
  have:=ybid_any (st (s.take 16)) W
  rw[st_data] at this
  exact this
 rw[st_data] at AT0
 have HY:(st (s.drop 16)).size=(s.drop 16).length:=st_size _
 subst hd
 have RES:Hid (tkL E (80::x::s)=none):=by show _=_;rw[TL,if_neg (by rw[ho];simp),if_neg (by simp)]
 rw[ho] at IDC
 obtain⟨f,hf⟩:∃f,fndE E x.toNat (s.take 16)=f:=⟨_,rfl⟩
 rw[hf] at AT0
 obtain⟨R,hRR⟩:∃R,st (80::x::s)=R:=⟨_,rfl⟩
 obtain⟨I,hII⟩:∃R,st (s.take 16)=R:=⟨_,rfl⟩
 obtain⟨Y,hYY⟩:∃R,st (s.drop 16)=R:=⟨_,rfl⟩
 have YE:Hid (Y=st (s.drop 16)):=hYY.symm
 have IE:Hid (I=st (s.take 16)):=hII.symm
 rw[hRR] at hR z0 z1 x1 x2 ⊢
 rw[hII] at x1 AT0 IDC
 rw[hYY] at x2
 clear HY
 have AT:Hid _:=AT0
 have g1:¬(R.size:Int) < 18:=by omega
 have g2:(1:Int) < (R.size:Int):=by omega
 have g3:1 < R.size:=by omega
 have g4:18≤R.size:=by omega
 have g5:(18:Int)≤(R.size:Int):=by omega
 have g6:0 < R.size:=by omega
 have g7:(0:Int) < (R.size:Int):=by omega
 have z0':=z0 g6
 have z1':=z1 g3
 have ew:IntKind.i64.wrap (x.toNat:Int)=(x.toNat:Int):=by rw[IntKind.wrap_i64];omega
 clear z0 z1 hRR hII hYY AT0 TL hR
 go_enter Tryz.func47, Tryz.ntmps47
 go_wp2_with fail
 refine Calls.mono (US.out _) ?_
 rintro e w1 ⟨rfl,hw1⟩
 subst hw1
 clear US
 have BD:Hid (Below w1.heap.size w1 w1.drew):=(Below.refl _ _).drew
 go_upto_region 3 with fail
 refine wp_region_noPanic ?_
 refine wp_region_held_drew (S:=fun _=>True) (by kernel_rfl) (trivial) (fun hHeld => ?_)
 refine wT 0 opyk3_0 ?_ ?_ ?_;rotate_left
 ·intro w' hSw;clear hSw;unfold opyk3_0;first|(go_simp;done)|(go_simp;with_reducible rfl)
 simp only[opyk3_0,Act.put,wA,wB,wC]
 refine wT 1 opyk3_1 ?_ ?_ ?_;rotate_left
 ·intro w' hSw;clear hSw;unfold opyk3_1;first|(go_simp;done)|(go_simp;with_reducible rfl)
 simp only[opyk3_1,Act.put,wA,wB,wC]
 refine wT 2 opyk3_2 ?_ ?_ ?_;rotate_left
 ·intro w' hSw;clear hSw;unfold opyk3_2;first|(go_simp;done)|(go_simp;with_reducible rfl)
 simp only[opyk3_2,Act.put,wA,wB,wC]
 refine wT 3 opyk3_3 ?_ ?_ ?_;rotate_left
 ·intro w' hSw;clear hSw;unfold opyk3_3;first|(go_simp;done)|(go_simp;with_reducible rfl)
 simp only[opyk3_3,Act.put,wA,wB,wC]
 refine wT 4 opyk3_4 ?_ ?_ ?_;rotate_left
 ·intro w' hSw;clear hSw;unfold opyk3_4;first|(go_simp;done)|(go_simp;with_reducible rfl)
 simp only[opyk3_4,Act.put,wA,wB,wC]
 refine wT 5 opyk3_5 ?_ ?_ ?_;rotate_left
 ·intro w' hSw;clear hSw;unfold opyk3_5;first|(go_simp;done)|(go_simp;with_reducible rfl)
 simp only[opyk3_5,Act.put,wA,wB,wC]
 refine wT 6 opyk3_6 ?_ ?_ ?_;rotate_left
 ·intro w' hSw;clear hSw;unfold opyk3_6;first|(go_simp;done)|(go_simp;with_reducible rfl)
 simp only[opyk3_6,Act.put,wA,wB,wC]
 refine wT 7 opyk3_7 ?_ ?_ ?_;rotate_left
 ·intro w' hSw;clear hSw;unfold opyk3_7;first|(go_simp;done)|(go_simp;with_reducible rfl)
 simp only[opyk3_7,Act.put,wA,wB,wC]
 refine wT 8 opyk3_8 ?_ ?_ ?_;rotate_left
 ·intro w' hSw;clear hSw;unfold opyk3_8;first|(go_simp;done)|(go_simp;with_reducible rfl)
 simp only[opyk3_8,Act.put,wA,wB,wC]
 refine wT 9 opyk3_9 ?_ ?_ ?_;rotate_left
 ·intro w' hSw;clear hSw;unfold opyk3_9;first|(go_simp;done)|(go_simp;with_reducible rfl)
 simp only[opyk3_9,Act.put,wA,wB,wC]
 refine wpAnyH_done (by kernel_rfl) ?_ _
 refine NoPanic.normal ?_
 go_wp2_with fail
 refine Calls.mono AT.out ?_
 rintro e w2 ⟨rfl,hw2⟩
 have hw2':=hw2.symm
 subst hw2'
 clear AT hw2
 go_wp2_with fail
 refine Calls.mono (IDC.out _) ?_
 rintro e w3 ⟨rfl,hb3⟩
 have B3:Hid (Below w1.heap.size w1 w3):=chain BD.out hb3
 clear IDC hb3
 go_wp2
 go_ret2
 exact tkr_no RES.out B3.out
set_option maxHeartbeats 4000000 in
theorem ybtake_long (d x:UInt8) (s:Bs) (hs:16≤s.length) (hx:x.toNat < 64) (hs2:s.length≤2000) (a:Option Addr) (n c:Nat) (E:List En) (hn:E.length=n) (hn1:n≤100000) (hnc:n≤c) (h0:a=none→n=0∧c=0) (hsp:∀y,a=some y→y.spot=none) (w:World) (h:Hid (EnAt w a E)) (hd:d=80) (ho:okI (s.take 16)=true) (hl:¬(s.drop 16).length≤222) :
  Calls Tryz.prog 47 #[.slice a n c,.string (st (d::x::s))] w fun e w'=>TkR w (tkL E (d::x::s)) e w':=by
 have TL:=tkL_low E d x s hs hx
 have hR:(st (d::x::s)).size=s.length+2:=by rw[st_size];rfl
 have z0:∀hh:0 < (st (d::x::s)).size,(st (d::x::s))[0]'hh=d:=fun _=>rfl
 have z1:∀hh:1 < (st (d::x::s)).size,(st (d::x::s))[1]'hh=x:=fun _=>rfl
 have x1:(st (d::x::s)).extract 2 18=st (s.take 16):=by rw[st_ext];rfl
 have x2:(st (d::x::s)).extract 18 (st (d::x::s)).size=st (s.drop 16):=by
  rw[st_ext,hR,List.take_of_length_le (show s.length+1+1≤s.length+2 from Nat.le_refl _)]
  rfl
 have hxl:=x.toNat_lt
 have US:Hid (∀W,Calls Tryz.prog 56 #[.int .i64 (x.toNat:Int)] W fun e w'=>e = .returned (.bool true)∧w'=W):=fun W=>by
  have:=ybuser_any (x.toNat:Int) W
  rw[show noU (x.toNat:Int)=false by unfold noU;simp;omega] at this
  exact this
 have AT0:=ybat_any a n c E x.toNat (st (s.take 16)) hn (by omega) w.drew (h.out.later (Below.refl _ _).drew)
 have IDC:Hid (∀W,Calls Tryz.prog 57 #[.string (st (s.take 16))] W fun e w'=>e = .returned (.bool (okI (s.take 16)))∧Below W.heap.size W w'):=fun W=>by
  have:=ybid_any (st (s.take 16)) W
  rw[st_data] at this
  exact this
 rw[st_data] at AT0
 have HY:(st (s.drop 16)).size=(s.drop 16).length:=st_size _
 subst hd
 have hl2:¬s.length - 16≤222:=by rw[List.length_drop] at hl;exact hl
 have RES:Hid (tkL E (80::x::s)=none):=by show _=_;rw[TL,if_neg (by rw[decide_eq_false hl];simp),if_neg (by simp)]
 rw[ho] at IDC
 have gl:¬((st (s.drop 16)).size:Int)≤222:=by omega
 obtain⟨f,hf⟩:∃f,fndE E x.toNat (s.take 16)=f:=⟨_,rfl⟩
 rw[hf] at AT0
 obtain⟨R,hRR⟩:∃R,st (80::x::s)=R:=⟨_,rfl⟩
 obtain⟨I,hII⟩:∃R,st (s.take 16)=R:=⟨_,rfl⟩
 obtain⟨Y,hYY⟩:∃R,st (s.drop 16)=R:=⟨_,rfl⟩
 have YE:Hid (Y=st (s.drop 16)):=hYY.symm
 have IE:Hid (I=st (s.take 16)):=hII.symm
 rw[hRR] at hR z0 z1 x1 x2 ⊢
 rw[hII] at x1 AT0 IDC
 rw[hYY] at x2 gl
 clear HY
 have AT:Hid _:=AT0
 have g1:¬(R.size:Int) < 18:=by omega
 have g2:(1:Int) < (R.size:Int):=by omega
 have g3:1 < R.size:=by omega
 have g4:18≤R.size:=by omega
 have g5:(18:Int)≤(R.size:Int):=by omega
 have g6:0 < R.size:=by omega
 have g7:(0:Int) < (R.size:Int):=by omega
 have z0':=z0 g6
 have z1':=z1 g3
 have ew:IntKind.i64.wrap (x.toNat:Int)=(x.toNat:Int):=by rw[IntKind.wrap_i64];omega
 clear z0 z1 hRR hII hYY AT0 TL hR
 go_enter Tryz.func47, Tryz.ntmps47
 go_wp2_with fail
 refine Calls.mono (US.out _) ?_
 rintro e w1 ⟨rfl,hw1⟩
 subst hw1
 clear US
 have BD:Hid (Below w1.heap.size w1 w1.drew):=(Below.refl _ _).drew
 go_upto_region 3 with fail
 refine wp_region_noPanic ?_
 refine wp_region_held_drew (S:=fun _=>True) (by kernel_rfl) (trivial) (fun hHeld => ?_)
 refine wT 0 opyk3_0 ?_ ?_ ?_;rotate_left
 ·intro w' hSw;clear hSw;unfold opyk3_0;first|(go_simp;done)|(go_simp;with_reducible rfl)
 simp only[opyk3_0,Act.put,wA,wB,wC]
 refine wT 1 opyk3_1 ?_ ?_ ?_;rotate_left
 ·intro w' hSw;clear hSw;unfold opyk3_1;first|(go_simp;done)|(go_simp;with_reducible rfl)
 simp only[opyk3_1,Act.put,wA,wB,wC]
 refine wT 2 opyk3_2 ?_ ?_ ?_;rotate_left
 ·intro w' hSw;clear hSw;unfold opyk3_2;first|(go_simp;done)|(go_simp;with_reducible rfl)
 simp only[opyk3_2,Act.put,wA,wB,wC]
 refine wT 3 opyk3_3 ?_ ?_ ?_;rotate_left
 ·intro w' hSw;clear hSw;unfold opyk3_3;first|(go_simp;done)|(go_simp;with_reducible rfl)
 simp only[opyk3_3,Act.put,wA,wB,wC]
 refine wT 4 opyk3_4 ?_ ?_ ?_;rotate_left
 ·intro w' hSw;clear hSw;unfold opyk3_4;first|(go_simp;done)|(go_simp;with_reducible rfl)
 simp only[opyk3_4,Act.put,wA,wB,wC]
 refine wT 5 opyk3_5 ?_ ?_ ?_;rotate_left
 ·intro w' hSw;clear hSw;unfold opyk3_5;first|(go_simp;done)|(go_simp;with_reducible rfl)
 simp only[opyk3_5,Act.put,wA,wB,wC]
 refine wT 6 opyk3_6 ?_ ?_ ?_;rotate_left
 ·intro w' hSw;clear hSw;unfold opyk3_6;first|(go_simp;done)|(go_simp;with_reducible rfl)
 simp only[opyk3_6,Act.put,wA,wB,wC]
 refine wT 7 opyk3_7 ?_ ?_ ?_;rotate_left
 ·intro w' hSw;clear hSw;unfold opyk3_7;first|(go_simp;done)|(go_simp;with_reducible rfl)
 simp only[opyk3_7,Act.put,wA,wB,wC]
 refine wT 8 opyk3_8 ?_ ?_ ?_;rotate_left
 ·intro w' hSw;clear hSw;unfold opyk3_8;first|(go_simp;done)|(go_simp;with_reducible rfl)
 simp only[opyk3_8,Act.put,wA,wB,wC]
 refine wT 9 opyk3_9 ?_ ?_ ?_;rotate_left
 ·intro w' hSw;clear hSw;unfold opyk3_9;first|(go_simp;done)|(go_simp;with_reducible rfl)
 simp only[opyk3_9,Act.put,wA,wB,wC]
 refine wpAnyH_done (by kernel_rfl) ?_ _
 refine NoPanic.normal ?_
 go_wp2_with fail
 refine Calls.mono AT.out ?_
 rintro e w2 ⟨rfl,hw2⟩
 have hw2':=hw2.symm
 subst hw2'
 clear AT hw2
 go_wp2_with fail
 refine Calls.mono (IDC.out _) ?_
 rintro e w3 ⟨rfl,hb3⟩
 have B3:Hid (Below w1.heap.size w1 w3):=chain BD.out hb3
 clear IDC hb3
 go_wp2
 go_ret2
 exact tkr_no RES.out B3.out
set_option maxHeartbeats 4000000 in
theorem ybtake_mem (d x:UInt8) (s:Bs) (hs:16≤s.length) (hx:x.toNat < 64) (hs2:s.length≤2000) (a:Option Addr) (n c:Nat) (E:List En) (hn:E.length=n) (hn1:n≤100000) (hnc:n≤c) (h0:a=none→n=0∧c=0) (hsp:∀y,a=some y→y.spot=none) (w:World) (h:Hid (EnAt w a E)) (hd:d=80) (ho:okI (s.take 16)=true) (hl:(s.drop 16).length≤222) (hm:s.take 16∈ids (ofE E x.toNat)) :
  Calls Tryz.prog 47 #[.slice a n c,.string (st (d::x::s))] w fun e w'=>TkR w (tkL E (d::x::s)) e w':=by
 have TL:=tkL_low E d x s hs hx
 have hR:(st (d::x::s)).size=s.length+2:=by rw[st_size];rfl
 have z0:∀hh:0 < (st (d::x::s)).size,(st (d::x::s))[0]'hh=d:=fun _=>rfl
 have z1:∀hh:1 < (st (d::x::s)).size,(st (d::x::s))[1]'hh=x:=fun _=>rfl
 have x1:(st (d::x::s)).extract 2 18=st (s.take 16):=by rw[st_ext];rfl
 have x2:(st (d::x::s)).extract 18 (st (d::x::s)).size=st (s.drop 16):=by
  rw[st_ext,hR,List.take_of_length_le (show s.length+1+1≤s.length+2 from Nat.le_refl _)]
  rfl
 have hxl:=x.toNat_lt
 have US:Hid (∀W,Calls Tryz.prog 56 #[.int .i64 (x.toNat:Int)] W fun e w'=>e = .returned (.bool true)∧w'=W):=fun W=>by
  have:=ybuser_any (x.toNat:Int) W
  rw[show noU (x.toNat:Int)=false by unfold noU;simp;omega] at this
  exact this
 have AT0:=ybat_any a n c E x.toNat (st (s.take 16)) hn (by omega) w.drew (h.out.later (Below.refl _ _).drew)
 have IDC:Hid (∀W,Calls Tryz.prog 57 #[.string (st (s.take 16))] W fun e w'=>e = .returned (.bool (okI (s.take 16)))∧Below W.heap.size W w'):=fun W=>by
  have:=ybid_any (st (s.take 16)) W
  rw[st_data] at this
  exact this
 rw[st_data] at AT0
 have HY:(st (s.drop 16)).size=(s.drop 16).length:=st_size _
 subst hd
 have RES:Hid (tkL E (80::x::s)=none):=by show _=_;rw[TL,if_neg (by rw[decide_eq_true hm];simp),if_neg (by simp)]
 rw[ho] at IDC
 have gl:((st (s.drop 16)).size:Int)≤222:=by omega
 obtain⟨p,hp⟩:∃p,Bx.plc E x.toNat (s.take 16)=p:=⟨_,rfl⟩
 have hpn:p < n:=by rw[←hp,←hn];exact (Bx.plc_lt E x.toNat (s.take 16)).2 hm
 have hf:fndE E x.toNat (s.take 16)=(p:Int):=by rw[fndE,if_pos hm,hp]
 rw[hf] at AT0
 have gp:¬(p:Int) < 0:=by omega
 have gp2:(0:Int)≤(p:Int):=by omega
 obtain⟨R,hRR⟩:∃R,st (80::x::s)=R:=⟨_,rfl⟩
 obtain⟨I,hII⟩:∃R,st (s.take 16)=R:=⟨_,rfl⟩
 obtain⟨Y,hYY⟩:∃R,st (s.drop 16)=R:=⟨_,rfl⟩
 have YE:Hid (Y=st (s.drop 16)):=hYY.symm
 have IE:Hid (I=st (s.take 16)):=hII.symm
 rw[hRR] at hR z0 z1 x1 x2 ⊢
 rw[hII] at x1 AT0 IDC
 rw[hYY] at x2 gl
 clear HY
 have AT:Hid _:=AT0
 have g1:¬(R.size:Int) < 18:=by omega
 have g2:(1:Int) < (R.size:Int):=by omega
 have g3:1 < R.size:=by omega
 have g4:18≤R.size:=by omega
 have g5:(18:Int)≤(R.size:Int):=by omega
 have g6:0 < R.size:=by omega
 have g7:(0:Int) < (R.size:Int):=by omega
 have z0':=z0 g6
 have z1':=z1 g3
 have ew:IntKind.i64.wrap (x.toNat:Int)=(x.toNat:Int):=by rw[IntKind.wrap_i64];omega
 clear z0 z1 hRR hII hYY AT0 TL hR
 go_enter Tryz.func47, Tryz.ntmps47
 go_wp2_with fail
 refine Calls.mono (US.out _) ?_
 rintro e w1 ⟨rfl,hw1⟩
 subst hw1
 clear US
 have BD:Hid (Below w1.heap.size w1 w1.drew):=(Below.refl _ _).drew
 go_upto_region 3 with fail
 refine wp_region_noPanic ?_
 refine wp_region_held_drew (S:=fun _=>True) (by kernel_rfl) (trivial) (fun hHeld => ?_)
 refine wT 0 opyk3_0 ?_ ?_ ?_;rotate_left
 ·intro w' hSw;clear hSw;unfold opyk3_0;first|(go_simp;done)|(go_simp;with_reducible rfl)
 simp only[opyk3_0,Act.put,wA,wB,wC]
 refine wT 1 opyk3_1 ?_ ?_ ?_;rotate_left
 ·intro w' hSw;clear hSw;unfold opyk3_1;first|(go_simp;done)|(go_simp;with_reducible rfl)
 simp only[opyk3_1,Act.put,wA,wB,wC]
 refine wT 2 opyk3_2 ?_ ?_ ?_;rotate_left
 ·intro w' hSw;clear hSw;unfold opyk3_2;first|(go_simp;done)|(go_simp;with_reducible rfl)
 simp only[opyk3_2,Act.put,wA,wB,wC]
 refine wT 3 opyk3_3 ?_ ?_ ?_;rotate_left
 ·intro w' hSw;clear hSw;unfold opyk3_3;first|(go_simp;done)|(go_simp;with_reducible rfl)
 simp only[opyk3_3,Act.put,wA,wB,wC]
 refine wT 4 opyk3_4 ?_ ?_ ?_;rotate_left
 ·intro w' hSw;clear hSw;unfold opyk3_4;first|(go_simp;done)|(go_simp;with_reducible rfl)
 simp only[opyk3_4,Act.put,wA,wB,wC]
 refine wT 5 opyk3_5 ?_ ?_ ?_;rotate_left
 ·intro w' hSw;clear hSw;unfold opyk3_5;first|(go_simp;done)|(go_simp;with_reducible rfl)
 simp only[opyk3_5,Act.put,wA,wB,wC]
 refine wT 6 opyk3_6 ?_ ?_ ?_;rotate_left
 ·intro w' hSw;clear hSw;unfold opyk3_6;first|(go_simp;done)|(go_simp;with_reducible rfl)
 simp only[opyk3_6,Act.put,wA,wB,wC]
 refine wT 7 opyk3_7 ?_ ?_ ?_;rotate_left
 ·intro w' hSw;clear hSw;unfold opyk3_7;first|(go_simp;done)|(go_simp;with_reducible rfl)
 simp only[opyk3_7,Act.put,wA,wB,wC]
 refine wT 8 opyk3_8 ?_ ?_ ?_;rotate_left
 ·intro w' hSw;clear hSw;unfold opyk3_8;first|(go_simp;done)|(go_simp;with_reducible rfl)
 simp only[opyk3_8,Act.put,wA,wB,wC]
 refine wT 9 opyk3_9 ?_ ?_ ?_;rotate_left
 ·intro w' hSw;clear hSw;unfold opyk3_9;first|(go_simp;done)|(go_simp;with_reducible rfl)
 simp only[opyk3_9,Act.put,wA,wB,wC]
 refine wpAnyH_done (by kernel_rfl) ?_ _
 refine NoPanic.normal ?_
 go_wp2_with fail
 refine Calls.mono AT.out ?_
 rintro e w2 ⟨rfl,hw2⟩
 have hw2':=hw2.symm
 subst hw2'
 clear AT hw2
 go_wp2_with fail
 refine Calls.mono (IDC.out _) ?_
 rintro e w3 ⟨rfl,hb3⟩
 have B3:Hid (Below w1.heap.size w1 w3):=chain BD.out hb3
 clear IDC hb3
 go_wp2
 go_ret2
 exact tkr_no RES.out B3.out
set_option maxHeartbeats 4000000 in
theorem ybtake_new (d x:UInt8) (s:Bs) (hs:16≤s.length) (hx:x.toNat < 64) (hs2:s.length≤2000) (a:Option Addr) (n c:Nat) (E:List En) (hn:E.length=n) (hn1:n≤100000) (hnc:n≤c) (h0:a=none→n=0∧c=0) (hsp:∀y,a=some y→y.spot=none) (w:World) (h:Hid (EnAt w a E)) (hd:d=80) (ho:okI (s.take 16)=true) (hl:(s.drop 16).length≤222) (hm:s.take 16 ∉ ids (ofE E x.toNat)) :
  Calls Tryz.prog 47 #[.slice a n c,.string (st (d::x::s))] w fun e w'=>TkR w (tkL E (d::x::s)) e w':=by
 have TL:=tkL_low E d x s hs hx
 have hR:(st (d::x::s)).size=s.length+2:=by rw[st_size];rfl
 have z0:∀hh:0 < (st (d::x::s)).size,(st (d::x::s))[0]'hh=d:=fun _=>rfl
 have z1:∀hh:1 < (st (d::x::s)).size,(st (d::x::s))[1]'hh=x:=fun _=>rfl
 have x1:(st (d::x::s)).extract 2 18=st (s.take 16):=by rw[st_ext];rfl
 have x2:(st (d::x::s)).extract 18 (st (d::x::s)).size=st (s.drop 16):=by
  rw[st_ext,hR,List.take_of_length_le (show s.length+1+1≤s.length+2 from Nat.le_refl _)]
  rfl
 have hxl:=x.toNat_lt
 have US:Hid (∀W,Calls Tryz.prog 56 #[.int .i64 (x.toNat:Int)] W fun e w'=>e = .returned (.bool true)∧w'=W):=fun W=>by
  have:=ybuser_any (x.toNat:Int) W
  rw[show noU (x.toNat:Int)=false by unfold noU;simp;omega] at this
  exact this
 have AT0:=ybat_any a n c E x.toNat (st (s.take 16)) hn (by omega) w.drew (h.out.later (Below.refl _ _).drew)
 have IDC:Hid (∀W,Calls Tryz.prog 57 #[.string (st (s.take 16))] W fun e w'=>e = .returned (.bool (okI (s.take 16)))∧Below W.heap.size W w'):=fun W=>by
  have:=ybid_any (st (s.take 16)) W
  rw[st_data] at this
  exact this
 rw[st_data] at AT0
 have HY:(st (s.drop 16)).size=(s.drop 16).length:=st_size _
 subst hd
 have RES:Hid (tkL E (80::x::s)=some (E++[(x.toNat,(s.take 16,s.drop 16))])):=by show _=_;rw[TL,if_pos (by rw[decide_eq_false hm,decide_eq_true hl,ho];rfl)]
 rw[ho] at IDC
 have gl:((st (s.drop 16)).size:Int)≤222:=by omega
 have hf:fndE E x.toNat (s.take 16) = -1:=if_neg hm
 rw[hf] at AT0
 obtain⟨R,hRR⟩:∃R,st (80::x::s)=R:=⟨_,rfl⟩
 obtain⟨I,hII⟩:∃R,st (s.take 16)=R:=⟨_,rfl⟩
 obtain⟨Y,hYY⟩:∃R,st (s.drop 16)=R:=⟨_,rfl⟩
 have YE:Hid (Y=st (s.drop 16)):=hYY.symm
 have IE:Hid (I=st (s.take 16)):=hII.symm
 rw[hRR] at hR z0 z1 x1 x2 ⊢
 rw[hII] at x1 AT0 IDC
 rw[hYY] at x2 gl
 clear HY
 have AT:Hid _:=AT0
 have g1:¬(R.size:Int) < 18:=by omega
 have g2:(1:Int) < (R.size:Int):=by omega
 have g3:1 < R.size:=by omega
 have g4:18≤R.size:=by omega
 have g5:(18:Int)≤(R.size:Int):=by omega
 have g6:0 < R.size:=by omega
 have g7:(0:Int) < (R.size:Int):=by omega
 have z0':=z0 g6
 have z1':=z1 g3
 have ew:IntKind.i64.wrap (x.toNat:Int)=(x.toNat:Int):=by rw[IntKind.wrap_i64];omega
 clear z0 z1 hRR hII hYY AT0 TL hR
 go_enter Tryz.func47, Tryz.ntmps47
 go_wp2_with fail
 refine Calls.mono (US.out _) ?_
 rintro e w1 ⟨rfl,hw1⟩
 subst hw1
 clear US
 have BD:Hid (Below w1.heap.size w1 w1.drew):=(Below.refl _ _).drew
 go_upto_region 3 with fail
 refine wp_region_noPanic ?_
 refine wp_region_held_drew (S:=fun _=>True) (by kernel_rfl) (trivial) (fun hHeld => ?_)
 refine wT 0 opyk3_0 ?_ ?_ ?_;rotate_left
 ·intro w' hSw;clear hSw;unfold opyk3_0;first|(go_simp;done)|(go_simp;with_reducible rfl)
 simp only[opyk3_0,Act.put,wA,wB,wC]
 refine wT 1 opyk3_1 ?_ ?_ ?_;rotate_left
 ·intro w' hSw;clear hSw;unfold opyk3_1;first|(go_simp;done)|(go_simp;with_reducible rfl)
 simp only[opyk3_1,Act.put,wA,wB,wC]
 refine wT 2 opyk3_2 ?_ ?_ ?_;rotate_left
 ·intro w' hSw;clear hSw;unfold opyk3_2;first|(go_simp;done)|(go_simp;with_reducible rfl)
 simp only[opyk3_2,Act.put,wA,wB,wC]
 refine wT 3 opyk3_3 ?_ ?_ ?_;rotate_left
 ·intro w' hSw;clear hSw;unfold opyk3_3;first|(go_simp;done)|(go_simp;with_reducible rfl)
 simp only[opyk3_3,Act.put,wA,wB,wC]
 refine wT 4 opyk3_4 ?_ ?_ ?_;rotate_left
 ·intro w' hSw;clear hSw;unfold opyk3_4;first|(go_simp;done)|(go_simp;with_reducible rfl)
 simp only[opyk3_4,Act.put,wA,wB,wC]
 refine wT 5 opyk3_5 ?_ ?_ ?_;rotate_left
 ·intro w' hSw;clear hSw;unfold opyk3_5;first|(go_simp;done)|(go_simp;with_reducible rfl)
 simp only[opyk3_5,Act.put,wA,wB,wC]
 refine wT 6 opyk3_6 ?_ ?_ ?_;rotate_left
 ·intro w' hSw;clear hSw;unfold opyk3_6;first|(go_simp;done)|(go_simp;with_reducible rfl)
 simp only[opyk3_6,Act.put,wA,wB,wC]
 refine wT 7 opyk3_7 ?_ ?_ ?_;rotate_left
 ·intro w' hSw;clear hSw;unfold opyk3_7;first|(go_simp;done)|(go_simp;with_reducible rfl)
 simp only[opyk3_7,Act.put,wA,wB,wC]
 refine wT 8 opyk3_8 ?_ ?_ ?_;rotate_left
 ·intro w' hSw;clear hSw;unfold opyk3_8;first|(go_simp;done)|(go_simp;with_reducible rfl)
 simp only[opyk3_8,Act.put,wA,wB,wC]
 refine wT 9 opyk3_9 ?_ ?_ ?_;rotate_left
 ·intro w' hSw;clear hSw;unfold opyk3_9;first|(go_simp;done)|(go_simp;with_reducible rfl)
 simp only[opyk3_9,Act.put,wA,wB,wC]
 refine wpAnyH_done (by kernel_rfl) ?_ _
 refine NoPanic.normal ?_
 go_wp2_with fail
 refine Calls.mono AT.out ?_
 rintro e w2 ⟨rfl,hw2⟩
 have hw2':=hw2.symm
 subst hw2'
 clear AT hw2
 go_wp2_with fail
 refine Calls.mono (IDC.out _) ?_
 rintro e w3 ⟨rfl,hb3⟩
 have B3:Hid (Below w1.heap.size w1 w3):=chain BD.out hb3
 clear IDC hb3
 obtain⟨v4,W4,r1,o4,b4⟩:=copy_en w3 a n c E hn (h.out.later B3.out) h0 hn1
 obtain⟨a4,c4,rfl,-,-,-,-⟩:=owns_en rfl o4
 have b5:=nb W4 (.cells #[.int .i64 (x.toNat:Int),.string I,.string Y] 125)
 have EA:EnAt (W4.alloc (.cells #[.int .i64 (x.toNat:Int),.string I,.string Y] 125)) (some ⟨W4.heap.size,0,none⟩) [(x.toNat,(s.take 16,s.drop 16))]:=fun i hi=>by
  obtain rfl:i=0:=by simpa using hi
  rw[IE.out,YE.out]
  exact⟨W4.heap.size,0,rfl,by rw[World.cell?_alloc_new];rfl,by rw[World.cell?_alloc_new];rfl,by rw[World.cell?_alloc_new];rfl⟩
 obtain⟨v5,W5,r2,o5,b6⟩:=app_en w3.heap.size (W4.alloc (.cells #[.int .i64 (x.toNat:Int),.string I,.string Y] 125)) 91 _ E (owns_laterE o4 b5) (Nat.le_trans b4.size b5.size) (some ⟨W4.heap.size,0,none⟩) 1 1 [(x.toNat,(s.take 16,s.drop 16))] rfl EA (by simp) (by omega) (by omega)
 have FF:Hid (W5.ownsRow w1.heap.size 125 3 v5 (E++[(x.toNat,(s.take 16,s.drop 16))]).length (ecx (E++[(x.toNat,(s.take 16,s.drop 16))]))∧Below w1.heap.size w1 W5):=⟨owns_lowE o5 B3.out.size,chain B3.out ((b4.trans (b5.mono b4.size)).trans b6)⟩
 obtain⟨N4,hN4⟩:∃N,E.length=N:=⟨_,rfl⟩
 rw[hN4] at r1 r2
 clear o4 b4 b5 EA o5 b6 hN4 B3
 go_wp2_with (first|(at_builtin;refine Go.Lib.wpList_append_run _ rfl _ _ _ _ rfl _ _ rfl rfl _ _ r1 ?_)|(at_builtin;refine Go.Lib.wpList_append_run _ rfl _ _ _ _ rfl _ _ rfl rfl _ _ r2 ?_))
 go_ret2
 exact tkr_is RES.out FF.out.1 FF.out.2
set_option maxHeartbeats 4000000 in
theorem ybtake_text (d x:UInt8) (s:Bs) (hs:16≤s.length) (hx:x.toNat < 64) (hs2:s.length≤2000) (a:Option Addr) (n c:Nat) (E:List En) (hn:E.length=n) (hn1:n≤100000) (hnc:n≤c) (h0:a=none→n=0∧c=0) (hsp:∀y,a=some y→y.spot=none) (w:World) (h:Hid (EnAt w a E)) (hd:d=65) (hy:s.drop 16≠[]) :
  Calls Tryz.prog 47 #[.slice a n c,.string (st (d::x::s))] w fun e w'=>TkR w (tkL E (d::x::s)) e w':=by
 have TL:=tkL_low E d x s hs hx
 have hR:(st (d::x::s)).size=s.length+2:=by rw[st_size];rfl
 have z0:∀hh:0 < (st (d::x::s)).size,(st (d::x::s))[0]'hh=d:=fun _=>rfl
 have z1:∀hh:1 < (st (d::x::s)).size,(st (d::x::s))[1]'hh=x:=fun _=>rfl
 have x1:(st (d::x::s)).extract 2 18=st (s.take 16):=by rw[st_ext];rfl
 have x2:(st (d::x::s)).extract 18 (st (d::x::s)).size=st (s.drop 16):=by
  rw[st_ext,hR,List.take_of_length_le (show s.length+1+1≤s.length+2 from Nat.le_refl _)]
  rfl
 have hxl:=x.toNat_lt
 have US:Hid (∀W,Calls Tryz.prog 56 #[.int .i64 (x.toNat:Int)] W fun e w'=>e = .returned (.bool true)∧w'=W):=fun W=>by
  have:=ybuser_any (x.toNat:Int) W
  rw[show noU (x.toNat:Int)=false by unfold noU;simp;omega] at this
  exact this
 have AT0:=ybat_any a n c E x.toNat (st (s.take 16)) hn (by omega) w.drew (h.out.later (Below.refl _ _).drew)
 have IDC:Hid (∀W,Calls Tryz.prog 57 #[.string (st (s.take 16))] W fun e w'=>e = .returned (.bool (okI (s.take 16)))∧Below W.heap.size W w'):=fun W=>by
  have:=ybid_any (st (s.take 16)) W
  rw[st_data] at this
  exact this
 rw[st_data] at AT0
 have HY:(st (s.drop 16)).size=(s.drop 16).length:=st_size _
 subst hd
 have RES:Hid (tkL E (65::x::s)=none):=by show _=_;rw[TL,if_neg (by simp),if_neg (by rw[decide_eq_false hy];simp)]
 have yn:((st (s.drop 16)).toList == ([]:List UInt8))=false:=by
  rw[ByteArray.toList_eq]
  exact beq_eq_false_iff_ne.2 hy
 have yn2:(st (s.drop 16)).toList≠[]:=fun c=>by rw[c] at yn;simp at yn
 have yn3:(st (s.drop 16)).isEmpty=false:=by
  rw[ByteArray.isEmpty]
  have h0:(st (s.drop 16)).size≠0:=fun z=>hy (List.length_eq_zero_iff.1 (by rw[←z,st_size]))
  simpa using h0
 obtain⟨f,hf⟩:∃f,fndE E x.toNat (s.take 16)=f:=⟨_,rfl⟩
 rw[hf] at AT0
 obtain⟨R,hRR⟩:∃R,st (65::x::s)=R:=⟨_,rfl⟩
 obtain⟨I,hII⟩:∃R,st (s.take 16)=R:=⟨_,rfl⟩
 obtain⟨Y,hYY⟩:∃R,st (s.drop 16)=R:=⟨_,rfl⟩
 have YE:Hid (Y=st (s.drop 16)):=hYY.symm
 have IE:Hid (I=st (s.take 16)):=hII.symm
 rw[hRR] at hR z0 z1 x1 x2 ⊢
 rw[hII] at x1 AT0 IDC
 rw[hYY] at x2 yn yn2 yn3
 clear HY
 have AT:Hid _:=AT0
 have g1:¬(R.size:Int) < 18:=by omega
 have g2:(1:Int) < (R.size:Int):=by omega
 have g3:1 < R.size:=by omega
 have g4:18≤R.size:=by omega
 have g5:(18:Int)≤(R.size:Int):=by omega
 have g6:0 < R.size:=by omega
 have g7:(0:Int) < (R.size:Int):=by omega
 have z0':=z0 g6
 have z1':=z1 g3
 have ew:IntKind.i64.wrap (x.toNat:Int)=(x.toNat:Int):=by rw[IntKind.wrap_i64];omega
 clear z0 z1 hRR hII hYY AT0 TL hR
 go_enter Tryz.func47, Tryz.ntmps47
 go_wp2_with fail
 refine Calls.mono (US.out _) ?_
 rintro e w1 ⟨rfl,hw1⟩
 subst hw1
 clear US
 have BD:Hid (Below w1.heap.size w1 w1.drew):=(Below.refl _ _).drew
 go_upto_region 3 with fail
 refine wp_region_noPanic ?_
 refine wp_region_held_drew (S:=fun _=>True) (by kernel_rfl) (trivial) (fun hHeld => ?_)
 refine wT 0 opyk3_0 ?_ ?_ ?_;rotate_left
 ·intro w' hSw;clear hSw;unfold opyk3_0;first|(go_simp;done)|(go_simp;with_reducible rfl)
 simp only[opyk3_0,Act.put,wA,wB,wC]
 refine wT 1 opyk3_1 ?_ ?_ ?_;rotate_left
 ·intro w' hSw;clear hSw;unfold opyk3_1;first|(go_simp;done)|(go_simp;with_reducible rfl)
 simp only[opyk3_1,Act.put,wA,wB,wC]
 refine wT 2 opyk3_2 ?_ ?_ ?_;rotate_left
 ·intro w' hSw;clear hSw;unfold opyk3_2;first|(go_simp;done)|(go_simp;with_reducible rfl)
 simp only[opyk3_2,Act.put,wA,wB,wC]
 refine wT 3 opyk3_3 ?_ ?_ ?_;rotate_left
 ·intro w' hSw;clear hSw;unfold opyk3_3;first|(go_simp;done)|(go_simp;with_reducible rfl)
 simp only[opyk3_3,Act.put,wA,wB,wC]
 refine wT 4 opyk3_4 ?_ ?_ ?_;rotate_left
 ·intro w' hSw;clear hSw;unfold opyk3_4;first|(go_simp;done)|(go_simp;with_reducible rfl)
 simp only[opyk3_4,Act.put,wA,wB,wC]
 refine wT 5 opyk3_5 ?_ ?_ ?_;rotate_left
 ·intro w' hSw;clear hSw;unfold opyk3_5;first|(go_simp;done)|(go_simp;with_reducible rfl)
 simp only[opyk3_5,Act.put,wA,wB,wC]
 refine wT 6 opyk3_6 ?_ ?_ ?_;rotate_left
 ·intro w' hSw;clear hSw;unfold opyk3_6;first|(go_simp;done)|(go_simp;with_reducible rfl)
 simp only[opyk3_6,Act.put,wA,wB,wC]
 refine wT 7 opyk3_7 ?_ ?_ ?_;rotate_left
 ·intro w' hSw;clear hSw;unfold opyk3_7;first|(go_simp;done)|(go_simp;with_reducible rfl)
 simp only[opyk3_7,Act.put,wA,wB,wC]
 refine wT 8 opyk3_8 ?_ ?_ ?_;rotate_left
 ·intro w' hSw;clear hSw;unfold opyk3_8;first|(go_simp;done)|(go_simp;with_reducible rfl)
 simp only[opyk3_8,Act.put,wA,wB,wC]
 refine wT 9 opyk3_9 ?_ ?_ ?_;rotate_left
 ·intro w' hSw;clear hSw;unfold opyk3_9;first|(go_simp;done)|(go_simp;with_reducible rfl)
 simp only[opyk3_9,Act.put,wA,wB,wC]
 refine wpAnyH_done (by kernel_rfl) ?_ _
 refine NoPanic.normal ?_
 go_wp2_with fail
 refine Calls.mono AT.out ?_
 rintro e w2 ⟨rfl,hw2⟩
 have hw2':=hw2.symm
 subst hw2'
 clear AT hw2
 go_wp2
 go_ret2
 exact tkr_no RES.out BD.out
set_option maxHeartbeats 4000000 in
theorem ybtake_none (d x:UInt8) (s:Bs) (hs:16≤s.length) (hx:x.toNat < 64) (hs2:s.length≤2000) (a:Option Addr) (n c:Nat) (E:List En) (hn:E.length=n) (hn1:n≤100000) (hnc:n≤c) (h0:a=none→n=0∧c=0) (hsp:∀y,a=some y→y.spot=none) (w:World) (h:Hid (EnAt w a E)) (hd:d=65) (hy:s.drop 16=[]) (hm:s.take 16 ∉ ids (ofE E x.toNat)) :
  Calls Tryz.prog 47 #[.slice a n c,.string (st (d::x::s))] w fun e w'=>TkR w (tkL E (d::x::s)) e w':=by
 have TL:=tkL_low E d x s hs hx
 have hR:(st (d::x::s)).size=s.length+2:=by rw[st_size];rfl
 have z0:∀hh:0 < (st (d::x::s)).size,(st (d::x::s))[0]'hh=d:=fun _=>rfl
 have z1:∀hh:1 < (st (d::x::s)).size,(st (d::x::s))[1]'hh=x:=fun _=>rfl
 have x1:(st (d::x::s)).extract 2 18=st (s.take 16):=by rw[st_ext];rfl
 have x2:(st (d::x::s)).extract 18 (st (d::x::s)).size=st (s.drop 16):=by
  rw[st_ext,hR,List.take_of_length_le (show s.length+1+1≤s.length+2 from Nat.le_refl _)]
  rfl
 have hxl:=x.toNat_lt
 have US:Hid (∀W,Calls Tryz.prog 56 #[.int .i64 (x.toNat:Int)] W fun e w'=>e = .returned (.bool true)∧w'=W):=fun W=>by
  have:=ybuser_any (x.toNat:Int) W
  rw[show noU (x.toNat:Int)=false by unfold noU;simp;omega] at this
  exact this
 have AT0:=ybat_any a n c E x.toNat (st (s.take 16)) hn (by omega) w.drew (h.out.later (Below.refl _ _).drew)
 have IDC:Hid (∀W,Calls Tryz.prog 57 #[.string (st (s.take 16))] W fun e w'=>e = .returned (.bool (okI (s.take 16)))∧Below W.heap.size W w'):=fun W=>by
  have:=ybid_any (st (s.take 16)) W
  rw[st_data] at this
  exact this
 rw[st_data] at AT0
 have HY:(st (s.drop 16)).size=(s.drop 16).length:=st_size _
 subst hd
 have RES:Hid (tkL E (65::x::s)=none):=by show _=_;rw[TL,if_neg (by simp),if_neg (by rw[decide_eq_false hm];simp)]
 have yn:((st (s.drop 16)).toList == ([]:List UInt8))=true:=by rw[hy,ByteArray.toList_eq];rfl
 have yn2:(st (s.drop 16)).toList=[]:=by rw[hy,ByteArray.toList_eq];rfl
 have yn3:(st (s.drop 16)).isEmpty=true:=by rw[hy];rfl
 have hf:fndE E x.toNat (s.take 16) = -1:=if_neg hm
 rw[hf] at AT0
 obtain⟨R,hRR⟩:∃R,st (65::x::s)=R:=⟨_,rfl⟩
 obtain⟨I,hII⟩:∃R,st (s.take 16)=R:=⟨_,rfl⟩
 obtain⟨Y,hYY⟩:∃R,st (s.drop 16)=R:=⟨_,rfl⟩
 have YE:Hid (Y=st (s.drop 16)):=hYY.symm
 have IE:Hid (I=st (s.take 16)):=hII.symm
 rw[hRR] at hR z0 z1 x1 x2 ⊢
 rw[hII] at x1 AT0 IDC
 rw[hYY] at x2 yn yn2 yn3
 clear HY
 have AT:Hid _:=AT0
 have g1:¬(R.size:Int) < 18:=by omega
 have g2:(1:Int) < (R.size:Int):=by omega
 have g3:1 < R.size:=by omega
 have g4:18≤R.size:=by omega
 have g5:(18:Int)≤(R.size:Int):=by omega
 have g6:0 < R.size:=by omega
 have g7:(0:Int) < (R.size:Int):=by omega
 have z0':=z0 g6
 have z1':=z1 g3
 have ew:IntKind.i64.wrap (x.toNat:Int)=(x.toNat:Int):=by rw[IntKind.wrap_i64];omega
 clear z0 z1 hRR hII hYY AT0 TL hR
 go_enter Tryz.func47, Tryz.ntmps47
 go_wp2_with fail
 refine Calls.mono (US.out _) ?_
 rintro e w1 ⟨rfl,hw1⟩
 subst hw1
 clear US
 have BD:Hid (Below w1.heap.size w1 w1.drew):=(Below.refl _ _).drew
 go_upto_region 3 with fail
 refine wp_region_noPanic ?_
 refine wp_region_held_drew (S:=fun _=>True) (by kernel_rfl) (trivial) (fun hHeld => ?_)
 refine wT 0 opyk3_0 ?_ ?_ ?_;rotate_left
 ·intro w' hSw;clear hSw;unfold opyk3_0;first|(go_simp;done)|(go_simp;with_reducible rfl)
 simp only[opyk3_0,Act.put,wA,wB,wC]
 refine wT 1 opyk3_1 ?_ ?_ ?_;rotate_left
 ·intro w' hSw;clear hSw;unfold opyk3_1;first|(go_simp;done)|(go_simp;with_reducible rfl)
 simp only[opyk3_1,Act.put,wA,wB,wC]
 refine wT 2 opyk3_2 ?_ ?_ ?_;rotate_left
 ·intro w' hSw;clear hSw;unfold opyk3_2;first|(go_simp;done)|(go_simp;with_reducible rfl)
 simp only[opyk3_2,Act.put,wA,wB,wC]
 refine wT 3 opyk3_3 ?_ ?_ ?_;rotate_left
 ·intro w' hSw;clear hSw;unfold opyk3_3;first|(go_simp;done)|(go_simp;with_reducible rfl)
 simp only[opyk3_3,Act.put,wA,wB,wC]
 refine wT 4 opyk3_4 ?_ ?_ ?_;rotate_left
 ·intro w' hSw;clear hSw;unfold opyk3_4;first|(go_simp;done)|(go_simp;with_reducible rfl)
 simp only[opyk3_4,Act.put,wA,wB,wC]
 refine wT 5 opyk3_5 ?_ ?_ ?_;rotate_left
 ·intro w' hSw;clear hSw;unfold opyk3_5;first|(go_simp;done)|(go_simp;with_reducible rfl)
 simp only[opyk3_5,Act.put,wA,wB,wC]
 refine wT 6 opyk3_6 ?_ ?_ ?_;rotate_left
 ·intro w' hSw;clear hSw;unfold opyk3_6;first|(go_simp;done)|(go_simp;with_reducible rfl)
 simp only[opyk3_6,Act.put,wA,wB,wC]
 refine wT 7 opyk3_7 ?_ ?_ ?_;rotate_left
 ·intro w' hSw;clear hSw;unfold opyk3_7;first|(go_simp;done)|(go_simp;with_reducible rfl)
 simp only[opyk3_7,Act.put,wA,wB,wC]
 refine wT 8 opyk3_8 ?_ ?_ ?_;rotate_left
 ·intro w' hSw;clear hSw;unfold opyk3_8;first|(go_simp;done)|(go_simp;with_reducible rfl)
 simp only[opyk3_8,Act.put,wA,wB,wC]
 refine wT 9 opyk3_9 ?_ ?_ ?_;rotate_left
 ·intro w' hSw;clear hSw;unfold opyk3_9;first|(go_simp;done)|(go_simp;with_reducible rfl)
 simp only[opyk3_9,Act.put,wA,wB,wC]
 refine wpAnyH_done (by kernel_rfl) ?_ _
 refine NoPanic.normal ?_
 go_wp2_with fail
 refine Calls.mono AT.out ?_
 rintro e w2 ⟨rfl,hw2⟩
 have hw2':=hw2.symm
 subst hw2'
 clear AT hw2
 go_wp2
 go_ret2
 exact tkr_no RES.out BD.out
set_option maxHeartbeats 4000000 in
theorem ybtake_ack (d x:UInt8) (s:Bs) (hs:16≤s.length) (hx:x.toNat < 64) (hs2:s.length≤2000) (a:Option Addr) (n c:Nat) (E:List En) (hn:E.length=n) (hn1:n≤100000) (hnc:n≤c) (h0:a=none→n=0∧c=0) (hsp:∀y,a=some y→y.spot=none) (w:World) (h:Hid (EnAt w a E)) (hd:d=65) (hy:s.drop 16=[]) (hm:s.take 16∈ids (ofE E x.toNat)) :
  Calls Tryz.prog 47 #[.slice a n c,.string (st (d::x::s))] w fun e w'=>TkR w (tkL E (d::x::s)) e w':=by
 have TL:=tkL_low E d x s hs hx
 have hR:(st (d::x::s)).size=s.length+2:=by rw[st_size];rfl
 have z0:∀hh:0 < (st (d::x::s)).size,(st (d::x::s))[0]'hh=d:=fun _=>rfl
 have z1:∀hh:1 < (st (d::x::s)).size,(st (d::x::s))[1]'hh=x:=fun _=>rfl
 have x1:(st (d::x::s)).extract 2 18=st (s.take 16):=by rw[st_ext];rfl
 have x2:(st (d::x::s)).extract 18 (st (d::x::s)).size=st (s.drop 16):=by
  rw[st_ext,hR,List.take_of_length_le (show s.length+1+1≤s.length+2 from Nat.le_refl _)]
  rfl
 have hxl:=x.toNat_lt
 have US:Hid (∀W,Calls Tryz.prog 56 #[.int .i64 (x.toNat:Int)] W fun e w'=>e = .returned (.bool true)∧w'=W):=fun W=>by
  have:=ybuser_any (x.toNat:Int) W
  rw[show noU (x.toNat:Int)=false by unfold noU;simp;omega] at this
  exact this
 have AT0:=ybat_any a n c E x.toNat (st (s.take 16)) hn (by omega) w.drew (h.out.later (Below.refl _ _).drew)
 have IDC:Hid (∀W,Calls Tryz.prog 57 #[.string (st (s.take 16))] W fun e w'=>e = .returned (.bool (okI (s.take 16)))∧Below W.heap.size W w'):=fun W=>by
  have:=ybid_any (st (s.take 16)) W
  rw[st_data] at this
  exact this
 rw[st_data] at AT0
 have HY:(st (s.drop 16)).size=(s.drop 16).length:=st_size _
 subst hd
 have RES:Hid (tkL E (65::x::s)=some (rmE E x.toNat (s.take 16))):=by show _=_;rw[TL,if_neg (by simp),if_pos (by rw[decide_eq_true hm,decide_eq_true hy];rfl)]
 have yn:((st (s.drop 16)).toList == ([]:List UInt8))=true:=by rw[hy,ByteArray.toList_eq];rfl
 have yn2:(st (s.drop 16)).toList=[]:=by rw[hy,ByteArray.toList_eq];rfl
 have yn3:(st (s.drop 16)).isEmpty=true:=by rw[hy];rfl
 obtain⟨p,hp⟩:∃p,Bx.plc E x.toNat (s.take 16)=p:=⟨_,rfl⟩
 have hpn:p < n:=by rw[←hp,←hn];exact (Bx.plc_lt E x.toNat (s.take 16)).2 hm
 have hf:fndE E x.toNat (s.take 16)=(p:Int):=by rw[fndE,if_pos hm,hp]
 rw[hf] at AT0
 have gp:¬(p:Int) < 0:=by omega
 have gp2:(0:Int)≤(p:Int):=by omega
 obtain⟨R,hRR⟩:∃R,st (65::x::s)=R:=⟨_,rfl⟩
 obtain⟨I,hII⟩:∃R,st (s.take 16)=R:=⟨_,rfl⟩
 obtain⟨Y,hYY⟩:∃R,st (s.drop 16)=R:=⟨_,rfl⟩
 have YE:Hid (Y=st (s.drop 16)):=hYY.symm
 have IE:Hid (I=st (s.take 16)):=hII.symm
 rw[hRR] at hR z0 z1 x1 x2 ⊢
 rw[hII] at x1 AT0 IDC
 rw[hYY] at x2 yn yn2 yn3
 clear HY
 have AT:Hid _:=AT0
 have g1:¬(R.size:Int) < 18:=by omega
 have g2:(1:Int) < (R.size:Int):=by omega
 have g3:1 < R.size:=by omega
 have g4:18≤R.size:=by omega
 have g5:(18:Int)≤(R.size:Int):=by omega
 have g6:0 < R.size:=by omega
 have g7:(0:Int) < (R.size:Int):=by omega
 have z0':=z0 g6
 have z1':=z1 g3
 have ew:IntKind.i64.wrap (x.toNat:Int)=(x.toNat:Int):=by rw[IntKind.wrap_i64];omega
 clear z0 z1 hRR hII hYY AT0 TL hR
 go_enter Tryz.func47, Tryz.ntmps47
 go_wp2_with fail
 refine Calls.mono (US.out _) ?_
 rintro e w1 ⟨rfl,hw1⟩
 subst hw1
 clear US
 have BD:Hid (Below w1.heap.size w1 w1.drew):=(Below.refl _ _).drew
 go_upto_region 3 with fail
 refine wp_region_noPanic ?_
 refine wp_region_held_drew (S:=fun _=>True) (by kernel_rfl) (trivial) (fun hHeld => ?_)
 refine wT 0 opyk3_0 ?_ ?_ ?_;rotate_left
 ·intro w' hSw;clear hSw;unfold opyk3_0;first|(go_simp;done)|(go_simp;with_reducible rfl)
 simp only[opyk3_0,Act.put,wA,wB,wC]
 refine wT 1 opyk3_1 ?_ ?_ ?_;rotate_left
 ·intro w' hSw;clear hSw;unfold opyk3_1;first|(go_simp;done)|(go_simp;with_reducible rfl)
 simp only[opyk3_1,Act.put,wA,wB,wC]
 refine wT 2 opyk3_2 ?_ ?_ ?_;rotate_left
 ·intro w' hSw;clear hSw;unfold opyk3_2;first|(go_simp;done)|(go_simp;with_reducible rfl)
 simp only[opyk3_2,Act.put,wA,wB,wC]
 refine wT 3 opyk3_3 ?_ ?_ ?_;rotate_left
 ·intro w' hSw;clear hSw;unfold opyk3_3;first|(go_simp;done)|(go_simp;with_reducible rfl)
 simp only[opyk3_3,Act.put,wA,wB,wC]
 refine wT 4 opyk3_4 ?_ ?_ ?_;rotate_left
 ·intro w' hSw;clear hSw;unfold opyk3_4;first|(go_simp;done)|(go_simp;with_reducible rfl)
 simp only[opyk3_4,Act.put,wA,wB,wC]
 refine wT 5 opyk3_5 ?_ ?_ ?_;rotate_left
 ·intro w' hSw;clear hSw;unfold opyk3_5;first|(go_simp;done)|(go_simp;with_reducible rfl)
 simp only[opyk3_5,Act.put,wA,wB,wC]
 refine wT 6 opyk3_6 ?_ ?_ ?_;rotate_left
 ·intro w' hSw;clear hSw;unfold opyk3_6;first|(go_simp;done)|(go_simp;with_reducible rfl)
 simp only[opyk3_6,Act.put,wA,wB,wC]
 refine wT 7 opyk3_7 ?_ ?_ ?_;rotate_left
 ·intro w' hSw;clear hSw;unfold opyk3_7;first|(go_simp;done)|(go_simp;with_reducible rfl)
 simp only[opyk3_7,Act.put,wA,wB,wC]
 refine wT 8 opyk3_8 ?_ ?_ ?_;rotate_left
 ·intro w' hSw;clear hSw;unfold opyk3_8;first|(go_simp;done)|(go_simp;with_reducible rfl)
 simp only[opyk3_8,Act.put,wA,wB,wC]
 refine wT 9 opyk3_9 ?_ ?_ ?_;rotate_left
 ·intro w' hSw;clear hSw;unfold opyk3_9;first|(go_simp;done)|(go_simp;with_reducible rfl)
 simp only[opyk3_9,Act.put,wA,wB,wC]
 refine wpAnyH_done (by kernel_rfl) ?_ _
 refine NoPanic.normal ?_
 go_wp2_with fail
 refine Calls.mono AT.out ?_
 rintro e w2 ⟨rfl,hw2⟩
 have hw2':=hw2.symm
 subst hw2'
 clear AT hw2
 obtain⟨D,hD⟩:∃D,w1.drew.drew=D:=⟨_,rfl⟩
 have BDD:Hid (Below w1.heap.size w1 D):=by rw[←hD];exact BD.out.drew
 have h00:=h.out.later BDD.out
 obtain⟨b,o,rfl,-,-,-⟩:=h00 0 (by omega)
 have SH:=fun W=>sl_headE (some ⟨b,o,none⟩) n c p (by omega) hnc (by simp) (fun y e=>by injection e with e;rw[←e]) W
 obtain⟨o2,ST,ET⟩:=sl_tailE D b o n c (p+1) E h00 hn (by omega) hnc
 have yp:IntKind.i64.wrap ((p:Int)+1)=((p+1:Nat):Int):=by rw[IntKind.wrap_i64];omega
 obtain⟨v4,W4,r1,o4,b4⟩:=copy_en D (some ⟨b,o,none⟩) p c (E.take p) (by rw[List.length_take];omega) (h00.take p) (by simp) (by omega)
 obtain⟨a4,c4,rfl,-,-,-,-⟩:=owns_en rfl o4
 obtain⟨v5,W5,r2,o5,b6⟩:=app_en D.heap.size W4 91 _ (E.take p) o4 b4.size (some ⟨b,o2,none⟩) (n - (p+1)) (c - (p+1)) (E.drop (p+1)) (by rw[List.length_drop];omega) (ET.later b4) (by simp) (by rw[List.length_take];omega) (by omega)
 have FF:Hid (W5.ownsRow w1.heap.size 125 3 v5 (rmE E x.toNat (s.take 16)).length (ecx (rmE E x.toNat (s.take 16)))∧Below w1.heap.size w1 W5):=by
  have e:rmE E x.toNat (s.take 16)=E.take p++E.drop (p+1):=by unfold rmE;rw[hp]
  rw[e]
  exact⟨owns_lowE o5 BDD.out.size,chain BDD.out (b4.trans b6)⟩
 obtain⟨N4,hN4⟩:∃N,(E.take p).length=N:=⟨_,rfl⟩
 rw[hN4] at r1 r2
 obtain⟨M4,hM4⟩:∃N,n - (p+1)=N:=⟨_,rfl⟩
 obtain⟨C4,hC4⟩:∃N,c - (p+1)=N:=⟨_,rfl⟩
 rw[hM4,hC4] at r2 ST
 obtain⟨P1,hP1⟩:∃N:Int,((p+1:Nat):Int)=N:=⟨_,rfl⟩
 rw[hP1] at ST yp
 clear o4 b4 o5 b6 hN4 hM4 hC4 hP1 ET h00
 go_upto_region 8 with fail
 refine wp_region_noPanic ?_
 refine wp_region_held_drew (S:=fun _=>True) (by kernel_rfl) (trivial) (fun hHeld => ?_)
 rw[hD]
 clear hD
 refine wT 1 opyk8_1 ?_ ?_ ?_;rotate_left
 ·intro w' hSw;clear hSw;unfold opyk8_1;first|(go_simp;done)|(go_simp;with_reducible rfl)
 simp only[opyk8_1,Act.put,wA,wB,wC]
 refine wT 2 opyk8_2 ?_ ?_ ?_;rotate_left
 ·intro w' hSw;clear hSw;unfold opyk8_2;first|(go_simp;done)|(go_simp;with_reducible rfl)
 simp only[opyk8_2,Act.put,wA,wB,wC]
 refine wT 3 opyk8_3 ?_ ?_ ?_;rotate_left
 ·intro w' hSw;clear hSw;unfold opyk8_3;first|(go_simp;done)|(go_simp;with_reducible rfl)
 simp only[opyk8_3,Act.put,wA,wB,wC]
 refine wT 5 opyk8_5 ?_ ?_ ?_;rotate_left
 ·intro w' hSw;clear hSw;unfold opyk8_5;first|(go_simp;done)|(go_simp;with_reducible rfl)
 simp only[opyk8_5,Act.put,wA,wB,wC]
 refine wT 6 opyk8_6 ?_ ?_ ?_;rotate_left
 ·intro w' hSw;clear hSw;unfold opyk8_6;first|(go_simp;done)|(go_simp;with_reducible rfl)
 simp only[opyk8_6,Act.put,wA,wB,wC]
 refine wT 7 opyk8_7 ?_ ?_ ?_;rotate_left
 ·intro w' hSw;clear hSw;unfold opyk8_7;first|(go_simp;done)|(go_simp;with_reducible rfl)
 simp only[opyk8_7,Act.put,wA,wB,wC]
 refine wT 8 opyk8_8 ?_ ?_ ?_;rotate_left
 ·intro w' hSw;clear hSw;unfold opyk8_8;first|(go_simp;done)|(go_simp;with_reducible rfl)
 simp only[opyk8_8,Act.put,wA,wB,wC]
 refine wpAnyH_ready (rs:=[0]) (by kernel_rfl) (by simp) ?_
 refine AllReadyH.cons (o:=opyk8_0) rfl (fun KK hKK => ?_) AllReadyH.nil
 unfold opyk8_0
 go_simp
 refine hKK.out _ _ trivial (fun _ => ?_)
 clear hKK KK
 try simp only[opyk8_0,Act.put,wA,wB,wC]
 refine wpAnyH_ready (rs:=[4]) (by kernel_rfl) (by simp) ?_
 refine AllReadyH.cons (o:=opyk8_4) rfl (fun KK hKK => ?_) AllReadyH.nil
 rw[if_pos (by kernel_rfl)]
 refine Go.Lib.wp_append_run _ _ _ _ _ rfl _ _ rfl rfl _ _ r1 ?_
 refine hKK.out _ _ trivial (fun _ => ?_)
 clear hKK KK r1
 try simp only[opyk8_4,Act.put,wA,wB,wC]
 refine wpAnyH_ready (rs:=[9]) (by kernel_rfl) (by simp) ?_
 refine AllReadyH.cons (o:=opyk8_9) rfl (fun KK hKK => ?_) AllReadyH.nil
 rw[if_pos (by kernel_rfl)]
 refine Go.Lib.wp_append_run _ _ _ _ _ rfl _ _ rfl rfl _ _ r2 ?_
 refine hKK.out _ _ trivial (fun _ => ?_)
 clear hKK KK r2
 try simp only[opyk8_9,Act.put,wA,wB,wC]
 refine wT 10 opyk8_10 ?_ ?_ ?_;rotate_left
 ·intro w' hSw;clear hSw;unfold opyk8_10;first|(go_simp;done)|(go_simp;with_reducible rfl)
 simp only[opyk8_10,Act.put,wA,wB,wC]
 refine wT 11 opyk8_11 ?_ ?_ ?_;rotate_left
 ·intro w' hSw;clear hSw;unfold opyk8_11;first|(go_simp;done)|(go_simp;with_reducible rfl)
 simp only[opyk8_11,Act.put,wA,wB,wC]
 refine wpAnyH_done (by kernel_rfl) ?_ _
 refine NoPanic.normal ?_
 go_wp2
 go_ret2
 exact tkr_is RES.out FF.out.1 FF.out.2
set_option maxHeartbeats 4000000 in
theorem ybtake_other (d x:UInt8) (s:Bs) (hs:16≤s.length) (hx:x.toNat < 64) (hs2:s.length≤2000) (a:Option Addr) (n c:Nat) (E:List En) (hn:E.length=n) (hn1:n≤100000) (hnc:n≤c) (h0:a=none→n=0∧c=0) (hsp:∀y,a=some y→y.spot=none) (w:World) (h:Hid (EnAt w a E)) (hd:d≠80) (hd2:d≠65) :
  Calls Tryz.prog 47 #[.slice a n c,.string (st (d::x::s))] w fun e w'=>TkR w (tkL E (d::x::s)) e w':=by
 have TL:=tkL_low E d x s hs hx
 have hR:(st (d::x::s)).size=s.length+2:=by rw[st_size];rfl
 have z0:∀hh:0 < (st (d::x::s)).size,(st (d::x::s))[0]'hh=d:=fun _=>rfl
 have z1:∀hh:1 < (st (d::x::s)).size,(st (d::x::s))[1]'hh=x:=fun _=>rfl
 have x1:(st (d::x::s)).extract 2 18=st (s.take 16):=by rw[st_ext];rfl
 have x2:(st (d::x::s)).extract 18 (st (d::x::s)).size=st (s.drop 16):=by
  rw[st_ext,hR,List.take_of_length_le (show s.length+1+1≤s.length+2 from Nat.le_refl _)]
  rfl
 have hxl:=x.toNat_lt
 have US:Hid (∀W,Calls Tryz.prog 56 #[.int .i64 (x.toNat:Int)] W fun e w'=>e = .returned (.bool true)∧w'=W):=fun W=>by
  have:=ybuser_any (x.toNat:Int) W
  rw[show noU (x.toNat:Int)=false by unfold noU;simp;omega] at this
  exact this
 have AT0:=ybat_any a n c E x.toNat (st (s.take 16)) hn (by omega) w.drew (h.out.later (Below.refl _ _).drew)
 have IDC:Hid (∀W,Calls Tryz.prog 57 #[.string (st (s.take 16))] W fun e w'=>e = .returned (.bool (okI (s.take 16)))∧Below W.heap.size W w'):=fun W=>by
  have:=ybid_any (st (s.take 16)) W
  rw[st_data] at this
  exact this
 rw[st_data] at AT0
 have HY:(st (s.drop 16)).size=(s.drop 16).length:=st_size _
 have gd1:¬(d.toNat:Int)=80:=fun c=>hd (UInt8.toNat_inj.1 (by show d.toNat=80;omega))
 have gd2:¬(d.toNat:Int)=65:=fun c=>hd2 (UInt8.toNat_inj.1 (by show d.toNat=65;omega))
 have RES:Hid (tkL E (d::x::s)=none):=by show _=_;rw[TL,if_neg (by simp[hd]),if_neg (by simp[hd2])]
 obtain⟨f,hf⟩:∃f,fndE E x.toNat (s.take 16)=f:=⟨_,rfl⟩
 rw[hf] at AT0
 obtain⟨R,hRR⟩:∃R,st (d::x::s)=R:=⟨_,rfl⟩
 obtain⟨I,hII⟩:∃R,st (s.take 16)=R:=⟨_,rfl⟩
 obtain⟨Y,hYY⟩:∃R,st (s.drop 16)=R:=⟨_,rfl⟩
 have YE:Hid (Y=st (s.drop 16)):=hYY.symm
 have IE:Hid (I=st (s.take 16)):=hII.symm
 rw[hRR] at hR z0 z1 x1 x2 ⊢
 rw[hII] at x1 AT0 IDC
 rw[hYY] at x2
 clear HY
 have AT:Hid _:=AT0
 have g1:¬(R.size:Int) < 18:=by omega
 have g2:(1:Int) < (R.size:Int):=by omega
 have g3:1 < R.size:=by omega
 have g4:18≤R.size:=by omega
 have g5:(18:Int)≤(R.size:Int):=by omega
 have g6:0 < R.size:=by omega
 have g7:(0:Int) < (R.size:Int):=by omega
 have z0':=z0 g6
 have z1':=z1 g3
 have ew:IntKind.i64.wrap (x.toNat:Int)=(x.toNat:Int):=by rw[IntKind.wrap_i64];omega
 clear z0 z1 hRR hII hYY AT0 TL hR
 go_enter Tryz.func47, Tryz.ntmps47
 go_wp2_with fail
 refine Calls.mono (US.out _) ?_
 rintro e w1 ⟨rfl,hw1⟩
 subst hw1
 clear US
 have BD:Hid (Below w1.heap.size w1 w1.drew):=(Below.refl _ _).drew
 go_upto_region 3 with fail
 refine wp_region_noPanic ?_
 refine wp_region_held_drew (S:=fun _=>True) (by kernel_rfl) (trivial) (fun hHeld => ?_)
 refine wT 0 opyk3_0 ?_ ?_ ?_;rotate_left
 ·intro w' hSw;clear hSw;unfold opyk3_0;first|(go_simp;done)|(go_simp;with_reducible rfl)
 simp only[opyk3_0,Act.put,wA,wB,wC]
 refine wT 1 opyk3_1 ?_ ?_ ?_;rotate_left
 ·intro w' hSw;clear hSw;unfold opyk3_1;first|(go_simp;done)|(go_simp;with_reducible rfl)
 simp only[opyk3_1,Act.put,wA,wB,wC]
 refine wT 2 opyk3_2 ?_ ?_ ?_;rotate_left
 ·intro w' hSw;clear hSw;unfold opyk3_2;first|(go_simp;done)|(go_simp;with_reducible rfl)
 simp only[opyk3_2,Act.put,wA,wB,wC]
 refine wT 3 opyk3_3 ?_ ?_ ?_;rotate_left
 ·intro w' hSw;clear hSw;unfold opyk3_3;first|(go_simp;done)|(go_simp;with_reducible rfl)
 simp only[opyk3_3,Act.put,wA,wB,wC]
 refine wT 4 opyk3_4 ?_ ?_ ?_;rotate_left
 ·intro w' hSw;clear hSw;unfold opyk3_4;first|(go_simp;done)|(go_simp;with_reducible rfl)
 simp only[opyk3_4,Act.put,wA,wB,wC]
 refine wT 5 opyk3_5 ?_ ?_ ?_;rotate_left
 ·intro w' hSw;clear hSw;unfold opyk3_5;first|(go_simp;done)|(go_simp;with_reducible rfl)
 simp only[opyk3_5,Act.put,wA,wB,wC]
 refine wT 6 opyk3_6 ?_ ?_ ?_;rotate_left
 ·intro w' hSw;clear hSw;unfold opyk3_6;first|(go_simp;done)|(go_simp;with_reducible rfl)
 simp only[opyk3_6,Act.put,wA,wB,wC]
 refine wT 7 opyk3_7 ?_ ?_ ?_;rotate_left
 ·intro w' hSw;clear hSw;unfold opyk3_7;first|(go_simp;done)|(go_simp;with_reducible rfl)
 simp only[opyk3_7,Act.put,wA,wB,wC]
 refine wT 8 opyk3_8 ?_ ?_ ?_;rotate_left
 ·intro w' hSw;clear hSw;unfold opyk3_8;first|(go_simp;done)|(go_simp;with_reducible rfl)
 simp only[opyk3_8,Act.put,wA,wB,wC]
 refine wT 9 opyk3_9 ?_ ?_ ?_;rotate_left
 ·intro w' hSw;clear hSw;unfold opyk3_9;first|(go_simp;done)|(go_simp;with_reducible rfl)
 simp only[opyk3_9,Act.put,wA,wB,wC]
 refine wpAnyH_done (by kernel_rfl) ?_ _
 refine NoPanic.normal ?_
 go_wp2_with fail
 refine Calls.mono AT.out ?_
 rintro e w2 ⟨rfl,hw2⟩
 have hw2':=hw2.symm
 subst hw2'
 clear AT hw2
 go_wp2
 go_ret2
 exact tkr_no RES.out BD.out
theorem ybtake_short (r:Bs) (hr:r.length < 18) (a:Option Addr) (n c:Nat) (E:List En) (w:World):Calls Tryz.prog 47 #[.slice a n c,.string (st r)] w fun e w'=>TkR w (tkL E r) e w':=by
 have RES:Hid (tkL E r=none):=by
  show _=_
  unfold tkL
  rw[if_neg (by unfold low;rw[decide_eq_false (by omega)];simp)]
 have hs:(st r).size=r.length:=st_size _
 obtain⟨R,hR⟩:∃R,st r=R:=⟨_,rfl⟩
 rw[hR] at hs ⊢
 have g1:(R.size:Int) < 18:=by omega
 clear hR hs hr
 go_enter Tryz.func47, Tryz.ntmps47
 go_wp2
 go_ret2
 exact tkr_no RES.out (Below.refl _ _)
theorem ybtake_user (d x:UInt8) (s:Bs) (hs:16≤s.length) (hx:64≤x.toNat) (a:Option Addr) (n c:Nat) (E:List En) (w:World):Calls Tryz.prog 47 #[.slice a n c,.string (st (d::x::s))] w fun e w'=>TkR w (tkL E (d::x::s)) e w':=by
 have RES:Hid (tkL E (d::x::s)=none):=by
  show _=_
  unfold tkL
  have:rU (d::x::s)=x.toNat:=rfl
  rw[if_neg (by unfold low;rw[this,decide_eq_false (show ¬x.toNat < 64 by omega)];simp)]
 have hR:(st (d::x::s)).size=s.length+2:=by rw[st_size];rfl
 have z1:∀hh:1 < (st (d::x::s)).size,(st (d::x::s))[1]'hh=x:=fun _=>rfl
 have US:Hid (∀W,Calls Tryz.prog 56 #[.int .i64 (x.toNat:Int)] W fun e w'=>e = .returned (.bool false)∧w'=W):=fun W=>by
  have:=ybuser_any (x.toNat:Int) W
  rw[show noU (x.toNat:Int)=true by unfold noU;simp;omega] at this
  exact this
 have hxl:=x.toNat_lt
 obtain⟨R,hRR⟩:∃R,st (d::x::s)=R:=⟨_,rfl⟩
 rw[hRR] at hR z1 ⊢
 have g1:¬(R.size:Int) < 18:=by omega
 have g2:(1:Int) < (R.size:Int):=by omega
 have g3:1 < R.size:=by omega
 have z1':=z1 g3
 have ew:IntKind.i64.wrap (x.toNat:Int)=(x.toNat:Int):=by rw[IntKind.wrap_i64];omega
 clear z1 hRR hR
 go_enter Tryz.func47, Tryz.ntmps47
 go_wp2_with fail
 refine Calls.mono (US.out _) ?_
 rintro e w1 ⟨rfl,hw1⟩
 subst hw1
 clear US
 go_wp2
 go_ret2
 exact tkr_no RES.out (Below.refl _ _)
theorem ybtake_any (r:Bs) (hr:r.length≤2000) (a:Option Addr) (n c:Nat) (E:List En) (hn:E.length=n) (hn1:n≤100000) (hnc:n≤c) (h0:a=none→n=0∧c=0) (hsp:∀y,a=some y→y.spot=none) (w:World) (h:Hid (EnAt w a E)):Calls Tryz.prog 47 #[.slice a n c,.string (st r)] w fun e w'=>TkR w (tkL E r) e w':=by
 by_cases h18:r.length < 18
 ·exact ybtake_short r h18 a n c E w
 ·obtain⟨d,x,s,rfl⟩:∃d x s,r=d::x::s:=by
   match r,h18 with
   | d::x::s,_=>exact⟨d,x,s,rfl⟩
   | [],h=>exact absurd (show [].length < 18 by decide) h
   | [d],h=>exact absurd (show [d].length < 18 by simp) h
  have hs:16≤s.length:=by simp at h18;omega
  have hs2:s.length≤2000:=by simp at hr;omega
  by_cases hx:x.toNat < 64
  ·by_cases hd:d=80
   ·cases ho:okI (s.take 16) with
    | false=>exact ybtake_ok0 d x s hs hx hs2 a n c E hn hn1 hnc h0 hsp w h hd ho
    | true =>
     by_cases hl:(s.drop 16).length≤222
     ·by_cases hm:s.take 16∈ids (ofE E x.toNat)
      ·exact ybtake_mem d x s hs hx hs2 a n c E hn hn1 hnc h0 hsp w h hd ho hl hm
      ·exact ybtake_new d x s hs hx hs2 a n c E hn hn1 hnc h0 hsp w h hd ho hl hm
     ·exact ybtake_long d x s hs hx hs2 a n c E hn hn1 hnc h0 hsp w h hd ho hl
   ·by_cases hd2:d=65
    ·by_cases hy:s.drop 16=[]
     ·by_cases hm:s.take 16∈ids (ofE E x.toNat)
      ·exact ybtake_ack d x s hs hx hs2 a n c E hn hn1 hnc h0 hsp w h hd2 hy hm
      ·exact ybtake_none d x s hs hx hs2 a n c E hn hn1 hnc h0 hsp w h hd2 hy hm
     ·exact ybtake_text d x s hs hx hs2 a n c E hn hn1 hnc h0 hsp w h hd2 hy
    ·exact ybtake_other d x s hs hx hs2 a n c E hn hn1 hnc h0 hsp w h hd hd2
  ·exact ybtake_user d x s hs (by omega) a n c E w
end Go.Proofs.YtjpaodepnacimaaGreatDoor
