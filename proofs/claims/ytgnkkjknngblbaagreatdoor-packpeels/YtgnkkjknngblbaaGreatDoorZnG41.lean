/- The document's headers: Peel. -/
import Derived.Test.YtgnkkjknngblbaaGreatDoorZnG39
import Derived.Test.YtgnkkjknngblbaaGreatDoorZnG40
import Derived.Test.YtgnkkjknngblbaaGreatDoorZnG15
namespace Go.Proofs.YtgnkkjknngblbaaGreatDoor
open Go.RowKit Go.Proofs.Fd Go.Proofs.Hs Go.Proofs.Cc Go.Proofs.Hd Go.Proofs.Rt
set_option maxRecDepth 20000
theorem res_rpeel (tmps:Array Value) (w:World) (b c:Nat) (k n u d:Int) (id s k0 k1 k2 k3 k4:ByteArray) (e:Int) (h4:tmps.getD 4 undef = .pointer (some ⟨b,0,none⟩)) (h5:tmps.getD 5 undef = .string s) (h6:tmps.getD 6 undef = .pointer (some ⟨c,0,none⟩)) (h7:tmps.getD 7 undef = .int .i64 e) (l:HopAt w b ⟨k,n,u,d,id⟩) (l2:Five w c k0 k1 k2 k3 k4) :
  (results Tryz.f24 tmps).run Tryz.prog w = .ok (.tuple #[.agg #[.int .i64 k,.int .i64 n,.int .i64 u,.int .i64 d,.string id],.string s,.agg #[.string k0,.string k1,.string k2,.string k3,.string k4],.int .i64 e]) w:=by
 have l1:=run_loadVar_mid (P:=Tryz.prog) w b 0 34 [.int .i64 k,.int .i64 n,.int .i64 u,.int .i64 d,.string id] _ l.range Tryz.underlying34 rfl (by kernel_rfl)
 have l3:=run_loadVar_mid (P:=Tryz.prog) w c 0 53 [.string k0,.string k1,.string k2,.string k3,.string k4] _ l2.range Tryz.underlying53 rfl (by kernel_rfl)
 unfold results
 rw[Tryz.results24]
 have h4':tmps[4]?.getD undef = .pointer (some ⟨b,0,none⟩):=by simpa using h4
 have h5':tmps[5]?.getD undef = .string s:=by simpa using h5
 have h6':tmps[6]?.getD undef = .pointer (some ⟨c,0,none⟩):=by simpa using h6
 have h7':tmps[7]?.getD undef = .int .i64 e:=by simpa using h7
 simp[h4',h5',h6',h7',l1,l3,asAddr]
set_option maxHeartbeats 1000000 in
theorem rpeel_form (p h:ByteArray) (hf:¬(p.size=32∧h.size=248)) (w:World) :
  Calls Tryz.prog 24 #[.string p,.string h] w fun e w'=>e = .returned (.tuple #[hv zh,.string ⟨#[]⟩,kz,.int .i64 3])∧Below w.heap.size w w':=by
 have J0:Hid (Two w ((w.alloc (.cells #[.int .i64 0,.int .i64 0,.int .i64 0,.int .i64 0,.string ⟨#[]⟩] 34)).alloc (.cells #[.string ⟨#[]⟩,.string ⟨#[]⟩,.string ⟨#[]⟩,.string ⟨#[]⟩,.string ⟨#[]⟩] 53)) ⟨0,0,0,0,⟨#[]⟩⟩ ⟨#[]⟩ ⟨#[]⟩ ⟨#[]⟩ ⟨#[]⟩ ⟨#[]⟩):=Two.new w
 unfold hv zh kz
 simp only
 by_cases hp:p.size=32
 ·have g1:((p.size:Int) != 32)=false:=by simp[hp]
  have g2:((h.size:Int) != 248)=true:=by simp;omega
  clear hf hp
  go_enter Tryz.func24, Tryz.ntmps24
  go_wp2
  refine bodyPost_ret (v := .tuple #[.agg #[.int .i64 0,.int .i64 0,.int .i64 0,.int .i64 0,.string ⟨#[]⟩],.string ⟨#[]⟩,.agg #[.string ⟨#[]⟩,.string ⟨#[]⟩,.string ⟨#[]⟩,.string ⟨#[]⟩,.string ⟨#[]⟩],.int .i64 3]) ?_ rfl ⟨rfl,J0.out.2.2⟩
  exact res_rpeel _ _ w.heap.size (w.heap.size+1) 0 0 0 0 ⟨#[]⟩ ⟨#[]⟩ ⟨#[]⟩ ⟨#[]⟩ ⟨#[]⟩ ⟨#[]⟩ ⟨#[]⟩ 3 (by kernel_rfl) (by kernel_rfl) (by kernel_rfl) (by kernel_rfl) J0.out.1 J0.out.2.1
 ·have g1:((p.size:Int) != 32)=true:=by simp;omega
  clear hf hp
  go_enter Tryz.func24, Tryz.ntmps24
  go_wp2
  refine bodyPost_ret (v := .tuple #[.agg #[.int .i64 0,.int .i64 0,.int .i64 0,.int .i64 0,.string ⟨#[]⟩],.string ⟨#[]⟩,.agg #[.string ⟨#[]⟩,.string ⟨#[]⟩,.string ⟨#[]⟩,.string ⟨#[]⟩,.string ⟨#[]⟩],.int .i64 3]) ?_ rfl ⟨rfl,J0.out.2.2⟩
  exact res_rpeel _ _ w.heap.size (w.heap.size+1) 0 0 0 0 ⟨#[]⟩ ⟨#[]⟩ ⟨#[]⟩ ⟨#[]⟩ ⟨#[]⟩ ⟨#[]⟩ ⟨#[]⟩ 3 (by kernel_rfl) (by kernel_rfl) (by kernel_rfl) (by kernel_rfl) J0.out.1 J0.out.2.1
set_option maxHeartbeats 1000000 in
theorem rpeel_weak (p h:ByteArray) (hp:p.size=32) (hh:h.size=248) (h0:Hid (Crv.tm p (h.extract 0 32)=0)) (w:World) :
  Calls Tryz.prog 24 #[.string p,.string h] w fun e w'=>e = .returned (.tuple #[hv zh,.string ⟨#[]⟩,kz,.int .i64 20])∧Below w.heap.size w w':=by
 have SH:Hid (∀w,Calls Tryz.prog 58 #[.string p,.string (h.extract 0 32)] w fun e w'=>e = .returned (.tuple #[.string ⟨#[]⟩,.int .i64 20])∧Below w.heap.size w w'):=fun w=>Crv.rShared_weak p (h.extract 0 32) hp (by rw[ByteArray.size_extract];omega) h0.out w
 have zi:(h.size:Int)=248:=by omega
 have zp:(p.size:Int)=32:=by omega
 unfold hv zh kz
 simp only
 go_enter Tryz.func24, Tryz.ntmps24
 go_wp2_with fail
 obtain⟨W1',hW1⟩:∃W,(w.alloc (.cells #[.int .i64 0,.int .i64 0,.int .i64 0,.int .i64 0,.string ⟨#[]⟩] 34)).alloc (.cells #[.string ⟨#[]⟩,.string ⟨#[]⟩,.string ⟨#[]⟩,.string ⟨#[]⟩,.string ⟨#[]⟩] 53)=W:=⟨_,rfl⟩
 have J1:Hid (Two w W1' ⟨0,0,0,0,⟨#[]⟩⟩ ⟨#[]⟩ ⟨#[]⟩ ⟨#[]⟩ ⟨#[]⟩ ⟨#[]⟩):=by rw[←hW1];exact Two.new w
 rw[hW1]
 clear hW1
 go_quiet (fail)
 have J2:Hid (Two w (W1'.drewN nq) ⟨0,0,0,0,⟨#[]⟩⟩ ⟨#[]⟩ ⟨#[]⟩ ⟨#[]⟩ ⟨#[]⟩ ⟨#[]⟩):=J1.out.drewN nq
 clear J1
 go_wp2_with fail
 refine Calls.mono (SH.out _) ?_
 rintro e W' ⟨rfl,hb2⟩
 have J3:Hid (Two w W' ⟨0,0,0,0,⟨#[]⟩⟩ ⟨#[]⟩ ⟨#[]⟩ ⟨#[]⟩ ⟨#[]⟩ ⟨#[]⟩):=J2.out.later hb2
 clear hb2 J2 SH
 obtain⟨⟨a0,a1,a2,a3,a4⟩,⟨b0,b1,b2,b3,b4⟩,⟨fa0,fa1,fa2,fa3,fa4⟩,⟨fb0,fb1,fb2,fb3,fb4⟩⟩:=Two.cells J3.out
 have FF:Hid (Two w (putK (putH W' w.heap.size 0 0 0 0 ⟨#[]⟩) (w.heap.size+1) ⟨#[]⟩ ⟨#[]⟩ ⟨#[]⟩ ⟨#[]⟩ ⟨#[]⟩) ⟨0,0,0,0,⟨#[]⟩⟩ ⟨#[]⟩ ⟨#[]⟩ ⟨#[]⟩ ⟨#[]⟩ ⟨#[]⟩):=(J3.out.putH 0 0 0 0 ⟨#[]⟩).putK ⟨#[]⟩ ⟨#[]⟩ ⟨#[]⟩ ⟨#[]⟩ ⟨#[]⟩
 unfold YtgnkkjknngblbaaGreatDoor.putH YtgnkkjknngblbaaGreatDoor.putK at FF
 go_wp2
 refine bodyPost_ret (v := .tuple #[.agg #[.int .i64 0,.int .i64 0,.int .i64 0,.int .i64 0,.string ⟨#[]⟩],.string ⟨#[]⟩,.agg #[.string ⟨#[]⟩,.string ⟨#[]⟩,.string ⟨#[]⟩,.string ⟨#[]⟩,.string ⟨#[]⟩],.int .i64 20]) ?_ rfl ⟨rfl,FF.out.2.2⟩
 exact res_rpeel _ _ w.heap.size (w.heap.size+1) 0 0 0 0 ⟨#[]⟩ ⟨#[]⟩ ⟨#[]⟩ ⟨#[]⟩ ⟨#[]⟩ ⟨#[]⟩ ⟨#[]⟩ 20 (by kernel_rfl) (by kernel_rfl) (by kernel_rfl) (by kernel_rfl) FF.out.1 FF.out.2.1
set_option maxHeartbeats 2000000 in
theorem rpeel_main (p h:ByteArray) (hp:p.size=32) (hh:h.size=248) (h0:Hid (Crv.tm p (h.extract 0 32)≠0)) (w:World) :
  Calls Tryz.prog 24 #[.string p,.string h] w fun e w'=>e = .returned (.tuple (plV p h))∧Below w.heap.size w w':=by
 obtain⟨S,hS⟩:∃x,Crv.ek (Crv.tm p (h.extract 0 32))=x:=⟨_,rfl⟩
 have zP0:(h.extract 0 32).size=32:=by rw[ByteArray.size_extract];omega
 have SH:Hid (∀w,Calls Tryz.prog 58 #[.string p,.string (h.extract 0 32)] w fun e w'=>e = .returned (.tuple #[.string S,.int .i64 0])∧Below w.heap.size w w'):=fun w=>by
  rw[←hS];exact Crv.rShared_ok p (h.extract 0 32) hp zP0 h0.out w
 have zS:S.size=32:=by rw[←hS];exact Crv.ek_size _
 have KO:Hid (∀w,Calls Tryz.prog 59 #[.string S] w fun e w'=>e = .returned (kv S)∧Below w.heap.size w w'):=fun w=>rOf_any S (by show _≤_;omega) w
 obtain⟨L,hL⟩:∃x,h.extract 48 248=x:=⟨_,rfl⟩
 obtain⟨M,hM⟩:∃x,h.extract 32 48=x:=⟨_,rfl⟩
 have zL:L.size=200:=by rw[←hL,ByteArray.size_extract];omega
 have MC:Hid (∀w,Calls Tryz.prog 42 #[kv S,.string L] w fun e w'=>e = .returned (.string (hmb S L))∧Below w.heap.size w w'):=fun w=>rmac_any S L (by omega) w
 obtain⟨sm,hsm⟩:∃b:Bool,(M.toList == (hmb S L).toList)=b:=⟨_,rfl⟩
 have hms:((hmb S L).toList == M.toList)=sm:=by rw[←hsm,Bool.eq_iff_iff,beq_iff_eq,beq_iff_eq];exact eq_comm
 have Z40:Hid (∀w,Calls Tryz.prog 37 #[.int .i64 40] w fun e w'=>e = .returned (.string (zba 40))∧Below w.heap.size w w'):=fun w=>rzeros_any 40 (by decide) w
 have FL:Hid (∀w,Calls Tryz.prog 40 #[kv S] w fun e w'=>e = .returned (.string (hfl S))∧Below w.heap.size w w'):=fun w=>rflow_any S w
 obtain⟨LZ,hLZ⟩:∃x,L++zba 40=x:=⟨_,rfl⟩
 have zLZ:LZ.size=240:=by rw[←hLZ,ba_add,zL,zba_size]
 obtain⟨P,hP⟩:∃x,htn S LZ=x:=⟨_,rfl⟩
 have zP:P.size=240:=by rw[←hP,htn_size _ _ (by omega),zLZ]
 have TU:Hid (∀w,Calls Tryz.prog 39 #[.string LZ,.string (hfl S)] w fun e w'=>e = .returned (.string P)∧Below w.heap.size w w'):=fun w=>by
  have h:=rWith_le LZ (hfl S) (by rw[hfl_size,zLZ];decide) (by rw[zLZ];decide) w
  have e:(⟨(xorl LZ.data.toList (hfl S).data.toList).toArray⟩:ByteArray)=P:=by
   rw[←hP]
   unfold htn hfl
   simp only[]
  rw[e] at h
  exact h
 have AD:∀w,(Op.stringOp .add L (zba 40)).run Tryz.prog w = .ok (.string LZ) w:=fun w=>by
  rw[←hLZ];exact run_string_add_sum _ _ _ (by rw[zL,zba_size];decide)
 obtain⟨D,hD⟩:∃x,P.extract 0 24=x:=⟨_,rfl⟩
 have zD:D.size=24:=by rw[←hD,ByteArray.size_extract];omega
 have DC:Hid (∀w,Calls Tryz.prog 60 #[.string D] w fun e w'=>e = .returned (.tuple (dcV D))∧Below w.heap.size w w'):=fun w=>rDecode_any D w
 obtain⟨BP,hBP⟩:∃x,Crv.ek (Crv.tm (bld S) (h.extract 0 32))=x:=⟨_,rfl⟩
 have TM:Hid (∀w,Calls Tryz.prog 61 #[.string (bld S),.string (h.extract 0 32)] w fun e w'=>e = .returned (.tuple #[.string BP,.int .i64 0])∧Below w.heap.size w w'):=fun w=>by
  rw[←hBP];exact Crv.rTimes_ok (bld S) (h.extract 0 32) (hdk_size _ _ _) zP0 w
 have zBP:BP.size=32:=by rw[←hBP];exact Crv.ek_size _
 have A2:∀w,(Op.stringOp .add BP (P.extract 24 240)).run Tryz.prog w = .ok (.string (BP++P.extract 24 240)) w:=fun w=>run_string_add_sum _ _ _ (by rw[zBP,ByteArray.size_extract];omega)
 have EV:=plV_ways p h S L M P D hp hh h0.out hS hL hM (by rw[hLZ];exact hP) hD
 rw[hBP,hsm] at EV
 have EV':Hid (_∧_∧_):=EV
 clear EV
 have zi:(h.size:Int)=248:=by omega
 have zpi:(p.size:Int)=32:=by omega
 have zPi:(P.size:Int)=240:=by omega
 unfold kv at KO MC FL
 unfold hv zh kz kv at EV'
 generalize plV p h=V at *
 generalize hmb S L=HM at *
 generalize zba 40=Z at *
 generalize hfl S=HF at *
 generalize hdk S lFlow 32=k0 at *
 generalize hdk S lMac 32=k1 at *
 generalize hdk S lBody 32=k2 at *
 generalize bld S=k3 at *
 generalize hdk S lTag 16=k4 at *
 obtain⟨P0,hP0⟩:∃x,h.extract 0 32=x:=⟨_,rfl⟩
 rw[hP0] at SH TM
 clear hsm hLZ hP hBP hS zLZ zS zP0 h0
 go_enter Tryz.func24, Tryz.ntmps24
 go_wp2_with fail
 obtain⟨W1',hW1⟩:∃W,(w.alloc (.cells #[.int .i64 0,.int .i64 0,.int .i64 0,.int .i64 0,.string ⟨#[]⟩] 34)).alloc (.cells #[.string ⟨#[]⟩,.string ⟨#[]⟩,.string ⟨#[]⟩,.string ⟨#[]⟩,.string ⟨#[]⟩] 53)=W:=⟨_,rfl⟩
 have J1:Hid (Two w W1' ⟨0,0,0,0,⟨#[]⟩⟩ ⟨#[]⟩ ⟨#[]⟩ ⟨#[]⟩ ⟨#[]⟩ ⟨#[]⟩):=by rw[←hW1];exact Two.new w
 rw[hW1]
 clear hW1
 go_quiet (fail)
 have J2:Hid (Two w (W1'.drewN nq) ⟨0,0,0,0,⟨#[]⟩⟩ ⟨#[]⟩ ⟨#[]⟩ ⟨#[]⟩ ⟨#[]⟩ ⟨#[]⟩):=J1.out.drewN nq
 clear J1
 go_wp2_with fail
 refine Calls.mono (SH.out _) ?_
 rintro e W2 ⟨rfl,hb2⟩
 have J3:Hid (Two w W2 ⟨0,0,0,0,⟨#[]⟩⟩ ⟨#[]⟩ ⟨#[]⟩ ⟨#[]⟩ ⟨#[]⟩ ⟨#[]⟩):=J2.out.later hb2
 clear hb2 J2 SH
 go_wp2_with fail
 refine Calls.mono (KO.out _) ?_
 rintro e W3 ⟨rfl,hb3⟩
 have J4:Hid (Two w W3 ⟨0,0,0,0,⟨#[]⟩⟩ ⟨#[]⟩ ⟨#[]⟩ ⟨#[]⟩ ⟨#[]⟩ ⟨#[]⟩):=J3.out.later hb3
 clear hb3 J3 KO
 go_wp2_with fail
 obtain⟨A,hA⟩:∃A,W3.alloc (.cells #[.string k0,.string k1,.string k2,.string k3,.string k4] 53)=A:=⟨_,rfl⟩
 have J5:Hid (Two w A ⟨0,0,0,0,⟨#[]⟩⟩ ⟨#[]⟩ ⟨#[]⟩ ⟨#[]⟩ ⟨#[]⟩ ⟨#[]⟩∧Five A W3.heap.size k0 k1 k2 k3 k4):=by
  rw[←hA]
  exact⟨J4.out.later ((Below.refl _ _).alloc (Nat.le_refl _) _),Five.new _ _ _ _ _ _ _⟩
 have hg:w.heap.size+1 < W3.heap.size:=J4.out.2.1.lt
 rw[hA]
 clear hA J4
 generalize W3.heap.size=g at *
 refine Calls.mono (MC.out _) ?_
 rintro e W4 ⟨rfl,hb4⟩
 have J6:Hid (Two w W4 ⟨0,0,0,0,⟨#[]⟩⟩ ⟨#[]⟩ ⟨#[]⟩ ⟨#[]⟩ ⟨#[]⟩ ⟨#[]⟩∧Five W4 g k0 k1 k2 k3 k4):=⟨J5.out.1.later hb4,J5.out.2.later hb4⟩
 clear hb4 J5 MC
 cases sm with
 | false =>
  have J8:Hid (Two w W4 ⟨0,0,0,0,⟨#[]⟩⟩ ⟨#[]⟩ ⟨#[]⟩ ⟨#[]⟩ ⟨#[]⟩ ⟨#[]⟩):=J6.out.1
  clear J6
  obtain⟨⟨a0,a1,a2,a3,a4⟩,⟨b0,b1,b2,b3,b4⟩,⟨fa0,fa1,fa2,fa3,fa4⟩,⟨fb0,fb1,fb2,fb3,fb4⟩⟩:=Two.cells J8.out
  have FF:Hid (Two w (putK (putH W4 w.heap.size 0 0 0 0 ⟨#[]⟩) (w.heap.size+1) ⟨#[]⟩ ⟨#[]⟩ ⟨#[]⟩ ⟨#[]⟩ ⟨#[]⟩) ⟨0,0,0,0,⟨#[]⟩⟩ ⟨#[]⟩ ⟨#[]⟩ ⟨#[]⟩ ⟨#[]⟩ ⟨#[]⟩):=(J8.out.putH 0 0 0 0 ⟨#[]⟩).putK ⟨#[]⟩ ⟨#[]⟩ ⟨#[]⟩ ⟨#[]⟩ ⟨#[]⟩
  unfold YtgnkkjknngblbaaGreatDoor.putH YtgnkkjknngblbaaGreatDoor.putK at FF
  go_wp2
  refine bodyPost_ret (v := .tuple #[.agg #[.int .i64 0,.int .i64 0,.int .i64 0,.int .i64 0,.string ⟨#[]⟩],.string ⟨#[]⟩,.agg #[.string ⟨#[]⟩,.string ⟨#[]⟩,.string ⟨#[]⟩,.string ⟨#[]⟩,.string ⟨#[]⟩],.int .i64 81]) ?_ rfl ⟨by rw[EV'.out.1 (by first|rfl|trivial)],FF.out.2.2⟩
  exact res_rpeel _ _ w.heap.size (w.heap.size+1) 0 0 0 0 ⟨#[]⟩ ⟨#[]⟩ ⟨#[]⟩ ⟨#[]⟩ ⟨#[]⟩ ⟨#[]⟩ ⟨#[]⟩ 81 (by kernel_rfl) (by kernel_rfl) (by kernel_rfl) (by kernel_rfl) FF.out.1 FF.out.2.1
 | true =>
  obtain⟨c0,c1,c2,c3,c4⟩:=J6.out.2.2
  go_wp2_with fail
  go_region_with (first|(go_at_call 37;refine Calls.mono (Z40.out _) ?_;rintro e W5 ⟨rfl,hb5⟩;have J7:Hid (Two w W5 ⟨0,0,0,0,⟨#[]⟩⟩ ⟨#[]⟩ ⟨#[]⟩ ⟨#[]⟩ ⟨#[]⟩ ⟨#[]⟩∧Five W5 g k0 k1 k2 k3 k4):=⟨(J6.out.1.later (Below.refl _ _).drew).later hb5,(J6.out.2.later (Below.refl _ _).drew).later hb5⟩;obtain⟨d0,d1,d2,d3,d4⟩:=J7.out.2.2)|(go_at_call 40;refine Calls.mono (FL.out _) ?_;rintro e W6 ⟨rfl,hb6⟩;have J8:Hid (Two w W6 ⟨0,0,0,0,⟨#[]⟩⟩ ⟨#[]⟩ ⟨#[]⟩ ⟨#[]⟩ ⟨#[]⟩ ⟨#[]⟩∧Five W6 g k0 k1 k2 k3 k4):=⟨J7.out.1.later hb6,J7.out.2.later hb6⟩)|(go_at_call 39;refine Calls.mono (TU.out _) ?_;rintro e W7 ⟨rfl,hb7⟩;have J9:Hid (Two w W7 ⟨0,0,0,0,⟨#[]⟩⟩ ⟨#[]⟩ ⟨#[]⟩ ⟨#[]⟩ ⟨#[]⟩ ⟨#[]⟩∧Five W7 g k0 k1 k2 k3 k4):=⟨J8.out.1.later hb7,J8.out.2.later hb7⟩))
  all_goals
   clear hb5 hb6 hb7 J6 J7 J8 Z40 TU FL AD c0 c1 c2 c3 c4 d0 d1 d2 d3 d4
   cases hdc:dcd D.data.toList with
   | none =>
    have VV:Hid (V=_):=EV'.out.2.1 (by first|rfl|trivial) hdc
    rw[dcV_none D zD hdc] at DC
    unfold hv zh at DC
    simp only at DC
    clear hdc EV'
    go_wp2_with fail
    refine Calls.mono (DC.out _) ?_
    rintro e W8 ⟨rfl,hb8⟩
    obtain⟨X,hX⟩:∃X,W8.alloc (.cells #[.int .i64 0,.int .i64 0,.int .i64 0,.int .i64 0,.string ⟨#[]⟩] 34)=X:=⟨_,rfl⟩
    have K0:Hid (Two w X ⟨0,0,0,0,⟨#[]⟩⟩ ⟨#[]⟩ ⟨#[]⟩ ⟨#[]⟩ ⟨#[]⟩ ⟨#[]⟩):=by
     rw[←hX]
     exact (J9.out.1.later hb8).later ((Below.refl _ _).alloc (Nat.le_refl _) _)
    have K8:Hid (Two w W8 ⟨0,0,0,0,⟨#[]⟩⟩ ⟨#[]⟩ ⟨#[]⟩ ⟨#[]⟩ ⟨#[]⟩ ⟨#[]⟩):=J9.out.1.later hb8
    have FX:Hid (Two w ((putK (putH W8 w.heap.size 0 0 0 0 ⟨#[]⟩) (w.heap.size+1) ⟨#[]⟩ ⟨#[]⟩ ⟨#[]⟩ ⟨#[]⟩ ⟨#[]⟩).alloc (.cells #[.int .i64 0,.int .i64 0,.int .i64 0,.int .i64 0,.string ⟨#[]⟩] 34)) ⟨0,0,0,0,⟨#[]⟩⟩ ⟨#[]⟩ ⟨#[]⟩ ⟨#[]⟩ ⟨#[]⟩ ⟨#[]⟩):=((K8.out.putH 0 0 0 0 ⟨#[]⟩).putK ⟨#[]⟩ ⟨#[]⟩ ⟨#[]⟩ ⟨#[]⟩ ⟨#[]⟩).later ((Below.refl _ _).alloc (Nat.le_refl _) _)
    unfold YtgnkkjknngblbaaGreatDoor.putH YtgnkkjknngblbaaGreatDoor.putK at FX
    clear hX hb8 J9 DC K0
    obtain⟨⟨a0,a1,a2,a3,a4⟩,⟨b0,b1,b2,b3,b4⟩,⟨fa0,fa1,fa2,fa3,fa4⟩,⟨fb0,fb1,fb2,fb3,fb4⟩⟩:=Two.cells K8.out
    have lt0:=K8.out.1.lt
    have lt1:=K8.out.2.1.lt
    go_wp2
    refine bodyPost_ret (v := .tuple #[.agg #[.int .i64 0,.int .i64 0,.int .i64 0,.int .i64 0,.string ⟨#[]⟩],.string ⟨#[]⟩,.agg #[.string ⟨#[]⟩,.string ⟨#[]⟩,.string ⟨#[]⟩,.string ⟨#[]⟩,.string ⟨#[]⟩],.int .i64 70]) ?_ rfl ⟨by rw[VV.out],FX.out.2.2⟩
    exact res_rpeel _ _ w.heap.size (w.heap.size+1) 0 0 0 0 ⟨#[]⟩ ⟨#[]⟩ ⟨#[]⟩ ⟨#[]⟩ ⟨#[]⟩ ⟨#[]⟩ ⟨#[]⟩ 70 (by kernel_rfl) (by kernel_rfl) (by kernel_rfl) (by kernel_rfl) FX.out.1 FX.out.2.1
   | some x =>
    have VV:Hid (V=_):=EV'.out.2.2 (by first|rfl|trivial) x hdc
    rw[dcV_some D x zD hdc] at DC
    obtain⟨xk,xn,xu,xd,xid⟩:=x
    unfold hv at DC
    simp only at DC VV
    clear hdc EV'
    by_cases hk:xk=1
    ·rw[if_pos hk] at VV
     subst hk
     go_wp2_with fail
     refine Calls.mono (DC.out _) ?_
     rintro e W8 ⟨rfl,hb8⟩
     obtain⟨m0,m1,m2,m3,m4⟩:=(J9.out.2.later hb8).2
     have ltg:=(J9.out.2.later hb8).lt
     have K8:Hid (Two w W8 ⟨0,0,0,0,⟨#[]⟩⟩ ⟨#[]⟩ ⟨#[]⟩ ⟨#[]⟩ ⟨#[]⟩ ⟨#[]⟩∧Five W8 g k0 k1 k2 k3 k4):=⟨J9.out.1.later hb8,J9.out.2.later hb8⟩
     clear hb8 J9 DC
     go_wp2_with fail
     obtain⟨X,hX⟩:∃X,W8.alloc (.cells #[.int .i64 1,.int .i64 xn,.int .i64 xu,.int .i64 xd,.string xid] 34)=X:=⟨_,rfl⟩
     have K1:Hid (Two w X ⟨0,0,0,0,⟨#[]⟩⟩ ⟨#[]⟩ ⟨#[]⟩ ⟨#[]⟩ ⟨#[]⟩ ⟨#[]⟩∧Five X g k0 k1 k2 k3 k4∧HopAt X W8.heap.size ⟨1,xn,xu,xd,xid⟩):=by
      rw[←hX]
      exact⟨K8.out.1.later ((Below.refl _ _).alloc (Nat.le_refl _) _),K8.out.2.later ((Below.refl _ _).alloc (Nat.le_refl _) _),HopAt.fresh _ _ _ _ _ _ _⟩
     have lgt:w.heap.size+1 < W8.heap.size:=K8.out.1.2.1.lt
     rw[hX]
     clear hX m0 m1 m2 m3 m4 K8 ltg
     generalize W8.heap.size=q at *
     refine Calls.mono (TM.out _) ?_
     rintro e W9 ⟨rfl,hb9⟩
     have K2:Hid (Two w W9 ⟨0,0,0,0,⟨#[]⟩⟩ ⟨#[]⟩ ⟨#[]⟩ ⟨#[]⟩ ⟨#[]⟩ ⟨#[]⟩):=K1.out.1.later hb9
     obtain⟨m0,m1,m2,m3,m4⟩:=(K1.out.2.1.later hb9).2
     obtain⟨n0,n1,n2,n3,n4⟩:=(K1.out.2.2.later hb9).cells
     have x1:¬g=w.heap.size:=by omega
     have x2:¬g=w.heap.size+1:=by omega
     have x3:¬q=w.heap.size:=by omega
     have x4:¬q=w.heap.size+1:=by omega
     clear hb9 K1 TM
     obtain⟨⟨a0,a1,a2,a3,a4⟩,⟨b0,b1,b2,b3,b4⟩,⟨fa0,fa1,fa2,fa3,fa4⟩,⟨fb0,fb1,fb2,fb3,fb4⟩⟩:=Two.cells K2.out
     have FF:Hid (Two w (putK (putH W9 w.heap.size 1 xn xu xd xid) (w.heap.size+1) k0 k1 k2 k3 k4).drew ⟨1,xn,xu,xd,xid⟩ k0 k1 k2 k3 k4):=((K2.out.putH 1 xn xu xd xid).putK k0 k1 k2 k3 k4).later (Below.refl _ _).drew
     unfold YtgnkkjknngblbaaGreatDoor.putH YtgnkkjknngblbaaGreatDoor.putK at FF
     clear K2
     go_wp2_with fail
     go_region
     all_goals
      go_wp2
      refine bodyPost_ret (v := .tuple #[.agg #[.int .i64 1,.int .i64 xn,.int .i64 xu,.int .i64 xd,.string xid],.string (BP++P.extract 24 240),.agg #[.string k0,.string k1,.string k2,.string k3,.string k4],.int .i64 0]) ?_ rfl ⟨by rw[VV.out],FF.out.2.2⟩
      exact res_rpeel _ _ w.heap.size (w.heap.size+1) 1 xn xu xd xid (BP++P.extract 24 240) k0 k1 k2 k3 k4 0 (by kernel_rfl) (by kernel_rfl) (by kernel_rfl) (by kernel_rfl) FF.out.1 FF.out.2.1
    ·rw[if_neg hk] at VV
     have hkb:(xk != 1)=true:=by simp;exact hk
     go_wp2_with fail
     refine Calls.mono (DC.out _) ?_
     rintro e W8 ⟨rfl,hb8⟩
     have K8:Hid (Two w W8 ⟨0,0,0,0,⟨#[]⟩⟩ ⟨#[]⟩ ⟨#[]⟩ ⟨#[]⟩ ⟨#[]⟩ ⟨#[]⟩∧Five W8 g k0 k1 k2 k3 k4):=⟨J9.out.1.later hb8,J9.out.2.later hb8⟩
     clear hb8 J9 DC
     go_wp2_with fail
     obtain⟨X,hX⟩:∃X,W8.alloc (.cells #[.int .i64 xk,.int .i64 xn,.int .i64 xu,.int .i64 xd,.string xid] 34)=X:=⟨_,rfl⟩
     have K1:Hid (Two w X ⟨0,0,0,0,⟨#[]⟩⟩ ⟨#[]⟩ ⟨#[]⟩ ⟨#[]⟩ ⟨#[]⟩ ⟨#[]⟩∧Five X g k0 k1 k2 k3 k4∧HopAt X W8.heap.size ⟨xk,xn,xu,xd,xid⟩):=by
      rw[←hX]
      exact⟨K8.out.1.later ((Below.refl _ _).alloc (Nat.le_refl _) _),K8.out.2.later ((Below.refl _ _).alloc (Nat.le_refl _) _),HopAt.fresh _ _ _ _ _ _ _⟩
     have lgt:w.heap.size+1 < W8.heap.size:=K8.out.1.2.1.lt
     rw[hX]
     clear hX K8
     generalize W8.heap.size=q at *
     have K2:Hid (Two w X ⟨0,0,0,0,⟨#[]⟩⟩ ⟨#[]⟩ ⟨#[]⟩ ⟨#[]⟩ ⟨#[]⟩ ⟨#[]⟩):=K1.out.1
     obtain⟨m0,m1,m2,m3,m4⟩:=K1.out.2.1.2
     obtain⟨n0,n1,n2,n3,n4⟩:=K1.out.2.2.cells
     have x1:¬g=w.heap.size:=by omega
     have x2:¬g=w.heap.size+1:=by omega
     have x3:¬q=w.heap.size:=by omega
     have x4:¬q=w.heap.size+1:=by omega
     clear K1
     obtain⟨⟨a0,a1,a2,a3,a4⟩,⟨b0,b1,b2,b3,b4⟩,⟨fa0,fa1,fa2,fa3,fa4⟩,⟨fb0,fb1,fb2,fb3,fb4⟩⟩:=Two.cells K2.out
     have FF:Hid (Two w (putK (putH X w.heap.size xk xn xu xd xid) (w.heap.size+1) k0 k1 k2 k3 k4).drew ⟨xk,xn,xu,xd,xid⟩ k0 k1 k2 k3 k4):=((K2.out.putH xk xn xu xd xid).putK k0 k1 k2 k3 k4).later (Below.refl _ _).drew
     unfold YtgnkkjknngblbaaGreatDoor.putH YtgnkkjknngblbaaGreatDoor.putK at FF
     clear K2
     go_region
     all_goals
      go_wp2
      refine bodyPost_ret (v := .tuple #[.agg #[.int .i64 xk,.int .i64 xn,.int .i64 xu,.int .i64 xd,.string xid],.string ⟨#[]⟩,.agg #[.string k0,.string k1,.string k2,.string k3,.string k4],.int .i64 0]) ?_ rfl ⟨by rw[VV.out],FF.out.2.2⟩
      exact res_rpeel _ _ w.heap.size (w.heap.size+1) xk xn xu xd xid ⟨#[]⟩ k0 k1 k2 k3 k4 0 (by kernel_rfl) (by kernel_rfl) (by kernel_rfl) (by kernel_rfl) FF.out.1 FF.out.2.1
theorem rPeel_any (p h:ByteArray) (w:World) :
  Calls Tryz.prog 24 #[.string p,.string h] w fun e w'=>e = .returned (.tuple (plV p h))∧Below w.heap.size w w':=by
 by_cases hf:p.size=32∧h.size=248
 ·by_cases h0:Crv.tm p (h.extract 0 32)=0
  ·have e:plV p h=#[hv zh,.string ⟨#[]⟩,kz,.int .i64 20]:=by unfold plV;rw[if_pos hf,if_pos h0]
   rw[e]
   exact rpeel_weak p h hf.1 hf.2 h0 w
  ·exact rpeel_main p h hf.1 hf.2 h0 w
 ·have e:plV p h=#[hv zh,.string ⟨#[]⟩,kz,.int .i64 3]:=by unfold plV;rw[if_neg hf]
  rw[e]
  exact rpeel_form p h hf w
end Go.Proofs.YtgnkkjknngblbaaGreatDoor
