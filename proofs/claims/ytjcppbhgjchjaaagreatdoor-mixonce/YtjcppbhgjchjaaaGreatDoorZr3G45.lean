/- A part of the walk. -/
import Derived.Test.YtjcppbhgjchjaaaGreatDoorZr3G44
set_option maxHeartbeats 8000000
set_option maxRecDepth 20000
namespace Go.Proofs.YtjcppbhgjchjaaaGreatDoor
open Go.RowKit Go.Proofs.Fd Go.Proofs.Hs Go.Proofs.Cc Go.Proofs.Hd Go.Proofs.Rt
theorem Two.drewN {w W:Wo} {x:Hp} {k0 k1 k2 k3 k4:Ba} (h:Two w W x k0 k1 k2 k3 k4) (m:Nat):Two w (W.drewN m) x k0 k1 k2 k3 k4:=h.later (below_drewN (bQ _ _) m)
theorem zvl (p h:Ba) (hp:p.size=32) (hh:h.size=248) (h0:Hid (Crv.tm p (h.extract 0 32)=0)) (w:Wo) :
  Cl 162 #[.string p,.string h] w fun e w'=>e = .returned (.tuple #[hv zh,.string ⟨#[]⟩,kz,.int .i64 20])/\Bw w w':=by
 have W1:Hid (∀(B:Nat) (w:Wo),w.cell? ⟨B,0,none⟩=some (.string p)->Cl 177 #[.slice (some ⟨B,0,none⟩) 1 1] w fun e w'=>e = .returned (.bool true)/\Bw w w'):=fun B w h=>by
  have:=zsv p B w h;rw[decide_eq_true hp] at this;exact this
 have SH:Hid (∀w,Cl 240 #[.string p,.string (h.extract 0 32)] w fun e w'=>e = .returned (.tuple #[.string ⟨#[]⟩,.int .i64 20])/\Bw w w'):=fun w=>Crv.Shared_weak p (h.extract 0 32) hp (by rw[ByteArray.size_extract];omega) h0.out w
 have zi:(h.size:Int)=248:=by omega
 unfold hv zh kz;simp only;go_enter Tryz.func162, Tryz.ntmps162;go_wp2_with fail;refine cM (W1.out _ _ (by simp[go_sem])) ?_;rintro e W1' ⟨rfl,hb1⟩;have J1:Hid (Two w W1' ⟨0,0,0,0,⟨#[]⟩⟩ ⟨#[]⟩ ⟨#[]⟩ ⟨#[]⟩ ⟨#[]⟩ ⟨#[]⟩):=((Two.new w).later ((bQ _ _).alloc (nL _) _)).later hb1;clear hb1 W1;go_wp2_with fail;go_quiet (fail);have J2:Hid (Two w (W1'.drewN nq) ⟨0,0,0,0,⟨#[]⟩⟩ ⟨#[]⟩ ⟨#[]⟩ ⟨#[]⟩ ⟨#[]⟩ ⟨#[]⟩):=J1.out.drewN nq;clear J1;go_wp2_with fail;refine cM (SH.out _) ?_;rintro e W' ⟨rfl,hb2⟩;have J3:Hid (Two w W' ⟨0,0,0,0,⟨#[]⟩⟩ ⟨#[]⟩ ⟨#[]⟩ ⟨#[]⟩ ⟨#[]⟩ ⟨#[]⟩):=J2.out.later hb2;clear hb2 J2 SH;obtain⟨⟨a0,a1,a2,a3,a4⟩,⟨b0,b1,b2,b3,b4⟩,⟨fa0,fa1,fa2,fa3,fa4⟩,⟨fb0,fb1,fb2,fb3,fb4⟩⟩:=Two.cells J3.out;have FF:Hid (Two w (putK (putH W' w.heap.size 0 0 0 0 ⟨#[]⟩) (w.heap.size+1) ⟨#[]⟩ ⟨#[]⟩ ⟨#[]⟩ ⟨#[]⟩ ⟨#[]⟩) ⟨0,0,0,0,⟨#[]⟩⟩ ⟨#[]⟩ ⟨#[]⟩ ⟨#[]⟩ ⟨#[]⟩ ⟨#[]⟩):=(J3.out.putH 0 0 0 0 ⟨#[]⟩).putK ⟨#[]⟩ ⟨#[]⟩ ⟨#[]⟩ ⟨#[]⟩ ⟨#[]⟩;unfold YtjcppbhgjchjaaaGreatDoor.putH YtjcppbhgjchjaaaGreatDoor.putK at FF;go_wp2;refine bodyPost_ret (v := .tuple #[.agg #[.int .i64 0,.int .i64 0,.int .i64 0,.int .i64 0,.string ⟨#[]⟩],.string ⟨#[]⟩,.agg #[.string ⟨#[]⟩,.string ⟨#[]⟩,.string ⟨#[]⟩,.string ⟨#[]⟩,.string ⟨#[]⟩],.int .i64 20]) ?_ rfl ⟨rfl,FF.out.2.2⟩;exact zsw _ _ w.heap.size (w.heap.size+1) 0 0 0 0 ⟨#[]⟩ ⟨#[]⟩ ⟨#[]⟩ ⟨#[]⟩ ⟨#[]⟩ ⟨#[]⟩ ⟨#[]⟩ 20 (by kernel_rfl) (by kernel_rfl) (by kernel_rfl) (by kernel_rfl) FF.out.1 FF.out.2.1
theorem zv8 (p h S L M P D:Ba) (hp:p.size=32) (hh:h.size=248) (h0:Crv.tm p (h.extract 0 32)≠0) (hS:Crv.ek (Crv.tm p (h.extract 0 32))=S) (hL:h.extract 48 248=L) (hM:h.extract 32 48=M) (hP:htn S (L++zba 40)=P) (hD:P.extract 0 24=D) :
  ((M.toList == (hmb S L).toList)=false->plV p h=#[hv zh,.string ⟨#[]⟩,kz,.int .i64 81])
  /\ ((M.toList == (hmb S L).toList)=true->dcd D.data.toList=none->plV p h=#[hv zh,.string ⟨#[]⟩,kz,.int .i64 70])
  /\ ((M.toList == (hmb S L).toList)=true->∀x,dcd D.data.toList=some x->plV p h=#[hv x,.string (if x.k=1 then Crv.ek (Crv.tm (bld S) (h.extract 0 32))++P.extract 24 240 else ⟨#[]⟩),kv S,.int .i64 0]):=by
 have eL:h.data.toList.drop 48=L.data.toList:=by
  rw[<-hL,ByteArray.data_extract,Array.toList_extract,List.extract_eq_take_drop,List.take_of_length_le (by rw[List.length_drop,zcg];omega)]
 have eM:(h.data.toList.drop 32).take 16=M.data.toList:=by
  rw[<-hM,ByteArray.data_extract,Array.toList_extract,List.extract_eq_take_drop]
 have zL:L.size=200:=by rw[<-hL,ByteArray.size_extract];omega
 have eP:zbd S L.data.toList=P.data.toList:=by
  rw[<-hP];unfold htn zbd;rw[zsD,zsT]
 have zP:P.size=240:=by rw[<-hP,zsU _ _ (by rw[zsN,zL,zsi];decide),zsN,zL,zsi]
 have eD:(zbd S L.data.toList).take 24=D.data.toList:=by
  rw[eP,<-hD,ByteArray.data_extract,Array.toList_extract,List.extract_eq_take_drop,List.drop_zero]
 have eN:(⟨((Crv.ek (Crv.tm (bld S) (h.extract 0 32))).data.toList++(zbd S L.data.toList).drop 24).toArray⟩:Ba)=Crv.ek (Crv.tm (bld S) (h.extract 0 32))++P.extract 24 240:=by
  refine (ztL ?_).symm;rw[zsD,eP,ByteArray.data_extract,Array.toList_extract,List.extract_eq_take_drop,List.take_of_length_le (by rw[List.length_drop,zcg,zP];decide)]
 have eQ:(M.toList == (hmb S L).toList)=decide (zbS S L.data.toList=M.data.toList):=by
  rw[Bool.eq_iff_iff,beq_iff_eq,decide_eq_true_iff,ByteArray.toList_eq,ByteArray.toList_eq];unfold hmb;simp only[];exact eq_comm
 unfold plV;rw[if_pos ⟨hp,hh⟩,if_neg h0,hS,eL,eM,eD,eN,eQ];refine⟨fun q => ?_,fun q hn => ?_,fun q x hx => ?_⟩
 ·rw[if_neg (of_decide_eq_false q)]
 ·rw[if_pos (of_decide_eq_true q),hn]
 ·rw[if_pos (of_decide_eq_true q),hx]
theorem zvm (p h:Ba) (hp:p.size=32) (hh:h.size=248) (h0:Hid (Crv.tm p (h.extract 0 32)≠0)) (w:Wo) (hK:Hid (Kh w)) :
  Cl 162 #[.string p,.string h] w fun e w'=>e = .returned (.tuple (plV p h))/\Below w.heap.size w w':=by
 have W1:Hid (∀(B:Nat) (w:Wo),w.cell? ⟨B,0,none⟩=some (.string p)->Cl 177 #[.slice (some ⟨B,0,none⟩) 1 1] w fun e w'=>e = .returned (.bool true)/\Below w.heap.size w w'):=fun B w h=>by
  have:=zsv p B w h;rw[decide_eq_true hp] at this;exact this
 obtain⟨S,hS⟩:∃x,Crv.ek (Crv.tm p (h.extract 0 32))=x:=⟨_,rfl⟩;have zP0:(h.extract 0 32).size=32:=by rw[ByteArray.size_extract];omega
 have SH:Hid (∀w,Cl 240 #[.string p,.string (h.extract 0 32)] w fun e w'=>e = .returned (.tuple #[.string S,.int .i64 0])/\Below w.heap.size w w'):=fun w=>by
  rw[<-hS];exact Crv.Shared_ok p (h.extract 0 32) hp zP0 h0.out w
 have zS:S.size=32:=by rw[<-hS];exact Crv.ek_size _
 have KO:Hid (∀w,Kh w->Cl 179 #[.string S] w fun e w'=>e = .returned (hk6 S)/\Below w.heap.size w w'):=fun w h=>ztb S (by show _<=_;omega) w h
 obtain⟨L,hL⟩:∃x,h.extract 48 248=x:=⟨_,rfl⟩;obtain⟨M,hM⟩:∃x,h.extract 32 48=x:=⟨_,rfl⟩;have zL:L.size=200:=by rw[<-hL,ByteArray.size_extract];omega
 have zM:M.size=16:=by rw[<-hM,ByteArray.size_extract];omega
 have MC:Hid (∀w,Kh w->Cl 185 #[hk6 S,.string L] w fun e w'=>e = .returned (.string (hmb S L))/\Below w.heap.size w w'):=fun w h=>ztu S L (by omega) w h
 obtain⟨sm,hsm⟩:∃b:Bool,(M.toList == (hmb S L).toList)=b:=⟨_,rfl⟩;have SM:Hid (∀w,Cl 241 #[.string M,.string (hmb S L)] w fun e w'=>e = .returned (.bool sm)/\Below w.heap.size w w'):=fun w=>by
  rw[<-hsm];exact zwQ M (hmb S L) w (by show _<=_;omega) (by show _<=_;rw[zti];decide)
 have Z40:Hid (∀w,Cl 180 #[.int .i64 40] w fun e w'=>e = .returned (.string (zba 40))/\Below w.heap.size w w'):=fun w=>zsC 40 (by decide) (by decide) w
 obtain⟨LZ,hLZ⟩:∃x,L++zba 40=x:=⟨_,rfl⟩;have zLZ:LZ.size=240:=by rw[<-hLZ,zsN,zL,zsi]
 obtain⟨P,hP⟩:∃x,htn S LZ=x:=⟨_,rfl⟩;have zP:P.size=240:=by rw[<-hP,zsU _ _ (by omega),zLZ]
 have TU:Hid (∀w,Cl 184 #[hk6 S,.string LZ] w fun e w'=>e = .returned (.string P)/\Below w.heap.size w w'):=fun w=>by
  rw[<-hP];exact zsF S LZ (by omega) w
 have AD:∀w,(Op.stringOp .add L (zba 40)).run Tryz.prog w = .ok (.string LZ) w:=fun w=>by
  rw[<-hLZ];exact run_string_add_sum _ _ _ (by rw[zL,zsi];decide)
 obtain⟨D,hD⟩:∃x,P.extract 0 24=x:=⟨_,rfl⟩;have zD:D.size=24:=by rw[<-hD,ByteArray.size_extract];omega
 have DC:Hid (∀w,Cl 242 #[.string D] w fun e w'=>e = .returned (.tuple (dcV D))/\Below w.heap.size w w'):=fun w=>zvJ D w (by show _<=_;omega)
 obtain⟨BP,hBP⟩:∃x,Crv.ek (Crv.tm (bld S) (h.extract 0 32))=x:=⟨_,rfl⟩;have TM:Hid (∀w,Cl 62 #[.string (bld S),.string (h.extract 0 32)] w fun e w'=>e = .returned (.tuple #[.string BP,.int .i64 0])/\Below w.heap.size w w'):=fun w=>by
  rw[<-hBP];exact Crv.Times_ok (bld S) (h.extract 0 32) (zkL _ _ _) zP0 w
 have zBP:BP.size=32:=by rw[<-hBP];exact Crv.ek_size _
 have A2:∀w,(Op.stringOp .add BP (P.extract 24 240)).run Tryz.prog w = .ok (.string (BP++P.extract 24 240)) w:=fun w=>run_string_add_sum _ _ _ (by rw[zBP,ByteArray.size_extract];omega)
 have EV:=zv8 p h S L M P D hp hh h0.out hS hL hM (by rw[hLZ];exact hP) hD;rw[hBP,hsm] at EV;have EV':Hid (_/\_/\_):=EV;clear EV;have zi:(h.size:Int)=248:=by omega
 have zPi:(P.size:Int)=240:=by omega
 unfold hk6 at KO MC TU;unfold hv zh kz kv at EV';generalize plV p h=V at *;generalize hmb S L=HM at *;generalize zba 40=Z at *;generalize hdk S zo9 32=k1 at *;generalize hdk S zr8 32=k2 at *;generalize hdk S zpa 32=k3 at *;generalize bld S=k4 at *;generalize hdk S zqe 16=k5 at *;obtain⟨P0,hP0⟩:∃x,h.extract 0 32=x:=⟨_,rfl⟩;rw[hP0] at SH TM;clear hsm hLZ hP hBP hS zLZ zS zP0 h0 zM;go_enter Tryz.func162, Tryz.ntmps162;go_wp2_with fail;refine cM (W1.out _ _ (by simp[go_sem])) ?_;rintro e W1' ⟨rfl,hb1⟩;have J1:Hid (Two w W1' ⟨0,0,0,0,⟨#[]⟩⟩ ⟨#[]⟩ ⟨#[]⟩ ⟨#[]⟩ ⟨#[]⟩ ⟨#[]⟩):=((Two.new w).later ((bQ _ _).alloc (nL _) _)).later hb1;clear hb1 W1;go_wp2_with fail;go_quiet (fail);have J2:Hid (Two w (W1'.drewN nq) ⟨0,0,0,0,⟨#[]⟩⟩ ⟨#[]⟩ ⟨#[]⟩ ⟨#[]⟩ ⟨#[]⟩ ⟨#[]⟩):=J1.out.drewN nq;clear J1;go_wp2_with fail;refine cM (SH.out _) ?_;rintro e W2 ⟨rfl,hb2⟩;have J3:Hid (Two w W2 ⟨0,0,0,0,⟨#[]⟩⟩ ⟨#[]⟩ ⟨#[]⟩ ⟨#[]⟩ ⟨#[]⟩ ⟨#[]⟩):=J2.out.later hb2;clear hb2 J2 SH;go_wp2_with fail;refine cM (KO.out _ (hK.out.later J3.out.2.2)) ?_;rintro e W3 ⟨rfl,hb3⟩;have J4:Hid (Two w W3 ⟨0,0,0,0,⟨#[]⟩⟩ ⟨#[]⟩ ⟨#[]⟩ ⟨#[]⟩ ⟨#[]⟩ ⟨#[]⟩):=J3.out.later hb3;clear hb3 J3 KO;go_wp2_with fail;obtain⟨A,hA⟩:∃A,W3.alloc (.cells #[.string S,.string k1,.string k2,.string k3,.string k4,.string k5] 208)=A:=⟨_,rfl⟩;have J5:Hid (Two w A ⟨0,0,0,0,⟨#[]⟩⟩ ⟨#[]⟩ ⟨#[]⟩ ⟨#[]⟩ ⟨#[]⟩ ⟨#[]⟩/\Six A W3.heap.size S k1 k2 k3 k4 k5):=by
  rw[<-hA];exact⟨J4.out.later ((bQ _ _).alloc (nL _) _),Six.new _ _ _ _ _ _ _ _⟩
 have hg:w.heap.size+1 < W3.heap.size:=J4.out.2.1.lt;rw[hA];clear hA J4;generalize W3.heap.size=g at *;have hg0:w.heap.size≠g:=by omega
 have hg1:w.heap.size+1≠g:=by omega
 clear hg;refine cM (MC.out _ (hK.out.later J5.out.1.2.2)) ?_;rintro e W4 ⟨rfl,hb4⟩;have J6:Hid (Two w W4 ⟨0,0,0,0,⟨#[]⟩⟩ ⟨#[]⟩ ⟨#[]⟩ ⟨#[]⟩ ⟨#[]⟩ ⟨#[]⟩/\Six W4 g S k1 k2 k3 k4 k5):=⟨J5.out.1.later hb4,J5.out.2.later hb4⟩;clear hb4 J5 MC;go_wp2_with fail;refine cM (SM.out _) ?_;rintro e W5 ⟨rfl,hb5⟩;have J7:Hid (Two w W5 ⟨0,0,0,0,⟨#[]⟩⟩ ⟨#[]⟩ ⟨#[]⟩ ⟨#[]⟩ ⟨#[]⟩ ⟨#[]⟩/\Six W5 g S k1 k2 k3 k4 k5):=⟨J6.out.1.later hb5,J6.out.2.later hb5⟩;clear hb5 J6 SM;cases sm with
 | false =>
  have J8:Hid (Two w W5 ⟨0,0,0,0,⟨#[]⟩⟩ ⟨#[]⟩ ⟨#[]⟩ ⟨#[]⟩ ⟨#[]⟩ ⟨#[]⟩):=J7.out.1;clear J7;obtain⟨⟨a0,a1,a2,a3,a4⟩,⟨b0,b1,b2,b3,b4⟩,⟨fa0,fa1,fa2,fa3,fa4⟩,⟨fb0,fb1,fb2,fb3,fb4⟩⟩:=Two.cells J8.out;have FF:Hid (Two w (putK (putH W5 w.heap.size 0 0 0 0 ⟨#[]⟩) (w.heap.size+1) ⟨#[]⟩ ⟨#[]⟩ ⟨#[]⟩ ⟨#[]⟩ ⟨#[]⟩) ⟨0,0,0,0,⟨#[]⟩⟩ ⟨#[]⟩ ⟨#[]⟩ ⟨#[]⟩ ⟨#[]⟩ ⟨#[]⟩):=(J8.out.putH 0 0 0 0 ⟨#[]⟩).putK ⟨#[]⟩ ⟨#[]⟩ ⟨#[]⟩ ⟨#[]⟩ ⟨#[]⟩;unfold YtjcppbhgjchjaaaGreatDoor.putH YtjcppbhgjchjaaaGreatDoor.putK at FF;go_wp2;refine bodyPost_ret (v := .tuple #[.agg #[.int .i64 0,.int .i64 0,.int .i64 0,.int .i64 0,.string ⟨#[]⟩],.string ⟨#[]⟩,.agg #[.string ⟨#[]⟩,.string ⟨#[]⟩,.string ⟨#[]⟩,.string ⟨#[]⟩,.string ⟨#[]⟩],.int .i64 81]) ?_ rfl ⟨by rw[EV'.out.1 (by first|rfl|trivial)],FF.out.2.2⟩;exact zsw _ _ w.heap.size (w.heap.size+1) 0 0 0 0 ⟨#[]⟩ ⟨#[]⟩ ⟨#[]⟩ ⟨#[]⟩ ⟨#[]⟩ ⟨#[]⟩ ⟨#[]⟩ 81 (by kernel_rfl) (by kernel_rfl) (by kernel_rfl) (by kernel_rfl) FF.out.1 FF.out.2.1
 | true =>
  obtain⟨c0,c1,c2,c3,c4,c5⟩:=J7.out.2.2;go_wp2_with fail;go_region_with (first|(go_at_call 180;refine cM (Z40.out _) ?_;rintro e W6 ⟨rfl,hb6⟩;have J8:Hid (Two w W6 ⟨0,0,0,0,⟨#[]⟩⟩ ⟨#[]⟩ ⟨#[]⟩ ⟨#[]⟩ ⟨#[]⟩ ⟨#[]⟩/\Six W6 g S k1 k2 k3 k4 k5):=⟨(J7.out.1.later (bQ _ _).drew).later hb6,(J7.out.2.later (bQ _ _).drew).later hb6⟩;obtain⟨d0,d1,d2,d3,d4,d5⟩:=J8.out.2.2)|(go_at_call 184;refine cM (TU.out _) ?_;rintro e W7 ⟨rfl,hb7⟩;have J9:Hid (Two w W7 ⟨0,0,0,0,⟨#[]⟩⟩ ⟨#[]⟩ ⟨#[]⟩ ⟨#[]⟩ ⟨#[]⟩ ⟨#[]⟩/\Six W7 g S k1 k2 k3 k4 k5):=⟨J8.out.1.later hb7,J8.out.2.later hb7⟩))
  all_goals
   clear hb6 hb7 J7 J8 Z40 TU AD c0 c1 c2 c3 c4 c5 d0 d1 d2 d3 d4 d5;cases hdc:dcd D.data.toList with
   | none =>
    have VV:Hid (V=_):=EV'.out.2.1 (by first|rfl|trivial) hdc;rw[ztf D zD hdc] at DC;unfold hv zh at DC;simp only at DC;clear hdc EV';go_wp2_with fail;refine cM (DC.out _) ?_;rintro e W8 ⟨rfl,hb8⟩;have K1:Hid (Two w (putH W8 w.heap.size 0 0 0 0 ⟨#[]⟩) ⟨0,0,0,0,⟨#[]⟩⟩ ⟨#[]⟩ ⟨#[]⟩ ⟨#[]⟩ ⟨#[]⟩ ⟨#[]⟩):=(J9.out.1.later hb8).putH 0 0 0 0 ⟨#[]⟩;have K0:Hid (Two w W8 ⟨0,0,0,0,⟨#[]⟩⟩ ⟨#[]⟩ ⟨#[]⟩ ⟨#[]⟩ ⟨#[]⟩ ⟨#[]⟩):=J9.out.1.later hb8;clear hb8 J9 DC;have FF:Hid (Two w (putK (putH (putH W8 w.heap.size 0 0 0 0 ⟨#[]⟩) w.heap.size 0 0 0 0 ⟨#[]⟩) (w.heap.size+1) ⟨#[]⟩ ⟨#[]⟩ ⟨#[]⟩ ⟨#[]⟩ ⟨#[]⟩) ⟨0,0,0,0,⟨#[]⟩⟩ ⟨#[]⟩ ⟨#[]⟩ ⟨#[]⟩ ⟨#[]⟩ ⟨#[]⟩):=(K1.out.putH 0 0 0 0 ⟨#[]⟩).putK ⟨#[]⟩ ⟨#[]⟩ ⟨#[]⟩ ⟨#[]⟩ ⟨#[]⟩;unfold YtjcppbhgjchjaaaGreatDoor.putH YtjcppbhgjchjaaaGreatDoor.putK at FF;obtain⟨⟨a0,a1,a2,a3,a4⟩,⟨b0,b1,b2,b3,b4⟩,⟨fa0,fa1,fa2,fa3,fa4⟩,⟨fb0,fb1,fb2,fb3,fb4⟩⟩:=Two.cells K0.out;go_wp2;refine bodyPost_ret (v := .tuple #[.agg #[.int .i64 0,.int .i64 0,.int .i64 0,.int .i64 0,.string ⟨#[]⟩],.string ⟨#[]⟩,.agg #[.string ⟨#[]⟩,.string ⟨#[]⟩,.string ⟨#[]⟩,.string ⟨#[]⟩,.string ⟨#[]⟩],.int .i64 70]) ?_ rfl ⟨by rw[VV.out],FF.out.2.2⟩;exact zsw _ _ w.heap.size (w.heap.size+1) 0 0 0 0 ⟨#[]⟩ ⟨#[]⟩ ⟨#[]⟩ ⟨#[]⟩ ⟨#[]⟩ ⟨#[]⟩ ⟨#[]⟩ 70 (by kernel_rfl) (by kernel_rfl) (by kernel_rfl) (by kernel_rfl) FF.out.1 FF.out.2.1
   | some x =>
    have VV:Hid (V=_):=EV'.out.2.2 (by first|rfl|trivial) x hdc;rw[ztY D x zD hdc] at DC;obtain⟨xk,xn,xu,xd,xid⟩:=x;unfold hv at DC;simp only at DC VV;clear hdc EV';by_cases hk:xk=1
    ·rw[if_pos hk] at VV
     subst hk;go_wp2_with fail;refine cM (DC.out _) ?_;rintro e W8 ⟨rfl,hb8⟩;have K0:Hid (Two w W8 ⟨0,0,0,0,⟨#[]⟩⟩ ⟨#[]⟩ ⟨#[]⟩ ⟨#[]⟩ ⟨#[]⟩ ⟨#[]⟩):=J9.out.1.later hb8;have K1:Hid (Two w (putH W8 w.heap.size 1 xn xu xd xid) ⟨1,xn,xu,xd,xid⟩ ⟨#[]⟩ ⟨#[]⟩ ⟨#[]⟩ ⟨#[]⟩ ⟨#[]⟩/\Six (putH W8 w.heap.size 1 xn xu xd xid) g S k1 k2 k3 k4 k5):=⟨K0.out.putH 1 xn xu xd xid,by
      unfold YtjcppbhgjchjaaaGreatDoor.putH;exact (((((J9.out.2.later hb8).other hg0).other hg0).other hg0).other hg0).other hg0⟩
     obtain⟨⟨a0,a1,a2,a3,a4⟩,⟨b0,b1,b2,b3,b4⟩,⟨fa0,fa1,fa2,fa3,fa4⟩,⟨fb0,fb1,fb2,fb3,fb4⟩⟩:=Two.cells K0.out;have K2:=(J9.out.2.later hb8).2;obtain⟨m0,m1,m2,m3,m4,m5⟩:=K2;clear hb8 J9 DC;go_wp2_with fail;obtain⟨X,hX⟩:∃X,((((W8.setCell ⟨w.heap.size,0,none⟩ (.int .i64 1)).setCell ⟨w.heap.size,1,none⟩ (.int .i64 xn)).setCell ⟨w.heap.size,2,none⟩ (.int .i64 xu)).setCell ⟨w.heap.size,3,none⟩ (.int .i64 xd)).setCell ⟨w.heap.size,4,none⟩ (.string xid)=X:=⟨_,rfl⟩;unfold YtjcppbhgjchjaaaGreatDoor.putH at K1;rw[hX] at K1;rw[hX];clear hX a0 a1 a2 a3 a4 b0 b1 b2 b3 b4 fa0 fa1 fa2 fa3 fa4 fb0 fb1 fb2 fb3 fb4 m0 m1 m2 m3 m4 m5 K0;refine cM (TM.out _) ?_;rintro e W9 ⟨rfl,hb9⟩;have K2:Hid (Two w W9 ⟨1,xn,xu,xd,xid⟩ ⟨#[]⟩ ⟨#[]⟩ ⟨#[]⟩ ⟨#[]⟩ ⟨#[]⟩/\Six W9 g S k1 k2 k3 k4 k5):=⟨K1.out.1.later hb9,K1.out.2.later hb9⟩;clear hb9 K1 TM;have K3:Hid (Two w W9 ⟨1,xn,xu,xd,xid⟩ ⟨#[]⟩ ⟨#[]⟩ ⟨#[]⟩ ⟨#[]⟩ ⟨#[]⟩):=K2.out.1;have S3:Hid (Six W9 g S k1 k2 k3 k4 k5):=K2.out.2;obtain⟨⟨a0,a1,a2,a3,a4⟩,⟨b0,b1,b2,b3,b4⟩,⟨fa0,fa1,fa2,fa3,fa4⟩,⟨fb0,fb1,fb2,fb3,fb4⟩⟩:=Two.cells K3.out;obtain⟨m0,m1,m2,m3,m4,m5⟩:=S3.out.2;have FF:Hid (Two w (putK (putH W9 w.heap.size 1 xn xu xd xid) (w.heap.size+1) k1 k2 k3 k4 k5).drew ⟨1,xn,xu,xd,xid⟩ k1 k2 k3 k4 k5):=((K3.out.putH 1 xn xu xd xid).putK k1 k2 k3 k4 k5).later (bQ _ _).drew;unfold YtjcppbhgjchjaaaGreatDoor.putH YtjcppbhgjchjaaaGreatDoor.putK at FF;clear K2 K3 S3;go_wp2_with fail;go_region
     all_goals
      go_wp2;refine bodyPost_ret (v := .tuple #[.agg #[.int .i64 1,.int .i64 xn,.int .i64 xu,.int .i64 xd,.string xid],.string (BP++P.extract 24 240),.agg #[.string k1,.string k2,.string k3,.string k4,.string k5],.int .i64 0]) ?_ rfl ⟨by rw[VV.out],FF.out.2.2⟩;exact zsw _ _ w.heap.size (w.heap.size+1) 1 xn xu xd xid (BP++P.extract 24 240) k1 k2 k3 k4 k5 0 (by kernel_rfl) (by kernel_rfl) (by kernel_rfl) (by kernel_rfl) FF.out.1 FF.out.2.1
    ·rw[if_neg hk] at VV
     go_wp2_with fail;refine cM (DC.out _) ?_;rintro e W8 ⟨rfl,hb8⟩;have K0:Hid (Two w W8 ⟨0,0,0,0,⟨#[]⟩⟩ ⟨#[]⟩ ⟨#[]⟩ ⟨#[]⟩ ⟨#[]⟩ ⟨#[]⟩):=J9.out.1.later hb8;have K2:Hid (Two w (putH W8 w.heap.size xk xn xu xd xid) ⟨xk,xn,xu,xd,xid⟩ ⟨#[]⟩ ⟨#[]⟩ ⟨#[]⟩ ⟨#[]⟩ ⟨#[]⟩/\Six (putH W8 w.heap.size xk xn xu xd xid) g S k1 k2 k3 k4 k5):=⟨K0.out.putH xk xn xu xd xid,by
      unfold YtjcppbhgjchjaaaGreatDoor.putH;exact (((((J9.out.2.later hb8).other hg0).other hg0).other hg0).other hg0).other hg0⟩
     obtain⟨⟨a0,a1,a2,a3,a4⟩,⟨b0,b1,b2,b3,b4⟩,⟨fa0,fa1,fa2,fa3,fa4⟩,⟨fb0,fb1,fb2,fb3,fb4⟩⟩:=Two.cells K0.out;obtain⟨m0,m1,m2,m3,m4,m5⟩:=(J9.out.2.later hb8).2;clear hb8 J9 DC;go_wp2_with fail;obtain⟨X,hX⟩:∃X,((((W8.setCell ⟨w.heap.size,0,none⟩ (.int .i64 xk)).setCell ⟨w.heap.size,1,none⟩ (.int .i64 xn)).setCell ⟨w.heap.size,2,none⟩ (.int .i64 xu)).setCell ⟨w.heap.size,3,none⟩ (.int .i64 xd)).setCell ⟨w.heap.size,4,none⟩ (.string xid)=X:=⟨_,rfl⟩;unfold YtjcppbhgjchjaaaGreatDoor.putH at K2;rw[hX] at K2;rw[hX];clear hX a0 a1 a2 a3 a4 b0 b1 b2 b3 b4 fa0 fa1 fa2 fa3 fa4 fb0 fb1 fb2 fb3 fb4 m0 m1 m2 m3 m4 m5 K0;have K3:Hid (Two w X ⟨xk,xn,xu,xd,xid⟩ ⟨#[]⟩ ⟨#[]⟩ ⟨#[]⟩ ⟨#[]⟩ ⟨#[]⟩):=K2.out.1;have S3:Hid (Six X g S k1 k2 k3 k4 k5):=K2.out.2;obtain⟨⟨a0,a1,a2,a3,a4⟩,⟨b0,b1,b2,b3,b4⟩,⟨fa0,fa1,fa2,fa3,fa4⟩,⟨fb0,fb1,fb2,fb3,fb4⟩⟩:=Two.cells K3.out;obtain⟨m0,m1,m2,m3,m4,m5⟩:=S3.out.2;have FF:Hid (Two w (putK (putH X w.heap.size xk xn xu xd xid) (w.heap.size+1) k1 k2 k3 k4 k5).drew ⟨xk,xn,xu,xd,xid⟩ k1 k2 k3 k4 k5):=((K3.out.putH xk xn xu xd xid).putK k1 k2 k3 k4 k5).later (bQ _ _).drew;unfold YtjcppbhgjchjaaaGreatDoor.putH YtjcppbhgjchjaaaGreatDoor.putK at FF;clear K2 K3 S3;go_wp2_with fail;go_region
     all_goals
      go_wp2;refine bodyPost_ret (v := .tuple #[.agg #[.int .i64 xk,.int .i64 xn,.int .i64 xu,.int .i64 xd,.string xid],.string ⟨#[]⟩,.agg #[.string k1,.string k2,.string k3,.string k4,.string k5],.int .i64 0]) ?_ rfl ⟨by rw[VV.out],FF.out.2.2⟩;exact zsw _ _ w.heap.size (w.heap.size+1) xk xn xu xd xid ⟨#[]⟩ k1 k2 k3 k4 k5 0 (by kernel_rfl) (by kernel_rfl) (by kernel_rfl) (by kernel_rfl) FF.out.1 FF.out.2.1
theorem zxh:zxb:=fun p h w _ _ hK=>by
 by_cases hf:p.size=32/\h.size=248
 ·by_cases h0:Crv.tm p (h.extract 0 32)=0
  ·have e:plV p h=#[hv zh,.string ⟨#[]⟩,kz,.int .i64 20]:=by unfold plV;rw[if_pos hf,if_pos h0]
   rw[e];exact zvl p h hf.1 hf.2 h0 w
  ·exact zvm p h hf.1 hf.2 h0 w hK
 ·have e:plV p h=#[hv zh,.string ⟨#[]⟩,kz,.int .i64 3]:=by unfold plV;rw[if_neg hf]
  rw[e];exact zvk p h hf w
end Go.Proofs.YtjcppbhgjchjaaaGreatDoor
