/- Proved: MixOnce answers true at every input,and leaves its arguments as they were;the package's table reads as its initialiser lays it (the card ties it). No condition beyond the row's own. -/
import Derived.Test.YtjcppbhgjchjaaaGreatDoorZr3G45
import Derived.Test.YtjcppbhgjchjaaaGreatDoorZr3G26
import Derived.Test.YtjcppbhgjchjaaaGreatDoorZr3G46
import Derived.Below
import Derived.Deep.DeepHandedRow
import Derived.Lib.LaidTab
import Derived.Lay
set_option maxHeartbeats 8000000
set_option maxRecDepth 20000
namespace Go.Proofs.YtjcppbhgjchjaaaGreatDoor
open Go.ChangeShapes Go.WideShapes Go.ChangeAt Go.RowKit
open Go.ChangeMaps (open_string shut_string)
set_option linter.unusedVariables false
namespace MixOnceRow
theorem own:ownKnob Tryz.prog.godebug=none:=by kernel_rfl
theorem zmb:laidOutB Tryz.prog=true:=by kernel_rfl
theorem zr0:Tryz.prog.globalNamed "dovecote/hash.constants" = some 0 := by kernel_rfl
theorem zjx:(Tryz.prog.globals[0]?).map (·.type)=some 411 := by kernel_rfl
theorem zjy:Tryz.prog.cellsOf 411 = 64:=by kernel_rfl
theorem zhg:Tryz.prog.cellsOf 192 = 1:=by kernel_rfl
theorem zp6:Tryz.prog.cellsOf 9 = 1:=by kernel_rfl
theorem zp7:Tryz.prog.bytesOf 9 = 16:=by kernel_rfl
def kz:List Int:=[1116352408,1899447441,3049323471,3921009573,961987163,1508970993,2453635748,2870763221,3624381080,310598401,607225278,1426881987,1925078388,2162078206,2614888103,3248222580,3835390401,4022224774,264347078,604807628,770255983,1249150122,1555081692,1996064986,2554220882,2821834349,2952996808,3210313671,3336571891,3584528711,113926993,338241895,666307205,773529912,1294757372,1396182291,1695183700,1986661051,2177026350,2456956037,2730485921,2820302411,3259730800,3345764771,3516065817,3600352804,4094571909,275423344,430227734,506948616,659060556,883997877,958139571,1322822218,1537002063,1747873779,1955562222,2024104815,2227730452,2361852424,2428436474,2756734187,3204031479,3329325298]
theorem zos {W:World} (h:laidMetH Tryz.prog Rows.mixOnceRow.laid W):Lib.TabIs Tryz.prog W "dovecote/hash.constants" .u32 kz :=
 Lib.tabIs_of_head (rest:=_) zr0 zjx Tryz.underlying411 Tryz.underlying192 zhg zjy h
theorem zqr:∀i,i < 64->kz.getD i 0=tv (Go.Proofs.Hs.kst.getD i 0):=by decide +kernel
theorem kh {W:World} (h:laidMetH Tryz.prog Rows.mixOnceRow.laid W):Kh W:=by
 have c:∀i,i < 64->W.cell? ⟨0, i,none⟩=some (.int .u32 (tv (Go.Proofs.Hs.kst.getD i 0))):=fun i hi=>by
  have h1:=(zos h).cell zr0 i hi;rw[h1,zqr i hi]
 exact⟨World.block_lt_of_cell? _ _ (c 0 (by decide)),c⟩
theorem zjz (H:Type) (enc:TypeId×Value->H) (W:World) (base:Nat) (args:Array Value) (ds gs:List (DataW H)) (before:List MemPlace)
  (hval0:∀(j:Nat) t v,Tryz.f5.params[j]?=some t->args[j]?=some v->Value.okWide Tryz.prog W .any base t v)
  (hW:DataW.Whole enc Tryz.prog Tryz.f5.params.toList Rows.mixOnceSpec.vars false W args.toList ds gs before)
  (hcond:∀k,(OpenSpec.ofChange Rows.mixOnceSpec).cond=some k->k H (ds++gs)=true)
  (hsz0:(DataW.weightsEach Tryz.prog (Tryz.f5.params.toList++(OpenSpec.ofChange Rows.mixOnceSpec).bare.plain.varTypes Tryz.prog) (ds++gs)).all (·<=reachBytes)=true)
  (hL:laidMetH Tryz.prog Rows.mixOnceRow.laid W) :
  Cl 5 args W fun e W'=>∃v,e = .returned v/\Rows.mixOnceSpec.post enc Tryz.prog Tryz.f5 false true false false W args v W':=by
 have hval:∀(j:Nat) t v,Tryz.f5.params[j]?=some t->args[j]?=some v->Value.okWide Tryz.prog W .any base t v:=hval0;have hsz:(DataW.weightsEach Tryz.prog (Tryz.f5.params.toList++Rows.mixOnceSpec.plain.varTypes Tryz.prog) (ds++gs)).all (·<=reachBytes)=true:=hsz0;clear hsz0;have hW':=hW;obtain⟨pl,q,hA0,hV,rfl,hfz,hnd⟩:=hW;have hA:DataW.TrodAll enc Tryz.prog W 0 (fun _=>true) true Tryz.f5.params.toList args.toList ds pl:=hA0;rw[Tryz.params5] at hA hval hsz;obtain⟨v0,vs0,d0,ds0,p0,q0,hargs,rfl,rfl,h0,r0⟩:=trodAll_cons hA;obtain⟨rfl,rfl,rfl⟩:=trodAll_nil r0;obtain rfl:args=#[v0]:=by cases args;simp_all
 obtain⟨rfl,rfl⟩:=trodVars_none hV;have k0:=h0;have lt0:∀x∈p0,x.block < W.heap.size:=by obtain⟨m,hm⟩:=k0;exact DataW.trod_lt m _ _ _ hm
 obtain⟨a0,len0,cap0,rfl⟩:=okWide_slice Tryz.underlying67 (hval 0 67 v0 rfl rfl);have hw0:∀q∈d0.weights Tryz.prog 67, q<=reachBytes:=fun q hq=>of_decide_eq_true (List.all_eq_true.1 hsz q (DataW.weights_mem_each (j:=0) (t := 67) rfl rfl q hq))
 obtain⟨ss0,hc0,hn0,hr0⟩:∃l,zjt W a0 l/\l.length=len0/\∀x∈l,x.L W:=by
  obtain⟨fuel,hf⟩:=h0;obtain⟨a,n,c,l,e,q⟩:=zv3 hf hw0;simp[Value.cells] at e;obtain⟨rfl,rfl,rfl⟩:=e;exact⟨l,q⟩
 clear hA0 hval0;refine (zeL (zv0 zxg zw9 zw7) (zv2 zxh zw8 zvU) a0 ss0 len0 cap0 hn0 W (kh hL) hc0 hr0).mono fun e W' ⟨he,bel⟩ => ?_
 subst he;exact⟨_,rfl,_,_,_,[],_,[],hW',trodAll_mk1 (shut_bool Tryz.underlying4 _),(trodAll_cons_mk (Below.trod zmb (by kernel_rfl) (of_decide_eq_true (by kernel_rfl)) k0 bel lt0) trodAll_mk0),rfl,bel.frame _,fun h=>by cases h⟩
theorem zjA (os:Os):laidMet Tryz.prog Rows.mixOnceRow.laid ((World.laidAll Tryz.prog os Rows.mixOnceRow.laid).forCall (fun _ _=>0) ⟨#[],#[.slice none 0 0],[]⟩).memory :=
 laidMet_laidAll #[.slice none 0 0] (by kernel_rfl) (by kernel_rfl)
theorem zot (os:Os) {H:Type} (enc:TypeId×Value->H):∃places,DataW.whole enc Tryz.prog ((World.laidAll Tryz.prog os Rows.mixOnceRow.laid).forCall (fun _ _=>0) ⟨#[],#[.slice none 0 0],[]⟩).memory Tryz.f5.params.toList Rows.mixOnceSpec.vars false (#[.slice none 0 0]:Array Value).toList 8=some ([.nil],[],places) :=
 ⟨[],by kernel_rfl⟩
set_option maxRecDepth 100000 in
theorem zou (os:Os) (started:os.Started) (H:Type) (enc:TypeId×Value->H) (F:Stop.Interp) :
  ReturnsInHanded {} Tryz.checked os 5 .any ((OpenSpec.ofChange Rows.mixOnceSpec).preRow enc Tryz.prog Tryz.f5 Rows.mixOnceRow.domain false Rows.mixOnceRow.laid) (((OpenSpec.ofChange Rows.mixOnceSpec).at F).post enc Tryz.prog Tryz.f5 false true false false):=by
 obtain⟨places,hx⟩:=zot os enc;refine returnsInHanded_of_row (C:=Tryz.checked) (s:=OpenSpec.ofChange Rows.mixOnceSpec) own started (by kernel_rfl) Tryz.func5
  (witness_row_at (enc:=enc) (C:=Tryz.checked) false (World.laidAll Tryz.prog os Rows.mixOnceRow.laid) #[.slice none 0 0] (World.laidAll_os _ _ _) (by kernel_rfl) (by kernel_rfl) (by kernel_rfl)
   (OpenSpec.preRow_of_cond 8 hx (by kernel_rfl) (fun k hk=>by cases hk) (by kernel_rfl) (zjA os))) ?_
 intro W base args ds gs before hval hW _ hcond hsz hL _ _;exact zjz H enc W base args ds gs before hval hW hcond hsz hL
theorem nm:Tryz.pinned.checked.prog.funcNamed Rows.mixOnceRow.func=some 5 := by kernel_rfl
theorem isi:Func.isInstance Tryz.pinned.checked.prog Tryz.f5 Rows.mixOnceRow.origin Rows.mixOnceRow.targs:=of_decide_eq_true (by kernel_rfl)
theorem isw:Func.isWrapper Tryz.pinned.checked.prog Tryz.f5 Rows.mixOnceRow.wrapper Rows.mixOnceRow.mainSum:=by
 unfold Func.isWrapper
 first
 | (rw[if_pos (by decide +kernel)];kernel_rfl)
 | (rw[if_neg (by decide +kernel)];exact⟨rfl,rfl⟩)
theorem said:Rows.MixOnceSaid :=
 OpenClaim.holds_of_cond 5 Tryz.f5 rfl rfl rfl rfl rfl rfl rfl ⟨rfl,rfl,rfl,rfl,rfl⟩ rfl rfl rfl rfl rfl nm Tryz.func5 jf isi isw
  (fun os started H enc _ F=>by rw[OpenClaim.pre_eq_preRow];exact zou os started H enc F)
theorem plain (f:FuncId) (fn:Func) (hf:Tryz.pinned.checked.prog.funcNamed "dovecote/dovecotelaw19.MixOnce" = some f) (hfn:Tryz.pinned.checked.prog.funcs[f]?=some fn) :
  false=Tryz.pinned.checked.prog.looks []/\∀(j:Nat) t,fn.params[j]?=some t->Tryz.pinned.checked.prog.wantsStandIn t=false:=by
 obtain rfl:f = 5 := Option.some.inj ((show Tryz.prog.funcNamed "dovecote/dovecotelaw19.MixOnce" = some 5 by kernel_rfl).symm.trans hf) |>.symm;obtain rfl:fn=Tryz.f5 := (Option.some.inj (Tryz.func5.symm.trans hfn)).symm;refine⟨by kernel_rfl,fun j t ht => ?_⟩;rw[Tryz.params5] at ht;have hm:t∈[67]:=by simpa using Array.mem_of_getElem? ht
 have hall:([67].all fun u=>!Tryz.prog.wantsStandIn u)=true:=by kernel_rfl
 exact (show Tryz.prog.wantsStandIn t=false by simpa using List.all_eq_true.1 hall t hm)
end MixOnceRow
theorem mixOnce_card_holds:Rows.MixOnceCardSaid :=
 Claim7.holds_tied_plain_at .later [] _ _ _ _ MixOnceRow.said (fun _ h=>by cases h) (by kernel_rfl) (fun _ h=>by cases h) mixOnce_row_tie rfl ⟨rfl,rfl⟩ (by kernel_rfl) rfl MixOnceRow.plain (by kernel_rfl)
#print axioms mixOnce_card_holds
end Go.Proofs.YtjcppbhgjchjaaaGreatDoor
