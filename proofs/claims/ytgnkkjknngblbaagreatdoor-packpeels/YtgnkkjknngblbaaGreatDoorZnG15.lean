/- The document's products,public keys and shared secrets. -/
import Derived.Test.YtgnkkjknngblbaaGreatDoorZnG08
import Derived.Test.YtgnkkjknngblbaaGreatDoorZnG14
namespace Go.Proofs.YtgnkkjknngblbaaGreatDoor.Crv
open Go.RowKit Go.Proofs.Fd Go.Proofs.Ed
set_option maxRecDepth 20000
theorem kOf (a:K) (w:World):Calls Tryz.prog 97 #[.string (ek a)] w fun e w'=>∃c:Nat→Int,e = .returned (.agg (nl c).toArray)∧dk c a∧Below w.heap.size w w':=by
 have h:=Of_any (ek a) (ek_size a) w
 have e:num (ek a).data.toList=a.val:=num_enc (Nat.lt_trans a.isLt p_lt)
 rw[e] at h
 exact h
set_option maxHeartbeats 1000000 in
theorem rTimes_ok (k u:ByteArray) (hk:k.size=32) (hu:u.size=32) (w:World) :
  Calls Tryz.prog 61 #[.string k,.string u] w fun e w'=>e = .returned (.tuple #[.string (ek (tm k u)),.int .i64 0])∧Below w.heap.size w w':=by
 have CL:Hid (∀w,Calls Tryz.prog 96 #[.string k] w fun e w'=>e = .returned (.string (enc (clampN (num k.data.toList))))∧Below w.heap.size w w'):=rClamped_any k hk
 have LD:Hid (∀(c:Nat→Int) (_:Hid (dk c (ptN (num u.data.toList)))) (w:World),Calls Tryz.prog 95 #[.string (enc (clampN (num k.data.toList))),.agg (nl c).toArray] w fun e w'=>∃d:Nat→Int,e = .returned (.agg (nl d).toArray)∧dk d (tm k u)∧Below w.heap.size w w'):=fun c hc w=>by
  have h:=rladder_any (enc (clampN (num k.data.toList))) (enc_size _) c _ hc w
  rw[num_enc (clampN_lt _)] at h
  exact h
 have hz1:((k.size:Int) != 32)=false:=by simp[hk]
 have hz2:((u.size:Int) != 32)=false:=by simp[hu]
 obtain⟨cap,W,hcv,hB,hb,hcap⟩:=bytes_of u w
 rw[hu] at hcv hcap
 have hl:u.data.toList.length=32:=by simpa using hu
 have BW:Hid (BytesAt W w.heap.size u.data.toList∧Below w.heap.size w W):=⟨hB,hb⟩
 have CV:Hid ((convert 43 9 (.slice (some ⟨w.heap.size,0,none⟩) 32 cap)).run Tryz.prog (W.setCell ⟨w.heap.size,31,none⟩ (.int .u8 ((u.data.toList[31].toNat:Int) % 128))) = .ok (.string (enc (num u.data.toList % 2 ^ 255))) (W.setCell ⟨w.heap.size,31,none⟩ (.int .u8 ((u.data.toList[31].toNat:Int) % 128)))):=by
  have h31:=u.data.toList[31].toNat_lt
  have h:=(hB.set 31 (UInt8.ofNat (u.data.toList[31].toNat % 128)) ((u.data.toList[31].toNat:Int) % 128) (by rw[UInt8.toNat_ofNat'];omega)).string (cap:=cap) (n:=32) (by simpa using hl)
  rw[enc_of (by simpa using hl),num_top _ hl _ (by rw[UInt8.toNat_ofNat'];omega)] at h
  exact h
 obtain⟨c31,f31⟩:=hB 31 (by omega)
 have RD:Hid (∀w,Calls Tryz.prog 94 #[.string (enc (num u.data.toList % 2 ^ 255))] w fun e w'=>e = .returned (.tuple #[.string (ek (ptN (num u.data.toList))),.int .i64 0])∧Below w.heap.size w w'):=fun w=>by
  have h:=rReduce_ok (enc (num u.data.toList % 2 ^ 255)) (by rw[enc_size];omega) w
  rw[num_enc (Nat.lt_trans (Nat.mod_lt _ (by decide)) (by decide:2 ^ 255 < W256))] at h
  exact h
 have OF:Hid (∀w,Calls Tryz.prog 97 #[.string (ek (ptN (num u.data.toList)))] w fun e w'=>∃c:Nat→Int,e = .returned (.agg (nl c).toArray)∧dk c (ptN (num u.data.toList))∧Below w.heap.size w w'):=kOf _
 generalize ptN (num u.data.toList)=P at *
 generalize enc (num u.data.toList % 2 ^ 255)=m at *
 generalize u.data.toList[31]=x at *
 generalize enc (clampN (num k.data.toList))=cl at *
 generalize tm k u=r at *
 clear hB hb hl
 have CV':=CV.out
 go_enter Tryz.func61, Tryz.ntmps61
 go_wp2_with fail
 refine Calls.mono (RD.out _) ?_
 rintro e w1 ⟨rfl,hb⟩
 have B1:Hid (Below w.heap.size w w1):=chain (BW.out.2.setCell (p:=⟨w.heap.size,31,none⟩) (Nat.le_refl _) _) hb
 clear hb CV' c31 f31
 go_wp2_with fail
 refine Calls.mono (CL.out _) ?_
 rintro e w2 ⟨rfl,hb⟩
 have B2:Hid (Below w.heap.size w w2):=chain B1.out hb
 clear hb
 go_wp2_with fail
 refine Calls.mono (OF.out _) ?_
 rintro e w3 ⟨c,rfl,hc,hb⟩
 have B3:Hid (Below w.heap.size w w3):=chain B2.out hb
 have HC:Hid (dk c P):=hc
 clear hb hc
 go_wp2_with fail
 refine Calls.mono (LD.out c HC _) ?_
 rintro e w4 ⟨d,rfl,hd,hb⟩
 have B4:Hid (Below w.heap.size w w4):=chain B3.out hb
 have HD:Hid (dk d r):=hd
 clear hb hd
 go_wp2_with fail
 refine Calls.mono (kBytes d r HD.out _) ?_
 rintro e w5 ⟨rfl,hb⟩
 have B5:Hid (Below w.heap.size w w5):=chain B4.out hb
 clear hb
 go_wp2
 go_ret2
 exact⟨rfl,B5.out⟩
theorem zero_agg:(Value.agg #[.int .i64 0,.int .i64 0,.int .i64 0,.int .i64 0,.int .i64 0,.int .i64 0,.int .i64 0,.int .i64 0,.int .i64 0,.int .i64 0]) = .agg (nl zd).toArray:=by rfl
theorem rZero (w:World):Calls Tryz.prog 93 #[.agg #[.int .i64 0,.int .i64 0,.int .i64 0,.int .i64 0,.int .i64 0,.int .i64 0,.int .i64 0,.int .i64 0,.int .i64 0,.int .i64 0]] w fun e w'=>e = .returned (.string (enc 0))∧Below w.heap.size w w':=by
 have h:=kBytes zd 0 dk_zero w
 rw[←zero_agg] at h
 exact h
theorem rShared_ok (k u:ByteArray) (hk:k.size=32) (hu:u.size=32) (h0:tm k u≠0) (w:World) :
  Calls Tryz.prog 58 #[.string k,.string u] w fun e w'=>e = .returned (.tuple #[.string (ek (tm k u)),.int .i64 0])∧Below w.heap.size w w':=by
 have TM:Hid (∀w,Calls Tryz.prog 61 #[.string k,.string u] w fun e w'=>e = .returned (.tuple #[.string (ek (tm k u)),.int .i64 0])∧Below w.heap.size w w'):=fun w=>rTimes_ok k u hk hu w
 have ZZ:Hid (∀w,Calls Tryz.prog 93 #[.agg #[.int .i64 0,.int .i64 0,.int .i64 0,.int .i64 0,.int .i64 0,.int .i64 0,.int .i64 0,.int .i64 0,.int .i64 0,.int .i64 0]] w fun e w'=>e = .returned (.string (enc 0))∧Below w.heap.size w w'):=rZero
 have hne:((ek (tm k u)).toList == (enc 0).toList)=false:=by
  have:¬ek (tm k u)=ek 0:=fun e=>h0 (ek_inj e)
  have h2:(ek (tm k u)).toList≠(enc 0).toList:=fun e=>this (by
   rw[ByteArray.toList_eq,ByteArray.toList_eq] at e
   show ek (tm k u)=enc 0
   cases ha:ek (tm k u);cases hb:enc 0
   rw[ha,hb] at e
   congr 1
   exact Array.ext' e)
  simpa using h2
 generalize ek (tm k u)=r at *
 generalize enc 0=z at *
 clear h0
 go_enter Tryz.func58, Tryz.ntmps58
 go_wp2_with fail
 refine Calls.mono (TM.out _) ?_
 rintro e w1 ⟨rfl,hb⟩
 have B1:Hid (Below w.heap.size w w1):=hb
 clear hb
 go_wp2_with fail
 refine Calls.mono (ZZ.out _) ?_
 rintro e w2 ⟨rfl,hb⟩
 have B2:Hid (Below w.heap.size w w2):=chain B1.out hb
 clear hb
 go_wp2
 go_ret2
 exact⟨rfl,B2.out⟩
theorem rShared_weak (k u:ByteArray) (hk:k.size=32) (hu:u.size=32) (h0:tm k u=0) (w:World) :
  Calls Tryz.prog 58 #[.string k,.string u] w fun e w'=>e = .returned (.tuple #[.string ⟨#[]⟩,.int .i64 20])∧Below w.heap.size w w':=by
 have TM:Hid (∀w,Calls Tryz.prog 61 #[.string k,.string u] w fun e w'=>e = .returned (.tuple #[.string (enc 0),.int .i64 0])∧Below w.heap.size w w'):=fun w=>by
  have h:=rTimes_ok k u hk hu w
  rw[h0] at h
  exact h
 have ZZ:Hid (∀w,Calls Tryz.prog 93 #[.agg #[.int .i64 0,.int .i64 0,.int .i64 0,.int .i64 0,.int .i64 0,.int .i64 0,.int .i64 0,.int .i64 0,.int .i64 0,.int .i64 0]] w fun e w'=>e = .returned (.string (enc 0))∧Below w.heap.size w w'):=rZero
 generalize enc 0=z at *
 clear h0
 go_enter Tryz.func58, Tryz.ntmps58
 go_wp2_with fail
 refine Calls.mono (TM.out _) ?_
 rintro e w1 ⟨rfl,hb⟩
 have B1:Hid (Below w.heap.size w w1):=hb
 clear hb
 go_wp2_with fail
 refine Calls.mono (ZZ.out _) ?_
 rintro e w2 ⟨rfl,hb⟩
 have B2:Hid (Below w.heap.size w w2):=chain B1.out hb
 clear hb
 go_wp2
 go_ret2
 exact⟨rfl,B2.out⟩
end Go.Proofs.YtgnkkjknngblbaaGreatDoor.Crv
