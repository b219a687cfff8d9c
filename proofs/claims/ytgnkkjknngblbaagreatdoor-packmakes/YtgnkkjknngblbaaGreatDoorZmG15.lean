/- Parts: D5,D6. -/
import Derived.Test.YtgnkkjknngblbaaGreatDoorZmG08
import Derived.Test.YtgnkkjknngblbaaGreatDoorZmG14
namespace Go.Proofs.YtgnkkjknngblbaaGreatDoor.Crv
open Go.RowKit Go.Proofs.Fd Go.Proofs.Ed
set_option maxRecDepth 20000
theorem kOf (a:K) (w:World):Calls Tryz.prog 97 #[.string (ek a)] w fun e w'=>∃c:Nat→Int,e = .returned (.agg (nl c).toArray)∧dk c a∧Below w.heap.size w w':=by
 have h:=Of_any (ek a) (ek_size a) w
 have e:num (ek a).data.toList=a.val:=num_enc (Nat.lt_trans a.isLt p_lt)
 rw[e] at h
 exact h
set_option maxHeartbeats 1000000 in
theorem rTimes_ok (k u:ByteArray) (hk:k.size=32) (hu:u.size=32) (w:World) :
  Calls Tryz.prog 61 #[.string k,.string u] w fun e w'=>e = .returned (.tuple #[.string (ek (tm k u)),.int .i64 0])∧Below w.heap.size w w':=by
 have CL:Hid (∀w,Calls Tryz.prog 96 #[.string k] w fun e w'=>e = .returned (.string (enc (clampN (num k.data.toList))))∧Below w.heap.size w w'):=rClamped_any k hk
 have LD:Hid (∀(c:Nat→Int) (_:Hid (dk c (ptN (num u.data.toList)))) (w:World),Calls Tryz.prog 95 #[.string (enc (clampN (num k.data.toList))),.agg (nl c).toArray] w fun e w'=>∃d:Nat→Int,e = .returned (.agg (nl d).toArray)∧dk d (tm k u)∧Below w.heap.size w w'):=fun c hc w=>by
  have h:=rladder_any (enc (clampN (num k.data.toList))) (enc_size _) c _ hc w
  rw[num_enc (clampN_lt _)] at h
  exact h
 have hz1:((k.size:Int) != 32)=false:=by simp[hk]
 have hz2:((u.size:Int) != 32)=false:=by simp[hu]
 obtain⟨cap,W,hcv,hB,hb,hcap⟩:=bytes_of u w
 rw[hu] at hcv hcap
 have hl:u.data.toList.length=32:=by simpa using hu
 have BW:Hid (BytesAt W w.heap.size u.data.toList∧Below w.heap.size w W):=⟨hB,hb⟩
 have CV:Hid ((convert 43 9 (.slice (some ⟨w.heap.size,0,none⟩) 32 cap)).run Tryz.prog (W.setCell ⟨w.heap.size,31,none⟩ (.int .u8 ((u.data.toList[31].toNat:Int) % 128))) = .ok (.string (enc (num u.data.toList % 2 ^ 255))) (W.setCell ⟨w.heap.size,31,none⟩ (.int .u8 ((u.data.toList[31].toNat:Int) % 128)))):=by
  have h31:=u.data.toList[31].toNat_lt
  have h:=(hB.set 31 (UInt8.ofNat (u.data.toList[31].toNat % 128)) ((u.data.toList[31].toNat:Int) % 128) (by rw[UInt8.toNat_ofNat'];omega)).string (cap:=cap) (n:=32) (by simpa using hl)
  rw[enc_of (by simpa using hl),num_top _ hl _ (by rw[UInt8.toNat_ofNat'];omega)] at h
  exact h
 obtain⟨c31,f31⟩:=hB 31 (by omega)
 have RD:Hid (∀w,Calls Tryz.prog 94 #[.string (enc (num u.data.toList % 2 ^ 255))] w fun e w'=>e = .returned (.tuple #[.string (ek (ptN (num u.data.toList))),.int .i64 0])∧Below w.heap.size w w'):=fun w=>by
  have h:=rReduce_ok (enc (num u.data.toList % 2 ^ 255)) (by rw[enc_size];omega) w
  rw[num_enc (Nat.lt_trans (Nat.mod_lt _ (by decide)) (by decide:2 ^ 255 < W256))] at h
  exact h
 have OF:Hid (∀w,Calls Tryz.prog 97 #[.string (ek (ptN (num u.data.toList)))] w fun e w'=>∃c:Nat→Int,e = .returned (.agg (nl c).toArray)∧dk c (ptN (num u.data.toList))∧Below w.heap.size w w'):=kOf _
 generalize ptN (num u.data.toList)=P at *
 generalize enc (num u.data.toList % 2 ^ 255)=m at *
 generalize u.data.toList[31]=x at *
 generalize enc (clampN (num k.data.toList))=cl at *
 generalize tm k u=r at *
 clear hB hb hl
 have CV':=CV.out
 go_enter Tryz.func61, Tryz.ntmps61
 go_wp2_with fail
 refine Calls.mono (RD.out _) ?_
 rintro e w1 ⟨rfl,hb⟩
 have B1:Hid (Below w.heap.size w w1):=chain (BW.out.2.setCell (p:=⟨w.heap.size,31,none⟩) (Nat.le_refl _) _) hb
 clear hb CV' c31 f31
 go_wp2_with fail
 refine Calls.mono (CL.out _) ?_
 rintro e w2 ⟨rfl,hb⟩
 have B2:Hid (Below w.heap.size w w2):=chain B1.out hb
 clear hb
 go_wp2_with fail
 refine Calls.mono (OF.out _) ?_
 rintro e w3 ⟨c,rfl,hc,hb⟩
 have B3:Hid (Below w.heap.size w w3):=chain B2.out hb
 have HC:Hid (dk c P):=hc
 clear hb hc
 go_wp2_with fail
 refine Calls.mono (LD.out c HC _) ?_
 rintro e w4 ⟨d,rfl,hd,hb⟩
 have B4:Hid (Below w.heap.size w w4):=chain B3.out hb
 have HD:Hid (dk d r):=hd
 clear hb hd
 go_wp2_with fail
 refine Calls.mono (kBytes d r HD.out _) ?_
 rintro e w5 ⟨rfl,hb⟩
 have B5:Hid (Below w.heap.size w w5):=chain B4.out hb
 clear hb
 go_wp2
 go_ret2
 exact⟨rfl,B5.out⟩
theorem nine_agg:(Value.agg #[.int .i64 9,.int .i64 0,.int .i64 0,.int .i64 0,.int .i64 0,.int .i64 0,.int .i64 0,.int .i64 0,.int .i64 0,.int .i64 0]) = .agg (nl (lowd 9)).toArray:=by rfl
theorem zero_agg:(Value.agg #[.int .i64 0,.int .i64 0,.int .i64 0,.int .i64 0,.int .i64 0,.int .i64 0,.int .i64 0,.int .i64 0,.int .i64 0,.int .i64 0]) = .agg (nl zd).toArray:=by rfl
theorem rBase_any (w:World) :
  Calls Tryz.prog 77 #[] w fun e w'=>e = .returned (.string (enc 9))∧Below w.heap.size w w':=by
 have KB:Hid (∀w,Calls Tryz.prog 93 #[.agg #[.int .i64 9,.int .i64 0,.int .i64 0,.int .i64 0,.int .i64 0,.int .i64 0,.int .i64 0,.int .i64 0,.int .i64 0,.int .i64 0]] w fun e w'=>e = .returned (.string (enc 9))∧Below w.heap.size w w'):=fun w=>by
  have h:=kBytes (lowd 9) 9 (lowd_dig 9 (by decide)) w
  rw[←nine_agg] at h
  exact h
 go_enter Tryz.func77, Tryz.ntmps77
 go_wp2_with fail
 refine Calls.mono (KB.out _) ?_
 rintro e w1 ⟨rfl,hb⟩
 have B1:Hid (Below w.heap.size w w1):=hb
 clear hb
 go_wp2
 go_ret
 exact⟨rfl,B1.out⟩
theorem rPublic_ok (k:ByteArray) (hk:k.size=32) (w:World) :
  Calls Tryz.prog 43 #[.string k] w fun e w'=>e = .returned (.tuple #[.string (ek (pub k)),.int .i64 0])∧Below w.heap.size w w':=by
 have TM:Hid (∀w,Calls Tryz.prog 61 #[.string k,.string (enc 9)] w fun e w'=>e = .returned (.tuple #[.string (ek (pub k)),.int .i64 0])∧Below w.heap.size w w'):=fun w=>by
  have h:=rTimes_ok k (enc 9) hk (enc_size _) w
  rw[tm_pub] at h
  exact h
 go_enter Tryz.func43, Tryz.ntmps43
 go_wp2_with fail
 refine Calls.mono (rBase_any _) ?_
 rintro e w1 ⟨rfl,hb⟩
 have B1:Hid (Below w.heap.size w w1):=hb
 clear hb
 go_wp2_with fail
 refine Calls.mono (TM.out _) ?_
 rintro e w2 ⟨rfl,hb⟩
 have B2:Hid (Below w.heap.size w w2):=chain B1.out hb
 clear hb
 go_wp2
 go_ret2
 exact⟨rfl,B2.out⟩
theorem rZero (w:World):Calls Tryz.prog 93 #[.agg #[.int .i64 0,.int .i64 0,.int .i64 0,.int .i64 0,.int .i64 0,.int .i64 0,.int .i64 0,.int .i64 0,.int .i64 0,.int .i64 0]] w fun e w'=>e = .returned (.string (enc 0))∧Below w.heap.size w w':=by
 have h:=kBytes zd 0 dk_zero w
 rw[←zero_agg] at h
 exact h
theorem rShared_ok (k u:ByteArray) (hk:k.size=32) (hu:u.size=32) (h0:tm k u≠0) (w:World) :
  Calls Tryz.prog 58 #[.string k,.string u] w fun e w'=>e = .returned (.tuple #[.string (ek (tm k u)),.int .i64 0])∧Below w.heap.size w w':=by
 have TM:Hid (∀w,Calls Tryz.prog 61 #[.string k,.string u] w fun e w'=>e = .returned (.tuple #[.string (ek (tm k u)),.int .i64 0])∧Below w.heap.size w w'):=fun w=>rTimes_ok k u hk hu w
 have ZZ:Hid (∀w,Calls Tryz.prog 93 #[.agg #[.int .i64 0,.int .i64 0,.int .i64 0,.int .i64 0,.int .i64 0,.int .i64 0,.int .i64 0,.int .i64 0,.int .i64 0,.int .i64 0]] w fun e w'=>e = .returned (.string (enc 0))∧Below w.heap.size w w'):=rZero
 have hne:((ek (tm k u)).toList == (enc 0).toList)=false:=by
  have:¬ek (tm k u)=ek 0:=fun e=>h0 (ek_inj e)
  have h2:(ek (tm k u)).toList≠(enc 0).toList:=fun e=>this (by
   rw[ByteArray.toList_eq,ByteArray.toList_eq] at e
   show ek (tm k u)=enc 0
   cases ha:ek (tm k u);cases hb:enc 0
   rw[ha,hb] at e
   congr 1
   exact Array.ext' e)
  simpa using h2
 generalize ek (tm k u)=r at *
 generalize enc 0=z at *
 clear h0
 go_enter Tryz.func58, Tryz.ntmps58
 go_wp2_with fail
 refine Calls.mono (TM.out _) ?_
 rintro e w1 ⟨rfl,hb⟩
 have B1:Hid (Below w.heap.size w w1):=hb
 clear hb
 go_wp2_with fail
 refine Calls.mono (ZZ.out _) ?_
 rintro e w2 ⟨rfl,hb⟩
 have B2:Hid (Below w.heap.size w w2):=chain B1.out hb
 clear hb
 go_wp2
 go_ret2
 exact⟨rfl,B2.out⟩
theorem rShared_weak (k u:ByteArray) (hk:k.size=32) (hu:u.size=32) (h0:tm k u=0) (w:World) :
  Calls Tryz.prog 58 #[.string k,.string u] w fun e w'=>e = .returned (.tuple #[.string ⟨#[]⟩,.int .i64 20])∧Below w.heap.size w w':=by
 have TM:Hid (∀w,Calls Tryz.prog 61 #[.string k,.string u] w fun e w'=>e = .returned (.tuple #[.string (enc 0),.int .i64 0])∧Below w.heap.size w w'):=fun w=>by
  have h:=rTimes_ok k u hk hu w
  rw[h0] at h
  exact h
 have ZZ:Hid (∀w,Calls Tryz.prog 93 #[.agg #[.int .i64 0,.int .i64 0,.int .i64 0,.int .i64 0,.int .i64 0,.int .i64 0,.int .i64 0,.int .i64 0,.int .i64 0,.int .i64 0]] w fun e w'=>e = .returned (.string (enc 0))∧Below w.heap.size w w'):=rZero
 generalize enc 0=z at *
 clear h0
 go_enter Tryz.func58, Tryz.ntmps58
 go_wp2_with fail
 refine Calls.mono (TM.out _) ?_
 rintro e w1 ⟨rfl,hb⟩
 have B1:Hid (Below w.heap.size w w1):=hb
 clear hb
 go_wp2_with fail
 refine Calls.mono (ZZ.out _) ?_
 rintro e w2 ⟨rfl,hb⟩
 have B2:Hid (Below w.heap.size w w2):=chain B1.out hb
 clear hb
 go_wp2
 go_ret2
 exact⟨rfl,B2.out⟩
end Go.Proofs.YtgnkkjknngblbaaGreatDoor.Crv
namespace Go.Proofs.YtgnkkjknngblbaaGreatDoor.Crv
open Go.RowKit Go.Proofs.Fd Go.Proofs.Ed
set_option maxRecDepth 20000
def chA (u:ByteArray) (ks:List ByteArray):Array Value :=
 if u.size=32∧wh ks=true then (if 16 < ks.length then #[.string ⟨#[]⟩,.int .i64 2] else och (chn ks u)) else #[.string ⟨#[]⟩,.int .i64 3]
set_option maxHeartbeats 1000000 in
theorem rChain_all (u:ByteArray) (a:Option Addr) (ks:List ByteArray) (n cap:Nat) (hn:Hid (ks.length=n)) (hn63:n≤9223372036854775807) (w:World) (hc:Hid (StrAt w a ks)) :
  Calls Tryz.prog 73 #[.string u,.slice a n cap] w fun e w'=>e = .returned (.tuple (chA u ks))∧Below w.heap.size w w':=by
 by_cases hu:u.size=32
 ·have hz1:((u.size:Int) != 32)=false:=by simp[hu]
  go_enter Tryz.func73, Tryz.ntmps73
  go_wp2
  go_loopw [6] (fun i wr=>∃k:Nat,k≤n∧i = .int .i64 (k:Int)∧Hid (wh (ks.take k)=true∧Below w.heap.size w wr)) (fun i _=>n - (intOf i).toNat)
  case atStart=>exact⟨0,Nat.zero_le _,rfl,rfl,Below.refl _ _⟩
  case round =>
   obtain⟨k,hk,rfl,I⟩:=hrel
   by_cases hlt:k < n
   ·have hk':k < ks.length:=by have:=hn.out;omega
    obtain⟨b,o,rfl,hcell⟩:=StrAt.later hc.out I.out.2 k hk'
    have HT:Hid (ks[k].size=32→wh (ks.take (k+1))=true):=fun h=>wh_take hk' I.out.1 h
    have HN:Hid (¬ks[k].size=32→wh ks=false):=fun h=>wh_not hk' h
    generalize ks[k]=s at *
    by_cases h0:s.size=32
    ·have hz:((s.size:Int) != 32)=false:=by simp[h0]
     have FIN:Hid (wh (ks.take (k+1))=true):=HT.out h0
     clear h0
     go_wp2
     go_roundw
     case rel=>exact⟨k+1,by omega,by go_num,FIN.out,I.out.2⟩
     case measure=>simp[intOf];omega
    ·have hz:((s.size:Int) != 32)=true:=by simp;omega
     have FIN:Hid (chA u ks=#[.string ⟨#[]⟩,.int .i64 3]):=by
      have h:=HN.out h0
      show _=_
      unfold chA
      rw[if_neg (fun q=>by rw[h] at q;exact absurd q.2 (by decide))]
     clear h0
     go_wp2
     go_ret2
     exact⟨by rw[FIN.out];rfl,I.out.2⟩
   ·have hkn:k=n:=by omega
    subst hkn
    have CA:Hid (wh ks=true):=by
     have:=I.out.1;rw[List.take_of_length_le (by have:=hn.out;omega)] at this;exact this
    by_cases h16:k≤16
    ·have E:Hid (chA u ks=och (chn ks u)):=by
      show _=_
      unfold chA;rw[if_pos ⟨hu,CA.out⟩,if_neg (by have:=hn.out;omega)]
     have hg:¬(16:Int) < (k:Int):=by omega
     have UU:Hid (u.size=32):=hu
     clear hu hz1
     go_wp2
     go_loopw [0,7] (fun at_ i wx=>∃(j:Nat) (v:ByteArray),j≤k∧i = .int .i64 (j:Int)∧at_ = .string v∧Hid (v.size=32∧chn (ks.take j) u=some v∧Below w.heap.size w wx)) (fun _ i _=>k - (intOf i).toNat)
     case atStart=>exact⟨0,u,Nat.zero_le _,rfl,rfl,UU.out,rfl,I.out.2⟩
     case round =>
      obtain⟨j,v,hj,rfl,rfl,J⟩:=hrel
      by_cases hlt2:j < k
      ·have hk':j < ks.length:=by have:=hn.out;omega
       obtain⟨b,o,rfl,hcell⟩:=StrAt.later hc.out J.out.2.2 j hk'
       have HTT:=chn_step ks u v j hk' J.out.2.1
       have HK:Hid (ks[j].size=32):=wh_mem CA.out j hk'
       generalize ks[j]=x at *
       by_cases h0:tm x v=0
       ·rw[if_pos h0] at HTT
        have FIN:Hid (chn ks u=none):=chn_none_le ks u (j+1) HTT
        have H0:Hid (tm x v=0):=h0
        clear HTT h0
        go_wp2_with fail
        refine Calls.mono (rShared_weak x v HK.out J.out.1 H0.out _) ?_
        rintro e w5 ⟨rfl,hb⟩
        have B5:Hid (Below w.heap.size w w5):=chain J.out.2.2 hb
        clear hb
        go_wp2
        go_ret2
        exact⟨by rw[E.out,FIN.out];rfl,B5.out⟩
       ·rw[if_neg h0] at HTT
        have H0:Hid (tm x v≠0∧chn (ks.take (j+1)) u=some (ek (tm x v))):=⟨h0,HTT⟩
        clear HTT h0
        go_wp2_with fail
        refine Calls.mono (rShared_ok x v HK.out J.out.1 H0.out.1 _) ?_
        rintro e w5 ⟨rfl,hb⟩
        have B5:Hid (Below w.heap.size w w5):=chain J.out.2.2 hb
        clear hb
        go_wp2
        go_roundw
        case rel=>exact⟨j+1,ek (tm x v),by omega,by go_num,rfl,ek_size _,H0.out.2,B5.out⟩
        case measure=>simp[intOf];omega
      ·have hjn:j=k:=by omega
       subst hjn
       have FIN:Hid (chn ks u=some v):=by
        have:=J.out.2.1
        rw[List.take_of_length_le (by have:=hn.out;omega)] at this
        exact this
       go_wp2
       go_ret2
       exact⟨by rw[E.out,FIN.out];rfl,J.out.2.2⟩
    ·have E:Hid (chA u ks=#[.string ⟨#[]⟩,.int .i64 2]):=by
      show _=_
      unfold chA;rw[if_pos ⟨hu,CA.out⟩,if_pos (by have:=hn.out;omega)]
     have hg:(16:Int) < (k:Int):=by omega
     go_wp2
     go_ret2
     exact⟨by rw[E.out];rfl,I.out.2⟩
 ·have e:chA u ks=#[.string ⟨#[]⟩,.int .i64 3]:=by unfold chA;rw[if_neg (fun h=>hu h.1)]
  rw[e]
  have hz1:((u.size:Int) != 32)=true:=by simp;omega
  clear hu e
  go_enter Tryz.func73, Tryz.ntmps73
  go_wp2
  go_ret2
  exact⟨rfl,Below.refl _ _⟩
end Go.Proofs.YtgnkkjknngblbaaGreatDoor.Crv
