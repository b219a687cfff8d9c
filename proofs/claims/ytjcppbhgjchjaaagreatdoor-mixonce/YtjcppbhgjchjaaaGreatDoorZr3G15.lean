/- A part of the walk. -/
import Derived.Lib.AppendStr
import Derived.Test.YtjcppbhgjchjaaaGreatDoorZr3G14
set_option maxHeartbeats 8000000
set_option maxRecDepth 20000
namespace Go.Proofs.YtjcppbhgjchjaaaGreatDoor
open Go.RowKit Go.Proofs.Fd Go.Proofs.Hs
theorem strCells_eq (s:Ba):Go.Lib.strCells s=zaw s.data.toList:=by
 simp[Go.Lib.strCells,zaw]
def bs (X:Nat):Nat->List UInt8
 | 0=>List.replicate 8 0
 | i+1=>(bs X i).set (7 - i) (UInt8.ofNat (X / 2 ^ (8*i)))
theorem zhP {w w':Wo} {base:Nat} {e:TypeId} {size:Nat} {v:Value} {n:Nat} {xs:List Value} (h:w.ownsRow base e size v n xs) (hb:Bw w w'):w'.ownsRow base e size v n xs:=by
 refine⟨h.1,?_⟩;rcases h.2 with hn|⟨g,cap,cur,rfl,hbg,hgg,rest⟩
 ·exact .inl hn
 ·refine .inr ⟨g,cap,cur,rfl,hbg,?_,rest⟩
  rw[hb.block g (Array.getElem?_eq_some_iff.1 hgg).1];exact hgg
def jnd (ks:List Ba):List UInt8:=ks.flatMap fun s=>s.data.toList
end Go.Proofs.YtjcppbhgjchjaaaGreatDoor
