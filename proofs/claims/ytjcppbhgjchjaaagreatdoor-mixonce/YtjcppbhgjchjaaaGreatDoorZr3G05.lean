/- A part of the walk. -/
import Derived.Test.YtjcppbhgjchjaaaGreatDoorZr3G02
set_option maxHeartbeats 8000000
set_option maxRecDepth 20000
namespace Go.Proofs.Ed
open Go.Proofs.Fd
abbrev q:Nat:=57896044618658097711785492504343953926634992332820282019728792003956564819949
abbrev K:=Fin q
def zhu (a:K):K:=⟨a.val ^ (p - 2) % p,Nat.mod_lt _ zmj⟩
theorem zqw {a b:K} (h:a*b≠0):a≠0:=fun e=>h (by rw[e];grind)
end Go.Proofs.Ed
namespace Go.Proofs.Ed
end Go.Proofs.Ed
namespace Go.Proofs.Ed
end Go.Proofs.Ed
namespace Go.Proofs.Ed
end Go.Proofs.Ed
namespace Go.Proofs.Ed
abbrev c0:K:=121665
end Go.Proofs.Ed
namespace Go.Proofs.Ed
def zau (u:K) (P Q:K×K):(K×K)×(K×K) :=
  (((P.1+P.2)*(P.1+P.2)*((P.1 - P.2)*(P.1 - P.2)),((P.1+P.2)*(P.1+P.2) - (P.1 - P.2)*(P.1 - P.2))*((P.1+P.2)*(P.1+P.2)+c0*((P.1+P.2)*(P.1+P.2) - (P.1 - P.2)*(P.1 - P.2)))),
   (((Q.1 - Q.2)*(P.1+P.2)+(Q.1+Q.2)*(P.1 - P.2))*((Q.1 - Q.2)*(P.1+P.2)+(Q.1+Q.2)*(P.1 - P.2)),u*(((Q.1 - Q.2)*(P.1+P.2) - (Q.1+Q.2)*(P.1 - P.2))*((Q.1 - Q.2)*(P.1+P.2) - (Q.1+Q.2)*(P.1 - P.2)))))
def nxt (u:K) (bit:Nat) (S:(K×K)×(K×K)):(K×K)×(K×K) :=
  if bit=1 then ((zau u S.2 S.1).2,(zau u S.2 S.1).1) else zau u S.1 S.2
def run (u:K) (k:Nat):Nat->(K×K)×(K×K)
  | 0=>((1,0),(u,1))
  | i+1=>nxt u (k / 2 ^ (254 - i) % 2) (run u k i)
def lad (k:Nat) (u:K):K:=(run u k 255).1.1*zhu (run u k 255).1.2
end Go.Proofs.Ed
namespace Go.Proofs.Ed
end Go.Proofs.Ed
namespace Go.Proofs.Ed
open Go.Proofs.Fd
def Cl (k:Nat):Prop:=∃m,k=8*m/\2 ^ 251<=m/\m < 2 ^ 252
theorem Cl.lt {k:Nat} (h:Cl k):k < 2 ^ 255:=by obtain⟨m,rfl,_,h2⟩:=h;omega
end Go.Proofs.Ed
namespace Go.Proofs.Ed
open Go.Proofs.Fd
def clampN (n:Nat):Nat:=n % 2 ^ 254 / 8*8+2 ^ 254
theorem zhv (n:Nat):Cl (clampN n):=by
  have h:n % 2 ^ 254 < 2 ^ 254:=Nat.mod_lt _ (by decide);refine⟨n % 2 ^ 254 / 8+2 ^ 251,?_,?_,?_⟩
  . unfold clampN;omega
  . omega
  . omega
theorem zhw (n:Nat):clampN n < zas:=by
  have:=(zhv n).lt;have e:zas=2 ^ 256:=by decide
  rw[e];omega
def ptN (n:Nat):K:=⟨n % 2 ^ 255 % q,Nat.mod_lt _ (by decide)⟩
theorem za8 (l:List UInt8) (h:l.length=32) (y:UInt8):num (l.set 31 y)=num l % 256 ^ 31+256 ^ 31*y.toNat/\num l=num l % 256 ^ 31+256 ^ 31*l[31].toNat:=by
  have e1:l.set 31 y=l.take 31++[y]:=by
    rw[List.set_eq_take_append_cons_drop,if_pos (by omega),List.drop_of_length_le (by omega)]
  have e2:l=l.take 31++[l[31]]:=by
    have:=List.take_append_drop 31 l;rw[List.drop_eq_getElem_cons (by omega),List.drop_of_length_le (by omega)] at this;exact this.symm
  have hl:(l.take 31).length=31:=by rw[List.length_take];omega
  have hlt:=zhl (l.take 31);rw[hl] at hlt;have n1:num (l.take 31++[y])=num (l.take 31)+256 ^ 31*y.toNat:=by rw[zbk,hl];simp[num]
  have n2:num (l.take 31++[l[31]])=num (l.take 31)+256 ^ 31*l[31].toNat:=by rw[zbk,hl];simp[num]
  have n3:num l=num (l.take 31)+256 ^ 31*l[31].toNat:=by rw[<-n2,<-e2]
  have n4:num l % 256 ^ 31=num (l.take 31):=by rw[n3,Nat.add_mul_mod_self_left,Nat.mod_eq_of_lt hlt]
  rw[e1,n1,n4];exact⟨rfl,n3⟩
theorem zc4 (l:List UInt8) (h:l.length=32) (y:UInt8):num (l.set 0 y)=num l / 256*256+y.toNat/\l[0].toNat=num l % 256:=by
  cases l with
  | nil=>simp at h
  | cons x r =>
    have hx:=x.toNat_lt;simp only[List.set_cons_zero,num,List.getElem_cons_zero];omega
theorem zmv (l:List UInt8) (h:l.length=32) (y:UInt8) (hy:y.toNat=l[31].toNat % 128):num (l.set 31 y)=num l % 2 ^ 255:=by
  obtain⟨e1,e2⟩:=za8 l h y;rw[e1,hy];have hlt:num l % 256 ^ 31 < 256 ^ 31:=Nat.mod_lt _ (by decide);generalize num l % 256 ^ 31=a at *;generalize num l=n at *;generalize l[31].toNat=x at *;have e:(256:Nat) ^ 31=2 ^ 248:=by decide
  rw[e] at *;omega
theorem zhx (l:List UInt8) (h:l.length=32) (x y:UInt8) (hx:x.toNat=l[0].toNat / 8*8) (hy:y.toNat=l[31].toNat % 64+64):num ((l.set 0 x).set 31 y)=clampN (num l):=by
  have h':(l.set 0 x).length=32:=by simpa using h
  obtain⟨e1,e2⟩:=za8 (l.set 0 x) h' y;obtain⟨e3,e4⟩:=zc4 l h x;obtain⟨-,e5⟩:=za8 l h y;rw[e1,e3,hy,hx,e4];unfold clampN;generalize l[31].toNat=t at *;generalize num l=n at *;have e:(256:Nat) ^ 31=2 ^ 248:=by decide
  rw[e] at *;clear e1 e2 e3 e4;have g:n / 256*256+n % 256 / 8*8=n / 8*8:=by omega
  rw[g];have ha:n % 2 ^ 248 < 2 ^ 248:=Nat.mod_lt _ (by decide);have m1:n / 8*8 % 2 ^ 248=n % 2 ^ 248 / 8*8:=by omega
  have m2:n % 2 ^ 254=n % 2 ^ 248+2 ^ 248*(t % 64):=by omega
  rw[m1,m2];clear m1 m2 g e5 ha;generalize n % 2 ^ 248=a;generalize t % 64=r;have m3:(a+2 ^ 248*r) / 8=a / 8+2 ^ 245*r:=by omega
  rw[m3,Nat.mul_add,Nat.add_mul,Nat.add_assoc];have m4:(2:Nat) ^ 248*64=2 ^ 254:=by decide
  have m5:2 ^ 245*r*8=2 ^ 248*r:=by rw[Nat.mul_assoc,Nat.mul_comm r,<-Nat.mul_assoc]
  rw[m4,m5]
theorem zoG (l:List UInt8) (t:Nat) (h:t / 8 < l.length):l[t / 8].toNat / 2 ^ (t % 8) % 2=num l / 2 ^ t % 2:=by
  have e:=zoA l (t / 8) h;rw[<-e,pow8];have:=zoz (num l) 8 (t / 8) (t % 8) (Nat.mod_lt _ (by decide));rw[show (256:Nat)=2 ^ 8 by decide,this,Nat.div_add_mod]
end Go.Proofs.Ed
