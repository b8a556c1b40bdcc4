
/-
  Fractions in lowest terms and their order, and the document's own answers of layer 3; each theorem names its conditions.
-/
import Derived.Test.YthmljpccbjolgaaGreatDoorRatB
import Derived.Test.YthmljpccbjolgaaGreatDoorBase
namespace Go.Proofs.YthmljpccbjolgaaGreatDoor.rat
open rmath bound num
set_option linter.unusedVariables false
theorem mul_right_cancel {a b c:Int} (hc:c≠0) (h:a*c=b*c):a=b:=Int.eq_of_mul_eq_mul_right hc h
theorem low_parts (V D:Int) (h:1≤D):lowP V D*gcdI V D=V∧lowQ V D*gcdI V D=D∧lowP V D*D=V*lowQ V D∧Int.gcd (lowP V D) (lowQ V D)=1:=by
 have g:=gcd_pos V D h
 have a:lowP V D*gcdI V D=V:=Int.ediv_mul_cancel (Int.gcd_dvd_left V D)
 have b:lowQ V D*gcdI V D=D:=Int.ediv_mul_cancel (Int.gcd_dvd_right V D)
 refine ⟨a,b,?_,?_⟩
 ·generalize gcdI V D=G at*
  generalize lowP V D=P at*
  generalize lowQ V D=Q at*
  subst a b
  ac_rfl
 ·have e:=Int.gcd_ediv (a:=V) (b:=D) (c:=gcdI V D) (Int.gcd_dvd_left V D) (Int.gcd_dvd_right V D)
  have n:(gcdI V D).natAbs=V.gcd D:=rfl
  rw [n] at e
  refine e.trans (Nat.div_self ?_)
  unfold gcdI at g
  omega
theorem dvd_of_cross {p q p' q':Int} (h:Int.gcd p q=1) (e:p*q'=p'*q):q ∣ q':=by
 have k:q.natAbs ∣ p.natAbs*q'.natAbs:=by
  rw [←Int.natAbs_mul,e,Int.natAbs_mul]
  exact Nat.dvd_mul_left _ _
 have c:Nat.Coprime q.natAbs p.natAbs:=by
  have:Nat.gcd p.natAbs q.natAbs=1:=h
  rw [Nat.Coprime,Nat.gcd_comm]
  exact this
 exact Int.natAbs_dvd_natAbs.1 (c.dvd_of_dvd_mul_left k)
theorem low_unique {p q p' q':Int} (h:Int.gcd p q=1) (h':Int.gcd p' q'=1) (q1:1≤q) (q1':1≤q') (e:p*q'=p'*q):p=p'∧q=q':=by
 have a:=Int.le_of_dvd (by omega) (dvd_of_cross h e)
 have b:=Int.le_of_dvd (by omega) (dvd_of_cross h' e.symm)
 have c:q=q':=by omega
 subst c
 exact ⟨mul_right_cancel (by omega) e,rfl⟩
theorem low_same {V D V' D':Int} (h:1≤D) (h':1≤D') (e:V*D'=V'*D):lowP V D=lowP V' D'∧lowQ V D=lowQ V' D':=by
 obtain ⟨a1,a2,a3,a4⟩:=low_parts V D h
 obtain ⟨b1,b2,b3,b4⟩:=low_parts V' D' h'
 have c1:=(lowQ_in V D h).1
 have c2:=(lowQ_in V' D' h').1
 refine low_unique a4 b4 c1 c2 ?_
 clear a1 a2 b1 b2 a4 b4
 generalize lowP V D=p at*
 generalize lowQ V D=q at*
 generalize lowP V' D'=p' at*
 generalize lowQ V' D'=q' at*
 have z:D*D'≠0:=Int.mul_ne_zero (by omega) (by omega)
 refine mul_right_cancel z ?_
 have e1:p*q'*(D*D')=p*D*(q'*D'):=by ac_rfl
 have e2:p'*q*(D*D')=p'*D'*(q*D):=by ac_rfl
 rw [e1,e2,a3,b3]
 have e3:V*q*(q'*D')=V*D'*(q*q'):=by ac_rfl
 have e4:V'*q'*(q*D)=V'*D*(q*q'):=by ac_rfl
 rw [e3,e4,e]
theorem lowOk_same {V D V' D':Int} (h:1≤D) (h':1≤D') (e:V*D'=V'*D):lowN V D=lowN V' D'∧lowD V D=lowD V' D'∧lowE V D=lowE V' D':=by
 obtain ⟨a,b⟩:=low_same h h' e
 have c:lowOk V D↔lowOk V' D':=by unfold lowOk;rw [a,b]
 unfold lowN lowD lowE
 by_cases k:lowOk V D
 ·rw [if_pos k,if_pos k,if_pos k,if_pos (c.1 k),if_pos (c.1 k),if_pos (c.1 k)];exact ⟨a,b,rfl⟩
 ·have k':¬ lowOk V' D':=fun z=>k (c.2 z)
  rw [if_neg k,if_neg k,if_neg k,if_neg k',if_neg k',if_neg k'];exact ⟨rfl,rfl,rfl⟩
theorem whole_may {n:Int} (h:May n):MayR n 1:=by
 obtain ⟨a,b⟩:=h
 exact ⟨by omega,by omega,by omega,by omega,Int.gcd_one_right n⟩
end Go.Proofs.YthmljpccbjolgaaGreatDoor.rat
namespace Go.Proofs.YthmljpccbjolgaaGreatDoor.rat
open rmath bound num
set_option linter.unusedVariables false
def cmp0 (x y:Int):Int:=if y<x then 1 else if x<y then -1 else 0
theorem cmpV_is {a b c d:Int} (h:Both a b c d):cmpV a b c d=cmp0 (a*d) (c*b)∧cmpE a b c d=0:=⟨if_pos h,if_pos h⟩
theorem cmp0_cases (x y:Int):(y<x∧cmp0 x y=1)∨(x<y∧cmp0 x y=-1)∨(x=y∧cmp0 x y=0):=by
 unfold cmp0
 by_cases h:y<x
 ·rw [if_pos h];exact .inl ⟨h,rfl⟩
 ·by_cases k:x<y
  ·rw [if_neg h,if_pos k];exact .inr (.inl ⟨k,rfl⟩)
  ·rw [if_neg h,if_neg k];exact .inr (.inr ⟨by omega,rfl⟩)
theorem cmp0_scale {k j x1 x2 y1 y2:Int} (hk:0<k) (hj:0<j) (e:k*x1 - k*x2=j*y1 - j*y2):cmp0 x1 x2=cmp0 y1 y2:=by
 rw [←Int.mul_sub,←Int.mul_sub] at e
 have p:0<x1 - x2↔0<y1 - y2:=by
  constructor
  ·intro h
   have:=Int.mul_pos hk h
   rw [e] at this
   exact Int.pos_of_mul_pos_right this hj
  ·intro h
   have:=Int.mul_pos hj h
   rw [←e] at this
   exact Int.pos_of_mul_pos_right this hk
 have q:0<x2 - x1↔0<y2 - y1:=by
  have e':k*(x2 - x1)=j*(y2 - y1):=by
   have:x2 - x1=-(x1 - x2):=by omega
   rw [this,show y2 - y1=-(y1 - y2) by omega,Int.mul_neg,Int.mul_neg,e]
  constructor
  ·intro h
   have:=Int.mul_pos hk h
   rw [e'] at this
   exact Int.pos_of_mul_pos_right this hj
  ·intro h
   have:=Int.mul_pos hj h
   rw [←e'] at this
   exact Int.pos_of_mul_pos_right this hk
 rcases cmp0_cases x1 x2 with ⟨a,r⟩ | ⟨a,r⟩ | ⟨a,r⟩<;>rcases cmp0_cases y1 y2 with ⟨b,s⟩ | ⟨b,s⟩ | ⟨b,s⟩<;>rw [r,s]<;>omega
theorem dens_pos {a b c d k:Int} (h:Both a b c d) (hk:1≤k):1≤b*d*k:=by
 have x:=Int.mul_le_mul_of_nonneg_right h.1.1 (show 0≤d by have:=h.2.1;omega)
 have y:=Int.mul_le_mul_of_nonneg_right (show 1≤b*d by have:=h.2.1;omega) (show 0≤k by omega)
 omega
end Go.Proofs.YthmljpccbjolgaaGreatDoor.rat
namespace Go.Proofs.YthmljpccbjolgaaGreatDoor.rref
open Go.ChangeShapes Go.WideShapes Go.ChangeAt Go.RowKit rmath bound num rat
set_option linter.unusedVariables false
end Go.Proofs.YthmljpccbjolgaaGreatDoor.rref
namespace Go.Proofs.YthmljpccbjolgaaGreatDoor.rref
open Go.ChangeShapes Go.WideShapes Go.ChangeAt Go.RowKit rmath bound num rat
set_option linter.unusedVariables false
end Go.Proofs.YthmljpccbjolgaaGreatDoor.rref
namespace Go.Proofs.YthmljpccbjolgaaGreatDoor.rref
open Go.ChangeShapes Go.WideShapes Go.ChangeAt Go.RowKit rmath bound num rat
set_option linter.unusedVariables false
end Go.Proofs.YthmljpccbjolgaaGreatDoor.rref
namespace Go.Proofs.YthmljpccbjolgaaGreatDoor.rref
open Go.ChangeShapes Go.WideShapes Go.ChangeAt Go.RowKit rmath bound num rat
set_option linter.unusedVariables false
end Go.Proofs.YthmljpccbjolgaaGreatDoor.rref
namespace Go.Proofs.YthmljpccbjolgaaGreatDoor.rref
open Go.ChangeShapes Go.WideShapes Go.ChangeAt Go.RowKit rmath bound num rat
set_option linter.unusedVariables false
end Go.Proofs.YthmljpccbjolgaaGreatDoor.rref
namespace Go.Proofs.YthmljpccbjolgaaGreatDoor.rref
open Go.ChangeShapes Go.WideShapes Go.ChangeAt Go.RowKit rmath bound num rat
set_option linter.unusedVariables false
end Go.Proofs.YthmljpccbjolgaaGreatDoor.rref
namespace Go.Proofs.YthmljpccbjolgaaGreatDoor.rref
open Go.ChangeShapes Go.WideShapes Go.ChangeAt Go.RowKit rmath bound num rat
set_option linter.unusedVariables false
end Go.Proofs.YthmljpccbjolgaaGreatDoor.rref
namespace Go.Proofs.YthmljpccbjolgaaGreatDoor.rref
open Go.ChangeShapes Go.WideShapes Go.ChangeAt Go.RowKit rmath bound num rat
set_option linter.unusedVariables false
end Go.Proofs.YthmljpccbjolgaaGreatDoor.rref
namespace Go.Proofs.YthmljpccbjolgaaGreatDoor.rref
open Go.ChangeShapes Go.WideShapes Go.ChangeAt Go.RowKit rmath bound num rat
set_option linter.unusedVariables false
end Go.Proofs.YthmljpccbjolgaaGreatDoor.rref
