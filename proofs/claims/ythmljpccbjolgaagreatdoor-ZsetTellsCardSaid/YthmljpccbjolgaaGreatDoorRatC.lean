
/-
  Fractions in lowest terms and their order, and the document's own answers of layer 3; each theorem names its conditions.
-/
import Derived.Test.YthmljpccbjolgaaGreatDoorRatB
import Derived.Test.YthmljpccbjolgaaGreatDoorBase
namespace Go.Proofs.YthmljpccbjolgaaGreatDoor.rat
open rmath bound num
set_option linter.unusedVariables false
theorem low_parts (V D:Int) (h:1≤D):lowP V D*gcdI V D=V∧lowQ V D*gcdI V D=D∧lowP V D*D=V*lowQ V D∧Int.gcd (lowP V D) (lowQ V D)=1:=by
 have g:=gcd_pos V D h
 have a:lowP V D*gcdI V D=V:=Int.ediv_mul_cancel (Int.gcd_dvd_left V D)
 have b:lowQ V D*gcdI V D=D:=Int.ediv_mul_cancel (Int.gcd_dvd_right V D)
 refine ⟨a,b,?_,?_⟩
 ·generalize gcdI V D=G at*
  generalize lowP V D=P at*
  generalize lowQ V D=Q at*
  subst a b
  ac_rfl
 ·have e:=Int.gcd_ediv (a:=V) (b:=D) (c:=gcdI V D) (Int.gcd_dvd_left V D) (Int.gcd_dvd_right V D)
  have n:(gcdI V D).natAbs=V.gcd D:=rfl
  rw [n] at e
  refine e.trans (Nat.div_self ?_)
  unfold gcdI at g
  omega
end Go.Proofs.YthmljpccbjolgaaGreatDoor.rat
namespace Go.Proofs.YthmljpccbjolgaaGreatDoor.rat
open rmath bound num
set_option linter.unusedVariables false
end Go.Proofs.YthmljpccbjolgaaGreatDoor.rat
namespace Go.Proofs.YthmljpccbjolgaaGreatDoor.rref
open Go.ChangeShapes Go.WideShapes Go.ChangeAt Go.RowKit rmath bound num rat
set_option linter.unusedVariables false
end Go.Proofs.YthmljpccbjolgaaGreatDoor.rref
namespace Go.Proofs.YthmljpccbjolgaaGreatDoor.rref
open Go.ChangeShapes Go.WideShapes Go.ChangeAt Go.RowKit rmath bound num rat
set_option linter.unusedVariables false
end Go.Proofs.YthmljpccbjolgaaGreatDoor.rref
namespace Go.Proofs.YthmljpccbjolgaaGreatDoor.rref
open Go.ChangeShapes Go.WideShapes Go.ChangeAt Go.RowKit rmath bound num rat
set_option linter.unusedVariables false
end Go.Proofs.YthmljpccbjolgaaGreatDoor.rref
namespace Go.Proofs.YthmljpccbjolgaaGreatDoor.rref
open Go.ChangeShapes Go.WideShapes Go.ChangeAt Go.RowKit rmath bound num rat
set_option linter.unusedVariables false
end Go.Proofs.YthmljpccbjolgaaGreatDoor.rref
namespace Go.Proofs.YthmljpccbjolgaaGreatDoor.rref
open Go.ChangeShapes Go.WideShapes Go.ChangeAt Go.RowKit rmath bound num rat
set_option linter.unusedVariables false
end Go.Proofs.YthmljpccbjolgaaGreatDoor.rref
namespace Go.Proofs.YthmljpccbjolgaaGreatDoor.rref
open Go.ChangeShapes Go.WideShapes Go.ChangeAt Go.RowKit rmath bound num rat
set_option linter.unusedVariables false
end Go.Proofs.YthmljpccbjolgaaGreatDoor.rref
namespace Go.Proofs.YthmljpccbjolgaaGreatDoor.rref
open Go.ChangeShapes Go.WideShapes Go.ChangeAt Go.RowKit rmath bound num rat
set_option linter.unusedVariables false
end Go.Proofs.YthmljpccbjolgaaGreatDoor.rref
namespace Go.Proofs.YthmljpccbjolgaaGreatDoor.rref
open Go.ChangeShapes Go.WideShapes Go.ChangeAt Go.RowKit rmath bound num rat
set_option linter.unusedVariables false
end Go.Proofs.YthmljpccbjolgaaGreatDoor.rref
namespace Go.Proofs.YthmljpccbjolgaaGreatDoor.rref
open Go.ChangeShapes Go.WideShapes Go.ChangeAt Go.RowKit rmath bound num rat
set_option linter.unusedVariables false
end Go.Proofs.YthmljpccbjolgaaGreatDoor.rref
