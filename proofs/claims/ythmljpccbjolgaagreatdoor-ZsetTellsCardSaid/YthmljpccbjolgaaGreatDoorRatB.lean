
/-
  What each call of package rat answers; each theorem names its conditions.
-/
import Derived.Test.YthmljpccbjolgaaGreatDoorRatA
import Derived.Test.YthmljpccbjolgaaGreatDoorBase
import Derived.Deep.RegionHeld3
import Derived.Deep.DeepCutAuto
namespace Go.Proofs.YthmljpccbjolgaaGreatDoor.rat
open Go.ChangeShapes Go.WideShapes Go.ChangeAt Go.RowKit rmath bound num
set_option linter.unusedVariables false
theorem said {f:FuncId} {args:Array Value} {v:Value} (h:RowKit.Hid (law.Says f args v)) (w:World):Calls Tryz.prog f args w fun e w'=>e=.returned v∧Below w.heap.size w w':=h.out w
def Both (a b c d:Int):Prop:=MayR a b∧MayR c d
instance (a b c d:Int):Decidable (Both a b c d):=inferInstanceAs (Decidable (_∧_))
def lowP (V D:Int):Int:=V / gcdI V D
def lowQ (V D:Int):Int:=D / gcdI V D
def lowOk (V D:Int):Prop:=-9223372036854775808≤lowP V D∧lowP V D≤9223372036854775807∧MayR (lowP V D) (lowQ V D)
instance (V D:Int):Decidable (lowOk V D):=inferInstanceAs (Decidable (_∧_∧_))
theorem gcd_pos (V D:Int) (h:1≤D):1≤gcdI V D:=by
 have:=Int.gcd_pos_of_ne_zero_right V (show D≠0 by omega)
 unfold gcdI
 omega
theorem gcd_le (V D:Int) (h:1≤D):gcdI V D≤D:=Int.le_of_dvd (by omega) (Int.gcd_dvd_right V D)
theorem lowQ_in (V D:Int) (h:1≤D):1≤lowQ V D∧lowQ V D≤D:=by
 have a:=gcd_pos V D h
 have b:=gcd_le V D h
 constructor
 ·exact (le_div D (gcdI V D) 1 a).2 (by omega)
 ·exact Int.ediv_le_self _ (by omega)
end Go.Proofs.YthmljpccbjolgaaGreatDoor.rat
namespace Go.Proofs.YthmljpccbjolgaaGreatDoor.rat
open Go.ChangeShapes Go.WideShapes Go.ChangeAt Go.RowKit rmath bound num
set_option linter.unusedVariables false
end Go.Proofs.YthmljpccbjolgaaGreatDoor.rat
namespace Go.Proofs.YthmljpccbjolgaaGreatDoor.rat
open Go.ChangeShapes Go.WideShapes Go.ChangeAt Go.RowKit rmath bound num
set_option linter.unusedVariables false
end Go.Proofs.YthmljpccbjolgaaGreatDoor.rat
namespace Go.Proofs.YthmljpccbjolgaaGreatDoor.rat
open Go.ChangeShapes Go.WideShapes Go.ChangeAt Go.RowKit rmath bound num
set_option linter.unusedVariables false
end Go.Proofs.YthmljpccbjolgaaGreatDoor.rat
namespace Go.Proofs.YthmljpccbjolgaaGreatDoor.rat
open Go.ChangeShapes Go.WideShapes Go.ChangeAt Go.RowKit rmath bound num
set_option linter.unusedVariables false
def keptR (a b c d x:Int):Bool:=if bS x then ltB (a*d - c*b) (x / 2*(b*d)) else !ltB (x / 2*(b*d)) (a*d - c*b)
def kpV (a b c d x:Int):Bool:=if Both a b c d then (if x=9223372036854775807 then true else if May (x / 2) then keptR a b c d x else false) else false
end Go.Proofs.YthmljpccbjolgaaGreatDoor.rat
