
/-
  What the words of package rat answer: a division of two words, two words' sums and products, whether a fraction may be; each theorem names its conditions.
-/
import Derived.Test.YthmljpccbjolgaaGreatDoorRows
import Derived.Test.YthmljpccbjolgaaGreatDoorShelf
import Derived.Test.YthmljpccbjolgaaGreatDoorBase
import Derived.Laws.Bits64b
import Derived.Lib.BitFns
import Derived.Deep.DeepCutAuto
import Derived.Deep.CutBlock
import Derived.IntWalk
import Derived.Laws.Externs
namespace Go.Proofs.YthmljpccbjolgaaGreatDoor.rmath
set_option linter.unusedVariables false
end Go.Proofs.YthmljpccbjolgaaGreatDoor.rmath
namespace Go.Proofs.YthmljpccbjolgaaGreatDoor.rat
open Go.ChangeShapes Go.WideShapes Go.ChangeAt Go.RowKit rmath bound
set_option linter.unusedVariables false
end Go.Proofs.YthmljpccbjolgaaGreatDoor.rat
namespace Go.Proofs.YthmljpccbjolgaaGreatDoor.rat
open Go.ChangeShapes Go.WideShapes Go.ChangeAt Go.RowKit rmath bound
set_option linter.unusedVariables false
def gcdI (a b:Int):Int:=(Int.gcd a b:Int)
def ltB (a b:Int):Bool:=decide (a<b)
end Go.Proofs.YthmljpccbjolgaaGreatDoor.rat
namespace Go.Proofs.YthmljpccbjolgaaGreatDoor.rat
open Go.ChangeShapes Go.WideShapes Go.ChangeAt Go.RowKit rmath bound num
set_option linter.unusedVariables false
def MayR (n d:Int):Prop:=1≤d∧d≤1048576∧-(2305843009213693952*d)≤n∧n≤2305843009213693952*d∧Int.gcd n d=1
instance (n d:Int):Decidable (MayR n d):=inferInstanceAs (Decidable (_∧_∧_∧_∧_))
def above (n d:Int):Int:=if 0<n % d then n / d+1 else n / d
theorem le_div (n d c:Int) (h:1≤d):c≤n / d↔c*d≤n:=Int.le_ediv_iff_mul_le (by omega)
end Go.Proofs.YthmljpccbjolgaaGreatDoor.rat
