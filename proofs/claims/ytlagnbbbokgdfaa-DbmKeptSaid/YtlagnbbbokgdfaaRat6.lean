/-
  What Cmp of package rat answers, for every two fractions; the conditions: the numbers are ints.
-/
import Derived.Test.YtlagnbbbokgdfaaRat5
namespace Go.Proofs.Ytlagnbbbokgdfaa.rat
open Go.ChangeShapes Go.WideShapes Go.ChangeAt Go.RowKit rmath bound num
set_option linter.unusedVariables false

/-- what Cmp answers. -/
def cmpV (a b c d : Int) : Int := if Both a b c d then (if c * b < a * d then 1 else if a * d < c * b then -1 else 0) else 0
def cmpE (a b c d : Int) : Int := if Both a b c d then 0 else 8
end Go.Proofs.Ytlagnbbbokgdfaa.rat
