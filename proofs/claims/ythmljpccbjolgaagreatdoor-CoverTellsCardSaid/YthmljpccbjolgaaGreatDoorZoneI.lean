
/-
  What Make of package zone answers, and what the laws of layer 8 share; each theorem names its conditions.
-/
import Derived.Test.YthmljpccbjolgaaGreatDoorZoneF
import Derived.Test.YthmljpccbjolgaaGreatDoorZoneA
import Derived.Test.YthmljpccbjolgaaGreatDoorRatC
namespace Go.Proofs.YthmljpccbjolgaaGreatDoor.zone
open Go.Joins Go.ChangeShapes Go.WideShapes Go.ChangeAt Go.RowKit num rat dbm Go.Proofs.YthmljpccbjolgaaGreatDoor.tight Go.Proofs.YthmljpccbjolgaaGreatDoor.incl Go.Proofs.YthmljpccbjolgaaGreatDoor.plaw Go.Proofs.YthmljpccbjolgaaGreatDoor.zopen
open bound hiding up
set_option linter.unusedVariables false
set_option linter.unusedSimpArgs false
/-! Make -/
end Go.Proofs.YthmljpccbjolgaaGreatDoor.zone
namespace Go.Proofs.YthmljpccbjolgaaGreatDoor.zlaw
open Go.Joins Go.ChangeShapes Go.WideShapes Go.ChangeAt Go.RowKit num rat dbm Go.Proofs.YthmljpccbjolgaaGreatDoor.tight Go.Proofs.YthmljpccbjolgaaGreatDoor.incl Go.Proofs.YthmljpccbjolgaaGreatDoor.plaw Go.Proofs.YthmljpccbjolgaaGreatDoor.zopen Go.Proofs.YthmljpccbjolgaaGreatDoor.zone
open bound hiding up
set_option linter.unusedVariables false
set_option linter.unusedSimpArgs false
end Go.Proofs.YthmljpccbjolgaaGreatDoor.zlaw
