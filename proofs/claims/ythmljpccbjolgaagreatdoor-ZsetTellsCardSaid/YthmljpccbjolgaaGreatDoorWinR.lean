
/-
  The document's own Within, Window and Shift, each in one form; each theorem names its conditions.
-/
import Derived.Test.YthmljpccbjolgaaGreatDoorZoneU
import Derived.Test.YthmljpccbjolgaaGreatDoorWinD
namespace Go.Proofs.YthmljpccbjolgaaGreatDoor.wref
open Go.Joins Go.ChangeShapes Go.WideShapes Go.ChangeAt Go.RowKit num rat dbm Go.Proofs.YthmljpccbjolgaaGreatDoor.tight Go.Proofs.YthmljpccbjolgaaGreatDoor.incl Go.Proofs.YthmljpccbjolgaaGreatDoor.plaw Go.Proofs.YthmljpccbjolgaaGreatDoor.zopen Go.Proofs.YthmljpccbjolgaaGreatDoor.zone Go.Proofs.YthmljpccbjolgaaGreatDoor.zref Go.Proofs.YthmljpccbjolgaaGreatDoor.win dref
open bound hiding up
open Go.Proofs.YthmljpccbjolgaaGreatDoor.comp (five_cells put_five six_fine)
set_option linter.unusedVariables false
set_option linter.unusedSimpArgs false
/-! told -/
end Go.Proofs.YthmljpccbjolgaaGreatDoor.wref
namespace Go.Proofs.YthmljpccbjolgaaGreatDoor.wref
open Go.Joins Go.ChangeShapes Go.WideShapes Go.ChangeAt Go.RowKit num rat dbm Go.Proofs.YthmljpccbjolgaaGreatDoor.tight Go.Proofs.YthmljpccbjolgaaGreatDoor.incl Go.Proofs.YthmljpccbjolgaaGreatDoor.plaw Go.Proofs.YthmljpccbjolgaaGreatDoor.zopen Go.Proofs.YthmljpccbjolgaaGreatDoor.zone Go.Proofs.YthmljpccbjolgaaGreatDoor.zref Go.Proofs.YthmljpccbjolgaaGreatDoor.win dref
open bound hiding up
open Go.Proofs.YthmljpccbjolgaaGreatDoor.comp (five_cells put_five six_fine)
set_option linter.unusedVariables false
set_option linter.unusedSimpArgs false
end Go.Proofs.YthmljpccbjolgaaGreatDoor.wref
