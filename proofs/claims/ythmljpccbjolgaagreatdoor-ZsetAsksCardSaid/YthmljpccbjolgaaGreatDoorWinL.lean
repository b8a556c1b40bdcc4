
/-
  What the laws of win share; each theorem names its conditions.
-/
import Derived.Test.YthmljpccbjolgaaGreatDoorWinD
import Derived.Test.YthmljpccbjolgaaGreatDoorWinA
namespace Go.Proofs.YthmljpccbjolgaaGreatDoor.wlaw
open Go.Joins Go.ChangeShapes Go.WideShapes Go.ChangeAt Go.RowKit num rat dbm Go.Proofs.YthmljpccbjolgaaGreatDoor.tight Go.Proofs.YthmljpccbjolgaaGreatDoor.incl Go.Proofs.YthmljpccbjolgaaGreatDoor.plaw Go.Proofs.YthmljpccbjolgaaGreatDoor.zopen Go.Proofs.YthmljpccbjolgaaGreatDoor.zone Go.Proofs.YthmljpccbjolgaaGreatDoor.zlaw Go.Proofs.YthmljpccbjolgaaGreatDoor.win
open bound hiding up
open Go.Proofs.YthmljpccbjolgaaGreatDoor.comp (five_cells)
set_option linter.unusedVariables false
set_option linter.unusedSimpArgs false
end Go.Proofs.YthmljpccbjolgaaGreatDoor.wlaw
namespace Go.Proofs.YthmljpccbjolgaaGreatDoor.wlaw
open Go.Joins Go.ChangeShapes Go.WideShapes Go.ChangeAt Go.RowKit way num rat dbm Go.Proofs.YthmljpccbjolgaaGreatDoor.tight Go.Proofs.YthmljpccbjolgaaGreatDoor.tkept Go.Proofs.YthmljpccbjolgaaGreatDoor.incl Go.Proofs.YthmljpccbjolgaaGreatDoor.plaw Go.Proofs.YthmljpccbjolgaaGreatDoor.zopen Go.Proofs.YthmljpccbjolgaaGreatDoor.zone Go.Proofs.YthmljpccbjolgaaGreatDoor.win
open bound hiding up
open Go.Proofs.YthmljpccbjolgaaGreatDoor.comp (zw may_cl)
open proj (cl_cod)
set_option linter.unusedVariables false
set_option linter.unusedSimpArgs false
/-! lesser zones, wider cuts -/
/-! a wider window -/
end Go.Proofs.YthmljpccbjolgaaGreatDoor.wlaw
