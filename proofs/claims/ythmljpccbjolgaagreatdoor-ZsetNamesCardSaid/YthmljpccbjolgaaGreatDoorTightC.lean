
/-
  The document's own answers of layer 5, and that what they close is what the program closes; each theorem names its conditions.
-/
import Derived.Test.YthmljpccbjolgaaGreatDoorTightB
namespace Go.Proofs.YthmljpccbjolgaaGreatDoor.tref
open Go.ChangeShapes Go.WideShapes Go.ChangeAt Go.RowKit num dbm dref Go.Proofs.YthmljpccbjolgaaGreatDoor.tight
open bound hiding up
set_option linter.unusedVariables false
set_option linter.unusedSimpArgs false
end Go.Proofs.YthmljpccbjolgaaGreatDoor.tref
namespace Go.Proofs.YthmljpccbjolgaaGreatDoor.tref
open Go.ChangeShapes Go.WideShapes Go.ChangeAt Go.RowKit num dbm dref Go.Proofs.YthmljpccbjolgaaGreatDoor.tight
open bound hiding up
set_option linter.unusedVariables false
set_option linter.unusedSimpArgs false
end Go.Proofs.YthmljpccbjolgaaGreatDoor.tref
namespace Go.Proofs.YthmljpccbjolgaaGreatDoor.tref
open num dbm dref Go.Proofs.YthmljpccbjolgaaGreatDoor.tight
open bound hiding up
set_option linter.unusedVariables false
end Go.Proofs.YthmljpccbjolgaaGreatDoor.tref
namespace Go.Proofs.YthmljpccbjolgaaGreatDoor.tref
open Go.ChangeShapes Go.WideShapes Go.ChangeAt Go.RowKit num dbm dref Go.Proofs.YthmljpccbjolgaaGreatDoor.tight
open bound hiding up
set_option linter.unusedVariables false
set_option linter.unusedSimpArgs false
end Go.Proofs.YthmljpccbjolgaaGreatDoor.tref
namespace Go.Proofs.YthmljpccbjolgaaGreatDoor.tref
open Go.ChangeShapes Go.WideShapes Go.ChangeAt Go.RowKit num dbm dref Go.Proofs.YthmljpccbjolgaaGreatDoor.tight
open bound hiding up
set_option linter.unusedVariables false
set_option linter.unusedSimpArgs false
end Go.Proofs.YthmljpccbjolgaaGreatDoor.tref
namespace Go.Proofs.YthmljpccbjolgaaGreatDoor.tref
open Go.ChangeShapes Go.WideShapes Go.ChangeAt Go.RowKit num dbm dref Go.Proofs.YthmljpccbjolgaaGreatDoor.tight
open bound hiding up
set_option linter.unusedVariables false
set_option linter.unusedSimpArgs false
end Go.Proofs.YthmljpccbjolgaaGreatDoor.tref
