
/-
  What rallentandoref06 answers; each theorem names its conditions.
-/
import Derived.Test.YthmljpccbjolgaaGreatDoorInclC
import Derived.Test.YthmljpccbjolgaaGreatDoorTightC
namespace Go.Proofs.YthmljpccbjolgaaGreatDoor.iref
open Go.ChangeShapes Go.WideShapes Go.ChangeAt Go.RowKit num rat dbm way Go.Proofs.YthmljpccbjolgaaGreatDoor.tight Go.Proofs.YthmljpccbjolgaaGreatDoor.incl Go.Proofs.YthmljpccbjolgaaGreatDoor.tref
open bound hiding up
set_option linter.unusedVariables false
set_option linter.unusedSimpArgs false
set_option linter.unusedSectionVars false
section
variable {n:Nat} {ts us:List Int} (h0:0<n) (hn:n≤4) (hl:ts.length=n*n) (hu:us.length=n*n) (htop:Tops ts) (hto:Tops us) (ht:MayD n ts) (hm:MayD n us)
include h0 hn hl hu htop hto ht hm
end
end Go.Proofs.YthmljpccbjolgaaGreatDoor.iref
namespace Go.Proofs.YthmljpccbjolgaaGreatDoor.iref
open Go.ChangeShapes Go.WideShapes Go.ChangeAt Go.RowKit num rat dbm way Go.Proofs.YthmljpccbjolgaaGreatDoor.tight Go.Proofs.YthmljpccbjolgaaGreatDoor.incl Go.Proofs.YthmljpccbjolgaaGreatDoor.tref Go.Proofs.YthmljpccbjolgaaGreatDoor.tlaw
open bound hiding up
set_option linter.unusedVariables false
set_option linter.unusedSimpArgs false
end Go.Proofs.YthmljpccbjolgaaGreatDoor.iref
namespace Go.Proofs.YthmljpccbjolgaaGreatDoor.iref
open Go.ChangeShapes Go.WideShapes Go.ChangeAt Go.RowKit num rat dbm way Go.Proofs.YthmljpccbjolgaaGreatDoor.tight Go.Proofs.YthmljpccbjolgaaGreatDoor.incl Go.Proofs.YthmljpccbjolgaaGreatDoor.tref Go.Proofs.YthmljpccbjolgaaGreatDoor.tlaw
open bound hiding up
set_option linter.unusedVariables false
set_option linter.unusedSimpArgs false
/-! a time and a number more -/
/-! the times the other way round -/
end Go.Proofs.YthmljpccbjolgaaGreatDoor.iref
namespace Go.Proofs.YthmljpccbjolgaaGreatDoor.iref
open Go.ChangeShapes Go.WideShapes Go.ChangeAt Go.RowKit num rat dbm way Go.Proofs.YthmljpccbjolgaaGreatDoor.tight Go.Proofs.YthmljpccbjolgaaGreatDoor.incl Go.Proofs.YthmljpccbjolgaaGreatDoor.tlaw
open bound hiding up
set_option linter.unusedVariables false
set_option linter.unusedSimpArgs false
/-! the matrix of the times the other way round -/
end Go.Proofs.YthmljpccbjolgaaGreatDoor.iref
namespace Go.Proofs.YthmljpccbjolgaaGreatDoor.iref
open Go.ChangeShapes Go.WideShapes Go.ChangeAt Go.RowKit num rat dbm way Go.Proofs.YthmljpccbjolgaaGreatDoor.tight Go.Proofs.YthmljpccbjolgaaGreatDoor.incl Go.Proofs.YthmljpccbjolgaaGreatDoor.tlaw
open bound hiding up
set_option linter.unusedVariables false
set_option linter.unusedSimpArgs false
end Go.Proofs.YthmljpccbjolgaaGreatDoor.iref
namespace Go.Proofs.YthmljpccbjolgaaGreatDoor.iref
open Go.ChangeShapes Go.WideShapes Go.ChangeAt Go.RowKit num rat dbm way Go.Proofs.YthmljpccbjolgaaGreatDoor.tight Go.Proofs.YthmljpccbjolgaaGreatDoor.incl Go.Proofs.YthmljpccbjolgaaGreatDoor.tlaw
open bound hiding up
set_option linter.unusedVariables false
set_option linter.unusedSimpArgs false
end Go.Proofs.YthmljpccbjolgaaGreatDoor.iref
namespace Go.Proofs.YthmljpccbjolgaaGreatDoor.iref
open Go.ChangeShapes Go.WideShapes Go.ChangeAt Go.RowKit num rat dbm way Go.Proofs.YthmljpccbjolgaaGreatDoor.tight Go.Proofs.YthmljpccbjolgaaGreatDoor.incl Go.Proofs.YthmljpccbjolgaaGreatDoor.tlaw
open bound hiding up
set_option linter.unusedVariables false
set_option linter.unusedSimpArgs false
end Go.Proofs.YthmljpccbjolgaaGreatDoor.iref
