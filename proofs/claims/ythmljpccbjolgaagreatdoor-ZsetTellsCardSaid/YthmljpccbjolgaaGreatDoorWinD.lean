
/-
  Package win: what Within, Window and Shift answer, each in one form; each theorem names its conditions.
-/
import Derived.Test.YthmljpccbjolgaaGreatDoorZoneF
import Derived.Test.YthmljpccbjolgaaGreatDoorWinA
import Derived.Test.YthmljpccbjolgaaGreatDoorZoneI
import Derived.Test.YthmljpccbjolgaaGreatDoorZoneR
import Derived.Test.YthmljpccbjolgaaGreatDoorTill
namespace Go.Proofs.YthmljpccbjolgaaGreatDoor.win
open Go.Joins Go.ChangeShapes Go.WideShapes Go.ChangeAt Go.RowKit num rat dbm Go.Proofs.YthmljpccbjolgaaGreatDoor.tight Go.Proofs.YthmljpccbjolgaaGreatDoor.plaw Go.Proofs.YthmljpccbjolgaaGreatDoor.zopen Go.Proofs.YthmljpccbjolgaaGreatDoor.zone
open bound hiding up
set_option linter.unusedVariables false
set_option linter.unusedSimpArgs false
end Go.Proofs.YthmljpccbjolgaaGreatDoor.win
namespace Go.Proofs.YthmljpccbjolgaaGreatDoor.win
open Go.Joins Go.ChangeShapes Go.WideShapes Go.ChangeAt Go.RowKit num rat dbm Go.Proofs.YthmljpccbjolgaaGreatDoor.tight Go.Proofs.YthmljpccbjolgaaGreatDoor.plaw Go.Proofs.YthmljpccbjolgaaGreatDoor.zopen Go.Proofs.YthmljpccbjolgaaGreatDoor.zone
open bound hiding up
open Go.Proofs.YthmljpccbjolgaaGreatDoor.comp (five_cells put_five)
set_option linter.unusedVariables false
set_option linter.unusedSimpArgs false
def Zs (R:List Int→Int→Prop) (w:World) (e:Ending) (w':World):Prop:=Below w.heap.size w w'∧∃ z0 z1 z2 z3 z4 z5 f,e=.returned (.tuple #[.agg #[.int .i64 z0,.int .i64 z1,.int .i64 z2,.int .i64 z3,.int .i64 z4,.int .i64 z5],.int .i64 f])∧R [z0,z1,z2,z3,z4,z5] f
end Go.Proofs.YthmljpccbjolgaaGreatDoor.win
namespace Go.Proofs.YthmljpccbjolgaaGreatDoor.win
open Go.Joins Go.ChangeShapes Go.WideShapes Go.ChangeAt Go.RowKit num rat dbm Go.Proofs.YthmljpccbjolgaaGreatDoor.tight Go.Proofs.YthmljpccbjolgaaGreatDoor.plaw Go.Proofs.YthmljpccbjolgaaGreatDoor.zopen Go.Proofs.YthmljpccbjolgaaGreatDoor.zone
open bound hiding up
open Go.Proofs.YthmljpccbjolgaaGreatDoor.comp (five_cells put_five six_fine)
set_option linter.unusedVariables false
set_option linter.unusedSimpArgs false
end Go.Proofs.YthmljpccbjolgaaGreatDoor.win
