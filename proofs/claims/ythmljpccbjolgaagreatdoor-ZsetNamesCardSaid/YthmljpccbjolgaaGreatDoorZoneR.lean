
/-
  The document's own zones: a zone's matrix, a matrix' zone, and what is told of what is closed; each theorem names its conditions.
-/
import Derived.Test.YthmljpccbjolgaaGreatDoorZoneA
import Derived.Test.YthmljpccbjolgaaGreatDoorTightC
import Derived.Test.YthmljpccbjolgaaGreatDoorZoneF
import Derived.Test.YthmljpccbjolgaaGreatDoorLawA
namespace Go.Proofs.YthmljpccbjolgaaGreatDoor.zref
open Go.Joins Go.ChangeShapes Go.WideShapes Go.ChangeAt Go.RowKit num rat dbm Go.Proofs.YthmljpccbjolgaaGreatDoor.tight Go.Proofs.YthmljpccbjolgaaGreatDoor.incl Go.Proofs.YthmljpccbjolgaaGreatDoor.plaw Go.Proofs.YthmljpccbjolgaaGreatDoor.zopen Go.Proofs.YthmljpccbjolgaaGreatDoor.zone dref
open bound hiding up
set_option linter.unusedVariables false
set_option linter.unusedSimpArgs false
theorem put_sixL {W:World} {g:Nat} {t:TypeId} {z0 z1 z2 z3 z4 z5:Value} (h:lies.Lies W g t #[z0,z1,z2,z3,z4,z5]) (a b c d e f:Value):lies.Lies (((((((W.setCell ⟨g,0,none⟩ a).setCell ⟨g,1,none⟩ b).setCell ⟨g,2,none⟩ c).setCell ⟨g,3,none⟩ d).setCell ⟨g,4,none⟩ e).setCell ⟨g,5,none⟩ f)) g t #[a,b,c,d,e,f]:=by
 have h0:lies.Lies (W.setCell ⟨g,0,none⟩ a) g t #[a,z1,z2,z3,z4,z5]:=by simpa using lies.on_put h 0 a
 have h1:=lies.on_put h0 1 b
 have h1:lies.Lies ((W.setCell ⟨g,0,none⟩ a).setCell ⟨g,1,none⟩ b) g t #[a,b,z2,z3,z4,z5]:=by simpa using h1
 have h2:=lies.on_put h1 2 c
 have h2:lies.Lies (((W.setCell ⟨g,0,none⟩ a).setCell ⟨g,1,none⟩ b).setCell ⟨g,2,none⟩ c) g t #[a,b,c,z3,z4,z5]:=by simpa using h2
 have h3:=lies.on_put h2 3 d
 have h3:lies.Lies ((((W.setCell ⟨g,0,none⟩ a).setCell ⟨g,1,none⟩ b).setCell ⟨g,2,none⟩ c).setCell ⟨g,3,none⟩ d) g t #[a,b,c,d,z4,z5]:=by simpa using h3
 have h4:=lies.on_put h3 4 e
 have h4:lies.Lies (((((W.setCell ⟨g,0,none⟩ a).setCell ⟨g,1,none⟩ b).setCell ⟨g,2,none⟩ c).setCell ⟨g,3,none⟩ d).setCell ⟨g,4,none⟩ e) g t #[a,b,c,d,e,z5]:=by simpa using h4
 simpa using lies.on_put h4 5 f
/-! told -/
end Go.Proofs.YthmljpccbjolgaaGreatDoor.zref
