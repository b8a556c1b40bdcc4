
/-
  Zones one behind the other, as tables of weights: what is composed, which two of three come first, the other way round, lesser ones; then Comp, Back and Firsts, each in one form; each theorem names its conditions.
-/
import Derived.Test.YthmljpccbjolgaaGreatDoorZoneA
import Derived.Test.YthmljpccbjolgaaGreatDoorProjA
import Derived.Test.YthmljpccbjolgaaGreatDoorZoneF
namespace Go.Proofs.YthmljpccbjolgaaGreatDoor.way
set_option linter.unusedVariables false
set_option linter.unusedSectionVars false
set_option linter.unusedSimpArgs false
def Cl (S:Nat→Prop) (G:Tab):Prop:=(∀ i j m,S i→S j→S m→le (G i j) (ad (G i m) (G m j)))∧∀ i,S i→G i i=one
section
variable {L Z:Tab} {s:Nat} {ys:List Nat} {X:Nat→Prop} (hL:Cl X L) (hZ:Cl (fun i=>i ∈ ys∨i=s) Z) (hy:∀ k,k ∈ ys→X k) (hs:¬ X s) (hLZ:∀ k l,k ∈ ys→l ∈ ys→le (L k l) (Z k l))
include hL hZ hy hs hLZ
end
end Go.Proofs.YthmljpccbjolgaaGreatDoor.way
namespace Go.Proofs.YthmljpccbjolgaaGreatDoor.comp
open way num rat dbm Go.Proofs.YthmljpccbjolgaaGreatDoor.tight Go.Proofs.YthmljpccbjolgaaGreatDoor.incl Go.Proofs.YthmljpccbjolgaaGreatDoor.zone
open bound hiding up
open proj (sk dropT cl_cod)
set_option linter.unusedVariables false
set_option linter.unusedSectionVars false
set_option linter.unusedSimpArgs false
def bothT (a b:List Int):List Int:=[1,a[1]?.getD 0,lsr (a[3]?.getD 0) (b[1]?.getD 0),b[3]?.getD 0,a[0]?.getD 0,1,a[5]?.getD 0,9223372036854775807,lsr (a[2]?.getD 0) (b[0]?.getD 0),a[4]?.getD 0,1,b[5]?.getD 0,b[2]?.getD 0,9223372036854775807,b[4]?.getD 0,1]
theorem six_fine {a:List Int} (h:MayD 3 (fullT a)):∀ i,i<6→Fine (a[i]?.getD 0):=by
 intro i hi
 have f:=h.2.2.2
 rcases (by omega:i=0∨i=1∨i=2∨i=3∨i=4∨i=5) with rfl | rfl | rfl | rfl | rfl | rfl
 ·exact f 3 (show 3<9 by decide)
 ·exact f 1 (show 1<9 by decide)
 ·exact f 6 (show 6<9 by decide)
 ·exact f 2 (show 2<9 by decide)
 ·exact f 7 (show 7<9 by decide)
 ·exact f 5 (show 5<9 by decide)
def zw (a:List Int):Tab:=fun i j=>cod (tat (fullT a) 3 i j)
def compT (a b:List Int):List Int:=shortT (dropT 4 2 (bothT a b))
section
variable {a b:List Int} (ta:Tops a) (tb:Tops b) (ha:MayD 3 (fullT a)) (hb:MayD 3 (fullT b))
include ta tb
include ha hb
end
/-! which two of three come first -/
section
variable {a b c:List Int} (ta:Tops a) (tb:Tops b) (tc:Tops c) (ha:MayD 3 (fullT a)) (hb:MayD 3 (fullT b)) (hc:MayD 3 (fullT c))
 (hab:OkD 4 (bothT a b)) (hbc:OkD 4 (bothT b c)) (hx:MayD 3 (fullT (compT a b))) (hy:MayD 3 (fullT (compT b c)))
include ta tb tc ha hb hc hab hbc hx hy
end
/-! the other way round -/
theorem may_cl {a:List Int} (ta:Tops a) (h:MayZ a):Cl (fun i=>i<3) (zw a):=by
 have tt:=full_tops ta
 have g:way.Good (beg 3 (fullT a)) 3:=(okD_good (n:=3) (by decide) (by decide) rfl tt h.1.1).1 h.1
 have e:∀ i j,i<3→j<3→zw a i j=F (beg 3 (fullT a)) 3 i j:=fun i j hi hj=>by
  have:=cl_cod (n:=3) (by decide) (by decide) rfl tt h.1 hi hj
  rw [show clT ((3:Nat):Int) (fullT a)=fullT a from h.2] at this
  exact this
 refine ⟨fun i j m hi hj hm=>?_,fun i hi=>?_⟩
 ·rw [e i j hi hj,e i m hi hm,e m j hm hj];exact good_tri g m hm i j
 ·rw [e i i hi hi];exact clo_one (n:=3) (by decide) (by decide) rfl tt h.1 i hi
end Go.Proofs.YthmljpccbjolgaaGreatDoor.comp
namespace Go.Proofs.YthmljpccbjolgaaGreatDoor.comp
open Go.Joins Go.ChangeShapes Go.WideShapes Go.ChangeAt Go.RowKit num rat dbm Go.Proofs.YthmljpccbjolgaaGreatDoor.tight Go.Proofs.YthmljpccbjolgaaGreatDoor.plaw Go.Proofs.YthmljpccbjolgaaGreatDoor.zopen Go.Proofs.YthmljpccbjolgaaGreatDoor.zone
open bound hiding up
set_option linter.unusedVariables false
set_option linter.unusedSimpArgs false
end Go.Proofs.YthmljpccbjolgaaGreatDoor.comp
namespace Go.Proofs.YthmljpccbjolgaaGreatDoor.comp
open Go.Joins Go.ChangeShapes Go.WideShapes Go.ChangeAt Go.RowKit num rat dbm Go.Proofs.YthmljpccbjolgaaGreatDoor.tight Go.Proofs.YthmljpccbjolgaaGreatDoor.plaw Go.Proofs.YthmljpccbjolgaaGreatDoor.zopen Go.Proofs.YthmljpccbjolgaaGreatDoor.zone
open bound hiding up
open proj (dropT)
set_option linter.unusedVariables false
set_option linter.unusedSimpArgs false
/-! the other way round -/
end Go.Proofs.YthmljpccbjolgaaGreatDoor.comp
namespace Go.Proofs.YthmljpccbjolgaaGreatDoor.comp
open Go.Joins Go.ChangeShapes Go.WideShapes Go.ChangeAt Go.RowKit num rat dbm Go.Proofs.YthmljpccbjolgaaGreatDoor.tight Go.Proofs.YthmljpccbjolgaaGreatDoor.plaw Go.Proofs.YthmljpccbjolgaaGreatDoor.zopen Go.Proofs.YthmljpccbjolgaaGreatDoor.zone
open bound hiding up
open proj (dropT)
set_option linter.unusedVariables false
set_option linter.unusedSimpArgs false
/-! firsts -/
end Go.Proofs.YthmljpccbjolgaaGreatDoor.comp
