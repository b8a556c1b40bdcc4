import Derived.Test.YthmljpccbjolgaaGreatDoorCoverD
import Derived.Test.YthmljpccbjolgaaGreatDoorMinusF
import Derived.Test.YthmljpccbjolgaaGreatDoorZsetD
namespace Go.Proofs.YthmljpccbjolgaaGreatDoor.claw
open Go.Joins Go.ChangeShapes Go.WideShapes Go.ChangeAt Go.RowKit num rat dbm Go.Proofs.YthmljpccbjolgaaGreatDoor.tight Go.Proofs.YthmljpccbjolgaaGreatDoor.incl Go.Proofs.YthmljpccbjolgaaGreatDoor.plaw Go.Proofs.YthmljpccbjolgaaGreatDoor.zopen Go.Proofs.YthmljpccbjolgaaGreatDoor.zone Go.Proofs.YthmljpccbjolgaaGreatDoor.zlaw Go.Proofs.YthmljpccbjolgaaGreatDoor.win Go.Proofs.YthmljpccbjolgaaGreatDoor.minus Go.Proofs.YthmljpccbjolgaaGreatDoor.mz Go.Proofs.YthmljpccbjolgaaGreatDoor.mlaw Go.Proofs.YthmljpccbjolgaaGreatDoor.cover
open bound hiding up
set_option linter.unusedVariables false
set_option linter.unusedSimpArgs false
end Go.Proofs.YthmljpccbjolgaaGreatDoor.claw
namespace Go.Proofs.YthmljpccbjolgaaGreatDoor.slaw
open Go.Joins Go.ChangeShapes Go.WideShapes Go.ChangeAt Go.RowKit num rat dbm Go.Proofs.YthmljpccbjolgaaGreatDoor.tight Go.Proofs.YthmljpccbjolgaaGreatDoor.incl Go.Proofs.YthmljpccbjolgaaGreatDoor.plaw Go.Proofs.YthmljpccbjolgaaGreatDoor.zopen Go.Proofs.YthmljpccbjolgaaGreatDoor.zone Go.Proofs.YthmljpccbjolgaaGreatDoor.zlaw Go.Proofs.YthmljpccbjolgaaGreatDoor.comp Go.Proofs.YthmljpccbjolgaaGreatDoor.win Go.Proofs.YthmljpccbjolgaaGreatDoor.minus Go.Proofs.YthmljpccbjolgaaGreatDoor.mz Go.Proofs.YthmljpccbjolgaaGreatDoor.mlaw Go.Proofs.YthmljpccbjolgaaGreatDoor.cover Go.Proofs.YthmljpccbjolgaaGreatDoor.claw Go.Proofs.YthmljpccbjolgaaGreatDoor.zset
open bound hiding up
set_option linter.unusedVariables false
set_option linter.unusedSimpArgs false
/-! the two variables that a law's row may list -/
theorem or_six {a b r:List (List Int)} {f:Int} (ha:Six a) (hb:Six b) (h:OrX RestP a b r f):Six r∧r.length≤a.length+b.length:=by
 by_cases e:f=0
 ·subst e
  obtain ⟨_,_,k1,k2,_⟩:=or_fine ha hb h
  exact ⟨six_zo k1,k2⟩
 ·rw [or_err h e]
  exact ⟨six_nil,Nat.zero_le _⟩
theorem both_six {T:List Int→To} {a b r:List (List Int)} {f:Int} (hT:∀ y,Zo y→∀ z,Zo z→∀ o,T y z o 0→Zo o) (ha:Six a) (hb:Six b) (h:BothX RestP T a b r f):Six r∧r.length≤a.length*b.length:=by
 by_cases e:f=0
 ·subst e
  obtain ⟨_,_,k1,k2,_⟩:=both_fine hT ha hb h
  exact ⟨six_zo k1,k2⟩
 ·rw [both_err h e]
  exact ⟨six_nil,Nat.zero_le _⟩
theorem pru_six' {l r:List (List Int)} {f:Int} (hl:Six l) (h:PruX RestP l r f):Six r∧r.length≤l.length:=by
 by_cases e:f=0
 ·subst e
  obtain ⟨_,k1,k2,_⟩:=pru_fine hl h
  exact ⟨six_zo k1,k2⟩
 ·rw [pru_errP h e]
  exact ⟨six_nil,Nat.zero_le _⟩
end Go.Proofs.YthmljpccbjolgaaGreatDoor.slaw
