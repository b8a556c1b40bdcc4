
/-
  What laws share: ints, a fraction and times that come in; rows of one's own that grow, in a drawn region too; boxes below a line that is no longer turned; each theorem names its conditions.
-/
import Derived.Test.YthmljpccbjolgaaGreatDoorDbmD
import Derived.Test.YthmljpccbjolgaaGreatDoorTightD
namespace Go.Proofs.YthmljpccbjolgaaGreatDoor.plaw
open Go.Joins Go.ChangeShapes Go.WideShapes Go.ChangeAt Go.RowKit num dbm rat Go.Proofs.YthmljpccbjolgaaGreatDoor.tight
open bound hiding up
set_option linter.unusedVariables false
set_option linter.unusedSimpArgs false
theorem held_grown {n base k s:Nat} {A W W':World} {t:TypeId} {v:Value} {xs:List Value} (h:Below n A W) (hA:n≤W.heap.size) (ho:W.ownsRow base t s v k xs) (hb:n≤base) (hg:W.grownBy W' v.ownBlock):Below n A W':=
 h.grown hg hA (fun q e=>Nat.le_trans hb (ho.lt q e).1)
theorem grown_lies {W W':World} {row:Option Nat} {g:Nat} {t:TypeId} {cs:Array Value} (h:lies.Lies W g t cs) (hg:W.grownBy W' row) (hne:some g≠row):lies.Lies W' g t cs:=(World.grownBy.block hg _ (lies.lt h) hne).trans h
theorem ints_row {W:World} {base n:Nat} {E:TypeId} {v:Value} {us:List Int} (h:W.ownsRow base E 1 v n (us.map (Value.int .i64))) (hl:us.length=n):law.Ints W.heap.size W v us:=by
 subst hl
 rcases ownsRow_forms h with ⟨rfl,h0⟩ | ⟨g,cap,rfl⟩
 ·exact .inl ⟨⟨none,0,rfl,fun _=>rfl⟩,List.eq_nil_of_length_eq_zero h0⟩
 ·refine .inr ⟨g,0,cap,rfl,(h.lt g rfl).2,fun j hj=>?_⟩
  rw [Nat.zero_add,h.cellAt j (by omega),List.getElem?_map,List.getElem?_eq_getElem hj]
  rfl
end Go.Proofs.YthmljpccbjolgaaGreatDoor.plaw
