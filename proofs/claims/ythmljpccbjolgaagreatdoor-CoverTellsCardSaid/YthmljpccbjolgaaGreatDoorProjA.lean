
/-
  A matrix laid out of another one's places: what a clock more, a clock less and another order turn; and Drop, Grow and Move as package proj answers them; each theorem names its conditions.
-/
import Derived.Test.YthmljpccbjolgaaGreatDoorDbmD
import Derived.Test.YthmljpccbjolgaaGreatDoorTightD
namespace Go.Proofs.YthmljpccbjolgaaGreatDoor.way
set_option linter.unusedVariables false
set_option linter.unusedSimpArgs false
theorem F_none {d:Tab} {i:Nat} (h:∀ j,d i j=none) (k:Nat):∀ j,F d k i j=none:=by
 induction k with
 | zero=>exact h
 | succ k ih=>
  intro j
  show mn (F d k i j) (ad (F d k i k) (F d k k j))=none
  rw [ih,ih,none_ad];rfl
theorem F_none2 {d:Tab} {j:Nat} (h:∀ i,d i j=none) (k:Nat):∀ i,F d k i j=none:=by
 induction k with
 | zero=>exact h
 | succ k ih=>
  intro i
  show mn (F d k i j) (ad (F d k i k) (F d k k j))=none
  rw [ih,ih,ad_none];rfl
def more (d:Tab) (n:Nat):Tab:=fun i j=>if i=n∧j=n then one else d i j
end Go.Proofs.YthmljpccbjolgaaGreatDoor.way
namespace Go.Proofs.YthmljpccbjolgaaGreatDoor.proj
open num rat way dbm Go.Proofs.YthmljpccbjolgaaGreatDoor.tight
open bound hiding up
set_option linter.unusedVariables false
set_option linter.unusedSectionVars false
set_option linter.unusedSimpArgs false
def laidT (n m:Nat) (wh:Nat→Nat) (ts:List Int):List Int:=(List.range (m*m)).map fun p=>if wh (p / m)<n∧wh (p % m)<n then tat ts n (wh (p / m)) (wh (p % m)) else if p / m=p % m then 1 else 9223372036854775807
/-! a clock less -/
def sk (k i:Nat):Nat:=if i<k then i else i+1
def dropT (n k:Nat) (ts:List Int):List Int:=laidT n (n - 1) (sk k) (clT n ts)
section
variable {n k:Nat} {ts:List Int} (h0:0<n) (hn:n≤4) (hl:ts.length=n*n) (htop:Tops ts) (h:OkD n ts)
include h0 hn hl htop h
theorem cl_cod {i j:Nat} (hi:i<n) (hj:j<n):cod (tat (clT n ts) n i j)=F (beg n ts) n i j:=by
 rw [clT_nat h0]
 exact tabs_is h0 hn hl htop h.1.2.2.2 n (Nat.le_refl _) (fun m hm=>h.2.2 m (by simp;omega)) i j hi hj
end
/-! a clock more -/
section
variable {n:Nat} {ts:List Int} (h0:0<n) (hn:n<4) (hl:ts.length=n*n) (htop:Tops ts) (h:MayD n ts)
include h0 hn hl htop h
omit hl htop h in
end
/-! another order -/
/-! two clocks less -/
/-! what picks up a time for the clock that went -/
end Go.Proofs.YthmljpccbjolgaaGreatDoor.proj
namespace Go.Proofs.YthmljpccbjolgaaGreatDoor.proj
open Go.Joins Go.ChangeShapes Go.WideShapes Go.ChangeAt Go.RowKit num rat dbm Go.Proofs.YthmljpccbjolgaaGreatDoor.tight
open bound hiding up
set_option linter.unusedVariables false
set_option linter.unusedSimpArgs false
/-! the closures -/
end Go.Proofs.YthmljpccbjolgaaGreatDoor.proj
namespace Go.Proofs.YthmljpccbjolgaaGreatDoor.proj
open Go.Joins Go.ChangeShapes Go.WideShapes Go.ChangeAt Go.RowKit num rat dbm Go.Proofs.YthmljpccbjolgaaGreatDoor.tight
open bound hiding up
set_option linter.unusedVariables false
set_option linter.unusedSimpArgs false
/-! is a number in a list? -/
/-! what the calls answer -/
end Go.Proofs.YthmljpccbjolgaaGreatDoor.proj
