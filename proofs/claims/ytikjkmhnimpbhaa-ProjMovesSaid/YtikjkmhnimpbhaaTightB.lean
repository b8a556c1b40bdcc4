/-
  What Meet and Between of package tight answer, at any arguments; each theorem names its conditions.
-/
import Derived.Test.YtikjkmhnimpbhaaTightA
namespace Go.Proofs.Ytikjkmhnimpbhaa.tight
open Go.ChangeShapes Go.WideShapes Go.ChangeAt Go.RowKit num dbm
open bound hiding up
set_option linter.unusedVariables false
set_option linter.unusedSimpArgs false

/-- what Meet answers. -/
def meetQ (n m : Int) (ts us : List Int) : Option (List Int) := if MayD n ts ∧ MayD m us ∧ n = m then some (lesT ts us) else none
def meetE (n m : Int) (ts us : List Int) : Int := if MayD n ts ∧ MayD m us then 40 else 8
theorem box3 (n m : Int) (sv tv : Value) (w : World) : Below w.heap.size w (((w.alloc (.cells #[.int .i64 n, sv] 24)).alloc (.cells #[.int .i64 m, tv] 24)).alloc (.cells #[.int .i64 0, .slice none 0 0] 24)) ∧ lies.Lies (((w.alloc (.cells #[.int .i64 n, sv] 24)).alloc (.cells #[.int .i64 m, tv] 24)).alloc (.cells #[.int .i64 0, .slice none 0 0] 24)) w.heap.size 24 #[.int .i64 n, sv] ∧ lies.Lies (((w.alloc (.cells #[.int .i64 n, sv] 24)).alloc (.cells #[.int .i64 m, tv] 24)).alloc (.cells #[.int .i64 0, .slice none 0 0] 24)) (w.heap.size + 1) 24 #[.int .i64 m, tv] ∧ lies.Lies (((w.alloc (.cells #[.int .i64 n, sv] 24)).alloc (.cells #[.int .i64 m, tv] 24)).alloc (.cells #[.int .i64 0, .slice none 0 0] 24)) (w.heap.size + 1 + 1) 24 #[.int .i64 0, .slice none 0 0] :=
  ⟨bound.up3 _ _ _ _, lies.on_alloc (lies.on_alloc (lies.made w _ _) _) _, lies.on_alloc (lies.made_at _ _ _ _ (World.size_alloc _ _)) _, lies.made_at _ _ _ _ (by simp)⟩
theorem ret3 {B : Nat} {w W : World} (h : Below B w W) (hB : B ≤ w.heap.size + 1 + 1) (u v : Value) : Below B w ((W.setCell ⟨w.heap.size + 1 + 1, 0, none⟩ u).setCell ⟨w.heap.size + 1 + 1, 1, none⟩ v) :=
  (h.setCell (p := ⟨w.heap.size + 1 + 1, 0, none⟩) hB _).setCell (p := ⟨w.heap.size + 1 + 1, 1, none⟩) hB _

end Go.Proofs.Ytikjkmhnimpbhaa.tight

namespace Go.Proofs.Ytikjkmhnimpbhaa.tight
open Go.ChangeShapes Go.WideShapes Go.ChangeAt Go.RowKit num dbm
open bound hiding up
set_option linter.unusedVariables false
set_option linter.unusedSimpArgs false

/-- the upper bound of a span. -/
def hiB (hi : Int) (hs op : Bool) : Int := if op then 9223372036854775807 else mk hi hs
/-- what Between answers. -/
def btwL (n : Nat) (ts : List Int) (i : Nat) (lo : Int) (ls : Bool) (hi : Int) (hs op : Bool) : List Int := setAll n ts [(0, i, mk (-lo) ls), (i, 0, hiB hi hs op)]
def btwQ (n : Int) (ts : List Int) (i lo : Int) (ls : Bool) (hi : Int) (hs op : Bool) : Option (List Int) := if MayD n ts ∧ Clk n i ∧ MayS lo hi hs op then some (btwL n.toNat ts i.toNat lo ls hi hs op) else none
def btwE (n : Int) (ts : List Int) (i : Int) : Int := if MayD n ts ∧ ¬ Clk n i then 2 else 8

/-- what the walk wants of a block of five cells. -/
theorem five {W : World} {g : Nat} {t : TypeId} {a b c d e : Value} (h : lies.Lies W g t #[a, b, c, d, e]) : W.cell? ⟨g, 0, none⟩ = some a ∧ W.cell? ⟨g, 1, none⟩ = some b ∧ W.cell? ⟨g, 2, none⟩ = some c ∧ W.cell? ⟨g, 3, none⟩ = some d ∧ W.cell? ⟨g, 4, none⟩ = some e ∧ g < W.heap.size :=
  ⟨lies.cell h 0, lies.cell h 1, lies.cell h 2, lies.cell h 3, lies.cell h 4, lies.lt h⟩

theorem row_two {W : World} {g : Nat} {t : TypeId} {i : Nat} {x y : Int} (h : lies.Lies W g t #[.int .i64 0, .int .i64 (i : Int), .int .i64 x, .int .i64 (i : Int), .int .i64 0, .int .i64 y]) : RowM W g 0 [(0, i, x), (i, 0, y)] := fun k hk => by
  have : k = 0 ∨ k = 1 := by have : k < 2 := hk; omega
  rcases this with rfl | rfl
  · exact ⟨lies.cell h 0, lies.cell h 1, lies.cell h 2⟩
  · exact ⟨lies.cell h 3, lies.cell h 4, lies.cell h 5⟩
theorem two_in {n i : Nat} {x y : Int} (h0 : 0 < n) (hi : i < n) (k : Nat) (hk : k < 2) : (mo [(0, i, x), (i, 0, y)] k).1 < n ∧ (mo [(0, i, x), (i, 0, y)] k).2.1 < n := by
  have : k = 0 ∨ k = 1 := by omega
  rcases this with rfl | rfl
  · exact ⟨h0, hi⟩
  · exact ⟨hi, h0⟩
end Go.Proofs.Ytikjkmhnimpbhaa.tight
