/-
  The chapter's first examples of package bound, which layer 2's laws begin with; no conditions.
-/
import Derived.Test.YtihblpedmfohaaaBoundMath
namespace Go.Proofs.Ytihblpedmfohaaa.bound
open Go.ChangeShapes Go.WideShapes Go.ChangeAt Go.RowKit num
set_option linter.unusedVariables false

theorem b_most3 (w : World) : Calls Try.prog 13 #[.int .i64 3] w fun e w' => e = .returned (.tuple #[.int .i64 7, .int .i64 0]) ∧ Below w.heap.size w w' :=
  most_ok 3 w (by unfold May; omega)
theorem b_less3 (w : World) : Calls Try.prog 8 #[.int .i64 3] w fun e w' => e = .returned (.tuple #[.int .i64 6, .int .i64 0]) ∧ Below w.heap.size w w' :=
  less_ok 3 w (by unfold May; omega)
theorem b_most1 (w : World) : Calls Try.prog 13 #[.int .i64 (-1)] w fun e w' => e = .returned (.tuple #[.int .i64 (-1), .int .i64 0]) ∧ Below w.heap.size w w' :=
  most_ok (-1) w (by unfold May; omega)

theorem b_alive (w : World) :
    Calls Try.prog 12 #[] w fun e w' => e = .returned (.bool true) ∧ Below w.heap.size w w' := by
  have hB := Below.refl w.heap.size w
  go_enter Try.func12, Try.ntmps12
  go_wp2_with (first | ((with_reducible refine (law.onto hB (b_most3 _)).mono ?_); clear hB; rintro e w' ⟨rfl, hB⟩) | ((with_reducible refine (law.onto hB (b_less3 _)).mono ?_); clear hB; rintro e w' ⟨rfl, hB⟩) | ((with_reducible refine (law.onto hB (b_most1 _)).mono ?_); clear hB; rintro e w' ⟨rfl, hB⟩))
  go_ret
  exact ⟨rfl, hB⟩
end Go.Proofs.Ytihblpedmfohaaa.bound
