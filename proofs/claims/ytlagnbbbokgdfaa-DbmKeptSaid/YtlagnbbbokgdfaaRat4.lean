/-
  What Add and Mid of package rat answer (and part, which both stand on), for every two fractions; each theorem names its conditions.
-/
import Derived.Test.YtlagnbbbokgdfaaRat3
import Derived.Deep.RegionHeld3
import Derived.Deep.DeepCutAuto
namespace Go.Proofs.Ytlagnbbbokgdfaa.rat
open Go.ChangeShapes Go.WideShapes Go.ChangeAt Go.RowKit rmath bound num
set_option linter.unusedVariables false

theorem may_fits {a b d : Int} (h : MayR a b) (d1 : 1 ≤ d) (d2 : d ≤ 1048576) : Fits (a * d) ∧ -2535301200456458802993406410752 ≤ a * d ∧ a * d ≤ 2535301200456458802993406410752 := by
  obtain ⟨h1, h2, h3, h4, _⟩ := h
  have x1 : -2417851639229258349412352 ≤ a := by omega
  have x2 : a ≤ 2417851639229258349412352 := by omega
  have y1 := Int.mul_le_mul_of_nonneg_right x1 (show 0 ≤ d by omega)
  have y2 := Int.mul_le_mul_of_nonneg_right x2 (show 0 ≤ d by omega)
  unfold Fits
  omega
theorem dens_in {b d : Int} (b1 : 1 ≤ b) (b2 : b ≤ 1048576) (d1 : 1 ≤ d) (d2 : d ≤ 1048576) : 1 ≤ b * d ∧ b * d ≤ 1099511627776 := by
  have y1 := Int.mul_le_mul_of_nonneg_right b1 (show 0 ≤ d by omega)
  have y2 := Int.mul_le_mul_of_nonneg_right b2 (show 0 ≤ d by omega)
  omega

/-- what Add (k = 1) and Mid (k = 2) answer. -/
def partN (k a b c d : Int) : Int := if Both a b c d then lowN (a * d + c * b) (b * d * k) else 0
def partD (k a b c d : Int) : Int := if Both a b c d then lowD (a * d + c * b) (b * d * k) else 0
def partE (k a b c d : Int) : Int := if Both a b c d then lowE (a * d + c * b) (b * d * k) else 8
end Go.Proofs.Ytlagnbbbokgdfaa.rat
