/-
  The arithmetic under package rat: a division of two words by one, in halves; no program's run in this text; each theorem names its conditions.
-/
import Derived.Test.YtlagnbbbokgdfaaRows
namespace Go.Proofs.Ytlagnbbbokgdfaa.rmath
set_option linter.unusedVariables false

/-- a step of the division by halves: a guess of the quotient that is too great by one at least. -/
theorem kn_more {U Y l q r y1 y0 : Int} (hY : Y = y1 * 4294967296 + y0) (hp : 0 < Y) (inv : q * y1 + r = U) (h : 4294967296 * r + l < q * y0) : (U * 4294967296 + l) / Y ≤ q - 1 := by
  have e : q * Y = q * y1 * 4294967296 + q * y0 := by rw [hY, Int.mul_add, Int.mul_assoc]
  have k : U * 4294967296 + l < q * Y := by rw [e]; generalize q * y1 = A at *; generalize q * y0 = C at *; omega
  have := Int.ediv_lt_of_lt_mul hp k
  omega
/-- a guess that is not too great. -/
theorem kn_most {U Y l q r y1 y0 : Int} (hY : Y = y1 * 4294967296 + y0) (hp : 0 < Y) (inv : q * y1 + r = U) (h : q * y0 ≤ 4294967296 * r + l) : q ≤ (U * 4294967296 + l) / Y := by
  have e : q * Y = q * y1 * 4294967296 + q * y0 := by rw [hY, Int.mul_add, Int.mul_assoc]
  refine Int.le_ediv_of_mul_le hp ?_
  rw [e]; generalize q * y1 = A at *; generalize q * y0 = C at *; omega
theorem kn_big {U Y l : Int} (hp : 0 < Y) (hU : U < Y) (hl : l < 4294967296) : (U * 4294967296 + l) / Y < 4294967296 := by
  refine Int.ediv_lt_of_lt_mul hp ?_
  omega
theorem kn_pos {U Y l : Int} (hp : 0 < Y) (hU : 0 ≤ U) (hl : 0 ≤ l) : 0 ≤ (U * 4294967296 + l) / Y := Int.ediv_nonneg (by omega) (by omega)
/-- the first guess. -/
theorem kn_first {U Y l y1 y0 : Int} (hY : Y = y1 * 4294967296 + y0) (h1 : 2147483648 ≤ y1) (h0 : 0 ≤ y0) (h0' : y0 < 4294967296) (hU0 : 0 ≤ U) (hU : U < Y) (hl : l < 4294967296) :
    U / y1 * y1 + (U - U / y1 * y1) = U ∧ 0 ≤ U - U / y1 * y1 ∧ U - U / y1 * y1 < y1 ∧ (U * 4294967296 + l) / Y ≤ U / y1 ∧ 0 ≤ U / y1 ∧ U / y1 ≤ 4294967297 := by
  have hp : 0 < Y := by omega
  have a := Int.mul_ediv_add_emod U y1
  have b := Int.emod_nonneg U (show y1 ≠ 0 by omega)
  have c := Int.emod_lt_of_pos U (show 0 < y1 by omega)
  rw [Int.mul_comm] at a
  have q0 : 0 ≤ U / y1 := Int.ediv_nonneg hU0 (by omega)
  refine ⟨by omega, by omega, by omega, ?_, q0, ?_⟩
  · have e : (U / y1 + 1) * Y = U / y1 * y1 * 4294967296 + y1 * 4294967296 + (U / y1 + 1) * y0 := by
      have e1 : (U / y1 + 1) * Y = (U / y1 + 1) * y1 * 4294967296 + (U / y1 + 1) * y0 := by rw [hY, Int.mul_add, Int.mul_assoc]
      rw [e1, Int.add_mul (U / y1) 1 y1, Int.one_mul, Int.add_mul]
    have z : 0 ≤ (U / y1 + 1) * y0 := Int.mul_nonneg (by omega) h0
    have k : U * 4294967296 + l < (U / y1 + 1) * Y := by rw [e]; omega
    have := Int.ediv_lt_of_lt_mul hp k
    omega
  · have k : U < 4294967298 * y1 := by omega
    have := Int.ediv_lt_of_lt_mul (show 0 < y1 by omega) k
    omega
/-- behind the last step back the guess is the quotient. -/
theorem kn_exit {U Y l q r y1 y0 : Int} (hY : Y = y1 * 4294967296 + y0) (hp : 0 < Y) (inv : q * y1 + r = U) (hq : 0 ≤ q) (hq2 : q ≤ 4294967296) (h0 : 0 ≤ y0) (h0' : y0 < 4294967296) (hr : 4294967296 ≤ r) (hl : 0 ≤ l) (hQ : (U * 4294967296 + l) / Y ≤ q) : q = (U * 4294967296 + l) / Y := by
  have k : q * y0 ≤ 4294967296 * 4294967296 := Int.mul_le_mul hq2 (by omega) h0 (by omega)
  have := kn_most hY hp inv (l := l) (by omega)
  omega
/-- what is left, in words that wrap. -/
theorem kn_left {U Y l : Int} (hp : 0 < Y) (hY : Y ≤ 18446744073709551616) :
    ((U * 4294967296 % 18446744073709551616 + l) % 18446744073709551616 - (U * 4294967296 + l) / Y * Y % 18446744073709551616) % 18446744073709551616 = (U * 4294967296 + l) % Y := by
  have a := Int.mul_ediv_add_emod (U * 4294967296 + l) Y
  have b := Int.emod_nonneg (U * 4294967296 + l) (show Y ≠ 0 by omega)
  have c := Int.emod_lt_of_pos (U * 4294967296 + l) hp
  rw [Int.mul_comm] at a
  generalize (U * 4294967296 + l) / Y * Y = M at *
  generalize (U * 4294967296 + l) % Y = R at *
  omega
/-- both steps are the division. -/
theorem kn_both {U Y l1 l0 : Int} (hp : 0 < Y) :
    (U * 4294967296 + l1) / Y * 4294967296 + ((U * 4294967296 + l1) % Y * 4294967296 + l0) / Y = (U * 18446744073709551616 + (l1 * 4294967296 + l0)) / Y ∧
    ((U * 4294967296 + l1) % Y * 4294967296 + l0) % Y = (U * 18446744073709551616 + (l1 * 4294967296 + l0)) % Y := by
  have a := Int.mul_ediv_add_emod (U * 4294967296 + l1) Y
  have e : U * 18446744073709551616 + (l1 * 4294967296 + l0) = ((U * 4294967296 + l1) % Y * 4294967296 + l0) + Y * ((U * 4294967296 + l1) / Y * 4294967296) := by
    have : Y * ((U * 4294967296 + l1) / Y * 4294967296) = Y * ((U * 4294967296 + l1) / Y) * 4294967296 := by rw [Int.mul_assoc]
    rw [this]
    generalize Y * ((U * 4294967296 + l1) / Y) = M at *
    omega
  rw [e, Int.add_mul_ediv_left _ _ (by omega), Int.add_mul_emod_self_left]
  exact ⟨Int.add_comm _ _, rfl⟩
/-- what is moved up by S, both. -/
theorem kn_shift {N y S : Int} (hS : 0 < S) (hy : 0 < y) : N * S / (y * S) = N / y ∧ N * S % (y * S) / S = N % y := by
  refine ⟨Int.mul_ediv_mul_of_pos_left _ _ hS, ?_⟩
  have : N * S % (y * S) = N % y * S := by rw [Int.mul_comm N S, Int.mul_comm y S, Int.mul_emod_mul_of_pos _ _ hS, Int.mul_comm]
  rw [this, Int.mul_ediv_cancel _ (by omega)]
end Go.Proofs.Ytlagnbbbokgdfaa.rmath
