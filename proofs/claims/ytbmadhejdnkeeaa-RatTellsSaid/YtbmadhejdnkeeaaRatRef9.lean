/-
  What the document's own answers for sums and middles are (rallentandoref03: Add, Mid), at every two fractions; the conditions: the numbers are ints.
-/
import Derived.Test.YtbmadhejdnkeeaaRatRef8
namespace Go.Proofs.Ytbmadhejdnkeeaa.rref
open Go.ChangeShapes Go.WideShapes Go.ChangeAt Go.RowKit rmath bound num rat
set_option linter.unusedVariables false

theorem sum_parts (a b c d : Int) (b1 : 1 ≤ b) (d1 : 1 ≤ d) : (a / b + c / d) * (b * d) + (a % b * d + c % d * b) = a * d + c * b := by
  obtain ⟨x, _, _⟩ := div_mul a b b1
  obtain ⟨y, _, _⟩ := div_mul c d d1
  have e1 : a * d = a / b * b * d + a % b * d := by rw [← Int.add_mul, x]
  have e2 : c * b = c / d * d * b + c % d * b := by rw [← Int.add_mul, y]
  have e3 : (a / b + c / d) * (b * d) = a / b * b * d + c / d * d * b := by rw [Int.add_mul]; congr 1 <;> ac_rfl
  rw [e1, e2, e3]
  omega
/-- what is answered of a number told otherwise. -/
theorem low_told {V D V' D' : Int} (e : V = V') (f : D = D') : (lowOk V D ∧ lowN V' D' = lowP V D ∧ lowD V' D' = lowQ V D ∧ lowE V' D' = 0) ∨ (¬ lowOk V D ∧ lowN V' D' = 0 ∧ lowD V' D' = 0 ∧ lowE V' D' = 10) := by
  subst e f
  by_cases k : lowOk V D
  · exact .inl ⟨k, low_yes k⟩
  · exact .inr ⟨k, low_not k⟩

theorem add_any (a b c d : Int) (w : World) (a1 : -9223372036854775808 ≤ a) (a2 : a ≤ 9223372036854775807) (c1 : -9223372036854775808 ≤ c) (c2 : c ≤ 9223372036854775807) :
    Calls Try.prog 19 #[.agg #[.int .i64 (a), .int .i64 (b)], .agg #[.int .i64 (c), .int .i64 (d)]] w fun e w' => e = .returned (.tuple #[.agg #[.int .i64 (partN 1 a b c d), .int .i64 (partD 1 a b c d)], .int .i64 (partE 1 a b c d)]) ∧ Below w.heap.size w w' := by
  have k1 : RowKit.Hid (law.Says 40 #[.agg #[.int .i64 (a), .int .i64 (b)]] (.bool (mayB a b))) := Lib.hid (fun w => may_any a b w a1 a2)
  have k2 : RowKit.Hid (law.Says 40 #[.agg #[.int .i64 (c), .int .i64 (d)]] (.bool (mayB c d))) := Lib.hid (fun w => may_any c d w c1 c2)
  unfold partN partD partE
  by_cases g : Both a b c d
  · rw [if_pos g, if_pos g, if_pos g]
    rw [mayB_yes g.1] at k1
    rw [mayB_yes g.2] at k2
    obtain ⟨f1, f2⟩ := floor_may g.1
    obtain ⟨f3, f4⟩ := floor_may g.2
    obtain ⟨⟨b1, b2, _⟩, ⟨d1, d2, _⟩⟩ := g
    obtain ⟨p1, p2, p3⟩ := part_mul (a := a) b1 b2 d1 d2
    obtain ⟨q1, q2, q3⟩ := part_mul (a := c) d1 d2 b1 b2
    obtain ⟨B1, B2⟩ := dens_in b1 b2 d1 d2
    have sp := sum_parts a b c d b1 d1
    obtain ⟨t1, t2, t3⟩ := div_mul (a % b * d + c % d * b) (b * d) B1
    have t4 := Int.ediv_nonneg (show 0 ≤ a % b * d + c % d * b by omega) (show 0 ≤ b * d by omega)
    have t5 := Int.ediv_le_self (b * d) (show 0 ≤ a % b * d + c % d * b by omega)
    refine add_k a b c d (b * d) (a % b * d) (c % d * b) (a % b * d + c % d * b) (a / b + c / d) ((a % b * d + c % d * b) / (b * d)) ((a % b * d + c % d * b) % (b * d)) (a / b + c / d + (a % b * d + c % d * b) / (b * d)) _ _ _ w a1 a2 c1 c2 b1 b2 d1 d2 k1 k2 rfl B1 B2 (IntWalk.i64_in _ (by omega)) (IntWalk.i64_in _ (by omega)) (IntWalk.i64_in _ (by omega)) (IntWalk.i64_in _ (by omega)) ?_ (Int.tmod_eq_emod_of_nonneg (by omega)) (IntWalk.i64_in _ (by omega)) (by omega) (by omega) t2 t3 (Lib.hid (low_told ?_ (Int.mul_one _).symm))
    · rw [Int.tdiv_eq_ediv_of_nonneg (by omega)]; exact IntWalk.i64_in _ (by omega)
    · rw [Int.add_mul, Int.add_assoc, t1, sp]
  · rw [if_neg g, if_neg g, if_neg g]
    refine add_no a b c d _ _ w k1 k2 ?_
    by_cases p : MayR a b
    · exact .inr ⟨mayB_yes p, mayB_no (fun q => g ⟨p, q⟩)⟩
    · exact .inl (mayB_no p)
theorem mid_any (a b c d : Int) (w : World) (a1 : -9223372036854775808 ≤ a) (a2 : a ≤ 9223372036854775807) (c1 : -9223372036854775808 ≤ c) (c2 : c ≤ 9223372036854775807) :
    Calls Try.prog 20 #[.agg #[.int .i64 (a), .int .i64 (b)], .agg #[.int .i64 (c), .int .i64 (d)]] w fun e w' => e = .returned (.tuple #[.agg #[.int .i64 (partN 2 a b c d), .int .i64 (partD 2 a b c d)], .int .i64 (partE 2 a b c d)]) ∧ Below w.heap.size w w' := by
  have k1 : RowKit.Hid (law.Says 40 #[.agg #[.int .i64 (a), .int .i64 (b)]] (.bool (mayB a b))) := Lib.hid (fun w => may_any a b w a1 a2)
  have k2 : RowKit.Hid (law.Says 40 #[.agg #[.int .i64 (c), .int .i64 (d)]] (.bool (mayB c d))) := Lib.hid (fun w => may_any c d w c1 c2)
  unfold partN partD partE
  by_cases g : Both a b c d
  · rw [if_pos g, if_pos g, if_pos g]
    rw [mayB_yes g.1] at k1
    rw [mayB_yes g.2] at k2
    obtain ⟨f1, f2⟩ := floor_may g.1
    obtain ⟨f3, f4⟩ := floor_may g.2
    obtain ⟨⟨b1, b2, _⟩, ⟨d1, d2, _⟩⟩ := g
    obtain ⟨p1, p2, p3⟩ := part_mul (a := a) b1 b2 d1 d2
    obtain ⟨q1, q2, q3⟩ := part_mul (a := c) d1 d2 b1 b2
    obtain ⟨B1, B2⟩ := dens_in b1 b2 d1 d2
    have sp := sum_parts a b c d b1 d1
    have h0 : 0 ≤ (a / b + c / d) % 2 * (b * d) := Int.mul_nonneg (by omega) (by omega)
    have h1 : (a / b + c / d) % 2 * (b * d) ≤ 1 * (b * d) := Int.mul_le_mul_of_nonneg_right (by omega) (by omega)
    obtain ⟨t1, t2, t3⟩ := div_mul ((a / b + c / d) % 2 * (b * d) + a % b * d + c % d * b) (2 * (b * d)) (by omega)
    have t4 := Int.ediv_nonneg (show 0 ≤ (a / b + c / d) % 2 * (b * d) + a % b * d + c % d * b by omega) (show 0 ≤ 2 * (b * d) by omega)
    have t5 := Int.ediv_le_self (2 * (b * d)) (show 0 ≤ (a / b + c / d) % 2 * (b * d) + a % b * d + c % d * b by omega)
    refine mid_k a b c d (b * d) (2 * (b * d)) (a % b * d) (c % d * b) ((a / b + c / d) % 2 * (b * d)) ((a / b + c / d) % 2 * (b * d) + a % b * d) ((a / b + c / d) % 2 * (b * d) + a % b * d + c % d * b) (a / b + c / d) (((a / b + c / d) % 2 * (b * d) + a % b * d + c % d * b) / (2 * (b * d))) (((a / b + c / d) % 2 * (b * d) + a % b * d + c % d * b) % (2 * (b * d))) ((a / b + c / d) / 2 + ((a / b + c / d) % 2 * (b * d) + a % b * d + c % d * b) / (2 * (b * d))) _ _ _ w a1 a2 c1 c2 b1 b2 d1 d2 k1 k2 rfl B1 B2 (IntWalk.i64_in _ (by omega)) (by omega) (by omega) (IntWalk.i64_in _ (by omega)) (IntWalk.i64_in _ (by omega)) (IntWalk.i64_in _ (by omega)) (IntWalk.i64_in _ (by omega)) (IntWalk.i64_in _ (by omega)) (IntWalk.i64_in _ (by omega)) (by omega) (by omega) ?_ (Int.tmod_eq_emod_of_nonneg (by omega)) (IntWalk.i64_in _ (by omega)) (by omega) (by omega) t2 t3 (Lib.hid (low_told ?_ (Int.mul_comm _ _)))
    · rw [Int.tdiv_eq_ediv_of_nonneg (by omega)]; exact IntWalk.i64_in _ (by omega)
    · rw [Int.add_mul, Int.add_assoc, t1, ← sp]
      have e1 : (a / b + c / d) / 2 * (2 * (b * d)) + (a / b + c / d) % 2 * (b * d) = (a / b + c / d) * (b * d) := by
        rw [← Int.mul_assoc, ← Int.add_mul]
        congr 1
        omega
      generalize (a / b + c / d) / 2 * (2 * (b * d)) = M1 at *
      generalize (a / b + c / d) % 2 * (b * d) = M2 at *
      generalize (a / b + c / d) * (b * d) = M3 at *
      omega
  · rw [if_neg g, if_neg g, if_neg g]
    refine mid_no a b c d _ _ w k1 k2 ?_
    by_cases p : MayR a b
    · exact .inr ⟨mayB_yes p, mayB_no (fun q => g ⟨p, q⟩)⟩
    · exact .inl (mayB_no p)
end Go.Proofs.Ytbmadhejdnkeeaa.rref
