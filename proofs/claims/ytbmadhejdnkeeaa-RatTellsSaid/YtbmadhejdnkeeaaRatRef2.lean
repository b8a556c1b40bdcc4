/-
  What the document's own answers of layer 3 are (rallentandoref03: Compared, Cmp, Floor, Kept, Keeps); each theorem names its conditions.
-/
import Derived.Test.YtbmadhejdnkeeaaRatRef
import Derived.Test.YtbmadhejdnkeeaaRatCmp
import Derived.Test.YtbmadhejdnkeeaaBoundRef
namespace Go.Proofs.Ytbmadhejdnkeeaa.rref
open Go.ChangeShapes Go.WideShapes Go.ChangeAt Go.RowKit rmath bound num rat
set_option linter.unusedVariables false

theorem part_mul {a b d : Int} (b1 : 1 ≤ b) (b2 : b ≤ 1048576) (d1 : 1 ≤ d) (d2 : d ≤ 1048576) : 0 ≤ a % b * d ∧ a % b * d < b * d ∧ a % b * d ≤ 1099511627776 := by
  obtain ⟨_, p, q⟩ := div_mul a b b1
  have x := Int.mul_nonneg p (show 0 ≤ d by omega)
  have y := Int.mul_lt_mul_of_pos_right q (show 0 < d by omega)
  obtain ⟨_, z⟩ := dens_in b1 b2 d1 d2
  omega
/-- how the whole numbers below and what is left over compare. -/
theorem cross (a b c d : Int) (b1 : 1 ≤ b) (d1 : 1 ≤ d) : a * d - c * b = (a / b - c / d) * (b * d) + (a % b * d - c % d * b) := by
  obtain ⟨x, _, _⟩ := div_mul a b b1
  obtain ⟨y, _, _⟩ := div_mul c d d1
  have e1 : a * d = a / b * b * d + a % b * d := by rw [← Int.add_mul, x]
  have e2 : c * b = c / d * d * b + c % d * b := by rw [← Int.add_mul, y]
  have e3 : (a / b - c / d) * (b * d) = a / b * b * d - c / d * d * b := by rw [Int.sub_mul]; congr 1 <;> ac_rfl
  rw [e1, e2, e3]
  omega
theorem cross_lt {a b c d : Int} (b1 : 1 ≤ b) (b2 : b ≤ 1048576) (d1 : 1 ≤ d) (d2 : d ≤ 1048576) (k : Int) (h : a / b - c / d < k) : a * d - c * b < k * (b * d) := by
  have e := cross a b c d b1 d1
  obtain ⟨p1, p2, p3⟩ := part_mul (a := a) b1 b2 d1 d2
  obtain ⟨q1, q2, q3⟩ := part_mul (a := c) d1 d2 b1 b2
  have m := Int.mul_le_mul_of_nonneg_right (show a / b - c / d ≤ k - 1 by omega) (show 0 ≤ b * d by omega)
  rw [Int.sub_mul k 1, Int.one_mul] at m
  omega
theorem cross_gt {a b c d : Int} (b1 : 1 ≤ b) (b2 : b ≤ 1048576) (d1 : 1 ≤ d) (d2 : d ≤ 1048576) (k : Int) (h : k < a / b - c / d) : k * (b * d) < a * d - c * b := by
  have e := cross a b c d b1 d1
  obtain ⟨p1, p2, p3⟩ := part_mul (a := a) b1 b2 d1 d2
  obtain ⟨q1, q2, q3⟩ := part_mul (a := c) d1 d2 b1 b2
  have m := Int.mul_le_mul_of_nonneg_right (show k + 1 ≤ a / b - c / d by omega) (show 0 ≤ b * d by omega)
  rw [Int.add_mul k 1, Int.one_mul] at m
  have z : c % d * b < b * d := by rw [Int.mul_comm b d]; exact q2
  omega

set_option maxHeartbeats 2000000 in
theorem compared_k (a b c d x y r : Int) (w : World) (a1 : -9223372036854775808 ≤ a) (a2 : a ≤ 9223372036854775807) (c1 : -9223372036854775808 ≤ c) (c2 : c ≤ 9223372036854775807) (b1 : 1 ≤ b) (b2 : b ≤ 1048576) (d1 : 1 ≤ d) (d2 : d ≤ 1048576) (x0 : 0 ≤ x) (x1 : x ≤ 1099511627776) (y0 : 0 ≤ y) (y1 : y ≤ 1099511627776) (ex : RowKit.Hid (a % b * d = x)) (ey : RowKit.Hid (c % d * b = y))
    (hr : (a / b < c / d ∧ r = -1) ∨ (c / d < a / b ∧ r = 1) ∨ (RowKit.Hid (a / b = c / d) ∧ ((x < y ∧ r = -1) ∨ (y < x ∧ r = 1) ∨ (x = y ∧ r = 0)))) :
    Calls Try.prog 41 #[.agg #[.int .i64 (a), .int .i64 (b)], .agg #[.int .i64 (c), .int .i64 (d)]] w fun e w' => e = .returned (.int .i64 r) ∧ Below w.heap.size w w' := by
  obtain ⟨_, p1, p2⟩ := div_mul a b b1
  obtain ⟨_, q1, q2⟩ := div_mul c d d1
  have A := lies.on_alloc (lies.made w 23 #[.int .i64 a, .int .i64 b]) (.cells #[.int .i64 c, .int .i64 d] 23)
  have C := lies.made (w.alloc (.cells #[.int .i64 a, .int .i64 b] 23)) 23 #[.int .i64 c, .int .i64 d]
  rw [World.size_alloc] at C
  have hB := up2 w (.cells #[.int .i64 a, .int .i64 b] 23) (.cells #[.int .i64 c, .int .i64 d] 23)
  rcases hr with ⟨t1, rfl⟩ | ⟨t1, rfl⟩ | ⟨t1, hr⟩
  · have t2 : ((a / b) == (c / d)) = false := by simp; omega
    go_enter Try.func41, Try.ntmps41
    go_wp2_with (go_at_call 44; refine (low_any _ _ _ (by omega) (by omega) (by omega) (by omega)).mono ?_; rintro e w' ⟨rfl, rfl⟩)
    go_ret
    exact ⟨rfl, hB⟩
  · have t2 : ((a / b) == (c / d)) = false := by simp; omega
    have t3 : ¬ a / b < c / d := by omega
    go_enter Try.func41, Try.ntmps41
    go_wp2_with (go_at_call 44; refine (low_any _ _ _ (by omega) (by omega) (by omega) (by omega)).mono ?_; rintro e w' ⟨rfl, rfl⟩)
    go_ret
    exact ⟨rfl, hB⟩
  · have t2 : ((a / b) == (c / d)) = true := by rw [beq_iff_eq]; exact t1.out
    have e1 : IntKind.i64.wrap (a % b * d) = x := by rw [ex.out]; exact IntWalk.i64_in _ (by omega)
    have e2 : IntKind.i64.wrap (c % d * b) = y := by rw [ey.out]; exact IntWalk.i64_in _ (by omega)
    go_enter Try.func41, Try.ntmps41
    go_wp2_with (go_at_call 44; refine (low_any _ _ _ (by omega) (by omega) (by omega) (by omega)).mono ?_; rintro e w' ⟨rfl, rfl⟩)
    go_region_held3 (fun W => W.cell? ⟨w.heap.size, 0, none⟩ = some (.int .i64 a) ∧ W.cell? ⟨w.heap.size, 1, none⟩ = some (.int .i64 b) ∧ W.cell? ⟨w.heap.size + 1, 0, none⟩ = some (.int .i64 c) ∧ W.cell? ⟨w.heap.size + 1, 1, none⟩ = some (.int .i64 d)) ((refine lies.four (t := 23) (s := 23) ?_ ?_ <;> repeat (first | with_reducible exact A | with_reducible exact C | with_reducible refine lies.on_drew ?_ | with_reducible refine lies.on_draw ?_ _)))
      (first | (go_at_call 42; refine (part_any _ _ _ (by omega) (by omega) (by omega) (by omega)).mono ?_; rintro e w' ⟨rfl, rfl⟩))
    go_wp2_with fail
    go_region_held3 (fun W => W.cell? ⟨w.heap.size, 0, none⟩ = some (.int .i64 a) ∧ W.cell? ⟨w.heap.size, 1, none⟩ = some (.int .i64 b) ∧ W.cell? ⟨w.heap.size + 1, 0, none⟩ = some (.int .i64 c) ∧ W.cell? ⟨w.heap.size + 1, 1, none⟩ = some (.int .i64 d)) ((refine lies.four (t := 23) (s := 23) ?_ ?_ <;> repeat (first | with_reducible exact A | with_reducible exact C | with_reducible refine lies.on_drew ?_ | with_reducible refine lies.on_draw ?_ _)))
      (first | (go_at_call 42; refine (part_any _ _ _ (by omega) (by omega) (by omega) (by omega)).mono ?_; rintro e w' ⟨rfl, rfl⟩))
    rcases hr with ⟨t3, rfl⟩ | ⟨t3, rfl⟩ | ⟨rfl, rfl⟩
    · go_wp2_with fail
      go_ret
      exact ⟨rfl, by first | exact drawn hB _ | exact lies.frame_drew (lies.frame_drew hB)⟩
    · have t4 : ¬ x < y := by omega
      go_wp2_with fail
      go_ret
      exact ⟨rfl, by first | exact drawn hB _ | exact lies.frame_drew (lies.frame_drew hB)⟩
    · go_wp2_with fail
      go_ret
      exact ⟨rfl, by first | exact drawn hB _ | exact lies.frame_drew (lies.frame_drew hB)⟩
end Go.Proofs.Ytbmadhejdnkeeaa.rref
