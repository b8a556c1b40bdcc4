/-
  What the document's own answers of layer 3 are (rallentandoref03: Cmp, Floor, Kept, Keeps); each theorem names its conditions.
-/
import Derived.Test.YtbmadhejdnkeeaaRatRef2
namespace Go.Proofs.Ytbmadhejdnkeeaa.rref
open Go.ChangeShapes Go.WideShapes Go.ChangeAt Go.RowKit rmath bound num rat
set_option linter.unusedVariables false

theorem compared_any (a b c d : Int) (w : World) (a1 : -9223372036854775808 ≤ a) (a2 : a ≤ 9223372036854775807) (c1 : -9223372036854775808 ≤ c) (c2 : c ≤ 9223372036854775807) (h : Both a b c d) :
    Calls Try.prog 41 #[.agg #[.int .i64 (a), .int .i64 (b)], .agg #[.int .i64 (c), .int .i64 (d)]] w fun e w' => e = .returned (.int .i64 (cmp0 (a * d) (c * b))) ∧ Below w.heap.size w w' := by
  obtain ⟨⟨b1, b2, _⟩, ⟨d1, d2, _⟩⟩ := h
  obtain ⟨p1, p2, p3⟩ := part_mul (a := a) b1 b2 d1 d2
  obtain ⟨q1, q2, q3⟩ := part_mul (a := c) d1 d2 b1 b2
  refine compared_k a b c d _ _ _ w a1 a2 c1 c2 b1 b2 d1 d2 p1 p3 q1 q3 (Lib.hid rfl) (Lib.hid rfl) ?_
  by_cases t1 : a / b < c / d
  · have k := cross_lt b1 b2 d1 d2 0 (show a / b - c / d < 0 by omega)
    rw [Int.zero_mul] at k
    exact .inl ⟨t1, by unfold cmp0; rw [if_neg (by omega), if_pos (by omega)]⟩
  · by_cases t2 : c / d < a / b
    · have k := cross_gt b1 b2 d1 d2 0 (show 0 < a / b - c / d by omega)
      rw [Int.zero_mul] at k
      exact .inr (.inl ⟨t2, by unfold cmp0; rw [if_pos (by omega)]⟩)
    · have t3 : a / b = c / d := by omega
      have k := cross a b c d b1 d1
      rw [show a / b - c / d = 0 by omega, Int.zero_mul] at k
      refine .inr (.inr ⟨Lib.hid t3, ?_⟩)
      rcases cmp0_cases (a * d) (c * b) with ⟨z, r⟩ | ⟨z, r⟩ | ⟨z, r⟩
      · exact .inr (.inl ⟨by omega, r⟩)
      · exact .inl ⟨by omega, r⟩
      · exact .inr (.inr ⟨by omega, r⟩)

set_option maxHeartbeats 1000000 in
theorem cmp_k (a b c d r v e0 : Int) (m n : Bool) (w : World)
    (c1 : RowKit.Hid (law.Says 40 #[.agg #[.int .i64 (a), .int .i64 (b)]] (.bool m)))
    (c2 : RowKit.Hid (law.Says 40 #[.agg #[.int .i64 (c), .int .i64 (d)]] (.bool n)))
    (c3 : RowKit.Hid (m = true → n = true → law.Says 41 #[.agg #[.int .i64 (a), .int .i64 (b)], .agg #[.int .i64 (c), .int .i64 (d)]] (.int .i64 r)))
    (h : (m = false ∧ v = 0 ∧ e0 = 8) ∨ (m = true ∧ n = false ∧ v = 0 ∧ e0 = 8) ∨ (m = true ∧ n = true ∧ v = r ∧ e0 = 0)) :
    Calls Try.prog 17 #[.agg #[.int .i64 (a), .int .i64 (b)], .agg #[.int .i64 (c), .int .i64 (d)]] w fun e w' => e = .returned (.tuple #[.int .i64 v, .int .i64 e0]) ∧ Below w.heap.size w w' := by
  have A := lies.on_alloc (lies.made w 23 #[.int .i64 a, .int .i64 b]) (.cells #[.int .i64 c, .int .i64 d] 23)
  have C := lies.made (w.alloc (.cells #[.int .i64 a, .int .i64 b] 23)) 23 #[.int .i64 c, .int .i64 d]
  rw [World.size_alloc] at C
  have hB := up2 w (.cells #[.int .i64 a, .int .i64 b] 23) (.cells #[.int .i64 c, .int .i64 d] 23)
  rcases h with ⟨rfl, rfl, rfl⟩ | ⟨rfl, rfl, rfl, rfl⟩ | ⟨rfl, rfl, rfl, rfl⟩
  all_goals (try (have c3' := Lib.hid (c3.out rfl rfl)))
  all_goals clear c3
  all_goals
    go_enter Try.func17, Try.ntmps17
    go_wp2_with (first
      | ((with_reducible refine (said c1 _).mono ?_); rintro e w1 ⟨rfl, hN⟩; (replace hB := later hB hN); (replace A := lies.on_call A hN); (replace C := lies.on_call C hN); clear hN; obtain ⟨A0, A1, A2, A3, A4⟩ := lies.two A; obtain ⟨C0, C1, C2, C3, C4⟩ := lies.two C)
      | ((with_reducible refine (said c2 _).mono ?_); rintro e w2 ⟨rfl, hN⟩; (replace hB := later hB hN); (replace A := lies.on_call A hN); (replace C := lies.on_call C hN); clear hN; obtain ⟨A0, A1, A2, A3, A4⟩ := lies.two A; obtain ⟨C0, C1, C2, C3, C4⟩ := lies.two C)
      | ((with_reducible refine (said c3' _).mono ?_); rintro e w3 ⟨rfl, hN⟩; (replace hB := later hB hN); (replace A := lies.on_call A hN); (replace C := lies.on_call C hN); clear hN; obtain ⟨A0, A1, A2, A3, A4⟩ := lies.two A; obtain ⟨C0, C1, C2, C3, C4⟩ := lies.two C))
    go_ret2
    exact ⟨rfl, hB⟩
theorem cmp_any (a b c d : Int) (w : World) (a1 : -9223372036854775808 ≤ a) (a2 : a ≤ 9223372036854775807) (c1 : -9223372036854775808 ≤ c) (c2 : c ≤ 9223372036854775807) :
    Calls Try.prog 17 #[.agg #[.int .i64 (a), .int .i64 (b)], .agg #[.int .i64 (c), .int .i64 (d)]] w fun e w' => e = .returned (.tuple #[.int .i64 (cmpV a b c d), .int .i64 (cmpE a b c d)]) ∧ Below w.heap.size w w' := by
  refine cmp_k a b c d (cmp0 (a * d) (c * b)) _ _ (mayB a b) (mayB c d) w (Lib.hid (fun w => may_any a b w a1 a2)) (Lib.hid (fun w => may_any c d w c1 c2)) (Lib.hid (fun z1 z2 w => compared_any a b c d w a1 a2 c1 c2 ⟨of_decide_eq_true z1, of_decide_eq_true z2⟩)) ?_
  by_cases p : MayR a b
  · by_cases q : MayR c d
    · obtain ⟨x, y⟩ := cmpV_is (show Both a b c d from ⟨p, q⟩)
      exact .inr (.inr ⟨mayB_yes p, mayB_yes q, x, y⟩)
    · obtain ⟨x, y⟩ := cmpV_not (fun k : Both a b c d => q k.2)
      exact .inr (.inl ⟨mayB_yes p, mayB_no q, x, y⟩)
  · obtain ⟨x, y⟩ := cmpV_not (fun k : Both a b c d => p k.1)
    exact .inl ⟨mayB_no p, x, y⟩

set_option maxHeartbeats 1000000 in
theorem floor_k (n d : Int) (u : Bool) (w : World) (n1 : -9223372036854775808 ≤ n) (n2 : n ≤ 9223372036854775807) (h : 1 ≤ d) (h' : d ≤ 1048576) (hu : (d == 1) = u)
    (c1 : RowKit.Hid (law.Says 40 #[.agg #[.int .i64 (n), .int .i64 (d)]] (.bool true))) :
    Calls Try.prog 22 #[.agg #[.int .i64 (n), .int .i64 (d)]] w fun e w' => e = .returned (.tuple #[.int .i64 (n / d), .bool u, .int .i64 0]) ∧ Below w.heap.size w w' := by
  have A := lies.made w 23 #[.int .i64 n, .int .i64 d]
  have hB := up1 w (.cells #[.int .i64 n, .int .i64 d] 23)
  go_enter Try.func22, Try.ntmps22
  go_wp2_with ((with_reducible refine (said c1 _).mono ?_); rintro e w1 ⟨rfl, hN⟩; (replace hB := later hB hN); (replace A := lies.on_call A hN); clear hN; obtain ⟨A0, A1, A2, A3, A4⟩ := lies.two A)
  go_region_held3 (fun W => W.cell? ⟨w.heap.size, 0, none⟩ = some (.int .i64 n) ∧ W.cell? ⟨w.heap.size, 1, none⟩ = some (.int .i64 d)) ((refine lies.pair (t := 23) ?_ <;> repeat (first | with_reducible exact A | with_reducible refine lies.on_drew ?_)))
    (first | (go_at_call 44; refine (low_any _ _ _ (by omega) (by omega) (by omega) (by omega)).mono ?_; rintro e w' ⟨rfl, rfl⟩))
  all_goals
    go_wp2_with fail
    exact bodyPost_ret (v := .tuple #[.int .i64 (n / d), .bool u, .int .i64 0]) (by simp [results, Try.results22, go_sem]) rfl ⟨rfl, lies.frame_drew hB⟩
theorem floor_no (n d : Int) (w : World)
    (c1 : RowKit.Hid (law.Says 40 #[.agg #[.int .i64 (n), .int .i64 (d)]] (.bool false))) :
    Calls Try.prog 22 #[.agg #[.int .i64 (n), .int .i64 (d)]] w fun e w' => e = .returned (.tuple #[.int .i64 0, .bool false, .int .i64 8]) ∧ Below w.heap.size w w' := by
  have A := lies.made w 23 #[.int .i64 n, .int .i64 d]
  have hB := up1 w (.cells #[.int .i64 n, .int .i64 d] 23)
  go_enter Try.func22, Try.ntmps22
  go_wp2_with ((with_reducible refine (said c1 _).mono ?_); rintro e w1 ⟨rfl, hN⟩; (replace hB := later hB hN); (replace A := lies.on_call A hN); clear hN; obtain ⟨A0, A1, A2, A3, A4⟩ := lies.two A)
  exact bodyPost_ret (v := .tuple #[.int .i64 0, .bool false, .int .i64 8]) (by simp [results, Try.results22, go_sem]) rfl ⟨rfl, hB⟩
theorem floor_any (n d : Int) (w : World) (n1 : -9223372036854775808 ≤ n) (n2 : n ≤ 9223372036854775807) :
    Calls Try.prog 22 #[.agg #[.int .i64 (n), .int .i64 (d)]] w fun e w' => e = .returned (.tuple #[.int .i64 (flN n d), .bool (flW n d), .int .i64 (rchk n d)]) ∧ Below w.heap.size w w' := by
  have cM : RowKit.Hid (law.Says 40 #[.agg #[.int .i64 (n), .int .i64 (d)]] (.bool (mayB n d))) := Lib.hid (fun w => may_any n d w n1 n2)
  unfold flN flW rchk
  by_cases h : MayR n d
  · rw [mayB_yes h] at cM
    rw [if_pos h, if_pos h, if_pos h]
    refine floor_k n d _ w n1 n2 h.1 h.2.1 ?_ cM
    unfold wholeB
    rw [Bool.eq_iff_iff, beq_iff_eq, decide_eq_true_iff, whole_iff h]
  · rw [mayB_no h] at cM
    rw [if_neg h, if_neg h, if_neg h]
    exact floor_no n d w cM

theorem kept_none (a b c d : Int) (w : World) :
    Calls Try.prog 46 #[.agg #[.int .i64 (a), .int .i64 (b)], .agg #[.int .i64 (c), .int .i64 (d)], .int .i64 9223372036854775807] w fun e w' => e = .returned (.bool true) ∧ Below w.heap.size w w' := by
  go_enter Try.func46, Try.ntmps46
  go_wp2
  go_ret
  exact ⟨rfl, up2 _ _ _⟩
end Go.Proofs.Ytbmadhejdnkeeaa.rref
