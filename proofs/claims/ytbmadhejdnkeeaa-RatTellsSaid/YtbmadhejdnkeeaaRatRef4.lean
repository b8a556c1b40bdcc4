/-
  What the document's own answers of layer 3 are (rallentandoref03: Kept, Keeps); each theorem names its conditions.
-/
import Derived.Test.YtbmadhejdnkeeaaRatRef3
namespace Go.Proofs.Ytbmadhejdnkeeaa.rref
open Go.ChangeShapes Go.WideShapes Go.ChangeAt Go.RowKit rmath bound num rat
set_option linter.unusedVariables false

theorem strict_k (x : Int) (u : Bool) (w : World) (h : bS x = u) :
    Calls Try.prog 61 #[.int .i64 x] w fun e w' => e = .returned (.bool u) ∧ w = w' := h ▸ strict_any x w

set_option maxHeartbeats 4000000 in
theorem kept_k (a b c d x p q N : Int) (u r : Bool) (w : World) (a1 : -9223372036854775808 ≤ a) (a2 : a ≤ 9223372036854775807) (c1 : -9223372036854775808 ≤ c) (c2 : c ≤ 9223372036854775807) (b1 : 1 ≤ b) (b2 : b ≤ 1048576) (d1 : 1 ≤ d) (d2 : d ≤ 1048576) (x1 : -9223372036854775808 ≤ x) (x2 : x < 9223372036854775807) (N1 : -4611686018427387904 ≤ N) (N2 : N ≤ 4611686018427387904)
    (p0 : 0 ≤ p) (p1 : p ≤ 1099511627776) (q0 : 0 ≤ q) (q1 : q ≤ 1099511627776) (ep : RowKit.Hid (a % b * d = p)) (eq : RowKit.Hid (c % d * b = q)) (eN : RowKit.Hid (a / b - c / d = N)) (hu : RowKit.Hid (bS x = u))
    (hr : (N < x / 2 ∧ r = true) ∨ (x / 2 < N ∧ r = false) ∨ (RowKit.Hid (N = x / 2) ∧ ((p < q ∧ r = true) ∨ (q < p ∧ r = false) ∨ (p = q ∧ r = !u)))) :
    Calls Try.prog 46 #[.agg #[.int .i64 (a), .int .i64 (b)], .agg #[.int .i64 (c), .int .i64 (d)], .int .i64 x] w fun e w' => e = .returned (.bool r) ∧ Below w.heap.size w w' := by
  obtain ⟨_, y1, y2⟩ := div_mul a b b1
  obtain ⟨_, z1, z2⟩ := div_mul c d d1
  have t0 : (x == 9223372036854775807) = false := by simp; omega
  have e0 : IntKind.i64.wrap (a / b - c / d) = N := by rw [eN.out]; exact IntWalk.i64_in _ (by omega)
  have A := lies.on_alloc (lies.made w 23 #[.int .i64 a, .int .i64 b]) (.cells #[.int .i64 c, .int .i64 d] 23)
  have C := lies.made (w.alloc (.cells #[.int .i64 a, .int .i64 b] 23)) 23 #[.int .i64 c, .int .i64 d]
  rw [World.size_alloc] at C
  have hB := up2 w (.cells #[.int .i64 a, .int .i64 b] 23) (.cells #[.int .i64 c, .int .i64 d] 23)
  rcases hr with ⟨t1, rfl⟩ | ⟨t1, rfl⟩ | ⟨t1, hr⟩
  · have t2 : (N != x / 2) = true := by simp; omega
    go_enter Try.func46, Try.ntmps46
    go_wp2_with (go_at_call 60; refine (number_any _ _ (by omega) (by omega)).mono ?_; rintro e w' ⟨rfl, rfl⟩)
    go_region_held3 (fun W => W.cell? ⟨w.heap.size, 0, none⟩ = some (.int .i64 a) ∧ W.cell? ⟨w.heap.size, 1, none⟩ = some (.int .i64 b) ∧ W.cell? ⟨w.heap.size + 1, 0, none⟩ = some (.int .i64 c) ∧ W.cell? ⟨w.heap.size + 1, 1, none⟩ = some (.int .i64 d)) ((refine lies.four (t := 23) (s := 23) ?_ ?_ <;> repeat (first | with_reducible exact A | with_reducible exact C | with_reducible refine lies.on_drew ?_ | with_reducible refine lies.on_draw ?_ _)))
      (first | (go_at_call 44; refine (low_any _ _ _ (by omega) (by omega) (by omega) (by omega)).mono ?_; rintro e w' ⟨rfl, rfl⟩))
    go_wp2_with fail
    go_ret
    exact ⟨rfl, by first | exact drawn hB _ | exact lies.frame_drew hB | exact lies.frame_drew (lies.frame_drew hB) | exact lies.frame_drew (lies.frame_drew (lies.frame_drew hB))⟩
  · have t2 : (N != x / 2) = true := by simp; omega
    have t3 : decide (N < x / 2) = false := by simp; omega
    go_enter Try.func46, Try.ntmps46
    go_wp2_with (go_at_call 60; refine (number_any _ _ (by omega) (by omega)).mono ?_; rintro e w' ⟨rfl, rfl⟩)
    go_region_held3 (fun W => W.cell? ⟨w.heap.size, 0, none⟩ = some (.int .i64 a) ∧ W.cell? ⟨w.heap.size, 1, none⟩ = some (.int .i64 b) ∧ W.cell? ⟨w.heap.size + 1, 0, none⟩ = some (.int .i64 c) ∧ W.cell? ⟨w.heap.size + 1, 1, none⟩ = some (.int .i64 d)) ((refine lies.four (t := 23) (s := 23) ?_ ?_ <;> repeat (first | with_reducible exact A | with_reducible exact C | with_reducible refine lies.on_drew ?_ | with_reducible refine lies.on_draw ?_ _)))
      (first | (go_at_call 44; refine (low_any _ _ _ (by omega) (by omega) (by omega) (by omega)).mono ?_; rintro e w' ⟨rfl, rfl⟩))
    go_wp2_with fail
    go_ret
    exact ⟨rfl, by first | exact drawn hB _ | exact lies.frame_drew hB | exact lies.frame_drew (lies.frame_drew hB) | exact lies.frame_drew (lies.frame_drew (lies.frame_drew hB))⟩
  · have t2 : (N != x / 2) = false := by simp; exact t1.out
    have e1 : IntKind.i64.wrap (a % b * d) = p := by rw [ep.out]; exact IntWalk.i64_in _ (by omega)
    have e2 : IntKind.i64.wrap (c % d * b) = q := by rw [eq.out]; exact IntWalk.i64_in _ (by omega)
    go_enter Try.func46, Try.ntmps46
    go_wp2_with (go_at_call 60; refine (number_any _ _ (by omega) (by omega)).mono ?_; rintro e w' ⟨rfl, rfl⟩)
    go_region_held3 (fun W => W.cell? ⟨w.heap.size, 0, none⟩ = some (.int .i64 a) ∧ W.cell? ⟨w.heap.size, 1, none⟩ = some (.int .i64 b) ∧ W.cell? ⟨w.heap.size + 1, 0, none⟩ = some (.int .i64 c) ∧ W.cell? ⟨w.heap.size + 1, 1, none⟩ = some (.int .i64 d)) ((refine lies.four (t := 23) (s := 23) ?_ ?_ <;> repeat (first | with_reducible exact A | with_reducible exact C | with_reducible refine lies.on_drew ?_ | with_reducible refine lies.on_draw ?_ _)))
      (first | (go_at_call 44; refine (low_any _ _ _ (by omega) (by omega) (by omega) (by omega)).mono ?_; rintro e w' ⟨rfl, rfl⟩))
    go_wp2_with fail
    go_region_held3 (fun W => W.cell? ⟨w.heap.size, 0, none⟩ = some (.int .i64 a) ∧ W.cell? ⟨w.heap.size, 1, none⟩ = some (.int .i64 b) ∧ W.cell? ⟨w.heap.size + 1, 0, none⟩ = some (.int .i64 c) ∧ W.cell? ⟨w.heap.size + 1, 1, none⟩ = some (.int .i64 d)) ((refine lies.four (t := 23) (s := 23) ?_ ?_ <;> repeat (first | with_reducible exact A | with_reducible exact C | with_reducible refine lies.on_drew ?_ | with_reducible refine lies.on_draw ?_ _)))
      (first | (go_at_call 42; refine (part_any _ _ _ (by omega) (by omega) (by omega) (by omega)).mono ?_; rintro e w' ⟨rfl, rfl⟩))
    go_wp2_with fail
    go_region_held3 (fun W => W.cell? ⟨w.heap.size, 0, none⟩ = some (.int .i64 a) ∧ W.cell? ⟨w.heap.size, 1, none⟩ = some (.int .i64 b) ∧ W.cell? ⟨w.heap.size + 1, 0, none⟩ = some (.int .i64 c) ∧ W.cell? ⟨w.heap.size + 1, 1, none⟩ = some (.int .i64 d)) ((refine lies.four (t := 23) (s := 23) ?_ ?_ <;> repeat (first | with_reducible exact A | with_reducible exact C | with_reducible refine lies.on_drew ?_ | with_reducible refine lies.on_draw ?_ _)))
      (first | (go_at_call 42; refine (part_any _ _ _ (by omega) (by omega) (by omega) (by omega)).mono ?_; rintro e w' ⟨rfl, rfl⟩))
    rcases hr with ⟨t3, rfl⟩ | ⟨t3, rfl⟩ | ⟨rfl, rfl⟩
    · go_wp2_with (go_at_call 61; refine (strict_k _ _ _ hu.out).mono ?_; rintro e w' ⟨rfl, rfl⟩)
      go_ret
      exact ⟨rfl, by first | exact drawn hB _ | exact lies.frame_drew hB | exact lies.frame_drew (lies.frame_drew hB) | exact lies.frame_drew (lies.frame_drew (lies.frame_drew hB))⟩
    · have t4 : ¬ p < q := by omega
      have t5 : (p == q) = false := by simp; omega
      go_wp2_with (go_at_call 61; refine (strict_k _ _ _ hu.out).mono ?_; rintro e w' ⟨rfl, rfl⟩)
      go_ret
      exact ⟨rfl, by first | exact drawn hB _ | exact lies.frame_drew hB | exact lies.frame_drew (lies.frame_drew hB) | exact lies.frame_drew (lies.frame_drew (lies.frame_drew hB))⟩
    · cases u
      · go_wp2_with (go_at_call 61; refine (strict_k _ _ _ hu.out).mono ?_; rintro e w' ⟨rfl, rfl⟩)
        go_ret
        exact ⟨rfl, by first | exact drawn hB _ | exact lies.frame_drew hB | exact lies.frame_drew (lies.frame_drew hB) | exact lies.frame_drew (lies.frame_drew (lies.frame_drew hB))⟩
      · go_wp2_with (go_at_call 61; refine (strict_k _ _ _ hu.out).mono ?_; rintro e w' ⟨rfl, rfl⟩)
        go_ret
        exact ⟨rfl, by first | exact drawn hB _ | exact lies.frame_drew hB | exact lies.frame_drew (lies.frame_drew hB) | exact lies.frame_drew (lies.frame_drew (lies.frame_drew hB))⟩

theorem kept_any (a b c d x : Int) (w : World) (a1 : -9223372036854775808 ≤ a) (a2 : a ≤ 9223372036854775807) (c1 : -9223372036854775808 ≤ c) (c2 : c ≤ 9223372036854775807) (h : Both a b c d) (x1 : -9223372036854775808 ≤ x) (x2 : x < 9223372036854775807) :
    Calls Try.prog 46 #[.agg #[.int .i64 (a), .int .i64 (b)], .agg #[.int .i64 (c), .int .i64 (d)], .int .i64 x] w fun e w' => e = .returned (.bool (keptR a b c d x)) ∧ Below w.heap.size w w' := by
  obtain ⟨f1, f2⟩ := floor_may h.1
  obtain ⟨g1, g2⟩ := floor_may h.2
  obtain ⟨⟨b1, b2, _⟩, ⟨d1, d2, _⟩⟩ := h
  obtain ⟨p1, p2, p3⟩ := part_mul (a := a) b1 b2 d1 d2
  obtain ⟨q1, q2, q3⟩ := part_mul (a := c) d1 d2 b1 b2
  refine kept_k a b c d x _ _ _ (bS x) _ w a1 a2 c1 c2 b1 b2 d1 d2 x1 x2 (by omega) (by omega) p1 p3 q1 q3 (Lib.hid rfl) (Lib.hid rfl) (Lib.hid rfl) (Lib.hid rfl) ?_
  unfold keptR
  by_cases t1 : a / b - c / d < x / 2
  · have k := cross_lt b1 b2 d1 d2 (x / 2) t1
    refine .inl ⟨t1, ?_⟩
    rw [ltB_yes k, ltB_no (by omega)]
    cases bS x <;> rfl
  · by_cases t2 : x / 2 < a / b - c / d
    · have k := cross_gt b1 b2 d1 d2 (x / 2) t2
      refine .inr (.inl ⟨t2, ?_⟩)
      rw [ltB_no (show ¬ a * d - c * b < x / 2 * (b * d) by omega), ltB_yes k]
      cases bS x <;> rfl
    · have t3 : a / b - c / d = x / 2 := by omega
      have k := cross a b c d b1 d1
      rw [t3] at k
      refine .inr (.inr ⟨Lib.hid t3, ?_⟩)
      rcases Int.lt_trichotomy (a % b * d) (c % d * b) with z | z | z
      · refine .inl ⟨z, ?_⟩
        rw [ltB_yes (show a * d - c * b < x / 2 * (b * d) by omega), ltB_no (show ¬ x / 2 * (b * d) < a * d - c * b by omega)]
        cases bS x <;> rfl
      · refine .inr (.inr ⟨z, ?_⟩)
        rw [ltB_no (show ¬ a * d - c * b < x / 2 * (b * d) by omega), ltB_no (show ¬ x / 2 * (b * d) < a * d - c * b by omega)]
        cases bS x <;> rfl
      · refine .inr (.inl ⟨z, ?_⟩)
        rw [ltB_no (show ¬ a * d - c * b < x / 2 * (b * d) by omega), ltB_yes (show x / 2 * (b * d) < a * d - c * b by omega)]
        cases bS x <;> rfl

set_option maxHeartbeats 1000000 in
theorem keeps_k (a b c d x e0 : Int) (m n o r v : Bool) (w : World)
    (c1 : RowKit.Hid (law.Says 40 #[.agg #[.int .i64 (a), .int .i64 (b)]] (.bool m)))
    (c2 : RowKit.Hid (law.Says 40 #[.agg #[.int .i64 (c), .int .i64 (d)]] (.bool n)))
    (c3 : RowKit.Hid (∀ w : World, Calls Try.prog 45 #[.int .i64 x] w fun e w' => e = .returned (.bool o) ∧ w = w'))
    (c4 : RowKit.Hid (m = true → n = true → o = true → law.Says 46 #[.agg #[.int .i64 (a), .int .i64 (b)], .agg #[.int .i64 (c), .int .i64 (d)], .int .i64 x] (.bool r)))
    (h : (m = false ∧ v = false ∧ e0 = 8) ∨ (m = true ∧ n = false ∧ v = false ∧ e0 = 8) ∨ (m = true ∧ n = true ∧ o = false ∧ v = false ∧ e0 = 8) ∨ (m = true ∧ n = true ∧ o = true ∧ v = r ∧ e0 = 0)) :
    Calls Try.prog 21 #[.agg #[.int .i64 (a), .int .i64 (b)], .agg #[.int .i64 (c), .int .i64 (d)], .int .i64 x] w fun e w' => e = .returned (.tuple #[.bool v, .int .i64 e0]) ∧ Below w.heap.size w w' := by
  have A := lies.on_alloc (lies.made w 23 #[.int .i64 a, .int .i64 b]) (.cells #[.int .i64 c, .int .i64 d] 23)
  have C := lies.made (w.alloc (.cells #[.int .i64 a, .int .i64 b] 23)) 23 #[.int .i64 c, .int .i64 d]
  rw [World.size_alloc] at C
  have hB := up2 w (.cells #[.int .i64 a, .int .i64 b] 23) (.cells #[.int .i64 c, .int .i64 d] 23)
  rcases h with ⟨rfl, rfl, rfl⟩ | ⟨rfl, rfl, rfl, rfl⟩ | ⟨rfl, rfl, rfl, rfl, rfl⟩ | ⟨rfl, rfl, rfl, rfl, rfl⟩
  all_goals (try (have c4' := Lib.hid (c4.out rfl rfl rfl)))
  all_goals clear c4
  all_goals
    go_enter Try.func21, Try.ntmps21
    go_wp2_with (first
      | ((with_reducible refine (said c1 _).mono ?_); rintro e w1 ⟨rfl, hN⟩; (replace hB := later hB hN); (replace A := lies.on_call A hN); (replace C := lies.on_call C hN); clear hN; obtain ⟨A0, A1, A2, A3, A4⟩ := lies.two A; obtain ⟨C0, C1, C2, C3, C4⟩ := lies.two C)
      | ((with_reducible refine (said c2 _).mono ?_); rintro e w2 ⟨rfl, hN⟩; (replace hB := later hB hN); (replace A := lies.on_call A hN); (replace C := lies.on_call C hN); clear hN; obtain ⟨A0, A1, A2, A3, A4⟩ := lies.two A; obtain ⟨C0, C1, C2, C3, C4⟩ := lies.two C)
      | (go_at_call 45; refine (c3.out _).mono ?_; rintro e w' ⟨rfl, rfl⟩)
      | ((with_reducible refine (said c4' _).mono ?_); rintro e w3 ⟨rfl, hN⟩; (replace hB := later hB hN); (replace A := lies.on_call A hN); (replace C := lies.on_call C hN); clear hN; obtain ⟨A0, A1, A2, A3, A4⟩ := lies.two A; obtain ⟨C0, C1, C2, C3, C4⟩ := lies.two C))
    go_ret2
    exact ⟨rfl, hB⟩
theorem keeps_any (a b c d x : Int) (w : World) (a1 : -9223372036854775808 ≤ a) (a2 : a ≤ 9223372036854775807) (c1 : -9223372036854775808 ≤ c) (c2 : c ≤ 9223372036854775807) (x1 : -9223372036854775808 ≤ x) (x2 : x ≤ 9223372036854775807) :
    Calls Try.prog 21 #[.agg #[.int .i64 (a), .int .i64 (b)], .agg #[.int .i64 (c), .int .i64 (d)], .int .i64 x] w fun e w' => e = .returned (.tuple #[.bool (kpV a b c d x), .int .i64 (kpE a b c d x)]) ∧ Below w.heap.size w w' := by
  have k1 : RowKit.Hid (law.Says 40 #[.agg #[.int .i64 (a), .int .i64 (b)]] (.bool (mayB a b))) := Lib.hid (fun w => may_any a b w a1 a2)
  have k2 : RowKit.Hid (law.Says 40 #[.agg #[.int .i64 (c), .int .i64 (d)]] (.bool (mayB c d))) := Lib.hid (fun w => may_any c d w c1 c2)
  unfold kpV kpE
  rcases three x x2 with rfl | ⟨h0, h⟩ | ⟨h0, h⟩
  · rw [if_pos rfl, if_neg badB_none]
    refine keeps_k a b c d _ _ _ _ true true _ w k1 k2 (Lib.hid (fun w => rmay2_none w)) (Lib.hid (fun _ _ _ w => kept_none a b c d w)) ?_
    by_cases g : Both a b c d
    · rw [if_pos g, if_pos g]; exact .inr (.inr (.inr ⟨mayB_yes g.1, mayB_yes g.2, rfl, rfl, rfl⟩))
    · rw [if_neg g, if_neg g]
      by_cases p : MayR a b
      · exact .inr (.inl ⟨mayB_yes p, mayB_no (fun q => g ⟨p, q⟩), rfl, rfl⟩)
      · exact .inl ⟨mayB_no p, rfl, rfl⟩
  · rw [if_neg (not_none_lt h0), if_pos h, if_neg (badB_ok h)]
    refine keeps_k a b c d x _ _ _ true (keptR a b c d x) _ w k1 k2 (Lib.hid (fun w => rmay2_ok x w h)) (Lib.hid (fun z1 z2 _ w => kept_any a b c d x w a1 a2 c1 c2 ⟨of_decide_eq_true z1, of_decide_eq_true z2⟩ x1 h0)) ?_
    by_cases g : Both a b c d
    · rw [if_pos g, if_pos g]; exact .inr (.inr (.inr ⟨mayB_yes g.1, mayB_yes g.2, rfl, rfl, rfl⟩))
    · rw [if_neg g, if_neg g]
      by_cases p : MayR a b
      · exact .inr (.inl ⟨mayB_yes p, mayB_no (fun q => g ⟨p, q⟩), rfl, rfl⟩)
      · exact .inl ⟨mayB_no p, rfl, rfl⟩
  · rw [if_neg (not_none_lt h0), if_neg h, if_pos (badB_no h0 h)]
    refine keeps_k a b c d x _ _ _ false false _ w k1 k2 (Lib.hid (fun w => rmay2_no x w h0 x1 h)) (Lib.hid (fun _ _ z => Bool.noConfusion z)) ?_
    by_cases g : Both a b c d
    · rw [if_pos g, if_pos g]; exact .inr (.inr (.inl ⟨mayB_yes g.1, mayB_yes g.2, rfl, rfl, rfl⟩))
    · rw [if_neg g, if_neg g]
      by_cases p : MayR a b
      · exact .inr (.inl ⟨mayB_yes p, mayB_no (fun q => g ⟨p, q⟩), rfl, rfl⟩)
      · exact .inl ⟨mayB_no p, rfl, rfl⟩
end Go.Proofs.Ytbmadhejdnkeeaa.rref
