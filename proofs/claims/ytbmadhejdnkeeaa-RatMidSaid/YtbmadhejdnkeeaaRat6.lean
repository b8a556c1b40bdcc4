/-
  What Cmp of package rat answers, for every two fractions; the conditions: the numbers are ints.
-/
import Derived.Test.YtbmadhejdnkeeaaRat5
namespace Go.Proofs.Ytbmadhejdnkeeaa.rat
open Go.ChangeShapes Go.WideShapes Go.ChangeAt Go.RowKit rmath bound num
set_option linter.unusedVariables false

theorem cmp3_no (a b c d : Int) (w : World) (a1 : -9223372036854775808 ≤ a) (a2 : a ≤ 9223372036854775807) (c1 : -9223372036854775808 ≤ c) (c2 : c ≤ 9223372036854775807) (h : ¬ Both a b c d) :
    Calls Try.prog 16 #[.agg #[.int .i64 (a), .int .i64 (b)], .agg #[.int .i64 (c), .int .i64 (d)]] w fun e w' => e = .returned (.tuple #[.int .i64 0, .int .i64 8]) ∧ Below w.heap.size w w' := by
  have H := Lib.hid h
  clear h
  go_enter Try.func16, Try.ntmps16
  go_wp2_with (go_at_call 31; refine (both_no _ _ _ _ _ a1 a2 c1 c2 H.out).mono ?_; rintro e w1 ⟨rfl, hB1⟩)
  go_ret2
  exact ⟨rfl, later (up2 _ _ _) hB1⟩

theorem first_rat_v (a b c d z : Int) (r : Bool) (g : Nat) (w : World) (hz : z = if r then 1 else 0) (hc : RowKit.Hid (law.Says 38 #[.agg #[.int .i64 (c), .int .i64 (d)], .agg #[.int .i64 (a), .int .i64 (b)]] (.bool r))) (h0 : RowKit.Hid (law.Says 38 #[.agg #[.int .i64 (a), .int .i64 (b)], .agg #[.int .i64 (a), .int .i64 (b)]] (.bool false)))
    (hl : lies.Lies w g 23 #[.int .i64 a, .int .i64 b, .int .i64 c, .int .i64 d]) :
    Calls Try.prog 39 #[.func (.func 38) #[] #[], .slice (some ⟨g, 0, none⟩) 2 2] w fun e w' => e = .returned (.int .i64 z) ∧ Below w.heap.size w w' :=
  hz ▸ first_rat a b c d r g w hc h0 hl

set_option maxHeartbeats 4000000 in
theorem cmp3_k (a b c d x y : Int) (r q : Bool) (w : World) (a1 : -9223372036854775808 ≤ a) (a2 : a ≤ 9223372036854775807) (c1 : -9223372036854775808 ≤ c) (c2 : c ≤ 9223372036854775807) (h : MayR a b) (h' : MayR c d)
    (hr : ltB (c * b) (a * d) = r) (hq : ltB (a * d) (c * b) = q) (hx : x = if r then 1 else 0) (hy : y = if q then 1 else 0) (x1 : 0 ≤ x) (x2 : x ≤ 1) (y1 : 0 ≤ y) (y2 : y ≤ 1) :
    Calls Try.prog 16 #[.agg #[.int .i64 (a), .int .i64 (b)], .agg #[.int .i64 (c), .int .i64 (d)]] w fun e w' => e = .returned (.tuple #[.int .i64 (x - y), .int .i64 0]) ∧ Below w.heap.size w w' := by
  have b1 := h.1
  have b2 := h.2.1
  have d1 := h'.1
  have d2 := h'.2.1
  have H := Lib.hid h
  have H' := Lib.hid h'
  have HX := Lib.hid hx
  have HY := Lib.hid hy
  have k1 : RowKit.Hid (law.Says 38 #[.agg #[.int .i64 (c), .int .i64 (d)], .agg #[.int .i64 (a), .int .i64 (b)]] (.bool r)) := Lib.hid (fun w => by rw [← hr]; exact cmp1_any c d a b w c1 c2 a1 a2 (by omega) (by omega) (by omega) (by omega))
  have k2 : RowKit.Hid (law.Says 38 #[.agg #[.int .i64 (a), .int .i64 (b)], .agg #[.int .i64 (c), .int .i64 (d)]] (.bool q)) := Lib.hid (fun w => by rw [← hq]; exact cmp1_any a b c d w a1 a2 c1 c2 (by omega) (by omega) (by omega) (by omega))
  have k3 : RowKit.Hid (law.Says 38 #[.agg #[.int .i64 (a), .int .i64 (b)], .agg #[.int .i64 (a), .int .i64 (b)]] (.bool false)) := Lib.hid (fun w => by rw [← ltB_self (a * b)]; exact cmp1_any a b a b w a1 a2 a1 a2 (by omega) (by omega) (by omega) (by omega))
  have k4 : RowKit.Hid (law.Says 38 #[.agg #[.int .i64 (c), .int .i64 (d)], .agg #[.int .i64 (c), .int .i64 (d)]] (.bool false)) := Lib.hid (fun w => by rw [← ltB_self (c * d)]; exact cmp1_any c d c d w c1 c2 c1 c2 (by omega) (by omega) (by omega) (by omega))
  clear h h' hr hq hx hy
  have t0 := lies.made (w.alloc (.cells #[.int .i64 a, .int .i64 b] 23)) 23 #[.int .i64 c, .int .i64 d]
  have s0 := lies.on_alloc (lies.made w 23 #[.int .i64 a, .int .i64 b]) (.cells #[.int .i64 c, .int .i64 d] 23)
  rw [World.size_alloc] at t0
  go_enter Try.func16, Try.ntmps16
  go_wp2_with (go_at_call 31; refine (both_ok _ _ _ _ _ a1 a2 c1 c2 H.out H'.out).mono ?_; rintro e w1 ⟨rfl, hB1⟩; have s1 := lies.on_call s0 hB1; have t1 := lies.on_call t0 hB1; obtain ⟨ca0, ca1, fa0, fa1, la⟩ := lies.two s1; obtain ⟨cb0, cb1, fb0, fb1, lb⟩ := lies.two t1)
  have K1 := later (up2 _ _ _) hB1
  clear s0 t0 hB1
  have m : IntKind.i64.wrap (x - y) = x - y := IntWalk.i64_in _ (by omega)
  go_region_held3 (fun W => W.cell? ⟨w.heap.size, 0, none⟩ = some (.int .i64 a) ∧ W.cell? ⟨w.heap.size, 1, none⟩ = some (.int .i64 b) ∧ W.cell? ⟨w.heap.size + 1, 0, none⟩ = some (.int .i64 c) ∧ W.cell? ⟨w.heap.size + 1, 1, none⟩ = some (.int .i64 d)) ((refine lies.four (t := 23) (s := 23) ?_ ?_ <;> repeat (first | with_reducible exact s1 | with_reducible exact t1 | with_reducible refine lies.on_drew ?_ | with_reducible refine lies.on_alloc ?_ _ | with_reducible refine lies.on_call ?_ hBL | with_reducible refine lies.on_call ?_ hBM)))
      (first
        | (go_at_call 39; refine (first_rat_v a b c d x r _ _ HX.out k1 k3 ?_).mono ?_; (repeat (first | (focus (with_reducible refine lies.made_at _ _ _ _ ?_; (first | with_reducible rfl | simp only [World.size_alloc]); done)) | with_reducible refine lies.on_drew ?_ | with_reducible refine lies.on_alloc ?_ _ | with_reducible refine lies.on_call ?_ hBM)); rintro e wL ⟨rfl, hBL⟩)
        | (go_at_call 39; refine (first_rat_v c d a b y q _ _ HY.out k2 k4 ?_).mono ?_; (repeat (first | (focus (with_reducible refine lies.made_at _ _ _ _ ?_; (first | with_reducible rfl | simp only [World.size_alloc]); done)) | with_reducible refine lies.on_drew ?_ | with_reducible refine lies.on_alloc ?_ _ | with_reducible refine lies.on_call ?_ hBL)); rintro e wM ⟨rfl, hBM⟩))
  all_goals
    go_wp2_with fail
    go_ret2
    refine ⟨rfl, later ?_ hBM⟩
    repeat (first | with_reducible exact K1 | with_reducible refine lies.frame_drew ?_ | with_reducible refine lies.frame_up ?_ _ | with_reducible refine later ?_ hBL)

/-- what Cmp answers. -/
def cmpV (a b c d : Int) : Int := if Both a b c d then (if c * b < a * d then 1 else if a * d < c * b then -1 else 0) else 0
def cmpE (a b c d : Int) : Int := if Both a b c d then 0 else 8
theorem cmp3_any (a b c d : Int) (w : World) (a1 : -9223372036854775808 ≤ a) (a2 : a ≤ 9223372036854775807) (c1 : -9223372036854775808 ≤ c) (c2 : c ≤ 9223372036854775807) :
    Calls Try.prog 16 #[.agg #[.int .i64 (a), .int .i64 (b)], .agg #[.int .i64 (c), .int .i64 (d)]] w fun e w' => e = .returned (.tuple #[.int .i64 (cmpV a b c d), .int .i64 (cmpE a b c d)]) ∧ Below w.heap.size w w' := by
  unfold cmpV cmpE
  by_cases h : Both a b c d
  · rw [if_pos h, if_pos h]
    by_cases p : c * b < a * d
    · rw [if_pos p]
      have q : ¬ a * d < c * b := by omega
      exact cmp3_k a b c d 1 0 true false w a1 a2 c1 c2 h.1 h.2 (ltB_yes p) (ltB_no q) rfl rfl (by omega) (by omega) (by omega) (by omega)
    · rw [if_neg p]
      by_cases q : a * d < c * b
      · rw [if_pos q]
        exact cmp3_k a b c d 0 1 false true w a1 a2 c1 c2 h.1 h.2 (ltB_no p) (ltB_yes q) rfl rfl (by omega) (by omega) (by omega) (by omega)
      · rw [if_neg q]
        exact cmp3_k a b c d 0 0 false false w a1 a2 c1 c2 h.1 h.2 (ltB_no p) (ltB_no q) rfl rfl (by omega) (by omega) (by omega) (by omega)
  · rw [if_neg h, if_neg h]
    exact cmp3_no a b c d w a1 a2 c1 c2 h
end Go.Proofs.Ytbmadhejdnkeeaa.rat
