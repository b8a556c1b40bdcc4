/-
  The walks of the law RatSides, over what its calls answer; each theorem names its conditions.
-/
import Derived.Test.YtbmadhejdnkeeaaRatLaw
import Derived.Test.YtbmadhejdnkeeaaRatCmp
import Derived.Test.YtbmadhejdnkeeaaBoundMath
namespace Go.Proofs.Ytbmadhejdnkeeaa.ratSides
open Go.ChangeShapes Go.WideShapes Go.ChangeAt Go.RowKit rmath bound num rat ratlaw
set_option linter.unusedVariables false

set_option maxRecDepth 100000 in
set_option maxHeartbeats 8000000 in
theorem walk_no (a b c d x : Int) (w : World)
    (c1 : RowKit.Hid (law.Says 16 #[.agg #[.int .i64 (a), .int .i64 (b)], .agg #[.int .i64 (c), .int .i64 (d)]] (.tuple #[.int .i64 0, .int .i64 8])))
    (c2 : RowKit.Hid (law.Says 13 #[.agg #[.int .i64 (a), .int .i64 (b)], .agg #[.int .i64 (c), .int .i64 (d)], .int .i64 x] (.tuple #[.bool false, .int .i64 8]))) :
    Calls Try.prog 8 #[.agg #[.int .i64 (a), .int .i64 (b)], .agg #[.int .i64 (c), .int .i64 (d)], .int .i64 x] w fun e w' => e = .returned (.bool true) ∧ Below w.heap.size w w' := by
  have ka : RowKit.Hid (law.Says 15 #[] (.bool true)) := Lib.hid alive
  have A := lies.on_alloc (lies.made w 23 #[.int .i64 a, .int .i64 b]) (.cells #[.int .i64 c, .int .i64 d] 23)
  have C := lies.made (w.alloc (.cells #[.int .i64 a, .int .i64 b] 23)) 23 #[.int .i64 c, .int .i64 d]
  rw [World.size_alloc] at C
  have hB := up2 w (.cells #[.int .i64 a, .int .i64 b] 23) (.cells #[.int .i64 c, .int .i64 d] 23)
  go_enter Try.func8, Try.ntmps8
  go_wp2_with (first
    | ((with_reducible refine (said ka _).mono ?_); rintro e w0 ⟨rfl, hN⟩; (replace hB := ratlaw.go0 hB hN); (replace A := lies.on_call A hN); (replace C := lies.on_call C hN); clear hN; obtain ⟨A0, A1, A2, A3, A4⟩ := lies.two A; obtain ⟨C0, C1, C2, C3, C4⟩ := lies.two C)
    | ((with_reducible refine (said c1 _).mono ?_); rintro e w1 ⟨rfl, hN⟩; (replace hB := ratlaw.go0 hB hN); (replace A := lies.on_call A hN); (replace C := lies.on_call C hN); clear hN; obtain ⟨A0, A1, A2, A3, A4⟩ := lies.two A; obtain ⟨C0, C1, C2, C3, C4⟩ := lies.two C)
    | ((with_reducible refine (said c2 _).mono ?_); rintro e w2 ⟨rfl, hN⟩; (replace hB := ratlaw.go0 hB hN); (replace A := lies.on_call A hN); (replace C := lies.on_call C hN); clear hN; obtain ⟨A0, A1, A2, A3, A4⟩ := lies.two A; obtain ⟨C0, C1, C2, C3, C4⟩ := lies.two C))
  go_ret
  exact ⟨rfl, hB⟩

set_option maxRecDepth 100000 in
set_option maxHeartbeats 8000000 in
theorem walk_out (a b c d x h t i : Int) (u : Bool) (w : World) (n : Int) (most less : Bool) (hn1 : decide (n ≤ 0) = most) (hn2 : decide (n < 0) = less) (hh : (h = 0 ∧ i = 6 ∧ u = true) ∨ (h = 8))
    (c1 : RowKit.Hid (law.Says 16 #[.agg #[.int .i64 (a), .int .i64 (b)], .agg #[.int .i64 (c), .int .i64 (d)]] (.tuple #[.int .i64 n, .int .i64 0])))
    (c2 : RowKit.Hid (law.Says 13 #[.agg #[.int .i64 (a), .int .i64 (b)], .agg #[.int .i64 (c), .int .i64 (d)], .int .i64 1] (.tuple #[.bool most, .int .i64 0])))
    (c3 : RowKit.Hid (law.Says 13 #[.agg #[.int .i64 (a), .int .i64 (b)], .agg #[.int .i64 (c), .int .i64 (d)], .int .i64 0] (.tuple #[.bool less, .int .i64 0])))
    (c4 : RowKit.Hid (law.Says 13 #[.agg #[.int .i64 (a), .int .i64 (b)], .agg #[.int .i64 (c), .int .i64 (d)], .int .i64 x] (.tuple #[.bool u, .int .i64 h])))
    (c5 : RowKit.Hid (law.Says 26 #[.int .i64 x] (.tuple #[.int .i64 t, .int .i64 i]))) :
    Calls Try.prog 8 #[.agg #[.int .i64 (a), .int .i64 (b)], .agg #[.int .i64 (c), .int .i64 (d)], .int .i64 x] w fun e w' => e = .returned (.bool true) ∧ Below w.heap.size w w' := by
  have ka : RowKit.Hid (law.Says 15 #[] (.bool true)) := Lib.hid alive
  have A := lies.on_alloc (lies.made w 23 #[.int .i64 a, .int .i64 b]) (.cells #[.int .i64 c, .int .i64 d] 23)
  have C := lies.made (w.alloc (.cells #[.int .i64 a, .int .i64 b] 23)) 23 #[.int .i64 c, .int .i64 d]
  rw [World.size_alloc] at C
  have hB := up2 w (.cells #[.int .i64 a, .int .i64 b] 23) (.cells #[.int .i64 c, .int .i64 d] 23)
  rcases hh with ⟨rfl, rfl, rfl⟩ | rfl
  all_goals
    go_enter Try.func8, Try.ntmps8
    go_wp2_with (first
      | ((with_reducible refine (said ka _).mono ?_); rintro e w0 ⟨rfl, hN⟩; (replace hB := ratlaw.go0 hB hN); (replace A := lies.on_call A hN); (replace C := lies.on_call C hN); clear hN; obtain ⟨A0, A1, A2, A3, A4⟩ := lies.two A; obtain ⟨C0, C1, C2, C3, C4⟩ := lies.two C)
      | ((with_reducible refine (said c1 _).mono ?_); rintro e w1 ⟨rfl, hN⟩; (replace hB := ratlaw.go0 hB hN); (replace A := lies.on_call A hN); (replace C := lies.on_call C hN); clear hN; obtain ⟨A0, A1, A2, A3, A4⟩ := lies.two A; obtain ⟨C0, C1, C2, C3, C4⟩ := lies.two C)
      | ((with_reducible refine (said c2 _).mono ?_); rintro e w2 ⟨rfl, hN⟩; (replace hB := ratlaw.go0 hB hN); (replace A := lies.on_call A hN); (replace C := lies.on_call C hN); clear hN; obtain ⟨A0, A1, A2, A3, A4⟩ := lies.two A; obtain ⟨C0, C1, C2, C3, C4⟩ := lies.two C)
      | ((with_reducible refine (said c3 _).mono ?_); rintro e w3 ⟨rfl, hN⟩; (replace hB := ratlaw.go0 hB hN); (replace A := lies.on_call A hN); (replace C := lies.on_call C hN); clear hN; obtain ⟨A0, A1, A2, A3, A4⟩ := lies.two A; obtain ⟨C0, C1, C2, C3, C4⟩ := lies.two C)
      | ((with_reducible refine (said c4 _).mono ?_); rintro e w4 ⟨rfl, hN⟩; (replace hB := ratlaw.go0 hB hN); (replace A := lies.on_call A hN); (replace C := lies.on_call C hN); clear hN; obtain ⟨A0, A1, A2, A3, A4⟩ := lies.two A; obtain ⟨C0, C1, C2, C3, C4⟩ := lies.two C)
      | ((with_reducible refine (said c5 _).mono ?_); rintro e w5 ⟨rfl, hN⟩; (replace hB := ratlaw.go0 hB hN); (replace A := lies.on_call A hN); (replace C := lies.on_call C hN); clear hN; obtain ⟨A0, A1, A2, A3, A4⟩ := lies.two A; obtain ⟨C0, C1, C2, C3, C4⟩ := lies.two C))
    go_ret
    exact ⟨rfl, hB⟩

set_option maxRecDepth 100000 in
set_option maxHeartbeats 8000000 in
theorem walk_in (a b c d x t p q k : Int) (u v one two own : Bool) (w : World) (n : Int) (most less : Bool) (hn1 : decide (n ≤ 0) = most) (hn2 : decide (n < 0) = less) (hv : (v == u) = false) (p1 : -2305843009213693952 ≤ p) (p2 : p ≤ 2305843009213693952) (q1 : -2305843009213693952 ≤ q) (q2 : q ≤ 2305843009213693952)
    (hc : one = false ∨ (one = true ∧ two = false) ∨ (one = true ∧ two = true ∧ (k != 0) = true) ∨ (one = true ∧ two = true ∧ k = 0 ∧ own = u))
    (c1 : RowKit.Hid (law.Says 16 #[.agg #[.int .i64 (a), .int .i64 (b)], .agg #[.int .i64 (c), .int .i64 (d)]] (.tuple #[.int .i64 n, .int .i64 0])))
    (c2 : RowKit.Hid (law.Says 13 #[.agg #[.int .i64 (a), .int .i64 (b)], .agg #[.int .i64 (c), .int .i64 (d)], .int .i64 1] (.tuple #[.bool most, .int .i64 0])))
    (c3 : RowKit.Hid (law.Says 13 #[.agg #[.int .i64 (a), .int .i64 (b)], .agg #[.int .i64 (c), .int .i64 (d)], .int .i64 0] (.tuple #[.bool less, .int .i64 0])))
    (c4 : RowKit.Hid (law.Says 13 #[.agg #[.int .i64 (a), .int .i64 (b)], .agg #[.int .i64 (c), .int .i64 (d)], .int .i64 x] (.tuple #[.bool u, .int .i64 0])))
    (c5 : RowKit.Hid (law.Says 26 #[.int .i64 x] (.tuple #[.int .i64 t, .int .i64 0])))
    (c6 : RowKit.Hid (law.Says 13 #[.agg #[.int .i64 (c), .int .i64 (d)], .agg #[.int .i64 (a), .int .i64 (b)], .int .i64 t] (.tuple #[.bool v, .int .i64 0])))
    (c7 : RowKit.Hid (law.Says 14 #[.agg #[.int .i64 (a), .int .i64 (b)]] (.tuple #[.int .i64 p, .bool one, .int .i64 0])))
    (c8 : RowKit.Hid (law.Says 14 #[.agg #[.int .i64 (c), .int .i64 (d)]] (.tuple #[.int .i64 q, .bool two, .int .i64 0])))
    (c9 : RowKit.Hid (law.Says 27 #[.int .i64 (p - q), .int .i64 x] (.tuple #[.bool own, .int .i64 k]))) :
    Calls Try.prog 8 #[.agg #[.int .i64 (a), .int .i64 (b)], .agg #[.int .i64 (c), .int .i64 (d)], .int .i64 x] w fun e w' => e = .returned (.bool true) ∧ Below w.heap.size w w' := by
  have ka : RowKit.Hid (law.Says 15 #[] (.bool true)) := Lib.hid alive
  have A := lies.on_alloc (lies.made w 23 #[.int .i64 a, .int .i64 b]) (.cells #[.int .i64 c, .int .i64 d] 23)
  have C := lies.made (w.alloc (.cells #[.int .i64 a, .int .i64 b] 23)) 23 #[.int .i64 c, .int .i64 d]
  rw [World.size_alloc] at C
  have hB := up2 w (.cells #[.int .i64 a, .int .i64 b] 23) (.cells #[.int .i64 c, .int .i64 d] 23)
  rcases hc with rfl | ⟨rfl, rfl⟩ | ⟨rfl, rfl, hk⟩ | ⟨rfl, rfl, rfl, rfl⟩
  all_goals
    go_enter Try.func8, Try.ntmps8
    go_wp2_with (first
      | ((with_reducible refine (said ka _).mono ?_); rintro e w0 ⟨rfl, hN⟩; (replace hB := ratlaw.go0 hB hN); (replace A := lies.on_call A hN); (replace C := lies.on_call C hN); clear hN; obtain ⟨A0, A1, A2, A3, A4⟩ := lies.two A; obtain ⟨C0, C1, C2, C3, C4⟩ := lies.two C)
      | ((with_reducible refine (said c1 _).mono ?_); rintro e w1 ⟨rfl, hN⟩; (replace hB := ratlaw.go0 hB hN); (replace A := lies.on_call A hN); (replace C := lies.on_call C hN); clear hN; obtain ⟨A0, A1, A2, A3, A4⟩ := lies.two A; obtain ⟨C0, C1, C2, C3, C4⟩ := lies.two C)
      | ((with_reducible refine (said c2 _).mono ?_); rintro e w2 ⟨rfl, hN⟩; (replace hB := ratlaw.go0 hB hN); (replace A := lies.on_call A hN); (replace C := lies.on_call C hN); clear hN; obtain ⟨A0, A1, A2, A3, A4⟩ := lies.two A; obtain ⟨C0, C1, C2, C3, C4⟩ := lies.two C)
      | ((with_reducible refine (said c3 _).mono ?_); rintro e w3 ⟨rfl, hN⟩; (replace hB := ratlaw.go0 hB hN); (replace A := lies.on_call A hN); (replace C := lies.on_call C hN); clear hN; obtain ⟨A0, A1, A2, A3, A4⟩ := lies.two A; obtain ⟨C0, C1, C2, C3, C4⟩ := lies.two C)
      | ((with_reducible refine (said c4 _).mono ?_); rintro e w4 ⟨rfl, hN⟩; (replace hB := ratlaw.go0 hB hN); (replace A := lies.on_call A hN); (replace C := lies.on_call C hN); clear hN; obtain ⟨A0, A1, A2, A3, A4⟩ := lies.two A; obtain ⟨C0, C1, C2, C3, C4⟩ := lies.two C)
      | ((with_reducible refine (said c5 _).mono ?_); rintro e w5 ⟨rfl, hN⟩; (replace hB := ratlaw.go0 hB hN); (replace A := lies.on_call A hN); (replace C := lies.on_call C hN); clear hN; obtain ⟨A0, A1, A2, A3, A4⟩ := lies.two A; obtain ⟨C0, C1, C2, C3, C4⟩ := lies.two C)
      | ((with_reducible refine (said c6 _).mono ?_); rintro e w6 ⟨rfl, hN⟩; (replace hB := ratlaw.go0 hB hN); (replace A := lies.on_call A hN); (replace C := lies.on_call C hN); clear hN; obtain ⟨A0, A1, A2, A3, A4⟩ := lies.two A; obtain ⟨C0, C1, C2, C3, C4⟩ := lies.two C)
      | ((with_reducible refine (said c7 _).mono ?_); rintro e w7 ⟨rfl, hN⟩; (replace hB := ratlaw.go0 hB hN); (replace A := lies.on_call A hN); (replace C := lies.on_call C hN); clear hN; obtain ⟨A0, A1, A2, A3, A4⟩ := lies.two A; obtain ⟨C0, C1, C2, C3, C4⟩ := lies.two C)
      | ((with_reducible refine (said c8 _).mono ?_); rintro e w8 ⟨rfl, hN⟩; (replace hB := ratlaw.go0 hB hN); (replace A := lies.on_call A hN); (replace C := lies.on_call C hN); clear hN; obtain ⟨A0, A1, A2, A3, A4⟩ := lies.two A; obtain ⟨C0, C1, C2, C3, C4⟩ := lies.two C)
      | ((with_reducible refine (said c9 _).mono ?_); rintro e w9 ⟨rfl, hN⟩; (replace hB := ratlaw.go0 hB hN); clear hN))
    go_ret
    exact ⟨rfl, hB⟩
end Go.Proofs.Ytbmadhejdnkeeaa.ratSides
