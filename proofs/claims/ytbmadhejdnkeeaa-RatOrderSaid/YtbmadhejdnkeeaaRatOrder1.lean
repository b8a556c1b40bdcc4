/-
  The walks of the law RatOrder, over what its calls answer; each theorem names its conditions.
-/
import Derived.Test.YtbmadhejdnkeeaaRatLaw
import Derived.Test.YtbmadhejdnkeeaaRatCmp
namespace Go.Proofs.Ytbmadhejdnkeeaa.ratOrder
open Go.ChangeShapes Go.WideShapes Go.ChangeAt Go.RowKit rmath bound num rat ratlaw
set_option linter.unusedVariables false

set_option maxRecDepth 100000 in
set_option maxHeartbeats 8000000 in
theorem walk_no (a b c d p q k g j h : Int) (w : World)
    (c1 : RowKit.Hid (law.Says 16 #[.agg #[.int .i64 (a), .int .i64 (b)], .agg #[.int .i64 (c), .int .i64 (d)]] (.tuple #[.int .i64 0, .int .i64 8])))
    (c2 : RowKit.Hid (law.Says 16 #[.agg #[.int .i64 (c), .int .i64 (d)], .agg #[.int .i64 (a), .int .i64 (b)]] (.tuple #[.int .i64 0, .int .i64 8])))
    (c3 : RowKit.Hid (law.Says 16 #[.agg #[.int .i64 (c), .int .i64 (d)], .agg #[.int .i64 (p), .int .i64 (q)]] (.tuple #[.int .i64 k, .int .i64 g])))
    (c4 : RowKit.Hid (law.Says 16 #[.agg #[.int .i64 (a), .int .i64 (b)], .agg #[.int .i64 (p), .int .i64 (q)]] (.tuple #[.int .i64 j, .int .i64 h]))) :
    Calls Try.prog 6 #[.agg #[.int .i64 (a), .int .i64 (b)], .agg #[.int .i64 (c), .int .i64 (d)], .agg #[.int .i64 (p), .int .i64 (q)]] w fun e w' => e = .returned (.bool true) ∧ Below w.heap.size w w' := by
  have ka : RowKit.Hid (law.Says 15 #[] (.bool true)) := Lib.hid alive
  have A := lies.on_alloc (lies.on_alloc (lies.made w 23 #[.int .i64 a, .int .i64 b]) (.cells #[.int .i64 c, .int .i64 d] 23)) (.cells #[.int .i64 p, .int .i64 q] 23)
  have C := lies.on_alloc (lies.made (w.alloc (.cells #[.int .i64 a, .int .i64 b] 23)) 23 #[.int .i64 c, .int .i64 d]) (.cells #[.int .i64 p, .int .i64 q] 23)
  have P := lies.made ((w.alloc (.cells #[.int .i64 a, .int .i64 b] 23)).alloc (.cells #[.int .i64 c, .int .i64 d] 23)) 23 #[.int .i64 p, .int .i64 q]
  rw [World.size_alloc] at C
  rw [World.size_alloc, World.size_alloc] at P
  have hB := up3 w (.cells #[.int .i64 a, .int .i64 b] 23) (.cells #[.int .i64 c, .int .i64 d] 23) (.cells #[.int .i64 p, .int .i64 q] 23)
  go_enter Try.func6, Try.ntmps6
  go_wp2_with (first
    | ((with_reducible refine (said ka _).mono ?_); rintro e w0 ⟨rfl, hN⟩; (replace hB := ratlaw.go0 hB hN); (replace A := lies.on_call A hN); (replace C := lies.on_call C hN); (replace P := lies.on_call P hN); clear hN; obtain ⟨A0, A1, A2, A3, A4⟩ := lies.two A; obtain ⟨C0, C1, C2, C3, C4⟩ := lies.two C; obtain ⟨P0, P1, P2, P3, P4⟩ := lies.two P)
    | ((with_reducible refine (said c1 _).mono ?_); rintro e w1 ⟨rfl, hN⟩; (replace hB := ratlaw.go0 hB hN); (replace A := lies.on_call A hN); (replace C := lies.on_call C hN); (replace P := lies.on_call P hN); clear hN; obtain ⟨A0, A1, A2, A3, A4⟩ := lies.two A; obtain ⟨C0, C1, C2, C3, C4⟩ := lies.two C; obtain ⟨P0, P1, P2, P3, P4⟩ := lies.two P)
    | ((with_reducible refine (said c2 _).mono ?_); rintro e w2 ⟨rfl, hN⟩; (replace hB := ratlaw.go0 hB hN); (replace A := lies.on_call A hN); (replace C := lies.on_call C hN); (replace P := lies.on_call P hN); clear hN; obtain ⟨A0, A1, A2, A3, A4⟩ := lies.two A; obtain ⟨C0, C1, C2, C3, C4⟩ := lies.two C; obtain ⟨P0, P1, P2, P3, P4⟩ := lies.two P)
    | ((with_reducible refine (said c3 _).mono ?_); rintro e w3 ⟨rfl, hN⟩; (replace hB := ratlaw.go0 hB hN); (replace A := lies.on_call A hN); (replace C := lies.on_call C hN); (replace P := lies.on_call P hN); clear hN; obtain ⟨A0, A1, A2, A3, A4⟩ := lies.two A; obtain ⟨C0, C1, C2, C3, C4⟩ := lies.two C; obtain ⟨P0, P1, P2, P3, P4⟩ := lies.two P)
    | ((with_reducible refine (said c4 _).mono ?_); rintro e w4 ⟨rfl, hN⟩; (replace hB := ratlaw.go0 hB hN); (replace A := lies.on_call A hN); (replace C := lies.on_call C hN); (replace P := lies.on_call P hN); clear hN; obtain ⟨A0, A1, A2, A3, A4⟩ := lies.two A; obtain ⟨C0, C1, C2, C3, C4⟩ := lies.two C; obtain ⟨P0, P1, P2, P3, P4⟩ := lies.two P))
  go_ret
  exact ⟨rfl, hB⟩

set_option maxRecDepth 100000 in
set_option maxHeartbeats 8000000 in
theorem ne1_bad (a b c d p q n m k g j h : Int) (w : World) (hne : ¬ a = c) (hn : (n = 1 ∧ m = -1) ∨ (n = -1 ∧ m = 1)) (hg : (g != 0) = true)
    (c1 : RowKit.Hid (law.Says 16 #[.agg #[.int .i64 (a), .int .i64 (b)], .agg #[.int .i64 (c), .int .i64 (d)]] (.tuple #[.int .i64 n, .int .i64 0])))
    (c2 : RowKit.Hid (law.Says 16 #[.agg #[.int .i64 (c), .int .i64 (d)], .agg #[.int .i64 (a), .int .i64 (b)]] (.tuple #[.int .i64 m, .int .i64 0])))
    (c3 : RowKit.Hid (law.Says 16 #[.agg #[.int .i64 (c), .int .i64 (d)], .agg #[.int .i64 (p), .int .i64 (q)]] (.tuple #[.int .i64 k, .int .i64 g])))
    (c4 : RowKit.Hid (law.Says 16 #[.agg #[.int .i64 (a), .int .i64 (b)], .agg #[.int .i64 (p), .int .i64 (q)]] (.tuple #[.int .i64 j, .int .i64 h]))) :
    Calls Try.prog 6 #[.agg #[.int .i64 (a), .int .i64 (b)], .agg #[.int .i64 (c), .int .i64 (d)], .agg #[.int .i64 (p), .int .i64 (q)]] w fun e w' => e = .returned (.bool true) ∧ Below w.heap.size w w' := by
  have ka : RowKit.Hid (law.Says 15 #[] (.bool true)) := Lib.hid alive
  have A := lies.on_alloc (lies.on_alloc (lies.made w 23 #[.int .i64 a, .int .i64 b]) (.cells #[.int .i64 c, .int .i64 d] 23)) (.cells #[.int .i64 p, .int .i64 q] 23)
  have C := lies.on_alloc (lies.made (w.alloc (.cells #[.int .i64 a, .int .i64 b] 23)) 23 #[.int .i64 c, .int .i64 d]) (.cells #[.int .i64 p, .int .i64 q] 23)
  have P := lies.made ((w.alloc (.cells #[.int .i64 a, .int .i64 b] 23)).alloc (.cells #[.int .i64 c, .int .i64 d] 23)) 23 #[.int .i64 p, .int .i64 q]
  rw [World.size_alloc] at C
  rw [World.size_alloc, World.size_alloc] at P
  have hB := up3 w (.cells #[.int .i64 a, .int .i64 b] 23) (.cells #[.int .i64 c, .int .i64 d] 23) (.cells #[.int .i64 p, .int .i64 q] 23)
  rcases hn with ⟨rfl, rfl⟩ | ⟨rfl, rfl⟩
  all_goals
    go_enter Try.func6, Try.ntmps6
    go_wp2_with (first
      | ((with_reducible refine (said ka _).mono ?_); rintro e w0 ⟨rfl, hN⟩; (replace hB := ratlaw.go0 hB hN); (replace A := lies.on_call A hN); (replace C := lies.on_call C hN); (replace P := lies.on_call P hN); clear hN; obtain ⟨A0, A1, A2, A3, A4⟩ := lies.two A; obtain ⟨C0, C1, C2, C3, C4⟩ := lies.two C; obtain ⟨P0, P1, P2, P3, P4⟩ := lies.two P)
      | ((with_reducible refine (said c1 _).mono ?_); rintro e w1 ⟨rfl, hN⟩; (replace hB := ratlaw.go0 hB hN); (replace A := lies.on_call A hN); (replace C := lies.on_call C hN); (replace P := lies.on_call P hN); clear hN; obtain ⟨A0, A1, A2, A3, A4⟩ := lies.two A; obtain ⟨C0, C1, C2, C3, C4⟩ := lies.two C; obtain ⟨P0, P1, P2, P3, P4⟩ := lies.two P)
      | ((with_reducible refine (said c2 _).mono ?_); rintro e w2 ⟨rfl, hN⟩; (replace hB := ratlaw.go0 hB hN); (replace A := lies.on_call A hN); (replace C := lies.on_call C hN); (replace P := lies.on_call P hN); clear hN; obtain ⟨A0, A1, A2, A3, A4⟩ := lies.two A; obtain ⟨C0, C1, C2, C3, C4⟩ := lies.two C; obtain ⟨P0, P1, P2, P3, P4⟩ := lies.two P)
      | ((with_reducible refine (said c3 _).mono ?_); rintro e w3 ⟨rfl, hN⟩; (replace hB := ratlaw.go0 hB hN); (replace A := lies.on_call A hN); (replace C := lies.on_call C hN); (replace P := lies.on_call P hN); clear hN; obtain ⟨A0, A1, A2, A3, A4⟩ := lies.two A; obtain ⟨C0, C1, C2, C3, C4⟩ := lies.two C; obtain ⟨P0, P1, P2, P3, P4⟩ := lies.two P)
      | ((with_reducible refine (said c4 _).mono ?_); rintro e w4 ⟨rfl, hN⟩; (replace hB := ratlaw.go0 hB hN); (replace A := lies.on_call A hN); (replace C := lies.on_call C hN); (replace P := lies.on_call P hN); clear hN; obtain ⟨A0, A1, A2, A3, A4⟩ := lies.two A; obtain ⟨C0, C1, C2, C3, C4⟩ := lies.two C; obtain ⟨P0, P1, P2, P3, P4⟩ := lies.two P))
    go_ret
    exact ⟨rfl, hB⟩

set_option maxRecDepth 100000 in
set_option maxHeartbeats 8000000 in
theorem ne1_ok (a b c d p q n m k j X Y I Z T L : Int) (w : World) (hne : ¬ a = c) (hn : (n = 1 ∧ m = -1) ∨ (n = -1 ∧ m = 1 ∧ k = 1) ∨ (n = -1 ∧ m = 1 ∧ k = 0 ∧ j = -1) ∨ (n = -1 ∧ m = 1 ∧ k = -1 ∧ j = -1))
    (c1 : RowKit.Hid (law.Says 16 #[.agg #[.int .i64 (a), .int .i64 (b)], .agg #[.int .i64 (c), .int .i64 (d)]] (.tuple #[.int .i64 n, .int .i64 0])))
    (c2 : RowKit.Hid (law.Says 16 #[.agg #[.int .i64 (c), .int .i64 (d)], .agg #[.int .i64 (a), .int .i64 (b)]] (.tuple #[.int .i64 m, .int .i64 0])))
    (c3 : RowKit.Hid (law.Says 16 #[.agg #[.int .i64 (c), .int .i64 (d)], .agg #[.int .i64 (p), .int .i64 (q)]] (.tuple #[.int .i64 k, .int .i64 0])))
    (c4 : RowKit.Hid (law.Says 16 #[.agg #[.int .i64 (a), .int .i64 (b)], .agg #[.int .i64 (p), .int .i64 (q)]] (.tuple #[.int .i64 j, .int .i64 0])))
    (c5 : RowKit.Hid (law.Says 18 #[.agg #[.int .i64 (a), .int .i64 (b)], .agg #[.int .i64 (p), .int .i64 (q)]] (.tuple #[.agg #[.int .i64 (X), .int .i64 (Y)], .int .i64 I])))
    (c6 : RowKit.Hid (law.Says 18 #[.agg #[.int .i64 (c), .int .i64 (d)], .agg #[.int .i64 (p), .int .i64 (q)]] (.tuple #[.agg #[.int .i64 (Z), .int .i64 (T)], .int .i64 L])))
    (c7 : RowKit.Hid (I = 0 → L = 0 → law.Says 16 #[.agg #[.int .i64 (X), .int .i64 (Y)], .agg #[.int .i64 (Z), .int .i64 (T)]] (.tuple #[.int .i64 n, .int .i64 0]))) :
    Calls Try.prog 6 #[.agg #[.int .i64 (a), .int .i64 (b)], .agg #[.int .i64 (c), .int .i64 (d)], .agg #[.int .i64 (p), .int .i64 (q)]] w fun e w' => e = .returned (.bool true) ∧ Below w.heap.size w w' := by
  have ka : RowKit.Hid (law.Says 15 #[] (.bool true)) := Lib.hid alive
  have twoI : I = 0 ∨ ((I == 0) = false ∧ (I != 0) = true) := by
    by_cases h : I = 0
    · exact .inl h
    · exact .inr (by simp [h])
  have twoL : L = 0 ∨ ((L == 0) = false ∧ (L != 0) = true) := by
    by_cases h : L = 0
    · exact .inl h
    · exact .inr (by simp [h])
  have A := lies.on_alloc (lies.on_alloc (lies.made w 23 #[.int .i64 a, .int .i64 b]) (.cells #[.int .i64 c, .int .i64 d] 23)) (.cells #[.int .i64 p, .int .i64 q] 23)
  have C := lies.on_alloc (lies.made (w.alloc (.cells #[.int .i64 a, .int .i64 b] 23)) 23 #[.int .i64 c, .int .i64 d]) (.cells #[.int .i64 p, .int .i64 q] 23)
  have P := lies.made ((w.alloc (.cells #[.int .i64 a, .int .i64 b] 23)).alloc (.cells #[.int .i64 c, .int .i64 d] 23)) 23 #[.int .i64 p, .int .i64 q]
  rw [World.size_alloc] at C
  rw [World.size_alloc, World.size_alloc] at P
  have hB := up3 w (.cells #[.int .i64 a, .int .i64 b] 23) (.cells #[.int .i64 c, .int .i64 d] 23) (.cells #[.int .i64 p, .int .i64 q] 23)
  rcases hn with ⟨rfl, rfl⟩ | ⟨rfl, rfl, rfl⟩ | ⟨rfl, rfl, rfl, rfl⟩ | ⟨rfl, rfl, rfl, rfl⟩
  all_goals rcases twoI with rfl | ⟨e1, e2⟩
  all_goals (try rcases twoL with rfl | ⟨e3, e4⟩)
  all_goals (try (have c7' := Lib.hid (c7.out rfl rfl)))
  all_goals clear c7
  all_goals
    go_enter Try.func6, Try.ntmps6
    go_wp2_with (first
      | ((with_reducible refine (said ka _).mono ?_); rintro e w0 ⟨rfl, hN⟩; (replace hB := ratlaw.go0 hB hN); (replace A := lies.on_call A hN); (replace C := lies.on_call C hN); (replace P := lies.on_call P hN); clear hN; obtain ⟨A0, A1, A2, A3, A4⟩ := lies.two A; obtain ⟨C0, C1, C2, C3, C4⟩ := lies.two C; obtain ⟨P0, P1, P2, P3, P4⟩ := lies.two P)
      | ((with_reducible refine (said c1 _).mono ?_); rintro e w1 ⟨rfl, hN⟩; (replace hB := ratlaw.go0 hB hN); (replace A := lies.on_call A hN); (replace C := lies.on_call C hN); (replace P := lies.on_call P hN); clear hN; obtain ⟨A0, A1, A2, A3, A4⟩ := lies.two A; obtain ⟨C0, C1, C2, C3, C4⟩ := lies.two C; obtain ⟨P0, P1, P2, P3, P4⟩ := lies.two P)
      | ((with_reducible refine (said c2 _).mono ?_); rintro e w2 ⟨rfl, hN⟩; (replace hB := ratlaw.go0 hB hN); (replace A := lies.on_call A hN); (replace C := lies.on_call C hN); (replace P := lies.on_call P hN); clear hN; obtain ⟨A0, A1, A2, A3, A4⟩ := lies.two A; obtain ⟨C0, C1, C2, C3, C4⟩ := lies.two C; obtain ⟨P0, P1, P2, P3, P4⟩ := lies.two P)
      | ((with_reducible refine (said c3 _).mono ?_); rintro e w3 ⟨rfl, hN⟩; (replace hB := ratlaw.go0 hB hN); (replace A := lies.on_call A hN); (replace C := lies.on_call C hN); (replace P := lies.on_call P hN); clear hN; obtain ⟨A0, A1, A2, A3, A4⟩ := lies.two A; obtain ⟨C0, C1, C2, C3, C4⟩ := lies.two C; obtain ⟨P0, P1, P2, P3, P4⟩ := lies.two P)
      | ((with_reducible refine (said c4 _).mono ?_); rintro e w4 ⟨rfl, hN⟩; (replace hB := ratlaw.go0 hB hN); (replace A := lies.on_call A hN); (replace C := lies.on_call C hN); (replace P := lies.on_call P hN); clear hN; obtain ⟨A0, A1, A2, A3, A4⟩ := lies.two A; obtain ⟨C0, C1, C2, C3, C4⟩ := lies.two C; obtain ⟨P0, P1, P2, P3, P4⟩ := lies.two P)
      | ((with_reducible refine (said c5 _).mono ?_); rintro e w5 ⟨rfl, hN⟩; (replace hB := up (ratlaw.go0 hB hN) (.cells #[.int .i64 X, .int .i64 Y] 23)); (replace A := lies.on_alloc (lies.on_call A hN) (.cells #[.int .i64 X, .int .i64 Y] 23)); (replace C := lies.on_alloc (lies.on_call C hN) (.cells #[.int .i64 X, .int .i64 Y] 23)); (replace P := lies.on_alloc (lies.on_call P hN) (.cells #[.int .i64 X, .int .i64 Y] 23)); clear hN; obtain ⟨A0, A1, A2, A3, A4⟩ := lies.two A; obtain ⟨C0, C1, C2, C3, C4⟩ := lies.two C; obtain ⟨P0, P1, P2, P3, P4⟩ := lies.two P; have U := lies.made w5 23 #[.int .i64 X, .int .i64 Y])
      | ((with_reducible refine (said c6 _).mono ?_); rintro e w6 ⟨rfl, hN⟩; (replace hB := up (ratlaw.go0 hB hN) (.cells #[.int .i64 Z, .int .i64 T] 23)); (replace U := lies.on_alloc (lies.on_call U hN) (.cells #[.int .i64 Z, .int .i64 T] 23)); clear hN; obtain ⟨U0, U1, U2, U3, U4⟩ := lies.two U)
      | ((with_reducible refine (said c7' _).mono ?_); rintro e w7 ⟨rfl, hN⟩; (replace hB := ratlaw.go0 hB hN); clear hN))
    go_ret
    exact ⟨rfl, hB⟩

set_option maxRecDepth 100000 in
set_option maxHeartbeats 8000000 in
theorem ne2_bad (a b d p q n m k g j h : Int) (w : World) (hne : ¬ b = d) (hn : (n = 1 ∧ m = -1) ∨ (n = -1 ∧ m = 1)) (hg : (g != 0) = true)
    (c1 : RowKit.Hid (law.Says 16 #[.agg #[.int .i64 (a), .int .i64 (b)], .agg #[.int .i64 (a), .int .i64 (d)]] (.tuple #[.int .i64 n, .int .i64 0])))
    (c2 : RowKit.Hid (law.Says 16 #[.agg #[.int .i64 (a), .int .i64 (d)], .agg #[.int .i64 (a), .int .i64 (b)]] (.tuple #[.int .i64 m, .int .i64 0])))
    (c3 : RowKit.Hid (law.Says 16 #[.agg #[.int .i64 (a), .int .i64 (d)], .agg #[.int .i64 (p), .int .i64 (q)]] (.tuple #[.int .i64 k, .int .i64 g])))
    (c4 : RowKit.Hid (law.Says 16 #[.agg #[.int .i64 (a), .int .i64 (b)], .agg #[.int .i64 (p), .int .i64 (q)]] (.tuple #[.int .i64 j, .int .i64 h]))) :
    Calls Try.prog 6 #[.agg #[.int .i64 (a), .int .i64 (b)], .agg #[.int .i64 (a), .int .i64 (d)], .agg #[.int .i64 (p), .int .i64 (q)]] w fun e w' => e = .returned (.bool true) ∧ Below w.heap.size w w' := by
  have ka : RowKit.Hid (law.Says 15 #[] (.bool true)) := Lib.hid alive
  have A := lies.on_alloc (lies.on_alloc (lies.made w 23 #[.int .i64 a, .int .i64 b]) (.cells #[.int .i64 a, .int .i64 d] 23)) (.cells #[.int .i64 p, .int .i64 q] 23)
  have C := lies.on_alloc (lies.made (w.alloc (.cells #[.int .i64 a, .int .i64 b] 23)) 23 #[.int .i64 a, .int .i64 d]) (.cells #[.int .i64 p, .int .i64 q] 23)
  have P := lies.made ((w.alloc (.cells #[.int .i64 a, .int .i64 b] 23)).alloc (.cells #[.int .i64 a, .int .i64 d] 23)) 23 #[.int .i64 p, .int .i64 q]
  rw [World.size_alloc] at C
  rw [World.size_alloc, World.size_alloc] at P
  have hB := up3 w (.cells #[.int .i64 a, .int .i64 b] 23) (.cells #[.int .i64 a, .int .i64 d] 23) (.cells #[.int .i64 p, .int .i64 q] 23)
  rcases hn with ⟨rfl, rfl⟩ | ⟨rfl, rfl⟩
  all_goals
    go_enter Try.func6, Try.ntmps6
    go_wp2_with (first
      | ((with_reducible refine (said ka _).mono ?_); rintro e w0 ⟨rfl, hN⟩; (replace hB := ratlaw.go0 hB hN); (replace A := lies.on_call A hN); (replace C := lies.on_call C hN); (replace P := lies.on_call P hN); clear hN; obtain ⟨A0, A1, A2, A3, A4⟩ := lies.two A; obtain ⟨C0, C1, C2, C3, C4⟩ := lies.two C; obtain ⟨P0, P1, P2, P3, P4⟩ := lies.two P)
      | ((with_reducible refine (said c1 _).mono ?_); rintro e w1 ⟨rfl, hN⟩; (replace hB := ratlaw.go0 hB hN); (replace A := lies.on_call A hN); (replace C := lies.on_call C hN); (replace P := lies.on_call P hN); clear hN; obtain ⟨A0, A1, A2, A3, A4⟩ := lies.two A; obtain ⟨C0, C1, C2, C3, C4⟩ := lies.two C; obtain ⟨P0, P1, P2, P3, P4⟩ := lies.two P)
      | ((with_reducible refine (said c2 _).mono ?_); rintro e w2 ⟨rfl, hN⟩; (replace hB := ratlaw.go0 hB hN); (replace A := lies.on_call A hN); (replace C := lies.on_call C hN); (replace P := lies.on_call P hN); clear hN; obtain ⟨A0, A1, A2, A3, A4⟩ := lies.two A; obtain ⟨C0, C1, C2, C3, C4⟩ := lies.two C; obtain ⟨P0, P1, P2, P3, P4⟩ := lies.two P)
      | ((with_reducible refine (said c3 _).mono ?_); rintro e w3 ⟨rfl, hN⟩; (replace hB := ratlaw.go0 hB hN); (replace A := lies.on_call A hN); (replace C := lies.on_call C hN); (replace P := lies.on_call P hN); clear hN; obtain ⟨A0, A1, A2, A3, A4⟩ := lies.two A; obtain ⟨C0, C1, C2, C3, C4⟩ := lies.two C; obtain ⟨P0, P1, P2, P3, P4⟩ := lies.two P)
      | ((with_reducible refine (said c4 _).mono ?_); rintro e w4 ⟨rfl, hN⟩; (replace hB := ratlaw.go0 hB hN); (replace A := lies.on_call A hN); (replace C := lies.on_call C hN); (replace P := lies.on_call P hN); clear hN; obtain ⟨A0, A1, A2, A3, A4⟩ := lies.two A; obtain ⟨C0, C1, C2, C3, C4⟩ := lies.two C; obtain ⟨P0, P1, P2, P3, P4⟩ := lies.two P))
    go_ret
    exact ⟨rfl, hB⟩

set_option maxRecDepth 100000 in
set_option maxHeartbeats 8000000 in
theorem ne2_ok (a b d p q n m k j X Y I Z T L : Int) (w : World) (hne : ¬ b = d) (hn : (n = 1 ∧ m = -1) ∨ (n = -1 ∧ m = 1 ∧ k = 1) ∨ (n = -1 ∧ m = 1 ∧ k = 0 ∧ j = -1) ∨ (n = -1 ∧ m = 1 ∧ k = -1 ∧ j = -1))
    (c1 : RowKit.Hid (law.Says 16 #[.agg #[.int .i64 (a), .int .i64 (b)], .agg #[.int .i64 (a), .int .i64 (d)]] (.tuple #[.int .i64 n, .int .i64 0])))
    (c2 : RowKit.Hid (law.Says 16 #[.agg #[.int .i64 (a), .int .i64 (d)], .agg #[.int .i64 (a), .int .i64 (b)]] (.tuple #[.int .i64 m, .int .i64 0])))
    (c3 : RowKit.Hid (law.Says 16 #[.agg #[.int .i64 (a), .int .i64 (d)], .agg #[.int .i64 (p), .int .i64 (q)]] (.tuple #[.int .i64 k, .int .i64 0])))
    (c4 : RowKit.Hid (law.Says 16 #[.agg #[.int .i64 (a), .int .i64 (b)], .agg #[.int .i64 (p), .int .i64 (q)]] (.tuple #[.int .i64 j, .int .i64 0])))
    (c5 : RowKit.Hid (law.Says 18 #[.agg #[.int .i64 (a), .int .i64 (b)], .agg #[.int .i64 (p), .int .i64 (q)]] (.tuple #[.agg #[.int .i64 (X), .int .i64 (Y)], .int .i64 I])))
    (c6 : RowKit.Hid (law.Says 18 #[.agg #[.int .i64 (a), .int .i64 (d)], .agg #[.int .i64 (p), .int .i64 (q)]] (.tuple #[.agg #[.int .i64 (Z), .int .i64 (T)], .int .i64 L])))
    (c7 : RowKit.Hid (I = 0 → L = 0 → law.Says 16 #[.agg #[.int .i64 (X), .int .i64 (Y)], .agg #[.int .i64 (Z), .int .i64 (T)]] (.tuple #[.int .i64 n, .int .i64 0]))) :
    Calls Try.prog 6 #[.agg #[.int .i64 (a), .int .i64 (b)], .agg #[.int .i64 (a), .int .i64 (d)], .agg #[.int .i64 (p), .int .i64 (q)]] w fun e w' => e = .returned (.bool true) ∧ Below w.heap.size w w' := by
  have ka : RowKit.Hid (law.Says 15 #[] (.bool true)) := Lib.hid alive
  have twoI : I = 0 ∨ ((I == 0) = false ∧ (I != 0) = true) := by
    by_cases h : I = 0
    · exact .inl h
    · exact .inr (by simp [h])
  have twoL : L = 0 ∨ ((L == 0) = false ∧ (L != 0) = true) := by
    by_cases h : L = 0
    · exact .inl h
    · exact .inr (by simp [h])
  have A := lies.on_alloc (lies.on_alloc (lies.made w 23 #[.int .i64 a, .int .i64 b]) (.cells #[.int .i64 a, .int .i64 d] 23)) (.cells #[.int .i64 p, .int .i64 q] 23)
  have C := lies.on_alloc (lies.made (w.alloc (.cells #[.int .i64 a, .int .i64 b] 23)) 23 #[.int .i64 a, .int .i64 d]) (.cells #[.int .i64 p, .int .i64 q] 23)
  have P := lies.made ((w.alloc (.cells #[.int .i64 a, .int .i64 b] 23)).alloc (.cells #[.int .i64 a, .int .i64 d] 23)) 23 #[.int .i64 p, .int .i64 q]
  rw [World.size_alloc] at C
  rw [World.size_alloc, World.size_alloc] at P
  have hB := up3 w (.cells #[.int .i64 a, .int .i64 b] 23) (.cells #[.int .i64 a, .int .i64 d] 23) (.cells #[.int .i64 p, .int .i64 q] 23)
  rcases hn with ⟨rfl, rfl⟩ | ⟨rfl, rfl, rfl⟩ | ⟨rfl, rfl, rfl, rfl⟩ | ⟨rfl, rfl, rfl, rfl⟩
  all_goals rcases twoI with rfl | ⟨e1, e2⟩
  all_goals (try rcases twoL with rfl | ⟨e3, e4⟩)
  all_goals (try (have c7' := Lib.hid (c7.out rfl rfl)))
  all_goals clear c7
  all_goals
    go_enter Try.func6, Try.ntmps6
    go_wp2_with (first
      | ((with_reducible refine (said ka _).mono ?_); rintro e w0 ⟨rfl, hN⟩; (replace hB := ratlaw.go0 hB hN); (replace A := lies.on_call A hN); (replace C := lies.on_call C hN); (replace P := lies.on_call P hN); clear hN; obtain ⟨A0, A1, A2, A3, A4⟩ := lies.two A; obtain ⟨C0, C1, C2, C3, C4⟩ := lies.two C; obtain ⟨P0, P1, P2, P3, P4⟩ := lies.two P)
      | ((with_reducible refine (said c1 _).mono ?_); rintro e w1 ⟨rfl, hN⟩; (replace hB := ratlaw.go0 hB hN); (replace A := lies.on_call A hN); (replace C := lies.on_call C hN); (replace P := lies.on_call P hN); clear hN; obtain ⟨A0, A1, A2, A3, A4⟩ := lies.two A; obtain ⟨C0, C1, C2, C3, C4⟩ := lies.two C; obtain ⟨P0, P1, P2, P3, P4⟩ := lies.two P)
      | ((with_reducible refine (said c2 _).mono ?_); rintro e w2 ⟨rfl, hN⟩; (replace hB := ratlaw.go0 hB hN); (replace A := lies.on_call A hN); (replace C := lies.on_call C hN); (replace P := lies.on_call P hN); clear hN; obtain ⟨A0, A1, A2, A3, A4⟩ := lies.two A; obtain ⟨C0, C1, C2, C3, C4⟩ := lies.two C; obtain ⟨P0, P1, P2, P3, P4⟩ := lies.two P)
      | ((with_reducible refine (said c3 _).mono ?_); rintro e w3 ⟨rfl, hN⟩; (replace hB := ratlaw.go0 hB hN); (replace A := lies.on_call A hN); (replace C := lies.on_call C hN); (replace P := lies.on_call P hN); clear hN; obtain ⟨A0, A1, A2, A3, A4⟩ := lies.two A; obtain ⟨C0, C1, C2, C3, C4⟩ := lies.two C; obtain ⟨P0, P1, P2, P3, P4⟩ := lies.two P)
      | ((with_reducible refine (said c4 _).mono ?_); rintro e w4 ⟨rfl, hN⟩; (replace hB := ratlaw.go0 hB hN); (replace A := lies.on_call A hN); (replace C := lies.on_call C hN); (replace P := lies.on_call P hN); clear hN; obtain ⟨A0, A1, A2, A3, A4⟩ := lies.two A; obtain ⟨C0, C1, C2, C3, C4⟩ := lies.two C; obtain ⟨P0, P1, P2, P3, P4⟩ := lies.two P)
      | ((with_reducible refine (said c5 _).mono ?_); rintro e w5 ⟨rfl, hN⟩; (replace hB := up (ratlaw.go0 hB hN) (.cells #[.int .i64 X, .int .i64 Y] 23)); (replace A := lies.on_alloc (lies.on_call A hN) (.cells #[.int .i64 X, .int .i64 Y] 23)); (replace C := lies.on_alloc (lies.on_call C hN) (.cells #[.int .i64 X, .int .i64 Y] 23)); (replace P := lies.on_alloc (lies.on_call P hN) (.cells #[.int .i64 X, .int .i64 Y] 23)); clear hN; obtain ⟨A0, A1, A2, A3, A4⟩ := lies.two A; obtain ⟨C0, C1, C2, C3, C4⟩ := lies.two C; obtain ⟨P0, P1, P2, P3, P4⟩ := lies.two P; have U := lies.made w5 23 #[.int .i64 X, .int .i64 Y])
      | ((with_reducible refine (said c6 _).mono ?_); rintro e w6 ⟨rfl, hN⟩; (replace hB := up (ratlaw.go0 hB hN) (.cells #[.int .i64 Z, .int .i64 T] 23)); (replace U := lies.on_alloc (lies.on_call U hN) (.cells #[.int .i64 Z, .int .i64 T] 23)); clear hN; obtain ⟨U0, U1, U2, U3, U4⟩ := lies.two U)
      | ((with_reducible refine (said c7' _).mono ?_); rintro e w7 ⟨rfl, hN⟩; (replace hB := ratlaw.go0 hB hN); clear hN))
    go_ret
    exact ⟨rfl, hB⟩

set_option maxRecDepth 100000 in
set_option maxHeartbeats 8000000 in
theorem same (a b p q k g X Y I : Int) (w : World) (hg : (g != 0) = true ∨ (g = 0 ∧ k = 1) ∨ (g = 0 ∧ k = 0) ∨ (g = 0 ∧ k = -1))
    (c1 : RowKit.Hid (law.Says 16 #[.agg #[.int .i64 (a), .int .i64 (b)], .agg #[.int .i64 (a), .int .i64 (b)]] (.tuple #[.int .i64 0, .int .i64 0])))
    (c3 : RowKit.Hid (law.Says 16 #[.agg #[.int .i64 (a), .int .i64 (b)], .agg #[.int .i64 (p), .int .i64 (q)]] (.tuple #[.int .i64 k, .int .i64 g])))
    (c5 : RowKit.Hid (law.Says 18 #[.agg #[.int .i64 (a), .int .i64 (b)], .agg #[.int .i64 (p), .int .i64 (q)]] (.tuple #[.agg #[.int .i64 (X), .int .i64 (Y)], .int .i64 I])))
    (c7 : RowKit.Hid (I = 0 → law.Says 16 #[.agg #[.int .i64 (X), .int .i64 (Y)], .agg #[.int .i64 (X), .int .i64 (Y)]] (.tuple #[.int .i64 0, .int .i64 0]))) :
    Calls Try.prog 6 #[.agg #[.int .i64 (a), .int .i64 (b)], .agg #[.int .i64 (a), .int .i64 (b)], .agg #[.int .i64 (p), .int .i64 (q)]] w fun e w' => e = .returned (.bool true) ∧ Below w.heap.size w w' := by
  have ka : RowKit.Hid (law.Says 15 #[] (.bool true)) := Lib.hid alive
  have twoI : I = 0 ∨ ((I == 0) = false ∧ (I != 0) = true) := by
    by_cases h : I = 0
    · exact .inl h
    · exact .inr (by simp [h])
  have A := lies.on_alloc (lies.on_alloc (lies.made w 23 #[.int .i64 a, .int .i64 b]) (.cells #[.int .i64 a, .int .i64 b] 23)) (.cells #[.int .i64 p, .int .i64 q] 23)
  have C := lies.on_alloc (lies.made (w.alloc (.cells #[.int .i64 a, .int .i64 b] 23)) 23 #[.int .i64 a, .int .i64 b]) (.cells #[.int .i64 p, .int .i64 q] 23)
  have P := lies.made ((w.alloc (.cells #[.int .i64 a, .int .i64 b] 23)).alloc (.cells #[.int .i64 a, .int .i64 b] 23)) 23 #[.int .i64 p, .int .i64 q]
  rw [World.size_alloc] at C
  rw [World.size_alloc, World.size_alloc] at P
  have hB := up3 w (.cells #[.int .i64 a, .int .i64 b] 23) (.cells #[.int .i64 a, .int .i64 b] 23) (.cells #[.int .i64 p, .int .i64 q] 23)
  rcases hg with hg | ⟨rfl, rfl⟩ | ⟨rfl, rfl⟩ | ⟨rfl, rfl⟩
  all_goals rcases twoI with rfl | ⟨e1, e2⟩
  all_goals (try (have c7' := Lib.hid (c7.out rfl)))
  all_goals clear c7
  all_goals
    go_enter Try.func6, Try.ntmps6
    go_wp2_with (first
      | ((with_reducible refine (said ka _).mono ?_); rintro e w0 ⟨rfl, hN⟩; (replace hB := ratlaw.go0 hB hN); (replace A := lies.on_call A hN); (replace C := lies.on_call C hN); (replace P := lies.on_call P hN); clear hN; obtain ⟨A0, A1, A2, A3, A4⟩ := lies.two A; obtain ⟨C0, C1, C2, C3, C4⟩ := lies.two C; obtain ⟨P0, P1, P2, P3, P4⟩ := lies.two P)
      | ((with_reducible refine (said c1 _).mono ?_); rintro e w1 ⟨rfl, hN⟩; (replace hB := ratlaw.go0 hB hN); (replace A := lies.on_call A hN); (replace C := lies.on_call C hN); (replace P := lies.on_call P hN); clear hN; obtain ⟨A0, A1, A2, A3, A4⟩ := lies.two A; obtain ⟨C0, C1, C2, C3, C4⟩ := lies.two C; obtain ⟨P0, P1, P2, P3, P4⟩ := lies.two P)
      | ((with_reducible refine (said c3 _).mono ?_); rintro e w3 ⟨rfl, hN⟩; (replace hB := ratlaw.go0 hB hN); (replace A := lies.on_call A hN); (replace C := lies.on_call C hN); (replace P := lies.on_call P hN); clear hN; obtain ⟨A0, A1, A2, A3, A4⟩ := lies.two A; obtain ⟨C0, C1, C2, C3, C4⟩ := lies.two C; obtain ⟨P0, P1, P2, P3, P4⟩ := lies.two P)
      | ((with_reducible refine (said c5 _).mono ?_); rintro e w6 ⟨rfl, hN⟩; (replace hB := up (ratlaw.go0 hB hN) (.cells #[.int .i64 X, .int .i64 Y] 23)); (replace U := lies.on_alloc (lies.on_call U hN) (.cells #[.int .i64 X, .int .i64 Y] 23)); clear hN; obtain ⟨U0, U1, U2, U3, U4⟩ := lies.two U)
      | ((with_reducible refine (said c5 _).mono ?_); rintro e w5 ⟨rfl, hN⟩; (replace hB := up (ratlaw.go0 hB hN) (.cells #[.int .i64 X, .int .i64 Y] 23)); (replace A := lies.on_alloc (lies.on_call A hN) (.cells #[.int .i64 X, .int .i64 Y] 23)); (replace C := lies.on_alloc (lies.on_call C hN) (.cells #[.int .i64 X, .int .i64 Y] 23)); (replace P := lies.on_alloc (lies.on_call P hN) (.cells #[.int .i64 X, .int .i64 Y] 23)); clear hN; obtain ⟨A0, A1, A2, A3, A4⟩ := lies.two A; obtain ⟨C0, C1, C2, C3, C4⟩ := lies.two C; obtain ⟨P0, P1, P2, P3, P4⟩ := lies.two P; have U := lies.made w5 23 #[.int .i64 X, .int .i64 Y])
      | ((with_reducible refine (said c7' _).mono ?_); rintro e w7 ⟨rfl, hN⟩; (replace hB := ratlaw.go0 hB hN); clear hN))
    go_ret
    exact ⟨rfl, hB⟩
end Go.Proofs.Ytbmadhejdnkeeaa.ratOrder
