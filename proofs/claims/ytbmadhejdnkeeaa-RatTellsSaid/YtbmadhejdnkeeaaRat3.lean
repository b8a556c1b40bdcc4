/-
  What checkBoth, Floor, lowest and Of of package rat answer, for every fraction and number; each theorem names its conditions.
-/
import Derived.Test.YtbmadhejdnkeeaaRat2
import Derived.Test.YtbmadhejdnkeeaaLies
namespace Go.Proofs.Ytbmadhejdnkeeaa.rat
open Go.ChangeShapes Go.WideShapes Go.ChangeAt Go.RowKit rmath bound num
set_option linter.unusedVariables false

/-- a call's answer, at a world. -/
theorem said {f : FuncId} {args : Array Value} {v : Value} (h : RowKit.Hid (law.Says f args v)) (w : World) : Calls Try.prog f args w fun e w' => e = .returned v ∧ Below w.heap.size w w' := h.out w

theorem both_ok (a b c d : Int) (w : World) (a1 : -9223372036854775808 ≤ a) (a2 : a ≤ 9223372036854775807) (c1 : -9223372036854775808 ≤ c) (c2 : c ≤ 9223372036854775807) (h : MayR a b) (k : MayR c d) :
    Calls Try.prog 31 #[.agg #[.int .i64 (a), .int .i64 (b)], .agg #[.int .i64 (c), .int .i64 (d)]] w fun e w' => e = .returned (.int .i64 0) ∧ Below w.heap.size w w' := by
  have H := Lib.hid h
  have K := Lib.hid k
  clear h k
  go_enter Try.func31, Try.ntmps31
  go_wp2_with (go_at_call 23; first | ((with_reducible refine (check3_ok a b _ a1 a2 H.out).mono ?_); rintro e w1 ⟨rfl, hB1⟩; obtain ⟨hc1, hf1⟩ := bcell hB1) | ((with_reducible refine (check3_ok c d _ c1 c2 K.out).mono ?_); rintro e w2 ⟨rfl, hB2⟩))
  go_ret
  exact ⟨rfl, later (later (up2 _ _ _) hB1) hB2⟩
theorem both_no1 (a b c d : Int) (w : World) (a1 : -9223372036854775808 ≤ a) (a2 : a ≤ 9223372036854775807) (h : ¬ MayR a b) :
    Calls Try.prog 31 #[.agg #[.int .i64 (a), .int .i64 (b)], .agg #[.int .i64 (c), .int .i64 (d)]] w fun e w' => e = .returned (.int .i64 8) ∧ Below w.heap.size w w' := by
  have H := Lib.hid h
  clear h
  go_enter Try.func31, Try.ntmps31
  go_wp2_with (go_at_call 23; (refine (check3_no _ _ _ a1 a2 H.out).mono ?_; rintro e w1 ⟨rfl, hB1⟩; obtain ⟨hc1, hf1⟩ := bcell hB1))
  go_ret
  exact ⟨rfl, later (up2 _ _ _) hB1⟩
theorem both_no2 (a b c d : Int) (w : World) (a1 : -9223372036854775808 ≤ a) (a2 : a ≤ 9223372036854775807) (c1 : -9223372036854775808 ≤ c) (c2 : c ≤ 9223372036854775807) (h : MayR a b) (k : ¬ MayR c d) :
    Calls Try.prog 31 #[.agg #[.int .i64 (a), .int .i64 (b)], .agg #[.int .i64 (c), .int .i64 (d)]] w fun e w' => e = .returned (.int .i64 8) ∧ Below w.heap.size w w' := by
  have H := Lib.hid h
  have K := Lib.hid k
  clear h k
  go_enter Try.func31, Try.ntmps31
  go_wp2_with (go_at_call 23; first | ((with_reducible refine (check3_ok a b _ a1 a2 H.out).mono ?_); rintro e w1 ⟨rfl, hB1⟩; obtain ⟨hc1, hf1⟩ := bcell hB1) | ((with_reducible refine (check3_no c d _ c1 c2 K.out).mono ?_); rintro e w2 ⟨rfl, hB2⟩))
  go_ret
  exact ⟨rfl, later (later (up2 _ _ _) hB1) hB2⟩

/-- may both be? -/
def Both (a b c d : Int) : Prop := MayR a b ∧ MayR c d
instance (a b c d : Int) : Decidable (Both a b c d) := inferInstanceAs (Decidable (_ ∧ _))
theorem both_no (a b c d : Int) (w : World) (a1 : -9223372036854775808 ≤ a) (a2 : a ≤ 9223372036854775807) (c1 : -9223372036854775808 ≤ c) (c2 : c ≤ 9223372036854775807) (h : ¬ Both a b c d) :
    Calls Try.prog 31 #[.agg #[.int .i64 (a), .int .i64 (b)], .agg #[.int .i64 (c), .int .i64 (d)]] w fun e w' => e = .returned (.int .i64 8) ∧ Below w.heap.size w w' := by
  by_cases k : MayR a b
  · exact both_no2 a b c d w a1 a2 c1 c2 k (fun k' => h ⟨k, k'⟩)
  · exact both_no1 a b c d w a1 a2 k

/-- is a fraction whole? -/
def wholeB (n d : Int) : Bool := decide (n % d = 0)
theorem floor_ok (n d : Int) (w : World) (n1 : -9223372036854775808 ≤ n) (n2 : n ≤ 9223372036854775807) (h : MayR n d) :
    Calls Try.prog 14 #[.agg #[.int .i64 (n), .int .i64 (d)]] w fun e w' => e = .returned (.tuple #[.int .i64 (n / d), .bool (wholeB n d), .int .i64 0]) ∧ Below w.heap.size w w' := by
  have H := Lib.hid h
  have d1 := h.1
  have d2 := h.2.1
  clear h
  unfold wholeB
  go_enter Try.func14, Try.ntmps14
  go_wp2_with (first | (go_at_call 23; refine (check3_ok _ _ _ n1 n2 H.out).mono ?_; rintro e w1 ⟨rfl, hB1⟩; obtain ⟨hc1, hf1⟩ := bcell hB1) | (go_at_call 37; refine (split_any _ _ _ (by omega) (by omega) (by omega) (by omega)).mono ?_; rintro e w2 ⟨rfl, q1, rfl⟩))
  exact bodyPost_ret (v := .tuple #[.int .i64 (n / d), .bool (decide (n % d = 0)), .int .i64 0]) (by simp [results, Try.results14, go_sem]; rfl) rfl ⟨rfl, drawn (later (up1 _ _) hB1) _⟩
theorem floor_no (n d : Int) (w : World) (n1 : -9223372036854775808 ≤ n) (n2 : n ≤ 9223372036854775807) (h : ¬ MayR n d) :
    Calls Try.prog 14 #[.agg #[.int .i64 (n), .int .i64 (d)]] w fun e w' => e = .returned (.tuple #[.int .i64 0, .bool false, .int .i64 8]) ∧ Below w.heap.size w w' := by
  have H := Lib.hid h
  clear h
  go_enter Try.func14, Try.ntmps14
  go_wp2_with (go_at_call 23; refine (check3_no _ _ _ n1 n2 H.out).mono ?_; rintro e w1 ⟨rfl, hB1⟩; obtain ⟨hc1, hf1⟩ := bcell hB1)
  exact bodyPost_ret (v := .tuple #[.int .i64 0, .bool false, .int .i64 8]) (by simp [results, Try.results14, go_sem]) rfl ⟨rfl, later (up1 _ _) hB1⟩

/-- in lowest terms. -/
def lowP (V D : Int) : Int := V / gcdI V D
def lowQ (V D : Int) : Int := D / gcdI V D
/-- may what is in lowest terms be? -/
def lowOk (V D : Int) : Prop := -9223372036854775808 ≤ lowP V D ∧ lowP V D ≤ 9223372036854775807 ∧ MayR (lowP V D) (lowQ V D)
instance (V D : Int) : Decidable (lowOk V D) := inferInstanceAs (Decidable (_ ∧ _ ∧ _))
theorem gcd_pos (V D : Int) (h : 1 ≤ D) : 1 ≤ gcdI V D := by
  have := Int.gcd_pos_of_ne_zero_right V (show D ≠ 0 by omega)
  unfold gcdI
  omega
theorem gcd_le (V D : Int) (h : 1 ≤ D) : gcdI V D ≤ D := Int.le_of_dvd (by omega) (Int.gcd_dvd_right V D)
theorem div_abs (V g : Int) (h : 1 ≤ g) (v1 : -170141183460469231731687303715884105728 ≤ V) (v2 : V ≤ 170141183460469231731687303715884105727) : -170141183460469231731687303715884105728 ≤ V / g ∧ V / g ≤ 170141183460469231731687303715884105727 := by
  constructor
  · exact (le_div V g _ h).2 (by omega)
  · exact Int.le_of_lt_add_one (Int.ediv_lt_of_lt_mul (by omega) (by omega))

set_option maxHeartbeats 1000000 in
theorem lowest_ok (V D g P Q L : Int) (w : World) (D1 : 1 ≤ D) (D2 : D ≤ 9223372036854775807) (v1 : -170141183460469231731687303715884105728 ≤ V) (v2 : V ≤ 170141183460469231731687303715884105727)
    (g1 : 1 ≤ g) (g2 : g ≤ D) (L1 : 0 ≤ L) (L2 : L < D) (eL : RowKit.Hid (V % D = L)) (eg : RowKit.Hid (gcdI D L = g)) (eP : RowKit.Hid (V / g = P)) (eQ : D / g = Q) (q1 : 1 ≤ Q) (q2 : Q ≤ D)
    (p1 : -9223372036854775808 ≤ P) (p2 : P ≤ 9223372036854775807) (m : RowKit.Hid (MayR P Q)) :
    Calls Try.prog 28 #[.agg #[.int .i64 ((V) / 18446744073709551616), .int .u64 ((V) % 18446744073709551616)], .int .i64 D] w fun e w' => e = .returned (.tuple #[.agg #[.int .i64 (P), .int .i64 (Q)], .int .i64 0]) ∧ Below w.heap.size w w' := by
  have cD : RowKit.Hid (law.Says 53 #[.agg #[.int .i64 ((V) / 18446744073709551616), .int .u64 ((V) % 18446744073709551616)], .int .i64 D] (.tuple #[.agg #[.int .i64 ((V / D) / 18446744073709551616), .int .u64 ((V / D) % 18446744073709551616)], .int .i64 L])) := Lib.hid (fun w => by rw [← eL.out]; exact by_any V D w (by omega) (by omega) (by omega) (by omega))
  have cg : RowKit.Hid (law.Says 53 #[.agg #[.int .i64 ((V) / 18446744073709551616), .int .u64 ((V) % 18446744073709551616)], .int .i64 g] (.tuple #[.agg #[.int .i64 ((P) / 18446744073709551616), .int .u64 ((P) % 18446744073709551616)], .int .i64 (V % g)])) := Lib.hid (fun w => by rw [← eP.out]; exact by_any V g w (by omega) (by omega) (by omega) (by omega))
  have b0 := lies.on_alloc (lies.made w 59 #[.int .i64 (V / 18446744073709551616), .int .u64 (V % 18446744073709551616)]) (.cells #[.int .i64 0, .int .i64 0] 23)
  have r0 := lies.made (w.alloc (.cells #[.int .i64 (V / 18446744073709551616), .int .u64 (V % 18446744073709551616)] 59)) 23 #[.int .i64 0, .int .i64 0]
  rw [World.size_alloc] at r0
  go_enter Try.func28, Try.ntmps28
  go_wp2_with (first
    | ((with_reducible refine (said cD _).mono ?_); rintro e w1 ⟨rfl, hB1⟩; have b1 := lies.on_call b0 hB1; have r1 := lies.on_call r0 hB1; obtain ⟨c10, c11, f10, f11, l1⟩ := lies.two b1; obtain ⟨d10, d11, g10, g11, m1⟩ := lies.two r1)
    | (go_at_call 48; refine (divisor_any _ _ _ (by omega) (by omega) (by omega) (by omega)).mono ?_; rintro e w2 ⟨rfl, k1, rfl⟩; rw [eg.out])
    | ((with_reducible refine (said cg _).mono ?_); rintro e w3 ⟨rfl, hB3⟩; have b3 := lies.on_call (lies.on_draw (lies.on_alloc b1 _) _) hB3; have r3 := lies.on_call (lies.on_draw (lies.on_alloc r1 _) _) hB3; obtain ⟨c30, c31, f30, f31, l3⟩ := lies.two b3; obtain ⟨d30, d31, g30, g31, m3⟩ := lies.two r3)
    | (go_at_call 54; refine (number_ok P _ (by omega) (by omega)).mono ?_; rintro e w4 ⟨rfl, hB4⟩; have r4 := lies.on_call (lies.on_far (lies.on_far r3 0 (by omega) _) 1 (by omega) _) hB4; obtain ⟨d40, d41, g40, g41, m4⟩ := lies.two r4)
    | (go_at_call 23; refine (check3_ok _ _ _ p1 p2 m.out).mono ?_; rintro e w5 ⟨rfl, hB5⟩; have r5 := lies.on_call (lies.on_alloc r4 _) hB5; obtain ⟨d50, d51, g50, g51, m5⟩ := lies.two r5; have q5 := lies.on_call (lies.made w4 23 #[.int .i64 P, .int .i64 Q]) hB5; obtain ⟨e50, e51, h50, h51, n5⟩ := lies.two q5))
  exact bodyPost_ret (v := .tuple #[.agg #[.int .i64 (P), .int .i64 (Q)], .int .i64 0]) (by simp [results, Try.results28, go_sem, d50, d51]) rfl ⟨rfl, (((later (up (later (((later (drawn (up (later (up2 _ _ _) hB1) _) _) hB3).setCell (Nat.le_refl _) _).setCell (Nat.le_refl _) _) hB4) _) hB5).setCell (Nat.le_succ _) _).setCell (Nat.le_succ _) _)⟩
set_option maxHeartbeats 1000000 in
theorem lowest_bad (V D g P Q L : Int) (w : World) (D1 : 1 ≤ D) (D2 : D ≤ 9223372036854775807) (v1 : -170141183460469231731687303715884105728 ≤ V) (v2 : V ≤ 170141183460469231731687303715884105727)
    (g1 : 1 ≤ g) (g2 : g ≤ D) (L1 : 0 ≤ L) (L2 : L < D) (eL : RowKit.Hid (V % D = L)) (eg : RowKit.Hid (gcdI D L = g)) (eP : RowKit.Hid (V / g = P)) (eQ : D / g = Q) (q1 : 1 ≤ Q) (q2 : Q ≤ D)
    (p1 : -9223372036854775808 ≤ P) (p2 : P ≤ 9223372036854775807) (m : RowKit.Hid (¬ MayR P Q)) :
    Calls Try.prog 28 #[.agg #[.int .i64 ((V) / 18446744073709551616), .int .u64 ((V) % 18446744073709551616)], .int .i64 D] w fun e w' => e = .returned (.tuple #[.agg #[.int .i64 (0), .int .i64 (0)], .int .i64 10]) ∧ Below w.heap.size w w' := by
  have cD : RowKit.Hid (law.Says 53 #[.agg #[.int .i64 ((V) / 18446744073709551616), .int .u64 ((V) % 18446744073709551616)], .int .i64 D] (.tuple #[.agg #[.int .i64 ((V / D) / 18446744073709551616), .int .u64 ((V / D) % 18446744073709551616)], .int .i64 L])) := Lib.hid (fun w => by rw [← eL.out]; exact by_any V D w (by omega) (by omega) (by omega) (by omega))
  have cg : RowKit.Hid (law.Says 53 #[.agg #[.int .i64 ((V) / 18446744073709551616), .int .u64 ((V) % 18446744073709551616)], .int .i64 g] (.tuple #[.agg #[.int .i64 ((P) / 18446744073709551616), .int .u64 ((P) % 18446744073709551616)], .int .i64 (V % g)])) := Lib.hid (fun w => by rw [← eP.out]; exact by_any V g w (by omega) (by omega) (by omega) (by omega))
  have b0 := lies.on_alloc (lies.made w 59 #[.int .i64 (V / 18446744073709551616), .int .u64 (V % 18446744073709551616)]) (.cells #[.int .i64 0, .int .i64 0] 23)
  have r0 := lies.made (w.alloc (.cells #[.int .i64 (V / 18446744073709551616), .int .u64 (V % 18446744073709551616)] 59)) 23 #[.int .i64 0, .int .i64 0]
  rw [World.size_alloc] at r0
  go_enter Try.func28, Try.ntmps28
  go_wp2_with (first
    | ((with_reducible refine (said cD _).mono ?_); rintro e w1 ⟨rfl, hB1⟩; have b1 := lies.on_call b0 hB1; have r1 := lies.on_call r0 hB1; obtain ⟨c10, c11, f10, f11, l1⟩ := lies.two b1; obtain ⟨d10, d11, g10, g11, m1⟩ := lies.two r1)
    | (go_at_call 48; refine (divisor_any _ _ _ (by omega) (by omega) (by omega) (by omega)).mono ?_; rintro e w2 ⟨rfl, k1, rfl⟩; rw [eg.out])
    | ((with_reducible refine (said cg _).mono ?_); rintro e w3 ⟨rfl, hB3⟩; have b3 := lies.on_call (lies.on_draw (lies.on_alloc b1 _) _) hB3; have r3 := lies.on_call (lies.on_draw (lies.on_alloc r1 _) _) hB3; obtain ⟨c30, c31, f30, f31, l3⟩ := lies.two b3; obtain ⟨d30, d31, g30, g31, m3⟩ := lies.two r3)
    | (go_at_call 54; refine (number_ok P _ (by omega) (by omega)).mono ?_; rintro e w4 ⟨rfl, hB4⟩; have r4 := lies.on_call (lies.on_far (lies.on_far r3 0 (by omega) _) 1 (by omega) _) hB4; obtain ⟨d40, d41, g40, g41, m4⟩ := lies.two r4)
    | (go_at_call 23; refine (check3_no _ _ _ p1 p2 m.out).mono ?_; rintro e w5 ⟨rfl, hB5⟩; have r5 := lies.on_call (lies.on_alloc r4 _) hB5; obtain ⟨d50, d51, g50, g51, m5⟩ := lies.two r5; have q5 := lies.on_call (lies.made w4 23 #[.int .i64 P, .int .i64 Q]) hB5; obtain ⟨e50, e51, h50, h51, n5⟩ := lies.two q5))
  exact bodyPost_ret (v := .tuple #[.agg #[.int .i64 (0), .int .i64 (0)], .int .i64 10]) (by simp [results, Try.results28, go_sem, d50, d51]) rfl ⟨rfl, (((later (up (later (((later (drawn (up (later (up2 _ _ _) hB1) _) _) hB3).setCell (Nat.le_refl _) _).setCell (Nat.le_refl _) _) hB4) _) hB5).setCell (Nat.le_succ _) _).setCell (Nat.le_succ _) _)⟩
set_option maxHeartbeats 1000000 in
theorem lowest_far (V D g P Q L : Int) (w : World) (D1 : 1 ≤ D) (D2 : D ≤ 9223372036854775807) (v1 : -170141183460469231731687303715884105728 ≤ V) (v2 : V ≤ 170141183460469231731687303715884105727)
    (g1 : 1 ≤ g) (g2 : g ≤ D) (L1 : 0 ≤ L) (L2 : L < D) (eL : RowKit.Hid (V % D = L)) (eg : RowKit.Hid (gcdI D L = g)) (eP : RowKit.Hid (V / g = P)) (eQ : D / g = Q) (q1 : 1 ≤ Q) (q2 : Q ≤ D)
    (p : RowKit.Hid (¬ (-9223372036854775808 ≤ P ∧ P ≤ 9223372036854775807))) :
    Calls Try.prog 28 #[.agg #[.int .i64 ((V) / 18446744073709551616), .int .u64 ((V) % 18446744073709551616)], .int .i64 D] w fun e w' => e = .returned (.tuple #[.agg #[.int .i64 (0), .int .i64 (0)], .int .i64 10]) ∧ Below w.heap.size w w' := by
  have cD : RowKit.Hid (law.Says 53 #[.agg #[.int .i64 ((V) / 18446744073709551616), .int .u64 ((V) % 18446744073709551616)], .int .i64 D] (.tuple #[.agg #[.int .i64 ((V / D) / 18446744073709551616), .int .u64 ((V / D) % 18446744073709551616)], .int .i64 L])) := Lib.hid (fun w => by rw [← eL.out]; exact by_any V D w (by omega) (by omega) (by omega) (by omega))
  have cg : RowKit.Hid (law.Says 53 #[.agg #[.int .i64 ((V) / 18446744073709551616), .int .u64 ((V) % 18446744073709551616)], .int .i64 g] (.tuple #[.agg #[.int .i64 ((P) / 18446744073709551616), .int .u64 ((P) % 18446744073709551616)], .int .i64 (V % g)])) := Lib.hid (fun w => by rw [← eP.out]; exact by_any V g w (by omega) (by omega) (by omega) (by omega))
  have b0 := lies.on_alloc (lies.made w 59 #[.int .i64 (V / 18446744073709551616), .int .u64 (V % 18446744073709551616)]) (.cells #[.int .i64 0, .int .i64 0] 23)
  have r0 := lies.made (w.alloc (.cells #[.int .i64 (V / 18446744073709551616), .int .u64 (V % 18446744073709551616)] 59)) 23 #[.int .i64 0, .int .i64 0]
  rw [World.size_alloc] at r0
  go_enter Try.func28, Try.ntmps28
  go_wp2_with (first
    | ((with_reducible refine (said cD _).mono ?_); rintro e w1 ⟨rfl, hB1⟩; have b1 := lies.on_call b0 hB1; have r1 := lies.on_call r0 hB1; obtain ⟨c10, c11, f10, f11, l1⟩ := lies.two b1; obtain ⟨d10, d11, g10, g11, m1⟩ := lies.two r1)
    | (go_at_call 48; refine (divisor_any _ _ _ (by omega) (by omega) (by omega) (by omega)).mono ?_; rintro e w2 ⟨rfl, k1, rfl⟩; rw [eg.out])
    | ((with_reducible refine (said cg _).mono ?_); rintro e w3 ⟨rfl, hB3⟩; have b3 := lies.on_call (lies.on_draw (lies.on_alloc b1 _) _) hB3; have r3 := lies.on_call (lies.on_draw (lies.on_alloc r1 _) _) hB3; obtain ⟨c30, c31, f30, f31, l3⟩ := lies.two b3; obtain ⟨d30, d31, g30, g31, m3⟩ := lies.two r3)
    | (go_at_call 54; refine (number_no P _ p.out).mono ?_; rintro e w4 ⟨rfl, hB4⟩; have r4 := lies.on_call (lies.on_far (lies.on_far r3 0 (by omega) _) 1 (by omega) _) hB4; obtain ⟨d40, d41, g40, g41, m4⟩ := lies.two r4))
  exact bodyPost_ret (v := .tuple #[.agg #[.int .i64 (0), .int .i64 (0)], .int .i64 10]) (by simp [results, Try.results28, go_sem, d40, d41, m4]) rfl ⟨rfl, (up (((later (((later (drawn (up (later (up2 _ _ _) hB1) _) _) hB3).setCell (Nat.le_refl _) _).setCell (Nat.le_refl _) _) hB4).setCell (Nat.le_succ _) _).setCell (Nat.le_succ _) _) _)⟩

/-- what lowest answers. -/
def lowN (V D : Int) : Int := if lowOk V D then lowP V D else 0
def lowD (V D : Int) : Int := if lowOk V D then lowQ V D else 0
def lowE (V D : Int) : Int := if lowOk V D then 0 else 10
theorem low_yes {V D : Int} (h : lowOk V D) : lowN V D = lowP V D ∧ lowD V D = lowQ V D ∧ lowE V D = 0 := ⟨if_pos h, if_pos h, if_pos h⟩
theorem low_not {V D : Int} (h : ¬ lowOk V D) : lowN V D = 0 ∧ lowD V D = 0 ∧ lowE V D = 10 := ⟨if_neg h, if_neg h, if_neg h⟩
theorem lowQ_in (V D : Int) (h : 1 ≤ D) : 1 ≤ lowQ V D ∧ lowQ V D ≤ D := by
  have a := gcd_pos V D h
  have b := gcd_le V D h
  constructor
  · exact (le_div D (gcdI V D) 1 a).2 (by omega)
  · exact Int.ediv_le_self _ (by omega)

theorem lowest_any (V D : Int) (w : World) (D1 : 1 ≤ D) (D2 : D ≤ 9223372036854775807) (v1 : -170141183460469231731687303715884105728 ≤ V) (v2 : V ≤ 170141183460469231731687303715884105727) :
    Calls Try.prog 28 #[.agg #[.int .i64 ((V) / 18446744073709551616), .int .u64 ((V) % 18446744073709551616)], .int .i64 D] w fun e w' => e = .returned (.tuple #[.agg #[.int .i64 (lowN V D), .int .i64 (lowD V D)], .int .i64 (lowE V D)]) ∧ Below w.heap.size w w' := by
  have a := gcd_pos V D D1
  have b := gcd_le V D D1
  obtain ⟨_, c, d⟩ := div_mul V D D1
  obtain ⟨e, f⟩ := lowQ_in V D D1
  by_cases h : lowOk V D
  · obtain ⟨e1, e2, e3⟩ := low_yes h
    rw [e1, e2, e3]
    exact lowest_ok V D (gcdI V D) (lowP V D) (lowQ V D) (V % D) w D1 D2 v1 v2 a b c d (Lib.hid rfl) (Lib.hid (gcd_part V D)) (Lib.hid rfl) rfl e f h.1 h.2.1 (Lib.hid h.2.2)
  · obtain ⟨e1, e2, e3⟩ := low_not h
    rw [e1, e2, e3]
    by_cases p : -9223372036854775808 ≤ lowP V D ∧ lowP V D ≤ 9223372036854775807
    · exact lowest_bad V D (gcdI V D) (lowP V D) (lowQ V D) (V % D) w D1 D2 v1 v2 a b c d (Lib.hid rfl) (Lib.hid (gcd_part V D)) (Lib.hid rfl) rfl e f p.1 p.2 (Lib.hid (fun m => h ⟨p.1, p.2, m⟩))
    · exact lowest_far V D (gcdI V D) (lowP V D) (lowQ V D) (V % D) w D1 D2 v1 v2 a b c d (Lib.hid rfl) (Lib.hid (gcd_part V D)) (Lib.hid rfl) rfl e f (Lib.hid p)

theorem of3_zero (n d : Int) (w : World) (h : d < 1) :
    Calls Try.prog 10 #[.int .i64 n, .int .i64 d] w fun e w' => e = .returned (.tuple #[.agg #[.int .i64 (0), .int .i64 (0)], .int .i64 30]) ∧ Below w.heap.size w w' := by
  go_enter Try.func10, Try.ntmps10
  go_wp2
  exact bodyPost_ret (v := .tuple #[.agg #[.int .i64 (0), .int .i64 (0)], .int .i64 30]) (by simp [results, Try.results10, go_sem]) rfl ⟨rfl, up1 _ _⟩
set_option maxHeartbeats 1000000 in
theorem of3_ok (n d P Q E : Int) (w : World) (n1 : -9223372036854775808 ≤ n) (n2 : n ≤ 9223372036854775807) (d1 : 1 ≤ d) (d2 : d ≤ 9223372036854775807) (eP : lowN n d = P) (eQ : lowD n d = Q) (eE : lowE n d = E) :
    Calls Try.prog 10 #[.int .i64 n, .int .i64 d] w fun e w' => e = .returned (.tuple #[.agg #[.int .i64 (P), .int .i64 (Q)], .int .i64 E]) ∧ Below w.heap.size w w' := by
  have cT : RowKit.Hid (law.Says 29 #[.int .i64 n, .int .i64 1] (.agg #[.int .i64 ((n) / 18446744073709551616), .int .u64 ((n) % 18446744073709551616)])) := Lib.hid (fun w => by have := times_any n 1 w (by omega) (by omega) (by omega) (by omega); rw [Int.mul_one] at this; exact this)
  have cL : RowKit.Hid (law.Says 28 #[.agg #[.int .i64 ((n) / 18446744073709551616), .int .u64 ((n) % 18446744073709551616)], .int .i64 d] (.tuple #[.agg #[.int .i64 (P), .int .i64 (Q)], .int .i64 E])) := Lib.hid (fun w => by rw [← eP, ← eQ, ← eE]; exact lowest_any n d w d1 d2 (by omega) (by omega))
  clear eP eQ eE
  have t1 : ¬ d < 1 := by omega
  have r0 := lies.made w 23 #[.int .i64 0, .int .i64 0]
  go_enter Try.func10, Try.ntmps10
  go_wp2_with (first
    | ((with_reducible refine (said cT _).mono ?_); rintro e w1 ⟨rfl, hB1⟩; have r1 := lies.on_call r0 hB1; obtain ⟨d10, d11, g10, g11, m1⟩ := lies.two r1)
    | ((with_reducible refine (said cL _).mono ?_); rintro e w2 ⟨rfl, hB2⟩; have r2 := lies.on_call r1 hB2; obtain ⟨d20, d21, g20, g21, m2⟩ := lies.two r2))
  exact bodyPost_ret (v := .tuple #[.agg #[.int .i64 (P), .int .i64 (Q)], .int .i64 E]) (by simp [results, Try.results10, go_sem, d20, d21]) rfl ⟨rfl, ((later (later (up1 _ _) hB1) hB2).setCell (Nat.le_refl _) _).setCell (Nat.le_refl _) _⟩

/-- what Of answers. -/
def ofN (n d : Int) : Int := if d < 1 then 0 else lowN n d
def ofD (n d : Int) : Int := if d < 1 then 0 else lowD n d
def ofE (n d : Int) : Int := if d < 1 then 30 else lowE n d
theorem of3_any (n d : Int) (w : World) (n1 : -9223372036854775808 ≤ n) (n2 : n ≤ 9223372036854775807) (d2 : d ≤ 9223372036854775807) :
    Calls Try.prog 10 #[.int .i64 n, .int .i64 d] w fun e w' => e = .returned (.tuple #[.agg #[.int .i64 (ofN n d), .int .i64 (ofD n d)], .int .i64 (ofE n d)]) ∧ Below w.heap.size w w' := by
  unfold ofN ofD ofE
  by_cases h : d < 1
  · rw [if_pos h, if_pos h, if_pos h]; exact of3_zero n d w h
  · rw [if_neg h, if_neg h, if_neg h]; exact of3_ok n d _ _ _ w n1 n2 (by omega) d2 rfl rfl rfl
end Go.Proofs.Ytbmadhejdnkeeaa.rat
