/-
  What checkBoth, Floor, lowest and Of of package rat answer, for every fraction and number; each theorem names its conditions.
-/
import Derived.Test.YtlagnbbbokgdfaaRat2
import Derived.Test.YtlagnbbbokgdfaaLies
namespace Go.Proofs.Ytlagnbbbokgdfaa.rat
open Go.ChangeShapes Go.WideShapes Go.ChangeAt Go.RowKit rmath bound num
set_option linter.unusedVariables false

/-- a call's answer, at a world. -/
theorem said {f : FuncId} {args : Array Value} {v : Value} (h : RowKit.Hid (law.Says f args v)) (w : World) : Calls Try.prog f args w fun e w' => e = .returned v ∧ Below w.heap.size w w' := h.out w

theorem both_ok (a b c d : Int) (w : World) (a1 : -9223372036854775808 ≤ a) (a2 : a ≤ 9223372036854775807) (c1 : -9223372036854775808 ≤ c) (c2 : c ≤ 9223372036854775807) (h : MayR a b) (k : MayR c d) :
    Calls Try.prog 46 #[.agg #[.int .i64 (a), .int .i64 (b)], .agg #[.int .i64 (c), .int .i64 (d)]] w fun e w' => e = .returned (.int .i64 0) ∧ Below w.heap.size w w' := by
  have H := Lib.hid h
  have K := Lib.hid k
  clear h k
  go_enter Try.func46, Try.ntmps46
  go_wp2_with (go_at_call 24; first | ((with_reducible refine (check3_ok a b _ a1 a2 H.out).mono ?_); rintro e w1 ⟨rfl, hB1⟩; obtain ⟨hc1, hf1⟩ := bcell hB1) | ((with_reducible refine (check3_ok c d _ c1 c2 K.out).mono ?_); rintro e w2 ⟨rfl, hB2⟩))
  go_ret
  exact ⟨rfl, later (later (up2 _ _ _) hB1) hB2⟩
theorem both_no1 (a b c d : Int) (w : World) (a1 : -9223372036854775808 ≤ a) (a2 : a ≤ 9223372036854775807) (h : ¬ MayR a b) :
    Calls Try.prog 46 #[.agg #[.int .i64 (a), .int .i64 (b)], .agg #[.int .i64 (c), .int .i64 (d)]] w fun e w' => e = .returned (.int .i64 8) ∧ Below w.heap.size w w' := by
  have H := Lib.hid h
  clear h
  go_enter Try.func46, Try.ntmps46
  go_wp2_with (go_at_call 24; (refine (check3_no _ _ _ a1 a2 H.out).mono ?_; rintro e w1 ⟨rfl, hB1⟩; obtain ⟨hc1, hf1⟩ := bcell hB1))
  go_ret
  exact ⟨rfl, later (up2 _ _ _) hB1⟩
theorem both_no2 (a b c d : Int) (w : World) (a1 : -9223372036854775808 ≤ a) (a2 : a ≤ 9223372036854775807) (c1 : -9223372036854775808 ≤ c) (c2 : c ≤ 9223372036854775807) (h : MayR a b) (k : ¬ MayR c d) :
    Calls Try.prog 46 #[.agg #[.int .i64 (a), .int .i64 (b)], .agg #[.int .i64 (c), .int .i64 (d)]] w fun e w' => e = .returned (.int .i64 8) ∧ Below w.heap.size w w' := by
  have H := Lib.hid h
  have K := Lib.hid k
  clear h k
  go_enter Try.func46, Try.ntmps46
  go_wp2_with (go_at_call 24; first | ((with_reducible refine (check3_ok a b _ a1 a2 H.out).mono ?_); rintro e w1 ⟨rfl, hB1⟩; obtain ⟨hc1, hf1⟩ := bcell hB1) | ((with_reducible refine (check3_no c d _ c1 c2 K.out).mono ?_); rintro e w2 ⟨rfl, hB2⟩))
  go_ret
  exact ⟨rfl, later (later (up2 _ _ _) hB1) hB2⟩

/-- may both be? -/
def Both (a b c d : Int) : Prop := MayR a b ∧ MayR c d
instance (a b c d : Int) : Decidable (Both a b c d) := inferInstanceAs (Decidable (_ ∧ _))
theorem both_no (a b c d : Int) (w : World) (a1 : -9223372036854775808 ≤ a) (a2 : a ≤ 9223372036854775807) (c1 : -9223372036854775808 ≤ c) (c2 : c ≤ 9223372036854775807) (h : ¬ Both a b c d) :
    Calls Try.prog 46 #[.agg #[.int .i64 (a), .int .i64 (b)], .agg #[.int .i64 (c), .int .i64 (d)]] w fun e w' => e = .returned (.int .i64 8) ∧ Below w.heap.size w w' := by
  by_cases k : MayR a b
  · exact both_no2 a b c d w a1 a2 c1 c2 k (fun k' => h ⟨k, k'⟩)
  · exact both_no1 a b c d w a1 a2 k

/-- is a fraction whole? -/
def wholeB (n d : Int) : Bool := decide (n % d = 0)
/-- in lowest terms. -/
def lowP (V D : Int) : Int := V / gcdI V D
def lowQ (V D : Int) : Int := D / gcdI V D
/-- may what is in lowest terms be? -/
def lowOk (V D : Int) : Prop := -9223372036854775808 ≤ lowP V D ∧ lowP V D ≤ 9223372036854775807 ∧ MayR (lowP V D) (lowQ V D)
instance (V D : Int) : Decidable (lowOk V D) := inferInstanceAs (Decidable (_ ∧ _ ∧ _))
theorem gcd_pos (V D : Int) (h : 1 ≤ D) : 1 ≤ gcdI V D := by
  have := Int.gcd_pos_of_ne_zero_right V (show D ≠ 0 by omega)
  unfold gcdI
  omega
theorem gcd_le (V D : Int) (h : 1 ≤ D) : gcdI V D ≤ D := Int.le_of_dvd (by omega) (Int.gcd_dvd_right V D)
theorem div_abs (V g : Int) (h : 1 ≤ g) (v1 : -170141183460469231731687303715884105728 ≤ V) (v2 : V ≤ 170141183460469231731687303715884105727) : -170141183460469231731687303715884105728 ≤ V / g ∧ V / g ≤ 170141183460469231731687303715884105727 := by
  constructor
  · exact (le_div V g _ h).2 (by omega)
  · exact Int.le_of_lt_add_one (Int.ediv_lt_of_lt_mul (by omega) (by omega))

/-- what lowest answers. -/
def lowN (V D : Int) : Int := if lowOk V D then lowP V D else 0
def lowD (V D : Int) : Int := if lowOk V D then lowQ V D else 0
def lowE (V D : Int) : Int := if lowOk V D then 0 else 10
theorem low_yes {V D : Int} (h : lowOk V D) : lowN V D = lowP V D ∧ lowD V D = lowQ V D ∧ lowE V D = 0 := ⟨if_pos h, if_pos h, if_pos h⟩
theorem low_not {V D : Int} (h : ¬ lowOk V D) : lowN V D = 0 ∧ lowD V D = 0 ∧ lowE V D = 10 := ⟨if_neg h, if_neg h, if_neg h⟩
theorem lowQ_in (V D : Int) (h : 1 ≤ D) : 1 ≤ lowQ V D ∧ lowQ V D ≤ D := by
  have a := gcd_pos V D h
  have b := gcd_le V D h
  constructor
  · exact (le_div D (gcdI V D) 1 a).2 (by omega)
  · exact Int.ediv_le_self _ (by omega)

/-- what Of answers. -/
def ofN (n d : Int) : Int := if d < 1 then 0 else lowN n d
def ofD (n d : Int) : Int := if d < 1 then 0 else lowD n d
def ofE (n d : Int) : Int := if d < 1 then 30 else lowE n d
end Go.Proofs.Ytlagnbbbokgdfaa.rat
