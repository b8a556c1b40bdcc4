/-
  What Check, Floor, Of and what they stand on in package rat (checkBoth, lowest) answer, for every fraction; each theorem names its conditions.
-/
import Derived.Test.YtlagnbbbokgdfaaRat1
namespace Go.Proofs.Ytlagnbbbokgdfaa.rat
open Go.ChangeShapes Go.WideShapes Go.ChangeAt Go.RowKit rmath bound num
set_option linter.unusedVariables false

/-- a fraction may be. -/
def MayR (n d : Int) : Prop := 1 ≤ d ∧ d ≤ 1048576 ∧ -(2305843009213693952 * d) ≤ n ∧ n ≤ 2305843009213693952 * d ∧ Int.gcd n d = 1
instance (n d : Int) : Decidable (MayR n d) := inferInstanceAs (Decidable (_ ∧ _ ∧ _ ∧ _ ∧ _))
/-- the whole number above, or the fraction itself. -/
def above (n d : Int) : Int := if 0 < n % d then n / d + 1 else n / d

theorem gcd_part (n d : Int) : gcdI d (n % d) = gcdI n d := by
  unfold gcdI
  have h := Int.gcd_add_mul_left_right d (n % d) (n / d)
  rw [Int.emod_add_mul_ediv] at h
  rw [← h, Int.gcd_comm]
theorem div_mul (n d : Int) (h : 1 ≤ d) : n / d * d + n % d = n ∧ 0 ≤ n % d ∧ n % d < d := by
  have a := Int.mul_ediv_add_emod n d
  rw [Int.mul_comm] at a
  exact ⟨a, Int.emod_nonneg n (by omega), Int.emod_lt_of_pos n (by omega)⟩
theorem le_div (n d c : Int) (h : 1 ≤ d) : c ≤ n / d ↔ c * d ≤ n := Int.le_ediv_iff_mul_le (by omega)
theorem may_parts (n d : Int) (h : 1 ≤ d) (h' : d ≤ 1048576) : MayR n d ↔ (May (n / d) ∧ May (above n d) ∧ gcdI d (n % d) = 1) := by
  obtain ⟨a, b, c⟩ := div_mul n d h
  have k1 := le_div n d (-2305843009213693952) h
  have k2 := le_div n d 2305843009213693952 h
  have k3 := le_div n d 2305843009213693953 h
  have g : gcdI d (n % d) = 1 ↔ Int.gcd n d = 1 := by rw [gcd_part]; unfold gcdI; omega
  unfold MayR May above
  rw [g]
  generalize Int.gcd n d = G at *
  constructor
  · rintro ⟨h1, h2, h3, h4, h5⟩
    refine ⟨⟨by omega, by omega⟩, ?_, h5⟩
    split
    · refine ⟨by omega, ?_⟩
      rcases Int.lt_or_le (n / d) 2305843009213693952 with q | q
      · omega
      · have := k2.1 q
        have e : n / d = 2305843009213693952 := by omega
        rw [e] at a
        omega
    · exact ⟨by omega, by omega⟩
  · rintro ⟨⟨h1, h2⟩, h3, h5⟩
    refine ⟨h, h', by omega, ?_, h5⟩
    split at h3
    · have := Int.mul_le_mul_of_nonneg_right (show n / d + 1 ≤ 2305843009213693952 by omega) (show 0 ≤ d by omega)
      rw [Int.add_mul] at this
      omega
    · have := Int.mul_le_mul_of_nonneg_right (show n / d ≤ 2305843009213693952 by omega) (show 0 ≤ d by omega)
      omega

theorem check3_den (n d : Int) (w : World) (h : d < 1 ∨ 1048576 < d) :
    Calls Try.prog 24 #[.agg #[.int .i64 (n), .int .i64 (d)]] w fun e w' => e = .returned (.int .i64 8) ∧ Below w.heap.size w w' := by
  by_cases t1 : d < 1
  · clear h
    go_enter Try.func24, Try.ntmps24
    go_wp2
    go_ret
    exact ⟨rfl, up1 _ _⟩
  · have t2 : 1048576 < d := by omega
    clear h
    go_enter Try.func24, Try.ntmps24
    go_wp2
    go_ret
    exact ⟨rfl, up1 _ _⟩

set_option maxHeartbeats 1000000 in
theorem check3_raw (n d g r : Int) (w : World) (n1 : -9223372036854775808 ≤ n) (n2 : n ≤ 9223372036854775807) (h : 1 ≤ d) (h' : d ≤ 1048576) (hg : RowKit.Hid (gcdI d (n % d) = g))
    (hr : (May (n / d) ∧ May (above n d) ∧ g = 1 ∧ r = 0) ∨ (r = 8 ∧ ((May (n / d) ∧ May (above n d) ∧ ¬ g = 1) ∨ (May (n / d) ∧ ¬ May (above n d)) ∨ ¬ May (n / d)))) :
    Calls Try.prog 24 #[.agg #[.int .i64 (n), .int .i64 (d)]] w fun e w' => e = .returned (.int .i64 r) ∧ Below w.heap.size w w' := by
  obtain ⟨a, b, c⟩ := div_mul n d h
  clear a
  obtain ⟨d0, d1⟩ := ediv_in n d h n1 n2
  have t1 : ¬ d < 1 := by omega
  have t2 : ¬ 1048576 < d := by omega
  have d2 : 0 < n % d → n / d + 1 ≤ 9223372036854775807 := fun _ => by
    have := Int.ediv_le_iff_le_mul (x := n) (y := 9223372036854775806) (show 0 < d by omega)
    have : n / d ≤ 9223372036854775806 := this.2 (by omega)
    omega
  unfold above at hr
  by_cases t3 : 0 < n % d
  · rw [if_pos t3] at hr
    have d3 := d2 t3
    clear d2
    rcases hr with ⟨p1, p2, p3, rfl⟩ | ⟨rfl, ⟨p1, p2, p3⟩ | ⟨p1, p2⟩ | p1⟩
    · subst p3
      go_enter Try.func24, Try.ntmps24
      go_wp2_with (first | (go_at_call 42; refine (split_any _ _ _ (by omega) (by omega) (by omega) (by omega)).mono ?_; rintro e w1 ⟨rfl, n1, rfl⟩) | (go_at_call 43; refine (check_ok _ _ (by assumption)).mono ?_; rintro e w' ⟨rfl, rfl⟩) | (go_at_call 44; refine (divisor_any _ _ _ (by omega) (by omega) (by omega) (by omega)).mono ?_; rintro e w1 ⟨rfl, n2, rfl⟩; rw [hg.out]))
      go_ret
      exact ⟨rfl, drawn (up1 _ _) _⟩
    · go_enter Try.func24, Try.ntmps24
      go_wp2_with (first | (go_at_call 42; refine (split_any _ _ _ (by omega) (by omega) (by omega) (by omega)).mono ?_; rintro e w1 ⟨rfl, n1, rfl⟩) | (go_at_call 43; refine (check_ok _ _ (by assumption)).mono ?_; rintro e w' ⟨rfl, rfl⟩) | (go_at_call 44; refine (divisor_any _ _ _ (by omega) (by omega) (by omega) (by omega)).mono ?_; rintro e w1 ⟨rfl, n2, rfl⟩; rw [hg.out]))
      go_ret
      exact ⟨rfl, drawn (up1 _ _) _⟩
    · have P := Lib.hid p2
      clear p2
      go_enter Try.func24, Try.ntmps24
      go_wp2_with (first | (go_at_call 42; refine (split_any _ _ _ (by omega) (by omega) (by omega) (by omega)).mono ?_; rintro e w1 ⟨rfl, n1, rfl⟩) | (go_at_call 43; refine (check_ok _ _ (by assumption)).mono ?_; rintro e w' ⟨rfl, rfl⟩) | (go_at_call 43; refine (check_no _ _ P.out).mono ?_; rintro e w' ⟨rfl, rfl⟩))
      go_ret
      exact ⟨rfl, drawn (up1 _ _) _⟩
    · have P := Lib.hid p1
      clear p1
      go_enter Try.func24, Try.ntmps24
      go_wp2_with (first | (go_at_call 42; refine (split_any _ _ _ (by omega) (by omega) (by omega) (by omega)).mono ?_; rintro e w1 ⟨rfl, n1, rfl⟩) | (go_at_call 43; refine (check_no _ _ P.out).mono ?_; rintro e w' ⟨rfl, rfl⟩))
      go_ret
      exact ⟨rfl, drawn (up1 _ _) _⟩
  · rw [if_neg t3] at hr
    clear d2
    rcases hr with ⟨p1, p2, p3, rfl⟩ | ⟨rfl, ⟨p1, p2, p3⟩ | ⟨p1, p2⟩ | p1⟩
    · subst p3
      clear p2
      go_enter Try.func24, Try.ntmps24
      go_wp2_with (first | (go_at_call 42; refine (split_any _ _ _ (by omega) (by omega) (by omega) (by omega)).mono ?_; rintro e w1 ⟨rfl, n1, rfl⟩) | (go_at_call 43; refine (check_ok _ _ (by assumption)).mono ?_; rintro e w' ⟨rfl, rfl⟩) | (go_at_call 44; refine (divisor_any _ _ _ (by omega) (by omega) (by omega) (by omega)).mono ?_; rintro e w1 ⟨rfl, n2, rfl⟩; rw [hg.out]))
      go_ret
      exact ⟨rfl, drawn (up1 _ _) _⟩
    · clear p2
      go_enter Try.func24, Try.ntmps24
      go_wp2_with (first | (go_at_call 42; refine (split_any _ _ _ (by omega) (by omega) (by omega) (by omega)).mono ?_; rintro e w1 ⟨rfl, n1, rfl⟩) | (go_at_call 43; refine (check_ok _ _ (by assumption)).mono ?_; rintro e w' ⟨rfl, rfl⟩) | (go_at_call 44; refine (divisor_any _ _ _ (by omega) (by omega) (by omega) (by omega)).mono ?_; rintro e w1 ⟨rfl, n2, rfl⟩; rw [hg.out]))
      go_ret
      exact ⟨rfl, drawn (up1 _ _) _⟩
    · exact absurd p1 p2
    · have P := Lib.hid p1
      clear p1
      go_enter Try.func24, Try.ntmps24
      go_wp2_with (first | (go_at_call 42; refine (split_any _ _ _ (by omega) (by omega) (by omega) (by omega)).mono ?_; rintro e w1 ⟨rfl, n1, rfl⟩) | (go_at_call 43; refine (check_no _ _ P.out).mono ?_; rintro e w' ⟨rfl, rfl⟩))
      go_ret
      exact ⟨rfl, drawn (up1 _ _) _⟩

/-- what Check answers. -/
def rchk (n d : Int) : Int := if MayR n d then 0 else 8
theorem rchk_ok {n d : Int} (h : MayR n d) : rchk n d = 0 := if_pos h
theorem rchk_no {n d : Int} (h : ¬ MayR n d) : rchk n d = 8 := if_neg h
theorem check3_any (n d : Int) (w : World) (n1 : -9223372036854775808 ≤ n) (n2 : n ≤ 9223372036854775807) :
    Calls Try.prog 24 #[.agg #[.int .i64 (n), .int .i64 (d)]] w fun e w' => e = .returned (.int .i64 (rchk n d)) ∧ Below w.heap.size w w' := by
  by_cases h : d < 1 ∨ 1048576 < d
  · rw [rchk_no (fun k => by unfold MayR at k; omega)]
    exact check3_den n d w h
  · have h1 : 1 ≤ d := by omega
    have h2 : d ≤ 1048576 := by omega
    have k := may_parts n d h1 h2
    refine check3_raw n d _ _ w n1 n2 h1 h2 (Lib.hid rfl) ?_
    by_cases m : MayR n d
    · obtain ⟨a, b, c⟩ := k.1 m
      exact .inl ⟨a, b, c, rchk_ok m⟩
    · refine .inr ⟨rchk_no m, ?_⟩
      by_cases a : May (n / d)
      · by_cases b : May (above n d)
        · exact .inl ⟨a, b, fun c => m (k.2 ⟨a, b, c⟩)⟩
        · exact .inr (.inl ⟨a, b⟩)
      · exact .inr (.inr a)
theorem check3_ok (n d : Int) (w : World) (n1 : -9223372036854775808 ≤ n) (n2 : n ≤ 9223372036854775807) (m : MayR n d) :
    Calls Try.prog 24 #[.agg #[.int .i64 (n), .int .i64 (d)]] w fun e w' => e = .returned (.int .i64 0) ∧ Below w.heap.size w w' := by
  have := check3_any n d w n1 n2
  rw [rchk_ok m] at this
  exact this
theorem check3_no (n d : Int) (w : World) (n1 : -9223372036854775808 ≤ n) (n2 : n ≤ 9223372036854775807) (m : ¬ MayR n d) :
    Calls Try.prog 24 #[.agg #[.int .i64 (n), .int .i64 (d)]] w fun e w' => e = .returned (.int .i64 8) ∧ Below w.heap.size w w' := by
  have := check3_any n d w n1 n2
  rw [rchk_no m] at this
  exact this
end Go.Proofs.Ytlagnbbbokgdfaa.rat
