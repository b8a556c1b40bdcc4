/-
  What the document's own answer for a whole number and a part of one is (rallentandoref03.Made), at all such; the conditions: a part is from 0 to below one, of at most 2^41 parts.
-/
import Derived.Test.YtbmadhejdnkeeaaRatRef5
namespace Go.Proofs.Ytbmadhejdnkeeaa.rref
open Go.ChangeShapes Go.WideShapes Go.ChangeAt Go.RowKit rmath bound num rat
set_option linter.unusedVariables false

theorem made_math (n p y : Int) (p0 : 0 ≤ p) (p1 : p < y) (y1 : 1 ≤ y) :
    gcdI p y = gcdI (n * y + p) y ∧ p / gcdI (n * y + p) y * gcdI (n * y + p) y = p ∧ lowP (n * y + p) y = n * lowQ (n * y + p) y + p / gcdI (n * y + p) y ∧ 0 ≤ p / gcdI (n * y + p) y ∧ p / gcdI (n * y + p) y < lowQ (n * y + p) y := by
  have e : (n * y + p) % y = p := by
    rw [Int.add_comm, Int.add_mul_emod_self_right]
    exact Int.emod_eq_of_lt p0 p1
  have g : gcdI p y = gcdI (n * y + p) y := by
    have k := gcd_part (n * y + p) y
    rw [e] at k
    rw [← k]
    unfold gcdI
    rw [Int.gcd_comm]
  have g1 := gcd_pos (n * y + p) y y1
  obtain ⟨a, b, _, _⟩ := low_parts (n * y + p) y y1
  have d : p / gcdI (n * y + p) y * gcdI (n * y + p) y = p := by
    rw [← g]
    exact Int.ediv_mul_cancel (Int.gcd_dvd_left p y)
  refine ⟨g, d, ?_, Int.ediv_nonneg p0 (by omega), ?_⟩
  · generalize gcdI (n * y + p) y = G at *
    generalize lowQ (n * y + p) y = Q at *
    generalize p / G = pa at *
    refine mul_right_cancel (c := G) (by omega) ?_
    rw [a, Int.add_mul, d, Int.mul_assoc, b]
  · generalize gcdI (n * y + p) y = G at *
    generalize lowQ (n * y + p) y = Q at *
    generalize p / G = pa at *
    exact Int.lt_of_mul_lt_mul_right (show pa * G < Q * G by omega) (by omega)
theorem tdiv_le_of (X Q k : Int) (hQ : 1 ≤ Q) (hX : X < 0) : (X ≤ k * Q → X.tdiv Q ≤ k) ∧ (k * Q < X → k < X.tdiv Q) := by
  obtain ⟨e, r0, r1⟩ := div_mul X Q hQ
  have le := le_div X Q k hQ
  rcases tdiv_cases X Q hQ hX with ⟨c1, c2, _⟩ | ⟨c1, c2, _⟩
  · rw [c2]
    constructor
    · intro h
      refine Int.le_of_mul_le_mul_right (show X / Q * Q ≤ k * Q by omega) (by omega)
    · intro h
      exact Int.lt_of_mul_lt_mul_right (show k * Q < X / Q * Q by omega) (by omega)
  · rw [c2]
    constructor
    · intro h
      have := Int.lt_of_mul_lt_mul_right (show X / Q * Q < k * Q by omega) (show 0 ≤ Q by omega)
      omega
    · intro h
      have := le.2 (by omega)
      omega
theorem tdiv_in (X Q : Int) (hQ : 1 ≤ Q) (hX : X < 0) (h1 : -9223372036854775808 ≤ X) : -9223372036854775808 ≤ X.tdiv Q ∧ X.tdiv Q ≤ 0 := by
  obtain ⟨d0, d1⟩ := ediv_in X Q hQ h1 (by omega)
  have d2 := Int.ediv_neg_of_neg_of_pos hX (show 0 < Q by omega)
  rcases tdiv_cases X Q hQ hX with ⟨c1, c2, _⟩ | ⟨c1, c2, _⟩ <;> rw [c2] <;> omega

/-- what Made answers: the fraction, and that it may be; or some, and that it may not. -/
def MadeP (V y : Int) (w : World) (e : Ending) (w' : World) : Prop :=
  ∃ (z1 z2 : Int) (r : Bool), e = .returned (.tuple #[.agg #[.int .i64 (z1), .int .i64 (z2)], .bool r]) ∧ ((lowOk V y ∧ r = true ∧ z1 = lowP V y ∧ z2 = lowQ V y) ∨ (¬ lowOk V y ∧ r = false)) ∧ Below w.heap.size w w'
theorem MadeP.no {V y z1 z2 : Int} {w w' : World} {e : Ending} (h : ¬ lowOk V y) (k : e = .returned (.tuple #[.agg #[.int .i64 (z1), .int .i64 (z2)], .bool false]) ∧ Below w.heap.size w w') : MadeP V y w e w' := ⟨z1, z2, false, k.1, .inr ⟨h, rfl⟩, k.2⟩

theorem made_any (n p y : Int) (w : World) (n1 : -9223372036854775807 ≤ n) (n2 : n ≤ 9223372036854775807) (p0 : 0 ≤ p) (p1 : p < y) (y1 : 1 ≤ y) (y2 : y ≤ 2199023255552) :
    Calls Try.prog 43 #[.int .i64 n, .int .i64 p, .int .i64 y] w (MadeP (n * y + p) y w) := by
  obtain ⟨g0, _, eP, a0, a1⟩ := made_math n p y p0 p1 y1
  have g1 := gcd_pos (n * y + p) y y1
  have g2 := gcd_le (n * y + p) y y1
  obtain ⟨q1, q3⟩ := lowQ_in (n * y + p) y y1
  have HG := Lib.hid g0
  by_cases hE : 1048576 < lowQ (n * y + p) y ∨ (lowQ (n * y + p) y ≤ 1048576 ∧ 2305843009213693952 < n) ∨ (lowQ (n * y + p) y ≤ 1048576 ∧ n < -2305843009213693952)
  · refine (made_e n p y (gcdI (n * y + p) y) (p / gcdI (n * y + p) y) (lowQ (n * y + p) y) w n1 n2 p0 p1 y1 y2 HG g1 g2 rfl rfl a0 a1 q1 hE).mono fun e w' k => MadeP.no (fun z => ?_) k
    obtain ⟨_, z2, z3, z4, _⟩ := z.2.2
    rw [eP] at z3 z4
    generalize lowQ (n * y + p) y = Q at *
    generalize p / gcdI (n * y + p) y = pa at *
    rcases hE with h | ⟨_, h⟩ | ⟨_, h⟩
    · omega
    · have := Int.mul_le_mul_of_nonneg_right (show 2305843009213693953 ≤ n by omega) (show 0 ≤ Q by omega)
      omega
    · have := Int.mul_le_mul_of_nonneg_right (show n ≤ -2305843009213693953 by omega) (show 0 ≤ Q by omega)
      omega
  · have q2 : lowQ (n * y + p) y ≤ 1048576 := by omega
    have m1 : -2305843009213693952 ≤ n := by omega
    have m2 : n ≤ 2305843009213693952 := by omega
    clear hE
    have fits : lowOk (n * y + p) y ↔ (-9223372036854775808 ≤ lowP (n * y + p) y ∧ lowP (n * y + p) y ≤ 9223372036854775807) ∧ MayR (lowP (n * y + p) y) (lowQ (n * y + p) y) := ⟨fun z => ⟨⟨z.1, z.2.1⟩, z.2.2⟩, fun z => ⟨z.1.1, z.1.2, z.2⟩⟩
    have fin : ∀ (e : Ending) (w' : World), -9223372036854775808 ≤ lowP (n * y + p) y → lowP (n * y + p) y ≤ 9223372036854775807 → (e = .returned (.tuple #[.agg #[.int .i64 (lowP (n * y + p) y), .int .i64 (lowQ (n * y + p) y)], .bool (mayB (lowP (n * y + p) y) (lowQ (n * y + p) y))]) ∧ Below w.heap.size w w') → MadeP (n * y + p) y w e w' := by
      rintro e w' i1 i2 ⟨k1, k2⟩
      by_cases m : MayR (lowP (n * y + p) y) (lowQ (n * y + p) y)
      · exact ⟨_, _, true, by rw [k1, mayB_yes m], .inl ⟨fits.2 ⟨⟨i1, i2⟩, m⟩, rfl, rfl, rfl⟩, k2⟩
      · exact ⟨_, _, false, by rw [k1, mayB_no m], .inr ⟨fun z => m (fits.1 z).2, rfl⟩, k2⟩
    by_cases hn : 0 ≤ n
    · have P1 : 0 ≤ n * lowQ (n * y + p) y := Int.mul_nonneg hn (by omega)
      by_cases hP : n * lowQ (n * y + p) y + p / gcdI (n * y + p) y ≤ 9223372036854775807
      · obtain ⟨Z1, Z2⟩ := tdiv_in (-9223372036854775808) _ q1 (by omega) (by omega)
        have k := made_a n p y (gcdI (n * y + p) y) (p / gcdI (n * y + p) y) (lowQ (n * y + p) y) _ (mayB (n * lowQ (n * y + p) y + p / gcdI (n * y + p) y) (lowQ (n * y + p) y)) w hn m2 p0 p1 y1 y2 HG g1 g2 rfl rfl a0 a1 q1 q2 P1 hP (by omega) (by omega) (by have := (le_div (9223372036854775807 - p / gcdI (n * y + p) y) _ n q1).2 (by omega); omega) rfl Z1 (by omega) (by omega) (Lib.hid (fun w => may_any _ _ w (by omega) hP))
        rw [← eP] at k
        exact k.mono fun e w' => fin e w' (by omega) (by omega)
      · refine (made_b n p y (gcdI (n * y + p) y) (p / gcdI (n * y + p) y) (lowQ (n * y + p) y) w hn m2 p0 p1 y1 y2 HG g1 g2 rfl rfl a0 a1 q1 q2 (by omega) (Int.ediv_lt_of_lt_mul (by omega) (by omega))).mono fun e w' k => MadeP.no (fun z => ?_) k
        have := z.2.1
        omega
    · have e1 : (n + 1) * lowQ (n * y + p) y + (p / gcdI (n * y + p) y - lowQ (n * y + p) y) = n * lowQ (n * y + p) y + p / gcdI (n * y + p) y := by rw [Int.add_mul, Int.one_mul]; omega
      have P1 : (n + 1) * lowQ (n * y + p) y ≤ 0 := Int.mul_nonpos_of_nonpos_of_nonneg (by omega) (by omega)
      obtain ⟨Z1, Z2⟩ := tdiv_in (-9223372036854775808 - (p / gcdI (n * y + p) y - lowQ (n * y + p) y)) _ q1 (by omega) (by omega)
      obtain ⟨T1, T2⟩ := tdiv_le_of (-9223372036854775808 - (p / gcdI (n * y + p) y - lowQ (n * y + p) y)) _ (n + 1) q1 (by omega)
      have h3 : 0 ≤ 9223372036854775807 / lowQ (n * y + p) y := Int.ediv_nonneg (by omega) (by omega)
      by_cases hP : -9223372036854775808 ≤ (n + 1) * lowQ (n * y + p) y + (p / gcdI (n * y + p) y - lowQ (n * y + p) y)
      · have T := T1 (by omega)
        have k := made_c n p y (gcdI (n * y + p) y) (p / gcdI (n * y + p) y) (lowQ (n * y + p) y) _ (mayB ((n + 1) * lowQ (n * y + p) y + (p / gcdI (n * y + p) y - lowQ (n * y + p) y)) (lowQ (n * y + p) y)) w (by omega) m1 p0 p1 y1 y2 HG g1 g2 rfl rfl a0 a1 q1 q2 P1 hP (by omega) (by omega) (by omega) (by omega) rfl Z1 (by omega) (by omega) (Lib.hid (fun w => may_any _ _ w hP (by omega)))
        rw [e1, ← eP] at k
        exact k.mono fun e w' => fin e w' (by omega) (by omega)
      · have T := T2 (by omega)
        refine (made_d n p y (gcdI (n * y + p) y) (p / gcdI (n * y + p) y) (lowQ (n * y + p) y) _ w (by omega) m1 p0 p1 y1 y2 HG g1 g2 rfl rfl a0 a1 q1 q2 (by omega) (by omega) (by omega) rfl Z1 (by omega) T).mono fun e w' k => MadeP.no (fun z => ?_) k
        have := z.1
        omega
end Go.Proofs.Ytbmadhejdnkeeaa.rref
