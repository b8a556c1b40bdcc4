/-
  What the document's own answer for the fraction of two numbers is (rallentandoref03.Of); each theorem names its conditions.
-/
import Derived.Test.YtbmadhejdnkeeaaRatRef
namespace Go.Proofs.Ytbmadhejdnkeeaa.rref
open Go.ChangeShapes Go.WideShapes Go.ChangeAt Go.RowKit rmath bound num rat
set_option linter.unusedVariables false

theorem of_zero (n d : Int) (w : World) (h : d < 1) :
    Calls Try.prog 25 #[.int .i64 n, .int .i64 d] w fun e w' => e = .returned (.tuple #[.agg #[.int .i64 (0), .int .i64 (0)], .int .i64 30]) ∧ Below w.heap.size w w' := by
  go_enter Try.func25, Try.ntmps25
  go_wp2
  exact bodyPost_ret (v := .tuple #[.agg #[.int .i64 (0), .int .i64 (0)], .int .i64 30]) (by simp [results, Try.results25, go_sem]) rfl ⟨rfl, up1 _ _⟩
set_option maxHeartbeats 1000000 in
theorem of_den (n d g Q : Int) (w : World) (n1 : -9223372036854775808 ≤ n) (n2 : n ≤ 9223372036854775807) (h : 1 ≤ d) (h' : d ≤ 9223372036854775807) (hg : RowKit.Hid (gcdI (n % d) d = g)) (g1 : 1 ≤ g) (g2 : g ≤ d) (eQ : d / g = Q) (hQ : 1048576 < Q) :
    Calls Try.prog 25 #[.int .i64 n, .int .i64 d] w fun e w' => e = .returned (.tuple #[.agg #[.int .i64 (0), .int .i64 (0)], .int .i64 10]) ∧ Below w.heap.size w w' := by
  obtain ⟨_, b, c⟩ := div_mul n d h
  have t1 : ¬ d < 1 := by omega
  have t2 : ¬ g = 0 := by omega
  go_enter Try.func25, Try.ntmps25
  go_wp2_with (first
    | (go_at_call 42; refine (part_any _ _ _ (by omega) (by omega) (by omega) (by omega)).mono ?_; rintro e w' ⟨rfl, rfl⟩)
    | (go_at_call 49; refine (common_any _ _ _ (by omega) (by omega) (by omega) (by omega)).mono ?_; rintro e w' ⟨rfl, k, rfl⟩; rw [hg.out]))
  exact bodyPost_ret (v := .tuple #[.agg #[.int .i64 (0), .int .i64 (0)], .int .i64 10]) (by simp [results, Try.results25, go_sem]) rfl ⟨rfl, by first | exact drawn (up1 _ _) _ | exact ((drawn (up1 _ _) _).setCell (Nat.le_refl _) _).setCell (Nat.le_refl _) _⟩
set_option maxHeartbeats 1000000 in
theorem of_k (n d g P Q X Y E : Int) (m : Bool) (w : World) (n1 : -9223372036854775808 ≤ n) (n2 : n ≤ 9223372036854775807) (h : 1 ≤ d) (h' : d ≤ 9223372036854775807) (hg : RowKit.Hid (gcdI (n % d) d = g)) (g1 : 1 ≤ g) (g2 : g ≤ d) (eP : n.tdiv g = P) (eQ : d / g = Q) (hQ : Q ≤ 1048576) (q1 : 1 ≤ Q) (p1 : -9223372036854775808 ≤ P) (p2 : P ≤ 9223372036854775807)
    (cM : RowKit.Hid (law.Says 40 #[.agg #[.int .i64 (P), .int .i64 (Q)]] (.bool m))) (hm : (m = true ∧ X = P ∧ Y = Q ∧ E = 0) ∨ (m = false ∧ X = 0 ∧ Y = 0 ∧ E = 10)) :
    Calls Try.prog 25 #[.int .i64 n, .int .i64 d] w fun e w' => e = .returned (.tuple #[.agg #[.int .i64 (X), .int .i64 (Y)], .int .i64 E]) ∧ Below w.heap.size w w' := by
  obtain ⟨_, b, c⟩ := div_mul n d h
  have t1 : ¬ d < 1 := by omega
  have t2 : ¬ g = 0 := by omega
  have t3 : ¬ 1048576 < Q := by omega
  have e1 : IntKind.i64.wrap P = P := IntWalk.i64_in _ (by omega)
  have e2 : IntKind.i64.wrap Q = Q := IntWalk.i64_in _ (by omega)
  have e3 : d.tdiv g = Q := by rw [Int.tdiv_eq_ediv_of_nonneg (by omega), eQ]
  have r0 := lies.made w 23 #[.int .i64 0, .int .i64 0]
  have K := up1 w (.cells #[.int .i64 0, .int .i64 0] 23)
  go_enter Try.func25, Try.ntmps25
  go_wp2_with (first
    | (go_at_call 42; refine (part_any _ _ _ (by omega) (by omega) (by omega) (by omega)).mono ?_; rintro e w' ⟨rfl, rfl⟩)
    | (go_at_call 49; refine (common_any _ _ _ (by omega) (by omega) (by omega) (by omega)).mono ?_; rintro e w' ⟨rfl, k, rfl⟩; rw [hg.out]))
  go_region_held3 (fun _ => True) (trivial) (fail)
  all_goals
    rcases hm with ⟨rfl, rfl, rfl, rfl⟩ | ⟨rfl, rfl, rfl, rfl⟩
    · go_wp2_with ((with_reducible refine (said cM _).mono ?_); rintro e w1 ⟨rfl, hN⟩; have r1 := lies.on_call (lies.on_alloc (lies.on_draw r0 _) _) hN; have q1 := lies.on_call (lies.made_at _ _ _ (w.heap.size + 1) (by simp)) hN; obtain ⟨r10, r11, r12, r13, r14⟩ := lies.two r1; obtain ⟨q10, q11, q12, q13, q14⟩ := lies.two q1)
      exact bodyPost_ret (v := .tuple #[.agg #[.int .i64 (X), .int .i64 (Y)], .int .i64 0]) (by simp [results, Try.results25, go_sem, r10, r11]) rfl ⟨rfl, ((later (up (drawn K _) _) hN).setCell (Nat.le_refl _) _).setCell (Nat.le_refl _) _⟩
    · go_wp2_with ((with_reducible refine (said cM _).mono ?_); rintro e w1 ⟨rfl, hN⟩; have r1 := lies.on_call (lies.on_alloc (lies.on_draw r0 _) _) hN; obtain ⟨r10, r11, r12, r13, r14⟩ := lies.two r1)
      exact bodyPost_ret (v := .tuple #[.agg #[.int .i64 (0), .int .i64 (0)], .int .i64 10]) (by simp [results, Try.results25, go_sem, r10, r11]) rfl ⟨rfl, ((later (up (drawn K _) _) hN).setCell (Nat.le_refl _) _).setCell (Nat.le_refl _) _⟩

theorem gcd_comm_part (n d : Int) : gcdI (n % d) d = gcdI n d := by
  rw [← gcd_part n d]
  unfold gcdI
  rw [Int.gcd_comm]
theorem of_any (n d : Int) (w : World) (n1 : -9223372036854775808 ≤ n) (n2 : n ≤ 9223372036854775807) (d2 : d ≤ 9223372036854775807) :
    Calls Try.prog 25 #[.int .i64 n, .int .i64 d] w fun e w' => e = .returned (.tuple #[.agg #[.int .i64 (ofN n d), .int .i64 (ofD n d)], .int .i64 (ofE n d)]) ∧ Below w.heap.size w w' := by
  unfold ofN ofD ofE
  by_cases h : d < 1
  · rw [if_pos h, if_pos h, if_pos h]; exact of_zero n d w h
  · rw [if_neg h, if_neg h, if_neg h]
    have d1 : 1 ≤ d := by omega
    have g1 := gcd_pos n d d1
    have g2 := gcd_le n d d1
    obtain ⟨q1, q2⟩ := lowQ_in n d d1
    have p1 : -9223372036854775808 ≤ lowP n d ∧ lowP n d ≤ 9223372036854775807 := ediv_in n (gcdI n d) g1 n1 n2
    by_cases k : 1048576 < lowQ n d
    · have no : ¬ lowOk n d := fun z => by have := z.2.2.2.1; omega
      obtain ⟨x, y, z⟩ := low_not no
      rw [x, y, z]
      exact of_den n d (gcdI n d) (lowQ n d) w n1 n2 d1 d2 (Lib.hid (gcd_comm_part n d)) g1 g2 rfl k
    · have eP : n.tdiv (gcdI n d) = lowP n d := Int.tdiv_eq_ediv_of_dvd (Int.gcd_dvd_left n d)
      have cM : RowKit.Hid (law.Says 40 #[.agg #[.int .i64 (lowP n d), .int .i64 (lowQ n d)]] (.bool (mayB (lowP n d) (lowQ n d)))) := Lib.hid (fun w => may_any _ _ w p1.1 p1.2)
      refine of_k n d (gcdI n d) (lowP n d) (lowQ n d) _ _ _ _ w n1 n2 d1 d2 (Lib.hid (gcd_comm_part n d)) g1 g2 eP rfl (by omega) q1 p1.1 p1.2 cM ?_
      by_cases m : MayR (lowP n d) (lowQ n d)
      · obtain ⟨x, y, z⟩ := low_yes (show lowOk n d from ⟨p1.1, p1.2, m⟩)
        exact .inl ⟨mayB_yes m, x, y, z⟩
      · obtain ⟨x, y, z⟩ := low_not (fun z : lowOk n d => m z.2.2)
        exact .inr ⟨mayB_no m, x, y, z⟩
end Go.Proofs.Ytbmadhejdnkeeaa.rref
