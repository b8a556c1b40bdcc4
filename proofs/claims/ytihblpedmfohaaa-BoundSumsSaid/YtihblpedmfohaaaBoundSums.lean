/-
  The law BoundSums answers true for every three bounds and two differences, and leaves them as they are; no conditions.
-/
import Derived.Test.YtihblpedmfohaaaBoundAlive
namespace Go.Proofs.Ytihblpedmfohaaa.boundSums
open Go.ChangeShapes Go.WideShapes Go.ChangeAt Go.RowKit num bound law
set_option linter.unusedVariables false

set_option maxRecDepth 100000 in
set_option maxHeartbeats 1000000 in
theorem walk_no (a b c x y E : Int) (hE : (E == 0) = false) (hE2 : (E != 0) = true) (w : World)
    (c1 : RowKit.Hid (Says 9 #[.int .i64 a, .int .i64 b] (.tuple #[.int .i64 0, .int .i64 E])))
    (c2 : RowKit.Hid (Says 9 #[.int .i64 b, .int .i64 a] (.tuple #[.int .i64 0, .int .i64 E]))) :
    Calls Try.prog 5 #[.int .i64 a, .int .i64 b, .int .i64 c, .int .i64 x, .int .i64 y] w fun e w' => e = .returned (.bool true) ∧ Below w.heap.size w w' := by
  have hB := Below.refl w.heap.size w
  go_enter Try.func5, Try.ntmps5
  go_wp2_with (first | (go_at_call 12; refine (law.onto hB (b_alive _)).mono ?_; clear hB; rintro e w' ⟨rfl, hB⟩) | ((with_reducible refine (law.Says.go hB (c1)).mono ?_); clear hB; rintro e w' ⟨rfl, hB⟩) | ((with_reducible refine (law.Says.go hB (c2)).mono ?_); clear hB; rintro e w' ⟨rfl, hB⟩))
  go_ret
  exact ⟨rfl, hB⟩

set_option maxRecDepth 100000 in
set_option maxHeartbeats 4000000 in
theorem walk_yes (a b c x y S p q r n g h i k l : Int) (one two : Bool) (w : World)
    (c1 : RowKit.Hid (Says 9 #[.int .i64 a, .int .i64 b] (.tuple #[.int .i64 S, .int .i64 0])))
    (c2 : RowKit.Hid (Says 9 #[.int .i64 b, .int .i64 a] (.tuple #[.int .i64 S, .int .i64 0])))
    (c3 : RowKit.Hid (Says 11 #[.int .i64 x, .int .i64 a] (.tuple #[.bool one, .int .i64 g])))
    (c4 : RowKit.Hid (Says 11 #[.int .i64 y, .int .i64 b] (.tuple #[.bool two, .int .i64 h])))
    (c5 : RowKit.Hid (∀ w : World, Calls Try.prog 23 #[.int .i64 x, .int .i64 y] w fun e w' => e = .returned (.tuple #[.int .i64 n, .int .i64 i]) ∧ w = w'))
    (c6 : RowKit.Hid (g = 0 → h = 0 → i = 0 → one = true → two = true → Says 11 #[.int .i64 n, .int .i64 S] (.tuple #[.bool true, .int .i64 0])))
    (c7 : RowKit.Hid (Says 9 #[.int .i64 S, .int .i64 c] (.tuple #[.int .i64 p, .int .i64 k])))
    (c8 : RowKit.Hid (Says 9 #[.int .i64 b, .int .i64 c] (.tuple #[.int .i64 q, .int .i64 l])))
    (c9 : RowKit.Hid (k = 0 → l = 0 → Says 9 #[.int .i64 a, .int .i64 q] (.tuple #[.int .i64 p, .int .i64 0]))) :
    Calls Try.prog 5 #[.int .i64 a, .int .i64 b, .int .i64 c, .int .i64 x, .int .i64 y] w fun e w' => e = .returned (.bool true) ∧ Below w.heap.size w w' := by
  have six : (g == 0) = false ∨ (g = 0 ∧ (h == 0) = false) ∨ (g = 0 ∧ h = 0 ∧ (i == 0) = false) ∨ (g = 0 ∧ h = 0 ∧ i = 0 ∧ one = false) ∨ (g = 0 ∧ h = 0 ∧ i = 0 ∧ one = true ∧ two = false) ∨ (g = 0 ∧ h = 0 ∧ i = 0 ∧ one = true ∧ two = true) := by
    simp only [beq_eq_false_iff_ne]
    by_cases hg : g = 0
    · by_cases hh : h = 0
      · by_cases hi : i = 0
        · cases one <;> cases two <;> simp [hg, hh, hi]
        · simp [hg, hh, hi]
      · simp [hg, hh]
    · simp [hg]
  have three : ((k == 0) = false ∧ (k != 0) = true) ∨ (k = 0 ∧ (l == 0) = false ∧ (l != 0) = true) ∨ (k = 0 ∧ l = 0) := by
    by_cases hk : k = 0
    · by_cases hl : l = 0
      · simp [hk, hl]
      · simp [hk, hl]
    · simp [hk]
  have hB := Below.refl w.heap.size w
  rcases six with h1 | ⟨rfl, h1⟩ | ⟨rfl, rfl, h1⟩ | ⟨rfl, rfl, rfl, rfl⟩ | ⟨rfl, rfl, rfl, rfl, rfl⟩ | ⟨rfl, rfl, rfl, rfl, rfl⟩
  all_goals rcases three with ⟨h2, h3⟩ | ⟨rfl, h2, h3⟩ | ⟨rfl, rfl⟩
  all_goals (try (have c6' := Lib.hid (c6.out rfl rfl rfl rfl rfl)))
  all_goals (try (have c9' := Lib.hid (c9.out rfl rfl)))
  all_goals clear c6 c9
  all_goals
    go_enter Try.func5, Try.ntmps5
    go_wp2_with (first | (go_at_call 12; refine (law.onto hB (b_alive _)).mono ?_; clear hB; rintro e w' ⟨rfl, hB⟩) | ((with_reducible refine (law.Says.go hB (c1)).mono ?_); clear hB; rintro e w' ⟨rfl, hB⟩) | ((with_reducible refine (law.Says.go hB (c2)).mono ?_); clear hB; rintro e w' ⟨rfl, hB⟩) | ((with_reducible refine (law.Says.go hB (c3)).mono ?_); clear hB; rintro e w' ⟨rfl, hB⟩) | ((with_reducible refine (law.Says.go hB (c4)).mono ?_); clear hB; rintro e w' ⟨rfl, hB⟩) | ((with_reducible refine (c5.out _).mono ?_); rintro e w' ⟨rfl, rfl⟩) | ((with_reducible refine (law.Says.go hB (c7)).mono ?_); clear hB; rintro e w' ⟨rfl, hB⟩) | ((with_reducible refine (law.Says.go hB (c8)).mono ?_); clear hB; rintro e w' ⟨rfl, hB⟩) | ((with_reducible refine (law.Says.go hB (c6')).mono ?_); clear hB; rintro e w' ⟨rfl, hB⟩) | ((with_reducible refine (law.Says.go hB (c9')).mono ?_); clear hB; rintro e w' ⟨rfl, hB⟩))
    go_ret
    exact ⟨rfl, hB⟩

theorem sumE_ne {a b : Int} (h : sumE a b ≠ 0) : (sumE a b == 0) = false ∧ (sumE a b != 0) = true := by simp [h]

theorem walk (a b c x y : Int) (l0 : -9223372036854775808 ≤ a) (u0 : a ≤ 9223372036854775807) (l1 : -9223372036854775808 ≤ b) (u1 : b ≤ 9223372036854775807) (l2 : -9223372036854775808 ≤ c) (u2 : c ≤ 9223372036854775807) (_l3 : -9223372036854775808 ≤ x) (_u3 : x ≤ 9223372036854775807) (_l4 : -9223372036854775808 ≤ y) (_u4 : y ≤ 9223372036854775807) (w : World) :
    Calls Try.prog 5 #[.int .i64 a, .int .i64 b, .int .i64 c, .int .i64 x, .int .i64 y] w fun e w' => e = .returned (.bool true) ∧ Below w.heap.size w w' := by
  obtain ⟨s1, s2⟩ := sum_comm b a
  have d2 : Says 9 #[.int .i64 b, .int .i64 a] (.tuple #[.int .i64 (sumV a b), .int .i64 (sumE a b)]) := fun w => by
    rw [← s1, ← s2]; exact add2_any b a w u1 u0
  by_cases hE : sumE a b = 0
  · rw [hE] at d2
    refine walk_yes a b c x y (sumV a b) (sumV (sumV a b) c) (sumV b c) 0 (addV x y) (keepE x a) (keepE y b) (addE x y) (sumE (sumV a b) c) (sumE b c) (keepV x a) (keepV y b) w
      (fun w => hE ▸ add2_any a b w u0 u1) d2 (fun w => keeps_any x a w u0) (fun w => keeps_any y b w u1) (fun w => add_any x y w) (fun k1 k2 k3 k4 k5 w => ?_) (fun w => add2_any _ c w (sum_le hE) u2) (fun w => add2_any b c w u1 u2) (fun k1 k2 w => ?_)
    · obtain ⟨e1, e2⟩ := keep_sum hE k1 k2 k3 k4 k5
      have := keeps_any (addV x y) (sumV a b) w (sum_le hE)
      rw [e1, e2] at this
      exact this
    · obtain ⟨e1, e2⟩ := sum_assoc hE k1 k2
      have := add2_any a (sumV b c) w u0 (sum_le k2)
      rw [e1, e2] at this
      exact this
  · obtain ⟨h1, h2⟩ := sumE_ne hE
    have e := sum_err hE
    rw [e] at d2
    exact walk_no a b c x y (sumE a b) h1 h2 w (fun w => e ▸ add2_any a b w u0 u1) d2

set_option maxRecDepth 100000 in
theorem lifted (os : Os) (started : os.Started) (H : Type) (enc : TypeId × Value → H) :
    ReturnsInHanded {} Try.checked os 5 .any (Rows.boundSumsSpec.pre6 enc Try.prog Try.f5 Rows.boundSumsRow.domain false) (Rows.boundSumsSpec.post enc Try.prog Try.f5 false true false false) := by
  refine returnsInHanded_of_change (C := Try.checked) law.own started (by kernel_rfl) Try.func5
    (ChangeSpec.witness6 (enc := enc) (C := Try.checked) false ⟨#[], #[.int .i64 0, .int .i64 0, .int .i64 0, .int .i64 0, .int .i64 0], []⟩ 8 (by kernel_rfl) (by kernel_rfl) (by kernel_rfl) (by kernel_rfl)) ?_
  intro W base args ds gs before hval0 hW _ _
  have hval : ∀ (j : Nat) t v, Try.f5.params[j]? = some t → args[j]? = some v → Value.okWide Try.prog W .any base t v := hval0
  have hW' := hW
  obtain ⟨p, q, hA0, hV, rfl, _, _⟩ := hW
  have hA : DataW.TrodAll enc Try.prog W 0 (fun _ => true) true Try.f5.params.toList args.toList ds p := hA0
  rw [Try.params5] at hA hval
  obtain ⟨v0, vs0, d0, ds0, p0, q0, hargs, rfl, rfl, h0, r0⟩ := trodAll_cons hA
  obtain ⟨v1, vs1, d1, ds1, p1, q1, rfl, rfl, rfl, h1, r1⟩ := trodAll_cons r0
  obtain ⟨v2, vs2, d2, ds2, p2, q2, rfl, rfl, rfl, h2, r2⟩ := trodAll_cons r1
  obtain ⟨v3, vs3, d3, ds3, p3, q3, rfl, rfl, rfl, h3, r3⟩ := trodAll_cons r2
  obtain ⟨v4, vs4, d4, ds4, p4, q4, rfl, rfl, rfl, h4, r4⟩ := trodAll_cons r3
  obtain ⟨rfl, rfl, rfl⟩ := trodAll_nil r4
  obtain rfl : args = #[v0, v1, v2, v3, v4] := by cases args; simp_all
  obtain ⟨a0, rfl, rfl, rfl, w0⟩ := open_int Try.underlying22 (hval 0 22 v0 rfl rfl) h0
  obtain ⟨a1, rfl, rfl, rfl, w1⟩ := open_int Try.underlying22 (hval 1 22 v1 rfl rfl) h1
  obtain ⟨a2, rfl, rfl, rfl, w2⟩ := open_int Try.underlying22 (hval 2 22 v2 rfl rfl) h2
  obtain ⟨a3, rfl, rfl, rfl, w3⟩ := open_int Try.underlying3 (hval 3 3 v3 rfl rfl) h3
  obtain ⟨a4, rfl, rfl, rfl, w4⟩ := open_int Try.underlying3 (hval 4 3 v4 rfl rfl) h4
  refine (walk a0 a1 a2 a3 a4 (law.wf_lo w0) (law.wf_hi w0) (law.wf_lo w1) (law.wf_hi w1) (law.wf_lo w2) (law.wf_hi w2) (law.wf_lo w3) (law.wf_hi w3) (law.wf_lo w4) (law.wf_hi w4) W).mono fun e W' ⟨he, hB⟩ => ?_
  subst he
  exact ⟨_, rfl, law.post_true law.laidOut (by kernel_rfl) rfl Try.underlying4 rfl hW' (fun h => by subst h; rfl) hB⟩

theorem proved : Rows.BoundSumsSaid :=
  OpenClaim.holds_of_wide 5 Try.f5 rfl rfl rfl rfl rfl rfl rfl ⟨rfl, rfl, rfl, rfl, rfl⟩ rfl rfl rfl rfl rfl (by kernel_rfl) Try.func5 (by kernel_rfl)
    (of_decide_eq_true (by kernel_rfl)) (by unfold Func.isWrapper; first | (rw [if_pos (by decide +kernel)]; kernel_rfl) | (rw [if_neg (by decide +kernel)]; exact ⟨rfl, rfl⟩))
    (fun os started H enc _ => lifted os started H enc)
#print axioms proved
end Go.Proofs.Ytihblpedmfohaaa.boundSums
