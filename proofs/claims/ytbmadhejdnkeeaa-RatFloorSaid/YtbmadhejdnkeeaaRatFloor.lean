/-
  The law RatFloor answers true for every two numbers and how often, and leaves them as they are; no conditions.
-/
import Derived.Test.YtbmadhejdnkeeaaRatLaw
import Derived.Test.YtbmadhejdnkeeaaRatFrac
namespace Go.Proofs.Ytbmadhejdnkeeaa.ratFloor
open Go.ChangeShapes Go.WideShapes Go.ChangeAt Go.RowKit rmath bound num rat ratlaw
set_option linter.unusedVariables false

theorem mul_small (a b : Int) (a1 : -1125899906842624 ≤ a) (a2 : a ≤ 1125899906842624) (b1 : 1 ≤ b) (b2 : b ≤ 256) : -288230376151711744 ≤ a * b ∧ a * b ≤ 288230376151711744 := by
  have x := Int.mul_le_mul_of_nonneg_right a1 (show 0 ≤ b by omega)
  have y := Int.mul_le_mul_of_nonneg_right a2 (show 0 ≤ b by omega)
  omega

set_option maxRecDepth 100000 in
set_option maxHeartbeats 4000000 in
theorem walk_no (n d k E : Int) (w : World) (hE : (E != 0) = true) (k0 : 0 ≤ k) (k1 : k ≤ 255)
    (c1 : RowKit.Hid (law.Says 10 #[.int .i64 n, .int .i64 d] (.tuple #[.agg #[.int .i64 (0), .int .i64 (0)], .int .i64 E]))) :
    Calls Try.prog 9 #[.int .i64 n, .int .i64 d, .int .u8 k] w fun e w' => e = .returned (.bool true) ∧ Below w.heap.size w w' := by
  have ka : RowKit.Hid (law.Says 15 #[] (.bool true)) := Lib.hid alive
  have hB := Below.refl w.heap.size w
  go_enter Try.func9, Try.ntmps9
  go_wp2_with (first
    | ((with_reducible refine (said ka _).mono ?_); rintro e w0 ⟨rfl, hN⟩; (replace hB := go0 hB hN); clear hN)
    | ((with_reducible refine (said c1 _).mono ?_); rintro e w1 ⟨rfl, hN⟩; (replace hB := go0 hB hN); clear hN))
  go_ret
  exact ⟨rfl, up hB _⟩

set_option maxRecDepth 100000 in
set_option maxHeartbeats 8000000 in
theorem walk_yes (n d k P Q N c X Y H : Int) (u : Bool) (w : World) (k0 : 0 ≤ k) (k1 : k ≤ 255) (N1 : -2305843009213693952 ≤ N) (N2 : N ≤ 2305843009213693952) (hc : ¬ 0 < c) (hu : (c == 0) = u)
    (c1 : RowKit.Hid (law.Says 10 #[.int .i64 n, .int .i64 d] (.tuple #[.agg #[.int .i64 (P), .int .i64 (Q)], .int .i64 0])))
    (c2 : RowKit.Hid (law.Says 14 #[.agg #[.int .i64 (P), .int .i64 (Q)]] (.tuple #[.int .i64 N, .bool u, .int .i64 0])))
    (c3 : RowKit.Hid (law.Says 10 #[.int .i64 N, .int .i64 1] (.tuple #[.agg #[.int .i64 (N), .int .i64 (1)], .int .i64 0])))
    (c4 : RowKit.Hid (law.Says 16 #[.agg #[.int .i64 (N), .int .i64 (1)], .agg #[.int .i64 (P), .int .i64 (Q)]] (.tuple #[.int .i64 c, .int .i64 0])))
    (c5 : RowKit.Hid (law.Says 23 #[.agg #[.int .i64 (P), .int .i64 (Q)]] (.int .i64 0)))
    (c6 : RowKit.Hid (law.Says 10 #[.int .i64 (N + 1), .int .i64 1] (.tuple #[.agg #[.int .i64 (X), .int .i64 (Y)], .int .i64 H])))
    (c7 : RowKit.Hid (H = 0 → law.Says 16 #[.agg #[.int .i64 (P), .int .i64 (Q)], .agg #[.int .i64 (X), .int .i64 (Y)]] (.tuple #[.int .i64 (-1), .int .i64 0])))
    (c8 : RowKit.Hid (-1125899906842624 ≤ n → n ≤ 1125899906842624 → d ≤ 1125899906842624 → law.Says 10 #[.int .i64 (n * (k + 1)), .int .i64 (d * (k + 1))] (.tuple #[.agg #[.int .i64 (P), .int .i64 (Q)], .int .i64 0])))
    (d1 : 1 ≤ d) :
    Calls Try.prog 9 #[.int .i64 n, .int .i64 d, .int .u8 k] w fun e w' => e = .returned (.bool true) ∧ Below w.heap.size w w' := by
  have ka : RowKit.Hid (law.Says 15 #[] (.bool true)) := Lib.hid alive
  have hB := Below.refl w.heap.size w
  have two : H = 0 ∨ ((H == 0) = false ∧ (H != 0) = true) := by
    by_cases h : H = 0
    · exact .inl h
    · exact .inr (by simp [h])
  have four : 1125899906842624 < n ∨ (¬ 1125899906842624 < n ∧ n < -1125899906842624) ∨ (¬ 1125899906842624 < n ∧ ¬ n < -1125899906842624 ∧ 1125899906842624 < d) ∨ (¬ 1125899906842624 < n ∧ ¬ n < -1125899906842624 ∧ ¬ 1125899906842624 < d) := by omega
  rcases two with rfl | ⟨e1, e2⟩
  all_goals rcases four with q1 | ⟨q1, q2⟩ | ⟨q1, q2, q3⟩ | ⟨q1, q2, q3⟩
  all_goals (try (have c7' := Lib.hid (c7.out rfl)))
  all_goals (try (have c8' := Lib.hid (c8.out (by omega) (by omega) (by omega))))
  all_goals (try (have m1 := (mul_small n (k + 1) (by omega) (by omega) (by omega) (by omega)).1; have m2 := (mul_small n (k + 1) (by omega) (by omega) (by omega) (by omega)).2))
  all_goals (try (have m3 := (mul_small d (k + 1) (by omega) (by omega) (by omega) (by omega)).1; have m4 := (mul_small d (k + 1) (by omega) (by omega) (by omega) (by omega)).2))
  all_goals clear c7 c8
  all_goals
    go_enter Try.func9, Try.ntmps9
    go_wp2_with (first
      | ((with_reducible refine (said ka _).mono ?_); rintro e w0 ⟨rfl, hN⟩; (replace hB := go0 hB hN); clear hN)
      | ((with_reducible refine (said c1 _).mono ?_); rintro e w1 ⟨rfl, hN⟩; (replace hB := up (go0 hB hN) (.cells #[.int .i64 P, .int .i64 Q] 23)); clear hN; have L := lies.made w1 23 #[.int .i64 P, .int .i64 Q])
      | ((with_reducible refine (said c2 _).mono ?_); rintro e w2 ⟨rfl, hN⟩; (replace hB := go0 hB hN); (replace L := lies.on_call L hN); clear hN)
      | ((with_reducible refine (said c3 _).mono ?_); rintro e w3 ⟨rfl, hN⟩; (replace hB := up (go0 hB hN) (.cells #[.int .i64 N, .int .i64 1] 23)); (replace L := lies.on_alloc (lies.on_call L hN) (.cells #[.int .i64 N, .int .i64 1] 23)); clear hN; obtain ⟨l0, l1, l2, l3, l4⟩ := lies.two L)
      | ((with_reducible refine (said c4 _).mono ?_); rintro e w4 ⟨rfl, hN⟩; (replace hB := go0 hB hN); (replace L := lies.on_call L hN); clear hN; obtain ⟨l0, l1, l2, l3, l4⟩ := lies.two L)
      | ((with_reducible refine (said c5 _).mono ?_); rintro e w5 ⟨rfl, hN⟩; (replace hB := go0 hB hN); (replace L := lies.on_call L hN); clear hN)
      | ((with_reducible refine (said c6 _).mono ?_); rintro e w6 ⟨rfl, hN⟩; (replace hB := up (go0 hB hN) (.cells #[.int .i64 X, .int .i64 Y] 23)); (replace L := lies.on_alloc (lies.on_call L hN) (.cells #[.int .i64 X, .int .i64 Y] 23)); clear hN; obtain ⟨l0, l1, l2, l3, l4⟩ := lies.two L)
      | ((with_reducible refine (said c7' _).mono ?_); rintro e w7 ⟨rfl, hN⟩; (replace hB := go0 hB hN); (replace L := lies.on_call L hN); clear hN)
      | ((with_reducible refine (said c8' _).mono ?_); rintro e w8 ⟨rfl, hN⟩; (replace hB := up (go0 hB hN) (.cells #[.int .i64 P, .int .i64 Q] 23)); (replace L := lies.on_alloc (lies.on_call L hN) (.cells #[.int .i64 P, .int .i64 Q] 23)); clear hN; obtain ⟨l0, l1, l2, l3, l4⟩ := lies.two L))
    go_ret
    exact ⟨rfl, hB⟩

theorem cmp_low {P Q : Int} (h : MayR P Q) : cmpV (P / Q) 1 P Q = (if wholeB P Q then 0 else -1) ∧ cmpE (P / Q) 1 P Q = 0 := by
  have k : Both (P / Q) 1 P Q := ⟨whole_may (floor_may h), h⟩
  obtain ⟨a, b, c⟩ := div_mul P Q h.1
  unfold cmpV cmpE wholeB
  rw [if_pos k, if_pos k, Int.mul_one, if_neg (by omega)]
  refine ⟨?_, rfl⟩
  by_cases e : P % Q = 0
  · rw [if_neg (by omega), if_pos (by simpa using e)]
  · rw [if_pos (by omega), if_neg (by simpa using e)]
theorem cmp_next {P Q : Int} (h : MayR P Q) (k : May (P / Q + 1)) : cmpV P Q (P / Q + 1) 1 = -1 ∧ cmpE P Q (P / Q + 1) 1 = 0 := by
  have k : Both P Q (P / Q + 1) 1 := ⟨h, whole_may k⟩
  obtain ⟨a, b, c⟩ := div_mul P Q h.1
  unfold cmpV cmpE
  rw [if_pos k, if_pos k, Int.mul_one, Int.add_mul, Int.one_mul, if_neg (by omega), if_pos (by omega)]
  exact ⟨rfl, rfl⟩
theorem of_often {n d k : Int} (h : ofE n d = 0) (hk : 1 ≤ k) : ofN (n * k) (d * k) = ofN n d ∧ ofD (n * k) (d * k) = ofD n d ∧ ofE (n * k) (d * k) = 0 := by
  obtain ⟨d1, a, b, c⟩ := of_ok h
  have dk : 1 ≤ d * k := by
    have := Int.mul_le_mul_of_nonneg_right d1 (show 0 ≤ k by omega)
    omega
  obtain ⟨x, y, z⟩ := lowOk_same dk d1 (show n * k * d = n * (d * k) by ac_rfl)
  unfold ofN ofD ofE
  rw [if_neg (by omega), if_neg (by omega), if_neg (by omega), if_neg (by omega), if_neg (by omega), x, y, z]
  exact ⟨rfl, rfl, c⟩

theorem walk (n d k : Int) (l0 : -9223372036854775808 ≤ n) (u0 : n ≤ 9223372036854775807) (l1 : -9223372036854775808 ≤ d) (u1 : d ≤ 9223372036854775807) (k0 : 0 ≤ k) (k1 : k ≤ 255) (w : World) :
    Calls Try.prog 9 #[.int .i64 n, .int .i64 d, .int .u8 k] w fun e w' => e = .returned (.bool true) ∧ Below w.heap.size w w' := by
  by_cases h : ofE n d = 0
  · obtain ⟨d1, a, b, c⟩ := of_ok h
    obtain ⟨m, e, p1, p2⟩ := low_ok d1 c
    rw [← a, ← b] at m
    rw [← a] at p1 p2
    have f := floor_may m
    obtain ⟨f1, f2⟩ := id f
    obtain ⟨v1, v2⟩ := cmp_low m
    have c3 := of_at _ 1 _ _ _ (by omega) (by omega) (by omega) (of_whole f)
    have c4 := cmp_at _ 1 _ _ _ _ (by omega) (by omega) p1 p2 ⟨v1, v2⟩
    have c2 := floor_at _ _ _ _ _ p1 p2 ⟨(show flN (ofN n d) (ofD n d) = _ from if_pos m), (show flW (ofN n d) (ofD n d) = _ from if_pos m), rchk_ok m⟩
    have c6 := of_at (ofN n d / ofD n d + 1) 1 _ _ _ (by omega) (by omega) (by omega) ⟨rfl, rfl, rfl⟩
    refine walk_yes n d k (ofN n d) (ofD n d) (ofN n d / ofD n d) _ _ _ _ (wholeB (ofN n d) (ofD n d)) w k0 k1 f1 f2 ?_ ?_ (Lib.hid (of_at n d _ _ _ l0 u0 u1 ⟨rfl, rfl, h⟩)) (Lib.hid c2) (Lib.hid c3) (Lib.hid c4) (Lib.hid (check_at _ _ _ p1 p2 (rchk_ok m))) (Lib.hid c6) (Lib.hid (fun z => ?_)) (Lib.hid (fun z1 z2 z3 => ?_)) d1
    · split <;> omega
    · generalize wholeB (ofN n d) (ofD n d) = u
      cases u <;> rfl
    · by_cases g : May (ofN n d / ofD n d + 1)
      · obtain ⟨x, y, _⟩ := of_whole g
        rw [x, y]
        exact cmp_at _ _ _ _ _ _ p1 p2 (by omega) (by omega) (cmp_next m g)
      · rw [(of_far g).2.2] at z
        exact absurd z (by omega)
    · obtain ⟨m1, m2⟩ := mul_small n (k + 1) (by omega) (by omega) (by omega) (by omega)
      obtain ⟨m3, m4⟩ := mul_small d (k + 1) (by omega) (by omega) (by omega) (by omega)
      exact of_at _ _ _ _ _ (by omega) (by omega) (by omega) (of_often h (by omega))
  · obtain ⟨x, y⟩ := of_err h
    exact walk_no n d k (ofE n d) w (by simpa using h) k0 k1 (Lib.hid (of_at n d _ _ _ l0 u0 u1 ⟨x, y, rfl⟩))

set_option maxRecDepth 100000 in
theorem lifted (os : Os) (started : os.Started) (H : Type) (enc : TypeId × Value → H) :
    ReturnsInHanded {} Try.checked os 9 .any (Rows.ratFloorSpec.pre6 enc Try.prog Try.f9 Rows.ratFloorRow.domain false) (Rows.ratFloorSpec.post enc Try.prog Try.f9 false true false false) := by
  refine returnsInHanded_of_change (C := Try.checked) law.own started (by kernel_rfl) Try.func9
    (ChangeSpec.witness6 (enc := enc) (C := Try.checked) false ⟨#[], #[.int .i64 0, .int .i64 0, .int .u8 0], []⟩ 8 (by kernel_rfl) (by kernel_rfl) (by kernel_rfl) (by kernel_rfl)) ?_
  intro W base args ds gs before hval0 hW _ _
  have hval : ∀ (j : Nat) t v, Try.f9.params[j]? = some t → args[j]? = some v → Value.okWide Try.prog W .any base t v := hval0
  have hW' := hW
  obtain ⟨p, q, hA0, hV, rfl, _, _⟩ := hW
  have hA : DataW.TrodAll enc Try.prog W 0 (fun _ => true) true Try.f9.params.toList args.toList ds p := hA0
  rw [Try.params9] at hA hval
  obtain ⟨v0, vs0, d0, ds0, p0, q0, hargs, rfl, rfl, h0, r0⟩ := trodAll_cons hA
  obtain ⟨v1, vs1, d1, ds1, p1, q1, rfl, rfl, rfl, h1, r1⟩ := trodAll_cons r0
  obtain ⟨v2, vs2, d2, ds2, p2, q2, rfl, rfl, rfl, h2, r2⟩ := trodAll_cons r1
  obtain ⟨rfl, rfl, rfl⟩ := trodAll_nil r2
  obtain rfl : args = #[v0, v1, v2] := by cases args; simp_all
  obtain ⟨a0, rfl, rfl, rfl, x0⟩ := open_int Try.underlying3 (hval 0 3 v0 rfl rfl) h0
  obtain ⟨a1, rfl, rfl, rfl, x1⟩ := open_int Try.underlying3 (hval 1 3 v1 rfl rfl) h1
  obtain ⟨a2, rfl, rfl, rfl, x2⟩ := open_int Try.underlying5 (hval 2 5 v2 rfl rfl) h2
  refine (walk a0 a1 a2 (law.wf_lo x0) (law.wf_hi x0) (law.wf_lo x1) (law.wf_hi x1) (bounds_u8 x2).1 (bounds_u8 x2).2 W).mono fun e W' ⟨he, hB⟩ => ?_
  subst he
  exact ⟨_, rfl, law.post_true law.laidOut (by kernel_rfl) rfl Try.underlying4 rfl hW' (fun h => by subst h; rfl) hB⟩

theorem proved : Rows.RatFloorSaid :=
  OpenClaim.holds_of_wide 9 Try.f9 rfl rfl rfl rfl rfl rfl rfl ⟨rfl, rfl, rfl, rfl, rfl⟩ rfl rfl rfl rfl rfl (by kernel_rfl) Try.func9 (by kernel_rfl)
    (of_decide_eq_true (by kernel_rfl)) (by unfold Func.isWrapper; first | (rw [if_pos (by decide +kernel)]; kernel_rfl) | (rw [if_neg (by decide +kernel)]; exact ⟨rfl, rfl⟩))
    (fun os started H enc _ => lifted os started H enc)
#print axioms proved
end Go.Proofs.Ytbmadhejdnkeeaa.ratFloor
