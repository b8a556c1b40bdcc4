/-
  The law BoundNots answers true for every two bounds and difference, and leaves them as they are; no conditions.
-/
import Derived.Test.YtihblpedmfohaaaBoundAlive
namespace Go.Proofs.Ytihblpedmfohaaa.boundNots
open Go.ChangeShapes Go.WideShapes Go.ChangeAt Go.RowKit num bound law
set_option linter.unusedVariables false

set_option maxRecDepth 100000 in
set_option maxHeartbeats 1000000 in
theorem walk_err (a b d e f : Int) (x y : Bool) (h : ((e == 0) = false ∧ (e != 0) = true) ∨ (e = 0 ∧ (f == 0) = false ∧ (f != 0) = true)) (w : World)
    (c1 : RowKit.Hid (Says 11 #[.int .i64 d, .int .i64 a] (.tuple #[.bool x, .int .i64 e])))
    (c2 : RowKit.Hid (Says 11 #[.int .i64 d, .int .i64 b] (.tuple #[.bool y, .int .i64 f]))) :
    Calls Try.prog 6 #[.int .i64 a, .int .i64 b, .int .i64 d] w fun e w' => e = .returned (.bool true) ∧ Below w.heap.size w w' := by
  have hB := Below.refl w.heap.size w
  rcases h with ⟨h1, h2⟩ | ⟨rfl, h1, h2⟩
  all_goals
    go_enter Try.func6, Try.ntmps6
    go_wp2_with (first | (go_at_call 12; refine (law.onto hB (b_alive _)).mono ?_; clear hB; rintro e w' ⟨rfl, hB⟩) | ((with_reducible refine (law.Says.go hB (c1)).mono ?_); clear hB; rintro e w' ⟨rfl, hB⟩) | ((with_reducible refine (law.Says.go hB (c2)).mono ?_); clear hB; rintro e w' ⟨rfl, hB⟩))
    go_ret
    exact ⟨rfl, hB⟩

set_option maxRecDepth 100000 in
set_option maxHeartbeats 1000000 in
theorem walk_none (b d : Int) (y : Bool) (h : b < 9223372036854775807 ∨ (b = 9223372036854775807 ∧ y = true)) (w : World)
    (c1 : RowKit.Hid (Says 11 #[.int .i64 d, .int .i64 9223372036854775807] (.tuple #[.bool true, .int .i64 0])))
    (c2 : RowKit.Hid (Says 11 #[.int .i64 d, .int .i64 b] (.tuple #[.bool y, .int .i64 0])))
    (c3 : RowKit.Hid (Says 10 #[.int .i64 9223372036854775807] (.tuple #[.int .i64 0, .int .i64 6]))) :
    Calls Try.prog 6 #[.int .i64 9223372036854775807, .int .i64 b, .int .i64 d] w fun e w' => e = .returned (.bool true) ∧ Below w.heap.size w w' := by
  have hB := Below.refl w.heap.size w
  rcases h with h | ⟨rfl, rfl⟩
  · have t : decide ((9223372036854775807 : Int) ≤ b) = false := by simp; omega
    go_enter Try.func6, Try.ntmps6
    go_wp2_with (first | (go_at_call 12; refine (law.onto hB (b_alive _)).mono ?_; clear hB; rintro e w' ⟨rfl, hB⟩) | ((with_reducible refine (law.Says.go hB (c1)).mono ?_); clear hB; rintro e w' ⟨rfl, hB⟩) | ((with_reducible refine (law.Says.go hB (c2)).mono ?_); clear hB; rintro e w' ⟨rfl, hB⟩) | ((with_reducible refine (law.Says.go hB (c3)).mono ?_); clear hB; rintro e w' ⟨rfl, hB⟩))
    go_ret
    exact ⟨rfl, hB⟩
  · go_enter Try.func6, Try.ntmps6
    go_wp2_with (first | (go_at_call 12; refine (law.onto hB (b_alive _)).mono ?_; clear hB; rintro e w' ⟨rfl, hB⟩) | ((with_reducible refine (law.Says.go hB (c1)).mono ?_); clear hB; rintro e w' ⟨rfl, hB⟩) | ((with_reducible refine (law.Says.go hB (c2)).mono ?_); clear hB; rintro e w' ⟨rfl, hB⟩) | ((with_reducible refine (law.Says.go hB (c3)).mono ?_); clear hB; rintro e w' ⟨rfl, hB⟩))
    go_ret
    exact ⟨rfl, hB⟩

set_option maxRecDepth 100000 in
set_option maxHeartbeats 1000000 in
theorem walk_ok (a b d n : Int) (x y : Bool) (d1 : -2305843009213693952 ≤ d) (d2 : d ≤ 2305843009213693952) (h : b < a ∨ (a ≤ b ∧ x = false) ∨ (a ≤ b ∧ x = true ∧ y = true)) (w : World)
    (c1 : RowKit.Hid (Says 11 #[.int .i64 d, .int .i64 a] (.tuple #[.bool x, .int .i64 0])))
    (c2 : RowKit.Hid (Says 11 #[.int .i64 d, .int .i64 b] (.tuple #[.bool y, .int .i64 0])))
    (c3 : RowKit.Hid (Says 10 #[.int .i64 a] (.tuple #[.int .i64 n, .int .i64 0])))
    (c4 : RowKit.Hid (Says 10 #[.int .i64 n] (.tuple #[.int .i64 a, .int .i64 0])))
    (c5 : RowKit.Hid (Says 11 #[.int .i64 (-d), .int .i64 n] (.tuple #[.bool (!x), .int .i64 0]))) :
    Calls Try.prog 6 #[.int .i64 a, .int .i64 b, .int .i64 d] w fun e w' => e = .returned (.bool true) ∧ Below w.heap.size w w' := by
  have hB := Below.refl w.heap.size w
  rcases h with h | ⟨h, rfl⟩ | ⟨h, rfl, rfl⟩
  · have t : decide (a ≤ b) = false := by simp; omega
    cases x
    all_goals
      go_enter Try.func6, Try.ntmps6
      go_wp2_with (first | (go_at_call 12; refine (law.onto hB (b_alive _)).mono ?_; clear hB; rintro e w' ⟨rfl, hB⟩) | ((with_reducible refine (law.Says.go hB (c1)).mono ?_); clear hB; rintro e w' ⟨rfl, hB⟩) | ((with_reducible refine (law.Says.go hB (c2)).mono ?_); clear hB; rintro e w' ⟨rfl, hB⟩) | ((with_reducible refine (law.Says.go hB (c3)).mono ?_); clear hB; rintro e w' ⟨rfl, hB⟩) | ((with_reducible refine (law.Says.go hB (c4)).mono ?_); clear hB; rintro e w' ⟨rfl, hB⟩) | ((with_reducible refine (law.Says.go hB (c5)).mono ?_); clear hB; rintro e w' ⟨rfl, hB⟩))
      go_ret
      exact ⟨rfl, hB⟩
  all_goals
    have t : decide (a ≤ b) = true := by simpa using h
    go_enter Try.func6, Try.ntmps6
    go_wp2_with (first | (go_at_call 12; refine (law.onto hB (b_alive _)).mono ?_; clear hB; rintro e w' ⟨rfl, hB⟩) | ((with_reducible refine (law.Says.go hB (c1)).mono ?_); clear hB; rintro e w' ⟨rfl, hB⟩) | ((with_reducible refine (law.Says.go hB (c2)).mono ?_); clear hB; rintro e w' ⟨rfl, hB⟩) | ((with_reducible refine (law.Says.go hB (c3)).mono ?_); clear hB; rintro e w' ⟨rfl, hB⟩) | ((with_reducible refine (law.Says.go hB (c4)).mono ?_); clear hB; rintro e w' ⟨rfl, hB⟩) | ((with_reducible refine (law.Says.go hB (c5)).mono ?_); clear hB; rintro e w' ⟨rfl, hB⟩))
    go_ret
    exact ⟨rfl, hB⟩

theorem walk (a b d : Int) (l0 : -9223372036854775808 ≤ a) (u0 : a ≤ 9223372036854775807) (l1 : -9223372036854775808 ≤ b) (u1 : b ≤ 9223372036854775807) (_l2 : -9223372036854775808 ≤ d) (_u2 : d ≤ 9223372036854775807) (w : World) :
    Calls Try.prog 6 #[.int .i64 a, .int .i64 b, .int .i64 d] w fun e w' => e = .returned (.bool true) ∧ Below w.heap.size w w' := by
  have k1 : Says 11 #[.int .i64 d, .int .i64 a] (.tuple #[.bool (keepV d a), .int .i64 (keepE d a)]) := fun w => keeps_any d a w u0
  have k2 : Says 11 #[.int .i64 d, .int .i64 b] (.tuple #[.bool (keepV d b), .int .i64 (keepE d b)]) := fun w => keeps_any d b w u1
  by_cases e1 : keepE d a = 0
  · by_cases e2 : keepE d b = 0
    · obtain ⟨md, ga⟩ := keep_two e1
      rw [e1] at k1
      rw [e2] at k2
      rcases good_two ga with rfl | ma
      · rw [keepV_none md] at k1
        refine walk_none b d (keepV d b) ?_ w k1 k2 (fun w => not_none w)
        by_cases hb : b = 9223372036854775807
        · subst hb; exact .inr ⟨rfl, keepV_none md⟩
        · exact .inl (by omega)
      · obtain ⟨_, m2, e3⟩ := not_two ma
        obtain ⟨e4, e5⟩ := keep_not ma md
        refine walk_ok a b d (notV a) (keepV d a) (keepV d b) md.1 md.2 ?_ w k1 k2 (fun w => ?_) (fun w => ?_) (fun w => ?_)
        · by_cases h : b < a
          · exact .inl h
          · cases v : keepV d a
            · exact .inr (.inl ⟨by omega, rfl⟩)
            · exact .inr (.inr ⟨by omega, rfl, keep_less u1 e1 e2 (by omega) v⟩)
        · have := not_any a w u0
          rw [(val_ok ma).2.2] at this
          exact this
        · have := not_any (notV a) w (by have := may_hi m2; omega)
          rw [(val_ok m2).2.2, e3] at this
          exact this
        · have := keeps_any (-d) (notV a) w (by have := may_hi m2; omega)
          rw [e4, e5] at this
          exact this
    · exact walk_err a b d _ _ _ _ (.inr ⟨e1, by simp [e2], by simp [e2]⟩) w k1 k2
  · exact walk_err a b d _ _ _ _ (.inl ⟨by simp [e1], by simp [e1]⟩) w k1 k2

set_option maxRecDepth 100000 in
theorem lifted (os : Os) (started : os.Started) (H : Type) (enc : TypeId × Value → H) :
    ReturnsInHanded {} Try.checked os 6 .any (Rows.boundNotsSpec.pre6 enc Try.prog Try.f6 Rows.boundNotsRow.domain false) (Rows.boundNotsSpec.post enc Try.prog Try.f6 false true false false) := by
  refine returnsInHanded_of_change (C := Try.checked) law.own started (by kernel_rfl) Try.func6
    (ChangeSpec.witness6 (enc := enc) (C := Try.checked) false ⟨#[], #[.int .i64 0, .int .i64 0, .int .i64 0], []⟩ 8 (by kernel_rfl) (by kernel_rfl) (by kernel_rfl) (by kernel_rfl)) ?_
  intro W base args ds gs before hval0 hW _ _
  have hval : ∀ (j : Nat) t v, Try.f6.params[j]? = some t → args[j]? = some v → Value.okWide Try.prog W .any base t v := hval0
  have hW' := hW
  obtain ⟨p, q, hA0, hV, rfl, _, _⟩ := hW
  have hA : DataW.TrodAll enc Try.prog W 0 (fun _ => true) true Try.f6.params.toList args.toList ds p := hA0
  rw [Try.params6] at hA hval
  obtain ⟨v0, vs0, d0, ds0, p0, q0, hargs, rfl, rfl, h0, r0⟩ := trodAll_cons hA
  obtain ⟨v1, vs1, d1, ds1, p1, q1, rfl, rfl, rfl, h1, r1⟩ := trodAll_cons r0
  obtain ⟨v2, vs2, d2, ds2, p2, q2, rfl, rfl, rfl, h2, r2⟩ := trodAll_cons r1
  obtain ⟨rfl, rfl, rfl⟩ := trodAll_nil r2
  obtain rfl : args = #[v0, v1, v2] := by cases args; simp_all
  obtain ⟨a0, rfl, rfl, rfl, w0⟩ := open_int Try.underlying22 (hval 0 22 v0 rfl rfl) h0
  obtain ⟨a1, rfl, rfl, rfl, w1⟩ := open_int Try.underlying22 (hval 1 22 v1 rfl rfl) h1
  obtain ⟨a2, rfl, rfl, rfl, w2⟩ := open_int Try.underlying3 (hval 2 3 v2 rfl rfl) h2
  refine (walk a0 a1 a2 (law.wf_lo w0) (law.wf_hi w0) (law.wf_lo w1) (law.wf_hi w1) (law.wf_lo w2) (law.wf_hi w2) W).mono fun e W' ⟨he, hB⟩ => ?_
  subst he
  exact ⟨_, rfl, law.post_true law.laidOut (by kernel_rfl) rfl Try.underlying4 rfl hW' (fun h => by subst h; rfl) hB⟩

theorem proved : Rows.BoundNotsSaid :=
  OpenClaim.holds_of_wide 6 Try.f6 rfl rfl rfl rfl rfl rfl rfl ⟨rfl, rfl, rfl, rfl, rfl⟩ rfl rfl rfl rfl rfl (by kernel_rfl) Try.func6 (by kernel_rfl)
    (of_decide_eq_true (by kernel_rfl)) (by unfold Func.isWrapper; first | (rw [if_pos (by decide +kernel)]; kernel_rfl) | (rw [if_neg (by decide +kernel)]; exact ⟨rfl, rfl⟩))
    (fun os started H enc _ => lifted os started H enc)
#print axioms proved
end Go.Proofs.Ytihblpedmfohaaa.boundNots
