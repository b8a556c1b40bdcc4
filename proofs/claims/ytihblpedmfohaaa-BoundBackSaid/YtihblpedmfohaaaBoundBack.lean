/-
  The law BoundBack answers true for every bound, number and difference, and leaves them as they are; no conditions.
-/
import Derived.Test.YtihblpedmfohaaaBoundAlive
namespace Go.Proofs.Ytihblpedmfohaaa.boundBack
open Go.ChangeShapes Go.WideShapes Go.ChangeAt Go.RowKit num bound law
set_option linter.unusedVariables false

set_option maxRecDepth 100000 in
set_option maxHeartbeats 4000000 in
theorem walk_no (b c d n g o q : Int) (s : Bool) (w : World) (hc : RowKit.Hid (¬ May c))
    (hg : ((g == 0) = false ∧ (g != 0) = true) ∨ (g = 0 ∧ s = false) ∨ (g = 0 ∧ s = true))
    (c1 : RowKit.Hid (Says 16 #[.int .i64 b] (.tuple #[.int .i64 n, .bool s, .int .i64 g])))
    (c2 : RowKit.Hid (Says 13 #[.int .i64 n] (.tuple #[.int .i64 o, .int .i64 0])))
    (c3 : RowKit.Hid (Says 8 #[.int .i64 n] (.tuple #[.int .i64 q, .int .i64 0])))
    (c4 : RowKit.Hid (Says 13 #[.int .i64 c] (.tuple #[.int .i64 0, .int .i64 10])))
    (c5 : RowKit.Hid (Says 8 #[.int .i64 c] (.tuple #[.int .i64 0, .int .i64 10])))
    (o1 : RowKit.Hid (g = 0 → s = false → b = o)) (q1 : RowKit.Hid (g = 0 → s = true → b = q)) :
    Calls Try.prog 7 #[.int .i64 b, .int .i64 c, .int .i64 d] w fun e w' => e = .returned (.bool true) ∧ Below w.heap.size w w' := by
  have hB := Below.refl w.heap.size w
  rcases hg with ⟨h1, h2⟩ | ⟨rfl, rfl⟩ | ⟨rfl, rfl⟩
  · go_enter Try.func7, Try.ntmps7
    go_wp2_with (first | (go_at_call 12; refine (law.onto hB (b_alive _)).mono ?_; clear hB; rintro e w' ⟨rfl, hB⟩) | (go_at_call 24; refine (check_no _ _ hc.out).mono ?_; rintro e w' ⟨rfl, rfl⟩) | ((with_reducible refine (law.Says.go hB (c1)).mono ?_); clear hB; rintro e w' ⟨rfl, hB⟩) | ((with_reducible refine (law.Says.go hB (c4)).mono ?_); clear hB; rintro e w' ⟨rfl, hB⟩) | ((with_reducible refine (law.Says.go hB (c5)).mono ?_); clear hB; rintro e w' ⟨rfl, hB⟩))
    go_ret
    exact ⟨rfl, hB⟩
  · obtain rfl := o1.out rfl rfl
    go_enter Try.func7, Try.ntmps7
    go_wp2_with (first | (go_at_call 12; refine (law.onto hB (b_alive _)).mono ?_; clear hB; rintro e w' ⟨rfl, hB⟩) | (go_at_call 24; refine (check_no _ _ hc.out).mono ?_; rintro e w' ⟨rfl, rfl⟩) | ((with_reducible refine (law.Says.go hB (c1)).mono ?_); clear hB; rintro e w' ⟨rfl, hB⟩) | ((with_reducible refine (law.Says.go hB (c4)).mono ?_); clear hB; rintro e w' ⟨rfl, hB⟩) | ((with_reducible refine (law.Says.go hB (c5)).mono ?_); clear hB; rintro e w' ⟨rfl, hB⟩) | ((with_reducible refine (law.Says.go hB (c2)).mono ?_); clear hB; rintro e w' ⟨rfl, hB⟩) | ((with_reducible refine (law.Says.go hB (c3)).mono ?_); clear hB; rintro e w' ⟨rfl, hB⟩))
    go_ret
    exact ⟨rfl, hB⟩
  · obtain rfl := q1.out rfl rfl
    go_enter Try.func7, Try.ntmps7
    go_wp2_with (first | (go_at_call 12; refine (law.onto hB (b_alive _)).mono ?_; clear hB; rintro e w' ⟨rfl, hB⟩) | (go_at_call 24; refine (check_no _ _ hc.out).mono ?_; rintro e w' ⟨rfl, rfl⟩) | ((with_reducible refine (law.Says.go hB (c1)).mono ?_); clear hB; rintro e w' ⟨rfl, hB⟩) | ((with_reducible refine (law.Says.go hB (c4)).mono ?_); clear hB; rintro e w' ⟨rfl, hB⟩) | ((with_reducible refine (law.Says.go hB (c5)).mono ?_); clear hB; rintro e w' ⟨rfl, hB⟩) | ((with_reducible refine (law.Says.go hB (c2)).mono ?_); clear hB; rintro e w' ⟨rfl, hB⟩) | ((with_reducible refine (law.Says.go hB (c3)).mono ?_); clear hB; rintro e w' ⟨rfl, hB⟩))
    go_ret
    exact ⟨rfl, hB⟩

set_option maxRecDepth 100000 in
set_option maxHeartbeats 8000000 in
theorem walk_yes (b c d n g o q M L i : Int) (s is less : Bool) (w : World) (hc : May c) (hLM : L < M)
    (hi : (i == 0) = false ∨ (i = 0 ∧ d < c ∧ is = true ∧ less = true) ∨ (i = 0 ∧ d = c ∧ is = true ∧ less = false) ∨ (i = 0 ∧ c < d ∧ is = false ∧ less = false))
    (hg : ((g == 0) = false ∧ (g != 0) = true) ∨ (g = 0 ∧ s = false) ∨ (g = 0 ∧ s = true))
    (c1 : RowKit.Hid (Says 16 #[.int .i64 b] (.tuple #[.int .i64 n, .bool s, .int .i64 g])))
    (c2 : RowKit.Hid (Says 13 #[.int .i64 n] (.tuple #[.int .i64 o, .int .i64 0])))
    (c3 : RowKit.Hid (Says 8 #[.int .i64 n] (.tuple #[.int .i64 q, .int .i64 0])))
    (c4 : RowKit.Hid (Says 13 #[.int .i64 c] (.tuple #[.int .i64 M, .int .i64 0])))
    (c5 : RowKit.Hid (Says 8 #[.int .i64 c] (.tuple #[.int .i64 L, .int .i64 0])))
    (c6 : RowKit.Hid (Says 16 #[.int .i64 M] (.tuple #[.int .i64 c, .bool false, .int .i64 0])))
    (c7 : RowKit.Hid (Says 16 #[.int .i64 L] (.tuple #[.int .i64 c, .bool true, .int .i64 0])))
    (c8 : RowKit.Hid (Says 11 #[.int .i64 d, .int .i64 M] (.tuple #[.bool is, .int .i64 i])))
    (c9 : RowKit.Hid (Says 11 #[.int .i64 d, .int .i64 L] (.tuple #[.bool less, .int .i64 i])))
    (o1 : RowKit.Hid (g = 0 → s = false → b = o)) (q1 : RowKit.Hid (g = 0 → s = true → b = q)) :
    Calls Try.prog 7 #[.int .i64 b, .int .i64 c, .int .i64 d] w fun e w' => e = .returned (.bool true) ∧ Below w.heap.size w w' := by
  have hB := Below.refl w.heap.size w
  rcases hi with h1 | ⟨rfl, h1, rfl, rfl⟩ | ⟨rfl, rfl, rfl, rfl⟩ | ⟨rfl, h1, rfl, rfl⟩
  all_goals rcases hg with ⟨h2, h3⟩ | ⟨rfl, rfl⟩ | ⟨rfl, rfl⟩
  all_goals (try (obtain rfl := o1.out rfl rfl))
  all_goals (try (obtain rfl := q1.out rfl rfl))
  all_goals
    go_enter Try.func7, Try.ntmps7
    go_wp2_with (first | (go_at_call 12; refine (law.onto hB (b_alive _)).mono ?_; clear hB; rintro e w' ⟨rfl, hB⟩) | (go_at_call 24; refine (check_ok _ _ (by assumption)).mono ?_; rintro e w' ⟨rfl, rfl⟩) | ((with_reducible refine (law.Says.go hB (c1)).mono ?_); clear hB; rintro e w' ⟨rfl, hB⟩) | ((with_reducible refine (law.Says.go hB (c4)).mono ?_); clear hB; rintro e w' ⟨rfl, hB⟩) | ((with_reducible refine (law.Says.go hB (c5)).mono ?_); clear hB; rintro e w' ⟨rfl, hB⟩) | ((with_reducible refine (law.Says.go hB (c6)).mono ?_); clear hB; rintro e w' ⟨rfl, hB⟩) | ((with_reducible refine (law.Says.go hB (c7)).mono ?_); clear hB; rintro e w' ⟨rfl, hB⟩) | ((with_reducible refine (law.Says.go hB (c8)).mono ?_); clear hB; rintro e w' ⟨rfl, hB⟩) | ((with_reducible refine (law.Says.go hB (c9)).mono ?_); clear hB; rintro e w' ⟨rfl, hB⟩) | ((with_reducible refine (law.Says.go hB (c2)).mono ?_); clear hB; rintro e w' ⟨rfl, hB⟩) | ((with_reducible refine (law.Says.go hB (c3)).mono ?_); clear hB; rintro e w' ⟨rfl, hB⟩))
    go_ret
    exact ⟨rfl, hB⟩

theorem walk (b c d : Int) (l0 : -9223372036854775808 ≤ b) (u0 : b ≤ 9223372036854775807) (_l1 : -9223372036854775808 ≤ c) (_u1 : c ≤ 9223372036854775807) (_l2 : -9223372036854775808 ≤ d) (_u2 : d ≤ 9223372036854775807) (w : World) :
    Calls Try.prog 7 #[.int .i64 b, .int .i64 c, .int .i64 d] w fun e w' => e = .returned (.bool true) ∧ Below w.heap.size w w' := by
  have k1 : Says 16 #[.int .i64 b] (.tuple #[.int .i64 (valC b), .bool (valS b), .int .i64 (valE b)]) := fun w => value_any b w u0
  have mn : May (valC b) := by
    unfold valC
    split
    · assumption
    · unfold May; omega
  have k2 : Says 13 #[.int .i64 (valC b)] (.tuple #[.int .i64 (mk (valC b) false), .int .i64 0]) := fun w => most_ok _ w mn
  have k3 : Says 8 #[.int .i64 (valC b)] (.tuple #[.int .i64 (mk (valC b) true), .int .i64 0]) := fun w => less_ok _ w mn
  have own : valE b = 0 → mk (valC b) (valS b) = b := fun h => by
    rcases three b u0 with rfl | ⟨h0, m⟩ | ⟨h0, m⟩
    · rw [val_none.2.2] at h; exact absurd h (by decide)
    · rw [(val_ok m).1, (val_ok m).2.1]; exact mk_own b
    · rw [(val_no h0 m).2.2] at h; exact absurd h (by decide)
  have hg : ((valE b == 0) = false ∧ (valE b != 0) = true) ∨ (valE b = 0 ∧ valS b = false) ∨ (valE b = 0 ∧ valS b = true) := by
    by_cases h : valE b = 0
    · cases v : valS b
      · exact .inr (.inl ⟨h, rfl⟩)
      · exact .inr (.inr ⟨h, rfl⟩)
    · exact .inl ⟨by simp [h], by simp [h]⟩
  have o1 : valE b = 0 → valS b = false → b = mk (valC b) false := fun h k => by
    have := own h
    rw [k] at this
    exact this.symm
  have q1 : valE b = 0 → valS b = true → b = mk (valC b) true := fun h k => by
    have := own h
    rw [k] at this
    exact this.symm
  by_cases hc : May c
  · have mM := mk_may hc false
    have mL := mk_may hc true
    have uM : mk c false ≤ 9223372036854775807 := by have := may_hi mM; omega
    have uL : mk c true ≤ 9223372036854775807 := by have := may_hi mL; omega
    refine walk_yes b c d (valC b) (valE b) (mk (valC b) false) (mk (valC b) true) (mk c false) (mk c true) (keepE d (mk c false)) (valS b) (keepV d (mk c false)) (keepV d (mk c true)) w hc ?_ ?_ hg k1 k2 k3 (fun w => most_ok c w hc) (fun w => less_ok c w hc) (fun w => ?_) (fun w => ?_) (fun w => keeps_any d _ w uM) (fun w => ?_) o1 q1
    · show 2 * c < 2 * c + 1
      omega
    · by_cases hd : May d
      · have e := keepE_of hd (badB_ok mM)
        rw [keepV_ok hd mM, keepV_ok hd mL, mk_half, mk_half, mk_strict, mk_strict]
        by_cases x : d < c
        · exact .inr (.inl ⟨e, x, kept_iff.2 (.inl x), kept_iff.2 (.inl x)⟩)
        · by_cases y : d = c
          · exact .inr (.inr (.inl ⟨e, y, kept_iff.2 (.inr ⟨y, rfl⟩), by unfold kept; simp; omega⟩))
          · exact .inr (.inr (.inr ⟨e, by omega, by unfold kept; simp; omega, by unfold kept; simp; omega⟩))
      · refine .inl ?_
        have e : keepE d (mk c false) = 10 := if_neg hd
        rw [e]
        rfl
    · have := value_ok _ w mM
      rw [mk_half, mk_strict] at this
      exact this
    · have := value_ok _ w mL
      rw [mk_half, mk_strict] at this
      exact this
    · have := keeps_any d (mk c true) w uL
      have e : keepE d (mk c true) = keepE d (mk c false) := by
        unfold keepE
        rw [if_neg (badB_ok mL), if_neg (badB_ok mM)]
      rw [e] at this
      exact this
  · exact walk_no b c d (valC b) (valE b) (mk (valC b) false) (mk (valC b) true) (valS b) w hc hg k1 k2 k3 (fun w => most_no c w hc) (fun w => less_no c w hc) o1 q1

set_option maxRecDepth 100000 in
theorem lifted (os : Os) (started : os.Started) (H : Type) (enc : TypeId × Value → H) :
    ReturnsInHanded {} Try.checked os 7 .any (Rows.boundBackSpec.pre6 enc Try.prog Try.f7 Rows.boundBackRow.domain false) (Rows.boundBackSpec.post enc Try.prog Try.f7 false true false false) := by
  refine returnsInHanded_of_change (C := Try.checked) law.own started (by kernel_rfl) Try.func7
    (ChangeSpec.witness6 (enc := enc) (C := Try.checked) false ⟨#[], #[.int .i64 0, .int .i64 0, .int .i64 0], []⟩ 8 (by kernel_rfl) (by kernel_rfl) (by kernel_rfl) (by kernel_rfl)) ?_
  intro W base args ds gs before hval0 hW _ _
  have hval : ∀ (j : Nat) t v, Try.f7.params[j]? = some t → args[j]? = some v → Value.okWide Try.prog W .any base t v := hval0
  have hW' := hW
  obtain ⟨p, q, hA0, hV, rfl, _, _⟩ := hW
  have hA : DataW.TrodAll enc Try.prog W 0 (fun _ => true) true Try.f7.params.toList args.toList ds p := hA0
  rw [Try.params7] at hA hval
  obtain ⟨v0, vs0, d0, ds0, p0, q0, hargs, rfl, rfl, h0, r0⟩ := trodAll_cons hA
  obtain ⟨v1, vs1, d1, ds1, p1, q1, rfl, rfl, rfl, h1, r1⟩ := trodAll_cons r0
  obtain ⟨v2, vs2, d2, ds2, p2, q2, rfl, rfl, rfl, h2, r2⟩ := trodAll_cons r1
  obtain ⟨rfl, rfl, rfl⟩ := trodAll_nil r2
  obtain rfl : args = #[v0, v1, v2] := by cases args; simp_all
  obtain ⟨a0, rfl, rfl, rfl, w0⟩ := open_int Try.underlying22 (hval 0 22 v0 rfl rfl) h0
  obtain ⟨a1, rfl, rfl, rfl, w1⟩ := open_int Try.underlying3 (hval 1 3 v1 rfl rfl) h1
  obtain ⟨a2, rfl, rfl, rfl, w2⟩ := open_int Try.underlying3 (hval 2 3 v2 rfl rfl) h2
  refine (walk a0 a1 a2 (law.wf_lo w0) (law.wf_hi w0) (law.wf_lo w1) (law.wf_hi w1) (law.wf_lo w2) (law.wf_hi w2) W).mono fun e W' ⟨he, hB⟩ => ?_
  subst he
  exact ⟨_, rfl, law.post_true law.laidOut (by kernel_rfl) rfl Try.underlying4 rfl hW' (fun h => by subst h; rfl) hB⟩

theorem proved : Rows.BoundBackSaid :=
  OpenClaim.holds_of_wide 7 Try.f7 rfl rfl rfl rfl rfl rfl rfl ⟨rfl, rfl, rfl, rfl, rfl⟩ rfl rfl rfl rfl rfl (by kernel_rfl) Try.func7 (by kernel_rfl)
    (of_decide_eq_true (by kernel_rfl)) (by unfold Func.isWrapper; first | (rw [if_pos (by decide +kernel)]; kernel_rfl) | (rw [if_neg (by decide +kernel)]; exact ⟨rfl, rfl⟩))
    (fun os started H enc _ => lifted os started H enc)
#print axioms proved
end Go.Proofs.Ytihblpedmfohaaa.boundBack
