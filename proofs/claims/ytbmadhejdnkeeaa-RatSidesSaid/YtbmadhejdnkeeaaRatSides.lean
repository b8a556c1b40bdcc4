/-
  The law RatSides answers true for every two fractions and bound, and leaves them as they are; no conditions.
-/
import Derived.Test.YtbmadhejdnkeeaaRatSides1
namespace Go.Proofs.Ytbmadhejdnkeeaa.ratSides
open Go.ChangeShapes Go.WideShapes Go.ChangeAt Go.RowKit rmath bound num rat ratlaw
set_option linter.unusedVariables false

theorem kp_ok {a b c d x : Int} (g : Both a b c d) (h : May (x / 2)) : kpV a b c d x = keptR a b c d x ∧ kpE a b c d x = 0 := by
  have n : ¬ x = 9223372036854775807 := fun e => none_not (e ▸ h)
  unfold kpV kpE
  rw [if_pos g, if_pos g, if_neg n, if_pos h, if_neg (badB_ok h)]
  exact ⟨rfl, rfl⟩
theorem kp_one {a b c d : Int} (g : Both a b c d) : decide (cmp0 (a * d) (c * b) ≤ 0) = kpV a b c d 1 ∧ kpE a b c d 1 = 0 := by
  obtain ⟨x, y⟩ := kp_ok (x := 1) g (by unfold May; omega)
  refine ⟨?_, y⟩
  have s : bS 1 = false := rfl
  rw [x]
  unfold keptR ltB
  rw [s, if_neg (by decide), show ((1 : Int) / 2) = 0 from rfl, Int.zero_mul]
  rcases cmp0_cases (a * d) (c * b) with ⟨k, r⟩ | ⟨k, r⟩ | ⟨k, r⟩
  · rw [r, decide_eq_false (by omega), decide_eq_true (by omega)]; rfl
  · rw [r, decide_eq_true (by omega), decide_eq_false (by omega)]; rfl
  · rw [r, decide_eq_true (by omega), decide_eq_false (by omega)]; rfl
theorem kp_zero {a b c d : Int} (g : Both a b c d) : decide (cmp0 (a * d) (c * b) < 0) = kpV a b c d 0 ∧ kpE a b c d 0 = 0 := by
  obtain ⟨x, y⟩ := kp_ok (x := 0) g (by unfold May; omega)
  refine ⟨?_, y⟩
  have s : bS 0 = true := rfl
  rw [x]
  unfold keptR ltB
  rw [s, if_pos rfl, show ((0 : Int) / 2) = 0 from rfl, Int.zero_mul]
  rcases cmp0_cases (a * d) (c * b) with ⟨k, r⟩ | ⟨k, r⟩ | ⟨k, r⟩
  · rw [r, decide_eq_false (by omega), decide_eq_false (by omega)]
  · rw [r, decide_eq_true (by omega), decide_eq_true (by omega)]
  · rw [r, decide_eq_false (by omega), decide_eq_false (by omega)]
theorem kept_not {a b c d x : Int} (h : May (x / 2)) : keptR c d a b (notV x) = !keptR a b c d x := by
  obtain ⟨e, _, _⟩ := not_two h
  unfold keptR
  rw [e, mk_half, mk_strict]
  have e1 : -(x / 2) * (d * b) = -(x / 2 * (b * d)) := by rw [Int.neg_mul, Int.mul_comm d b]
  rw [e1]
  unfold ltB
  generalize x / 2 * (b * d) = K
  cases bS x
  · rw [show (!false) = true from rfl, if_pos rfl, if_neg (by decide), Bool.not_not, Bool.eq_iff_iff]
    simp only [decide_eq_true_iff]
    omega
  · rw [show (!true) = false from rfl, if_neg (by decide), if_pos rfl]
    congr 1
    rw [Bool.eq_iff_iff]
    simp only [decide_eq_true_iff]
    omega
theorem kept_whole {a c x : Int} (h : May (x / 2)) (m : May (a - c)) : keepV (a - c) x = keptR a 1 c 1 x ∧ keepE (a - c) x = 0 := by
  refine ⟨?_, keepE_of m (badB_ok h)⟩
  rw [keepV_ok m h]
  unfold keptR kept ltB
  rw [Int.mul_one, Int.mul_one, Int.mul_one, Int.mul_one]
  cases bS x
  · rw [if_neg (by decide), Bool.eq_iff_iff]
    simp
    omega
  · rw [if_pos rfl]
    simp
theorem keepE_far {n x : Int} (m : ¬ May n) : keepE n x = 10 := if_neg m

theorem walk (a b c d x : Int) (a1 : -9223372036854775808 ≤ a) (a2 : a ≤ 9223372036854775807) (b1 : -9223372036854775808 ≤ b) (b2 : b ≤ 9223372036854775807) (c1 : -9223372036854775808 ≤ c) (c2 : c ≤ 9223372036854775807) (d1 : -9223372036854775808 ≤ d) (d2 : d ≤ 9223372036854775807) (x1 : -9223372036854775808 ≤ x) (x2 : x ≤ 9223372036854775807) (w : World) :
    Calls Try.prog 8 #[.agg #[.int .i64 (a), .int .i64 (b)], .agg #[.int .i64 (c), .int .i64 (d)], .int .i64 x] w fun e w' => e = .returned (.bool true) ∧ Below w.heap.size w w' := by
  by_cases g : Both a b c d
  · obtain ⟨n1, n2⟩ := cmpV_is g
    obtain ⟨o1, o2⟩ := kp_one g
    obtain ⟨z1, z2⟩ := kp_zero g
    have k1 := Lib.hid (cmp_at a b c d _ _ a1 a2 c1 c2 ⟨n1, n2⟩)
    have k2 := Lib.hid (keeps_at a b c d 1 _ _ a1 a2 c1 c2 (by omega) ⟨rfl, o2⟩)
    have k3 := Lib.hid (keeps_at a b c d 0 _ _ a1 a2 c1 c2 (by omega) ⟨rfl, z2⟩)
    have k5 : RowKit.Hid (law.Says 26 #[.int .i64 x] (.tuple #[.int .i64 (notV x), .int .i64 (valE x)])) := Lib.hid (fun w => not_any x w x2)
    rcases three x x2 with rfl | ⟨h0, h⟩ | ⟨h0, h⟩
    · have e1 : kpV a b c d 9223372036854775807 = true := by unfold kpV; rw [if_pos g, if_pos rfl]
      have e2 : kpE a b c d 9223372036854775807 = 0 := by unfold kpE; rw [if_pos g, if_neg badB_none]
      exact walk_out a b c d _ _ _ _ _ w _ _ _ o1 z1 (.inl ⟨rfl, rfl, rfl⟩) k1 k2 k3 (Lib.hid (keeps_at a b c d _ _ _ a1 a2 c1 c2 (by omega) ⟨e1, e2⟩)) k5
    · obtain ⟨u1, u2⟩ := kp_ok (x := x) g h
      obtain ⟨nt, nm, _⟩ := not_two h
      obtain ⟨v1, v2⟩ := kp_ok (x := notV x) (both_comm.1 g) nm
      have ve : valE x = 0 := by unfold valE; rw [if_neg (not_none_lt h0), if_pos h]
      rw [ve] at k5
      have nx : notV x ≤ 9223372036854775807 := by unfold May at nm; omega
      obtain ⟨f1, f2⟩ := floor_may g.1
      obtain ⟨g1, g2⟩ := floor_may g.2
      have k7 := floor_at a b _ _ _ a1 a2 ⟨(show flN a b = _ from if_pos g.1), (show flW a b = _ from if_pos g.1), rchk_ok g.1⟩
      have k8 := floor_at c d _ _ _ c1 c2 ⟨(show flN c d = _ from if_pos g.2), (show flW c d = _ from if_pos g.2), rchk_ok g.2⟩
      have k9 : RowKit.Hid (law.Says 27 #[.int .i64 (a / b - c / d), .int .i64 x] (.tuple #[.bool (keepV (a / b - c / d) x), .int .i64 (keepE (a / b - c / d) x)])) := Lib.hid (fun w => keeps_any _ x w x2)
      refine walk_in a b c d x _ _ _ _ _ _ _ _ _ w _ _ _ o1 z1 ?_ f1 f2 g1 g2 ?_ k1 k2 k3 (Lib.hid (keeps_at a b c d x _ _ a1 a2 c1 c2 x2 ⟨u1, u2⟩)) k5 (Lib.hid (keeps_at c d a b (notV x) _ _ c1 c2 a1 a2 nx ⟨v1.trans (kept_not h), v2⟩)) (Lib.hid k7) (Lib.hid k8) k9
      · cases keptR a b c d x <;> rfl
      · unfold wholeB
        by_cases p : a % b = 0
        · by_cases q : c % d = 0
          · have pb := (whole_iff g.1).1 p
            have qd := (whole_iff g.2).1 q
            subst pb qd
            rw [Int.ediv_one, Int.ediv_one, decide_eq_true p, decide_eq_true q]
            by_cases m : May (a - c)
            · exact .inr (.inr (.inr ⟨rfl, rfl, (kept_whole h m).2, (kept_whole h m).1⟩))
            · rw [keepE_far m]
              exact .inr (.inr (.inl ⟨rfl, rfl, rfl⟩))
          · rw [decide_eq_true p, decide_eq_false q]
            exact .inr (.inl ⟨rfl, rfl⟩)
        · rw [decide_eq_false p]
          exact .inl rfl
    · have e1 : kpE a b c d x = 8 := by unfold kpE; rw [if_pos g, if_pos (badB_no h0 h)]
      exact walk_out a b c d x _ _ _ _ w _ _ _ o1 z1 (.inr rfl) k1 k2 k3 (Lib.hid (keeps_at a b c d x _ _ a1 a2 c1 c2 x2 ⟨rfl, e1⟩)) k5
  · obtain ⟨n1, n2⟩ := cmpV_not g
    have e1 : kpV a b c d x = false := if_neg g
    have e2 : kpE a b c d x = 8 := if_neg g
    exact walk_no a b c d x w (Lib.hid (cmp_at a b c d _ _ a1 a2 c1 c2 ⟨n1, n2⟩)) (Lib.hid (keeps_at a b c d x _ _ a1 a2 c1 c2 x2 ⟨e1, e2⟩))

set_option maxRecDepth 100000 in
theorem lifted (os : Os) (started : os.Started) (H : Type) (enc : TypeId × Value → H) :
    ReturnsInHanded {} Try.checked os 8 .any (Rows.ratSidesSpec.pre6 enc Try.prog Try.f8 Rows.ratSidesRow.domain false) (Rows.ratSidesSpec.post enc Try.prog Try.f8 false true false false) := by
  refine returnsInHanded_of_change (C := Try.checked) law.own started (by kernel_rfl) Try.func8
    (ChangeSpec.witness6 (enc := enc) (C := Try.checked) false ⟨#[], #[.agg #[.int .i64 0, .int .i64 0], .agg #[.int .i64 0, .int .i64 0], .int .i64 0], []⟩ 8 (by kernel_rfl) (by kernel_rfl) (by kernel_rfl) (by kernel_rfl)) ?_
  intro W base args ds gs before hval0 hW _ _
  have hval : ∀ (j : Nat) t v, Try.f8.params[j]? = some t → args[j]? = some v → Value.okWide Try.prog W .any base t v := hval0
  have hW' := hW
  obtain ⟨p, q, hA0, hV, rfl, _, _⟩ := hW
  have hA : DataW.TrodAll enc Try.prog W 0 (fun _ => true) true Try.f8.params.toList args.toList ds p := hA0
  rw [Try.params8] at hA hval
  obtain ⟨v0, vs0, d0, ds0, p0, q0, hargs, rfl, rfl, h0, r0⟩ := trodAll_cons hA
  obtain ⟨v1, vs1, d1, ds1, p1, q1, rfl, rfl, rfl, h1, r1⟩ := trodAll_cons r0
  obtain ⟨v2, vs2, d2, ds2, p2, q2, rfl, rfl, rfl, h2, r2⟩ := trodAll_cons r1
  obtain ⟨rfl, rfl, rfl⟩ := trodAll_nil r2
  obtain rfl : args = #[v0, v1, v2] := by cases args; simp_all
  obtain ⟨a0, b0, rfl, x0, y0⟩ := ratlaw.open_rat (hval 0 23 v0 rfl rfl) h0
  obtain ⟨a1, b1, rfl, x1, y1⟩ := ratlaw.open_rat (hval 1 23 v1 rfl rfl) h1
  obtain ⟨a2, rfl, rfl, rfl, x2⟩ := open_int Try.underlying31 (hval 2 31 v2 rfl rfl) h2
  refine (walk a0 b0 a1 b1 a2 (law.wf_lo x0) (law.wf_hi x0) (law.wf_lo y0) (law.wf_hi y0) (law.wf_lo x1) (law.wf_hi x1) (law.wf_lo y1) (law.wf_hi y1) (law.wf_lo x2) (law.wf_hi x2) W).mono fun e W' ⟨he, hB⟩ => ?_
  subst he
  exact ⟨_, rfl, law.post_true law.laidOut (by kernel_rfl) rfl Try.underlying4 rfl hW' (fun h => by subst h; rfl) hB⟩

theorem proved : Rows.RatSidesSaid :=
  OpenClaim.holds_of_wide 8 Try.f8 rfl rfl rfl rfl rfl rfl rfl ⟨rfl, rfl, rfl, rfl, rfl⟩ rfl rfl rfl rfl rfl (by kernel_rfl) Try.func8 (by kernel_rfl)
    (of_decide_eq_true (by kernel_rfl)) (by unfold Func.isWrapper; first | (rw [if_pos (by decide +kernel)]; kernel_rfl) | (rw [if_neg (by decide +kernel)]; exact ⟨rfl, rfl⟩))
    (fun os started H enc _ => lifted os started H enc)
#print axioms proved
end Go.Proofs.Ytbmadhejdnkeeaa.ratSides
