/-
  Sums of bounds, not a bound, and what keeps one: the arithmetic that package bound's promises rest on. Nothing of the program; no conditions beside the theorems' own.
-/
import Derived.Test.YtlagnbbbokgdfaaBoundAny
namespace Go.Proofs.Ytlagnbbbokgdfaa.bound
open Go.ChangeShapes Go.WideShapes Go.ChangeAt Go.RowKit num
set_option linter.unusedVariables false

theorem may_lo {b : Int} (h : May (b / 2)) : -9223372036854775808 ≤ b := by unfold May at h; omega
theorem may_hi {b : Int} (h : May (b / 2)) : b < 9223372036854775807 := by unfold May at h; omega
theorem val_none : valC 9223372036854775807 = 0 ∧ valS 9223372036854775807 = false ∧ valE 9223372036854775807 = 6 := ⟨if_neg none_not, if_neg none_not, if_pos rfl⟩
theorem val_ok {b : Int} (h : May (b / 2)) : valC b = b / 2 ∧ valS b = bS b ∧ valE b = 0 := ⟨if_pos h, if_pos h, (if_neg (not_none_lt (may_hi h))).trans (if_pos h)⟩
theorem val_no {b : Int} (h0 : b < 9223372036854775807) (h : ¬ May (b / 2)) : valC b = 0 ∧ valS b = false ∧ valE b = 8 := ⟨if_neg h, if_neg h, (if_neg (not_none_lt h0)).trans (if_neg h)⟩

theorem mk_half (c : Int) (s : Bool) : mk c s / 2 = c := by
  unfold mk
  cases s <;> simp <;> omega
theorem mk_strict (c : Int) (s : Bool) : bS (mk c s) = s := by
  unfold mk bS
  cases s <;> simp <;> omega
theorem mk_own (b : Int) : mk (b / 2) (bS b) = b := by
  unfold mk bS
  by_cases h : b % 2 = 0
  · simp [h]; omega
  · simp [h]; omega
theorem mk_may {c : Int} (h : May c) (s : Bool) : May (mk c s / 2) := by rw [mk_half]; exact h

theorem sum_comm (a b : Int) : sumV a b = sumV b a ∧ sumE a b = sumE b a := by
  unfold sumV sumE
  rw [Int.add_comm (a / 2), Bool.or_comm (bS a)]
  simp only [Or.comm (a := badB a), Or.comm (a := (a = 9223372036854775807))]
  exact ⟨trivial, trivial⟩
/-- a sum that is answered: none, or that of two numbers. -/
theorem sum_two {a b : Int} (h : sumE a b = 0) : (¬ badB a ∧ ¬ badB b ∧ (a = 9223372036854775807 ∨ b = 9223372036854775807) ∧ sumV a b = 9223372036854775807) ∨ (May (a / 2) ∧ May (b / 2) ∧ May (a / 2 + b / 2) ∧ sumV a b = mk (a / 2 + b / 2) (bS a || bS b)) := by
  by_cases hb : badB a ∨ badB b
  · rw [(sum_bad hb).2] at h; exact absurd h (by decide)
  · have ha : ¬ badB a := fun k => hb (.inl k)
    have hb' : ¬ badB b := fun k => hb (.inr k)
    by_cases k : a = 9223372036854775807 ∨ b = 9223372036854775807
    · exact .inl ⟨ha, hb', k, (sum_none hb k).1⟩
    · have ma : May (a / 2) := Decidable.byContradiction fun n => ha ⟨fun e => k (.inl e), n⟩
      have mb : May (b / 2) := Decidable.byContradiction fun n => hb' ⟨fun e => k (.inr e), n⟩
      by_cases hs : May (a / 2 + b / 2)
      · exact .inr ⟨ma, mb, hs, (sum_ok ma mb hs).1⟩
      · rw [(sum_over ma mb hs).2] at h; exact absurd h (by decide)
theorem sum_err {a b : Int} (h : sumE a b ≠ 0) : sumV a b = 0 := by
  unfold sumE at h
  unfold sumV
  split
  · rfl
  · rename_i k
    rw [if_neg k] at h
    split
    · rename_i j; rw [if_pos j] at h; exact absurd rfl h
    · rename_i j
      rw [if_neg j] at h
      split
      · rename_i i; rw [if_pos i] at h; exact absurd rfl h
      · rfl
theorem sum_le {a b : Int} (h : sumE a b = 0) : sumV a b ≤ 9223372036854775807 := by
  rcases sum_two h with ⟨_, _, _, e⟩ | ⟨_, _, hs, e⟩
  · rw [e]; exact Int.le_refl _
  · have := may_hi (mk_may hs (bS a || bS b)); rw [e]; omega
theorem sum_good {a b : Int} (h : sumE a b = 0) : ¬ badB (sumV a b) := by
  rcases sum_two h with ⟨_, _, _, e⟩ | ⟨_, _, hs, e⟩
  · rw [e]; exact badB_none
  · rw [e]; exact badB_ok (mk_may hs _)
theorem sum_first {a b : Int} (h : sumE a b = 0) : ¬ badB a := by
  rcases sum_two h with ⟨x, _⟩ | ⟨x, _⟩
  · exact x
  · exact badB_ok x
theorem sum_second {a b : Int} (h : sumE a b = 0) : ¬ badB b := by
  rcases sum_two h with ⟨_, x, _⟩ | ⟨_, x, _⟩
  · exact x
  · exact badB_ok x
theorem sum_assoc {a b c : Int} (h1 : sumE a b = 0) (h2 : sumE (sumV a b) c = 0) (h3 : sumE b c = 0) : sumE a (sumV b c) = 0 ∧ sumV a (sumV b c) = sumV (sumV a b) c := by
  have g1 := sum_good h1
  have g3 := sum_good h3
  have ga := sum_first h1
  have gc := sum_second h2
  have gb := sum_second h1
  by_cases n : a = 9223372036854775807 ∨ b = 9223372036854775807 ∨ c = 9223372036854775807
  · have l : sumV (sumV a b) c = 9223372036854775807 := by
      refine (sum_none (fun k => k.elim g1 gc) ?_).1
      rcases n with n | n | n
      · exact .inl (sum_none (fun k => k.elim ga gb) (.inl n)).1
      · exact .inl (sum_none (fun k => k.elim ga gb) (.inr n)).1
      · exact .inr n
    have r : a = 9223372036854775807 ∨ sumV b c = 9223372036854775807 := by
      rcases n with n | n | n
      · exact .inl n
      · exact .inr (sum_none (fun k => k.elim gb gc) (.inl n)).1
      · exact .inr (sum_none (fun k => k.elim gb gc) (.inr n)).1
    have := sum_none (fun k => k.elim ga g3) r
    exact ⟨this.2, by rw [this.1, l]⟩
  · rcases sum_two h1 with ⟨_, _, x, _⟩ | ⟨ma, mb, ms, e1⟩
    · exact (n (x.elim .inl (fun x => .inr (.inl x)))).elim
    · rcases sum_two h3 with ⟨_, _, x, _⟩ | ⟨_, mc, ms3, e3⟩
      · exact (n (x.elim (fun x => .inr (.inl x)) (fun x => .inr (.inr x)))).elim
      · have mm := mk_may ms (bS a || bS b)
        rw [e1] at h2 ⊢
        rcases sum_two h2 with ⟨_, _, x, _⟩ | ⟨_, _, ms2, e2⟩
        · exact (x.elim (fun x => none_not (x ▸ mm)) (fun x => n (.inr (.inr x)))).elim
        · rw [mk_half, mk_strict] at e2
          rw [mk_half] at ms2
          have m3 := mk_may ms3 (bS b || bS c)
          have mt : May (a / 2 + mk (b / 2 + c / 2) (bS b || bS c) / 2) := by rw [mk_half, ← Int.add_assoc]; exact ms2
          have := sum_ok ma m3 mt
          rw [e3]
          refine ⟨this.2, ?_⟩
          rw [this.1, e2, mk_half, mk_strict, Int.add_assoc, Bool.or_assoc]

theorem keep_two {d b : Int} (h : keepE d b = 0) : May d ∧ ¬ badB b := by
  unfold keepE at h
  by_cases m : May d
  · rw [if_pos m] at h
    by_cases k : badB b
    · rw [if_pos k] at h; exact absurd h (by decide)
    · exact ⟨m, k⟩
  · rw [if_neg m] at h; exact absurd h (by decide)
theorem keepE_of {d b : Int} (m : May d) (k : ¬ badB b) : keepE d b = 0 := (if_pos m).trans (if_neg k)
theorem keepV_none {d : Int} (m : May d) : keepV d 9223372036854775807 = true := (if_pos m).trans (if_pos rfl)
theorem keepV_ok {d b : Int} (m : May d) (k : May (b / 2)) : keepV d b = kept d (b / 2) (bS b) := (if_pos m).trans ((if_neg (not_none_lt (may_hi k))).trans (if_pos k))
theorem kept_iff {d c : Int} {s : Bool} : kept d c s = true ↔ d < c ∨ (d = c ∧ s = false) := by
  unfold kept
  simp
theorem keep_sum {a b x y : Int} (h : sumE a b = 0) (k1 : keepE x a = 0) (k2 : keepE y b = 0) (n : addE x y = 0) (v1 : keepV x a = true) (v2 : keepV y b = true) : keepE (addV x y) (sumV a b) = 0 ∧ keepV (addV x y) (sumV a b) = true := by
  have hxy : May x ∧ May y ∧ May (x + y) := by
    unfold addE at n
    by_cases c : May x ∧ May y ∧ May (x + y)
    · exact c
    · rw [if_neg c] at n; exact absurd n (by decide)
  have e : addV x y = x + y := if_pos hxy
  rw [e]
  have m := hxy.2.2
  refine ⟨keepE_of m (sum_good h), ?_⟩
  rcases sum_two h with ⟨_, _, _, e1⟩ | ⟨ma, mb, ms, e1⟩
  · rw [e1]; exact keepV_none m
  · rw [e1, keepV_ok m (mk_may ms _), mk_half, mk_strict, kept_iff]
    rw [keepV_ok hxy.1 ma, kept_iff] at v1
    rw [keepV_ok hxy.2.1 mb, kept_iff] at v2
    rcases v1 with v1 | ⟨v1, s1⟩
    · left; rcases v2 with v2 | ⟨v2, _⟩ <;> omega
    · rcases v2 with v2 | ⟨v2, s2⟩
      · left; omega
      · right; exact ⟨by omega, by rw [s1, s2]; rfl⟩
theorem good_two {b : Int} (h : ¬ badB b) : b = 9223372036854775807 ∨ May (b / 2) := by
  by_cases e : b = 9223372036854775807
  · exact .inl e
  · exact .inr (Decidable.byContradiction fun n => h ⟨e, n⟩)
/-- a lesser bound is kept by fewer. -/
theorem keep_less {a b d : Int} (hb' : b ≤ 9223372036854775807) (k1 : keepE d a = 0) (k2 : keepE d b = 0) (h : a ≤ b) (v : keepV d a = true) : keepV d b = true := by
  obtain ⟨m, ga⟩ := keep_two k1
  obtain ⟨_, gb⟩ := keep_two k2
  rcases good_two gb with rfl | mb
  · exact keepV_none m
  · rcases good_two ga with rfl | ma
    · exact absurd (may_hi mb) (by omega)
    · rw [keepV_ok m ma, kept_iff] at v
      rw [keepV_ok m mb, kept_iff]
      unfold bS at v ⊢
      simp only [decide_eq_false_iff_not] at v ⊢
      omega
/-- not of not is the bound. -/
theorem not_two {a : Int} (ma : May (a / 2)) : notV a = mk (-(a / 2)) (!bS a) ∧ May (notV a / 2) ∧ notV (notV a) = a := by
  have m : May (-(a / 2)) := by unfold May at ma ⊢; omega
  have e : notV a = mk (-(a / 2)) (!bS a) := if_pos ma
  have m2 : May (notV a / 2) := by rw [e]; exact mk_may m _
  refine ⟨e, m2, ?_⟩
  have e2 : notV (notV a) = mk (-(notV a / 2)) (!bS (notV a)) := if_pos m2
  rw [e2, e, mk_half, mk_strict, Int.neg_neg, Bool.not_not, mk_own]
theorem keep_not {a d : Int} (ma : May (a / 2)) (m : May d) : keepE (-d) (notV a) = 0 ∧ keepV (-d) (notV a) = !keepV d a := by
  obtain ⟨e, m2, _⟩ := not_two ma
  have md : May (-d) := by unfold May at m ⊢; omega
  refine ⟨keepE_of md (badB_ok m2), ?_⟩
  rw [keepV_ok md m2, keepV_ok m ma, e, mk_half, mk_strict]
  unfold kept
  cases bS a <;> simp <;> rw [Bool.eq_iff_iff] <;> simp <;> omega
end Go.Proofs.Ytlagnbbbokgdfaa.bound
