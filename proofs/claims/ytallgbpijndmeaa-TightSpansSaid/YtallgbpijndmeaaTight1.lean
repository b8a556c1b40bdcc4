/-
  What tight's small functions answer; each theorem names its conditions.
-/
import Derived.Test.YtallgbpijndmeaaBase
import Derived.Test.YtallgbpijndmeaaDbmA
namespace Go.Proofs.Ytallgbpijndmeaa.tight
open Go.ChangeShapes Go.WideShapes Go.ChangeAt Go.RowKit num dbm
open bound hiding up
set_option linter.unusedVariables false
set_option linter.unusedSimpArgs false

theorem clock_any (n i : Int) (sv : Value) (w : World) : Calls Try.prog 24 #[.agg #[.int .i64 n, sv], .int .i64 i] w fun e w' => e = .returned (.bool (decide (0 ≤ i) && decide (i < n))) ∧ Below w.heap.size w w' := by
  by_cases h : 0 ≤ i
  · by_cases k : i < n
    · rw [decide_eq_true h, decide_eq_true k]
      go_enter Try.func24, Try.ntmps24
      go_wp2_with fail
      go_ret
      exact ⟨rfl, up1 _ _⟩
    · rw [decide_eq_true h, decide_eq_false k]
      go_enter Try.func24, Try.ntmps24
      go_wp2_with fail
      go_ret
      exact ⟨rfl, up1 _ _⟩
  · rw [decide_eq_false h]
    go_enter Try.func24, Try.ntmps24
    go_wp2_with fail
    go_ret
    exact ⟨rfl, up1 _ _⟩

/-- a number that a span may have. -/
def In (c : Int) : Prop := -288230376151711744 ≤ c ∧ c ≤ 288230376151711744
instance decIn (c : Int) : Decidable (In c) := by unfold In; exact inferInstance
theorem beyond_no (c : Int) (w : World) (h : In c) : Calls Try.prog 60 #[.int .i64 c] w fun e w' => e = .returned (.bool false) ∧ w = w' := by
  obtain ⟨h1, h2⟩ := h
  have t1 : ¬ c < -288230376151711744 := by omega
  have t2 : ¬ 288230376151711744 < c := by omega
  go_enter Try.func60, Try.ntmps60
  go_wp2_with fail
  go_ret
  exact ⟨rfl, rfl⟩
theorem beyond_yes (c : Int) (w : World) (h : ¬ In c) : Calls Try.prog 60 #[.int .i64 c] w fun e w' => e = .returned (.bool true) ∧ w = w' := by
  by_cases h1 : c < -288230376151711744
  · clear h
    go_enter Try.func60, Try.ntmps60
    go_wp2_with fail
    go_ret
    exact ⟨rfl, rfl⟩
  · have h2 : 288230376151711744 < c := by unfold In at h; omega
    clear h
    go_enter Try.func60, Try.ntmps60
    go_wp2_with fail
    go_ret
    exact ⟨rfl, rfl⟩

/-- the bound of a number that a span may have. -/
theorem in_may {c : Int} (h : In c) : May c := by unfold In at h; unfold May; omega
theorem end_any (c : Int) (s : Bool) (w : World) (h : In c) : Calls Try.prog 29 #[.int .i64 c, .bool s] w fun e w' => e = .returned (.int .i64 (mk c s)) ∧ Below w.heap.size w w' := by
  have H := Lib.hid (in_may h)
  clear h
  cases s with
  | true =>
    go_enter Try.func29, Try.ntmps29
    go_wp2_with (go_at_call 62; refine (less_ok _ _ H.out).mono ?_; rintro e w1 ⟨rfl, hB1⟩)
    go_ret
    exact ⟨rfl, hB1⟩
  | false =>
    go_enter Try.func29, Try.ntmps29
    go_wp2_with (go_at_call 61; refine (most_ok _ _ H.out).mono ?_; rintro e w1 ⟨rfl, hB1⟩)
    go_ret
    exact ⟨rfl, hB1⟩

/-- a span, as a value. -/
@[reducible] def spanV (lo : Int) (ls : Bool) (hi : Int) (hs op : Bool) : Value := .agg #[.int .i64 lo, .bool ls, .int .i64 hi, .bool hs, .bool op]
/-- a span that may be. -/
def MayS (lo hi : Int) (hs op : Bool) : Prop := In lo ∧ ((op = true ∧ hi = 0 ∧ hs = false) ∨ (op = false ∧ In hi ∧ lo ≤ hi))
instance decMayS (lo hi : Int) (hs op : Bool) : Decidable (MayS lo hi hs op) := by unfold MayS; exact inferInstance
theorem span_any (lo : Int) (ls : Bool) (hi : Int) (hs op : Bool) (w : World) : Calls Try.prog 28 #[.agg #[.int .i64 lo, .bool ls, .int .i64 hi, .bool hs, .bool op]] w fun e w' => e = .returned (.int .i64 (if MayS lo hi hs op then 0 else 8)) ∧ Below w.heap.size w w' := by
  by_cases h1 : In lo
  · have H1 := Lib.hid h1
    cases op with
    | true =>
      by_cases h2 : hi = 0
      · subst h2
        cases hs with
        | true =>
          rw [if_neg (by unfold MayS; simp)]
          clear h1
          go_enter Try.func28, Try.ntmps28
          go_wp2_with (go_at_call 60; refine (beyond_no _ _ H1.out).mono ?_; rintro e w' ⟨rfl, rfl⟩)
          go_ret
          exact ⟨rfl, up1 _ _⟩
        | false =>
          rw [if_pos (by unfold MayS; exact ⟨h1, .inl ⟨rfl, rfl, rfl⟩⟩)]
          clear h1
          go_enter Try.func28, Try.ntmps28
          go_wp2_with (go_at_call 60; refine (beyond_no _ _ H1.out).mono ?_; rintro e w' ⟨rfl, rfl⟩)
          go_ret
          exact ⟨rfl, up1 _ _⟩
      · rw [if_neg (by unfold MayS; simp [h2])]
        have t1 : (hi != 0) = true := by simpa using h2
        clear h1
        go_enter Try.func28, Try.ntmps28
        go_wp2_with (go_at_call 60; refine (beyond_no _ _ H1.out).mono ?_; rintro e w' ⟨rfl, rfl⟩)
        go_ret
        exact ⟨rfl, up1 _ _⟩
    | false =>
      by_cases h2 : In hi
      · have H2 := Lib.hid h2
        by_cases h3 : hi < lo
        · rw [if_neg (by
            unfold MayS
            rintro ⟨_, ⟨h, _⟩ | ⟨_, _, h⟩⟩
            · cases h
            · omega)]
          clear h1 h2
          go_enter Try.func28, Try.ntmps28
          go_wp2_with (go_at_call 60; (first | (with_reducible refine (beyond_no lo _ H1.out).mono ?_) | (with_reducible refine (beyond_no hi _ H2.out).mono ?_)); rintro e w' ⟨rfl, rfl⟩)
          go_ret
          exact ⟨rfl, up1 _ _⟩
        · rw [if_pos (by unfold MayS; exact ⟨h1, .inr ⟨rfl, h2, by omega⟩⟩)]
          clear h1 h2
          go_enter Try.func28, Try.ntmps28
          go_wp2_with (go_at_call 60; (first | (with_reducible refine (beyond_no lo _ H1.out).mono ?_) | (with_reducible refine (beyond_no hi _ H2.out).mono ?_)); rintro e w' ⟨rfl, rfl⟩)
          go_ret
          exact ⟨rfl, up1 _ _⟩
      · have H2 := Lib.hid h2
        rw [if_neg (by
          unfold MayS
          rintro ⟨_, ⟨h, _⟩ | ⟨_, h, _⟩⟩
          · cases h
          · exact h2 h)]
        clear h1 h2
        go_enter Try.func28, Try.ntmps28
        go_wp2_with (go_at_call 60; (first | (with_reducible refine (beyond_no lo _ H1.out).mono ?_) | (with_reducible refine (beyond_yes hi _ H2.out).mono ?_)); rintro e w' ⟨rfl, rfl⟩)
        go_ret
        exact ⟨rfl, up1 _ _⟩
  · have H1 := Lib.hid h1
    rw [if_neg (fun h => h1 h.1)]
    clear h1
    go_enter Try.func28, Try.ntmps28
    go_wp2_with (go_at_call 60; refine (beyond_yes _ _ H1.out).mono ?_; rintro e w' ⟨rfl, rfl⟩)
    go_ret
    exact ⟨rfl, up1 _ _⟩
end Go.Proofs.Ytallgbpijndmeaa.tight
