/-
  What each call of package num answers, for every int: Check, Neg, Add, Sub, Clamp and the law's own examples (alive); no conditions beside the case that each theorem names.
-/
import Derived.Test.YtlagnbbbokgdfaaRows
import Derived.WalkKit
import Derived.ProofKit
import Derived.OpenShut
import Derived.Lib.Hide
namespace Go.Proofs.Ytlagnbbbokgdfaa.num
open Go.ChangeShapes Go.WideShapes Go.ChangeAt Go.RowKit
set_option linter.unusedVariables false

/-- a number may be. -/
def May (a : Int) : Prop := -2305843009213693952 ≤ a ∧ a ≤ 2305843009213693952

theorem check_ok (a : Int) (w : World) (h : May a) :
    Calls Try.prog 43 #[.int .i64 a] w fun e w' => e = .returned (.int .i64 0) ∧ w = w' := by
  obtain ⟨h1, h2⟩ := h
  have t1 : ¬ a < -2305843009213693952 := by omega
  have t2 : ¬ 2305843009213693952 < a := by omega
  go_enter Try.func43, Try.ntmps43
  go_wp2
  go_ret
  exact ⟨rfl, rfl⟩

theorem check_no (a : Int) (w : World) (h : ¬ May a) :
    Calls Try.prog 43 #[.int .i64 a] w fun e w' => e = .returned (.int .i64 10) ∧ w = w' := by
  unfold May at h
  by_cases t1 : a < -2305843009213693952
  · clear h
    go_enter Try.func43, Try.ntmps43
    go_wp2
    go_ret
    exact ⟨rfl, rfl⟩
  · have t2 : 2305843009213693952 < a := by omega
    clear h
    go_enter Try.func43, Try.ntmps43
    go_wp2
    go_ret
    exact ⟨rfl, rfl⟩

theorem add_ok (a b : Int) (w : World) (ha : May a) (hb : May b) (hs : May (a + b)) :
    Calls Try.prog 60 #[.int .i64 a, .int .i64 b] w fun e w' => e = .returned (.tuple #[.int .i64 (a + b), .int .i64 0]) ∧ w = w' := by
  obtain ⟨a1, a2⟩ := id ha
  obtain ⟨b1, b2⟩ := id hb
  go_enter Try.func60, Try.ntmps60
  go_wp2_with (go_at_call 43; refine (check_ok _ _ (by assumption)).mono ?_; rintro e w' ⟨rfl, rfl⟩)
  go_ret2
  exact ⟨rfl, rfl⟩

theorem add_no (a b : Int) (w : World) (h : ¬ (May a ∧ May b ∧ May (a + b))) :
    Calls Try.prog 60 #[.int .i64 a, .int .i64 b] w fun e w' => e = .returned (.tuple #[.int .i64 0, .int .i64 10]) ∧ w = w' := by
  by_cases ha : May a
  · by_cases hb : May b
    · have H : RowKit.Hid (¬ May (a + b)) := Lib.hid (fun hs => h ⟨ha, hb, hs⟩)
      clear h
      obtain ⟨a1, a2⟩ := id ha
      obtain ⟨b1, b2⟩ := id hb
      go_enter Try.func60, Try.ntmps60
      go_wp2_with (go_at_call 43; first | (refine (check_ok _ _ (by assumption)).mono ?_; rintro e w' ⟨rfl, rfl⟩) | (refine (check_no _ _ H.out).mono ?_; rintro e w' ⟨rfl, rfl⟩))
      go_ret2
      exact ⟨rfl, rfl⟩
    · have H : RowKit.Hid (¬ May b) := Lib.hid hb
      clear h hb
      go_enter Try.func60, Try.ntmps60
      go_wp2_with (go_at_call 43; first | (refine (check_ok _ _ (by assumption)).mono ?_; rintro e w' ⟨rfl, rfl⟩) | (refine (check_no _ _ H.out).mono ?_; rintro e w' ⟨rfl, rfl⟩))
      go_ret2
      exact ⟨rfl, rfl⟩
  · have H : RowKit.Hid (¬ May a) := Lib.hid ha
    clear h ha
    go_enter Try.func60, Try.ntmps60
    go_wp2_with (go_at_call 43; refine (check_no _ _ H.out).mono ?_; rintro e w' ⟨rfl, rfl⟩)
    go_ret2
    exact ⟨rfl, rfl⟩

/-- the nearest number that may be. -/
def near (a : Int) : Int := if a < -2305843009213693952 then -2305843009213693952 else if 2305843009213693952 < a then 2305843009213693952 else a

theorem near_may (a : Int) : May (near a) := by
  unfold May near
  split
  · omega
  · split <;> omega
theorem near_le (a b : Int) (h : ¬ b < a) : near a ≤ near b := by
  unfold near
  repeat' split
  all_goals omega
theorem near_id (a : Int) (h : May a) : near a = a := by
  unfold May at h
  unfold near
  rw [if_neg (by omega), if_neg (by omega)]
theorem near_ne (a : Int) (h : ¬ May a) : near a ≠ a := by
  unfold May at h
  unfold near
  split
  · omega
  · split <;> omega

theorem alive1 (w : World) : Calls Try.prog 60 #[.int .i64 2, .int .i64 (-5)] w fun e w' => e = .returned (.tuple #[.int .i64 (-3), .int .i64 0]) ∧ w = w' :=
  add_ok 2 (-5) w (by unfold May; omega) (by unfold May; omega) (by unfold May; omega)
theorem alive2 (w : World) : Calls Try.prog 60 #[.int .i64 2305843009213693952, .int .i64 1] w fun e w' => e = .returned (.tuple #[.int .i64 0, .int .i64 10]) ∧ w = w' :=
  add_no 2305843009213693952 1 w (by unfold May; omega)
end Go.Proofs.Ytlagnbbbokgdfaa.num
