/-
  What each call of package num answers, for every int: Check, Neg, Add, Sub, Clamp and the law's own examples (alive); no conditions beside the case that each theorem names.
-/
import Derived.Test.YtcnfdffdnenmdaaRows
import Derived.WalkKit
import Derived.ProofKit
import Derived.OpenShut
import Derived.Lib.Hide
namespace Go.Proofs.Ytcnfdffdnenmdaa.num
open Go.ChangeShapes Go.WideShapes Go.ChangeAt Go.RowKit
set_option linter.unusedVariables false

/-- a number may be. -/
def May (a : Int) : Prop := -2305843009213693952 ≤ a ∧ a ≤ 2305843009213693952

theorem check_ok (a : Int) (w : World) (h : May a) :
    Calls Try.prog 18 #[.int .i64 a] w fun e w' => e = .returned (.int .i64 0) ∧ w = w' := by
  obtain ⟨h1, h2⟩ := h
  have t1 : ¬ a < -2305843009213693952 := by omega
  have t2 : ¬ 2305843009213693952 < a := by omega
  go_enter Try.func18, Try.ntmps18
  go_wp2
  go_ret
  exact ⟨rfl, rfl⟩

theorem check_no (a : Int) (w : World) (h : ¬ May a) :
    Calls Try.prog 18 #[.int .i64 a] w fun e w' => e = .returned (.int .i64 10) ∧ w = w' := by
  unfold May at h
  by_cases t1 : a < -2305843009213693952
  · clear h
    go_enter Try.func18, Try.ntmps18
    go_wp2
    go_ret
    exact ⟨rfl, rfl⟩
  · have t2 : 2305843009213693952 < a := by omega
    clear h
    go_enter Try.func18, Try.ntmps18
    go_wp2
    go_ret
    exact ⟨rfl, rfl⟩

theorem neg_ok (a : Int) (w : World) (h : May a) :
    Calls Try.prog 10 #[.int .i64 a] w fun e w' => e = .returned (.tuple #[.int .i64 (-a), .int .i64 0]) ∧ w = w' := by
  have h' := h
  obtain ⟨h1, h2⟩ := h
  go_enter Try.func10, Try.ntmps10
  go_wp2_with (go_at_call 18; refine (check_ok _ _ h').mono ?_; rintro e w' ⟨rfl, rfl⟩)
  go_ret2
  exact ⟨rfl, rfl⟩

theorem neg_no (a : Int) (w : World) (h : ¬ May a) :
    Calls Try.prog 10 #[.int .i64 a] w fun e w' => e = .returned (.tuple #[.int .i64 0, .int .i64 10]) ∧ w = w' := by
  have H : RowKit.Hid (¬ May a) := Lib.hid h
  clear h
  go_enter Try.func10, Try.ntmps10
  go_wp2_with (go_at_call 18; refine (check_no _ _ H.out).mono ?_; rintro e w' ⟨rfl, rfl⟩)
  go_ret2
  exact ⟨rfl, rfl⟩

theorem add_ok (a b : Int) (w : World) (ha : May a) (hb : May b) (hs : May (a + b)) :
    Calls Try.prog 13 #[.int .i64 a, .int .i64 b] w fun e w' => e = .returned (.tuple #[.int .i64 (a + b), .int .i64 0]) ∧ w = w' := by
  obtain ⟨a1, a2⟩ := id ha
  obtain ⟨b1, b2⟩ := id hb
  go_enter Try.func13, Try.ntmps13
  go_wp2_with (go_at_call 18; refine (check_ok _ _ (by assumption)).mono ?_; rintro e w' ⟨rfl, rfl⟩)
  go_ret2
  exact ⟨rfl, rfl⟩

theorem add_no (a b : Int) (w : World) (h : ¬ (May a ∧ May b ∧ May (a + b))) :
    Calls Try.prog 13 #[.int .i64 a, .int .i64 b] w fun e w' => e = .returned (.tuple #[.int .i64 0, .int .i64 10]) ∧ w = w' := by
  by_cases ha : May a
  · by_cases hb : May b
    · have H : RowKit.Hid (¬ May (a + b)) := Lib.hid (fun hs => h ⟨ha, hb, hs⟩)
      clear h
      obtain ⟨a1, a2⟩ := id ha
      obtain ⟨b1, b2⟩ := id hb
      go_enter Try.func13, Try.ntmps13
      go_wp2_with (go_at_call 18; first | (refine (check_ok _ _ (by assumption)).mono ?_; rintro e w' ⟨rfl, rfl⟩) | (refine (check_no _ _ H.out).mono ?_; rintro e w' ⟨rfl, rfl⟩))
      go_ret2
      exact ⟨rfl, rfl⟩
    · have H : RowKit.Hid (¬ May b) := Lib.hid hb
      clear h hb
      go_enter Try.func13, Try.ntmps13
      go_wp2_with (go_at_call 18; first | (refine (check_ok _ _ (by assumption)).mono ?_; rintro e w' ⟨rfl, rfl⟩) | (refine (check_no _ _ H.out).mono ?_; rintro e w' ⟨rfl, rfl⟩))
      go_ret2
      exact ⟨rfl, rfl⟩
  · have H : RowKit.Hid (¬ May a) := Lib.hid ha
    clear h ha
    go_enter Try.func13, Try.ntmps13
    go_wp2_with (go_at_call 18; refine (check_no _ _ H.out).mono ?_; rintro e w' ⟨rfl, rfl⟩)
    go_ret2
    exact ⟨rfl, rfl⟩

theorem sub_ok (a b : Int) (w : World) (ha : May a) (hb : May b) (hs : May (a - b)) :
    Calls Try.prog 15 #[.int .i64 a, .int .i64 b] w fun e w' => e = .returned (.tuple #[.int .i64 (a - b), .int .i64 0]) ∧ w = w' := by
  have hn : May (-b) := by unfold May at hb ⊢; omega
  have hs' : May (a + -b) := by unfold May at hs ⊢; omega
  have he : a - b = a + -b := Int.sub_eq_add_neg
  have HE := Lib.hid he
  clear he
  go_enter Try.func15, Try.ntmps15
  go_wp2_with (first | (go_at_call 10; refine (neg_ok _ _ (by assumption)).mono ?_; rintro e w' ⟨rfl, rfl⟩) | (go_at_call 13; refine (add_ok _ _ _ (by assumption) (by assumption) (by assumption)).mono ?_; rintro e w' ⟨rfl, rfl⟩))
  go_ret2
  exact ⟨by rw [HE.out]; rfl, rfl⟩

theorem sub_no (a b : Int) (w : World) (h : ¬ (May a ∧ May b ∧ May (a - b))) :
    Calls Try.prog 15 #[.int .i64 a, .int .i64 b] w fun e w' => e = .returned (.tuple #[.int .i64 0, .int .i64 10]) ∧ w = w' := by
  by_cases hb : May b
  · have H : RowKit.Hid (¬ (May a ∧ May (-b) ∧ May (a + -b))) := Lib.hid (fun hs => h ⟨hs.1, hb, by rw [Int.sub_eq_add_neg]; exact hs.2.2⟩)
    clear h
    go_enter Try.func15, Try.ntmps15
    go_wp2_with (first | (go_at_call 10; refine (neg_ok _ _ (by assumption)).mono ?_; rintro e w' ⟨rfl, rfl⟩) | (go_at_call 13; refine (add_no _ _ _ H.out).mono ?_; rintro e w' ⟨rfl, rfl⟩))
    go_ret2
    exact ⟨rfl, rfl⟩
  · have H : RowKit.Hid (¬ May b) := Lib.hid hb
    clear h hb
    go_enter Try.func15, Try.ntmps15
    go_wp2_with (go_at_call 10; refine (neg_no _ _ H.out).mono ?_; rintro e w' ⟨rfl, rfl⟩)
    go_ret2
    exact ⟨rfl, rfl⟩

/-- the nearest number that may be. -/
def near (a : Int) : Int := if a < -2305843009213693952 then -2305843009213693952 else if 2305843009213693952 < a then 2305843009213693952 else a

theorem near_may (a : Int) : May (near a) := by
  unfold May near
  split
  · omega
  · split <;> omega
theorem near_le (a b : Int) (h : ¬ b < a) : near a ≤ near b := by
  unfold near
  repeat' split
  all_goals omega
theorem near_id (a : Int) (h : May a) : near a = a := by
  unfold May at h
  unfold near
  rw [if_neg (by omega), if_neg (by omega)]
theorem near_ne (a : Int) (h : ¬ May a) : near a ≠ a := by
  unfold May at h
  unfold near
  split
  · omega
  · split <;> omega

theorem clamp_any (a : Int) (w : World) :
    Calls Try.prog 12 #[.int .i64 a] w fun e w' => e = .returned (.int .i64 (near a)) ∧ w = w' := by
  unfold near
  by_cases t1 : a < -2305843009213693952
  · have t2 : a < 2305843009213693952 := by omega
    rw [if_pos t1]
    go_enter Try.func12, Try.ntmps12
    go_wp2
    go_ret
    exact ⟨rfl, rfl⟩
  · rw [if_neg t1]
    by_cases t2 : 2305843009213693952 < a
    · rw [if_pos t2]
      go_enter Try.func12, Try.ntmps12
      go_wp2
      go_ret
      exact ⟨rfl, rfl⟩
    · rw [if_neg t2]
      by_cases t3 : a = -2305843009213693952
      · subst t3
        clear t1 t2
        go_enter Try.func12, Try.ntmps12
        go_wp2
        go_ret
        exact ⟨rfl, rfl⟩
      · have t4 : -2305843009213693952 < a := by omega
        clear t1 t3
        go_enter Try.func12, Try.ntmps12
        go_wp2
        go_ret
        exact ⟨rfl, rfl⟩

theorem alive1 (w : World) : Calls Try.prog 13 #[.int .i64 2, .int .i64 (-5)] w fun e w' => e = .returned (.tuple #[.int .i64 (-3), .int .i64 0]) ∧ w = w' :=
  add_ok 2 (-5) w (by unfold May; omega) (by unfold May; omega) (by unfold May; omega)
theorem alive2 (w : World) : Calls Try.prog 13 #[.int .i64 2305843009213693952, .int .i64 1] w fun e w' => e = .returned (.tuple #[.int .i64 0, .int .i64 10]) ∧ w = w' :=
  add_no 2305843009213693952 1 w (by unfold May; omega)
theorem alive3 (w : World) : Calls Try.prog 15 #[.int .i64 (-2305843009213693952), .int .i64 1] w fun e w' => e = .returned (.tuple #[.int .i64 0, .int .i64 10]) ∧ w = w' :=
  sub_no (-2305843009213693952) 1 w (by unfold May; omega)

theorem alive_yes (w : World) :
    Calls Try.prog 11 #[] w fun e w' => e = .returned (.bool true) ∧ w = w' := by
  go_enter Try.func11, Try.ntmps11
  go_wp2_with (first | ((with_reducible refine (alive1 _).mono ?_); rintro e w' ⟨rfl, rfl⟩) | ((with_reducible refine (alive2 _).mono ?_); rintro e w' ⟨rfl, rfl⟩) | ((with_reducible refine (alive3 _).mono ?_); rintro e w' ⟨rfl, rfl⟩))
  go_ret
  exact ⟨rfl, rfl⟩
end Go.Proofs.Ytcnfdffdnenmdaa.num
