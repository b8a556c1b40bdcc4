/-
  What each call of the document's own answers for layer 1 (package rallentandoref01) gives, for every int, and the same of package num in the same words; no conditions.
-/
import Derived.Test.YtcnfdffdnenmdaaNum
namespace Go.Proofs.Ytcnfdffdnenmdaa.num
open Go.ChangeShapes Go.WideShapes Go.ChangeAt Go.RowKit
set_option linter.unusedVariables false

instance decMay (a : Int) : Decidable (May a) := by unfold May; exact inferInstance
def mayB (a : Int) : Bool := decide (May a)
def chkE (a : Int) : Int := if May a then 0 else 10
def negV (a : Int) : Int := if May a then -a else 0
def addV (a b : Int) : Int := if May a ∧ May b ∧ May (a + b) then a + b else 0
def addE (a b : Int) : Int := if May a ∧ May b ∧ May (a + b) then 0 else 10
def subV (a b : Int) : Int := if May a ∧ May b ∧ May (a - b) then a - b else 0
def subE (a b : Int) : Int := if May a ∧ May b ∧ May (a - b) then 0 else 10

theorem check_any (a : Int) (w : World) :
    Calls Try.prog 18 #[.int .i64 a] w fun e w' => e = .returned (.int .i64 (chkE a)) ∧ w = w' := by
  unfold chkE
  by_cases h : May a
  · rw [if_pos h]; exact check_ok a w h
  · rw [if_neg h]; exact check_no a w h
theorem neg_any (a : Int) (w : World) :
    Calls Try.prog 10 #[.int .i64 a] w fun e w' => e = .returned (.tuple #[.int .i64 (negV a), .int .i64 (chkE a)]) ∧ w = w' := by
  unfold negV chkE
  by_cases h : May a
  · rw [if_pos h, if_pos h]; exact neg_ok a w h
  · rw [if_neg h, if_neg h]; exact neg_no a w h
theorem add_any (a b : Int) (w : World) :
    Calls Try.prog 13 #[.int .i64 a, .int .i64 b] w fun e w' => e = .returned (.tuple #[.int .i64 (addV a b), .int .i64 (addE a b)]) ∧ w = w' := by
  unfold addV addE
  by_cases h : May a ∧ May b ∧ May (a + b)
  · rw [if_pos h, if_pos h]; exact add_ok a b w h.1 h.2.1 h.2.2
  · rw [if_neg h, if_neg h]; exact add_no a b w h
theorem sub_any (a b : Int) (w : World) :
    Calls Try.prog 15 #[.int .i64 a, .int .i64 b] w fun e w' => e = .returned (.tuple #[.int .i64 (subV a b), .int .i64 (subE a b)]) ∧ w = w' := by
  unfold subV subE
  by_cases h : May a ∧ May b ∧ May (a - b)
  · rw [if_pos h, if_pos h]; exact sub_ok a b w h.1 h.2.1 h.2.2
  · rw [if_neg h, if_neg h]; exact sub_no a b w h

theorem rmay_ok (a : Int) (w : World) (h : May a) :
    Calls Try.prog 23 #[.int .i64 a] w fun e w' => e = .returned (.bool true) ∧ w = w' := by
  obtain ⟨h1, h2⟩ := h
  go_enter Try.func23, Try.ntmps23
  go_wp2
  go_ret
  exact ⟨rfl, rfl⟩
theorem rmay_no (a : Int) (w : World) (h : ¬ May a) :
    Calls Try.prog 23 #[.int .i64 a] w fun e w' => e = .returned (.bool false) ∧ w = w' := by
  unfold May at h
  by_cases t1 : -2305843009213693952 ≤ a
  · have t2 : ¬ a ≤ 2305843009213693952 := by omega
    have t3 : decide (a ≤ 2305843009213693952) = false := by simpa using t2
    clear h t2
    go_enter Try.func23, Try.ntmps23
    go_wp2
    go_ret
    exact ⟨rfl, rfl⟩
  · have t3 : decide (-2305843009213693952 ≤ a) = false := by simpa using t1
    clear h t1
    go_enter Try.func23, Try.ntmps23
    go_wp2
    go_ret
    exact ⟨rfl, rfl⟩

theorem rcheck_any (a : Int) (w : World) :
    Calls Try.prog 19 #[.int .i64 a] w fun e w' => e = .returned (.int .i64 (chkE a)) ∧ w = w' := by
  unfold chkE
  by_cases h : May a
  · rw [if_pos h]
    go_enter Try.func19, Try.ntmps19
    go_wp2_with (go_at_call 23; refine (rmay_ok _ _ (by assumption)).mono ?_; rintro e w' ⟨rfl, rfl⟩)
    go_ret
    exact ⟨rfl, rfl⟩
  · rw [if_neg h]
    have H := Lib.hid h
    clear h
    go_enter Try.func19, Try.ntmps19
    go_wp2_with (go_at_call 23; refine (rmay_no _ _ H.out).mono ?_; rintro e w' ⟨rfl, rfl⟩)
    go_ret
    exact ⟨rfl, rfl⟩

theorem rneg_any (a : Int) (w : World) :
    Calls Try.prog 17 #[.int .i64 a] w fun e w' => e = .returned (.tuple #[.int .i64 (negV a), .int .i64 (chkE a)]) ∧ w = w' := by
  unfold chkE negV
  by_cases h : May a
  · rw [if_pos h, if_pos h]
    obtain ⟨h1, h2⟩ := id h
    go_enter Try.func17, Try.ntmps17
    go_wp2_with (go_at_call 23; refine (rmay_ok _ _ (by assumption)).mono ?_; rintro e w' ⟨rfl, rfl⟩)
    go_ret2
    exact ⟨rfl, rfl⟩
  · rw [if_neg h, if_neg h]
    have H := Lib.hid h
    clear h
    go_enter Try.func17, Try.ntmps17
    go_wp2_with (go_at_call 23; refine (rmay_no _ _ H.out).mono ?_; rintro e w' ⟨rfl, rfl⟩)
    go_ret2
    exact ⟨rfl, rfl⟩

theorem rclamp_any (a : Int) (w : World) :
    Calls Try.prog 20 #[.int .i64 a] w fun e w' => e = .returned (.int .i64 (near a)) ∧ w = w' := by
  unfold near
  by_cases t1 : a < -2305843009213693952
  · have t2 : ¬ 2305843009213693952 < a := by omega
    rw [if_pos t1]
    go_enter Try.func20, Try.ntmps20
    go_wp2
    go_ret
    exact ⟨rfl, rfl⟩
  · rw [if_neg t1]
    by_cases t2 : 2305843009213693952 < a
    · rw [if_pos t2]
      go_enter Try.func20, Try.ntmps20
      go_wp2
      go_ret
      exact ⟨rfl, rfl⟩
    · rw [if_neg t2]
      go_enter Try.func20, Try.ntmps20
      go_wp2
      go_ret
      exact ⟨rfl, rfl⟩

theorem radd_any (a b : Int) (w : World) :
    Calls Try.prog 14 #[.int .i64 a, .int .i64 b] w fun e w' => e = .returned (.tuple #[.int .i64 (addV a b), .int .i64 (addE a b)]) ∧ w = w' := by
  unfold addV addE
  by_cases h : May a ∧ May b ∧ May (a + b)
  · rw [if_pos h, if_pos h]
    obtain ⟨ha, hb, hs⟩ := h
    obtain ⟨a1, a2⟩ := id ha
    obtain ⟨b1, b2⟩ := id hb
    go_enter Try.func14, Try.ntmps14
    go_wp2_with (go_at_call 23; refine (rmay_ok _ _ (by assumption)).mono ?_; rintro e w' ⟨rfl, rfl⟩)
    go_ret2
    exact ⟨rfl, rfl⟩
  · rw [if_neg h, if_neg h]
    by_cases ha : May a
    · by_cases hb : May b
      · have H : RowKit.Hid (¬ May (a + b)) := Lib.hid (fun hs => h ⟨ha, hb, hs⟩)
        clear h
        obtain ⟨a1, a2⟩ := id ha
        obtain ⟨b1, b2⟩ := id hb
        go_enter Try.func14, Try.ntmps14
        go_wp2_with (go_at_call 23; first | (refine (rmay_ok _ _ (by assumption)).mono ?_; rintro e w' ⟨rfl, rfl⟩) | (refine (rmay_no _ _ H.out).mono ?_; rintro e w' ⟨rfl, rfl⟩))
        go_ret2
        exact ⟨rfl, rfl⟩
      · have H := Lib.hid hb
        clear h hb
        go_enter Try.func14, Try.ntmps14
        go_wp2_with (go_at_call 23; first | (refine (rmay_ok _ _ (by assumption)).mono ?_; rintro e w' ⟨rfl, rfl⟩) | (refine (rmay_no _ _ H.out).mono ?_; rintro e w' ⟨rfl, rfl⟩))
        go_ret2
        exact ⟨rfl, rfl⟩
    · have H := Lib.hid ha
      clear h ha
      go_enter Try.func14, Try.ntmps14
      go_wp2_with (go_at_call 23; refine (rmay_no _ _ H.out).mono ?_; rintro e w' ⟨rfl, rfl⟩)
      go_ret2
      exact ⟨rfl, rfl⟩
theorem rsub_any (a b : Int) (w : World) :
    Calls Try.prog 16 #[.int .i64 a, .int .i64 b] w fun e w' => e = .returned (.tuple #[.int .i64 (subV a b), .int .i64 (subE a b)]) ∧ w = w' := by
  unfold subV subE
  by_cases h : May a ∧ May b ∧ May (a - b)
  · rw [if_pos h, if_pos h]
    obtain ⟨ha, hb, hs⟩ := h
    obtain ⟨a1, a2⟩ := id ha
    obtain ⟨b1, b2⟩ := id hb
    go_enter Try.func16, Try.ntmps16
    go_wp2_with (go_at_call 23; refine (rmay_ok _ _ (by assumption)).mono ?_; rintro e w' ⟨rfl, rfl⟩)
    go_ret2
    exact ⟨rfl, rfl⟩
  · rw [if_neg h, if_neg h]
    by_cases ha : May a
    · by_cases hb : May b
      · have H : RowKit.Hid (¬ May (a - b)) := Lib.hid (fun hs => h ⟨ha, hb, hs⟩)
        clear h
        obtain ⟨a1, a2⟩ := id ha
        obtain ⟨b1, b2⟩ := id hb
        go_enter Try.func16, Try.ntmps16
        go_wp2_with (go_at_call 23; first | (refine (rmay_ok _ _ (by assumption)).mono ?_; rintro e w' ⟨rfl, rfl⟩) | (refine (rmay_no _ _ H.out).mono ?_; rintro e w' ⟨rfl, rfl⟩))
        go_ret2
        exact ⟨rfl, rfl⟩
      · have H := Lib.hid hb
        clear h hb
        go_enter Try.func16, Try.ntmps16
        go_wp2_with (go_at_call 23; first | (refine (rmay_ok _ _ (by assumption)).mono ?_; rintro e w' ⟨rfl, rfl⟩) | (refine (rmay_no _ _ H.out).mono ?_; rintro e w' ⟨rfl, rfl⟩))
        go_ret2
        exact ⟨rfl, rfl⟩
    · have H := Lib.hid ha
      clear h ha
      go_enter Try.func16, Try.ntmps16
      go_wp2_with (go_at_call 23; refine (rmay_no _ _ H.out).mono ?_; rintro e w' ⟨rfl, rfl⟩)
      go_ret2
      exact ⟨rfl, rfl⟩
end Go.Proofs.Ytcnfdffdnenmdaa.num
