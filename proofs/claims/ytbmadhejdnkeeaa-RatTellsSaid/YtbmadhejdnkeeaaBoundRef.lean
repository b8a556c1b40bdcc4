/-
  What each call of the document's own answers for layer 2 (package rallentandoref02) gives, in the words of package bound's; the condition: a bound is from -2^63 to 2^63 - 1.
-/
import Derived.Test.YtbmadhejdnkeeaaBoundAny
namespace Go.Proofs.Ytbmadhejdnkeeaa.bound
open Go.ChangeShapes Go.WideShapes Go.ChangeAt Go.RowKit num
set_option linter.unusedVariables false

theorem tmod_even {b : Int} (h : b % 2 = 0) : b.tmod 2 = 0 := by
  have := Int.tmod_eq_emod (a := b) (b := 2)
  rw [this]
  simp only [Int.dvd_iff_emod_eq_zero, h]
  simp
theorem tdiv_even {b : Int} (h : b % 2 = 0) : b.tdiv 2 = b / 2 := by
  rw [Int.tdiv_eq_ediv]
  simp only [Int.dvd_iff_emod_eq_zero, h]
  simp
theorem tmod_odd {b : Int} (h : ¬ b % 2 = 0) : b.tmod 2 ≠ 0 := by
  intro k
  have := Int.mul_tdiv_add_tmod b 2
  rw [k] at this
  omega

theorem ret_int {k : IntKind} {a b : Int} (h : a = b) : Ending.returned (.int k a) = .returned (.int k b) := by rw [h]
theorem ret_bool {a b : Bool} (h : a = b) : Ending.returned (.bool a) = .returned (.bool b) := by rw [h]

theorem number_any (b : Int) (w : World) (h1 : -9223372036854775808 ≤ b) (h2 : b ≤ 9223372036854775807) :
    Calls Try.prog 60 #[.int .i64 b] w fun e w' => e = .returned (.int .i64 (b / 2)) ∧ w = w' := by
  by_cases h : b % 2 = 0
  · have t := tmod_even h
    have d := Lib.hid (tdiv_even h)
    clear h
    go_enter Try.func60, Try.ntmps60
    go_wp2
    go_ret
    exact ⟨ret_int d.out, rfl⟩
  · have t := tmod_odd h
    have h3 : -9223372036854775807 ≤ b := by omega
    have d : RowKit.Hid ((b - 1).tdiv 2 = b / 2) := Lib.hid (by rw [tdiv_even (b := b - 1) (by omega)]; omega)
    clear h
    go_enter Try.func60, Try.ntmps60
    go_wp2
    go_ret
    exact ⟨ret_int d.out, rfl⟩

theorem strict_any (b : Int) (w : World) :
    Calls Try.prog 61 #[.int .i64 b] w fun e w' => e = .returned (.bool (bS b)) ∧ w = w' := by
  unfold bS
  by_cases h : b % 2 = 0
  · rw [decide_eq_true h]
    have t := tmod_even h
    clear h
    go_enter Try.func61, Try.ntmps61
    go_wp2
    go_ret
    exact ⟨rfl, rfl⟩
  · rw [decide_eq_false h]
    have t : (b.tmod 2 == 0) = false := by simpa using tmod_odd h
    clear h
    go_enter Try.func61, Try.ntmps61
    go_wp2
    go_ret
    exact ⟨rfl, rfl⟩

theorem rmay2_none (w : World) :
    Calls Try.prog 45 #[.int .i64 9223372036854775807] w fun e w' => e = .returned (.bool true) ∧ w = w' := by
  go_enter Try.func45, Try.ntmps45
  go_wp2
  go_ret
  exact ⟨rfl, rfl⟩
theorem rmay2_ok (b : Int) (w : World) (h : May (b / 2)) :
    Calls Try.prog 45 #[.int .i64 b] w fun e w' => e = .returned (.bool true) ∧ w = w' := by
  have h0 : b < 9223372036854775807 := by unfold May at h; omega
  have h1 : -9223372036854775808 ≤ b := by unfold May at h; omega
  go_enter Try.func45, Try.ntmps45
  go_wp2_with (first | (go_at_call 60; refine (number_any _ _ (by omega) (by omega)).mono ?_; rintro e w' ⟨rfl, rfl⟩) | (go_at_call 59; refine (rmay_ok _ _ (by assumption)).mono ?_; rintro e w' ⟨rfl, rfl⟩))
  go_ret
  exact ⟨rfl, rfl⟩
theorem rmay2_no (b : Int) (w : World) (h0 : b < 9223372036854775807) (h1 : -9223372036854775808 ≤ b) (h : ¬ May (b / 2)) :
    Calls Try.prog 45 #[.int .i64 b] w fun e w' => e = .returned (.bool false) ∧ w = w' := by
  have H := Lib.hid h
  clear h
  have t : (b == 9223372036854775807) = false := by simp; omega
  go_enter Try.func45, Try.ntmps45
  go_wp2_with (first | (go_at_call 60; refine (number_any _ _ (by omega) (by omega)).mono ?_; rintro e w' ⟨rfl, rfl⟩) | (go_at_call 59; refine (rmay_no _ _ H.out).mono ?_; rintro e w' ⟨rfl, rfl⟩))
  go_ret
  exact ⟨rfl, rfl⟩

end Go.Proofs.Ytbmadhejdnkeeaa.bound
