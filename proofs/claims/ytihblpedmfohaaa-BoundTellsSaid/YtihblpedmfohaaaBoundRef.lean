/-
  What each call of the document's own answers for layer 2 (package rallentandoref02) gives, in the words of package bound's; the condition: a bound is from -2^63 to 2^63 - 1.
-/
import Derived.Test.YtihblpedmfohaaaBoundAny
namespace Go.Proofs.Ytihblpedmfohaaa.bound
open Go.ChangeShapes Go.WideShapes Go.ChangeAt Go.RowKit num
set_option linter.unusedVariables false

theorem tmod_even {b : Int} (h : b % 2 = 0) : b.tmod 2 = 0 := by
  have := Int.tmod_eq_emod (a := b) (b := 2)
  rw [this]
  simp only [Int.dvd_iff_emod_eq_zero, h]
  simp
theorem tdiv_even {b : Int} (h : b % 2 = 0) : b.tdiv 2 = b / 2 := by
  rw [Int.tdiv_eq_ediv]
  simp only [Int.dvd_iff_emod_eq_zero, h]
  simp
theorem tmod_odd {b : Int} (h : ¬ b % 2 = 0) : b.tmod 2 ≠ 0 := by
  intro k
  have := Int.mul_tdiv_add_tmod b 2
  rw [k] at this
  omega

theorem ret_int {k : IntKind} {a b : Int} (h : a = b) : Ending.returned (.int k a) = .returned (.int k b) := by rw [h]
theorem ret_bool {a b : Bool} (h : a = b) : Ending.returned (.bool a) = .returned (.bool b) := by rw [h]

theorem number_any (b : Int) (w : World) (h1 : -9223372036854775808 ≤ b) (h2 : b ≤ 9223372036854775807) :
    Calls Try.prog 33 #[.int .i64 b] w fun e w' => e = .returned (.int .i64 (b / 2)) ∧ w = w' := by
  by_cases h : b % 2 = 0
  · have t := tmod_even h
    have d := Lib.hid (tdiv_even h)
    clear h
    go_enter Try.func33, Try.ntmps33
    go_wp2
    go_ret
    exact ⟨ret_int d.out, rfl⟩
  · have t := tmod_odd h
    have h3 : -9223372036854775807 ≤ b := by omega
    have d : RowKit.Hid ((b - 1).tdiv 2 = b / 2) := Lib.hid (by rw [tdiv_even (b := b - 1) (by omega)]; omega)
    clear h
    go_enter Try.func33, Try.ntmps33
    go_wp2
    go_ret
    exact ⟨ret_int d.out, rfl⟩

theorem strict_any (b : Int) (w : World) :
    Calls Try.prog 34 #[.int .i64 b] w fun e w' => e = .returned (.bool (bS b)) ∧ w = w' := by
  unfold bS
  by_cases h : b % 2 = 0
  · rw [decide_eq_true h]
    have t := tmod_even h
    clear h
    go_enter Try.func34, Try.ntmps34
    go_wp2
    go_ret
    exact ⟨rfl, rfl⟩
  · rw [decide_eq_false h]
    have t : (b.tmod 2 == 0) = false := by simpa using tmod_odd h
    clear h
    go_enter Try.func34, Try.ntmps34
    go_wp2
    go_ret
    exact ⟨rfl, rfl⟩

theorem made_any (c : Int) (s : Bool) (w : World) (h : May c) :
    Calls Try.prog 31 #[.int .i64 c, .bool s] w fun e w' => e = .returned (.int .i64 (mk c s)) ∧ w = w' := by
  obtain ⟨h1, h2⟩ := h
  cases s
  · show Calls _ _ _ _ fun e w' => e = .returned (.int .i64 (2 * c + 1)) ∧ _
    go_enter Try.func31, Try.ntmps31
    go_wp2
    go_ret
    exact ⟨rfl, rfl⟩
  · show Calls _ _ _ _ fun e w' => e = .returned (.int .i64 (2 * c)) ∧ _
    go_enter Try.func31, Try.ntmps31
    go_wp2
    go_ret
    exact ⟨rfl, rfl⟩

theorem rmay2_none (w : World) :
    Calls Try.prog 32 #[.int .i64 9223372036854775807] w fun e w' => e = .returned (.bool true) ∧ w = w' := by
  go_enter Try.func32, Try.ntmps32
  go_wp2
  go_ret
  exact ⟨rfl, rfl⟩
theorem rmay2_ok (b : Int) (w : World) (h : May (b / 2)) :
    Calls Try.prog 32 #[.int .i64 b] w fun e w' => e = .returned (.bool true) ∧ w = w' := by
  have h0 : b < 9223372036854775807 := by unfold May at h; omega
  have h1 : -9223372036854775808 ≤ b := by unfold May at h; omega
  go_enter Try.func32, Try.ntmps32
  go_wp2_with (first | (go_at_call 33; refine (number_any _ _ (by omega) (by omega)).mono ?_; rintro e w' ⟨rfl, rfl⟩) | (go_at_call 30; refine (rmay_ok _ _ (by assumption)).mono ?_; rintro e w' ⟨rfl, rfl⟩))
  go_ret
  exact ⟨rfl, rfl⟩
theorem rmay2_no (b : Int) (w : World) (h0 : b < 9223372036854775807) (h1 : -9223372036854775808 ≤ b) (h : ¬ May (b / 2)) :
    Calls Try.prog 32 #[.int .i64 b] w fun e w' => e = .returned (.bool false) ∧ w = w' := by
  have H := Lib.hid h
  clear h
  have t : (b == 9223372036854775807) = false := by simp; omega
  go_enter Try.func32, Try.ntmps32
  go_wp2_with (first | (go_at_call 33; refine (number_any _ _ (by omega) (by omega)).mono ?_; rintro e w' ⟨rfl, rfl⟩) | (go_at_call 30; refine (rmay_no _ _ H.out).mono ?_; rintro e w' ⟨rfl, rfl⟩))
  go_ret
  exact ⟨rfl, rfl⟩

theorem rmost_any (c : Int) (w : World) :
    Calls Try.prog 14 #[.int .i64 c] w fun e w' => e = .returned (.tuple #[.int .i64 (mostV c), .int .i64 (chkE c)]) ∧ w = w' := by
  unfold mostV chkE
  by_cases h : May c
  · rw [if_pos h, if_pos h]
    go_enter Try.func14, Try.ntmps14
    go_wp2_with (first | (go_at_call 30; refine (rmay_ok _ _ (by assumption)).mono ?_; rintro e w' ⟨rfl, rfl⟩) | (go_at_call 31; refine (made_any _ _ _ (by assumption)).mono ?_; rintro e w' ⟨rfl, rfl⟩))
    go_ret2
    exact ⟨rfl, rfl⟩
  · rw [if_neg h, if_neg h]
    have H := Lib.hid h
    clear h
    go_enter Try.func14, Try.ntmps14
    go_wp2_with (go_at_call 30; refine (rmay_no _ _ H.out).mono ?_; rintro e w' ⟨rfl, rfl⟩)
    go_ret2
    exact ⟨rfl, rfl⟩
theorem rless_any (c : Int) (w : World) :
    Calls Try.prog 15 #[.int .i64 c] w fun e w' => e = .returned (.tuple #[.int .i64 (lessV c), .int .i64 (chkE c)]) ∧ w = w' := by
  unfold lessV chkE
  by_cases h : May c
  · rw [if_pos h, if_pos h]
    go_enter Try.func15, Try.ntmps15
    go_wp2_with (first | (go_at_call 30; refine (rmay_ok _ _ (by assumption)).mono ?_; rintro e w' ⟨rfl, rfl⟩) | (go_at_call 31; refine (made_any _ _ _ (by assumption)).mono ?_; rintro e w' ⟨rfl, rfl⟩))
    go_ret2
    exact ⟨rfl, rfl⟩
  · rw [if_neg h, if_neg h]
    have H := Lib.hid h
    clear h
    go_enter Try.func15, Try.ntmps15
    go_wp2_with (go_at_call 30; refine (rmay_no _ _ H.out).mono ?_; rintro e w' ⟨rfl, rfl⟩)
    go_ret2
    exact ⟨rfl, rfl⟩

theorem rcheck2_any (b : Int) (w : World) (hl : -9223372036854775808 ≤ b) (hw : b ≤ 9223372036854775807) :
    Calls Try.prog 22 #[.int .i64 b] w fun e w' => e = .returned (.int .i64 (chk2 b)) ∧ w = w' := by
  unfold chk2
  rcases three b hw with rfl | ⟨h0, h⟩ | ⟨h0, h⟩
  · rw [if_pos (.inl rfl)]
    go_enter Try.func22, Try.ntmps22
    go_wp2_with (go_at_call 32; refine (rmay2_none _).mono ?_; rintro e w' ⟨rfl, rfl⟩)
    go_ret
    exact ⟨rfl, rfl⟩
  · rw [if_pos (.inr h)]
    go_enter Try.func22, Try.ntmps22
    go_wp2_with (go_at_call 32; refine (rmay2_ok _ _ (by assumption)).mono ?_; rintro e w' ⟨rfl, rfl⟩)
    go_ret
    exact ⟨rfl, rfl⟩
  · rw [if_neg (fun k => k.elim (not_none_lt h0) h)]
    have H := Lib.hid h
    clear h
    go_enter Try.func22, Try.ntmps22
    go_wp2_with (go_at_call 32; refine (rmay2_no _ _ (by omega) (by omega) H.out).mono ?_; rintro e w' ⟨rfl, rfl⟩)
    go_ret
    exact ⟨rfl, rfl⟩

theorem rvalue_any (b : Int) (w : World) (hl : -9223372036854775808 ≤ b) (hw : b ≤ 9223372036854775807) :
    Calls Try.prog 17 #[.int .i64 b] w fun e w' => e = .returned (.tuple #[.int .i64 (valC b), .bool (valS b), .int .i64 (valE b)]) ∧ w = w' := by
  unfold valC valS valE
  rcases three b hw with rfl | ⟨h0, h⟩ | ⟨h0, h⟩
  · rw [if_neg none_not, if_neg none_not, if_pos rfl]
    go_enter Try.func17, Try.ntmps17
    go_wp2_with (go_at_call 32; refine (rmay2_none _).mono ?_; rintro e w' ⟨rfl, rfl⟩)
    exact bodyPost_ret (v := .tuple #[.int .i64 0, .bool false, .int .i64 6]) (by simp [results, Try.results17, go_sem]) rfl ⟨rfl, rfl⟩
  · rw [if_pos h, if_pos h, if_neg (not_none_lt h0), if_pos h]
    go_enter Try.func17, Try.ntmps17
    go_wp2_with (first | (go_at_call 32; refine (rmay2_ok _ _ (by assumption)).mono ?_; rintro e w' ⟨rfl, rfl⟩) | (go_at_call 33; refine (number_any _ _ (by omega) (by omega)).mono ?_; rintro e w' ⟨rfl, rfl⟩) | (go_at_call 34; refine (strict_any _ _).mono ?_; rintro e w' ⟨rfl, rfl⟩))
    exact bodyPost_ret (v := .tuple #[.int .i64 (b / 2), .bool (bS b), .int .i64 0]) (by simp [results, Try.results17, go_sem]) rfl ⟨rfl, rfl⟩
  · rw [if_neg h, if_neg h, if_neg (not_none_lt h0), if_neg h]
    have H := Lib.hid h
    clear h
    go_enter Try.func17, Try.ntmps17
    go_wp2_with (go_at_call 32; refine (rmay2_no _ _ (by omega) (by omega) H.out).mono ?_; rintro e w' ⟨rfl, rfl⟩)
    exact bodyPost_ret (v := .tuple #[.int .i64 0, .bool false, .int .i64 8]) (by simp [results, Try.results17, go_sem]) rfl ⟨rfl, rfl⟩

theorem other_ok (b : Int) (w : World) (h : May (b / 2)) :
    Calls Try.prog 36 #[.int .i64 b] w fun e w' => e = .returned (.int .i64 (mk (-(b / 2)) (!bS b))) ∧ w = w' := by
  have h0 : b < 9223372036854775807 := by unfold May at h; omega
  have h1 : -9223372036854775808 ≤ b := by unfold May at h; omega
  have h2 : May (-(b / 2)) := by unfold May at h ⊢; omega
  obtain ⟨h3, h4⟩ := id h
  have C : RowKit.Hid (∀ w, Calls Try.prog 31 #[.int .i64 (-(b / 2)), .bool (!bS b)] w fun e w' => e = .returned (.int .i64 (mk (-(b / 2)) (!bS b))) ∧ w = w') := Lib.hid (fun w => made_any _ _ w h2)
  go_enter Try.func36, Try.ntmps36
  go_wp2_with (first | (go_at_call 33; refine (number_any _ _ (by omega) (by omega)).mono ?_; rintro e w' ⟨rfl, rfl⟩) | (go_at_call 34; refine (strict_any _ _).mono ?_; rintro e w' ⟨rfl, rfl⟩) | (go_at_call 31; refine (C.out _).mono ?_; rintro e w' ⟨rfl, rfl⟩))
  go_ret
  exact ⟨rfl, rfl⟩
end Go.Proofs.Ytihblpedmfohaaa.bound
