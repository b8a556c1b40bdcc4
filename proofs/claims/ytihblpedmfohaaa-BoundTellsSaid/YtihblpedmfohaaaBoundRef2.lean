/-
  What Sum, Add, Not, Kept and Keeps of the document's own answers for layer 2 (package rallentandoref02) give, in the words of package bound's; the condition: a bound is from -2^63 to 2^63 - 1.
-/
import Derived.Test.YtihblpedmfohaaaBoundRef
import Derived.Test.YtihblpedmfohaaaBoundMath
namespace Go.Proofs.Ytihblpedmfohaaa.bound
open Go.ChangeShapes Go.WideShapes Go.ChangeAt Go.RowKit num
set_option linter.unusedVariables false


theorem rsum_none1 (b : Int) (w : World) :
    Calls Try.prog 35 #[.int .i64 9223372036854775807, .int .i64 b] w fun e w' => e = .returned (.tuple #[.int .i64 9223372036854775807, .bool true]) ∧ w = w' := by
  go_enter Try.func35, Try.ntmps35
  go_wp2
  go_ret2
  exact ⟨rfl, rfl⟩
theorem rsum_none2 (a : Int) (w : World) (h : a < 9223372036854775807) :
    Calls Try.prog 35 #[.int .i64 a, .int .i64 9223372036854775807] w fun e w' => e = .returned (.tuple #[.int .i64 9223372036854775807, .bool true]) ∧ w = w' := by
  have t : (a == 9223372036854775807) = false := by simp; omega
  go_enter Try.func35, Try.ntmps35
  go_wp2
  go_ret2
  exact ⟨rfl, rfl⟩
theorem rsum_over (a b : Int) (w : World) (ha : May (a / 2)) (hb : May (b / 2)) (hs : ¬ May (a / 2 + b / 2)) :
    Calls Try.prog 35 #[.int .i64 a, .int .i64 b] w fun e w' => e = .returned (.tuple #[.int .i64 0, .bool false]) ∧ w = w' := by
  have a0 := may_lo ha
  have a1 := may_hi ha
  have b0 := may_lo hb
  have b1 := may_hi hb
  obtain ⟨a2, a3⟩ := id ha
  obtain ⟨b2, b3⟩ := id hb
  have t1 : (a == 9223372036854775807) = false := by simp; omega
  have t2 : (b == 9223372036854775807) = false := by simp; omega
  have H := Lib.hid hs
  clear hs
  go_enter Try.func35, Try.ntmps35
  go_wp2_with (first | (go_at_call 33; refine (number_any _ _ (by omega) (by omega)).mono ?_; rintro e w' ⟨rfl, rfl⟩) | (go_at_call 30; refine (rmay_no _ _ H.out).mono ?_; rintro e w' ⟨rfl, rfl⟩))
  go_ret2
  exact ⟨rfl, rfl⟩
theorem rsum_ok (a b : Int) (w : World) (ha : May (a / 2)) (hb : May (b / 2)) (hs : May (a / 2 + b / 2)) :
    Calls Try.prog 35 #[.int .i64 a, .int .i64 b] w fun e w' => e = .returned (.tuple #[.int .i64 (mk (a / 2 + b / 2) (bS a || bS b)), .bool true]) ∧ w = w' := by
  have a0 := may_lo ha
  have a1 := may_hi ha
  have b0 := may_lo hb
  have b1 := may_hi hb
  obtain ⟨a2, a3⟩ := id ha
  obtain ⟨b2, b3⟩ := id hb
  have t1 : (a == 9223372036854775807) = false := by simp; omega
  have t2 : (b == 9223372036854775807) = false := by simp; omega
  cases hS : bS a
  · have C : RowKit.Hid (∀ w, Calls Try.prog 34 #[.int .i64 a] w fun e w' => e = .returned (.bool false) ∧ w = w') := Lib.hid (fun w => hS ▸ strict_any a w)
    clear hS
    rw [Bool.false_or]
    go_enter Try.func35, Try.ntmps35
    go_wp2_with (first | (go_at_call 33; refine (number_any _ _ (by omega) (by omega)).mono ?_; rintro e w' ⟨rfl, rfl⟩) | (go_at_call 30; refine (rmay_ok _ _ (by assumption)).mono ?_; rintro e w' ⟨rfl, rfl⟩) | ((with_reducible refine (C.out _).mono ?_); rintro e w' ⟨rfl, rfl⟩; clear C) | (go_at_call 34; refine (strict_any _ _).mono ?_; rintro e w' ⟨rfl, rfl⟩) | (go_at_call 31; refine (made_any _ _ _ (by assumption)).mono ?_; rintro e w' ⟨rfl, rfl⟩))
    go_ret2
    exact ⟨rfl, rfl⟩
  · have C : RowKit.Hid (∀ w, Calls Try.prog 34 #[.int .i64 a] w fun e w' => e = .returned (.bool true) ∧ w = w') := Lib.hid (fun w => hS ▸ strict_any a w)
    clear hS
    rw [Bool.true_or]
    go_enter Try.func35, Try.ntmps35
    go_wp2_with (first | (go_at_call 33; refine (number_any _ _ (by omega) (by omega)).mono ?_; rintro e w' ⟨rfl, rfl⟩) | (go_at_call 30; refine (rmay_ok _ _ (by assumption)).mono ?_; rintro e w' ⟨rfl, rfl⟩) | ((with_reducible refine (C.out _).mono ?_); rintro e w' ⟨rfl, rfl⟩) | (go_at_call 31; refine (made_any _ _ _ (by assumption)).mono ?_; rintro e w' ⟨rfl, rfl⟩))
    go_ret2
    exact ⟨rfl, rfl⟩

theorem rmay2_yes (b : Int) (w : World) (h : ¬ badB b) :
    Calls Try.prog 32 #[.int .i64 b] w fun e w' => e = .returned (.bool true) ∧ w = w' := by
  by_cases e : b = 9223372036854775807
  · subst e; exact rmay2_none w
  · by_cases k : May (b / 2)
    · exact rmay2_ok b w k
    · exact (h ⟨e, k⟩).elim

theorem radd2_bad1 (a b : Int) (w : World) (hl : -9223372036854775808 ≤ a) (h0 : a < 9223372036854775807) (h : ¬ May (a / 2)) :
    Calls Try.prog 18 #[.int .i64 a, .int .i64 b] w fun e w' => e = .returned (.tuple #[.int .i64 0, .int .i64 8]) ∧ w = w' := by
  have H := Lib.hid h
  clear h
  go_enter Try.func18, Try.ntmps18
  go_wp2_with (go_at_call 32; refine (rmay2_no _ _ (by omega) (by omega) H.out).mono ?_; rintro e w' ⟨rfl, rfl⟩)
  go_ret2
  exact ⟨rfl, rfl⟩
theorem radd2_bad2 (a b : Int) (w : World) (ha : ¬ badB a) (hl : -9223372036854775808 ≤ b) (h0 : b < 9223372036854775807) (h : ¬ May (b / 2)) :
    Calls Try.prog 18 #[.int .i64 a, .int .i64 b] w fun e w' => e = .returned (.tuple #[.int .i64 0, .int .i64 8]) ∧ w = w' := by
  have H := Lib.hid h
  have A := Lib.hid ha
  clear h ha
  go_enter Try.func18, Try.ntmps18
  go_wp2_with fail
  refine (rmay2_yes _ _ A.out).mono ?_
  rintro e w' ⟨rfl, rfl⟩
  go_wp2_with fail
  refine (rmay2_no _ _ h0 hl H.out).mono ?_
  rintro e w' ⟨rfl, rfl⟩
  go_wp2
  go_ret2
  exact ⟨rfl, rfl⟩
theorem radd2_sum (a b v : Int) (w : World) (ha : ¬ badB a) (hb : ¬ badB b) (h : ∀ w, Calls Try.prog 35 #[.int .i64 a, .int .i64 b] w fun e w' => e = .returned (.tuple #[.int .i64 v, .bool true]) ∧ w = w') :
    Calls Try.prog 18 #[.int .i64 a, .int .i64 b] w fun e w' => e = .returned (.tuple #[.int .i64 v, .int .i64 0]) ∧ w = w' := by
  have H := Lib.hid h
  have A := Lib.hid ha
  have B := Lib.hid hb
  clear h ha hb
  go_enter Try.func18, Try.ntmps18
  go_wp2_with fail
  refine (rmay2_yes _ _ A.out).mono ?_
  rintro e w' ⟨rfl, rfl⟩
  go_wp2_with fail
  refine (rmay2_yes _ _ B.out).mono ?_
  rintro e w' ⟨rfl, rfl⟩
  go_wp2_with fail
  refine (H.out _).mono ?_
  rintro e w' ⟨rfl, rfl⟩
  go_wp2
  go_ret2
  exact ⟨rfl, rfl⟩
theorem radd2_over (a b : Int) (w : World) (ha : May (a / 2)) (hb : May (b / 2)) (hs : ¬ May (a / 2 + b / 2)) :
    Calls Try.prog 18 #[.int .i64 a, .int .i64 b] w fun e w' => e = .returned (.tuple #[.int .i64 0, .int .i64 10]) ∧ w = w' := by
  have H := Lib.hid (fun w => rsum_over a b w ha hb hs)
  clear hs
  go_enter Try.func18, Try.ntmps18
  go_wp2_with (first | (go_at_call 32; refine (rmay2_ok _ _ (by assumption)).mono ?_; rintro e w' ⟨rfl, rfl⟩) | (go_at_call 35; refine (H.out _).mono ?_; rintro e w' ⟨rfl, rfl⟩))
  go_ret2
  exact ⟨rfl, rfl⟩
theorem radd2_any (a b : Int) (w : World) (la : -9223372036854775808 ≤ a) (hwa : a ≤ 9223372036854775807) (lb : -9223372036854775808 ≤ b) (hw : b ≤ 9223372036854775807) :
    Calls Try.prog 18 #[.int .i64 a, .int .i64 b] w fun e w' => e = .returned (.tuple #[.int .i64 (sumV a b), .int .i64 (sumE a b)]) ∧ w = w' := by
  rcases three a hwa with rfl | ⟨a0, ha⟩ | ⟨a0, ha⟩
  · rcases three b hw with rfl | ⟨h0, h⟩ | ⟨h0, h⟩
    · obtain ⟨e1, e2⟩ := sum_none (fun k => k.elim badB_none badB_none) (.inl rfl); rw [e1, e2]; exact radd2_sum _ _ _ w badB_none badB_none (fun w => rsum_none1 _ w)
    · obtain ⟨e1, e2⟩ := sum_none (fun k => k.elim badB_none (badB_ok h)) (.inl rfl); rw [e1, e2]; exact radd2_sum _ _ _ w badB_none (badB_ok h) (fun w => rsum_none1 _ w)
    · obtain ⟨e1, e2⟩ := sum_bad (a := 9223372036854775807) (.inr (badB_no h0 h)); rw [e1, e2]; exact radd2_bad2 _ b w badB_none lb h0 h
  · rcases three b hw with rfl | ⟨h0, h⟩ | ⟨h0, h⟩
    · obtain ⟨e1, e2⟩ := sum_none (fun k => k.elim (badB_ok ha) badB_none) (.inr rfl); rw [e1, e2]; exact radd2_sum _ _ _ w (badB_ok ha) badB_none (fun w => rsum_none2 _ w a0)
    · by_cases hs : May (a / 2 + b / 2)
      · obtain ⟨e1, e2⟩ := sum_ok ha h hs; rw [e1, e2]; exact radd2_sum _ _ _ w (badB_ok ha) (badB_ok h) (fun w => rsum_ok a b w ha h hs)
      · obtain ⟨e1, e2⟩ := sum_over ha h hs; rw [e1, e2]; exact radd2_over a b w ha h hs
    · obtain ⟨e1, e2⟩ := sum_bad (a := a) (.inr (badB_no h0 h)); rw [e1, e2]; exact radd2_bad2 a b w (badB_ok ha) lb h0 h
  · obtain ⟨e1, e2⟩ := sum_bad (b := b) (.inl (badB_no a0 ha)); rw [e1, e2]; exact radd2_bad1 a b w la a0 ha


theorem rnot_any (b : Int) (w : World) (hl : -9223372036854775808 ≤ b) (hw : b ≤ 9223372036854775807) :
    Calls Try.prog 19 #[.int .i64 b] w fun e w' => e = .returned (.tuple #[.int .i64 (notV b), .int .i64 (valE b)]) ∧ w = w' := by
  have C := fun w => rvalue_any b w hl hw
  unfold notV
  rcases three b hw with rfl | ⟨h0, h⟩ | ⟨h0, h⟩
  · rw [val_none.1, val_none.2.1, val_none.2.2] at C
    rw [if_neg none_not, val_none.2.2]
    have CC := Lib.hid C
    clear C
    go_enter Try.func19, Try.ntmps19
    go_wp2_with (go_at_call 17; refine (CC.out _).mono ?_; rintro e w' ⟨rfl, rfl⟩)
    go_ret2
    exact ⟨rfl, rfl⟩
  · rw [(val_ok h).1, (val_ok h).2.1, (val_ok h).2.2] at C
    rw [if_pos h, (val_ok h).2.2]
    have CC := Lib.hid C
    clear C
    go_enter Try.func19, Try.ntmps19
    go_wp2_with (first | (go_at_call 17; refine (CC.out _).mono ?_; rintro e w' ⟨rfl, rfl⟩) | (go_at_call 36; refine (other_ok _ _ (by assumption)).mono ?_; rintro e w' ⟨rfl, rfl⟩))
    go_ret2
    exact ⟨rfl, rfl⟩
  · rw [(val_no h0 h).1, (val_no h0 h).2.1, (val_no h0 h).2.2] at C
    rw [if_neg h, (val_no h0 h).2.2]
    have CC := Lib.hid C
    clear C h
    go_enter Try.func19, Try.ntmps19
    go_wp2_with (go_at_call 17; refine (CC.out _).mono ?_; rintro e w' ⟨rfl, rfl⟩)
    go_ret2
    exact ⟨rfl, rfl⟩

theorem rkept_none (d : Int) (w : World) :
    Calls Try.prog 37 #[.int .i64 d, .int .i64 9223372036854775807] w fun e w' => e = .returned (.bool true) ∧ w = w' := by
  go_enter Try.func37, Try.ntmps37
  go_wp2
  go_ret
  exact ⟨rfl, rfl⟩
theorem rkept_ok (d b : Int) (w : World) (hb : May (b / 2)) :
    Calls Try.prog 37 #[.int .i64 d, .int .i64 b] w fun e w' => e = .returned (.bool (kept d (b / 2) (bS b))) ∧ w = w' := by
  have b0 := may_lo hb
  have b1 := may_hi hb
  have C : RowKit.Hid (∀ w, Calls Try.prog 33 #[.int .i64 b] w fun e w' => e = .returned (.int .i64 (b / 2)) ∧ w = w') := Lib.hid (fun w => number_any b w b0 (by omega))
  by_cases h : d < b / 2
  · have e : kept d (b / 2) (bS b) = true := by unfold kept; simp [h]
    rw [e]
    clear e
    go_enter Try.func37, Try.ntmps37
    go_wp2_with (go_at_call 33; refine (C.out _).mono ?_; rintro e w' ⟨rfl, rfl⟩)
    go_ret
    exact ⟨rfl, rfl⟩
  · by_cases h2 : b / 2 < d
    · have e : kept d (b / 2) (bS b) = false := by unfold kept; simp; omega
      rw [e]
      clear e
      have t1 : decide (d < b / 2) = false := by simpa using h
      have t2 : (d == b / 2) = false := by simp; omega
      go_enter Try.func37, Try.ntmps37
      go_wp2_with (go_at_call 33; refine (C.out _).mono ?_; rintro e w' ⟨rfl, rfl⟩)
      go_ret
      exact ⟨rfl, rfl⟩
    · obtain rfl : d = b / 2 := by omega
      have e : kept (b / 2) (b / 2) (bS b) = !bS b := by unfold kept; simp
      rw [e]
      clear e h2 h
      go_enter Try.func37, Try.ntmps37
      go_wp2_with (first | (go_at_call 33; refine (C.out _).mono ?_; rintro e w' ⟨rfl, rfl⟩) | (go_at_call 34; refine (strict_any _ _).mono ?_; rintro e w' ⟨rfl, rfl⟩))
      go_ret
      exact ⟨rfl, rfl⟩

theorem rkeeps_any (d b : Int) (w : World) (hl : -9223372036854775808 ≤ b) (hw : b ≤ 9223372036854775807) :
    Calls Try.prog 20 #[.int .i64 d, .int .i64 b] w fun e w' => e = .returned (.tuple #[.bool (keepV d b), .int .i64 (keepE d b)]) ∧ w = w' := by
  unfold keepV keepE
  by_cases hd : May d
  · rw [if_pos hd, if_pos hd]
    rcases three b hw with rfl | ⟨h0, h⟩ | ⟨h0, h⟩
    · rw [if_pos rfl, if_neg badB_none]
      go_enter Try.func20, Try.ntmps20
      go_wp2_with (first | (go_at_call 30; refine (rmay_ok _ _ (by assumption)).mono ?_; rintro e w' ⟨rfl, rfl⟩) | (go_at_call 32; refine (rmay2_none _).mono ?_; rintro e w' ⟨rfl, rfl⟩) | (go_at_call 37; refine (rkept_none _ _).mono ?_; rintro e w' ⟨rfl, rfl⟩))
      go_ret2
      exact ⟨rfl, rfl⟩
    · rw [if_neg (not_none_lt h0), if_pos h, if_neg (badB_ok h)]
      go_enter Try.func20, Try.ntmps20
      go_wp2_with (first | (go_at_call 30; refine (rmay_ok _ _ (by assumption)).mono ?_; rintro e w' ⟨rfl, rfl⟩) | (go_at_call 32; refine (rmay2_ok _ _ (by assumption)).mono ?_; rintro e w' ⟨rfl, rfl⟩) | (go_at_call 37; refine (rkept_ok _ _ _ (by assumption)).mono ?_; rintro e w' ⟨rfl, rfl⟩))
      go_ret2
      exact ⟨rfl, rfl⟩
    · rw [if_neg (not_none_lt h0), if_neg h, if_pos (badB_no h0 h)]
      have H := Lib.hid h
      clear h
      go_enter Try.func20, Try.ntmps20
      go_wp2_with (first | (go_at_call 30; refine (rmay_ok _ _ (by assumption)).mono ?_; rintro e w' ⟨rfl, rfl⟩) | (go_at_call 32; refine (rmay2_no _ _ (by omega) (by omega) H.out).mono ?_; rintro e w' ⟨rfl, rfl⟩))
      go_ret2
      exact ⟨rfl, rfl⟩
  · rw [if_neg hd, if_neg hd]
    have H := Lib.hid hd
    clear hd
    go_enter Try.func20, Try.ntmps20
    go_wp2_with (go_at_call 30; refine (rmay_no _ _ H.out).mono ?_; rintro e w' ⟨rfl, rfl⟩)
    go_ret2
    exact ⟨rfl, rfl⟩
end Go.Proofs.Ytihblpedmfohaaa.bound
