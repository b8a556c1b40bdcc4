/-
  What each call of package bound answers, at whatever bound and number that an int can tell; the condition: a bound is at most 2^63 - 1.
-/
import Derived.Test.YtlagnbbbokgdfaaBound2
namespace Go.Proofs.Ytlagnbbbokgdfaa.bound
open Go.ChangeShapes Go.WideShapes Go.ChangeAt Go.RowKit num
set_option linter.unusedVariables false

theorem not_none_lt {b : Int} (h : b < 9223372036854775807) : ¬ b = 9223372036854775807 := by omega
theorem badB_none : ¬ badB 9223372036854775807 := fun h => h.1 rfl
theorem badB_ok {b : Int} (h : May (b / 2)) : ¬ badB b := fun k => k.2 h
theorem badB_no {b : Int} (h0 : b < 9223372036854775807) (h : ¬ May (b / 2)) : badB b := ⟨not_none_lt h0, h⟩
theorem value_any (b : Int) (w : World) (hw : b ≤ 9223372036854775807) :
    Calls Try.prog 47 #[.int .i64 b] w fun e w' => e = .returned (.tuple #[.int .i64 (valC b), .bool (valS b), .int .i64 (valE b)]) ∧ Below w.heap.size w w' := by
  unfold valC valS valE
  rcases three b hw with rfl | ⟨h0, h⟩ | ⟨h0, h⟩
  · rw [if_neg none_not, if_neg none_not, if_pos rfl]; exact value_none w
  · rw [if_pos h, if_pos h, if_neg (not_none_lt h0), if_pos h]; exact value_ok b w h
  · rw [if_neg h, if_neg h, if_neg (not_none_lt h0), if_neg h]; exact value_no b w h0 h
theorem sum_bad {a b : Int} (h : badB a ∨ badB b) : sumV a b = 0 ∧ sumE a b = 8 := ⟨if_pos h, if_pos h⟩
theorem sum_none {a b : Int} (h : ¬ (badB a ∨ badB b)) (k : a = 9223372036854775807 ∨ b = 9223372036854775807) : sumV a b = 9223372036854775807 ∧ sumE a b = 0 := ⟨(if_neg h).trans (if_pos k), (if_neg h).trans (if_pos k)⟩
theorem sum_ok {a b : Int} (ha : May (a / 2)) (hb : May (b / 2)) (hs : May (a / 2 + b / 2)) : sumV a b = mk (a / 2 + b / 2) (bS a || bS b) ∧ sumE a b = 0 := by
  have h : ¬ (badB a ∨ badB b) := fun k => k.elim (badB_ok ha) (badB_ok hb)
  have k : ¬ (a = 9223372036854775807 ∨ b = 9223372036854775807) := fun k => k.elim (fun e => none_not (e ▸ ha)) (fun e => none_not (e ▸ hb))
  exact ⟨(if_neg h).trans ((if_neg k).trans (if_pos hs)), (if_neg h).trans ((if_neg k).trans (if_pos hs))⟩
theorem sum_over {a b : Int} (ha : May (a / 2)) (hb : May (b / 2)) (hs : ¬ May (a / 2 + b / 2)) : sumV a b = 0 ∧ sumE a b = 10 := by
  have h : ¬ (badB a ∨ badB b) := fun k => k.elim (badB_ok ha) (badB_ok hb)
  have k : ¬ (a = 9223372036854775807 ∨ b = 9223372036854775807) := fun k => k.elim (fun e => none_not (e ▸ ha)) (fun e => none_not (e ▸ hb))
  exact ⟨(if_neg h).trans ((if_neg k).trans (if_neg hs)), (if_neg h).trans ((if_neg k).trans (if_neg hs))⟩
theorem add2_any (a b : Int) (w : World) (hwa : a ≤ 9223372036854775807) (hw : b ≤ 9223372036854775807) :
    Calls Try.prog 23 #[.int .i64 a, .int .i64 b] w fun e w' => e = .returned (.tuple #[.int .i64 (sumV a b), .int .i64 (sumE a b)]) ∧ Below w.heap.size w w' := by
  rcases three a hwa with rfl | ⟨a0, ha⟩ | ⟨a0, ha⟩
  · rcases three b hw with rfl | ⟨h0, h⟩ | ⟨h0, h⟩
    · obtain ⟨e1, e2⟩ := sum_none (fun k => k.elim badB_none badB_none) (.inl rfl); rw [e1, e2]; exact add2_nn w
    · obtain ⟨e1, e2⟩ := sum_none (fun k => k.elim badB_none (badB_ok h)) (.inl rfl); rw [e1, e2]; exact add2_no b w h
    · obtain ⟨e1, e2⟩ := sum_bad (a := 9223372036854775807) (.inr (badB_no h0 h)); rw [e1, e2]; exact add2_bad2n b w h0 h
  · rcases three b hw with rfl | ⟨h0, h⟩ | ⟨h0, h⟩
    · obtain ⟨e1, e2⟩ := sum_none (fun k => k.elim (badB_ok ha) badB_none) (.inr rfl); rw [e1, e2]; exact add2_on a w ha
    · by_cases hs : May (a / 2 + b / 2)
      · obtain ⟨e1, e2⟩ := sum_ok ha h hs; rw [e1, e2]; exact add2_ok a b w ha h hs
      · obtain ⟨e1, e2⟩ := sum_over ha h hs; rw [e1, e2]; exact add2_over a b w ha h hs
    · obtain ⟨e1, e2⟩ := sum_bad (a := a) (.inr (badB_no h0 h)); rw [e1, e2]; exact add2_bad2 a b w ha h0 h
  · obtain ⟨e1, e2⟩ := sum_bad (b := b) (.inl (badB_no a0 ha)); rw [e1, e2]; exact add2_bad1 a b w a0 ha
end Go.Proofs.Ytlagnbbbokgdfaa.bound
