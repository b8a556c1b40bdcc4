/-
  What each call of the document's own answers for layer 1 (package rallentandoref01) gives, for every int, and the same of package num in the same words; no conditions.
-/
import Derived.Test.YtlagnbbbokgdfaaNum
namespace Go.Proofs.Ytlagnbbbokgdfaa.num
open Go.ChangeShapes Go.WideShapes Go.ChangeAt Go.RowKit
set_option linter.unusedVariables false

instance decMay (a : Int) : Decidable (May a) := by unfold May; exact inferInstance
def mayB (a : Int) : Bool := decide (May a)
def chkE (a : Int) : Int := if May a then 0 else 10
def negV (a : Int) : Int := if May a then -a else 0
def addV (a b : Int) : Int := if May a ∧ May b ∧ May (a + b) then a + b else 0
def addE (a b : Int) : Int := if May a ∧ May b ∧ May (a + b) then 0 else 10
def subV (a b : Int) : Int := if May a ∧ May b ∧ May (a - b) then a - b else 0
def subE (a b : Int) : Int := if May a ∧ May b ∧ May (a - b) then 0 else 10

theorem check_any (a : Int) (w : World) :
    Calls Try.prog 43 #[.int .i64 a] w fun e w' => e = .returned (.int .i64 (chkE a)) ∧ w = w' := by
  unfold chkE
  by_cases h : May a
  · rw [if_pos h]; exact check_ok a w h
  · rw [if_neg h]; exact check_no a w h
theorem add_any (a b : Int) (w : World) :
    Calls Try.prog 60 #[.int .i64 a, .int .i64 b] w fun e w' => e = .returned (.tuple #[.int .i64 (addV a b), .int .i64 (addE a b)]) ∧ w = w' := by
  unfold addV addE
  by_cases h : May a ∧ May b ∧ May (a + b)
  · rw [if_pos h, if_pos h]; exact add_ok a b w h.1 h.2.1 h.2.2
  · rw [if_neg h, if_neg h]; exact add_no a b w h
theorem rmay_ok (a : Int) (w : World) (h : May a) :
    Calls Try.prog 66 #[.int .i64 a] w fun e w' => e = .returned (.bool true) ∧ w = w' := by
  obtain ⟨h1, h2⟩ := h
  go_enter Try.func66, Try.ntmps66
  go_wp2
  go_ret
  exact ⟨rfl, rfl⟩
theorem rmay_no (a : Int) (w : World) (h : ¬ May a) :
    Calls Try.prog 66 #[.int .i64 a] w fun e w' => e = .returned (.bool false) ∧ w = w' := by
  unfold May at h
  by_cases t1 : -2305843009213693952 ≤ a
  · have t2 : ¬ a ≤ 2305843009213693952 := by omega
    have t3 : decide (a ≤ 2305843009213693952) = false := by simpa using t2
    clear h t2
    go_enter Try.func66, Try.ntmps66
    go_wp2
    go_ret
    exact ⟨rfl, rfl⟩
  · have t3 : decide (-2305843009213693952 ≤ a) = false := by simpa using t1
    clear h t1
    go_enter Try.func66, Try.ntmps66
    go_wp2
    go_ret
    exact ⟨rfl, rfl⟩

end Go.Proofs.Ytlagnbbbokgdfaa.num
