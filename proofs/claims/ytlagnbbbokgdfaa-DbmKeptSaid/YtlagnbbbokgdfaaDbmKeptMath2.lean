/-
  Times that keep every bound keep every way's weight, and the closed table; the conditions: denominators above 0.
-/
import Derived.Test.YtlagnbbbokgdfaaDbmKeptMath
import Derived.Test.YtlagnbbbokgdfaaDbmMath
namespace Go.Proofs.Ytlagnbbbokgdfaa.dbm
open num rat way
open bound hiding up
set_option linter.unusedVariables false

/-- is a weight kept by two of the times? -/
def kB (q : Nat → Int × Int) (i j : Nat) : B → Prop
  | none => True
  | some z => keptR (q i).1 (q i).2 (q j).1 (q j).2 z = true
theorem kB_ad {q : Nat → Int × Int} (hq : ∀ i, 0 < (q i).2) {i m j : Nat} {x y : B} (h : kB q i m x) (k : kB q m j y) : kB q i j (ad x y) := by
  cases x with
  | none => rw [none_ad]; trivial
  | some a =>
    cases y with
    | none => rw [ad_none]; trivial
    | some b =>
      rw [ad_some]
      refine keptR_add (hq i) (hq j) (hq m) h k (by omega) (fun s => ?_)
      unfold bS at s ⊢
      simp at s ⊢
      omega
theorem kB_up {q : Nat → Int × Int} (hq : ∀ i, 0 < (q i).2) {i j : Nat} {x y : B} (h : kB q i j x) (k : le x y) : kB q i j y := by
  cases y with
  | none => trivial
  | some b =>
    cases x with
    | none => exact k.elim
    | some a => exact keptR_up (hq i) (hq j) h k
theorem kB_way {q : Nat → Int × Int} (hq : ∀ i, 0 < (q i).2) {d : Tab} (h : ∀ i j, kB q i j (d i j)) (l : List Nat) : ∀ i j, kB q i j (w d i l j) := by
  induction l with
  | nil => exact fun i j => h i j
  | cons m l ih => exact fun i j => kB_ad hq (h i m) (ih m j)
theorem kB_F {q : Nat → Int × Int} (hq : ∀ i, 0 < (q i).2) {d : Tab} (h : ∀ i j, kB q i j (d i j)) (k i j : Nat) : kB q i j (F d k i j) := by
  obtain ⟨l, _, e⟩ := F_is d k i j
  rw [← e]
  exact kB_way hq h l i j
/-- a time and itself keep no bound below 'at most 0'. -/
theorem kB_self {q : Nat → Int × Int} (hq : ∀ i, 0 < (q i).2) {i : Nat} {x : B} (h : kB q i i x) : le one x := by
  cases x with
  | none => exact le_none _
  | some z =>
    have hp : 0 < (q i).2 * (q i).2 := Int.mul_pos (hq i) (hq i)
    show (1 : Int) ≤ z
    have l := keptR_le h
    rw [Int.sub_self] at l
    refine Decidable.byContradiction fun hz => ?_
    by_cases e : z = 0
    · subst e
      have := (keptR_lt (x := 0) rfl).1 h
      simp at this
    · have : z / 2 < 0 := by omega
      have := Int.mul_lt_mul_of_pos_right this hp
      omega
theorem kB_one {q : Nat → Int × Int} (i : Nat) : kB q i i one := by
  show keptR _ _ _ _ 1 = true
  rw [keptR_ge (by decide)]
  simp
end Go.Proofs.Ytlagnbbbokgdfaa.dbm
