
/-
  What law 11's own calls answer; each theorem names its conditions.
-/
import Derived.Test.YtkfnjdmjojodhaaDoorMinusN
import Derived.Test.YtkfnjdmjojodhaaDoorZoneI
namespace Go.Proofs.YtkfnjdmjojodhaaDoor.mlaw
open Go.Joins Go.ChangeShapes Go.WideShapes Go.ChangeAt Go.RowKit num rat dbm Go.Proofs.YtkfnjdmjojodhaaDoor.tight Go.Proofs.YtkfnjdmjojodhaaDoor.incl Go.Proofs.YtkfnjdmjojodhaaDoor.plaw Go.Proofs.YtkfnjdmjojodhaaDoor.zopen Go.Proofs.YtkfnjdmjojodhaaDoor.zone Go.Proofs.YtkfnjdmjojodhaaDoor.win Go.Proofs.YtkfnjdmjojodhaaDoor.minus Go.Proofs.YtkfnjdmjojodhaaDoor.mz
open bound hiding up
set_option linter.unusedVariables false
set_option linter.unusedSimpArgs false

/-! answers -/
/-- less one, by LessR. -/
theorem min_less {a b : List Int} {r : List (List Int)} {f : Int} (ha : Zo a) (hb : Zo b) (h : StepP b [a] [] r f) : LessR b 6 a r f := by
  have z : ∀ z, z ∈ [a] → Zo z := fun z hz => by rw [List.mem_singleton.1 hz]; exact ha
  have t := tot_six b [a]
  rw [List.length_singleton] at t
  obtain ⟨k, _⟩ := stepP_few hb.2.1 hb.1 [a] z (by rw [List.length_nil]; omega) h
  obtain ⟨m, e, hm, q⟩ := k
  rcases q with ⟨q1, q2, q3⟩ | ⟨q1, ⟨q2, q3, q4⟩ | ⟨_, q3⟩⟩
  · rcases less_err 6 hm with e0 | ⟨e8, em⟩
    · exact (q1 e0).elim
    · rw [q2, q3, ← em]; exact hm
  · exfalso
    subst q1
    have l : m.length ≤ 6 := by
      obtain ⟨ys, hy⟩ := pcs_ex b 6 a
      obtain ⟨f', h1, _⟩ := pcs_less hb.2.1 hb.1 6 (Nat.le_refl _) ha hy
      obtain ⟨e1, e2⟩ := less_same 6 h1 hm
      subst e2
      rw [if_pos rfl] at e1
      rw [e1]
      exact (pcs_all hb.2.1 hb.1 6 (Nat.le_refl _) ha hy).1
    rw [List.nil_append] at q2
    omega
  · obtain ⟨rfl, rfl⟩ := q3
    subst q1
    exact hm
theorem zo_may {a : List Int} (ha : a.length = 6) (ta : Tops a) (h : MayZ a) : Zo a := ⟨h, ta, ha⟩
/-! the chapter's zones -/
end Go.Proofs.YtkfnjdmjojodhaaDoor.mlaw
