/-
  Times within a span; each theorem names its conditions.
-/
import Derived.Test.YtallgbpijndmeaaTightKm
import Derived.Test.YtallgbpijndmeaaRatC
namespace Go.Proofs.Ytallgbpijndmeaa.tkept
open num dbm rat Go.Proofs.Ytallgbpijndmeaa.tight
open bound hiding up
set_option linter.unusedVariables false

/-- is a time above a span's low end? .. below its high one? -/
def inl (lo : Int) (ls : Bool) (a b : Int) : Bool := if ls then decide (lo * b < a) else decide (lo * b ≤ a)
def inh (hi : Int) (hs : Bool) (a b : Int) : Bool := if hs then decide (a < hi * b) else decide (a ≤ hi * b)
theorem mk_not {c : Int} (h : In c) (s : Bool) : mk c s ≠ 9223372036854775807 := by
  have := mk_half c s
  unfold In at h
  omega
theorem mk_fine2 {c : Int} (h : In c) (s : Bool) : Fine (mk c s) := .inr (by rw [mk_half]; exact h)
theorem zero_may : MayR 0 1 := ⟨by decide, by decide, by decide, by decide, by decide⟩
theorem kp_low {lo a b : Int} (h : In lo) (ls : Bool) (hm : MayR a b) : kpV 0 1 a b (mk (-lo) ls) = true ↔ inl lo ls a b = true := by
  have hn : In (-lo) := by unfold In at h ⊢; omega
  have e1 : (0 : Int) * b - a * 1 = -a := by simp
  have e2 : -lo * (1 * b) = -(lo * b) := by rw [Int.one_mul, Int.neg_mul]
  rw [kp_kB zero_may hm (mk_fine2 hn ls)]
  constructor
  · rintro (k | k)
    · exact (mk_not hn ls k).elim
    · unfold inl
      cases ls with
      | true =>
        rw [keptR_lt (mk_strict _ _), mk_half, e1, e2] at k
        simp; omega
      | false =>
        rw [keptR_ge (by rw [mk_strict]; decide), mk_half, e1, e2] at k
        simp; omega
  · intro k
    refine .inr ?_
    unfold inl at k
    cases ls with
    | true =>
      rw [keptR_lt (mk_strict _ _), mk_half, e1, e2]
      simp at k; omega
    | false =>
      rw [keptR_ge (by rw [mk_strict]; decide), mk_half, e1, e2]
      simp at k; omega
theorem kp_high {hi a b : Int} (hs op : Bool) (h : op = false → In hi) (hm : MayR a b) : kpV a b 0 1 (hiB hi hs op) = true ↔ (op || inh hi hs a b) = true := by
  cases op with
  | true =>
    have e : hiB hi hs true = 9223372036854775807 := rfl
    rw [e, kp_kB hm zero_may (.inl rfl)]
    exact ⟨fun _ => rfl, fun _ => .inl rfl⟩
  | false =>
    have hn := h rfl
    have e : hiB hi hs false = mk hi hs := rfl
    have e1 : a * 1 - (0 : Int) * b = a := by simp
    have e2 : hi * (b * 1) = hi * b := by rw [Int.mul_one]
    rw [e, kp_kB hm zero_may (mk_fine2 hn hs)]
    constructor
    · rintro (k | k)
      · exact (mk_not hn hs k).elim
      · unfold inh
        cases hs with
        | true =>
          rw [keptR_lt (mk_strict _ _), mk_half, e1, e2] at k
          simp; omega
        | false =>
          rw [keptR_ge (by rw [mk_strict]; decide), mk_half, e1, e2] at k
          simp; omega
    · intro k
      refine .inr ?_
      unfold inh at k
      cases hs with
      | true =>
        rw [keptR_lt (mk_strict _ _), mk_half, e1, e2]
        simp at k; omega
      | false =>
        rw [keptR_ge (by rw [mk_strict]; decide), mk_half, e1, e2]
        simp at k; omega
/-- times keep one with a clock in a span just if they keep it, and that time is in the span. -/
theorem kept_btw {n i : Nat} {lo hi : Int} {ls hs op : Bool} {ts : List Int} {qs : List (Int × Int)} (h0 : 0 < n) (hn : n ≤ 4) (hl : ts.length = n * n) (ht : MayD n ts) (hq : MayT qs) (hqn : qs.length = n) (hq0 : pr qs 0 = (0, 1)) (hi' : i < n) (hS : MayS lo hi hs op) :
    keptAll n (btwL n ts i lo ls hi hs op) qs ↔ keptAll n ts qs ∧ (inl lo ls (pr qs i).1 (pr qs i).2 && (op || inh hi hs (pr qs i).1 (pr qs i).2)) = true := by
  have hlo := hS.1
  have hhi : op = false → In hi := fun h => by
    rcases hS.2 with k | k
    · rw [h] at k; exact absurd k.1 (by decide)
    · exact k.2.1
  have hn' : In (-lo) := by unfold In at hlo ⊢; omega
  have hx : Fine (mk (-lo) ls) := mk_fine2 hn' ls
  have hy : Fine (hiB hi hs op) := by
    cases op with
    | true => exact .inl rfl
    | false => exact mk_fine2 (hhi rfl) hs
  show keptAll n (setT (setT ts (0 * n + i) (mk (-lo) ls)) (i * n + 0) (hiB hi hs op)) qs ↔ _
  rw [kept_set hn ((setT_length _ _ _).trans hl) (setT_may ht _ hx) hy hq hqn hi' h0, kept_set hn hl ht hx hq hqn h0 hi', hq0, kp_low hlo ls (hq i (by omega)), kp_high hs op hhi (hq i (by omega)), Bool.and_eq_true, and_assoc]

/-- what Cmp answers of the ends. -/
theorem cmp_low {lo a b : Int} (h : In lo) (ls : Bool) (hm : MayR a b) : cmpE lo 1 a b = 0 ∧ ((cmpV lo 1 a b = 1 ∧ inl lo ls a b = false) ∨ (cmpV lo 1 a b = -1 ∧ inl lo ls a b = true) ∨ (cmpV lo 1 a b = 0 ∧ inl lo ls a b = !ls)) := by
  have hb : Both lo 1 a b := ⟨whole_may (by unfold In at h; unfold May; omega), hm⟩
  obtain ⟨e1, e2⟩ := cmpV_is hb
  refine ⟨e2, ?_⟩
  rw [e1]
  have e3 : a * 1 = a := Int.mul_one a
  rw [e3]
  unfold inl
  rcases cmp0_cases (lo * b) a with ⟨k, e⟩ | ⟨k, e⟩ | ⟨k, e⟩
  · refine .inl ⟨e, ?_⟩
    cases ls <;> simp <;> omega
  · refine .inr (.inl ⟨e, ?_⟩)
    cases ls <;> simp <;> omega
  · refine .inr (.inr ⟨e, ?_⟩)
    cases ls <;> simp <;> omega
theorem cmp_high {hi a b : Int} (h : In hi) (hs : Bool) (hm : MayR a b) : cmpE a b hi 1 = 0 ∧ ((cmpV a b hi 1 = 1 ∧ inh hi hs a b = false) ∨ (cmpV a b hi 1 = -1 ∧ inh hi hs a b = true) ∨ (cmpV a b hi 1 = 0 ∧ inh hi hs a b = !hs)) := by
  have hb : Both a b hi 1 := ⟨hm, whole_may (by unfold In at h; unfold May; omega)⟩
  obtain ⟨e1, e2⟩ := cmpV_is hb
  refine ⟨e2, ?_⟩
  rw [e1]
  have e3 : a * 1 = a := Int.mul_one a
  rw [e3]
  unfold inh
  rcases cmp0_cases a (hi * b) with ⟨k, e⟩ | ⟨k, e⟩ | ⟨k, e⟩
  · refine .inl ⟨e, ?_⟩
    cases hs <;> simp <;> omega
  · refine .inr (.inl ⟨e, ?_⟩)
    cases hs <;> simp <;> omega
  · refine .inr (.inr ⟨e, ?_⟩)
    cases hs <;> simp <;> omega
end Go.Proofs.Ytallgbpijndmeaa.tkept
