/-
  The arithmetic of fractions in lowest terms, under layer 3's laws; no program's run in this text; each theorem names its conditions.
-/
import Derived.Test.YtbmadhejdnkeeaaRat7
namespace Go.Proofs.Ytbmadhejdnkeeaa.rat
open rmath bound num
set_option linter.unusedVariables false

theorem mul_right_cancel {a b c : Int} (hc : c ≠ 0) (h : a * c = b * c) : a = b := Int.eq_of_mul_eq_mul_right hc h
theorem low_parts (V D : Int) (h : 1 ≤ D) : lowP V D * gcdI V D = V ∧ lowQ V D * gcdI V D = D ∧ lowP V D * D = V * lowQ V D ∧ Int.gcd (lowP V D) (lowQ V D) = 1 := by
  have g := gcd_pos V D h
  have a : lowP V D * gcdI V D = V := Int.ediv_mul_cancel (Int.gcd_dvd_left V D)
  have b : lowQ V D * gcdI V D = D := Int.ediv_mul_cancel (Int.gcd_dvd_right V D)
  refine ⟨a, b, ?_, ?_⟩
  · generalize gcdI V D = G at *
    generalize lowP V D = P at *
    generalize lowQ V D = Q at *
    subst a b
    ac_rfl
  · have e := Int.gcd_ediv (a := V) (b := D) (c := gcdI V D) (Int.gcd_dvd_left V D) (Int.gcd_dvd_right V D)
    have n : (gcdI V D).natAbs = V.gcd D := rfl
    rw [n] at e
    refine e.trans (Nat.div_self ?_)
    unfold gcdI at g
    omega
theorem dvd_of_cross {p q p' q' : Int} (h : Int.gcd p q = 1) (e : p * q' = p' * q) : q ∣ q' := by
  have k : q.natAbs ∣ p.natAbs * q'.natAbs := by
    rw [← Int.natAbs_mul, e, Int.natAbs_mul]
    exact Nat.dvd_mul_left _ _
  have c : Nat.Coprime q.natAbs p.natAbs := by
    have : Nat.gcd p.natAbs q.natAbs = 1 := h
    rw [Nat.Coprime, Nat.gcd_comm]
    exact this
  exact Int.natAbs_dvd_natAbs.1 (c.dvd_of_dvd_mul_left k)
theorem low_unique {p q p' q' : Int} (h : Int.gcd p q = 1) (h' : Int.gcd p' q' = 1) (q1 : 1 ≤ q) (q1' : 1 ≤ q') (e : p * q' = p' * q) : p = p' ∧ q = q' := by
  have a := Int.le_of_dvd (by omega) (dvd_of_cross h e)
  have b := Int.le_of_dvd (by omega) (dvd_of_cross h' e.symm)
  have c : q = q' := by omega
  subst c
  exact ⟨mul_right_cancel (by omega) e, rfl⟩
theorem low_same {V D V' D' : Int} (h : 1 ≤ D) (h' : 1 ≤ D') (e : V * D' = V' * D) : lowP V D = lowP V' D' ∧ lowQ V D = lowQ V' D' := by
  obtain ⟨a1, a2, a3, a4⟩ := low_parts V D h
  obtain ⟨b1, b2, b3, b4⟩ := low_parts V' D' h'
  have c1 := (lowQ_in V D h).1
  have c2 := (lowQ_in V' D' h').1
  refine low_unique a4 b4 c1 c2 ?_
  clear a1 a2 b1 b2 a4 b4
  generalize lowP V D = p at *
  generalize lowQ V D = q at *
  generalize lowP V' D' = p' at *
  generalize lowQ V' D' = q' at *
  have z : D * D' ≠ 0 := Int.mul_ne_zero (by omega) (by omega)
  refine mul_right_cancel z ?_
  have e1 : p * q' * (D * D') = p * D * (q' * D') := by ac_rfl
  have e2 : p' * q * (D * D') = p' * D' * (q * D) := by ac_rfl
  rw [e1, e2, a3, b3]
  have e3 : V * q * (q' * D') = V * D' * (q * q') := by ac_rfl
  have e4 : V' * q' * (q * D) = V' * D * (q * q') := by ac_rfl
  rw [e3, e4, e]
theorem lowOk_same {V D V' D' : Int} (h : 1 ≤ D) (h' : 1 ≤ D') (e : V * D' = V' * D) : lowN V D = lowN V' D' ∧ lowD V D = lowD V' D' ∧ lowE V D = lowE V' D' := by
  obtain ⟨a, b⟩ := low_same h h' e
  have c : lowOk V D ↔ lowOk V' D' := by unfold lowOk; rw [a, b]
  unfold lowN lowD lowE
  by_cases k : lowOk V D
  · rw [if_pos k, if_pos k, if_pos k, if_pos (c.1 k), if_pos (c.1 k), if_pos (c.1 k)]; exact ⟨a, b, rfl⟩
  · have k' : ¬ lowOk V' D' := fun z => k (c.2 z)
    rw [if_neg k, if_neg k, if_neg k, if_neg k', if_neg k', if_neg k']; exact ⟨rfl, rfl, rfl⟩
/-- a fraction in lowest terms is its own. -/
theorem low_self {p q : Int} (h : Int.gcd p q = 1) : lowP p q = p ∧ lowQ p q = q := by
  have g : gcdI p q = 1 := by unfold gcdI; rw [h]; rfl
  unfold lowP lowQ
  rw [g, Int.ediv_one, Int.ediv_one]
  exact ⟨rfl, rfl⟩
theorem low_own {p q : Int} (h : MayR p q) (p1 : -9223372036854775808 ≤ p) (p2 : p ≤ 9223372036854775807) : lowN p q = p ∧ lowD p q = q ∧ lowE p q = 0 := by
  obtain ⟨a, b⟩ := low_self h.2.2.2.2
  have k : lowOk p q := by unfold lowOk; rw [a, b]; exact ⟨p1, p2, h⟩
  obtain ⟨x, y, z⟩ := low_yes k
  exact ⟨x.trans a, y.trans b, z⟩
theorem low_is {p q V D : Int} (h : MayR p q) (p1 : -9223372036854775808 ≤ p) (p2 : p ≤ 9223372036854775807) (hD : 1 ≤ D) (e : p * D = V * q) : lowN V D = p ∧ lowD V D = q ∧ lowE V D = 0 := by
  obtain ⟨x, y, z⟩ := low_own h p1 p2
  obtain ⟨a, b, c⟩ := lowOk_same hD h.1 e.symm
  exact ⟨a.trans x, b.trans y, c.trans z⟩
/-- what is answered without an error may be, and is the same number. -/
theorem low_ok {V D : Int} (hD : 1 ≤ D) (h : lowE V D = 0) : MayR (lowN V D) (lowD V D) ∧ lowN V D * D = V * lowD V D ∧ -9223372036854775808 ≤ lowN V D ∧ lowN V D ≤ 9223372036854775807 := by
  by_cases k : lowOk V D
  · obtain ⟨a, b, c⟩ := low_yes k
    obtain ⟨_, _, e, _⟩ := low_parts V D hD
    rw [a, b]
    exact ⟨k.2.2, e, k.1, k.2.1⟩
  · rw [(low_not k).2.2] at h
    exact absurd h (by omega)
theorem low_err {V D : Int} (h : ¬ lowE V D = 0) : lowN V D = 0 ∧ lowD V D = 0 ∧ lowE V D = 10 := by
  by_cases k : lowOk V D
  · exact absurd (low_yes k).2.2 h
  · exact low_not k
theorem low_cases (V D : Int) : lowE V D = 0 ∨ lowE V D = 10 := by
  by_cases k : lowOk V D
  · exact .inl (low_yes k).2.2
  · exact .inr (low_not k).2.2
/-- whole numbers. -/
theorem whole_may {n : Int} (h : May n) : MayR n 1 := by
  obtain ⟨a, b⟩ := h
  exact ⟨by omega, by omega, by omega, by omega, Int.gcd_one_right n⟩
theorem whole_not {n : Int} (h : ¬ May n) : ¬ MayR n 1 := fun k => h ⟨by have := k.2.2.1; omega, by have := k.2.2.2.1; omega⟩
theorem of_whole {n : Int} (h : May n) : ofN n 1 = n ∧ ofD n 1 = 1 ∧ ofE n 1 = 0 := by
  obtain ⟨a, b⟩ := id h
  have k := low_own (whole_may h) (by omega) (by omega)
  unfold ofN ofD ofE
  rw [if_neg (by omega), if_neg (by omega), if_neg (by omega)]
  exact k
theorem of_far {n : Int} (h : ¬ May n) : ofN n 1 = 0 ∧ ofD n 1 = 0 ∧ ofE n 1 = 10 := by
  have k : ¬ lowOk n 1 := by
    obtain ⟨a, b⟩ := low_self (p := n) (q := 1) (Int.gcd_one_right n)
    unfold lowOk
    rw [a, b]
    exact fun z => whole_not h z.2.2
  unfold ofN ofD ofE
  rw [if_neg (by omega), if_neg (by omega), if_neg (by omega)]
  exact low_not k
/-- the number below a fraction that may be may be. -/
theorem floor_may {p q : Int} (h : MayR p q) : May (p / q) := ((may_parts p q h.1 h.2.1).1 h).1
theorem whole_iff {p q : Int} (h : MayR p q) : p % q = 0 ↔ q = 1 := by
  constructor
  · intro e
    have g := h.2.2.2.2
    have k : gcdI q (p % q) = 1 := by rw [gcd_part]; unfold gcdI; rw [g]; rfl
    rw [e] at k
    unfold gcdI at k
    rw [Int.gcd_zero_right] at k
    have := h.1
    omega
  · rintro rfl
    exact Int.emod_one p
/-- what Of answers, by its error. -/
theorem of_ok {n d : Int} (h : ofE n d = 0) : 1 ≤ d ∧ ofN n d = lowN n d ∧ ofD n d = lowD n d ∧ lowE n d = 0 := by
  by_cases k : d < 1
  · unfold ofE at h; rw [if_pos k] at h; exact absurd h (by omega)
  · unfold ofE at h; rw [if_neg k] at h
    unfold ofN ofD; rw [if_neg k, if_neg k]
    exact ⟨by omega, rfl, rfl, h⟩
theorem of_err {n d : Int} (h : ¬ ofE n d = 0) : ofN n d = 0 ∧ ofD n d = 0 := by
  by_cases k : d < 1
  · unfold ofN ofD; rw [if_pos k, if_pos k]; exact ⟨rfl, rfl⟩
  · unfold ofE at h; rw [if_neg k] at h
    unfold ofN ofD; rw [if_neg k, if_neg k]
    exact ⟨(low_err h).1, (low_err h).2.1⟩
end Go.Proofs.Ytbmadhejdnkeeaa.rat
