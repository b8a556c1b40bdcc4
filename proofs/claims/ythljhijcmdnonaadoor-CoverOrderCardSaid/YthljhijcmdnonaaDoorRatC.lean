/-
  Fractions in lowest terms and their order, and the document's own answers of layer 3; each theorem names its conditions.
-/
import Derived.Test.YthljhijcmdnonaaDoorRatB
import Derived.Test.YthljhijcmdnonaaDoorBase
namespace Go.Proofs.YthljhijcmdnonaaDoor.rat
open rmath bound num
set_option linter.unusedVariables false

theorem mul_right_cancel {a b c : Int} (hc : c ≠ 0) (h : a * c = b * c) : a = b := Int.eq_of_mul_eq_mul_right hc h
theorem low_parts (V D : Int) (h : 1 ≤ D) : lowP V D * gcdI V D = V ∧ lowQ V D * gcdI V D = D ∧ lowP V D * D = V * lowQ V D ∧ Int.gcd (lowP V D) (lowQ V D) = 1 := by
  have g := gcd_pos V D h
  have a : lowP V D * gcdI V D = V := Int.ediv_mul_cancel (Int.gcd_dvd_left V D)
  have b : lowQ V D * gcdI V D = D := Int.ediv_mul_cancel (Int.gcd_dvd_right V D)
  refine ⟨a, b, ?_, ?_⟩
  · generalize gcdI V D = G at *
    generalize lowP V D = P at *
    generalize lowQ V D = Q at *
    subst a b
    ac_rfl
  · have e := Int.gcd_ediv (a := V) (b := D) (c := gcdI V D) (Int.gcd_dvd_left V D) (Int.gcd_dvd_right V D)
    have n : (gcdI V D).natAbs = V.gcd D := rfl
    rw [n] at e
    refine e.trans (Nat.div_self ?_)
    unfold gcdI at g
    omega
theorem dvd_of_cross {p q p' q' : Int} (h : Int.gcd p q = 1) (e : p * q' = p' * q) : q ∣ q' := by
  have k : q.natAbs ∣ p.natAbs * q'.natAbs := by
    rw [← Int.natAbs_mul, e, Int.natAbs_mul]
    exact Nat.dvd_mul_left _ _
  have c : Nat.Coprime q.natAbs p.natAbs := by
    have : Nat.gcd p.natAbs q.natAbs = 1 := h
    rw [Nat.Coprime, Nat.gcd_comm]
    exact this
  exact Int.natAbs_dvd_natAbs.1 (c.dvd_of_dvd_mul_left k)
theorem low_unique {p q p' q' : Int} (h : Int.gcd p q = 1) (h' : Int.gcd p' q' = 1) (q1 : 1 ≤ q) (q1' : 1 ≤ q') (e : p * q' = p' * q) : p = p' ∧ q = q' := by
  have a := Int.le_of_dvd (by omega) (dvd_of_cross h e)
  have b := Int.le_of_dvd (by omega) (dvd_of_cross h' e.symm)
  have c : q = q' := by omega
  subst c
  exact ⟨mul_right_cancel (by omega) e, rfl⟩
theorem low_same {V D V' D' : Int} (h : 1 ≤ D) (h' : 1 ≤ D') (e : V * D' = V' * D) : lowP V D = lowP V' D' ∧ lowQ V D = lowQ V' D' := by
  obtain ⟨a1, a2, a3, a4⟩ := low_parts V D h
  obtain ⟨b1, b2, b3, b4⟩ := low_parts V' D' h'
  have c1 := (lowQ_in V D h).1
  have c2 := (lowQ_in V' D' h').1
  refine low_unique a4 b4 c1 c2 ?_
  clear a1 a2 b1 b2 a4 b4
  generalize lowP V D = p at *
  generalize lowQ V D = q at *
  generalize lowP V' D' = p' at *
  generalize lowQ V' D' = q' at *
  have z : D * D' ≠ 0 := Int.mul_ne_zero (by omega) (by omega)
  refine mul_right_cancel z ?_
  have e1 : p * q' * (D * D') = p * D * (q' * D') := by ac_rfl
  have e2 : p' * q * (D * D') = p' * D' * (q * D) := by ac_rfl
  rw [e1, e2, a3, b3]
  have e3 : V * q * (q' * D') = V * D' * (q * q') := by ac_rfl
  have e4 : V' * q' * (q * D) = V' * D * (q * q') := by ac_rfl
  rw [e3, e4, e]
theorem lowOk_same {V D V' D' : Int} (h : 1 ≤ D) (h' : 1 ≤ D') (e : V * D' = V' * D) : lowN V D = lowN V' D' ∧ lowD V D = lowD V' D' ∧ lowE V D = lowE V' D' := by
  obtain ⟨a, b⟩ := low_same h h' e
  have c : lowOk V D ↔ lowOk V' D' := by unfold lowOk; rw [a, b]
  unfold lowN lowD lowE
  by_cases k : lowOk V D
  · rw [if_pos k, if_pos k, if_pos k, if_pos (c.1 k), if_pos (c.1 k), if_pos (c.1 k)]; exact ⟨a, b, rfl⟩
  · have k' : ¬ lowOk V' D' := fun z => k (c.2 z)
    rw [if_neg k, if_neg k, if_neg k, if_neg k', if_neg k', if_neg k']; exact ⟨rfl, rfl, rfl⟩
/-- a fraction in lowest terms is its own. -/
theorem low_self {p q : Int} (h : Int.gcd p q = 1) : lowP p q = p ∧ lowQ p q = q := by
  have g : gcdI p q = 1 := by unfold gcdI; rw [h]; rfl
  unfold lowP lowQ
  rw [g, Int.ediv_one, Int.ediv_one]
  exact ⟨rfl, rfl⟩
theorem low_own {p q : Int} (h : MayR p q) (p1 : -9223372036854775808 ≤ p) (p2 : p ≤ 9223372036854775807) : lowN p q = p ∧ lowD p q = q ∧ lowE p q = 0 := by
  obtain ⟨a, b⟩ := low_self h.2.2.2.2
  have k : lowOk p q := by unfold lowOk; rw [a, b]; exact ⟨p1, p2, h⟩
  obtain ⟨x, y, z⟩ := low_yes k
  exact ⟨x.trans a, y.trans b, z⟩
theorem low_is {p q V D : Int} (h : MayR p q) (p1 : -9223372036854775808 ≤ p) (p2 : p ≤ 9223372036854775807) (hD : 1 ≤ D) (e : p * D = V * q) : lowN V D = p ∧ lowD V D = q ∧ lowE V D = 0 := by
  obtain ⟨x, y, z⟩ := low_own h p1 p2
  obtain ⟨a, b, c⟩ := lowOk_same hD h.1 e.symm
  exact ⟨a.trans x, b.trans y, c.trans z⟩
/-- what is answered without an error may be, and is the same number. -/
theorem low_ok {V D : Int} (hD : 1 ≤ D) (h : lowE V D = 0) : MayR (lowN V D) (lowD V D) ∧ lowN V D * D = V * lowD V D ∧ -9223372036854775808 ≤ lowN V D ∧ lowN V D ≤ 9223372036854775807 := by
  by_cases k : lowOk V D
  · obtain ⟨a, b, c⟩ := low_yes k
    obtain ⟨_, _, e, _⟩ := low_parts V D hD
    rw [a, b]
    exact ⟨k.2.2, e, k.1, k.2.1⟩
  · rw [(low_not k).2.2] at h
    exact absurd h (by omega)
theorem low_err {V D : Int} (h : ¬ lowE V D = 0) : lowN V D = 0 ∧ lowD V D = 0 ∧ lowE V D = 10 := by
  by_cases k : lowOk V D
  · exact absurd (low_yes k).2.2 h
  · exact low_not k
theorem low_cases (V D : Int) : lowE V D = 0 ∨ lowE V D = 10 := by
  by_cases k : lowOk V D
  · exact .inl (low_yes k).2.2
  · exact .inr (low_not k).2.2
/-- whole numbers. -/
theorem whole_may {n : Int} (h : May n) : MayR n 1 := by
  obtain ⟨a, b⟩ := h
  exact ⟨by omega, by omega, by omega, by omega, Int.gcd_one_right n⟩
theorem whole_not {n : Int} (h : ¬ May n) : ¬ MayR n 1 := fun k => h ⟨by have := k.2.2.1; omega, by have := k.2.2.2.1; omega⟩
theorem of_whole {n : Int} (h : May n) : ofN n 1 = n ∧ ofD n 1 = 1 ∧ ofE n 1 = 0 := by
  obtain ⟨a, b⟩ := id h
  have k := low_own (whole_may h) (by omega) (by omega)
  unfold ofN ofD ofE
  rw [if_neg (by omega), if_neg (by omega), if_neg (by omega)]
  exact k
theorem of_far {n : Int} (h : ¬ May n) : ofN n 1 = 0 ∧ ofD n 1 = 0 ∧ ofE n 1 = 10 := by
  have k : ¬ lowOk n 1 := by
    obtain ⟨a, b⟩ := low_self (p := n) (q := 1) (Int.gcd_one_right n)
    unfold lowOk
    rw [a, b]
    exact fun z => whole_not h z.2.2
  unfold ofN ofD ofE
  rw [if_neg (by omega), if_neg (by omega), if_neg (by omega)]
  exact low_not k
/-- the number below a fraction that may be may be. -/
theorem floor_may {p q : Int} (h : MayR p q) : May (p / q) := ((may_parts p q h.1 h.2.1).1 h).1
theorem whole_iff {p q : Int} (h : MayR p q) : p % q = 0 ↔ q = 1 := by
  constructor
  · intro e
    have g := h.2.2.2.2
    have k : gcdI q (p % q) = 1 := by rw [gcd_part]; unfold gcdI; rw [g]; rfl
    rw [e] at k
    unfold gcdI at k
    rw [Int.gcd_zero_right] at k
    have := h.1
    omega
  · rintro rfl
    exact Int.emod_one p
/-- what Of answers, by its error. -/
theorem of_ok {n d : Int} (h : ofE n d = 0) : 1 ≤ d ∧ ofN n d = lowN n d ∧ ofD n d = lowD n d ∧ lowE n d = 0 := by
  by_cases k : d < 1
  · unfold ofE at h; rw [if_pos k] at h; exact absurd h (by omega)
  · unfold ofE at h; rw [if_neg k] at h
    unfold ofN ofD; rw [if_neg k, if_neg k]
    exact ⟨by omega, rfl, rfl, h⟩
theorem of_err {n d : Int} (h : ¬ ofE n d = 0) : ofN n d = 0 ∧ ofD n d = 0 := by
  by_cases k : d < 1
  · unfold ofN ofD; rw [if_pos k, if_pos k]; exact ⟨rfl, rfl⟩
  · unfold ofE at h; rw [if_neg k] at h
    unfold ofN ofD; rw [if_neg k, if_neg k]
    exact ⟨(low_err h).1, (low_err h).2.1⟩
end Go.Proofs.YthljhijcmdnonaaDoor.rat

namespace Go.Proofs.YthljhijcmdnonaaDoor.rat
open rmath bound num
set_option linter.unusedVariables false

/-- -1, 0 or 1. -/
def cmp0 (x y : Int) : Int := if y < x then 1 else if x < y then -1 else 0
theorem cmpV_is {a b c d : Int} (h : Both a b c d) : cmpV a b c d = cmp0 (a * d) (c * b) ∧ cmpE a b c d = 0 := ⟨if_pos h, if_pos h⟩
theorem cmpV_not {a b c d : Int} (h : ¬ Both a b c d) : cmpV a b c d = 0 ∧ cmpE a b c d = 8 := ⟨if_neg h, if_neg h⟩
theorem cmp0_cases (x y : Int) : (y < x ∧ cmp0 x y = 1) ∨ (x < y ∧ cmp0 x y = -1) ∨ (x = y ∧ cmp0 x y = 0) := by
  unfold cmp0
  by_cases h : y < x
  · rw [if_pos h]; exact .inl ⟨h, rfl⟩
  · by_cases k : x < y
    · rw [if_neg h, if_pos k]; exact .inr (.inl ⟨k, rfl⟩)
    · rw [if_neg h, if_neg k]; exact .inr (.inr ⟨by omega, rfl⟩)
theorem cmp0_back (x y : Int) : cmp0 x y = -(cmp0 y x) := by
  rcases cmp0_cases x y with ⟨a, e⟩ | ⟨a, e⟩ | ⟨a, e⟩ <;> rcases cmp0_cases y x with ⟨b, f⟩ | ⟨b, f⟩ | ⟨b, f⟩ <;> rw [e, f] <;> omega
theorem pos_of_mul {k z : Int} (hk : 0 < k) (h : 0 < k * z) : 0 < z := Int.pos_of_mul_pos_right h hk
theorem cmp0_scale {k j x1 x2 y1 y2 : Int} (hk : 0 < k) (hj : 0 < j) (e : k * x1 - k * x2 = j * y1 - j * y2) : cmp0 x1 x2 = cmp0 y1 y2 := by
  rw [← Int.mul_sub, ← Int.mul_sub] at e
  have p : 0 < x1 - x2 ↔ 0 < y1 - y2 := by
    constructor
    · intro h
      have := Int.mul_pos hk h
      rw [e] at this
      exact Int.pos_of_mul_pos_right this hj
    · intro h
      have := Int.mul_pos hj h
      rw [← e] at this
      exact Int.pos_of_mul_pos_right this hk
  have q : 0 < x2 - x1 ↔ 0 < y2 - y1 := by
    have e' : k * (x2 - x1) = j * (y2 - y1) := by
      have : x2 - x1 = -(x1 - x2) := by omega
      rw [this, show y2 - y1 = -(y1 - y2) by omega, Int.mul_neg, Int.mul_neg, e]
    constructor
    · intro h
      have := Int.mul_pos hk h
      rw [e'] at this
      exact Int.pos_of_mul_pos_right this hj
    · intro h
      have := Int.mul_pos hj h
      rw [← e'] at this
      exact Int.pos_of_mul_pos_right this hk
  rcases cmp0_cases x1 x2 with ⟨a, r⟩ | ⟨a, r⟩ | ⟨a, r⟩ <;> rcases cmp0_cases y1 y2 with ⟨b, s⟩ | ⟨b, s⟩ | ⟨b, s⟩ <;> rw [r, s] <;> omega
theorem both_comm {a b c d : Int} : Both a b c d ↔ Both c d a b := ⟨fun h => ⟨h.2, h.1⟩, fun h => ⟨h.2, h.1⟩⟩
theorem part_comm (k a b c d : Int) : partN k c d a b = partN k a b c d ∧ partD k c d a b = partD k a b c d ∧ partE k c d a b = partE k a b c d := by
  have e1 : c * b + a * d = a * d + c * b := Int.add_comm _ _
  have e2 : d * b * k = b * d * k := by ac_rfl
  unfold partN partD partE
  by_cases h : Both a b c d
  · rw [if_pos h, if_pos h, if_pos h, if_pos (both_comm.1 h), if_pos (both_comm.1 h), if_pos (both_comm.1 h), e1, e2]; exact ⟨rfl, rfl, rfl⟩
  · have h' : ¬ Both c d a b := fun k => h (both_comm.1 k)
    rw [if_neg h, if_neg h, if_neg h, if_neg h', if_neg h', if_neg h']; exact ⟨rfl, rfl, rfl⟩
theorem dens_pos {a b c d k : Int} (h : Both a b c d) (hk : 1 ≤ k) : 1 ≤ b * d * k := by
  have x := Int.mul_le_mul_of_nonneg_right h.1.1 (show 0 ≤ d by have := h.2.1; omega)
  have y := Int.mul_le_mul_of_nonneg_right (show 1 ≤ b * d by have := h.2.1; omega) (show 0 ≤ k by omega)
  omega
/-- what Add and Mid answer without an error. -/
theorem part_good {k a b c d : Int} (hk : 1 ≤ k) (h : partE k a b c d = 0) :
    Both a b c d ∧ MayR (partN k a b c d) (partD k a b c d) ∧ partN k a b c d * (b * d * k) = (a * d + c * b) * partD k a b c d ∧ -9223372036854775808 ≤ partN k a b c d ∧ partN k a b c d ≤ 9223372036854775807 := by
  by_cases g : Both a b c d
  · unfold partE at h
    rw [if_pos g] at h
    obtain ⟨x, y, z1, z2⟩ := low_ok (dens_pos g hk) h
    unfold partN partD
    rw [if_pos g, if_pos g]
    exact ⟨g, x, y, z1, z2⟩
  · unfold partE at h
    rw [if_neg g] at h
    exact absurd h (by omega)
theorem part_wrong {k a b c d : Int} (h : ¬ partE k a b c d = 0) : partN k a b c d = 0 ∧ partD k a b c d = 0 := by
  by_cases g : Both a b c d
  · unfold partE at h
    rw [if_pos g] at h
    unfold partN partD
    rw [if_pos g, if_pos g]
    exact ⟨(low_err h).1, (low_err h).2.1⟩
  · unfold partN partD
    rw [if_neg g, if_neg g]
    exact ⟨rfl, rfl⟩
/-- the middle compares as the ends do. -/
theorem mid_left {a b c d M N : Int} (hd : 1 ≤ d) (hN : 1 ≤ N) (e : M * (b * d * 2) = (a * d + c * b) * N) : cmp0 (a * N) (M * b) = cmp0 (a * d) (c * b) := by
  refine cmp0_scale (k := 2 * d) (j := N) (by omega) (by omega) ?_
  have e1 : 2 * d * (M * b) = M * (b * d * 2) := by ac_rfl
  have e2 : 2 * d * (a * N) = a * d * N + a * d * N := by rw [show 2 * d * (a * N) = 2 * (a * d * N) by ac_rfl]; omega
  have e3 : N * (a * d) = a * d * N := Int.mul_comm _ _
  have e4 : N * (c * b) = c * b * N := Int.mul_comm _ _
  rw [e1, e, e2, Int.add_mul, e3, e4]
  omega
theorem mid_right {a b c d M N : Int} (hb : 1 ≤ b) (hN : 1 ≤ N) (e : M * (b * d * 2) = (a * d + c * b) * N) : cmp0 (M * d) (c * N) = cmp0 (a * d) (c * b) := by
  refine cmp0_scale (k := 2 * b) (j := N) (by omega) (by omega) ?_
  have e1 : 2 * b * (M * d) = M * (b * d * 2) := by ac_rfl
  have e2 : 2 * b * (c * N) = c * b * N + c * b * N := by rw [show 2 * b * (c * N) = 2 * (c * b * N) by ac_rfl]; omega
  have e3 : N * (a * d) = a * d * N := Int.mul_comm _ _
  have e4 : N * (c * b) = c * b * N := Int.mul_comm _ _
  rw [e1, e, e2, Int.add_mul, e3, e4]
  omega
/-- twice the middle is the sum. -/
theorem mid_twice {a b c d M N : Int} (h : Both a b c d) (m : MayR M N) (e : M * (b * d * 2) = (a * d + c * b) * N) :
    partN 1 M N M N = partN 1 a b c d ∧ partD 1 M N M N = partD 1 a b c d ∧ partE 1 M N M N = partE 1 a b c d := by
  have h' : Both M N M N := ⟨m, m⟩
  unfold partN partD partE
  rw [if_pos h, if_pos h, if_pos h, if_pos h', if_pos h', if_pos h']
  refine lowOk_same (dens_pos h' (by omega)) (dens_pos h (by omega)) ?_
  have e1 : (M * N + M * N) * (b * d * 1) = M * (b * d * 2) * N := by
    rw [Int.add_mul, Int.mul_one, show M * (b * d * 2) * N = 2 * (M * N * (b * d)) by ac_rfl]
    omega
  rw [e1, e, Int.mul_one]
  ac_rfl
end Go.Proofs.YthljhijcmdnonaaDoor.rat

namespace Go.Proofs.YthljhijcmdnonaaDoor.rref
open Go.ChangeShapes Go.WideShapes Go.ChangeAt Go.RowKit rmath bound num rat
set_option linter.unusedVariables false

/-- a fraction may be. -/
def mayB (n d : Int) : Bool := decide (MayR n d)
theorem mayB_yes {n d : Int} (h : MayR n d) : mayB n d = true := decide_eq_true h
theorem mayB_no {n d : Int} (h : ¬ MayR n d) : mayB n d = false := decide_eq_false h
end Go.Proofs.YthljhijcmdnonaaDoor.rref

namespace Go.Proofs.YthljhijcmdnonaaDoor.rref
open Go.ChangeShapes Go.WideShapes Go.ChangeAt Go.RowKit rmath bound num rat
set_option linter.unusedVariables false

theorem part_mul {a b d : Int} (b1 : 1 ≤ b) (b2 : b ≤ 1048576) (d1 : 1 ≤ d) (d2 : d ≤ 1048576) : 0 ≤ a % b * d ∧ a % b * d < b * d ∧ a % b * d ≤ 1099511627776 := by
  obtain ⟨_, p, q⟩ := div_mul a b b1
  have x := Int.mul_nonneg p (show 0 ≤ d by omega)
  have y := Int.mul_lt_mul_of_pos_right q (show 0 < d by omega)
  obtain ⟨_, z⟩ := dens_in b1 b2 d1 d2
  omega
/-- how the whole numbers below and what is left over compare. -/
theorem cross (a b c d : Int) (b1 : 1 ≤ b) (d1 : 1 ≤ d) : a * d - c * b = (a / b - c / d) * (b * d) + (a % b * d - c % d * b) := by
  obtain ⟨x, _, _⟩ := div_mul a b b1
  obtain ⟨y, _, _⟩ := div_mul c d d1
  have e1 : a * d = a / b * b * d + a % b * d := by rw [← Int.add_mul, x]
  have e2 : c * b = c / d * d * b + c % d * b := by rw [← Int.add_mul, y]
  have e3 : (a / b - c / d) * (b * d) = a / b * b * d - c / d * d * b := by rw [Int.sub_mul]; congr 1 <;> ac_rfl
  rw [e1, e2, e3]
  omega
theorem cross_lt {a b c d : Int} (b1 : 1 ≤ b) (b2 : b ≤ 1048576) (d1 : 1 ≤ d) (d2 : d ≤ 1048576) (k : Int) (h : a / b - c / d < k) : a * d - c * b < k * (b * d) := by
  have e := cross a b c d b1 d1
  obtain ⟨p1, p2, p3⟩ := part_mul (a := a) b1 b2 d1 d2
  obtain ⟨q1, q2, q3⟩ := part_mul (a := c) d1 d2 b1 b2
  have m := Int.mul_le_mul_of_nonneg_right (show a / b - c / d ≤ k - 1 by omega) (show 0 ≤ b * d by omega)
  rw [Int.sub_mul k 1, Int.one_mul] at m
  omega
theorem cross_gt {a b c d : Int} (b1 : 1 ≤ b) (b2 : b ≤ 1048576) (d1 : 1 ≤ d) (d2 : d ≤ 1048576) (k : Int) (h : k < a / b - c / d) : k * (b * d) < a * d - c * b := by
  have e := cross a b c d b1 d1
  obtain ⟨p1, p2, p3⟩ := part_mul (a := a) b1 b2 d1 d2
  obtain ⟨q1, q2, q3⟩ := part_mul (a := c) d1 d2 b1 b2
  have m := Int.mul_le_mul_of_nonneg_right (show k + 1 ≤ a / b - c / d by omega) (show 0 ≤ b * d by omega)
  rw [Int.add_mul k 1, Int.one_mul] at m
  have z : c % d * b < b * d := by rw [Int.mul_comm b d]; exact q2
  omega

end Go.Proofs.YthljhijcmdnonaaDoor.rref

namespace Go.Proofs.YthljhijcmdnonaaDoor.rref
open Go.ChangeShapes Go.WideShapes Go.ChangeAt Go.RowKit rmath bound num rat
set_option linter.unusedVariables false

end Go.Proofs.YthljhijcmdnonaaDoor.rref

namespace Go.Proofs.YthljhijcmdnonaaDoor.rref
open Go.ChangeShapes Go.WideShapes Go.ChangeAt Go.RowKit rmath bound num rat
set_option linter.unusedVariables false

end Go.Proofs.YthljhijcmdnonaaDoor.rref

namespace Go.Proofs.YthljhijcmdnonaaDoor.rref
open Go.ChangeShapes Go.WideShapes Go.ChangeAt Go.RowKit rmath bound num rat
set_option linter.unusedVariables false

end Go.Proofs.YthljhijcmdnonaaDoor.rref

namespace Go.Proofs.YthljhijcmdnonaaDoor.rref
open Go.ChangeShapes Go.WideShapes Go.ChangeAt Go.RowKit rmath bound num rat
set_option linter.unusedVariables false

theorem made_math (n p y : Int) (p0 : 0 ≤ p) (p1 : p < y) (y1 : 1 ≤ y) :
    gcdI p y = gcdI (n * y + p) y ∧ p / gcdI (n * y + p) y * gcdI (n * y + p) y = p ∧ lowP (n * y + p) y = n * lowQ (n * y + p) y + p / gcdI (n * y + p) y ∧ 0 ≤ p / gcdI (n * y + p) y ∧ p / gcdI (n * y + p) y < lowQ (n * y + p) y := by
  have e : (n * y + p) % y = p := by
    rw [Int.add_comm, Int.add_mul_emod_self_right]
    exact Int.emod_eq_of_lt p0 p1
  have g : gcdI p y = gcdI (n * y + p) y := by
    have k := gcd_part (n * y + p) y
    rw [e] at k
    rw [← k]
    unfold gcdI
    rw [Int.gcd_comm]
  have g1 := gcd_pos (n * y + p) y y1
  obtain ⟨a, b, _, _⟩ := low_parts (n * y + p) y y1
  have d : p / gcdI (n * y + p) y * gcdI (n * y + p) y = p := by
    rw [← g]
    exact Int.ediv_mul_cancel (Int.gcd_dvd_left p y)
  refine ⟨g, d, ?_, Int.ediv_nonneg p0 (by omega), ?_⟩
  · generalize gcdI (n * y + p) y = G at *
    generalize lowQ (n * y + p) y = Q at *
    generalize p / G = pa at *
    refine mul_right_cancel (c := G) (by omega) ?_
    rw [a, Int.add_mul, d, Int.mul_assoc, b]
  · generalize gcdI (n * y + p) y = G at *
    generalize lowQ (n * y + p) y = Q at *
    generalize p / G = pa at *
    exact Int.lt_of_mul_lt_mul_right (show pa * G < Q * G by omega) (by omega)
theorem tdiv_le_of (X Q k : Int) (hQ : 1 ≤ Q) (hX : X < 0) : (X ≤ k * Q → X.tdiv Q ≤ k) ∧ (k * Q < X → k < X.tdiv Q) := by
  obtain ⟨e, r0, r1⟩ := div_mul X Q hQ
  have le := le_div X Q k hQ
  rcases tdiv_cases X Q hQ hX with ⟨c1, c2, _⟩ | ⟨c1, c2, _⟩
  · rw [c2]
    constructor
    · intro h
      refine Int.le_of_mul_le_mul_right (show X / Q * Q ≤ k * Q by omega) (by omega)
    · intro h
      exact Int.lt_of_mul_lt_mul_right (show k * Q < X / Q * Q by omega) (by omega)
  · rw [c2]
    constructor
    · intro h
      have := Int.lt_of_mul_lt_mul_right (show X / Q * Q < k * Q by omega) (show 0 ≤ Q by omega)
      omega
    · intro h
      have := le.2 (by omega)
      omega
theorem tdiv_in (X Q : Int) (hQ : 1 ≤ Q) (hX : X < 0) (h1 : -9223372036854775808 ≤ X) : -9223372036854775808 ≤ X.tdiv Q ∧ X.tdiv Q ≤ 0 := by
  obtain ⟨d0, d1⟩ := ediv_in X Q hQ h1 (by omega)
  have d2 := Int.ediv_neg_of_neg_of_pos hX (show 0 < Q by omega)
  rcases tdiv_cases X Q hQ hX with ⟨c1, c2, _⟩ | ⟨c1, c2, _⟩ <;> rw [c2] <;> omega

/-- what Made answers: the fraction, and that it may be; or some, and that it may not. -/
def MadeP (V y : Int) (w : World) (e : Ending) (w' : World) : Prop :=
  ∃ (z1 z2 : Int) (r : Bool), e = .returned (.tuple #[.agg #[.int .i64 (z1), .int .i64 (z2)], .bool r]) ∧ ((lowOk V y ∧ r = true ∧ z1 = lowP V y ∧ z2 = lowQ V y) ∨ (¬ lowOk V y ∧ r = false)) ∧ Below w.heap.size w w'
theorem MadeP.no {V y z1 z2 : Int} {w w' : World} {e : Ending} (h : ¬ lowOk V y) (k : e = .returned (.tuple #[.agg #[.int .i64 (z1), .int .i64 (z2)], .bool false]) ∧ Below w.heap.size w w') : MadeP V y w e w' := ⟨z1, z2, false, k.1, .inr ⟨h, rfl⟩, k.2⟩

end Go.Proofs.YthljhijcmdnonaaDoor.rref

namespace Go.Proofs.YthljhijcmdnonaaDoor.rref
open Go.ChangeShapes Go.WideShapes Go.ChangeAt Go.RowKit rmath bound num rat
set_option linter.unusedVariables false

end Go.Proofs.YthljhijcmdnonaaDoor.rref

namespace Go.Proofs.YthljhijcmdnonaaDoor.rref
open Go.ChangeShapes Go.WideShapes Go.ChangeAt Go.RowKit rmath bound num rat
set_option linter.unusedVariables false

end Go.Proofs.YthljhijcmdnonaaDoor.rref

namespace Go.Proofs.YthljhijcmdnonaaDoor.rref
open Go.ChangeShapes Go.WideShapes Go.ChangeAt Go.RowKit rmath bound num rat
set_option linter.unusedVariables false

theorem sum_parts (a b c d : Int) (b1 : 1 ≤ b) (d1 : 1 ≤ d) : (a / b + c / d) * (b * d) + (a % b * d + c % d * b) = a * d + c * b := by
  obtain ⟨x, _, _⟩ := div_mul a b b1
  obtain ⟨y, _, _⟩ := div_mul c d d1
  have e1 : a * d = a / b * b * d + a % b * d := by rw [← Int.add_mul, x]
  have e2 : c * b = c / d * d * b + c % d * b := by rw [← Int.add_mul, y]
  have e3 : (a / b + c / d) * (b * d) = a / b * b * d + c / d * d * b := by rw [Int.add_mul]; congr 1 <;> ac_rfl
  rw [e1, e2, e3]
  omega
/-- what is answered of a number told otherwise. -/
theorem low_told {V D V' D' : Int} (e : V = V') (f : D = D') : (lowOk V D ∧ lowN V' D' = lowP V D ∧ lowD V' D' = lowQ V D ∧ lowE V' D' = 0) ∨ (¬ lowOk V D ∧ lowN V' D' = 0 ∧ lowD V' D' = 0 ∧ lowE V' D' = 10) := by
  subst e f
  by_cases k : lowOk V D
  · exact .inl ⟨k, low_yes k⟩
  · exact .inr ⟨k, low_not k⟩

end Go.Proofs.YthljhijcmdnonaaDoor.rref
