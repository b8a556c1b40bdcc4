/-
  How fractions compare, under layer 3's laws; no program's run in this text; each theorem names its conditions.
-/
import Derived.Test.YtbmadhejdnkeeaaRatFrac
namespace Go.Proofs.Ytbmadhejdnkeeaa.rat
open rmath bound num
set_option linter.unusedVariables false

/-- -1, 0 or 1. -/
def cmp0 (x y : Int) : Int := if y < x then 1 else if x < y then -1 else 0
theorem cmpV_is {a b c d : Int} (h : Both a b c d) : cmpV a b c d = cmp0 (a * d) (c * b) ∧ cmpE a b c d = 0 := ⟨if_pos h, if_pos h⟩
theorem cmpV_not {a b c d : Int} (h : ¬ Both a b c d) : cmpV a b c d = 0 ∧ cmpE a b c d = 8 := ⟨if_neg h, if_neg h⟩
theorem cmp0_cases (x y : Int) : (y < x ∧ cmp0 x y = 1) ∨ (x < y ∧ cmp0 x y = -1) ∨ (x = y ∧ cmp0 x y = 0) := by
  unfold cmp0
  by_cases h : y < x
  · rw [if_pos h]; exact .inl ⟨h, rfl⟩
  · by_cases k : x < y
    · rw [if_neg h, if_pos k]; exact .inr (.inl ⟨k, rfl⟩)
    · rw [if_neg h, if_neg k]; exact .inr (.inr ⟨by omega, rfl⟩)
theorem cmp0_back (x y : Int) : cmp0 x y = -(cmp0 y x) := by
  rcases cmp0_cases x y with ⟨a, e⟩ | ⟨a, e⟩ | ⟨a, e⟩ <;> rcases cmp0_cases y x with ⟨b, f⟩ | ⟨b, f⟩ | ⟨b, f⟩ <;> rw [e, f] <;> omega
theorem pos_of_mul {k z : Int} (hk : 0 < k) (h : 0 < k * z) : 0 < z := Int.pos_of_mul_pos_right h hk
theorem cmp0_scale {k j x1 x2 y1 y2 : Int} (hk : 0 < k) (hj : 0 < j) (e : k * x1 - k * x2 = j * y1 - j * y2) : cmp0 x1 x2 = cmp0 y1 y2 := by
  rw [← Int.mul_sub, ← Int.mul_sub] at e
  have p : 0 < x1 - x2 ↔ 0 < y1 - y2 := by
    constructor
    · intro h
      have := Int.mul_pos hk h
      rw [e] at this
      exact Int.pos_of_mul_pos_right this hj
    · intro h
      have := Int.mul_pos hj h
      rw [← e] at this
      exact Int.pos_of_mul_pos_right this hk
  have q : 0 < x2 - x1 ↔ 0 < y2 - y1 := by
    have e' : k * (x2 - x1) = j * (y2 - y1) := by
      have : x2 - x1 = -(x1 - x2) := by omega
      rw [this, show y2 - y1 = -(y1 - y2) by omega, Int.mul_neg, Int.mul_neg, e]
    constructor
    · intro h
      have := Int.mul_pos hk h
      rw [e'] at this
      exact Int.pos_of_mul_pos_right this hj
    · intro h
      have := Int.mul_pos hj h
      rw [← e'] at this
      exact Int.pos_of_mul_pos_right this hk
  rcases cmp0_cases x1 x2 with ⟨a, r⟩ | ⟨a, r⟩ | ⟨a, r⟩ <;> rcases cmp0_cases y1 y2 with ⟨b, s⟩ | ⟨b, s⟩ | ⟨b, s⟩ <;> rw [r, s] <;> omega
theorem both_comm {a b c d : Int} : Both a b c d ↔ Both c d a b := ⟨fun h => ⟨h.2, h.1⟩, fun h => ⟨h.2, h.1⟩⟩
theorem part_comm (k a b c d : Int) : partN k c d a b = partN k a b c d ∧ partD k c d a b = partD k a b c d ∧ partE k c d a b = partE k a b c d := by
  have e1 : c * b + a * d = a * d + c * b := Int.add_comm _ _
  have e2 : d * b * k = b * d * k := by ac_rfl
  unfold partN partD partE
  by_cases h : Both a b c d
  · rw [if_pos h, if_pos h, if_pos h, if_pos (both_comm.1 h), if_pos (both_comm.1 h), if_pos (both_comm.1 h), e1, e2]; exact ⟨rfl, rfl, rfl⟩
  · have h' : ¬ Both c d a b := fun k => h (both_comm.1 k)
    rw [if_neg h, if_neg h, if_neg h, if_neg h', if_neg h', if_neg h']; exact ⟨rfl, rfl, rfl⟩
theorem dens_pos {a b c d k : Int} (h : Both a b c d) (hk : 1 ≤ k) : 1 ≤ b * d * k := by
  have x := Int.mul_le_mul_of_nonneg_right h.1.1 (show 0 ≤ d by have := h.2.1; omega)
  have y := Int.mul_le_mul_of_nonneg_right (show 1 ≤ b * d by have := h.2.1; omega) (show 0 ≤ k by omega)
  omega
/-- what Add and Mid answer without an error. -/
theorem part_good {k a b c d : Int} (hk : 1 ≤ k) (h : partE k a b c d = 0) :
    Both a b c d ∧ MayR (partN k a b c d) (partD k a b c d) ∧ partN k a b c d * (b * d * k) = (a * d + c * b) * partD k a b c d ∧ -9223372036854775808 ≤ partN k a b c d ∧ partN k a b c d ≤ 9223372036854775807 := by
  by_cases g : Both a b c d
  · unfold partE at h
    rw [if_pos g] at h
    obtain ⟨x, y, z1, z2⟩ := low_ok (dens_pos g hk) h
    unfold partN partD
    rw [if_pos g, if_pos g]
    exact ⟨g, x, y, z1, z2⟩
  · unfold partE at h
    rw [if_neg g] at h
    exact absurd h (by omega)
theorem part_wrong {k a b c d : Int} (h : ¬ partE k a b c d = 0) : partN k a b c d = 0 ∧ partD k a b c d = 0 := by
  by_cases g : Both a b c d
  · unfold partE at h
    rw [if_pos g] at h
    unfold partN partD
    rw [if_pos g, if_pos g]
    exact ⟨(low_err h).1, (low_err h).2.1⟩
  · unfold partN partD
    rw [if_neg g, if_neg g]
    exact ⟨rfl, rfl⟩
/-- the middle compares as the ends do. -/
theorem mid_left {a b c d M N : Int} (hd : 1 ≤ d) (hN : 1 ≤ N) (e : M * (b * d * 2) = (a * d + c * b) * N) : cmp0 (a * N) (M * b) = cmp0 (a * d) (c * b) := by
  refine cmp0_scale (k := 2 * d) (j := N) (by omega) (by omega) ?_
  have e1 : 2 * d * (M * b) = M * (b * d * 2) := by ac_rfl
  have e2 : 2 * d * (a * N) = a * d * N + a * d * N := by rw [show 2 * d * (a * N) = 2 * (a * d * N) by ac_rfl]; omega
  have e3 : N * (a * d) = a * d * N := Int.mul_comm _ _
  have e4 : N * (c * b) = c * b * N := Int.mul_comm _ _
  rw [e1, e, e2, Int.add_mul, e3, e4]
  omega
theorem mid_right {a b c d M N : Int} (hb : 1 ≤ b) (hN : 1 ≤ N) (e : M * (b * d * 2) = (a * d + c * b) * N) : cmp0 (M * d) (c * N) = cmp0 (a * d) (c * b) := by
  refine cmp0_scale (k := 2 * b) (j := N) (by omega) (by omega) ?_
  have e1 : 2 * b * (M * d) = M * (b * d * 2) := by ac_rfl
  have e2 : 2 * b * (c * N) = c * b * N + c * b * N := by rw [show 2 * b * (c * N) = 2 * (c * b * N) by ac_rfl]; omega
  have e3 : N * (a * d) = a * d * N := Int.mul_comm _ _
  have e4 : N * (c * b) = c * b * N := Int.mul_comm _ _
  rw [e1, e, e2, Int.add_mul, e3, e4]
  omega
/-- twice the middle is the sum. -/
theorem mid_twice {a b c d M N : Int} (h : Both a b c d) (m : MayR M N) (e : M * (b * d * 2) = (a * d + c * b) * N) :
    partN 1 M N M N = partN 1 a b c d ∧ partD 1 M N M N = partD 1 a b c d ∧ partE 1 M N M N = partE 1 a b c d := by
  have h' : Both M N M N := ⟨m, m⟩
  unfold partN partD partE
  rw [if_pos h, if_pos h, if_pos h, if_pos h', if_pos h', if_pos h']
  refine lowOk_same (dens_pos h' (by omega)) (dens_pos h (by omega)) ?_
  have e1 : (M * N + M * N) * (b * d * 1) = M * (b * d * 2) * N := by
    rw [Int.add_mul, Int.mul_one, show M * (b * d * 2) * N = 2 * (M * N * (b * d)) by ac_rfl]
    omega
  rw [e1, e, Int.mul_one]
  ac_rfl
end Go.Proofs.Ytbmadhejdnkeeaa.rat
