/-
  Times that keep two bounds keep their sum; the conditions: denominators above 0.
-/
import Derived.Test.YtlagnbbbokgdfaaRat7
namespace Go.Proofs.Ytlagnbbbokgdfaa.dbm
open num rat
open bound hiding up
set_option linter.unusedVariables false

theorem by_third (a b c d e f : Int) : f * (a * d - c * b) = d * (a * f - e * b) + b * (e * d - c * f) := by
  simp only [Int.mul_sub]
  have h1 : f * (a * d) = d * (a * f) := by ac_rfl
  have h2 : f * (c * b) = b * (c * f) := by ac_rfl
  have h3 : d * (e * b) = b * (e * d) := by ac_rfl
  omega
theorem by_third' (b d f m k : Int) : f * ((m + k) * (b * d)) = d * (m * (b * f)) + b * (k * (f * d)) := by
  simp only [Int.add_mul, Int.mul_add]
  have h1 : f * (m * (b * d)) = d * (m * (b * f)) := by ac_rfl
  have h2 : f * (k * (b * d)) = b * (k * (f * d)) := by ac_rfl
  omega
theorem le_third {a b c d e f m k : Int} (hb : 0 < b) (hd : 0 < d) (hf : 0 < f) (h1 : a * f - e * b ≤ m * (b * f)) (h2 : e * d - c * f ≤ k * (f * d)) : a * d - c * b ≤ (m + k) * (b * d) := by
  refine Int.le_of_mul_le_mul_left (a := f) ?_ hf
  rw [by_third, by_third']
  exact Int.add_le_add (Int.mul_le_mul_of_nonneg_left h1 (Int.le_of_lt hd)) (Int.mul_le_mul_of_nonneg_left h2 (Int.le_of_lt hb))
theorem lt_third {a b c d e f m k : Int} (hb : 0 < b) (hd : 0 < d) (hf : 0 < f) (h1 : a * f - e * b ≤ m * (b * f)) (h2 : e * d - c * f ≤ k * (f * d)) (h : a * f - e * b < m * (b * f) ∨ e * d - c * f < k * (f * d)) : a * d - c * b < (m + k) * (b * d) := by
  refine Int.lt_of_mul_lt_mul_left (a := f) ?_ (Int.le_of_lt hf)
  rw [by_third, by_third']
  rcases h with h | h
  · exact Int.add_lt_add_of_lt_of_le (Int.mul_lt_mul_of_pos_left h hd) (Int.mul_le_mul_of_nonneg_left h2 (Int.le_of_lt hb))
  · exact Int.add_lt_add_of_le_of_lt (Int.mul_le_mul_of_nonneg_left h1 (Int.le_of_lt hd)) (Int.mul_lt_mul_of_pos_left h hb)
theorem keptR_le {a b c d x : Int} (h : keptR a b c d x = true) : a * d - c * b ≤ x / 2 * (b * d) := by
  unfold keptR ltB at h
  by_cases s : bS x = true
  · rw [if_pos s] at h; have := of_decide_eq_true h; omega
  · rw [if_neg s] at h; simp at h; omega
theorem keptR_lt {a b c d x : Int} (s : bS x = true) : keptR a b c d x = true ↔ a * d - c * b < x / 2 * (b * d) := by
  unfold keptR ltB
  rw [if_pos s]
  simp
theorem keptR_ge {a b c d x : Int} (s : ¬ bS x = true) : keptR a b c d x = true ↔ a * d - c * b ≤ x / 2 * (b * d) := by
  unfold keptR ltB
  rw [if_neg s]
  simp
/-- a sum is kept by what keeps both. -/
theorem keptR_add {a b c d e f x y z : Int} (hb : 0 < b) (hd : 0 < d) (hf : 0 < f) (h1 : keptR a b e f x = true) (h2 : keptR e f c d y = true) (hz : z / 2 = x / 2 + y / 2) (hs : bS z = true → bS x = true ∨ bS y = true) : keptR a b c d z = true := by
  have l1 := keptR_le h1
  have l2 := keptR_le h2
  by_cases s : bS z = true
  · rw [keptR_lt s, hz]
    refine lt_third hb hd hf l1 l2 ?_
    rcases hs s with s1 | s1
    · exact .inl ((keptR_lt s1).1 h1)
    · exact .inr ((keptR_lt s1).1 h2)
  · rw [keptR_ge s, hz]
    exact le_third hb hd hf l1 l2
/-- a greater bound is kept by what keeps a lesser one. -/
theorem keptR_up {a b c d x y : Int} (hb : 0 < b) (hd : 0 < d) (h : keptR a b c d x = true) (hxy : x ≤ y) : keptR a b c d y = true := by
  have hp : 0 < b * d := Int.mul_pos hb hd
  have l := keptR_le h
  have hq : x / 2 * (b * d) ≤ y / 2 * (b * d) := Int.mul_le_mul_of_nonneg_right (by omega) (Int.le_of_lt hp)
  by_cases s : bS y = true
  · rw [keptR_lt s]
    by_cases s1 : bS x = true
    · have := (keptR_lt s1).1 h; omega
    · have hlt : x / 2 < y / 2 := by
        unfold bS at s s1
        simp at s s1
        omega
      have := Int.mul_lt_mul_of_pos_right hlt hp
      omega
  · rw [keptR_ge s]; omega
end Go.Proofs.Ytlagnbbbokgdfaa.dbm
