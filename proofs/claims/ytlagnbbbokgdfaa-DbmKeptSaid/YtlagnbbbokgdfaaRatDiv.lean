/-
  What math/bits' Div64 answers: two words by one of at most 63 bits; the condition: the word above is below the divisor.
-/
import Derived.Test.YtlagnbbbokgdfaaRatMath
import Derived.Test.YtlagnbbbokgdfaaShelf
import Derived.Test.YtlagnbbbokgdfaaBound
import Derived.Laws.Bits64b
import Derived.Lib.BitFns
import Derived.Deep.DeepCutAuto
import Derived.Deep.CutBlock
namespace Go.Proofs.Ytlagnbbbokgdfaa.rat
open Go.ChangeShapes Go.WideShapes Go.ChangeAt Go.RowKit rmath bound
set_option linter.unusedVariables false

theorem bitLen_spec : ∀ x : Nat, 0 < x → x < 2 ^ 64 → ∃ k, Lib.bitLen x = k + 1 ∧ 2 ^ k ≤ x ∧ x < 2 ^ (k + 1) := by
  intro x
  induction x using Nat.strongRecOn with
  | ind x ih =>
    intro h0 h1
    by_cases hx : x = 1
    · subst hx; exact ⟨0, by decide, by decide, by decide⟩
    · obtain ⟨k, hk, ha, hb⟩ := ih (x / 2) (by omega) (by omega) (by omega)
      refine ⟨k + 1, ?_, ?_, ?_⟩
      · rw [Lib.bitLen_half x (by omega) h1, hk]; omega
      · rw [Nat.pow_succ]; omega
      · rw [Nat.pow_succ]; omega

theorem shift_facts (h l y : Int) (hl : 0 ≤ l) (hl' : l ≤ 18446744073709551615) (hy' : y ≤ 9223372036854775807) (h0 : 1 ≤ h) (hhy : h < y) :
    ∃ (s : Nat) (Y U L : Int), 1 ≤ s ∧ s ≤ 63 ∧ 64 - (Lib.bitLen y.toNat : Int) = s ∧ IntKind.u64.wrap (y * 2 ^ s) = Y ∧ Y = y * 2 ^ s ∧ 9223372036854775808 ≤ Y ∧ Y ≤ 18446744073709551615 ∧
      bits .or .u64 (IntKind.u64.wrap (h * 2 ^ s)) (l / 2 ^ (64 - s)) = U ∧ 0 ≤ U ∧ U < Y ∧ IntKind.u64.wrap (l * 2 ^ s) = L ∧ 0 ≤ L ∧ L ≤ 18446744073709551615 ∧
      U * 18446744073709551616 + L = (h * 18446744073709551616 + l) * 2 ^ s := by
  obtain ⟨a, rfl⟩ := Int.eq_ofNat_of_zero_le (show 0 ≤ h by omega)
  obtain ⟨b, rfl⟩ := Int.eq_ofNat_of_zero_le hl
  obtain ⟨c, rfl⟩ := Int.eq_ofNat_of_zero_le (show 0 ≤ y by omega)
  obtain ⟨k, hk, hk1, hk2⟩ := bitLen_spec c (by omega) (by omega)
  have hk62 : k < 63 := by
    refine Decidable.byContradiction fun hn => ?_
    have := Nat.pow_le_pow_right (n := 2) (by omega) (show 63 ≤ k by omega)
    omega
  have e1 : 2 ^ k * 2 ^ (63 - k) = 2 ^ 63 := by rw [← Nat.pow_add]; congr 1; omega
  have e2 : 2 ^ (k + 1) * 2 ^ (63 - k) = 2 ^ 64 := by rw [← Nat.pow_add]; congr 1; omega
  have e3 : 2 ^ (64 - (63 - k)) * 2 ^ (63 - k) = 2 ^ 64 := by rw [← Nat.pow_add]; congr 1; omega
  have sp : 0 < 2 ^ (63 - k) := Nat.two_pow_pos _
  have f1 : 2 ^ 63 ≤ c * 2 ^ (63 - k) := by rw [← e1]; exact Nat.mul_le_mul_right _ hk1
  have f2 : c * 2 ^ (63 - k) < 2 ^ 64 := by rw [← e2]; exact Nat.mul_lt_mul_of_pos_right hk2 sp
  have f3 : a * 2 ^ (63 - k) + 2 ^ (63 - k) ≤ c * 2 ^ (63 - k) := by rw [← Nat.succ_mul]; exact Nat.mul_le_mul_right _ (by omega)
  have f4 : b / 2 ^ (64 - (63 - k)) < 2 ^ (63 - k) := by
    rw [Nat.div_lt_iff_lt_mul (Nat.two_pow_pos _), Nat.mul_comm, e3]; omega
  have hc : ∀ n : Nat, n < 18446744073709551616 → IntKind.u64.wrap (n : Int) = (n : Int) := fun n hn => by rw [IntKind.wrap_u64]; omega
  have hp : ∀ n : Nat, (n : Int) * 2 ^ (63 - k) = ((n * 2 ^ (63 - k) : Nat) : Int) := fun n => by rw [Int.natCast_mul, Int.natCast_pow]; rfl
  have hd : (b : Int) / 2 ^ (64 - (63 - k)) = ((b / 2 ^ (64 - (63 - k)) : Nat) : Int) := by rw [Int.natCast_ediv, Int.natCast_pow]; rfl
  refine ⟨63 - k, ((c * 2 ^ (63 - k) : Nat) : Int), ((a * 2 ^ (63 - k) + b / 2 ^ (64 - (63 - k)) : Nat) : Int), ((b * 2 ^ (63 - k) % 18446744073709551616 : Nat) : Int), by omega, by omega, ?_, ?_, ?_, by omega, by omega, ?_, Int.natCast_nonneg _, Int.ofNat_lt.2 (by omega), ?_, by omega, by omega, ?_⟩
  · simp only [Int.toNat_natCast, hk]; omega
  · rw [hp]; exact hc _ (by omega)
  · exact (hp c).symm
  · rw [hp, hc _ (by omega), hd, bits_or_u64_nat _ _ (by omega) (by omega)]
    congr 1
    rw [Nat.mul_comm a, Nat.two_pow_add_eq_or_of_lt f4]
  · rw [hp, IntKind.wrap_u64]; omega
  · have g1 : b * 2 ^ (63 - k) / 18446744073709551616 = b / 2 ^ (64 - (63 - k)) := by
      rw [show (18446744073709551616 : Nat) = 2 ^ (64 - (63 - k)) * 2 ^ (63 - k) from e3.symm]
      exact Nat.mul_div_mul_right _ _ sp
    have g2 := Nat.div_add_mod (b * 2 ^ (63 - k)) 18446744073709551616
    rw [g1] at g2
    have g3 : ((a : Int) * 18446744073709551616 + b) * 2 ^ (63 - k) = (((a * 18446744073709551616 + b) * 2 ^ (63 - k) : Nat) : Int) := by
      rw [← hp]; rfl
    rw [g3, Nat.add_mul, Nat.mul_right_comm]
    generalize a * 2 ^ (63 - k) = A at *
    generalize b * 2 ^ (63 - k) = D at *
    generalize b / 2 ^ (64 - (63 - k)) = E at *
    omega

theorem mask32 (a : Int) (h0 : 0 ≤ a) (h1 : a ≤ 18446744073709551615) : bits .and .u64 a 4294967295 = a % 4294967296 := by
  obtain ⟨n, rfl⟩ := Int.eq_ofNat_of_zero_le h0
  have h := bits_and_u64_nat n 4294967295 (by omega) (by omega)
  rw [Nat.and_two_pow_sub_one_eq_mod n 32] at h
  refine h.trans ?_
  omega

/-- where a step of the division stands: a guess a, and what is left by it. -/
def Kn (U Y l a b : Int) : Prop := a * (Y / 4294967296) + b = U ∧ 0 ≤ b ∧ b < 4294967296 ∧ (U * 4294967296 + l) / Y ≤ a ∧ 0 ≤ a ∧ a ≤ 4294967297
theorem Kn.back {U Y l a b : Int} (hY : 9223372036854775808 ≤ Y) (hY' : Y ≤ 18446744073709551615) (hU : 0 ≤ U) (hU' : U < Y) (hl : 0 ≤ l) (hl' : l < 4294967296) (k : Kn U Y l a b)
    (h : 4294967296 ≤ a ∨ 4294967296 * b + l < a * (Y % 4294967296)) : (U * 4294967296 + l) / Y ≤ a - 1 ∧ 1 ≤ a ∧ (a - 1) * (Y / 4294967296) + (b + Y / 4294967296) = U := by
  obtain ⟨k1, k2, k3, k4, k5, k6⟩ := k
  have p := kn_pos (U := U) (Y := Y) (l := l) (by omega) hU hl
  have q : (U * 4294967296 + l) / Y ≤ a - 1 := by
    rcases h with h | h
    · have := kn_big (U := U) (Y := Y) (l := l) (by omega) hU' hl'
      omega
    · exact kn_more (by omega) (by omega) k1 h
  refine ⟨q, by omega, ?_⟩
  rw [Int.sub_mul]
  generalize a * (Y / 4294967296) = A at *
  omega
theorem Kn.next {U Y l a b : Int} (hY : 9223372036854775808 ≤ Y) (hY' : Y ≤ 18446744073709551615) (hU : 0 ≤ U) (hU' : U < Y) (hl : 0 ≤ l) (hl' : l < 4294967296) (k : Kn U Y l a b)
    (h : 4294967296 ≤ a ∨ 4294967296 * b + l < a * (Y % 4294967296)) (hb : b + Y / 4294967296 < 4294967296) : Kn U Y l (a - 1) (b + Y / 4294967296) := by
  obtain ⟨q, p, e⟩ := k.back hY hY' hU hU' hl hl' h
  obtain ⟨k1, k2, k3, k4, k5, k6⟩ := k
  exact ⟨e, by omega, hb, q, by omega, by omega⟩
theorem Kn.over {U Y l a b : Int} (hY : 9223372036854775808 ≤ Y) (hY' : Y ≤ 18446744073709551615) (hU : 0 ≤ U) (hU' : U < Y) (hl : 0 ≤ l) (hl' : l < 4294967296) (k : Kn U Y l a b)
    (h : 4294967296 ≤ a ∨ 4294967296 * b + l < a * (Y % 4294967296)) (hb : 4294967296 ≤ b + Y / 4294967296) : a - 1 = (U * 4294967296 + l) / Y := by
  obtain ⟨q, p, e⟩ := k.back hY hY' hU hU' hl hl' h
  obtain ⟨k1, k2, k3, k4, k5, k6⟩ := k
  exact kn_exit (show Y = Y / 4294967296 * 4294967296 + Y % 4294967296 by omega) (by omega) e (by omega) (by omega) (by omega) (by omega) hb hl q
theorem Kn.done {U Y l a b : Int} (hY : 9223372036854775808 ≤ Y) (k : Kn U Y l a b) (h : a * (Y % 4294967296) ≤ 4294967296 * b + l) : a = (U * 4294967296 + l) / Y := by
  obtain ⟨k1, k2, k3, k4, k5, k6⟩ := k
  have := kn_most (show Y = Y / 4294967296 * 4294967296 + Y % 4294967296 by omega) (by omega) k1 h
  omega
theorem Kn.start {U Y l : Int} (hY : 9223372036854775808 ≤ Y) (hY' : Y ≤ 18446744073709551615) (hU : 0 ≤ U) (hU' : U < Y) (hl' : l < 4294967296) : Kn U Y l (U / (Y / 4294967296)) (U - U / (Y / 4294967296) * (Y / 4294967296)) := by
  obtain ⟨a, b, c, d, e, f⟩ := kn_first (l := l) (show Y = Y / 4294967296 * 4294967296 + Y % 4294967296 by omega) (by omega) (by omega) (by omega) hU hU' hl'
  exact ⟨a, b, by omega, d, e, f⟩
theorem kn_wrap {U Y : Int} (hY : 9223372036854775808 ≤ Y) (hY' : Y ≤ 18446744073709551615) (hU : 0 ≤ U) (hU' : U < Y) :
    IntKind.u64.wrap (U - IntKind.u64.wrap (U / (Y / 4294967296) * (Y / 4294967296))) = U - U / (Y / 4294967296) * (Y / 4294967296) := by
  obtain ⟨a, b, c, d, e, f⟩ := kn_first (l := 0) (show Y = Y / 4294967296 * 4294967296 + Y % 4294967296 by omega) (by omega) (by omega) (by omega) hU hU' (by omega)
  have g : 0 ≤ U / (Y / 4294967296) * (Y / 4294967296) := Int.mul_nonneg e (by omega)
  rw [IntKind.wrap_u64, IntKind.wrap_u64]
  generalize U / (Y / 4294967296) * (Y / 4294967296) = A at *
  omega
theorem kn_prod {a Y : Int} (h0 : 0 ≤ a) (h1 : a < 4294967296) : IntKind.u64.wrap (a * (Y % 4294967296)) = a * (Y % 4294967296) ∧ 0 ≤ a * (Y % 4294967296) ∧ a * (Y % 4294967296) ≤ 18446744073709551615 := by
  have g : 0 ≤ a * (Y % 4294967296) := Int.mul_nonneg h0 (by omega)
  have k : a * (Y % 4294967296) ≤ 4294967295 * 4294967295 := Int.mul_le_mul (by omega) (by omega) (by omega) (by omega)
  refine ⟨?_, g, by omega⟩
  rw [IntKind.wrap_u64]
  omega

end Go.Proofs.Ytlagnbbbokgdfaa.rat
