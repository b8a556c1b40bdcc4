/-
  What math/bits' Div64 answers: two words by one of at most 63 bits; the condition: the word above is below the divisor.
-/
import Derived.Test.YtbmadhejdnkeeaaRatMath
import Derived.Test.YtbmadhejdnkeeaaShelf
import Derived.Test.YtbmadhejdnkeeaaBound
import Derived.Laws.Bits64b
import Derived.Deep.DeepCutAuto
import Derived.Deep.CutBlock
namespace Go.Proofs.Ytbmadhejdnkeeaa.rat
open Go.ChangeShapes Go.WideShapes Go.ChangeAt Go.RowKit rmath bound
set_option linter.unusedVariables false

theorem div64_low (l y : Int) (w : World) (hl : 0 ≤ l) (hl' : l ≤ 18446744073709551615) (hy : 1 ≤ y) (hy' : y ≤ 9223372036854775807) :
    Calls Try.prog 63 #[.int .u64 0, .int .u64 l, .int .u64 y] w fun e w' => e = .returned (.tuple #[.int .u64 (l / y), .int .u64 (l % y)]) ∧ ∃ n, w' = w.drewN n := by
  have t1 : (y == 0) = false := by simp; omega
  have t2 : ¬ y ≤ 0 := by omega
  have t3 : ¬ y = 0 := by omega
  go_enter Try.func63, Try.ntmps63
  go_wp2
  go_quiet (fail)
  go_wp2
  go_ret2
  exact ⟨rfl, _, rfl⟩

theorem bitLen_spec : ∀ x : Nat, 0 < x → x < 2 ^ 64 → ∃ k, Lib.bitLen x = k + 1 ∧ 2 ^ k ≤ x ∧ x < 2 ^ (k + 1) := by
  intro x
  induction x using Nat.strongRecOn with
  | ind x ih =>
    intro h0 h1
    by_cases hx : x = 1
    · subst hx; exact ⟨0, by decide, by decide, by decide⟩
    · obtain ⟨k, hk, ha, hb⟩ := ih (x / 2) (by omega) (by omega) (by omega)
      refine ⟨k + 1, ?_, ?_, ?_⟩
      · rw [Lib.bitLen_half x (by omega) h1, hk]; omega
      · rw [Nat.pow_succ]; omega
      · rw [Nat.pow_succ]; omega

theorem shift_facts (h l y : Int) (hl : 0 ≤ l) (hl' : l ≤ 18446744073709551615) (hy' : y ≤ 9223372036854775807) (h0 : 1 ≤ h) (hhy : h < y) :
    ∃ (s : Nat) (Y U L : Int), 1 ≤ s ∧ s ≤ 63 ∧ 64 - (Lib.bitLen y.toNat : Int) = s ∧ IntKind.u64.wrap (y * 2 ^ s) = Y ∧ Y = y * 2 ^ s ∧ 9223372036854775808 ≤ Y ∧ Y ≤ 18446744073709551615 ∧
      bits .or .u64 (IntKind.u64.wrap (h * 2 ^ s)) (l / 2 ^ (64 - s)) = U ∧ 0 ≤ U ∧ U < Y ∧ IntKind.u64.wrap (l * 2 ^ s) = L ∧ 0 ≤ L ∧ L ≤ 18446744073709551615 ∧
      U * 18446744073709551616 + L = (h * 18446744073709551616 + l) * 2 ^ s := by
  obtain ⟨a, rfl⟩ := Int.eq_ofNat_of_zero_le (show 0 ≤ h by omega)
  obtain ⟨b, rfl⟩ := Int.eq_ofNat_of_zero_le hl
  obtain ⟨c, rfl⟩ := Int.eq_ofNat_of_zero_le (show 0 ≤ y by omega)
  obtain ⟨k, hk, hk1, hk2⟩ := bitLen_spec c (by omega) (by omega)
  have hk62 : k < 63 := by
    refine Decidable.byContradiction fun hn => ?_
    have := Nat.pow_le_pow_right (n := 2) (by omega) (show 63 ≤ k by omega)
    omega
  have e1 : 2 ^ k * 2 ^ (63 - k) = 2 ^ 63 := by rw [← Nat.pow_add]; congr 1; omega
  have e2 : 2 ^ (k + 1) * 2 ^ (63 - k) = 2 ^ 64 := by rw [← Nat.pow_add]; congr 1; omega
  have e3 : 2 ^ (64 - (63 - k)) * 2 ^ (63 - k) = 2 ^ 64 := by rw [← Nat.pow_add]; congr 1; omega
  have sp : 0 < 2 ^ (63 - k) := Nat.two_pow_pos _
  have f1 : 2 ^ 63 ≤ c * 2 ^ (63 - k) := by rw [← e1]; exact Nat.mul_le_mul_right _ hk1
  have f2 : c * 2 ^ (63 - k) < 2 ^ 64 := by rw [← e2]; exact Nat.mul_lt_mul_of_pos_right hk2 sp
  have f3 : a * 2 ^ (63 - k) + 2 ^ (63 - k) ≤ c * 2 ^ (63 - k) := by rw [← Nat.succ_mul]; exact Nat.mul_le_mul_right _ (by omega)
  have f4 : b / 2 ^ (64 - (63 - k)) < 2 ^ (63 - k) := by
    rw [Nat.div_lt_iff_lt_mul (Nat.two_pow_pos _), Nat.mul_comm, e3]; omega
  have hc : ∀ n : Nat, n < 18446744073709551616 → IntKind.u64.wrap (n : Int) = (n : Int) := fun n hn => by rw [IntKind.wrap_u64]; omega
  have hp : ∀ n : Nat, (n : Int) * 2 ^ (63 - k) = ((n * 2 ^ (63 - k) : Nat) : Int) := fun n => by rw [Int.natCast_mul, Int.natCast_pow]; rfl
  have hd : (b : Int) / 2 ^ (64 - (63 - k)) = ((b / 2 ^ (64 - (63 - k)) : Nat) : Int) := by rw [Int.natCast_ediv, Int.natCast_pow]; rfl
  refine ⟨63 - k, ((c * 2 ^ (63 - k) : Nat) : Int), ((a * 2 ^ (63 - k) + b / 2 ^ (64 - (63 - k)) : Nat) : Int), ((b * 2 ^ (63 - k) % 18446744073709551616 : Nat) : Int), by omega, by omega, ?_, ?_, ?_, by omega, by omega, ?_, Int.natCast_nonneg _, Int.ofNat_lt.2 (by omega), ?_, by omega, by omega, ?_⟩
  · simp only [Int.toNat_natCast, hk]; omega
  · rw [hp]; exact hc _ (by omega)
  · exact (hp c).symm
  · rw [hp, hc _ (by omega), hd, bits_or_u64_nat _ _ (by omega) (by omega)]
    congr 1
    rw [Nat.mul_comm a, Nat.two_pow_add_eq_or_of_lt f4]
  · rw [hp, IntKind.wrap_u64]; omega
  · have g1 : b * 2 ^ (63 - k) / 18446744073709551616 = b / 2 ^ (64 - (63 - k)) := by
      rw [show (18446744073709551616 : Nat) = 2 ^ (64 - (63 - k)) * 2 ^ (63 - k) from e3.symm]
      exact Nat.mul_div_mul_right _ _ sp
    have g2 := Nat.div_add_mod (b * 2 ^ (63 - k)) 18446744073709551616
    rw [g1] at g2
    have g3 : ((a : Int) * 18446744073709551616 + b) * 2 ^ (63 - k) = (((a * 18446744073709551616 + b) * 2 ^ (63 - k) : Nat) : Int) := by
      rw [← hp]; rfl
    rw [g3, Nat.add_mul, Nat.mul_right_comm]
    generalize a * 2 ^ (63 - k) = A at *
    generalize b * 2 ^ (63 - k) = D at *
    generalize b / 2 ^ (64 - (63 - k)) = E at *
    omega

theorem mask32 (a : Int) (h0 : 0 ≤ a) (h1 : a ≤ 18446744073709551615) : bits .and .u64 a 4294967295 = a % 4294967296 := by
  obtain ⟨n, rfl⟩ := Int.eq_ofNat_of_zero_le h0
  have h := bits_and_u64_nat n 4294967295 (by omega) (by omega)
  rw [Nat.and_two_pow_sub_one_eq_mod n 32] at h
  refine h.trans ?_
  omega

theorem lz64 (y : Int) (s : Nat) (w : World) (h0 : 0 ≤ y) (h1 : y ≤ 18446744073709551615) (hs : 64 - (Lib.bitLen y.toNat : Int) = s) :
    Calls Try.prog 65 #[.int .u64 y] w fun e w' => e = .returned (.int .i64 s) ∧ w = w' :=
  (Try.bits_LeadingZeros64 y w h0 h1).mono fun _ _ ⟨a, b⟩ => ⟨by rw [a, hs], b.symm⟩

/-- where a step of the division stands: a guess a, and what is left by it. -/
def Kn (U Y l a b : Int) : Prop := a * (Y / 4294967296) + b = U ∧ 0 ≤ b ∧ b < 4294967296 ∧ (U * 4294967296 + l) / Y ≤ a ∧ 0 ≤ a ∧ a ≤ 4294967297
theorem Kn.back {U Y l a b : Int} (hY : 9223372036854775808 ≤ Y) (hY' : Y ≤ 18446744073709551615) (hU : 0 ≤ U) (hU' : U < Y) (hl : 0 ≤ l) (hl' : l < 4294967296) (k : Kn U Y l a b)
    (h : 4294967296 ≤ a ∨ 4294967296 * b + l < a * (Y % 4294967296)) : (U * 4294967296 + l) / Y ≤ a - 1 ∧ 1 ≤ a ∧ (a - 1) * (Y / 4294967296) + (b + Y / 4294967296) = U := by
  obtain ⟨k1, k2, k3, k4, k5, k6⟩ := k
  have p := kn_pos (U := U) (Y := Y) (l := l) (by omega) hU hl
  have q : (U * 4294967296 + l) / Y ≤ a - 1 := by
    rcases h with h | h
    · have := kn_big (U := U) (Y := Y) (l := l) (by omega) hU' hl'
      omega
    · exact kn_more (by omega) (by omega) k1 h
  refine ⟨q, by omega, ?_⟩
  rw [Int.sub_mul]
  generalize a * (Y / 4294967296) = A at *
  omega
theorem Kn.next {U Y l a b : Int} (hY : 9223372036854775808 ≤ Y) (hY' : Y ≤ 18446744073709551615) (hU : 0 ≤ U) (hU' : U < Y) (hl : 0 ≤ l) (hl' : l < 4294967296) (k : Kn U Y l a b)
    (h : 4294967296 ≤ a ∨ 4294967296 * b + l < a * (Y % 4294967296)) (hb : b + Y / 4294967296 < 4294967296) : Kn U Y l (a - 1) (b + Y / 4294967296) := by
  obtain ⟨q, p, e⟩ := k.back hY hY' hU hU' hl hl' h
  obtain ⟨k1, k2, k3, k4, k5, k6⟩ := k
  exact ⟨e, by omega, hb, q, by omega, by omega⟩
theorem Kn.over {U Y l a b : Int} (hY : 9223372036854775808 ≤ Y) (hY' : Y ≤ 18446744073709551615) (hU : 0 ≤ U) (hU' : U < Y) (hl : 0 ≤ l) (hl' : l < 4294967296) (k : Kn U Y l a b)
    (h : 4294967296 ≤ a ∨ 4294967296 * b + l < a * (Y % 4294967296)) (hb : 4294967296 ≤ b + Y / 4294967296) : a - 1 = (U * 4294967296 + l) / Y := by
  obtain ⟨q, p, e⟩ := k.back hY hY' hU hU' hl hl' h
  obtain ⟨k1, k2, k3, k4, k5, k6⟩ := k
  exact kn_exit (show Y = Y / 4294967296 * 4294967296 + Y % 4294967296 by omega) (by omega) e (by omega) (by omega) (by omega) (by omega) hb hl q
theorem Kn.done {U Y l a b : Int} (hY : 9223372036854775808 ≤ Y) (k : Kn U Y l a b) (h : a * (Y % 4294967296) ≤ 4294967296 * b + l) : a = (U * 4294967296 + l) / Y := by
  obtain ⟨k1, k2, k3, k4, k5, k6⟩ := k
  have := kn_most (show Y = Y / 4294967296 * 4294967296 + Y % 4294967296 by omega) (by omega) k1 h
  omega
theorem Kn.start {U Y l : Int} (hY : 9223372036854775808 ≤ Y) (hY' : Y ≤ 18446744073709551615) (hU : 0 ≤ U) (hU' : U < Y) (hl' : l < 4294967296) : Kn U Y l (U / (Y / 4294967296)) (U - U / (Y / 4294967296) * (Y / 4294967296)) := by
  obtain ⟨a, b, c, d, e, f⟩ := kn_first (l := l) (show Y = Y / 4294967296 * 4294967296 + Y % 4294967296 by omega) (by omega) (by omega) (by omega) hU hU' hl'
  exact ⟨a, b, by omega, d, e, f⟩
theorem kn_wrap {U Y : Int} (hY : 9223372036854775808 ≤ Y) (hY' : Y ≤ 18446744073709551615) (hU : 0 ≤ U) (hU' : U < Y) :
    IntKind.u64.wrap (U - IntKind.u64.wrap (U / (Y / 4294967296) * (Y / 4294967296))) = U - U / (Y / 4294967296) * (Y / 4294967296) := by
  obtain ⟨a, b, c, d, e, f⟩ := kn_first (l := 0) (show Y = Y / 4294967296 * 4294967296 + Y % 4294967296 by omega) (by omega) (by omega) (by omega) hU hU' (by omega)
  have g : 0 ≤ U / (Y / 4294967296) * (Y / 4294967296) := Int.mul_nonneg e (by omega)
  rw [IntKind.wrap_u64, IntKind.wrap_u64]
  generalize U / (Y / 4294967296) * (Y / 4294967296) = A at *
  omega
theorem kn_prod {a Y : Int} (h0 : 0 ≤ a) (h1 : a < 4294967296) : IntKind.u64.wrap (a * (Y % 4294967296)) = a * (Y % 4294967296) ∧ 0 ≤ a * (Y % 4294967296) ∧ a * (Y % 4294967296) ≤ 18446744073709551615 := by
  have g : 0 ≤ a * (Y % 4294967296) := Int.mul_nonneg h0 (by omega)
  have k : a * (Y % 4294967296) ≤ 4294967295 * 4294967295 := Int.mul_le_mul (by omega) (by omega) (by omega) (by omega)
  refine ⟨?_, g, by omega⟩
  rw [IntKind.wrap_u64]
  omega

set_option maxRecDepth 100000 in
set_option maxHeartbeats 1000000 in
theorem div64_core (h l y Y U L : Int) (s : Nat) (w : World) (hl : 0 ≤ l) (hl' : l ≤ 18446744073709551615) (hy' : y ≤ 9223372036854775807) (h0 : 1 ≤ h) (hhy : h < y)
    (s1 : 1 ≤ s) (s2 : s ≤ 63) (hz : RowKit.Hid (64 - (Lib.bitLen y.toNat : Int) = s)) (eY : IntKind.u64.wrap (y * 2 ^ s) = Y) (Y1 : 9223372036854775808 ≤ Y) (Y2 : Y ≤ 18446744073709551615)
    (eU : bits .or .u64 (IntKind.u64.wrap (h * 2 ^ s)) (l / 2 ^ (64 - s)) = U) (U1 : 0 ≤ U) (U2 : U < Y) (eL : IntKind.u64.wrap (l * 2 ^ s) = L) (L1 : 0 ≤ L) (L2 : L ≤ 18446744073709551615) :
    Calls Try.prog 63 #[.int .u64 h, .int .u64 l, .int .u64 y] w fun e w' => e = .returned (.tuple #[.int .u64 ((U * 18446744073709551616 + L) / Y), .int .u64 ((U * 18446744073709551616 + L) % Y / 2 ^ s)]) ∧ w = w' := by
  have t1 : ¬ y = 0 := by omega
  have t2 : ¬ y ≤ h := by omega
  have t3 : ¬ h = 0 := by omega
  have m1 := mask32 Y (by omega) (by omega)
  have m2 := mask32 L (by omega) (by omega)
  have m3 : min s 64 = s := by omega
  have m4 : (IntKind.u64.wrap (64 - (s : Int))).toNat = 64 - s := by rw [IntKind.wrap_u64]; omega
  have m5 : min (64 - s) 64 = 64 - s := by omega
  have m6 := kn_wrap Y1 Y2 U1 U2
  have ks := Lib.hid (Kn.start (l := L / 4294967296) Y1 Y2 U1 U2 (by omega))
  go_enter Try.func63, Try.ntmps63
  go_upto_block 0 with (go_at_call 65; refine (lz64 _ s _ (by omega) (by omega) hz.out).mono ?_; rintro e w' ⟨rfl, rfl⟩)
  clear m4 m5 m6 eU eL eY m1 m2
  go_cut [15, 16] (fun s15 s16 wx => s15 = .int .u64 ((U * 4294967296 + L / 4294967296) / Y) ∧ w = wx)
  case first =>
    go_wp2_with fail
    go_loop [15, 16] (fun q r => ∃ a b : Int, q = .int .u64 a ∧ r = .int .u64 b ∧ Kn U Y (L / 4294967296) a b) (fun q _ => (intOf q).toNat)
    case atStart => exact ⟨_, _, rfl, rfl, ks.out⟩
    case round =>
      obtain ⟨a, b, rfl, rfl, k⟩ := hrel
      obtain ⟨k1, k2, k3, k4, k5, k6⟩ := id k
      have K := Lib.hid k
      have yl : 2147483648 ≤ Y / 4294967296 := by omega
      have yh : Y / 4294967296 ≤ 4294967295 := by omega
      have ll : 0 ≤ L / 4294967296 := by omega
      have lh : L / 4294967296 ≤ 4294967295 := by omega
      clear k k1 k4
      by_cases ha : 4294967296 ≤ a
      · have NX := Lib.hid (Kn.next Y1 Y2 U1 U2 (by omega) (by omega) K.out (.inl ha))
        have OV := Lib.hid (Kn.over Y1 Y2 U1 U2 (by omega) (by omega) K.out (.inl ha))
        by_cases hb : 4294967296 ≤ b + Y / 4294967296
        · go_wp2
          go_meet
          exact ⟨by rw [OV.out hb], rfl⟩
        · go_wp2
          go_round
          case rel => exact ⟨a - 1, _, rfl, rfl, NX.out (by omega)⟩
          case measure => simp [intOf]; omega
      · obtain ⟨p1, p2, p3⟩ := kn_prod (a := a) (Y := Y) k5 (by omega)
        by_cases hc : 4294967296 * b + L / 4294967296 < a * (Y % 4294967296)
        · have NX := Lib.hid (Kn.next Y1 Y2 U1 U2 (by omega) (by omega) K.out (.inr hc))
          have OV := Lib.hid (Kn.over Y1 Y2 U1 U2 (by omega) (by omega) K.out (.inr hc))
          have BK := (Kn.back Y1 Y2 U1 U2 (by omega) (by omega) K.out (.inr hc)).2.1
          by_cases hb : 4294967296 ≤ b + Y / 4294967296
          · go_wp2
            go_meet
            exact ⟨by rw [OV.out hb], rfl⟩
          · go_wp2
            go_round
            case rel => exact ⟨a - 1, _, rfl, rfl, NX.out (by omega)⟩
            case measure => simp [intOf]; omega
        · have DN := Lib.hid (Kn.done Y1 K.out (by omega))
          go_wp2
          go_meet
          exact ⟨by rw [← DN.out], rfl⟩
  case rest =>
    obtain ⟨rfl, rfl⟩ := hcut
    have KL := kn_left (U := U) (l := L / 4294967296) (show 0 < Y by omega) (by omega)
    have R1 := Int.emod_nonneg (U * 4294967296 + L / 4294967296) (show Y ≠ 0 by omega)
    have R2 := Int.emod_lt_of_pos (U * 4294967296 + L / 4294967296) (show 0 < Y by omega)
    have Q1 := kn_big (U := U) (Y := Y) (l := L / 4294967296) (by omega) U2 (by omega)
    have Q2 := kn_pos (U := U) (Y := Y) (l := L / 4294967296) (by omega) U1 (by omega)
    have BT := Lib.hid (kn_both (U := U) (Y := Y) (l1 := L / 4294967296) (l0 := L % 4294967296) (by omega))
    have e0 : L / 4294967296 * 4294967296 + L % 4294967296 = L := by omega
    rw [e0] at BT
    clear e0
    generalize (U * 4294967296 + L / 4294967296) / Y = Q at *
    generalize (U * 4294967296 + L / 4294967296) % Y = R at *
    have eR : IntKind.u64.wrap (IntKind.u64.wrap (IntKind.u64.wrap (U * 4294967296) + L / 4294967296) - IntKind.u64.wrap (Q * Y)) = R := by
      simp only [IntKind.wrap_u64]; exact KL
    clear KL
    have m6 := kn_wrap Y1 Y2 R1 R2
    have ks := Lib.hid (Kn.start (l := L % 4294967296) Y1 Y2 R1 R2 (by omega))
    go_upto_block 2 with fail
    clear m6 eR
    go_cut [18, 16] (fun s18 s16 wx => s18 = .int .u64 ((R * 4294967296 + L % 4294967296) / Y) ∧ w = wx)
    case first =>
      go_wp2_with fail
      go_loop [18, 16] (fun q r => ∃ a b : Int, q = .int .u64 a ∧ r = .int .u64 b ∧ Kn R Y (L % 4294967296) a b) (fun q _ => (intOf q).toNat)
      case atStart => exact ⟨_, _, rfl, rfl, ks.out⟩
      case round =>
        obtain ⟨a, b, rfl, rfl, k⟩ := hrel
        obtain ⟨k1, k2, k3, k4, k5, k6⟩ := id k
        have K := Lib.hid k
        have yl : 2147483648 ≤ Y / 4294967296 := by omega
        have yh : Y / 4294967296 ≤ 4294967295 := by omega
        have ll : 0 ≤ L % 4294967296 := by omega
        have lh : L % 4294967296 ≤ 4294967295 := by omega
        clear k k1 k4
        by_cases ha : 4294967296 ≤ a
        · have NX := Lib.hid (Kn.next Y1 Y2 R1 R2 (by omega) (by omega) K.out (.inl ha))
          have OV := Lib.hid (Kn.over Y1 Y2 R1 R2 (by omega) (by omega) K.out (.inl ha))
          by_cases hb : 4294967296 ≤ b + Y / 4294967296
          · go_wp2
            go_meet
            exact ⟨by rw [OV.out hb], rfl⟩
          · go_wp2
            go_round
            case rel => exact ⟨a - 1, _, rfl, rfl, NX.out (by omega)⟩
            case measure => simp [intOf]; omega
        · obtain ⟨p1, p2, p3⟩ := kn_prod (a := a) (Y := Y) k5 (by omega)
          by_cases hc : 4294967296 * b + L % 4294967296 < a * (Y % 4294967296)
          · have NX := Lib.hid (Kn.next Y1 Y2 R1 R2 (by omega) (by omega) K.out (.inr hc))
            have OV := Lib.hid (Kn.over Y1 Y2 R1 R2 (by omega) (by omega) K.out (.inr hc))
            have BK := (Kn.back Y1 Y2 R1 R2 (by omega) (by omega) K.out (.inr hc)).2.1
            by_cases hb : 4294967296 ≤ b + Y / 4294967296
            · go_wp2
              go_meet
              exact ⟨by rw [OV.out hb], rfl⟩
            · go_wp2
              go_round
              case rel => exact ⟨a - 1, _, rfl, rfl, NX.out (by omega)⟩
              case measure => simp [intOf]; omega
          · have DN := Lib.hid (Kn.done Y1 K.out (by omega))
            go_wp2
            go_meet
            exact ⟨by rw [← DN.out], rfl⟩
    case rest =>
      obtain ⟨rfl, rfl⟩ := hcut
      have KL := kn_left (U := R) (l := L % 4294967296) (show 0 < Y by omega) (by omega)
      have P1 := kn_big (U := R) (Y := Y) (l := L % 4294967296) (by omega) R2 (by omega)
      have P2 := kn_pos (U := R) (Y := Y) (l := L % 4294967296) (by omega) R1 (by omega)
      have eT : IntKind.u64.wrap (IntKind.u64.wrap (IntKind.u64.wrap (R * 4294967296) + L % 4294967296) - IntKind.u64.wrap ((R * 4294967296 + L % 4294967296) / Y * Y)) = (R * 4294967296 + L % 4294967296) % Y := by
        simp only [IntKind.wrap_u64]; exact KL
      have T1 := Int.emod_nonneg (R * 4294967296 + L % 4294967296) (show Y ≠ 0 by omega)
      have T2 := Int.emod_lt_of_pos (R * 4294967296 + L % 4294967296) (show 0 < Y by omega)
      clear KL ks
      generalize (R * 4294967296 + L % 4294967296) / Y = Z at *
      generalize (R * 4294967296 + L % 4294967296) % Y = T at *
      go_wp2
      go_ret2
      obtain ⟨b1, b2⟩ := BT.out
      exact ⟨by rw [← b1, ← b2]; rfl, rfl⟩

theorem div64_any (h l y : Int) (w : World) (hl : 0 ≤ l) (hl' : l ≤ 18446744073709551615) (hy' : y ≤ 9223372036854775807) (h0 : 0 ≤ h) (hhy : h < y) :
    Calls Try.prog 63 #[.int .u64 h, .int .u64 l, .int .u64 y] w fun e w' => e = .returned (.tuple #[.int .u64 ((h * 18446744073709551616 + l) / y), .int .u64 ((h * 18446744073709551616 + l) % y)]) ∧ ∃ n, w' = w.drewN n := by
  by_cases hh : h = 0
  · subst hh
    have := div64_low l y w hl hl' (by omega) hy'
    rw [Int.zero_mul, Int.zero_add]
    exact this
  · obtain ⟨s, Y, U, L, s1, s2, hz, eY, eY2, Y1, Y2, eU, U1, U2, eL, L1, L2, eN⟩ := shift_facts h l y hl hl' hy' (by omega) hhy
    refine (div64_core h l y Y U L s w hl hl' hy' (by omega) hhy s1 s2 (Lib.hid hz) eY Y1 Y2 eU U1 U2 eL L1 L2).mono ?_
    rintro e w' ⟨rfl, rfl⟩
    have hS : (0 : Int) < 2 ^ s := Int.pow_pos (by omega)
    obtain ⟨c1, c2⟩ := kn_shift (N := h * 18446744073709551616 + l) (y := y) hS (by omega)
    refine ⟨?_, 0, rfl⟩
    rw [eN, eY2, c1, c2]
end Go.Proofs.Ytbmadhejdnkeeaa.rat
