/-
  What the inner functions of package rat answer (split, divisor, and two words' times, plus, minus, less, by, number); each theorem names its conditions.
-/
import Derived.Test.YtlagnbbbokgdfaaRatDiv
import Derived.Test.YtlagnbbbokgdfaaBound2
import Derived.IntWalk
import Derived.Laws.Externs
namespace Go.Proofs.Ytlagnbbbokgdfaa.rat
open Go.ChangeShapes Go.WideShapes Go.ChangeAt Go.RowKit rmath bound
set_option linter.unusedVariables false

theorem tdiv_cases (a b : Int) (hb : 1 ≤ b) (ha : a < 0) : (a % b = 0 ∧ a.tdiv b = a / b ∧ a.tmod b = 0) ∨ (1 ≤ a % b ∧ a.tdiv b = a / b + 1 ∧ a.tmod b = a % b - b) := by
  have h0 := Int.emod_nonneg a (show b ≠ 0 by omega)
  have h1 := Int.mul_tdiv_add_tmod a b
  have h2 := Int.mul_ediv_add_emod a b
  have e : a.tdiv b = a / b + (if 0 ≤ a ∨ b ∣ a then 0 else b.sign) := Int.tdiv_eq_ediv
  by_cases hd : b ∣ a
  · rw [if_pos (.inr hd)] at e
    have z := Int.emod_eq_zero_of_dvd hd
    refine .inl ⟨z, by omega, ?_⟩
    rw [e, Int.add_zero] at h1
    omega
  · rw [if_neg (fun h => h.elim (fun h => by omega) hd), Int.sign_eq_one_of_pos (by omega)] at e
    have z : a % b ≠ 0 := fun h => hd (Int.dvd_of_emod_eq_zero h)
    refine .inr ⟨by omega, e, ?_⟩
    rw [e, Int.mul_add, Int.mul_one] at h1
    omega
theorem ediv_in (a b : Int) (hb : 1 ≤ b) (l : -9223372036854775808 ≤ a) (u : a ≤ 9223372036854775807) : -9223372036854775808 ≤ a / b ∧ a / b ≤ 9223372036854775807 := by
  constructor
  · exact Int.le_ediv_of_mul_le (by omega) (by omega)
  · have := Int.ediv_le_self b (a := a)
    by_cases h : 0 ≤ a
    · have := this h; omega
    · have := Int.ediv_neg_of_neg_of_pos (show a < 0 by omega) (show 0 < b by omega); omega

theorem split_any (a b : Int) (w : World) (hb : 1 ≤ b) (hb' : b ≤ 9223372036854775807) (l : -9223372036854775808 ≤ a) (u : a ≤ 9223372036854775807) :
    Calls Try.prog 42 #[.int .i64 a, .int .i64 b] w fun e w' => e = .returned (.tuple #[.int .i64 (a / b), .int .i64 (a % b)]) ∧ ∃ n, w' = w.drewN n := by
  have t1 : ¬ b = 0 := by omega
  have m0 := Int.emod_nonneg a t1
  have m1 := Int.emod_lt_of_pos a (show 0 < b by omega)
  obtain ⟨d0, d1⟩ := ediv_in a b hb l u
  by_cases ha : 0 ≤ a
  · have e0 := Int.ediv_nonneg ha (show 0 ≤ b by omega)
    go_enter Try.func42, Try.ntmps42
    go_wp2
    go_quiet (fail)
    go_wp2
    go_ret2
    exact ⟨rfl, _, rfl⟩
  · have d2 := Int.ediv_neg_of_neg_of_pos (show a < 0 by omega) (show 0 < b by omega)
    rcases tdiv_cases a b hb (by omega) with ⟨c1, c2, c3⟩ | ⟨c1, c2, c3⟩
    · go_enter Try.func42, Try.ntmps42
      go_wp2
      go_quiet (fail)
      go_wp2
      go_ret2
      exact ⟨by rw [c1]; rfl, _, rfl⟩
    · go_enter Try.func42, Try.ntmps42
      go_wp2
      go_quiet (fail)
      go_wp2
      go_ret2
      exact ⟨rfl, _, rfl⟩

set_option maxHeartbeats 400000 in
theorem divisor_nat (a b : Nat) (w : World) (ha : a ≤ 9223372036854775807) (hb : b ≤ 9223372036854775807) :
    Calls Try.prog 44 #[.int .i64 a, .int .i64 b] w fun e w' => e = .returned (.int .i64 (Nat.gcd a b : Nat)) ∧ ∃ n, w' = w.drewN n := by
  go_enter Try.func44, Try.ntmps44
  go_wp2
  go_loopw [0, 1] (fun s0 s1 wr => ∃ x y : Nat, s0 = .int .i64 x ∧ s1 = .int .i64 y ∧ x ≤ 9223372036854775807 ∧ y ≤ 9223372036854775807 ∧ Nat.gcd x y = Nat.gcd a b ∧ ∃ n, wr = w.drewN n) (fun _ s1 _ => (intOf s1).toNat)
  case atStart => exact ⟨a, b, rfl, rfl, ha, hb, rfl, 0, rfl⟩
  case round =>
    obtain ⟨x, y, rfl, rfl, hx, hy, hg, n, rfl⟩ := hrel
    have G := Lib.hid hg
    clear hg
    by_cases h0 : 0 < y
    · have t1 : ¬ (y : Int) = 0 := by omega
      go_wp2
      go_quiet (fail)
      go_wp2
      go_roundw
      case rel => exact ⟨y, x % y, rfl, rfl, hy, by have := Nat.mod_lt x h0; omega, by rw [← G.out, Nat.gcd_comm x y, Nat.gcd_rec y x, Nat.gcd_comm], _, by rw [World.drewN_drewN]⟩
      case measure => have := Nat.mod_lt x h0; simp [intOf]; omega
    · obtain rfl : y = 0 := by omega
      go_wp2
      go_ret
      exact ⟨by rw [← G.out, Nat.gcd_zero_right]; rfl, n, rfl⟩

/-- the greatest common divisor, of ints. -/
def gcdI (a b : Int) : Int := (Int.gcd a b : Int)
theorem divisor_any (a b : Int) (w : World) (ha : 0 ≤ a) (ha' : a ≤ 9223372036854775807) (hb : 0 ≤ b) (hb' : b ≤ 9223372036854775807) :
    Calls Try.prog 44 #[.int .i64 a, .int .i64 b] w fun e w' => e = .returned (.int .i64 (gcdI a b)) ∧ ∃ n, w' = w.drewN n := by
  obtain ⟨x, rfl⟩ := Int.eq_ofNat_of_zero_le ha
  obtain ⟨y, rfl⟩ := Int.eq_ofNat_of_zero_le hb
  exact divisor_nat x y w (by omega) (by omega)

theorem mul64_k (x y H L : Int) (w : World) (hx : 0 ≤ x) (hx' : x ≤ 18446744073709551615) (hy : 0 ≤ y) (hy' : y ≤ 18446744073709551615) (hH : RowKit.Hid (x * y / 18446744073709551616 = H)) (hL : RowKit.Hid (x * y % 18446744073709551616 = L)) :
    Calls Try.prog 61 #[.int .u64 x, .int .u64 y] w fun e w' => e = .returned (.tuple #[.int .u64 H, .int .u64 L]) ∧ w = w' := by
  obtain ⟨a, rfl⟩ := Int.eq_ofNat_of_zero_le hx
  obtain ⟨b, rfl⟩ := Int.eq_ofNat_of_zero_le hy
  refine (Try.bits_Mul64 a b (by omega) (by omega) w).mono ?_
  rintro e w' ⟨rfl, rfl⟩
  refine ⟨?_, rfl⟩
  rw [← hH.out, ← hL.out, Int.natCast_ediv, Int.natCast_emod, Int.natCast_mul]
  rfl

theorem mul_in {a b : Int} (h1 : -9223372036854775808 ≤ a) (h2 : a ≤ 9223372036854775807) (h3 : 1 ≤ b) (h4 : b ≤ 9223372036854775807) : -85070591730234615856620279821087277056 ≤ a * b ∧ a * b ≤ 85070591730234615847396907784232501249 := by
  constructor
  · have := Int.mul_le_mul_of_nonneg_right h1 (show 0 ≤ b by omega)
    have e : (-9223372036854775808 : Int) * b ≥ -9223372036854775808 * 9223372036854775807 := by omega
    omega
  · have := Int.mul_le_mul_of_nonneg_right h2 (show 0 ≤ b by omega)
    have e : (9223372036854775807 : Int) * b ≤ 9223372036854775807 * 9223372036854775807 := by omega
    omega

theorem times_eq (a b : Int) (w : World) (h1 : -9223372036854775808 ≤ a) (h2 : a ≤ 9223372036854775807) (h3 : 1 ≤ b) (h4 : b ≤ 9223372036854775807) :
    Calls Try.prog 48 #[.int .i64 a, .int .i64 b] w fun e w' => e = .returned (.agg #[.int .i64 ((a * b) / 18446744073709551616), .int .u64 ((a * b) % 18446744073709551616)]) ∧ w' = w.alloc (.cells #[.int .i64 (a * b / 18446744073709551616), .int .u64 (a * b % 18446744073709551616)] 86) := by
  obtain ⟨p1, p2⟩ := mul_in h1 h2 h3 h4
  by_cases ha : 0 ≤ a
  · have p0 : 0 ≤ a * b := Int.mul_nonneg ha (by omega)
    have q1 : 0 ≤ a * b / 18446744073709551616 := by omega
    have q2 : a * b / 18446744073709551616 ≤ 4611686018427387904 := by omega
    have r1 : 0 ≤ a * b % 18446744073709551616 := by omega
    have r2 : a * b % 18446744073709551616 ≤ 18446744073709551615 := by omega
    have HH := Lib.hid (Eq.refl (a * b / 18446744073709551616))
    have HL := Lib.hid (Eq.refl (a * b % 18446744073709551616))
    clear p0 p1 p2
    generalize hH : a * b / 18446744073709551616 = H at HH q1 q2 ⊢
    generalize hL : a * b % 18446744073709551616 = L at HL r1 r2 ⊢
    have KH := Lib.hid hH
    have KL := Lib.hid hL
    clear hH hL HH HL
    go_enter Try.func48, Try.ntmps48
    go_wp2_with (go_at_call 61; refine (mul64_k a b H L _ (by omega) (by omega) (by omega) (by omega) KH KL).mono ?_; rintro e w' ⟨rfl, rfl⟩)
    exact bodyPost_ret (v := .agg #[.int .i64 H, .int .u64 L]) (by simp [results, Try.results48, go_sem]) rfl ⟨rfl, rfl⟩
  · have e : (a + 18446744073709551616) * b = a * b + b * 18446744073709551616 := by rw [Int.add_mul, Int.mul_comm b]
    have q1 : -4611686018427387904 ≤ a * b / 18446744073709551616 := by omega
    have q2 : a * b / 18446744073709551616 ≤ 4611686018427387904 := by omega
    have r1 : 0 ≤ a * b % 18446744073709551616 := by omega
    have r2 : a * b % 18446744073709551616 ≤ 18446744073709551615 := by omega
    have kh : (a + 18446744073709551616) * b / 18446744073709551616 = a * b / 18446744073709551616 + b := by rw [e]; omega
    have kl : (a + 18446744073709551616) * b % 18446744073709551616 = a * b % 18446744073709551616 := by rw [e]; omega
    clear e p1 p2
    generalize a * b / 18446744073709551616 = H at *
    generalize a * b % 18446744073709551616 = L at *
    have KH := Lib.hid kh
    have KL := Lib.hid kl
    clear kh kl
    have e1 : IntKind.u64.wrap a = a + 18446744073709551616 := by rw [IntKind.wrap_u64]; omega
    have e2 : wrap64 (IntKind.u64.wrap H) = H := by rw [IntKind.wrap_u64]; unfold wrap64; omega
    go_enter Try.func48, Try.ntmps48
    go_wp2_with (go_at_call 61; refine (mul64_k (a + 18446744073709551616) b (H + b) L _ (by omega) (by omega) (by omega) (by omega) KH KL).mono ?_; rintro e w' ⟨rfl, rfl⟩)
    exact bodyPost_ret (v := .agg #[.int .i64 H, .int .u64 L]) (by simp [results, Try.results48, go_sem]) rfl ⟨rfl, rfl⟩

theorem times_any (a b : Int) (w : World) (h1 : -9223372036854775808 ≤ a) (h2 : a ≤ 9223372036854775807) (h3 : 1 ≤ b) (h4 : b ≤ 9223372036854775807) :
    Calls Try.prog 48 #[.int .i64 a, .int .i64 b] w fun e w' => e = .returned (.agg #[.int .i64 ((a * b) / 18446744073709551616), .int .u64 ((a * b) % 18446744073709551616)]) ∧ Below w.heap.size w w' :=
  (times_eq a b w h1 h2 h3 h4).mono fun _ _ ⟨x, y⟩ => ⟨x, y ▸ up1 _ _⟩

theorem run_sub_nat (x y : Nat) (w : World) :
    (callFunc 62 #[.int .u64 x, .int .u64 y, .int .u64 0]).run Try.prog w = .ok (.value (.tuple #[.int .u64 (Int.ofNat ((x + 2 ^ 64 - y - 0) % 2 ^ 64)), .int .u64 (Int.ofNat (if x < y + 0 then 1 else 0))])) w := by
  rw [run_callFunc_extern (e := (Extern.MathBitsCarry.rows[1]'(by decide)).2) Try.func62 (by kernel_rfl) (by kernel_rfl) (by kernel_rfl) (by kernel_rfl)]
  rfl
theorem run_sub (x y : Int) (hx : 0 ≤ x) (hx' : x ≤ 18446744073709551615) (hy : 0 ≤ y) (hy' : y ≤ 18446744073709551615) (w : World) :
    (callFunc 62 #[.int .u64 x, .int .u64 y, .int .u64 0]).run Try.prog w = .ok (.value (.tuple #[.int .u64 ((x - y) % 18446744073709551616), .int .u64 (-((x - y) / 18446744073709551616))])) w := by
  obtain ⟨a, rfl⟩ := Int.eq_ofNat_of_zero_le hx
  obtain ⟨b, rfl⟩ := Int.eq_ofNat_of_zero_le hy
  rw [run_sub_nat]
  have e1 : Int.ofNat ((a + 2 ^ 64 - b - 0) % 2 ^ 64) = ((a : Int) - b) % 18446744073709551616 := by simp only [Int.ofNat_eq_natCast]; omega
  have e2 : Int.ofNat (if a < b + 0 then 1 else 0) = -(((a : Int) - b) / 18446744073709551616) := by
    split
    · simp only [Int.ofNat_eq_natCast]; omega
    · simp only [Int.ofNat_eq_natCast]; omega
  rw [e1, e2]

/-- whole numbers that the calls make of two fractions and a bound. -/
def Fits (V : Int) : Prop := -1298074214633706907132624082305024 ≤ V ∧ V ≤ 1298074214633706907132624082305024

theorem minus_raw (h1 l1 h2 l2 : Int) (w : World) (a1 : -70368744177664 ≤ h1) (a2 : h1 ≤ 70368744177664) (b1 : -70368744177664 ≤ h2) (b2 : h2 ≤ 70368744177664) (c1 : 0 ≤ l1) (c2 : l1 ≤ 18446744073709551615) (d1 : 0 ≤ l2) (d2 : l2 ≤ 18446744073709551615) :
    Calls Try.prog 49 #[.agg #[.int .i64 h1, .int .u64 l1], .agg #[.int .i64 h2, .int .u64 l2]] w fun e w' => e = .returned (.agg #[.int .i64 (h1 - h2 - -((l1 - l2) / 18446744073709551616)), .int .u64 ((l1 - l2) % 18446744073709551616)]) ∧ w' = ((w.alloc (.cells #[.int .i64 h1, .int .u64 l1] 86)).alloc (.cells #[.int .i64 h2, .int .u64 l2] 86)).alloc (.cells #[.int .i64 (h1 - h2 - -((l1 - l2) / 18446744073709551616)), .int .u64 ((l1 - l2) % 18446744073709551616)] 86) := by
  have q1 : 0 ≤ -((l1 - l2) / 18446744073709551616) := by omega
  have q2 : -((l1 - l2) / 18446744073709551616) ≤ 1 := by omega
  have hr := run_sub l1 l2 c1 c2 d1 d2
  generalize -((l1 - l2) / 18446744073709551616) = Z at *
  go_enter Try.func49, Try.ntmps49
  go_wp2
  exact bodyPost_ret (v := .agg #[.int .i64 (h1 - h2 - Z), .int .u64 ((l1 - l2) % 18446744073709551616)]) (by simp [results, Try.results49, go_sem]) rfl ⟨rfl, rfl⟩
theorem minus_eq (V X : Int) (w : World) (hV : Fits V) (hX : Fits X) :
    Calls Try.prog 49 #[.agg #[.int .i64 ((V) / 18446744073709551616), .int .u64 ((V) % 18446744073709551616)], .agg #[.int .i64 ((X) / 18446744073709551616), .int .u64 ((X) % 18446744073709551616)]] w fun e w' => e = .returned (.agg #[.int .i64 ((V - X) / 18446744073709551616), .int .u64 ((V - X) % 18446744073709551616)]) ∧ w' = ((w.alloc (.cells #[.int .i64 (V / 18446744073709551616), .int .u64 (V % 18446744073709551616)] 86)).alloc (.cells #[.int .i64 (X / 18446744073709551616), .int .u64 (X % 18446744073709551616)] 86)).alloc (.cells #[.int .i64 ((V - X) / 18446744073709551616), .int .u64 ((V - X) % 18446744073709551616)] 86) := by
  obtain ⟨v1, v2⟩ := hV
  obtain ⟨x1, x2⟩ := hX
  refine (minus_raw _ _ _ _ w (by omega) (by omega) (by omega) (by omega) (by omega) (by omega) (by omega) (by omega)).mono ?_
  rintro e w' ⟨rfl, rfl⟩
  have hh : V / 18446744073709551616 - X / 18446744073709551616 - -((V % 18446744073709551616 - X % 18446744073709551616) / 18446744073709551616) = (V - X) / 18446744073709551616 := by omega
  have hl : (V % 18446744073709551616 - X % 18446744073709551616) % 18446744073709551616 = (V - X) % 18446744073709551616 := by omega
  rw [hh, hl]
  exact ⟨rfl, rfl⟩
theorem minus_any (V X : Int) (w : World) (hV : Fits V) (hX : Fits X) :
    Calls Try.prog 49 #[.agg #[.int .i64 ((V) / 18446744073709551616), .int .u64 ((V) % 18446744073709551616)], .agg #[.int .i64 ((X) / 18446744073709551616), .int .u64 ((X) % 18446744073709551616)]] w fun e w' => e = .returned (.agg #[.int .i64 ((V - X) / 18446744073709551616), .int .u64 ((V - X) % 18446744073709551616)]) ∧ Below w.heap.size w w' :=
  (minus_eq V X w hV hX).mono fun _ _ ⟨x, y⟩ => ⟨x, y ▸ up3 _ _ _ _⟩

theorem less_raw (h1 l1 h2 l2 : Int) (w : World) (r : Bool) (hr : (h1 < h2 ∨ (h1 = h2 ∧ l1 < l2)) ↔ r = true) :
    Calls Try.prog 51 #[.agg #[.int .i64 h1, .int .u64 l1], .agg #[.int .i64 h2, .int .u64 l2]] w fun e w' => e = .returned (.bool r) ∧ Below w.heap.size w w' := by
  by_cases t1 : h1 < h2
  · obtain rfl : r = true := hr.1 (.inl t1)
    clear hr
    go_enter Try.func51, Try.ntmps51
    go_wp2
    go_ret
    exact ⟨rfl, up2 _ _ _⟩
  · by_cases t2 : h1 = h2
    · subst t2
      by_cases t3 : l1 < l2
      · obtain rfl : r = true := hr.1 (.inr ⟨rfl, t3⟩)
        clear hr t1
        go_enter Try.func51, Try.ntmps51
        go_wp2
        go_ret
        exact ⟨rfl, up2 _ _ _⟩
      · obtain rfl : r = false := by cases r; rfl; exact (hr.2 rfl).elim (fun h => absurd h t1) (fun h => absurd h.2 t3)
        clear hr t1
        go_enter Try.func51, Try.ntmps51
        go_wp2
        go_ret
        exact ⟨rfl, up2 _ _ _⟩
    · obtain rfl : r = false := by cases r; rfl; exact (hr.2 rfl).elim (fun h => absurd h t1) (fun h => absurd h.1 t2)
      clear hr
      go_enter Try.func51, Try.ntmps51
      go_wp2
      go_ret
      exact ⟨rfl, up2 _ _ _⟩
/-- is a whole number less? -/
def ltB (a b : Int) : Bool := decide (a < b)
theorem less_any2 (V X : Int) (w : World) :
    Calls Try.prog 51 #[.agg #[.int .i64 ((V) / 18446744073709551616), .int .u64 ((V) % 18446744073709551616)], .agg #[.int .i64 ((X) / 18446744073709551616), .int .u64 ((X) % 18446744073709551616)]] w fun e w' => e = .returned (.bool (ltB V X)) ∧ Below w.heap.size w w' :=
  less_raw _ _ _ _ w _ (by unfold ltB; rw [decide_eq_true_iff]; omega)

theorem by_math (V b : Int) (hb : 1 ≤ b) : (V / 18446744073709551616 % b * 18446744073709551616 + V % 18446744073709551616) / b = V / b % 18446744073709551616 ∧ (V / 18446744073709551616 % b * 18446744073709551616 + V % 18446744073709551616) % b = V % b ∧ V / 18446744073709551616 / b = V / b / 18446744073709551616 := by
  have a := Int.mul_ediv_add_emod (V / 18446744073709551616) b
  have m0 := Int.emod_nonneg (V / 18446744073709551616) (show b ≠ 0 by omega)
  have m1 := Int.emod_lt_of_pos (V / 18446744073709551616) (show 0 < b by omega)
  have e : V = (V / 18446744073709551616 % b * 18446744073709551616 + V % 18446744073709551616) + b * (V / 18446744073709551616 / b * 18446744073709551616) := by
    rw [← Int.mul_assoc]
    generalize b * (V / 18446744073709551616 / b) = M at *
    omega
  generalize hX : V / 18446744073709551616 % b * 18446744073709551616 + V % 18446744073709551616 = X at *
  generalize V / 18446744073709551616 / b = H at *
  have x0 : 0 ≤ X := by omega
  have x1 : X < b * 18446744073709551616 := by omega
  have q0 : 0 ≤ X / b := Int.ediv_nonneg x0 (by omega)
  have q1 : X / b < 18446744073709551616 := Int.ediv_lt_of_lt_mul (by omega) (by omega)
  have ev : V / b = X / b + H * 18446744073709551616 := by conv => lhs; rw [e]
                                                           rw [Int.add_mul_ediv_left _ _ (by omega)]
  have em : V % b = X % b := by conv => lhs; rw [e]
                                rw [Int.add_mul_emod_self_left]
  rw [ev, em]
  refine ⟨by omega, rfl, by omega⟩
end Go.Proofs.Ytlagnbbbokgdfaa.rat
