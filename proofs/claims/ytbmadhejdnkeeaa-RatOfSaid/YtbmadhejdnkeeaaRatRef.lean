/-
  What the document's own answers of layer 3 are (rallentandoref03: Low, Part, common, alone, May, Check, Floor); each theorem names its conditions.
-/
import Derived.Test.YtbmadhejdnkeeaaRatFrac
namespace Go.Proofs.Ytbmadhejdnkeeaa.rref
open Go.ChangeShapes Go.WideShapes Go.ChangeAt Go.RowKit rmath bound num rat
set_option linter.unusedVariables false

theorem low_any (a b : Int) (w : World) (hb : 1 ≤ b) (hb' : b ≤ 9223372036854775807) (l : -9223372036854775808 ≤ a) (u : a ≤ 9223372036854775807) :
    Calls Try.prog 44 #[.int .i64 a, .int .i64 b] w fun e w' => e = .returned (.int .i64 (a / b)) ∧ w = w' := by
  have t1 : ¬ b = 0 := by omega
  have m0 := Int.emod_nonneg a t1
  have m1 := Int.emod_lt_of_pos a (show 0 < b by omega)
  obtain ⟨d0, d1⟩ := ediv_in a b hb l u
  by_cases ha : 0 ≤ a
  · have e0 := Int.ediv_nonneg ha (show 0 ≤ b by omega)
    have t2 : ¬ a % b < 0 := by omega
    go_enter Try.func44, Try.ntmps44
    go_wp2
    go_ret
    exact ⟨rfl, rfl⟩
  · have d2 := Int.ediv_neg_of_neg_of_pos (show a < 0 by omega) (show 0 < b by omega)
    rcases tdiv_cases a b hb (by omega) with ⟨c1, c2, c3⟩ | ⟨c1, c2, c3⟩
    · go_enter Try.func44, Try.ntmps44
      go_wp2
      go_ret
      exact ⟨rfl, rfl⟩
    · have t2 : a % b - b < 0 := by omega
      go_enter Try.func44, Try.ntmps44
      go_wp2
      go_ret
      exact ⟨rfl, rfl⟩
theorem part_any (a b : Int) (w : World) (hb : 1 ≤ b) (hb' : b ≤ 9223372036854775807) (l : -9223372036854775808 ≤ a) (u : a ≤ 9223372036854775807) :
    Calls Try.prog 42 #[.int .i64 a, .int .i64 b] w fun e w' => e = .returned (.int .i64 (a % b)) ∧ w = w' := by
  have t1 : ¬ b = 0 := by omega
  have m0 := Int.emod_nonneg a t1
  have m1 := Int.emod_lt_of_pos a (show 0 < b by omega)
  by_cases ha : 0 ≤ a
  · have t2 : ¬ a % b < 0 := by omega
    go_enter Try.func42, Try.ntmps42
    go_wp2
    go_ret
    exact ⟨rfl, rfl⟩
  · rcases tdiv_cases a b hb (by omega) with ⟨c1, c2, c3⟩ | ⟨c1, c2, c3⟩
    · clear c2
      go_enter Try.func42, Try.ntmps42
      go_wp2
      go_ret
      exact ⟨rfl, rfl⟩
    · have t2 : a % b - b < 0 := by omega
      clear c2
      go_enter Try.func42, Try.ntmps42
      go_wp2
      go_ret
      exact ⟨rfl, rfl⟩

set_option maxHeartbeats 400000 in
theorem common_nat (a b : Nat) (w : World) (ha : a ≤ 9223372036854775807) (hb : b ≤ 9223372036854775807) :
    Calls Try.prog 49 #[.int .i64 a, .int .i64 b] w fun e w' => e = .returned (.int .i64 (Nat.gcd a b : Nat)) ∧ ∃ n, w' = w.drewN n := by
  go_enter Try.func49, Try.ntmps49
  go_wp2
  go_loopw [0, 1] (fun s0 s1 wr => ∃ x y : Nat, s0 = .int .i64 x ∧ s1 = .int .i64 y ∧ x ≤ 9223372036854775807 ∧ y ≤ 9223372036854775807 ∧ Nat.gcd x y = Nat.gcd a b ∧ ∃ n, wr = w.drewN n) (fun _ s1 _ => (intOf s1).toNat)
  case atStart => exact ⟨a, b, rfl, rfl, ha, hb, rfl, 0, rfl⟩
  case round =>
    obtain ⟨x, y, rfl, rfl, hx, hy, hg, n, rfl⟩ := hrel
    have G := Lib.hid hg
    clear hg
    by_cases h0 : 0 < y
    · have t1 : ¬ (y : Int) = 0 := by omega
      have t2 : ((y : Int) != 0) = true := by simp; omega
      go_wp2
      go_quiet (fail)
      go_wp2
      go_roundw
      case rel => exact ⟨y, x % y, rfl, rfl, hy, by have := Nat.mod_lt x h0; omega, by rw [← G.out, Nat.gcd_comm x y, Nat.gcd_rec y x, Nat.gcd_comm], _, by rw [World.drewN_drewN]⟩
      case measure => have := Nat.mod_lt x h0; simp [intOf]; omega
    · obtain rfl : y = 0 := by omega
      go_wp2
      go_ret
      exact ⟨by rw [← G.out, Nat.gcd_zero_right]; rfl, n, rfl⟩
theorem common_any (a b : Int) (w : World) (ha : 0 ≤ a) (ha' : a ≤ 9223372036854775807) (hb : 0 ≤ b) (hb' : b ≤ 9223372036854775807) :
    Calls Try.prog 49 #[.int .i64 a, .int .i64 b] w fun e w' => e = .returned (.int .i64 (gcdI a b)) ∧ ∃ n, w' = w.drewN n := by
  obtain ⟨x, rfl⟩ := Int.eq_ofNat_of_zero_le ha
  obtain ⟨y, rfl⟩ := Int.eq_ofNat_of_zero_le hb
  exact common_nat x y w (by omega) (by omega)

set_option maxHeartbeats 1000000 in
theorem alone_k (n d g : Int) (r : Bool) (w : World) (n1 : -9223372036854775808 ≤ n) (n2 : n ≤ 9223372036854775807) (h : 1 ≤ d) (h' : d ≤ 9223372036854775807) (hg : RowKit.Hid (gcdI (n % d) d = g)) (hr : (g == 1) = r) :
    Calls Try.prog 58 #[.agg #[.int .i64 (n), .int .i64 (d)]] w fun e w' => e = .returned (.bool r) ∧ Below w.heap.size w w' := by
  obtain ⟨_, b, c⟩ := div_mul n d h
  have s1 := lies.made w 23 #[.int .i64 n, .int .i64 d]
  have K1 := up1 w (.cells #[.int .i64 n, .int .i64 d] 23)
  go_enter Try.func58, Try.ntmps58
  go_wp2_with fail
  go_region_held3 (fun W => W.cell? ⟨w.heap.size, 0, none⟩ = some (.int .i64 n) ∧ W.cell? ⟨w.heap.size, 1, none⟩ = some (.int .i64 d)) ((refine lies.pair (t := 23) ?_ <;> repeat (first | with_reducible exact s1 | with_reducible refine lies.on_drew ?_ | with_reducible refine lies.on_draw ?_ _)))
    (first
      | (go_at_call 42; refine (part_any _ _ _ (by omega) (by omega) (by omega) (by omega)).mono ?_; rintro e w' ⟨rfl, rfl⟩)
      | (go_at_call 49; refine (common_any _ _ _ (by omega) (by omega) (by omega) (by omega)).mono ?_; rintro e w' ⟨rfl, k, rfl⟩; rw [hg.out]))
  all_goals
    go_wp2_with fail
    go_ret
    exact ⟨rfl, drawn K1 _⟩

/-- a fraction may be. -/
def mayB (n d : Int) : Bool := decide (MayR n d)
theorem mayB_yes {n d : Int} (h : MayR n d) : mayB n d = true := decide_eq_true h
theorem mayB_no {n d : Int} (h : ¬ MayR n d) : mayB n d = false := decide_eq_false h
theorem may_den (n d : Int) (w : World) (h : d < 1 ∨ 1048576 < d) :
    Calls Try.prog 40 #[.agg #[.int .i64 (n), .int .i64 (d)]] w fun e w' => e = .returned (.bool false) ∧ Below w.heap.size w w' := by
  by_cases t1 : d < 1
  · clear h
    go_enter Try.func40, Try.ntmps40
    go_wp2
    go_ret
    exact ⟨rfl, up1 _ _⟩
  · have t2 : 1048576 < d := by omega
    clear h
    go_enter Try.func40, Try.ntmps40
    go_wp2
    go_ret
    exact ⟨rfl, up1 _ _⟩

set_option maxHeartbeats 2000000 in
theorem may_k (n d : Int) (al r : Bool) (w : World) (n1 : -9223372036854775808 ≤ n) (n2 : n ≤ 9223372036854775807) (h : 1 ≤ d) (h' : d ≤ 1048576) (cA : RowKit.Hid (law.Says 58 #[.agg #[.int .i64 (n), .int .i64 (d)]] (.bool al)))
    (hr : (al = false ∧ r = false) ∨ (al = true ∧ n / d < -2305843009213693952 ∧ r = false) ∨ (al = true ∧ -2305843009213693952 ≤ n / d ∧ n / d < 2305843009213693952 ∧ r = true) ∨ (al = true ∧ n / d = 2305843009213693952 ∧ n % d = 0 ∧ r = true) ∨ (al = true ∧ n / d = 2305843009213693952 ∧ (n % d == 0) = false ∧ r = false) ∨ (al = true ∧ 2305843009213693952 < n / d ∧ r = false)) :
    Calls Try.prog 40 #[.agg #[.int .i64 (n), .int .i64 (d)]] w fun e w' => e = .returned (.bool r) ∧ Below w.heap.size w w' := by
  have t1 : ¬ d < 1 := by omega
  have t2 : ¬ 1048576 < d := by omega
  have s := lies.made w 23 #[.int .i64 n, .int .i64 d]
  have K := up1 w (.cells #[.int .i64 n, .int .i64 d] 23)
  rcases hr with ⟨rfl, rfl⟩ | ⟨rfl, p1, rfl⟩ | ⟨rfl, p1, p2, rfl⟩ | ⟨rfl, p1, p2, rfl⟩ | ⟨rfl, p1, p2, rfl⟩ | ⟨rfl, p1, rfl⟩
  all_goals (try have p3 : ¬ n / d < -2305843009213693952 := by omega)
  all_goals (try have p4 : ¬ n / d < 2305843009213693952 := by omega)
  all_goals (try have p5 : ((n / d) == 2305843009213693952) = false := by simp; omega)
  all_goals
    go_enter Try.func40, Try.ntmps40
    go_wp2_with (first
      | ((with_reducible refine (said cA _).mono ?_); rintro e w1 ⟨rfl, hN⟩; (replace K := later K hN); (replace s := lies.on_call s hN); clear hN; obtain ⟨s0, s1, s2, s3, s4⟩ := lies.two s)
      | (go_at_call 44; refine (low_any _ _ _ (by omega) (by omega) (by omega) (by omega)).mono ?_; rintro e w' ⟨rfl, rfl⟩)
      | (go_at_call 42; refine (part_any _ _ _ (by omega) (by omega) (by omega) (by omega)).mono ?_; rintro e w' ⟨rfl, rfl⟩))
    go_ret
    first | exact ⟨rfl, K⟩ | exact ⟨by rw [decide_eq_false (show ¬ n / d < 2305843009213693952 by omega)]; rfl, K⟩

theorem may_any (n d : Int) (w : World) (n1 : -9223372036854775808 ≤ n) (n2 : n ≤ 9223372036854775807) :
    Calls Try.prog 40 #[.agg #[.int .i64 (n), .int .i64 (d)]] w fun e w' => e = .returned (.bool (mayB n d)) ∧ Below w.heap.size w w' := by
  by_cases h : d < 1 ∨ 1048576 < d
  · rw [mayB_no (fun k => by unfold MayR at k; omega)]
    exact may_den n d w h
  · have h1 : 1 ≤ d := by omega
    have h2 : d ≤ 1048576 := by omega
    obtain ⟨a, b, c⟩ := div_mul n d h1
    have k1 := le_div n d (-2305843009213693952) h1
    have k2 := le_div n d 2305843009213693952 h1
    have k3 := le_div n d 2305843009213693953 h1
    have g : gcdI (n % d) d = 1 ↔ Int.gcd n d = 1 := by
      rw [show gcdI (n % d) d = gcdI d (n % d) by unfold gcdI; rw [Int.gcd_comm], gcd_part]; unfold gcdI; omega
    have cA : RowKit.Hid (law.Says 58 #[.agg #[.int .i64 (n), .int .i64 (d)]] (.bool (gcdI (n % d) d == 1))) := Lib.hid (fun w => alone_k n d _ _ w n1 n2 h1 (by omega) (Lib.hid rfl) rfl)
    refine may_k n d _ _ w n1 n2 h1 h2 cA ?_
    by_cases e : gcdI (n % d) d = 1
    · have e' := g.1 e
      rw [e, show ((1 : Int) == 1) = true from rfl]
      by_cases q1 : n / d < -2305843009213693952
      · exact .inr (.inl ⟨rfl, q1, mayB_no (fun k => by have := k.2.2.1; omega)⟩)
      · by_cases q2 : n / d < 2305843009213693952
        · refine .inr (.inr (.inl ⟨rfl, by omega, q2, mayB_yes ⟨h1, h2, by omega, by omega, e'⟩⟩))
        · by_cases q3 : n / d = 2305843009213693952
          · rw [q3] at a
            by_cases q4 : n % d = 0
            · exact .inr (.inr (.inr (.inl ⟨rfl, q3, q4, mayB_yes ⟨h1, h2, by omega, by omega, e'⟩⟩)))
            · exact .inr (.inr (.inr (.inr (.inl ⟨rfl, q3, by simpa using q4, mayB_no (fun k => by have := k.2.2.2.1; omega)⟩))))
          · refine .inr (.inr (.inr (.inr (.inr ⟨rfl, by omega, mayB_no (fun k => ?_)⟩))))
            have := k.2.2.2.1
            have := k3.1 (by omega)
            omega
    · refine .inl ⟨by simpa using e, mayB_no (fun k => e (g.2 k.2.2.2.2))⟩

theorem check_any (n d : Int) (w : World) (n1 : -9223372036854775808 ≤ n) (n2 : n ≤ 9223372036854775807) :
    Calls Try.prog 24 #[.agg #[.int .i64 (n), .int .i64 (d)]] w fun e w' => e = .returned (.int .i64 (rchk n d)) ∧ Below w.heap.size w w' := by
  have cM : RowKit.Hid (law.Says 40 #[.agg #[.int .i64 (n), .int .i64 (d)]] (.bool (mayB n d))) := Lib.hid (fun w => may_any n d w n1 n2)
  by_cases h : MayR n d
  · rw [mayB_yes h] at cM
    rw [rchk_ok h]
    clear h
    go_enter Try.func24, Try.ntmps24
    go_wp2_with ((with_reducible refine (said cM _).mono ?_); rintro e w1 ⟨rfl, hN⟩)
    go_ret
    exact ⟨rfl, later (up1 _ _) hN⟩
  · rw [mayB_no h] at cM
    rw [rchk_no h]
    clear h
    go_enter Try.func24, Try.ntmps24
    go_wp2_with ((with_reducible refine (said cM _).mono ?_); rintro e w1 ⟨rfl, hN⟩)
    go_ret
    exact ⟨rfl, later (up1 _ _) hN⟩
end Go.Proofs.Ytbmadhejdnkeeaa.rref
