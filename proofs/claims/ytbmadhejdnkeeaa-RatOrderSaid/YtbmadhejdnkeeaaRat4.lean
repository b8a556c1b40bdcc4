/-
  What Add and Mid of package rat answer (and part, which both stand on), for every two fractions; each theorem names its conditions.
-/
import Derived.Test.YtbmadhejdnkeeaaRat3
import Derived.Deep.RegionHeld3
import Derived.Deep.DeepCutAuto
namespace Go.Proofs.Ytbmadhejdnkeeaa.rat
open Go.ChangeShapes Go.WideShapes Go.ChangeAt Go.RowKit rmath bound num
set_option linter.unusedVariables false

theorem may_fits {a b d : Int} (h : MayR a b) (d1 : 1 ≤ d) (d2 : d ≤ 1048576) : Fits (a * d) ∧ -2535301200456458802993406410752 ≤ a * d ∧ a * d ≤ 2535301200456458802993406410752 := by
  obtain ⟨h1, h2, h3, h4, _⟩ := h
  have x1 : -2417851639229258349412352 ≤ a := by omega
  have x2 : a ≤ 2417851639229258349412352 := by omega
  have y1 := Int.mul_le_mul_of_nonneg_right x1 (show 0 ≤ d by omega)
  have y2 := Int.mul_le_mul_of_nonneg_right x2 (show 0 ≤ d by omega)
  unfold Fits
  omega
theorem dens_in {b d : Int} (b1 : 1 ≤ b) (b2 : b ≤ 1048576) (d1 : 1 ≤ d) (d2 : d ≤ 1048576) : 1 ≤ b * d ∧ b * d ≤ 1099511627776 := by
  have y1 := Int.mul_le_mul_of_nonneg_right b1 (show 0 ≤ d by omega)
  have y2 := Int.mul_le_mul_of_nonneg_right b2 (show 0 ≤ d by omega)
  omega

theorem part_no (a b c d k : Int) (w : World) (a1 : -9223372036854775808 ≤ a) (a2 : a ≤ 9223372036854775807) (c1 : -9223372036854775808 ≤ c) (c2 : c ≤ 9223372036854775807) (h : ¬ Both a b c d) :
    Calls Try.prog 30 #[.agg #[.int .i64 (a), .int .i64 (b)], .agg #[.int .i64 (c), .int .i64 (d)], .int .i64 k] w fun e w' => e = .returned (.tuple #[.agg #[.int .i64 (0), .int .i64 (0)], .int .i64 8]) ∧ Below w.heap.size w w' := by
  have H := Lib.hid h
  clear h
  have r0 := lies.made ((w.alloc (.cells #[.int .i64 a, .int .i64 b] 23)).alloc (.cells #[.int .i64 c, .int .i64 d] 23)) 23 #[.int .i64 0, .int .i64 0]
  rw [World.size_alloc, World.size_alloc] at r0
  go_enter Try.func30, Try.ntmps30
  go_wp2_with (go_at_call 31; refine (both_no _ _ _ _ _ a1 a2 c1 c2 H.out).mono ?_; rintro e w1 ⟨rfl, hB1⟩; have r1 := lies.on_call r0 hB1; obtain ⟨d10, d11, g10, g11, m1⟩ := lies.two r1)
  exact bodyPost_ret (v := .tuple #[.agg #[.int .i64 (0), .int .i64 (0)], .int .i64 8]) (by simp [results, Try.results30, go_sem, d10, d11]) rfl ⟨rfl, ((later (up3 _ _ _ _) hB1).setCell (by simp; omega) _).setCell (by simp; omega) _⟩

set_option maxHeartbeats 4000000 in
theorem part_ok (a b c d k P Q E : Int) (w : World) (a1 : -9223372036854775808 ≤ a) (a2 : a ≤ 9223372036854775807) (c1 : -9223372036854775808 ≤ c) (c2 : c ≤ 9223372036854775807) (k1 : 1 ≤ k) (k2 : k ≤ 2) (h : MayR a b) (h' : MayR c d)
    (eP : lowN (a * d + c * b) (b * d * k) = P) (eQ : lowD (a * d + c * b) (b * d * k) = Q) (eE : lowE (a * d + c * b) (b * d * k) = E) :
    Calls Try.prog 30 #[.agg #[.int .i64 (a), .int .i64 (b)], .agg #[.int .i64 (c), .int .i64 (d)], .int .i64 k] w fun e w' => e = .returned (.tuple #[.agg #[.int .i64 (P), .int .i64 (Q)], .int .i64 E]) ∧ Below w.heap.size w w' := by
  have b1 := h.1
  have b2 := h.2.1
  have d1 := h'.1
  have d2 := h'.2.1
  obtain ⟨f1, f2, f3⟩ := may_fits h d1 d2
  obtain ⟨g1, g2, g3⟩ := may_fits h' b1 b2
  obtain ⟨e1, e2⟩ := dens_in b1 b2 d1 d2
  have e3 : 1 ≤ b * d * k := by have := Int.mul_le_mul_of_nonneg_right e1 (show 0 ≤ k by omega); omega
  have e4 : b * d * k ≤ 2199023255552 := by have := Int.mul_le_mul_of_nonneg_right e2 (show 0 ≤ k by omega); omega
  have H := Lib.hid h
  have H' := Lib.hid h'
  have F := Lib.hid f1
  have G := Lib.hid g1
  have cL : RowKit.Hid (law.Says 28 #[.agg #[.int .i64 ((a * d + c * b) / 18446744073709551616), .int .u64 ((a * d + c * b) % 18446744073709551616)], .int .i64 (b * d * k)] (.tuple #[.agg #[.int .i64 (P), .int .i64 (Q)], .int .i64 E])) := Lib.hid (fun w => by rw [← eP, ← eQ, ← eE]; exact lowest_any _ _ w e3 (by omega) (by omega) (by omega))
  clear h h' f1 g1 eP eQ eE f2 f3 g2 g3
  have r0 := lies.made ((w.alloc (.cells #[.int .i64 a, .int .i64 b] 23)).alloc (.cells #[.int .i64 c, .int .i64 d] 23)) 23 #[.int .i64 0, .int .i64 0]
  have t0 := lies.on_alloc (lies.made (w.alloc (.cells #[.int .i64 a, .int .i64 b] 23)) 23 #[.int .i64 c, .int .i64 d]) (.cells #[.int .i64 0, .int .i64 0] 23)
  have s0 := lies.on_alloc (lies.on_alloc (lies.made w 23 #[.int .i64 a, .int .i64 b]) (.cells #[.int .i64 c, .int .i64 d] 23)) (.cells #[.int .i64 0, .int .i64 0] 23)
  rw [World.size_alloc, World.size_alloc] at r0
  rw [World.size_alloc] at t0
  go_enter Try.func30, Try.ntmps30
  go_upto_region 4 with (go_at_call 31; refine (both_ok _ _ _ _ _ a1 a2 c1 c2 H.out H'.out).mono ?_; rintro e w1 ⟨rfl, hB1⟩; have r1 := lies.on_call r0 hB1; have s1 := lies.on_call s0 hB1; have t1 := lies.on_call t0 hB1; obtain ⟨ca0, ca1, fa0, fa1, la⟩ := lies.two s1; obtain ⟨cb0, cb1, fb0, fb1, lb⟩ := lies.two t1)
  have K1 := later (up3 _ _ _ _) hB1
  clear r0 s0 t0 hB1
  go_cut [9] (fun s9 wx => ∃ g : Nat, s9 = .pointer (some ⟨g, 0, none⟩) ∧ lies.Lies wx g 59 #[.int .i64 ((a * d + c * b) / 18446744073709551616), .int .u64 ((a * d + c * b) % 18446744073709551616)] ∧ lies.Lies wx w.heap.size 23 #[.int .i64 a, .int .i64 b] ∧ lies.Lies wx (w.heap.size + 1) 23 #[.int .i64 c, .int .i64 d] ∧ lies.Lies wx (w.heap.size + 1 + 1) 23 #[.int .i64 0, .int .i64 0] ∧ Below w.heap.size w wx)
  case first =>
    go_region_held3 (fun W => W.cell? ⟨w.heap.size, 0, none⟩ = some (.int .i64 a) ∧ W.cell? ⟨w.heap.size, 1, none⟩ = some (.int .i64 b) ∧ W.cell? ⟨w.heap.size + 1, 0, none⟩ = some (.int .i64 c) ∧ W.cell? ⟨w.heap.size + 1, 1, none⟩ = some (.int .i64 d)) ((refine lies.four (t := 23) (s := 23) ?_ ?_ <;> repeat (first | with_reducible exact s1 | with_reducible exact t1 | with_reducible refine lies.on_drew ?_ | with_reducible refine lies.on_alloc ?_ _)))
      (first
        | (go_at_call_of 29 (Value.int .i64 a); refine (times_eq a d _ (by omega) (by omega) (by omega) (by omega)).mono ?_; rintro e w' ⟨rfl, rfl⟩)
        | (go_at_call_of 29 (Value.int .i64 c); refine (times_eq c b _ (by omega) (by omega) (by omega) (by omega)).mono ?_; rintro e w' ⟨rfl, rfl⟩)
        | (go_at_call 56; refine (plus_eq (a * d) (c * b) _ F.out G.out).mono ?_; rintro e w' ⟨rfl, rfl⟩))
    all_goals
      go_wp2_with fail
      go_meet
      refine ⟨_, rfl, ?_, ?_, ?_, ?_, ?_⟩
      · repeat (first | (with_reducible refine lies.made_at _ _ _ _ ?_; simp only [World.size_alloc]; done) | with_reducible refine lies.on_drew ?_ | with_reducible refine lies.on_alloc ?_ _)
      · repeat (first | with_reducible exact s1 | with_reducible refine lies.on_drew ?_ | with_reducible refine lies.on_alloc ?_ _)
      · repeat (first | with_reducible exact t1 | with_reducible refine lies.on_drew ?_ | with_reducible refine lies.on_alloc ?_ _)
      · repeat (first | with_reducible exact r1 | with_reducible refine lies.on_drew ?_ | with_reducible refine lies.on_alloc ?_ _)
      · repeat (first | with_reducible exact K1 | with_reducible refine lies.frame_drew ?_ | with_reducible refine lies.frame_up ?_ _)
  case rest =>
    obtain ⟨g, rfl, hg, hs, ht, hr, hB⟩ := hcut
    obtain ⟨x0, x1, x2, x3, x4⟩ := lies.two hg
    obtain ⟨y0, y1, y2, y3, y4⟩ := lies.two hs
    obtain ⟨z0, z1, z2, z3, z4⟩ := lies.two ht
    clear ca0 ca1 fa0 fa1 la cb0 cb1 fb0 fb1 lb
    have m1 : IntKind.i64.wrap (b * d) = b * d := IntWalk.i64_in _ (by omega)
    have m2 : IntKind.i64.wrap (b * d * k) = b * d * k := IntWalk.i64_in _ (by omega)
    go_wp2_with ((with_reducible refine (said cL _).mono ?_); rintro e w2 ⟨rfl, hB2⟩; have r2 := lies.on_call hr hB2; obtain ⟨d20, d21, g20, g21, n2⟩ := lies.two r2)
    exact bodyPost_ret (v := .tuple #[.agg #[.int .i64 (P), .int .i64 (Q)], .int .i64 E]) (by simp [results, Try.results30, go_sem, d20, d21]) rfl ⟨rfl, ((later hB hB2).setCell (by simp; omega) _).setCell (by simp; omega) _⟩

/-- what Add (k = 1) and Mid (k = 2) answer. -/
def partN (k a b c d : Int) : Int := if Both a b c d then lowN (a * d + c * b) (b * d * k) else 0
def partD (k a b c d : Int) : Int := if Both a b c d then lowD (a * d + c * b) (b * d * k) else 0
def partE (k a b c d : Int) : Int := if Both a b c d then lowE (a * d + c * b) (b * d * k) else 8
theorem part_any (a b c d k : Int) (w : World) (a1 : -9223372036854775808 ≤ a) (a2 : a ≤ 9223372036854775807) (c1 : -9223372036854775808 ≤ c) (c2 : c ≤ 9223372036854775807) (k1 : 1 ≤ k) (k2 : k ≤ 2) :
    Calls Try.prog 30 #[.agg #[.int .i64 (a), .int .i64 (b)], .agg #[.int .i64 (c), .int .i64 (d)], .int .i64 k] w fun e w' => e = .returned (.tuple #[.agg #[.int .i64 (partN k a b c d), .int .i64 (partD k a b c d)], .int .i64 (partE k a b c d)]) ∧ Below w.heap.size w w' := by
  unfold partN partD partE
  by_cases h : Both a b c d
  · rw [if_pos h, if_pos h, if_pos h]; exact part_ok a b c d k _ _ _ w a1 a2 c1 c2 k1 k2 h.1 h.2 rfl rfl rfl
  · rw [if_neg h, if_neg h, if_neg h]; exact part_no a b c d k w a1 a2 c1 c2 h

end Go.Proofs.Ytbmadhejdnkeeaa.rat
