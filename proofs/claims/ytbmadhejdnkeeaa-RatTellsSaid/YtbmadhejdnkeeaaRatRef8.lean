/-
  What the document's own answer for middles is (rallentandoref03.Mid); each theorem names its conditions.
-/
import Derived.Test.YtbmadhejdnkeeaaRatRef7
namespace Go.Proofs.Ytbmadhejdnkeeaa.rref
open Go.ChangeShapes Go.WideShapes Go.ChangeAt Go.RowKit rmath bound num rat
set_option linter.unusedVariables false

set_option maxHeartbeats 1000000 in
theorem mid_no (a b c d : Int) (m n : Bool) (w : World)
    (c1 : RowKit.Hid (law.Says 40 #[.agg #[.int .i64 (a), .int .i64 (b)]] (.bool m)))
    (c2 : RowKit.Hid (law.Says 40 #[.agg #[.int .i64 (c), .int .i64 (d)]] (.bool n)))
    (h : m = false ∨ (m = true ∧ n = false)) :
    Calls Try.prog 20 #[.agg #[.int .i64 (a), .int .i64 (b)], .agg #[.int .i64 (c), .int .i64 (d)]] w fun e w' => e = .returned (.tuple #[.agg #[.int .i64 (0), .int .i64 (0)], .int .i64 8]) ∧ Below w.heap.size w w' := by
  have A := lies.on_alloc (lies.on_alloc (lies.made w 23 #[.int .i64 a, .int .i64 b]) (.cells #[.int .i64 c, .int .i64 d] 23)) (.cells #[.int .i64 0, .int .i64 0] 23)
  have C := lies.on_alloc (lies.made (w.alloc (.cells #[.int .i64 a, .int .i64 b] 23)) 23 #[.int .i64 c, .int .i64 d]) (.cells #[.int .i64 0, .int .i64 0] 23)
  have R := lies.made ((w.alloc (.cells #[.int .i64 a, .int .i64 b] 23)).alloc (.cells #[.int .i64 c, .int .i64 d] 23)) 23 #[.int .i64 0, .int .i64 0]
  rw [World.size_alloc] at C
  rw [World.size_alloc, World.size_alloc] at R
  have hB := up3 w (.cells #[.int .i64 a, .int .i64 b] 23) (.cells #[.int .i64 c, .int .i64 d] 23) (.cells #[.int .i64 0, .int .i64 0] 23)
  rcases h with rfl | ⟨rfl, rfl⟩
  all_goals
    go_enter Try.func20, Try.ntmps20
    go_wp2_with (first
      | ((with_reducible refine (said c1 _).mono ?_); rintro e w1 ⟨rfl, hN⟩; (replace hB := later hB hN); (replace A := lies.on_call A hN); (replace C := lies.on_call C hN); (replace R := lies.on_call R hN); clear hN; obtain ⟨A0, A1, A2, A3, A4⟩ := lies.two A; obtain ⟨C0, C1, C2, C3, C4⟩ := lies.two C; obtain ⟨R0, R1, R2, R3, R4⟩ := lies.two R)
      | ((with_reducible refine (said c2 _).mono ?_); rintro e w2 ⟨rfl, hN⟩; (replace hB := later hB hN); (replace A := lies.on_call A hN); (replace C := lies.on_call C hN); (replace R := lies.on_call R hN); clear hN; obtain ⟨A0, A1, A2, A3, A4⟩ := lies.two A; obtain ⟨C0, C1, C2, C3, C4⟩ := lies.two C; obtain ⟨R0, R1, R2, R3, R4⟩ := lies.two R))
    exact bodyPost_ret (v := .tuple #[.agg #[.int .i64 (0), .int .i64 (0)], .int .i64 8]) (by simp [results, Try.results20, go_sem, R0, R1]) rfl ⟨rfl, (hB.setCell (by simp; omega) _).setCell (by simp; omega) _⟩

set_option maxHeartbeats 8000000 in
theorem mid_k (a b c d B D x y h h1 T U q r N X Y E : Int) (w : World) (a1 : -9223372036854775808 ≤ a) (a2 : a ≤ 9223372036854775807) (c1 : -9223372036854775808 ≤ c) (c2 : c ≤ 9223372036854775807) (b1 : 1 ≤ b) (b2 : b ≤ 1048576) (d1 : 1 ≤ d) (d2 : d ≤ 1048576)
    (c1 : RowKit.Hid (law.Says 40 #[.agg #[.int .i64 (a), .int .i64 (b)]] (.bool true)))
    (c2 : RowKit.Hid (law.Says 40 #[.agg #[.int .i64 (c), .int .i64 (d)]] (.bool true)))
    (eB : b * d = B) (B1 : 1 ≤ B) (B2 : B ≤ 1099511627776) (eD : IntKind.i64.wrap (2 * B) = D) (D1 : 1 ≤ D) (D2 : D ≤ 2199023255552) (e1 : IntKind.i64.wrap (a % b * d) = x) (e2 : IntKind.i64.wrap (c % d * b) = y) (e3 : IntKind.i64.wrap (U % 2 * B) = h) (e8 : IntKind.i64.wrap (h + x) = h1) (e9 : IntKind.i64.wrap (h1 + y) = T) (e4 : IntKind.i64.wrap (a / b + c / d) = U) (U1 : -9223372036854775808 ≤ U) (U2 : U ≤ 9223372036854775807) (e5 : IntKind.i64.wrap (T.tdiv D) = q) (e6 : T.tmod D = r) (e7 : IntKind.i64.wrap (U / 2 + q) = N)
    (N1 : -9223372036854775807 ≤ N) (N2 : N ≤ 9223372036854775807) (r0 : 0 ≤ r) (r1 : r < D)
    (hz : RowKit.Hid ((lowOk (N * D + r) (D) ∧ X = lowP (N * D + r) (D) ∧ Y = lowQ (N * D + r) (D) ∧ E = 0) ∨ (¬ lowOk (N * D + r) (D) ∧ X = 0 ∧ Y = 0 ∧ E = 10))) :
    Calls Try.prog 20 #[.agg #[.int .i64 (a), .int .i64 (b)], .agg #[.int .i64 (c), .int .i64 (d)]] w fun e w' => e = .returned (.tuple #[.agg #[.int .i64 (X), .int .i64 (Y)], .int .i64 E]) ∧ Below w.heap.size w w' := by
  obtain ⟨_, y1, y2⟩ := div_mul a b b1
  obtain ⟨_, z1, z2⟩ := div_mul c d d1
  have t1 : ¬ D = 0 := by omega
  have A := lies.on_alloc (lies.on_alloc (lies.made w 23 #[.int .i64 a, .int .i64 b]) (.cells #[.int .i64 c, .int .i64 d] 23)) (.cells #[.int .i64 0, .int .i64 0] 23)
  have C := lies.on_alloc (lies.made (w.alloc (.cells #[.int .i64 a, .int .i64 b] 23)) 23 #[.int .i64 c, .int .i64 d]) (.cells #[.int .i64 0, .int .i64 0] 23)
  have R := lies.made ((w.alloc (.cells #[.int .i64 a, .int .i64 b] 23)).alloc (.cells #[.int .i64 c, .int .i64 d] 23)) 23 #[.int .i64 0, .int .i64 0]
  rw [World.size_alloc] at C
  rw [World.size_alloc, World.size_alloc] at R
  have hB := up3 w (.cells #[.int .i64 a, .int .i64 b] 23) (.cells #[.int .i64 c, .int .i64 d] 23) (.cells #[.int .i64 0, .int .i64 0] 23)
  go_enter Try.func20, Try.ntmps20
  go_wp2_with (first
    | ((with_reducible refine (said c1 _).mono ?_); rintro e w1 ⟨rfl, hN⟩; (replace hB := later hB hN); (replace A := lies.on_call A hN); (replace C := lies.on_call C hN); (replace R := lies.on_call R hN); clear hN; obtain ⟨A0, A1, A2, A3, A4⟩ := lies.two A; obtain ⟨C0, C1, C2, C3, C4⟩ := lies.two C; obtain ⟨R0, R1, R2, R3, R4⟩ := lies.two R)
    | ((with_reducible refine (said c2 _).mono ?_); rintro e w2 ⟨rfl, hN⟩; (replace hB := later hB hN); (replace A := lies.on_call A hN); (replace C := lies.on_call C hN); (replace R := lies.on_call R hN); clear hN; obtain ⟨A0, A1, A2, A3, A4⟩ := lies.two A; obtain ⟨C0, C1, C2, C3, C4⟩ := lies.two C; obtain ⟨R0, R1, R2, R3, R4⟩ := lies.two R))
  go_region_held3 (fun W => W.cell? ⟨w.heap.size, 0, none⟩ = some (.int .i64 a) ∧ W.cell? ⟨w.heap.size, 1, none⟩ = some (.int .i64 b) ∧ W.cell? ⟨w.heap.size + 1, 0, none⟩ = some (.int .i64 c) ∧ W.cell? ⟨w.heap.size + 1, 1, none⟩ = some (.int .i64 d)) ((refine lies.four (t := 23) (s := 23) ?_ ?_ <;> repeat (first | with_reducible exact A | with_reducible exact C | with_reducible refine lies.on_drew ?_ | with_reducible refine lies.on_draw ?_ _ | with_reducible refine lies.on_alloc ?_ _ | with_reducible refine lies.on_call ?_ hN | with_reducible refine lies.on_far ?_ _ (by omega) _)))
      (first | (go_at_call 44; refine (low_any _ _ _ (by omega) (by omega) (by omega) (by omega)).mono ?_; rintro e w' ⟨rfl, rfl⟩))
  go_wp2_with fail
  go_region_held3 (fun W => W.cell? ⟨w.heap.size, 0, none⟩ = some (.int .i64 a) ∧ W.cell? ⟨w.heap.size, 1, none⟩ = some (.int .i64 b) ∧ W.cell? ⟨w.heap.size + 1, 0, none⟩ = some (.int .i64 c) ∧ W.cell? ⟨w.heap.size + 1, 1, none⟩ = some (.int .i64 d)) ((refine lies.four (t := 23) (s := 23) ?_ ?_ <;> repeat (first | with_reducible exact A | with_reducible exact C | with_reducible refine lies.on_drew ?_ | with_reducible refine lies.on_draw ?_ _ | with_reducible refine lies.on_alloc ?_ _ | with_reducible refine lies.on_call ?_ hN | with_reducible refine lies.on_far ?_ _ (by omega) _)))
      (first | (go_at_call 42; refine (part_any _ _ _ (by omega) (by omega) (by omega) (by omega)).mono ?_; rintro e w' ⟨rfl, rfl⟩))
  go_upto_region 6 with fail
  go_cut [9, 10] (fun s8 s9 wx => ∃ (g : Nat) (z1 z2 : Int) (rr : Bool), s8 = .pointer (some ⟨g, 0, none⟩) ∧ s9 = .bool rr ∧ lies.Lies wx g 23 #[.int .i64 z1, .int .i64 z2] ∧ lies.Lies wx (w.heap.size + 1 + 1) 23 #[.int .i64 0, .int .i64 0] ∧ Below w.heap.size w wx ∧ ((lowOk (N * D + r) (D) ∧ rr = true ∧ z1 = lowP (N * D + r) (D) ∧ z2 = lowQ (N * D + r) (D)) ∨ (¬ lowOk (N * D + r) (D) ∧ rr = false)))
  case first =>
    go_region_held3 (fun W => W.cell? ⟨w.heap.size, 0, none⟩ = some (.int .i64 a) ∧ W.cell? ⟨w.heap.size, 1, none⟩ = some (.int .i64 b) ∧ W.cell? ⟨w.heap.size + 1, 0, none⟩ = some (.int .i64 c) ∧ W.cell? ⟨w.heap.size + 1, 1, none⟩ = some (.int .i64 d)) ((refine lies.four (t := 23) (s := 23) ?_ ?_ <;> repeat (first | with_reducible exact A | with_reducible exact C | with_reducible refine lies.on_drew ?_ | with_reducible refine lies.on_draw ?_ _ | with_reducible refine lies.on_alloc ?_ _ | with_reducible refine lies.on_call ?_ hN | with_reducible refine lies.on_far ?_ _ (by omega) _)))
      (first
        | (go_at_call 44; refine (low_any _ _ _ (by omega) (by omega) (by omega) (by omega)).mono ?_; rintro e w' ⟨rfl, rfl⟩)
        | (go_at_call 43; refine (made_any N r D _ (by omega) (by omega) (by omega) (by omega) (by omega) (by omega)).mono ?_; rintro e wN ⟨v1, v2, rr, rfl, hz2, hN⟩; have HZ := Lib.hid hz2; clear hz2; (try (have M8 : lies.Lies wN w2.heap.size 23 #[.int .i64 0, .int .i64 0] := lies.on_call (lies.on_drew (lies.on_drew (lies.on_drew (lies.made w2 23 #[.int .i64 0, .int .i64 0])))) hN; obtain ⟨M0, M1, M2, M3, M4⟩ := lies.two M8))))
    all_goals
      go_wp2_with fail
      go_meet
      refine ⟨_, v1, v2, rr, rfl, rfl, ?_, ?_, ?_, HZ.out⟩
      · first | exact lies.on_put (lies.on_put M8 0 _) 1 _ | exact lies.made _ _ _
      · repeat (first | with_reducible exact R | with_reducible refine lies.on_drew ?_ | with_reducible refine lies.on_alloc ?_ _ | with_reducible refine lies.on_call ?_ hN | with_reducible refine lies.on_far ?_ _ (by omega) _)
      · have hs := hB.size
        repeat (first | with_reducible exact hB | with_reducible refine lies.frame_drew ?_ | with_reducible refine lies.frame_up ?_ _ | with_reducible refine later ?_ hN | with_reducible refine Below.setCell ?_ hs _)
  case rest =>
    obtain ⟨g, v1, v2, rr, rfl, rfl, hg, hr, hB2, hz2⟩ := hcut
    obtain ⟨s0, s1, s2, s3, s4⟩ := lies.two hg
    obtain ⟨u0, u1, u2, u3, u4⟩ := lies.two hr
    have hw : w.heap.size ≤ w.heap.size + 1 + 1 := by omega
    rcases hz2 with ⟨k, rfl, rfl, rfl⟩ | ⟨k, rfl⟩
    · rcases hz.out with ⟨_, rfl, rfl, rfl⟩ | ⟨k2, _⟩
      · clear k
        go_wp2_with fail
        exact bodyPost_ret (v := .tuple #[.agg #[.int .i64 (lowP (N * D + r) (D)), .int .i64 (lowQ (N * D + r) (D))], .int .i64 0]) (by simp [results, Try.results20, go_sem, u0, u1]) rfl ⟨rfl, (hB2.setCell hw _).setCell hw _⟩
      · exact absurd k k2
    · rcases hz.out with ⟨k2, _⟩ | ⟨_, rfl, rfl, rfl⟩
      · exact absurd k2 k
      · clear k
        go_wp2_with fail
        exact bodyPost_ret (v := .tuple #[.agg #[.int .i64 (0), .int .i64 (0)], .int .i64 10]) (by simp [results, Try.results20, go_sem, u0, u1]) rfl ⟨rfl, (hB2.setCell hw _).setCell hw _⟩
end Go.Proofs.Ytbmadhejdnkeeaa.rref
