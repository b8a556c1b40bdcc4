/-
  What the document's own answer for a whole number and a part of one is (rallentandoref03.Made); each theorem names its conditions.
-/
import Derived.Test.YtbmadhejdnkeeaaRatRef
namespace Go.Proofs.Ytbmadhejdnkeeaa.rref
open Go.ChangeShapes Go.WideShapes Go.ChangeAt Go.RowKit rmath bound num rat
set_option linter.unusedVariables false

set_option maxHeartbeats 4000000 in
theorem made_a (n p y g pa Q Z : Int) (m : Bool) (w : World) (n1 : 0 ≤ n) (n2 : n ≤ 2305843009213693952) (p0 : 0 ≤ p) (p1 : p < y) (y1 : 1 ≤ y) (y2 : y ≤ 2199023255552) (hg : RowKit.Hid (gcdI p y = g)) (g1 : 1 ≤ g) (g2 : g ≤ y)
    (epa : p / g = pa) (eQ : y / g = Q) (a0 : 0 ≤ pa) (a1 : pa < Q) (q1 : 1 ≤ Q) (q2 : Q ≤ 1048576) (P1 : 0 ≤ n * Q) (P2 : n * Q + pa ≤ 9223372036854775807)
    (h1 : max 0 pa = pa) (h2 : min 0 pa = 0) (h3 : ¬ (9223372036854775807 - pa) / Q < n) (eZ : (-9223372036854775808 : Int).tdiv Q = Z) (Z1 : -9223372036854775808 ≤ Z) (Z2 : Z ≤ 9223372036854775807) (h4 : ¬ n < Z)
    (cM : RowKit.Hid (law.Says 40 #[.agg #[.int .i64 (n * Q + pa), .int .i64 (Q)]] (.bool m))) :
    Calls Try.prog 43 #[.int .i64 n, .int .i64 p, .int .i64 y] w fun e w' => e = .returned (.tuple #[.agg #[.int .i64 (n * Q + pa), .int .i64 (Q)], .bool m]) ∧ Below w.heap.size w w' := by
  have t1 : ¬ g = 0 := by omega
  have t2 : ¬ Q = 0 := by omega
  have r0 := lies.made w 23 #[.int .i64 0, .int .i64 0]
  have K := up1 w (.cells #[.int .i64 0, .int .i64 0] 23)
  have u1 : ¬ n < 0 := by omega
  have q0 : ∀ j : Nat, lies.Lies (((w.alloc (.cells #[.int .i64 0, .int .i64 0] 23)).drewN j).alloc (.cells #[.int .i64 (n * Q + pa), .int .i64 Q] 23)) (w.heap.size + 1) 23 #[.int .i64 (n * Q + pa), .int .i64 Q] := fun j => lies.made_at _ _ _ _ (by simp)
  have Q0 := Lib.hid q0
  clear q0
  go_enter Try.func43, Try.ntmps43
  go_wp2_with (go_at_call 49; refine (common_any _ _ _ (by omega) (by omega) (by omega) (by omega)).mono ?_; rintro e w' ⟨rfl, k, rfl⟩; rw [hg.out])
  have q1' := Q0.out k
  have r1' := lies.on_alloc (lies.on_draw r0 k) (.cells #[.int .i64 (n * Q + pa), .int .i64 Q] 23)
  have K1 := up (drawn K k) (.cells #[.int .i64 (n * Q + pa), .int .i64 Q] 23)
  go_region_held3 (fun W => W.cell? ⟨w.heap.size + 1, 0, none⟩ = some (.int .i64 (n * Q + pa)) ∧ W.cell? ⟨w.heap.size + 1, 1, none⟩ = some (.int .i64 Q)) ((refine lies.pair (t := 23) ?_ <;> repeat (first | with_reducible exact q1' | with_reducible refine lies.on_drew ?_ | with_reducible refine lies.on_far ?_ _ (by omega) _ | with_reducible refine lies.on_call ?_ hN)))
    (first | ((with_reducible refine (said cM _).mono ?_); rintro e w1 ⟨rfl, hN⟩; have r2 := lies.on_call (lies.on_drew r1') hN; obtain ⟨z0, z1, z2, z3, z4⟩ := lies.two r2))
  all_goals
    go_wp2_with fail
    exact bodyPost_ret (v := .tuple #[.agg #[.int .i64 (n * Q + pa), .int .i64 (Q)], .bool m]) (by simp [results, Try.results43, go_sem, z0, z1]) rfl ⟨rfl, ((later (lies.frame_drew K1) hN).setCell (Nat.le_refl _) _).setCell (Nat.le_refl _) _⟩

set_option maxHeartbeats 4000000 in
theorem made_b (n p y g pa Q : Int) (w : World) (n1 : 0 ≤ n) (n2 : n ≤ 2305843009213693952) (p0 : 0 ≤ p) (p1 : p < y) (y1 : 1 ≤ y) (y2 : y ≤ 2199023255552) (hg : RowKit.Hid (gcdI p y = g)) (g1 : 1 ≤ g) (g2 : g ≤ y)
    (epa : p / g = pa) (eQ : y / g = Q) (a0 : 0 ≤ pa) (a1 : pa < Q) (q1 : 1 ≤ Q) (q2 : Q ≤ 1048576) (h1 : max 0 pa = pa) (h3 : (9223372036854775807 - pa) / Q < n) :
    Calls Try.prog 43 #[.int .i64 n, .int .i64 p, .int .i64 y] w fun e w' => e = .returned (.tuple #[.agg #[.int .i64 (0), .int .i64 (0)], .bool false]) ∧ Below w.heap.size w w' := by
  have t1 : ¬ g = 0 := by omega
  have t2 : ¬ Q = 0 := by omega
  have r0 := lies.made w 23 #[.int .i64 0, .int .i64 0]
  have K := up1 w (.cells #[.int .i64 0, .int .i64 0] 23)
  have u1 : ¬ n < 0 := by omega
  go_enter Try.func43, Try.ntmps43
  go_wp2_with (go_at_call 49; refine (common_any _ _ _ (by omega) (by omega) (by omega) (by omega)).mono ?_; rintro e w' ⟨rfl, k, rfl⟩; rw [hg.out])
  exact bodyPost_ret (v := .tuple #[.agg #[.int .i64 (0), .int .i64 (0)], .bool false]) (by simp [results, Try.results43, go_sem]) rfl ⟨rfl, by first | exact drawn K _ | exact ((drawn K _).setCell (Nat.le_refl _) _).setCell (Nat.le_refl _) _⟩

set_option maxHeartbeats 4000000 in
theorem made_d (n p y g pa Q Z : Int) (w : World) (n1 : n < 0) (n2 : -2305843009213693952 ≤ n) (p0 : 0 ≤ p) (p1 : p < y) (y1 : 1 ≤ y) (y2 : y ≤ 2199023255552) (hg : RowKit.Hid (gcdI p y = g)) (g1 : 1 ≤ g) (g2 : g ≤ y)
    (epa : p / g = pa) (eQ : y / g = Q) (a0 : 0 ≤ pa) (a1 : pa < Q) (q1 : 1 ≤ Q) (q2 : Q ≤ 1048576) (h1 : max 0 (pa - Q) = 0) (h2 : min 0 (pa - Q) = pa - Q) (h3 : ¬ 9223372036854775807 / Q < n + 1) (eZ : (-9223372036854775808 - (pa - Q)).tdiv Q = Z) (Z1 : -9223372036854775808 ≤ Z) (Z2 : Z ≤ 9223372036854775807) (h4 : n + 1 < Z) :
    Calls Try.prog 43 #[.int .i64 n, .int .i64 p, .int .i64 y] w fun e w' => e = .returned (.tuple #[.agg #[.int .i64 (0), .int .i64 (0)], .bool false]) ∧ Below w.heap.size w w' := by
  have t1 : ¬ g = 0 := by omega
  have t2 : ¬ Q = 0 := by omega
  have r0 := lies.made w 23 #[.int .i64 0, .int .i64 0]
  have K := up1 w (.cells #[.int .i64 0, .int .i64 0] 23)
  go_enter Try.func43, Try.ntmps43
  go_wp2_with (go_at_call 49; refine (common_any _ _ _ (by omega) (by omega) (by omega) (by omega)).mono ?_; rintro e w' ⟨rfl, k, rfl⟩; rw [hg.out])
  exact bodyPost_ret (v := .tuple #[.agg #[.int .i64 (0), .int .i64 (0)], .bool false]) (by simp [results, Try.results43, go_sem]) rfl ⟨rfl, by first | exact drawn K _ | exact ((drawn K _).setCell (Nat.le_refl _) _).setCell (Nat.le_refl _) _⟩

set_option maxHeartbeats 4000000 in
theorem made_e (n p y g pa Q : Int) (w : World) (n1 : -9223372036854775807 ≤ n) (n2 : n ≤ 9223372036854775807) (p0 : 0 ≤ p) (p1 : p < y) (y1 : 1 ≤ y) (y2 : y ≤ 2199023255552) (hg : RowKit.Hid (gcdI p y = g)) (g1 : 1 ≤ g) (g2 : g ≤ y)
    (epa : p / g = pa) (eQ : y / g = Q) (a0 : 0 ≤ pa) (a1 : pa < Q) (q1 : 1 ≤ Q) (h : 1048576 < Q ∨ (Q ≤ 1048576 ∧ 2305843009213693952 < n) ∨ (Q ≤ 1048576 ∧ n < -2305843009213693952)) :
    Calls Try.prog 43 #[.int .i64 n, .int .i64 p, .int .i64 y] w fun e w' => e = .returned (.tuple #[.agg #[.int .i64 (0), .int .i64 (0)], .bool false]) ∧ Below w.heap.size w w' := by
  have t1 : ¬ g = 0 := by omega
  have t2 : ¬ Q = 0 := by omega
  have r0 := lies.made w 23 #[.int .i64 0, .int .i64 0]
  have K := up1 w (.cells #[.int .i64 0, .int .i64 0] 23)
  rcases h with h | ⟨h, h5⟩ | ⟨h, h5⟩
  all_goals
    go_enter Try.func43, Try.ntmps43
    go_wp2_with (go_at_call 49; refine (common_any _ _ _ (by omega) (by omega) (by omega) (by omega)).mono ?_; rintro e w' ⟨rfl, k, rfl⟩; rw [hg.out])
    exact bodyPost_ret (v := .tuple #[.agg #[.int .i64 (0), .int .i64 (0)], .bool false]) (by simp [results, Try.results43, go_sem]) rfl ⟨rfl, by first | exact drawn K _ | exact ((drawn K _).setCell (Nat.le_refl _) _).setCell (Nat.le_refl _) _⟩

set_option maxHeartbeats 4000000 in
theorem made_c (n p y g pa Q Z : Int) (m : Bool) (w : World) (n1 : n < 0) (n2 : -2305843009213693952 ≤ n) (p0 : 0 ≤ p) (p1 : p < y) (y1 : 1 ≤ y) (y2 : y ≤ 2199023255552) (hg : RowKit.Hid (gcdI p y = g)) (g1 : 1 ≤ g) (g2 : g ≤ y)
    (epa : p / g = pa) (eQ : y / g = Q) (a0 : 0 ≤ pa) (a1 : pa < Q) (q1 : 1 ≤ Q) (q2 : Q ≤ 1048576) (P1 : (n + 1) * Q ≤ 0) (P2 : -9223372036854775808 ≤ (n + 1) * Q + (pa - Q)) (P3 : -9223372036854775808 ≤ (n + 1) * Q)
    (h1 : max 0 (pa - Q) = 0) (h2 : min 0 (pa - Q) = pa - Q) (h3 : ¬ 9223372036854775807 / Q < n + 1) (eZ : (-9223372036854775808 - (pa - Q)).tdiv Q = Z) (Z1 : -9223372036854775808 ≤ Z) (Z2 : Z ≤ 9223372036854775807) (h4 : ¬ n + 1 < Z)
    (cM : RowKit.Hid (law.Says 40 #[.agg #[.int .i64 ((n + 1) * Q + (pa - Q)), .int .i64 (Q)]] (.bool m))) :
    Calls Try.prog 43 #[.int .i64 n, .int .i64 p, .int .i64 y] w fun e w' => e = .returned (.tuple #[.agg #[.int .i64 ((n + 1) * Q + (pa - Q)), .int .i64 (Q)], .bool m]) ∧ Below w.heap.size w w' := by
  have t1 : ¬ g = 0 := by omega
  have t2 : ¬ Q = 0 := by omega
  have r0 := lies.made w 23 #[.int .i64 0, .int .i64 0]
  have K := up1 w (.cells #[.int .i64 0, .int .i64 0] 23)
  have q0 : ∀ j : Nat, lies.Lies (((w.alloc (.cells #[.int .i64 0, .int .i64 0] 23)).drewN j).alloc (.cells #[.int .i64 ((n + 1) * Q + (pa - Q)), .int .i64 Q] 23)) (w.heap.size + 1) 23 #[.int .i64 ((n + 1) * Q + (pa - Q)), .int .i64 Q] := fun j => lies.made_at _ _ _ _ (by simp)
  have Q0 := Lib.hid q0
  clear q0
  go_enter Try.func43, Try.ntmps43
  go_wp2_with (go_at_call 49; refine (common_any _ _ _ (by omega) (by omega) (by omega) (by omega)).mono ?_; rintro e w' ⟨rfl, k, rfl⟩; rw [hg.out])
  have q1' := Q0.out k
  have r1' := lies.on_alloc (lies.on_draw r0 k) (.cells #[.int .i64 ((n + 1) * Q + (pa - Q)), .int .i64 Q] 23)
  have K1 := up (drawn K k) (.cells #[.int .i64 ((n + 1) * Q + (pa - Q)), .int .i64 Q] 23)
  go_region_held3 (fun W => W.cell? ⟨w.heap.size + 1, 0, none⟩ = some (.int .i64 ((n + 1) * Q + (pa - Q))) ∧ W.cell? ⟨w.heap.size + 1, 1, none⟩ = some (.int .i64 Q)) ((refine lies.pair (t := 23) ?_ <;> repeat (first | with_reducible exact q1' | with_reducible refine lies.on_drew ?_ | with_reducible refine lies.on_far ?_ _ (by omega) _ | with_reducible refine lies.on_call ?_ hN)))
    (first | ((with_reducible refine (said cM _).mono ?_); rintro e w1 ⟨rfl, hN⟩; have r2 := lies.on_call (lies.on_drew r1') hN; obtain ⟨z0, z1, z2, z3, z4⟩ := lies.two r2))
  all_goals
    go_wp2_with fail
    exact bodyPost_ret (v := .tuple #[.agg #[.int .i64 ((n + 1) * Q + (pa - Q)), .int .i64 (Q)], .bool m]) (by simp [results, Try.results43, go_sem, z0, z1]) rfl ⟨rfl, ((later (lies.frame_drew K1) hN).setCell (Nat.le_refl _) _).setCell (Nat.le_refl _) _⟩
end Go.Proofs.Ytbmadhejdnkeeaa.rref
