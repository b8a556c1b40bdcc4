/-
  What Add, Mid and Cmp of package rat answer, for every two fractions; each theorem names its conditions.
-/
import Derived.Test.YtbmadhejdnkeeaaRat4
namespace Go.Proofs.Ytbmadhejdnkeeaa.rat
open Go.ChangeShapes Go.WideShapes Go.ChangeAt Go.RowKit rmath bound num
set_option linter.unusedVariables false

theorem add3_k (a b c d P Q E : Int) (w : World) (a1 : -9223372036854775808 ≤ a) (a2 : a ≤ 9223372036854775807) (c1 : -9223372036854775808 ≤ c) (c2 : c ≤ 9223372036854775807) (eP : partN 1 a b c d = P) (eQ : partD 1 a b c d = Q) (eE : partE 1 a b c d = E) :
    Calls Try.prog 18 #[.agg #[.int .i64 (a), .int .i64 (b)], .agg #[.int .i64 (c), .int .i64 (d)]] w fun e w' => e = .returned (.tuple #[.agg #[.int .i64 (P), .int .i64 (Q)], .int .i64 E]) ∧ Below w.heap.size w w' := by
  have cL : RowKit.Hid (law.Says 30 #[.agg #[.int .i64 (a), .int .i64 (b)], .agg #[.int .i64 (c), .int .i64 (d)], .int .i64 1] (.tuple #[.agg #[.int .i64 (P), .int .i64 (Q)], .int .i64 E])) := Lib.hid (fun w => by rw [← eP, ← eQ, ← eE]; exact part_any a b c d 1 w a1 a2 c1 c2 (by omega) (by omega))
  clear eP eQ eE
  have r0 := lies.made ((w.alloc (.cells #[.int .i64 a, .int .i64 b] 23)).alloc (.cells #[.int .i64 c, .int .i64 d] 23)) 23 #[.int .i64 0, .int .i64 0]
  rw [World.size_alloc, World.size_alloc] at r0
  go_enter Try.func18, Try.ntmps18
  go_wp2_with ((with_reducible refine (said cL _).mono ?_); rintro e w1 ⟨rfl, hB1⟩; have r1 := lies.on_call r0 hB1; obtain ⟨d10, d11, g10, g11, m1⟩ := lies.two r1)
  exact bodyPost_ret (v := .tuple #[.agg #[.int .i64 (P), .int .i64 (Q)], .int .i64 E]) (by simp [results, Try.results18, go_sem, d10, d11]) rfl ⟨rfl, ((later (up3 _ _ _ _) hB1).setCell (by simp; omega) _).setCell (by simp; omega) _⟩
theorem add3_any (a b c d : Int) (w : World) (a1 : -9223372036854775808 ≤ a) (a2 : a ≤ 9223372036854775807) (c1 : -9223372036854775808 ≤ c) (c2 : c ≤ 9223372036854775807) :
    Calls Try.prog 18 #[.agg #[.int .i64 (a), .int .i64 (b)], .agg #[.int .i64 (c), .int .i64 (d)]] w fun e w' => e = .returned (.tuple #[.agg #[.int .i64 (partN 1 a b c d), .int .i64 (partD 1 a b c d)], .int .i64 (partE 1 a b c d)]) ∧ Below w.heap.size w w' :=
  add3_k a b c d _ _ _ w a1 a2 c1 c2 rfl rfl rfl
theorem mid3_k (a b c d P Q E : Int) (w : World) (a1 : -9223372036854775808 ≤ a) (a2 : a ≤ 9223372036854775807) (c1 : -9223372036854775808 ≤ c) (c2 : c ≤ 9223372036854775807) (eP : partN 2 a b c d = P) (eQ : partD 2 a b c d = Q) (eE : partE 2 a b c d = E) :
    Calls Try.prog 11 #[.agg #[.int .i64 (a), .int .i64 (b)], .agg #[.int .i64 (c), .int .i64 (d)]] w fun e w' => e = .returned (.tuple #[.agg #[.int .i64 (P), .int .i64 (Q)], .int .i64 E]) ∧ Below w.heap.size w w' := by
  have cL : RowKit.Hid (law.Says 30 #[.agg #[.int .i64 (a), .int .i64 (b)], .agg #[.int .i64 (c), .int .i64 (d)], .int .i64 2] (.tuple #[.agg #[.int .i64 (P), .int .i64 (Q)], .int .i64 E])) := Lib.hid (fun w => by rw [← eP, ← eQ, ← eE]; exact part_any a b c d 2 w a1 a2 c1 c2 (by omega) (by omega))
  clear eP eQ eE
  have r0 := lies.made ((w.alloc (.cells #[.int .i64 a, .int .i64 b] 23)).alloc (.cells #[.int .i64 c, .int .i64 d] 23)) 23 #[.int .i64 0, .int .i64 0]
  rw [World.size_alloc, World.size_alloc] at r0
  go_enter Try.func11, Try.ntmps11
  go_wp2_with ((with_reducible refine (said cL _).mono ?_); rintro e w1 ⟨rfl, hB1⟩; have r1 := lies.on_call r0 hB1; obtain ⟨d10, d11, g10, g11, m1⟩ := lies.two r1)
  exact bodyPost_ret (v := .tuple #[.agg #[.int .i64 (P), .int .i64 (Q)], .int .i64 E]) (by simp [results, Try.results11, go_sem, d10, d11]) rfl ⟨rfl, ((later (up3 _ _ _ _) hB1).setCell (by simp; omega) _).setCell (by simp; omega) _⟩
theorem mid3_any (a b c d : Int) (w : World) (a1 : -9223372036854775808 ≤ a) (a2 : a ≤ 9223372036854775807) (c1 : -9223372036854775808 ≤ c) (c2 : c ≤ 9223372036854775807) :
    Calls Try.prog 11 #[.agg #[.int .i64 (a), .int .i64 (b)], .agg #[.int .i64 (c), .int .i64 (d)]] w fun e w' => e = .returned (.tuple #[.agg #[.int .i64 (partN 2 a b c d), .int .i64 (partD 2 a b c d)], .int .i64 (partE 2 a b c d)]) ∧ Below w.heap.size w w' :=
  mid3_k a b c d _ _ _ w a1 a2 c1 c2 rfl rfl rfl

set_option maxHeartbeats 1000000 in
/-- whether the one is less than the other, of fractions whose numbers are not too great. -/
theorem cmp1_any (a b c d : Int) (w : World) (a1 : -9223372036854775808 ≤ a) (a2 : a ≤ 9223372036854775807) (c1 : -9223372036854775808 ≤ c) (c2 : c ≤ 9223372036854775807) (b1 : 1 ≤ b) (b2 : b ≤ 9223372036854775807) (d1 : 1 ≤ d) (d2 : d ≤ 9223372036854775807) :
    Calls Try.prog 38 #[.agg #[.int .i64 (a), .int .i64 (b)], .agg #[.int .i64 (c), .int .i64 (d)]] w fun e w' => e = .returned (.bool (ltB (a * d) (c * b))) ∧ Below w.heap.size w w' := by
  have s1 := lies.on_alloc (lies.made w 23 #[.int .i64 a, .int .i64 b]) (.cells #[.int .i64 c, .int .i64 d] 23)
  have t1 := lies.made (w.alloc (.cells #[.int .i64 a, .int .i64 b] 23)) 23 #[.int .i64 c, .int .i64 d]
  rw [World.size_alloc] at t1
  have K1 := up2 w (.cells #[.int .i64 a, .int .i64 b] 23) (.cells #[.int .i64 c, .int .i64 d] 23)
  generalize hL : ltB (a * d) (c * b) = r
  have cL : RowKit.Hid (law.Says 35 #[.agg #[.int .i64 ((a * d) / 18446744073709551616), .int .u64 ((a * d) % 18446744073709551616)], .agg #[.int .i64 ((c * b) / 18446744073709551616), .int .u64 ((c * b) % 18446744073709551616)]] (.bool r)) := Lib.hid (fun w => by rw [← hL]; exact less_any2 _ _ w)
  clear hL
  go_enter Try.func38, Try.ntmps38
  go_wp2_with fail
  go_region_held3 (fun W => W.cell? ⟨w.heap.size, 0, none⟩ = some (.int .i64 a) ∧ W.cell? ⟨w.heap.size, 1, none⟩ = some (.int .i64 b) ∧ W.cell? ⟨w.heap.size + 1, 0, none⟩ = some (.int .i64 c) ∧ W.cell? ⟨w.heap.size + 1, 1, none⟩ = some (.int .i64 d)) ((refine lies.four (t := 23) (s := 23) ?_ ?_ <;> repeat (first | with_reducible exact s1 | with_reducible exact t1 | with_reducible refine lies.on_drew ?_ | with_reducible refine lies.on_alloc ?_ _ | with_reducible refine lies.on_call ?_ hBL)))
      (first
        | (go_at_call_of 29 (Value.int .i64 a); refine (times_eq a d _ (by omega) (by omega) (by omega) (by omega)).mono ?_; rintro e w' ⟨rfl, rfl⟩)
        | (go_at_call_of 29 (Value.int .i64 c); refine (times_eq c b _ (by omega) (by omega) (by omega) (by omega)).mono ?_; rintro e w' ⟨rfl, rfl⟩)
        | ((with_reducible refine (said cL _).mono ?_); rintro e wL ⟨rfl, hBL⟩))
  all_goals
    go_wp2_with fail
    go_ret
    refine ⟨rfl, later ?_ hBL⟩
    repeat (first | with_reducible exact K1 | with_reducible refine lies.frame_drew ?_ | with_reducible refine lies.frame_up ?_ _)

set_option maxHeartbeats 2000000 in
theorem first_rat (a b c d : Int) (r : Bool) (g : Nat) (w : World) (hc : RowKit.Hid (law.Says 38 #[.agg #[.int .i64 (c), .int .i64 (d)], .agg #[.int .i64 (a), .int .i64 (b)]] (.bool r))) (h0 : RowKit.Hid (law.Says 38 #[.agg #[.int .i64 (a), .int .i64 (b)], .agg #[.int .i64 (a), .int .i64 (b)]] (.bool false)))
    (hl : lies.Lies w g 23 #[.int .i64 a, .int .i64 b, .int .i64 c, .int .i64 d]) :
    Calls Try.prog 39 #[.func (.func 38) #[] #[], .slice (some ⟨g, 0, none⟩) 2 2] w fun e w' => e = .returned (.int .i64 (if r then 1 else 0)) ∧ Below w.heap.size w w' := by
  go_enter Try.func39, Try.ntmps39
  go_wp2
  go_loopw [5, 6, 9] (fun p _ i wr => (lies.Lies wr g 23 #[.int .i64 a, .int .i64 b, .int .i64 c, .int .i64 d] ∧ Below w.heap.size w wr) ∧ ((i = .int .i64 0 ∧ p = .int .i64 0) ∨ (i = .int .i64 1 ∧ p = .int .i64 0) ∨ (i = .int .i64 2 ∧ p = .int .i64 (if r then 1 else 0)))) (fun _ _ i _ => (2 - intOf i).toNat)
  case atStart => exact ⟨⟨hl, Below.refl _ _⟩, .inl ⟨rfl, rfl⟩⟩
  case round =>
    obtain ⟨⟨hL, hB⟩, ⟨rfl, rfl⟩ | ⟨rfl, rfl⟩ | ⟨rfl, rfl⟩⟩ := hrel
    · go_wp2
      go_region_held3 (fun W => W.cell? ⟨g, 0, none⟩ = some (.int .i64 a) ∧ W.cell? ⟨g, 1, none⟩ = some (.int .i64 b) ∧ W.cell? ⟨g, 2, none⟩ = some (.int .i64 c) ∧ W.cell? ⟨g, 3, none⟩ = some (.int .i64 d)) ((refine lies.row (t := 23) ?_ <;> repeat (first | with_reducible exact hL | with_reducible refine lies.on_drew ?_ | with_reducible refine lies.on_call ?_ hBL)))
        (first
          | ((with_reducible refine (said h0 _).mono ?_); rintro e wL ⟨rfl, hBL⟩))
      go_wp2
      exact ⟨⟨⟨lies.on_call (lies.on_drew hL) hBL, later (lies.frame_drew hB) hBL⟩, .inr (.inl ⟨rfl, rfl⟩)⟩, by simp [intOf]⟩
    · go_wp2
      go_region_held3 (fun W => W.cell? ⟨g, 0, none⟩ = some (.int .i64 a) ∧ W.cell? ⟨g, 1, none⟩ = some (.int .i64 b) ∧ W.cell? ⟨g, 2, none⟩ = some (.int .i64 c) ∧ W.cell? ⟨g, 3, none⟩ = some (.int .i64 d)) ((refine lies.row (t := 23) ?_ <;> repeat (first | with_reducible exact hL | with_reducible refine lies.on_drew ?_ | with_reducible refine lies.on_call ?_ hBL)))
        (first
          | ((with_reducible refine (said hc _).mono ?_); rintro e wL ⟨rfl, hBL⟩))
      cases r
      · go_wp2
        exact ⟨⟨⟨lies.on_call (lies.on_drew hL) hBL, later (lies.frame_drew hB) hBL⟩, .inr (.inr ⟨rfl, rfl⟩)⟩, by simp [intOf]⟩
      · go_wp2
        exact ⟨⟨⟨lies.on_call (lies.on_drew hL) hBL, later (lies.frame_drew hB) hBL⟩, .inr (.inr ⟨rfl, rfl⟩)⟩, by simp [intOf]⟩
    · cases r
      · go_wp2
        go_ret
        exact ⟨rfl, hB⟩
      · go_wp2
        go_ret
        exact ⟨rfl, hB⟩
set_option maxHeartbeats 2000000 in
theorem first_wide (a b c d : Int) (r : Bool) (g : Nat) (w : World) (hc : RowKit.Hid (law.Says 34 #[.agg #[.int .i64 c, .int .u64 d], .agg #[.int .i64 a, .int .u64 b]] (.bool r))) (h0 : RowKit.Hid (law.Says 34 #[.agg #[.int .i64 a, .int .u64 b], .agg #[.int .i64 a, .int .u64 b]] (.bool false)))
    (hl : lies.Lies w g 59 #[.int .i64 a, .int .u64 b, .int .i64 c, .int .u64 d]) :
    Calls Try.prog 36 #[.func (.func 34) #[] #[], .slice (some ⟨g, 0, none⟩) 2 2] w fun e w' => e = .returned (.int .i64 (if r then 1 else 0)) ∧ Below w.heap.size w w' := by
  go_enter Try.func36, Try.ntmps36
  go_wp2
  go_loopw [5, 6, 9] (fun p _ i wr => (lies.Lies wr g 59 #[.int .i64 a, .int .u64 b, .int .i64 c, .int .u64 d] ∧ Below w.heap.size w wr) ∧ ((i = .int .i64 0 ∧ p = .int .i64 0) ∨ (i = .int .i64 1 ∧ p = .int .i64 0) ∨ (i = .int .i64 2 ∧ p = .int .i64 (if r then 1 else 0)))) (fun _ _ i _ => (2 - intOf i).toNat)
  case atStart => exact ⟨⟨hl, Below.refl _ _⟩, .inl ⟨rfl, rfl⟩⟩
  case round =>
    obtain ⟨⟨hL, hB⟩, ⟨rfl, rfl⟩ | ⟨rfl, rfl⟩ | ⟨rfl, rfl⟩⟩ := hrel
    · go_wp2
      go_region_held3 (fun W => W.cell? ⟨g, 0, none⟩ = some (.int .i64 a) ∧ W.cell? ⟨g, 1, none⟩ = some (.int .u64 b) ∧ W.cell? ⟨g, 2, none⟩ = some (.int .i64 c) ∧ W.cell? ⟨g, 3, none⟩ = some (.int .u64 d)) ((refine lies.row (t := 59) ?_ <;> repeat (first | with_reducible exact hL | with_reducible refine lies.on_drew ?_ | with_reducible refine lies.on_call ?_ hBL)))
        (first
          | ((with_reducible refine (said h0 _).mono ?_); rintro e wL ⟨rfl, hBL⟩))
      go_wp2
      exact ⟨⟨⟨lies.on_call (lies.on_drew hL) hBL, later (lies.frame_drew hB) hBL⟩, .inr (.inl ⟨rfl, rfl⟩)⟩, by simp [intOf]⟩
    · go_wp2
      go_region_held3 (fun W => W.cell? ⟨g, 0, none⟩ = some (.int .i64 a) ∧ W.cell? ⟨g, 1, none⟩ = some (.int .u64 b) ∧ W.cell? ⟨g, 2, none⟩ = some (.int .i64 c) ∧ W.cell? ⟨g, 3, none⟩ = some (.int .u64 d)) ((refine lies.row (t := 59) ?_ <;> repeat (first | with_reducible exact hL | with_reducible refine lies.on_drew ?_ | with_reducible refine lies.on_call ?_ hBL)))
        (first
          | ((with_reducible refine (said hc _).mono ?_); rintro e wL ⟨rfl, hBL⟩))
      cases r
      · go_wp2
        exact ⟨⟨⟨lies.on_call (lies.on_drew hL) hBL, later (lies.frame_drew hB) hBL⟩, .inr (.inr ⟨rfl, rfl⟩)⟩, by simp [intOf]⟩
      · go_wp2
        exact ⟨⟨⟨lies.on_call (lies.on_drew hL) hBL, later (lies.frame_drew hB) hBL⟩, .inr (.inr ⟨rfl, rfl⟩)⟩, by simp [intOf]⟩
    · cases r
      · go_wp2
        go_ret
        exact ⟨rfl, hB⟩
      · go_wp2
        go_ret
        exact ⟨rfl, hB⟩

theorem keeps1_any (V X : Int) (w : World) :
    Calls Try.prog 34 #[.agg #[.int .i64 ((V) / 18446744073709551616), .int .u64 ((V) % 18446744073709551616)], .agg #[.int .i64 ((X) / 18446744073709551616), .int .u64 ((X) % 18446744073709551616)]] w fun e w' => e = .returned (.bool (ltB V X)) ∧ Below w.heap.size w w' := by
  generalize hL : ltB V X = r
  have cL : RowKit.Hid (law.Says 35 #[.agg #[.int .i64 ((V) / 18446744073709551616), .int .u64 ((V) % 18446744073709551616)], .agg #[.int .i64 ((X) / 18446744073709551616), .int .u64 ((X) % 18446744073709551616)]] (.bool r)) := Lib.hid (fun w => by rw [← hL]; exact less_any2 _ _ w)
  clear hL
  go_enter Try.func34, Try.ntmps34
  go_wp2_with ((with_reducible refine (said cL _).mono ?_); rintro e wL ⟨rfl, hBL⟩)
  go_ret
  exact ⟨rfl, later (up2 _ _ _) hBL⟩

theorem ltB_self (a : Int) : ltB a a = false := by unfold ltB; simp
theorem ltB_yes {a b : Int} (h : a < b) : ltB a b = true := by unfold ltB; simpa using h
theorem ltB_no {a b : Int} (h : ¬ a < b) : ltB a b = false := by unfold ltB; simpa using h
end Go.Proofs.Ytbmadhejdnkeeaa.rat
