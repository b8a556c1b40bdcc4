/-
  What Add, Mid and Cmp of package rat answer, for every two fractions; each theorem names its conditions.
-/
import Derived.Test.YtlagnbbbokgdfaaRat4
namespace Go.Proofs.Ytlagnbbbokgdfaa.rat
open Go.ChangeShapes Go.WideShapes Go.ChangeAt Go.RowKit rmath bound num
set_option linter.unusedVariables false

set_option maxHeartbeats 2000000 in
theorem first_wide (a b c d : Int) (r : Bool) (g : Nat) (w : World) (hc : RowKit.Hid (law.Says 50 #[.agg #[.int .i64 c, .int .u64 d], .agg #[.int .i64 a, .int .u64 b]] (.bool r))) (h0 : RowKit.Hid (law.Says 50 #[.agg #[.int .i64 a, .int .u64 b], .agg #[.int .i64 a, .int .u64 b]] (.bool false)))
    (hl : lies.Lies w g 86 #[.int .i64 a, .int .u64 b, .int .i64 c, .int .u64 d]) :
    Calls Try.prog 52 #[.func (.func 50) #[] #[], .slice (some ⟨g, 0, none⟩) 2 2] w fun e w' => e = .returned (.int .i64 (if r then 1 else 0)) ∧ Below w.heap.size w w' := by
  go_enter Try.func52, Try.ntmps52
  go_wp2
  go_loopw [5, 6, 9] (fun p _ i wr => (lies.Lies wr g 86 #[.int .i64 a, .int .u64 b, .int .i64 c, .int .u64 d] ∧ Below w.heap.size w wr) ∧ ((i = .int .i64 0 ∧ p = .int .i64 0) ∨ (i = .int .i64 1 ∧ p = .int .i64 0) ∨ (i = .int .i64 2 ∧ p = .int .i64 (if r then 1 else 0)))) (fun _ _ i _ => (2 - intOf i).toNat)
  case atStart => exact ⟨⟨hl, Below.refl _ _⟩, .inl ⟨rfl, rfl⟩⟩
  case round =>
    obtain ⟨⟨hL, hB⟩, ⟨rfl, rfl⟩ | ⟨rfl, rfl⟩ | ⟨rfl, rfl⟩⟩ := hrel
    · go_wp2
      go_region_held3 (fun W => W.cell? ⟨g, 0, none⟩ = some (.int .i64 a) ∧ W.cell? ⟨g, 1, none⟩ = some (.int .u64 b) ∧ W.cell? ⟨g, 2, none⟩ = some (.int .i64 c) ∧ W.cell? ⟨g, 3, none⟩ = some (.int .u64 d)) ((refine lies.row (t := 86) ?_ <;> repeat (first | with_reducible exact hL | with_reducible refine lies.on_drew ?_ | with_reducible refine lies.on_call ?_ hBL)))
        (first
          | ((with_reducible refine (said h0 _).mono ?_); rintro e wL ⟨rfl, hBL⟩))
      go_wp2
      exact ⟨⟨⟨lies.on_call (lies.on_drew hL) hBL, later (lies.frame_drew hB) hBL⟩, .inr (.inl ⟨rfl, rfl⟩)⟩, by simp [intOf]⟩
    · go_wp2
      go_region_held3 (fun W => W.cell? ⟨g, 0, none⟩ = some (.int .i64 a) ∧ W.cell? ⟨g, 1, none⟩ = some (.int .u64 b) ∧ W.cell? ⟨g, 2, none⟩ = some (.int .i64 c) ∧ W.cell? ⟨g, 3, none⟩ = some (.int .u64 d)) ((refine lies.row (t := 86) ?_ <;> repeat (first | with_reducible exact hL | with_reducible refine lies.on_drew ?_ | with_reducible refine lies.on_call ?_ hBL)))
        (first
          | ((with_reducible refine (said hc _).mono ?_); rintro e wL ⟨rfl, hBL⟩))
      cases r
      · go_wp2
        exact ⟨⟨⟨lies.on_call (lies.on_drew hL) hBL, later (lies.frame_drew hB) hBL⟩, .inr (.inr ⟨rfl, rfl⟩)⟩, by simp [intOf]⟩
      · go_wp2
        exact ⟨⟨⟨lies.on_call (lies.on_drew hL) hBL, later (lies.frame_drew hB) hBL⟩, .inr (.inr ⟨rfl, rfl⟩)⟩, by simp [intOf]⟩
    · cases r
      · go_wp2
        go_ret
        exact ⟨rfl, hB⟩
      · go_wp2
        go_ret
        exact ⟨rfl, hB⟩

theorem keeps1_any (V X : Int) (w : World) :
    Calls Try.prog 50 #[.agg #[.int .i64 ((V) / 18446744073709551616), .int .u64 ((V) % 18446744073709551616)], .agg #[.int .i64 ((X) / 18446744073709551616), .int .u64 ((X) % 18446744073709551616)]] w fun e w' => e = .returned (.bool (ltB V X)) ∧ Below w.heap.size w w' := by
  generalize hL : ltB V X = r
  have cL : RowKit.Hid (law.Says 51 #[.agg #[.int .i64 ((V) / 18446744073709551616), .int .u64 ((V) % 18446744073709551616)], .agg #[.int .i64 ((X) / 18446744073709551616), .int .u64 ((X) % 18446744073709551616)]] (.bool r)) := Lib.hid (fun w => by rw [← hL]; exact less_any2 _ _ w)
  clear hL
  go_enter Try.func50, Try.ntmps50
  go_wp2_with ((with_reducible refine (said cL _).mono ?_); rintro e wL ⟨rfl, hBL⟩)
  go_ret
  exact ⟨rfl, later (up2 _ _ _) hBL⟩

theorem ltB_self (a : Int) : ltB a a = false := by unfold ltB; simp
theorem ltB_yes {a b : Int} (h : a < b) : ltB a b = true := by unfold ltB; simpa using h
theorem ltB_no {a b : Int} (h : ¬ a < b) : ltB a b = false := by unfold ltB; simpa using h
end Go.Proofs.Ytlagnbbbokgdfaa.rat
