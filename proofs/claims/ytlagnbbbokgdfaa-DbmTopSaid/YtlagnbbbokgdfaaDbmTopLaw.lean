/-
  The document's own Top (rallentandoref04.Top), and both held against each other; the condition: the number of clocks is an int.
-/
import Derived.Test.YtlagnbbbokgdfaaDbmRef3
import Derived.Test.YtlagnbbbokgdfaaDbmLaw
namespace Go.Proofs.Ytlagnbbbokgdfaa.dref
open Go.ChangeShapes Go.WideShapes Go.ChangeAt Go.RowKit num dbm
open bound hiding up
set_option linter.unusedVariables false

theorem rtop_no (n : Int) (w : World) (h : n < 1 ∨ 4 < n) : Calls Try.prog 22 #[.int .i64 n] w fun e w' => e = .returned (.tuple #[.agg #[.int .i64 0, .slice none 0 0], .int .i64 2]) ∧ Below w.heap.size w w' := by
  by_cases c : n < 1
  · clear h
    go_enter Try.func22, Try.ntmps22
    go_wp2
    exact bodyPost_ret (v := .tuple #[.agg #[.int .i64 0, .slice none 0 0], .int .i64 2]) (by simp [results, Try.results22, go_sem]) rfl ⟨rfl, (Below.refl _ _).alloc (Nat.le_refl _) _⟩
  · have c2 : 4 < n := by omega
    clear h
    go_enter Try.func22, Try.ntmps22
    go_wp2
    exact bodyPost_ret (v := .tuple #[.agg #[.int .i64 0, .slice none 0 0], .int .i64 2]) (by simp [results, Try.results22, go_sem]) rfl ⟨rfl, (Below.refl _ _).alloc (Nat.le_refl _) _⟩

theorem ints_own2 {w : World} {base n : Nat} {v : Value} (h : w.ownsRow base 29 1 v (n * n) ((allP n (n * n)).map (Value.int .i64))) : law.Ints w.heap.size w v (allP n (n * n)) := ints_own (base := base) (by rw [allP_length]; exact h)
theorem rtop_ok (n : Nat) (w : World) (h0 : 0 < n) (hn : n ≤ 4) : Calls Try.prog 22 #[.int .i64 n] w fun e w' => Below w.heap.size w w' ∧ ∃ a l c, e = .returned (.tuple #[.agg #[.int .i64 n, .slice a l c], .int .i64 0]) ∧ law.Ints w'.heap.size w' (.slice a l c) (allP n (n * n)) := by
  have t1 : ¬ (n : Int) < 1 := by omega
  have t2 : ¬ (4 : Int) < n := by omega
  have D0 := lies.made w 27 #[.int .i64 0, .slice none 0 0]
  go_enter Try.func22, Try.ntmps22
  go_wp2_with fail
  refine (all_is n _ h0 hn).mono ?_
  rintro e w1 ⟨hB, v, rfl, hO⟩
  have D1 := lies.on_call D0 hB
  have hI := ints_own2 hO
  obtain ⟨a, l, c, rfl⟩ : ∃ a l c, v = .slice a l c := by
    obtain ⟨a, c, e⟩ := ints_len hI
    exact ⟨_, _, _, e⟩
  obtain ⟨c0, c1, c2, c3, c4⟩ := lies.two D1
  have K1 : Below w.heap.size w w1 := ((Below.refl _ w).alloc (Nat.le_refl _) _).trans (hB.mono (by simp))
  have hO2 := own_other (own_other hO (p := ⟨w.heap.size, 0, none⟩) (by simp) (.int .i64 n)) (p := ⟨w.heap.size, 1, none⟩) (by simp) (.slice a l c)
  have HO := Lib.hid hO2
  clear hO hO2 hI hB D0 D1
  go_wp2_with fail
  refine bodyPost_ret (v := .tuple #[.agg #[.int .i64 n, .slice a l c], .int .i64 0]) (by simp [results, Try.results22, go_sem, c0, c1]) rfl ⟨?_, a, l, c, rfl, ints_own2 HO.out⟩
  exact (K1.setCell (p := ⟨w.heap.size, 0, none⟩) (by simp) _).setCell (p := ⟨w.heap.size, 1, none⟩) (by simp) _
/-- both make the same matrix. -/
theorem top_same (n : Nat) (h0 : 0 < n) (hn : n ≤ 4) : topT n h0 = allP n (n * n) := by
  have : n = 1 ∨ n = 2 ∨ n = 3 ∨ n = 4 := by omega
  rcases this with rfl | rfl | rfl | rfl
  · exact (by decide +kernel : topT 1 (by decide) = allP 1 (1 * 1))
  · exact (by decide +kernel : topT 2 (by decide) = allP 2 (2 * 2))
  · exact (by decide +kernel : topT 3 (by decide) = allP 3 (3 * 3))
  · exact (by decide +kernel : topT 4 (by decide) = allP 4 (4 * 4))
end Go.Proofs.Ytlagnbbbokgdfaa.dref
