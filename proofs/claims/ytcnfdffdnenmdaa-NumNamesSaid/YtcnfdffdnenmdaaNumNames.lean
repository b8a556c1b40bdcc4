/-
  The law NumNames (the chapter's examples) answers true; it takes no input, and there are no conditions.
-/
import Derived.Test.YtcnfdffdnenmdaaNumSumRef
namespace Go.Proofs.Ytcnfdffdnenmdaa.numNames
open Go.ChangeShapes Go.WideShapes Go.ChangeAt Go.RowKit law
set_option linter.unusedVariables false

theorem v0 : num.sumV [] = 0 ∧ num.sumE [] = 0 := by decide
theorem v1 : num.sumV [2305843009213693952, -1, 1] = 2305843009213693952 ∧ num.sumE [2305843009213693952, -1, 1] = 0 := by decide
theorem v2 : num.sumE [2305843009213693952, 1, -1] = 10 := by decide
theorem s0 (w : World) : Calls Try.prog 9 #[.slice none 0 0] w fun e W' => e = .returned (.tuple #[.int .i64 0, .int .i64 0]) ∧ Below w.heap.size w W' := by
  have h := num.sum_any none 0 0 [] (by simp) w (.inl ⟨⟨_, _, rfl, fun _ => rfl⟩, rfl⟩)
  rw [v0.1, v0.2] at h
  exact h
theorem ints3 (w : World) (x y z : Int) (t : TypeId) : Ints (w.alloc (.cells #[.int .i64 x, .int .i64 y, .int .i64 z] t)).heap.size (w.alloc (.cells #[.int .i64 x, .int .i64 y, .int .i64 z] t)) (.slice (some ⟨w.heap.size, 0, none⟩) 3 3) [x, y, z] := by
  refine .inr ⟨_, _, 3, rfl, by simp, fun j hj => ?_⟩
  simp only [List.length_cons, List.length_nil] at hj
  match j, hj with
  | 0, _ => simp
  | 1, _ => simp
  | 2, _ => simp
theorem s1 (w : World) : Calls Try.prog 9 #[.slice (some ⟨w.heap.size, 0, none⟩) 3 3] (w.alloc (.cells #[.int .i64 2305843009213693952, .int .i64 (-1), .int .i64 1] 3)) fun e W' => e = .returned (.tuple #[.int .i64 2305843009213693952, .int .i64 0]) ∧ Below w.heap.size w W' := by
  have h := num.sum_any _ _ _ [2305843009213693952, -1, 1] (by simp) _ (ints3 w 2305843009213693952 (-1) 1 3)
  rw [v1.1, v1.2] at h
  exact h.mono fun e W' ⟨he, hB⟩ => ⟨he, ((Below.refl _ w).alloc (Nat.le_refl _) _).trans (hB.mono (by simp))⟩
theorem s2 (w : World) : ∃ n : Int, Calls Try.prog 9 #[.slice (some ⟨w.heap.size, 0, none⟩) 3 3] (w.alloc (.cells #[.int .i64 2305843009213693952, .int .i64 1, .int .i64 (-1)] 3)) fun e W' => e = .returned (.tuple #[.int .i64 n, .int .i64 10]) ∧ Below w.heap.size w W' := by
  have h := num.sum_any _ _ _ [2305843009213693952, 1, -1] (by simp) _ (ints3 w 2305843009213693952 1 (-1) 3)
  rw [v2] at h
  exact ⟨_, h.mono fun e W' ⟨he, hB⟩ => ⟨he, ((Below.refl _ w).alloc (Nat.le_refl _) _).trans (hB.mono (by simp))⟩⟩
theorem n1 (w : World) : Calls Try.prog 10 #[.int .i64 (-2305843009213693952)] w fun e w' => e = .returned (.tuple #[.int .i64 2305843009213693952, .int .i64 0]) ∧ w = w' :=
  num.neg_ok (-2305843009213693952) w (by unfold num.May; omega)
theorem c1 (w : World) : Calls Try.prog 12 #[.int .i64 (-9223372036854775808)] w fun e w' => e = .returned (.int .i64 (-2305843009213693952)) ∧ w = w' :=
  num.clamp_any (-9223372036854775808) w

set_option maxHeartbeats 1000000 in
theorem walk (w : World) : Calls Try.prog 3 #[] w fun e w' => e = .returned (.bool true) ∧ Below w.heap.size w w' := by
  go_enter Try.func3, Try.ntmps3
  go_wp2_with fail
  refine (s0 _).mono ?_
  rintro e w1 ⟨rfl, hB1⟩
  go_wp2_with fail
  refine (s1 _).mono ?_
  rintro e w2 ⟨rfl, hB2⟩
  obtain ⟨n, hn⟩ := s2 w2
  have HN := Lib.hid hn
  clear hn
  go_wp2_with fail
  refine HN.out.mono ?_
  rintro e w3 ⟨rfl, hB3⟩
  clear HN
  go_wp2_with (first | ((with_reducible refine (n1 _).mono ?_); rintro e w' ⟨rfl, rfl⟩) | (go_at_call 11; refine (num.alive_yes _).mono ?_; rintro e w' ⟨rfl, rfl⟩) | ((with_reducible refine (c1 _).mono ?_); rintro e w' ⟨rfl, rfl⟩))
  go_ret
  exact ⟨rfl, (hB1.trans (hB2.mono hB1.size)).trans (hB3.mono (Nat.le_trans hB1.size hB2.size))⟩

set_option maxRecDepth 100000 in
theorem lifted (os : Os) (started : os.Started) (H : Type) (enc : TypeId × Value → H) :
    ReturnsInHanded {} Try.checked os 3 .any (Rows.numNamesSpec.pre6 enc Try.prog Try.f3 Rows.numNamesRow.domain false) (Rows.numNamesSpec.post enc Try.prog Try.f3 false true false false) := by
  refine returnsInHanded_of_change (C := Try.checked) law.own started (by kernel_rfl) Try.func3
    (ChangeSpec.witness6 (enc := enc) (C := Try.checked) false ⟨#[], #[], []⟩ 8 (by kernel_rfl) (by kernel_rfl) (by kernel_rfl) (by kernel_rfl)) ?_
  intro W base args ds gs before hval0 hW _ _
  have hW' := hW
  obtain ⟨p, q, hA0, hV, rfl, _, _⟩ := hW
  have hA : DataW.TrodAll enc Try.prog W 0 (fun _ => true) true Try.f3.params.toList args.toList ds p := hA0
  rw [Try.params3] at hA
  obtain ⟨rfl, rfl, rfl⟩ := trodAll_none hA
  refine (walk W).mono fun e W' ⟨he, hB⟩ => ?_
  subst he
  exact ⟨_, rfl, law.post_true law.laidOut (by kernel_rfl) rfl Try.underlying4 rfl hW' (fun h => by subst h; rfl) hB⟩

theorem proved : Rows.NumNamesSaid :=
  OpenClaim.holds_of_wide 3 Try.f3 rfl rfl rfl rfl rfl rfl rfl ⟨rfl, rfl, rfl, rfl, rfl⟩ rfl rfl rfl rfl rfl (by kernel_rfl) Try.func3 (by kernel_rfl)
    (of_decide_eq_true (by kernel_rfl)) (by unfold Func.isWrapper; first | (rw [if_pos (by decide +kernel)]; kernel_rfl) | (rw [if_neg (by decide +kernel)]; exact ⟨rfl, rfl⟩))
    (fun os started H enc _ => lifted os started H enc)
#print axioms proved
end Go.Proofs.Ytcnfdffdnenmdaa.numNames
