/-
  The law BoundNames (the chapter's examples) answers true; it takes no input, and there are no conditions.
-/
import Derived.Test.YtihblpedmfohaaaBoundAlive
namespace Go.Proofs.Ytihblpedmfohaaa.boundNames
open Go.ChangeShapes Go.WideShapes Go.ChangeAt Go.RowKit num bound
set_option linter.unusedVariables false

theorem n1 (w : World) : Calls Try.prog 8 #[.int .i64 (-5)] w fun e w' => e = .returned (.tuple #[.int .i64 (-10), .int .i64 0]) ∧ Below w.heap.size w w' :=
  less_ok (-5) w (by unfold May; omega)
theorem n2 (w : World) : Calls Try.prog 9 #[.int .i64 7, .int .i64 (-10)] w fun e w' => e = .returned (.tuple #[.int .i64 (-4), .int .i64 0]) ∧ Below w.heap.size w w' :=
  add2_ok 7 (-10) w (by unfold May; omega) (by unfold May; omega) (by unfold May; omega)
theorem n3 (w : World) : Calls Try.prog 10 #[.int .i64 7] w fun e w' => e = .returned (.tuple #[.int .i64 (-6), .int .i64 0]) ∧ Below w.heap.size w w' :=
  not_ok 7 w (by unfold May; omega)
theorem n4 (w : World) : Calls Try.prog 10 #[.int .i64 0] w fun e w' => e = .returned (.tuple #[.int .i64 1, .int .i64 0]) ∧ Below w.heap.size w w' :=
  not_ok 0 w (by unfold May; omega)
theorem n5 (w : World) : Calls Try.prog 8 #[.int .i64 4611686018427387904] w fun e w' => e = .returned (.tuple #[.int .i64 0, .int .i64 10]) ∧ Below w.heap.size w w' :=
  less_no 4611686018427387904 w (by unfold May; omega)
theorem n6 (w : World) : Calls Try.prog 11 #[.int .i64 3, .int .i64 7] w fun e w' => e = .returned (.tuple #[.bool true, .int .i64 0]) ∧ Below w.heap.size w w' :=
  keeps_ok 3 7 w (by unfold May; omega) (by unfold May; omega)
theorem n7 (w : World) : Calls Try.prog 11 #[.int .i64 3, .int .i64 6] w fun e w' => e = .returned (.tuple #[.bool false, .int .i64 0]) ∧ Below w.heap.size w w' :=
  keeps_ok 3 6 w (by unfold May; omega) (by unfold May; omega)

set_option maxRecDepth 100000 in
set_option maxHeartbeats 1000000 in
theorem walk (w : World) : Calls Try.prog 3 #[] w fun e w' => e = .returned (.bool true) ∧ Below w.heap.size w w' := by
  have hB := Below.refl w.heap.size w
  go_enter Try.func3, Try.ntmps3
  go_wp2_with (first | (go_at_call 12; refine (law.onto hB (b_alive _)).mono ?_; clear hB; rintro e w' ⟨rfl, hB⟩) | ((with_reducible refine (law.onto hB (n1 _)).mono ?_); clear hB; rintro e w' ⟨rfl, hB⟩) | ((with_reducible refine (law.onto hB (n2 _)).mono ?_); clear hB; rintro e w' ⟨rfl, hB⟩) | ((with_reducible refine (law.onto hB (n3 _)).mono ?_); clear hB; rintro e w' ⟨rfl, hB⟩) | ((with_reducible refine (law.onto hB (n4 _)).mono ?_); clear hB; rintro e w' ⟨rfl, hB⟩) | ((with_reducible refine (law.onto hB (not_none _)).mono ?_); clear hB; rintro e w' ⟨rfl, hB⟩) | ((with_reducible refine (law.onto hB (n5 _)).mono ?_); clear hB; rintro e w' ⟨rfl, hB⟩) | ((with_reducible refine (law.onto hB (n6 _)).mono ?_); clear hB; rintro e w' ⟨rfl, hB⟩) | ((with_reducible refine (law.onto hB (n7 _)).mono ?_); clear hB; rintro e w' ⟨rfl, hB⟩))
  go_ret
  exact ⟨rfl, hB⟩

set_option maxRecDepth 100000 in
theorem lifted (os : Os) (started : os.Started) (H : Type) (enc : TypeId × Value → H) :
    ReturnsInHanded {} Try.checked os 3 .any (Rows.boundNamesSpec.pre6 enc Try.prog Try.f3 Rows.boundNamesRow.domain false) (Rows.boundNamesSpec.post enc Try.prog Try.f3 false true false false) := by
  refine returnsInHanded_of_change (C := Try.checked) law.own started (by kernel_rfl) Try.func3
    (ChangeSpec.witness6 (enc := enc) (C := Try.checked) false ⟨#[], #[], []⟩ 8 (by kernel_rfl) (by kernel_rfl) (by kernel_rfl) (by kernel_rfl)) ?_
  intro W base args ds gs before hval0 hW _ _
  have hW' := hW
  obtain ⟨p, q, hA0, hV, rfl, _, _⟩ := hW
  have hA : DataW.TrodAll enc Try.prog W 0 (fun _ => true) true Try.f3.params.toList args.toList ds p := hA0
  rw [Try.params3] at hA
  obtain ⟨rfl, rfl, rfl⟩ := trodAll_none hA
  refine (walk   W).mono fun e W' ⟨he, hB⟩ => ?_
  subst he
  exact ⟨_, rfl, law.post_true law.laidOut (by kernel_rfl) rfl Try.underlying4 rfl hW' (fun h => by subst h; rfl) hB⟩

theorem proved : Rows.BoundNamesSaid :=
  OpenClaim.holds_of_wide 3 Try.f3 rfl rfl rfl rfl rfl rfl rfl ⟨rfl, rfl, rfl, rfl, rfl⟩ rfl rfl rfl rfl rfl (by kernel_rfl) Try.func3 (by kernel_rfl)
    (of_decide_eq_true (by kernel_rfl)) (by unfold Func.isWrapper; first | (rw [if_pos (by decide +kernel)]; kernel_rfl) | (rw [if_neg (by decide +kernel)]; exact ⟨rfl, rfl⟩))
    (fun os started H enc _ => lifted os started H enc)
#print axioms proved
end Go.Proofs.Ytihblpedmfohaaa.boundNames
