/-
  The law RatNames answers true: the limit's and the error's numbers, and the chapter's examples; no conditions.
-/
import Derived.Test.YtbmadhejdnkeeaaRatLaw
namespace Go.Proofs.Ytbmadhejdnkeeaa.ratNames
open Go.ChangeShapes Go.WideShapes Go.ChangeAt Go.RowKit rmath bound num rat ratlaw
set_option linter.unusedVariables false

theorem o01 : law.Says 12 #[.int .i64 0, .int .i64 1] (.agg #[.int .i64 (0), .int .i64 (1)]) := small 0 1 0 1 (by omega) (by omega) (by omega) (by decide +kernel)
theorem o11 : law.Says 12 #[.int .i64 1, .int .i64 1] (.agg #[.int .i64 (1), .int .i64 (1)]) := small 1 1 1 1 (by omega) (by omega) (by omega) (by decide +kernel)
theorem o52 : law.Says 12 #[.int .i64 5, .int .i64 2] (.agg #[.int .i64 (5), .int .i64 (2)]) := small 5 2 5 2 (by omega) (by omega) (by omega) (by decide +kernel)
theorem om32 : law.Says 12 #[.int .i64 (-3), .int .i64 2] (.agg #[.int .i64 (-3), .int .i64 (2)]) := small (-3) 2 (-3) 2 (by omega) (by omega) (by omega) (by decide +kernel)

set_option maxRecDepth 100000 in
set_option maxHeartbeats 4000000 in
theorem walk (w : World) :
    Calls Try.prog 3 #[] w fun e w' => e = .returned (.bool true) ∧ Below w.heap.size w w' := by
  have k1 := Lib.hid (of_at 1 2097152 0 0 10 (by omega) (by omega) (by omega) (by decide +kernel))
  have k2 := Lib.hid o01
  have k3 := Lib.hid o11
  have k4 := Lib.hid (mid_at 0 1 1 1 1 2 0 (by omega) (by omega) (by omega) (by omega) (by decide +kernel))
  have k5 := Lib.hid o52
  have k6 := Lib.hid o12
  have k7 := Lib.hid (keeps_at 5 2 1 2 5 true 0 (by omega) (by omega) (by omega) (by omega) (by omega) (by decide +kernel))
  have k8 := Lib.hid (keeps_at 5 2 1 2 4 false 0 (by omega) (by omega) (by omega) (by omega) (by omega) (by decide +kernel))
  have k9 := Lib.hid om32
  have ka := Lib.hid (floor_at (-3) 2 (-2) false 0 (by omega) (by omega) (by decide +kernel))
  have kb : RowKit.Hid (law.Says 15 #[] (.bool true)) := Lib.hid alive
  have hB := Below.refl w.heap.size w
  go_enter Try.func3, Try.ntmps3
  go_wp2_with (first
    | ((with_reducible refine (said k1 _).mono ?_); rintro e w1 ⟨rfl, hN⟩; (replace hB := up (go0 hB hN) (.cells #[.int .i64 0, .int .i64 0] 23)); clear hN)
    | ((with_reducible refine (said k2 _).mono ?_); rintro e w2 ⟨rfl, hN⟩; (replace hB := go0 hB hN); clear hN)
    | ((with_reducible refine (said k3 _).mono ?_); rintro e w3 ⟨rfl, hN⟩; (replace hB := go0 hB hN); clear hN)
    | ((with_reducible refine (said k4 _).mono ?_); rintro e w4 ⟨rfl, hN⟩; (replace hB := up (go0 hB hN) (.cells #[.int .i64 1, .int .i64 2] 23)); clear hN; have L := lies.made w4 23 #[.int .i64 1, .int .i64 2])
    | ((with_reducible refine (said k5 _).mono ?_); rintro e w5 ⟨rfl, hN⟩; (replace hB := go0 hB hN); (replace L := lies.on_call L hN); clear hN)
    | ((with_reducible refine (said k6 _).mono ?_); rintro e w6 ⟨rfl, hN⟩; (replace hB := go0 hB hN); (replace L := lies.on_call L hN); clear hN)
    | ((with_reducible refine (said k7 _).mono ?_); rintro e w7 ⟨rfl, hN⟩; (replace hB := go0 hB hN); (replace L := lies.on_call L hN); clear hN)
    | ((with_reducible refine (said k8 _).mono ?_); rintro e w8 ⟨rfl, hN⟩; (replace hB := go0 hB hN); (replace L := lies.on_call L hN); clear hN)
    | ((with_reducible refine (said k9 _).mono ?_); rintro e w9 ⟨rfl, hN⟩; (replace hB := go0 hB hN); (replace L := lies.on_call L hN); clear hN)
    | ((with_reducible refine (said ka _).mono ?_); rintro e wa ⟨rfl, hN⟩; (replace hB := go0 hB hN); (replace L := lies.on_call L hN); clear hN))
  go_region_held3 (fun W => W.cell? ⟨w4.heap.size, 0, none⟩ = some (.int .i64 1) ∧ W.cell? ⟨w4.heap.size, 1, none⟩ = some (.int .i64 2)) ((refine lies.pair (t := 23) ?_ <;> repeat (first | with_reducible exact L | with_reducible refine lies.on_drew ?_ | with_reducible refine lies.on_call ?_ hN | with_reducible refine lies.on_call ?_ hM)))
    (first
      | ((with_reducible refine (said kb _).mono ?_); rintro e wb ⟨rfl, hN⟩)
      | ((with_reducible refine (said k6 _).mono ?_); rintro e wc ⟨rfl, hM⟩))
  all_goals
    go_wp2_with fail
    go_ret
    exact ⟨rfl, later (later (lies.frame_drew hB) hN) hM⟩

set_option maxRecDepth 100000 in
theorem lifted (os : Os) (started : os.Started) (H : Type) (enc : TypeId × Value → H) :
    ReturnsInHanded {} Try.checked os 3 .any (Rows.ratNamesSpec.pre6 enc Try.prog Try.f3 Rows.ratNamesRow.domain false) (Rows.ratNamesSpec.post enc Try.prog Try.f3 false true false false) := by
  refine returnsInHanded_of_change (C := Try.checked) law.own started (by kernel_rfl) Try.func3
    (ChangeSpec.witness6 (enc := enc) (C := Try.checked) false ⟨#[], #[], []⟩ 8 (by kernel_rfl) (by kernel_rfl) (by kernel_rfl) (by kernel_rfl)) ?_
  intro W base args ds gs before hval0 hW _ _
  have hW' := hW
  obtain ⟨p, q, hA0, hV, rfl, _, _⟩ := hW
  have hA : DataW.TrodAll enc Try.prog W 0 (fun _ => true) true Try.f3.params.toList args.toList ds p := hA0
  rw [Try.params3] at hA
  obtain ⟨rfl, rfl, rfl⟩ := trodAll_none hA
  refine (walk   W).mono fun e W' ⟨he, hB⟩ => ?_
  subst he
  exact ⟨_, rfl, law.post_true law.laidOut (by kernel_rfl) rfl Try.underlying4 rfl hW' (fun h => by subst h; rfl) hB⟩

theorem proved : Rows.RatNamesSaid :=
  OpenClaim.holds_of_wide 3 Try.f3 rfl rfl rfl rfl rfl rfl rfl ⟨rfl, rfl, rfl, rfl, rfl⟩ rfl rfl rfl rfl rfl (by kernel_rfl) Try.func3 (by kernel_rfl)
    (of_decide_eq_true (by kernel_rfl)) (by unfold Func.isWrapper; first | (rw [if_pos (by decide +kernel)]; kernel_rfl) | (rw [if_neg (by decide +kernel)]; exact ⟨rfl, rfl⟩))
    (fun os started H enc _ => lifted os started H enc)
#print axioms proved
end Go.Proofs.Ytbmadhejdnkeeaa.ratNames
