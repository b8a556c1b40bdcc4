/-
  The law RatOf answers true for every two numbers, and leaves them as they are; no conditions.
-/
import Derived.Test.YtbmadhejdnkeeaaRatRefOf
import Derived.Test.YtbmadhejdnkeeaaRatLaw
namespace Go.Proofs.Ytbmadhejdnkeeaa.ratOf
open Go.ChangeShapes Go.WideShapes Go.ChangeAt Go.RowKit rmath bound num rat ratlaw
set_option linter.unusedVariables false

set_option maxHeartbeats 2000000 in
theorem walk_k (n d P Q E : Int) (w : World)
    (c1 : RowKit.Hid (law.Says 10 #[.int .i64 n, .int .i64 d] (.tuple #[.agg #[.int .i64 (P), .int .i64 (Q)], .int .i64 E])))
    (c2 : RowKit.Hid (law.Says 25 #[.int .i64 n, .int .i64 d] (.tuple #[.agg #[.int .i64 (P), .int .i64 (Q)], .int .i64 E]))) :
    Calls Try.prog 5 #[.int .i64 n, .int .i64 d] w fun e w' => e = .returned (.bool true) ∧ Below w.heap.size w w' := by
  have hB := Below.refl w.heap.size w
  go_enter Try.func5, Try.ntmps5
  go_wp2_with (first
    | ((with_reducible refine (said c1 _).mono ?_); rintro e w1 ⟨rfl, hN⟩; (replace hB := up (ratlaw.go0 hB hN) (.cells #[.int .i64 P, .int .i64 Q] 23)); clear hN; have A := lies.made w1 23 #[.int .i64 P, .int .i64 Q])
    | ((with_reducible refine (said c2 _).mono ?_); rintro e w2 ⟨rfl, hN⟩; (replace hB := up (ratlaw.go0 hB hN) (.cells #[.int .i64 P, .int .i64 Q] 23)); (replace A := lies.on_alloc (lies.on_call A hN) (.cells #[.int .i64 P, .int .i64 Q] 23)); clear hN; obtain ⟨A0, A1, A2, A3, A4⟩ := lies.two A))
  go_ret
  exact ⟨rfl, hB⟩
theorem walk (n d : Int) (n1 : -9223372036854775808 ≤ n) (n2 : n ≤ 9223372036854775807) (d1 : -9223372036854775808 ≤ d) (d2 : d ≤ 9223372036854775807) (w : World) :
    Calls Try.prog 5 #[.int .i64 n, .int .i64 d] w fun e w' => e = .returned (.bool true) ∧ Below w.heap.size w w' :=
  walk_k n d _ _ _ w (Lib.hid (of_at n d _ _ _ n1 n2 d2 ⟨rfl, rfl, rfl⟩)) (Lib.hid (fun w => rref.of_any n d w n1 n2 d2))

set_option maxRecDepth 100000 in
theorem lifted (os : Os) (started : os.Started) (H : Type) (enc : TypeId × Value → H) :
    ReturnsInHanded {} Try.checked os 5 .any (Rows.ratOfSpec.pre6 enc Try.prog Try.f5 Rows.ratOfRow.domain false) (Rows.ratOfSpec.post enc Try.prog Try.f5 false true false false) := by
  refine returnsInHanded_of_change (C := Try.checked) law.own started (by kernel_rfl) Try.func5
    (ChangeSpec.witness6 (enc := enc) (C := Try.checked) false ⟨#[], #[.int .i64 0, .int .i64 0], []⟩ 8 (by kernel_rfl) (by kernel_rfl) (by kernel_rfl) (by kernel_rfl)) ?_
  intro W base args ds gs before hval0 hW _ _
  have hval : ∀ (j : Nat) t v, Try.f5.params[j]? = some t → args[j]? = some v → Value.okWide Try.prog W .any base t v := hval0
  have hW' := hW
  obtain ⟨p, q, hA0, hV, rfl, _, _⟩ := hW
  have hA : DataW.TrodAll enc Try.prog W 0 (fun _ => true) true Try.f5.params.toList args.toList ds p := hA0
  rw [Try.params5] at hA hval
  obtain ⟨v0, vs0, d0, ds0, p0, q0, hargs, rfl, rfl, h0, r0⟩ := trodAll_cons hA
  obtain ⟨v1, vs1, d1, ds1, p1, q1, rfl, rfl, rfl, h1, r1⟩ := trodAll_cons r0
  obtain ⟨rfl, rfl, rfl⟩ := trodAll_nil r1
  obtain rfl : args = #[v0, v1] := by cases args; simp_all
  obtain ⟨a0, rfl, rfl, rfl, x0⟩ := open_int Try.underlying3 (hval 0 3 v0 rfl rfl) h0
  obtain ⟨a1, rfl, rfl, rfl, x1⟩ := open_int Try.underlying3 (hval 1 3 v1 rfl rfl) h1
  refine (walk a0 a1 (law.wf_lo x0) (law.wf_hi x0) (law.wf_lo x1) (law.wf_hi x1) W).mono fun e W' ⟨he, hB⟩ => ?_
  subst he
  exact ⟨_, rfl, law.post_true law.laidOut (by kernel_rfl) rfl Try.underlying4 rfl hW' (fun h => by subst h; rfl) hB⟩

theorem proved : Rows.RatOfSaid :=
  OpenClaim.holds_of_wide 5 Try.f5 rfl rfl rfl rfl rfl rfl rfl ⟨rfl, rfl, rfl, rfl, rfl⟩ rfl rfl rfl rfl rfl (by kernel_rfl) Try.func5 (by kernel_rfl)
    (of_decide_eq_true (by kernel_rfl)) (by unfold Func.isWrapper; first | (rw [if_pos (by decide +kernel)]; kernel_rfl) | (rw [if_neg (by decide +kernel)]; exact ⟨rfl, rfl⟩))
    (fun os started H enc _ => lifted os started H enc)
#print axioms proved
end Go.Proofs.Ytbmadhejdnkeeaa.ratOf
