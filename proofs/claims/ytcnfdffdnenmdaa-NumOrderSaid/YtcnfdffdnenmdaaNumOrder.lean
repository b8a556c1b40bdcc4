/-
  The law NumOrder answers true for every two ints, and leaves them as they are; no conditions.
-/
import Derived.Test.YtcnfdffdnenmdaaRows
import Derived.WalkKit
import Derived.ProofKit
import Derived.OpenShut
import Derived.Test.YtcnfdffdnenmdaaNum
namespace Go.Proofs.Ytcnfdffdnenmdaa.numOrder
open Go.ChangeShapes Go.WideShapes Go.ChangeAt Go.RowKit
set_option linter.unusedVariables false

theorem own : ownKnob Try.prog.godebug = none := by kernel_rfl

theorem walk (a0 : Int) (a1 : Int) (w0 : (Lit.int .i64 a0).wf = true) (w1 : (Lit.int .i64 a1).wf = true) (w : World) :
    Calls Try.prog 6 #[.int .i64 a0, .int .i64 a1] w fun e w' => e = .returned (.bool true) ∧ Grown w w' := by
  by_cases h : num.May a0 ∧ num.May a1 ∧ num.May (a0 + a1)
  · obtain ⟨ha, hb, hs⟩ := h
    have c1 : ∀ w : World, Calls Try.prog 13 #[.int .i64 a0, .int .i64 a1] w fun e w' => e = .returned (.tuple #[.int .i64 (a0 + a1), .int .i64 0]) ∧ w = w' := fun w => num.add_ok a0 a1 w ha hb hs
    have c2 : ∀ w : World, Calls Try.prog 13 #[.int .i64 a1, .int .i64 a0] w fun e w' => e = .returned (.tuple #[.int .i64 (a0 + a1), .int .i64 0]) ∧ w = w' := fun w => by
      rw [Int.add_comm]; exact num.add_ok a1 a0 w hb ha (by rw [Int.add_comm]; exact hs)
    have c3 : ∀ w : World, Calls Try.prog 15 #[.int .i64 (a0 + a1), .int .i64 a1] w fun e w' => e = .returned (.tuple #[.int .i64 a0, .int .i64 0]) ∧ w = w' := fun w => by
      have h := num.sub_ok (a0 + a1) a1 w hs hb (by rw [Int.add_sub_cancel]; exact ha)
      rw [Int.add_sub_cancel] at h; exact h
    have c4 : ∀ w : World, Calls Try.prog 10 #[.int .i64 a1] w fun e w' => e = .returned (.tuple #[.int .i64 (-a1), .int .i64 0]) ∧ w = w' := fun w => num.neg_ok a1 w hb
    have c5 : ∀ w : World, Calls Try.prog 15 #[.int .i64 a0, .int .i64 (-a1)] w fun e w' => e = .returned (.tuple #[.int .i64 (a0 + a1), .int .i64 0]) ∧ w = w' := fun w => by
      have h := num.sub_ok a0 (-a1) w ha (by unfold num.May at hb ⊢; omega) (by rw [Int.sub_neg]; exact hs)
      rw [Int.sub_neg] at h; exact h
    have C1 := Lib.hid c1
    have C2 := Lib.hid c2
    have C3 := Lib.hid c3
    have C4 := Lib.hid c4
    have C5 := Lib.hid c5
    clear c1 c2 c3 c4 c5
    go_enter Try.func6, Try.ntmps6
    go_wp2_with (first | (go_at_call 11; refine (num.alive_yes _).mono ?_; rintro e w' ⟨rfl, rfl⟩) | ((with_reducible refine (C1.out _).mono ?_); rintro e w' ⟨rfl, rfl⟩) | ((with_reducible refine (C2.out _).mono ?_); rintro e w' ⟨rfl, rfl⟩) | ((with_reducible refine (C3.out _).mono ?_); rintro e w' ⟨rfl, rfl⟩) | ((with_reducible refine (C4.out _).mono ?_); rintro e w' ⟨rfl, rfl⟩) | ((with_reducible refine (C5.out _).mono ?_); rintro e w' ⟨rfl, rfl⟩) | (go_at_call 18; refine (num.check_ok _ _ (by assumption)).mono ?_; rintro e w' ⟨rfl, rfl⟩))
    go_ret
    exact ⟨rfl, Grown.refl _⟩
  · have h' : ¬ (num.May a1 ∧ num.May a0 ∧ num.May (a1 + a0)) := fun k => h ⟨k.2.1, k.1, by rw [Int.add_comm]; exact k.2.2⟩
    have C1 := Lib.hid h
    have C2 := Lib.hid h'
    by_cases ha : num.May a0
    · by_cases hb : num.May a1
      · have a1' := ha.1
        have a2' := ha.2
        have b1' := hb.1
        have b2' := hb.2
        by_cases t1 : 2305843009213693952 < a0 + a1
        · clear h h'
          go_enter Try.func6, Try.ntmps6
          go_wp2_with (first | (go_at_call 11; refine (num.alive_yes _).mono ?_; rintro e w' ⟨rfl, rfl⟩) | (go_at_call 13; first | ((with_reducible refine (num.add_no _ _ _ C1.out).mono ?_); rintro e w' ⟨rfl, rfl⟩) | ((with_reducible refine (num.add_no _ _ _ C2.out).mono ?_); rintro e w' ⟨rfl, rfl⟩)) | (go_at_call 18; (refine (num.check_ok _ _ (by assumption)).mono ?_; rintro e w' ⟨rfl, rfl⟩)))
          go_ret
          exact ⟨rfl, Grown.refl _⟩
        · have t2 : a0 + a1 < -2305843009213693952 := by
            refine Int.not_le.1 (fun k => h ⟨ha, hb, ?_⟩)
            unfold num.May; omega
          clear h h'
          go_enter Try.func6, Try.ntmps6
          go_wp2_with (first | (go_at_call 11; refine (num.alive_yes _).mono ?_; rintro e w' ⟨rfl, rfl⟩) | (go_at_call 13; first | ((with_reducible refine (num.add_no _ _ _ C1.out).mono ?_); rintro e w' ⟨rfl, rfl⟩) | ((with_reducible refine (num.add_no _ _ _ C2.out).mono ?_); rintro e w' ⟨rfl, rfl⟩)) | (go_at_call 18; (refine (num.check_ok _ _ (by assumption)).mono ?_; rintro e w' ⟨rfl, rfl⟩)))
          go_ret
          exact ⟨rfl, Grown.refl _⟩
      · have H := Lib.hid hb
        clear h h' hb
        go_enter Try.func6, Try.ntmps6
        go_wp2_with (first | (go_at_call 11; refine (num.alive_yes _).mono ?_; rintro e w' ⟨rfl, rfl⟩) | (go_at_call 13; first | ((with_reducible refine (num.add_no _ _ _ C1.out).mono ?_); rintro e w' ⟨rfl, rfl⟩) | ((with_reducible refine (num.add_no _ _ _ C2.out).mono ?_); rintro e w' ⟨rfl, rfl⟩)) | (go_at_call 18; first | (refine (num.check_ok _ _ (by assumption)).mono ?_; rintro e w' ⟨rfl, rfl⟩) | (refine (num.check_no _ _ H.out).mono ?_; rintro e w' ⟨rfl, rfl⟩)))
        go_ret
        exact ⟨rfl, Grown.refl _⟩
    · have H := Lib.hid ha
      clear h h' ha
      go_enter Try.func6, Try.ntmps6
      go_wp2_with (first | (go_at_call 11; refine (num.alive_yes _).mono ?_; rintro e w' ⟨rfl, rfl⟩) | (go_at_call 13; first | ((with_reducible refine (num.add_no _ _ _ C1.out).mono ?_); rintro e w' ⟨rfl, rfl⟩) | ((with_reducible refine (num.add_no _ _ _ C2.out).mono ?_); rintro e w' ⟨rfl, rfl⟩)) | (go_at_call 18; (refine (num.check_no _ _ H.out).mono ?_; rintro e w' ⟨rfl, rfl⟩)))
      go_ret
      exact ⟨rfl, Grown.refl _⟩

set_option maxRecDepth 100000 in
theorem lifted (os : Os) (started : os.Started) (H : Type) (enc : TypeId × Value → H) :
    ReturnsInHanded {} Try.checked os 6 .any (Rows.numOrderSpec.pre6 enc Try.prog Try.f6 Rows.numOrderRow.domain false) (Rows.numOrderSpec.post enc Try.prog Try.f6 false true false false) := by
  refine returnsInHanded_of_change (C := Try.checked) own started (by kernel_rfl) Try.func6
    (ChangeSpec.witness6 (enc := enc) (C := Try.checked) false ⟨#[], #[.int .i64 0, .int .i64 0], []⟩ 8 (by kernel_rfl) (by kernel_rfl) (by kernel_rfl) (by kernel_rfl)) ?_
  intro W base args ds gs before hval0 hW hcnd _
  have hval : ∀ (j : Nat) t v, Try.f6.params[j]? = some t → args[j]? = some v → Value.okWide Try.prog W .any base t v := hval0
  have hW' := hW
  obtain ⟨p, q, hA0, hV, rfl, hfz, hnd⟩ := hW
  have hA : DataW.TrodAll enc Try.prog W 0 (fun _ => true) true Try.f6.params.toList args.toList ds p := hA0
  rw [Try.params6] at hA hval
  obtain ⟨v0, vs0, d0, ds0, p0, q0, hargs, rfl, rfl, h0, r0⟩ := trodAll_cons hA
  obtain ⟨v1, vs1, d1, ds1, p1, q1, rfl, rfl, rfl, h1, r1⟩ := trodAll_cons r0
  obtain ⟨rfl, rfl, rfl⟩ := trodAll_nil r1
  obtain rfl : args = #[v0, v1] := by cases args; simp_all
  obtain ⟨rfl, rfl⟩ := trodVars_none hV
  obtain ⟨a0, rfl, rfl, rfl, w0⟩ := open_int Try.underlying3 (hval 0 3 v0 rfl rfl) h0
  obtain ⟨a1, rfl, rfl, rfl, w1⟩ := open_int Try.underlying3 (hval 1 3 v1 rfl rfl) h1
  clear hA0 hval0
  simp only [List.append_nil] at hW'
  refine (walk a0 a1 w0 w1 W).mono fun e W' ⟨he, hg⟩ => ?_
  subst he
  exact ⟨_, rfl, post_of_same (pa := []) (pv := []) hW' (fun _ _ _ => (trodAll_cons_mk (shut_bool Try.underlying4 _) trodAll_mk0)) (fun sp _ => (trodAll_cons_mk (shut_int Try.underlying3 w0) (trodAll_cons_mk (shut_int Try.underlying3 w1) trodAll_mk0))) (fun _ _ => rfl) rfl
    (hg.frame _) hg.2.1 (ok_one (by kernel_rfl) rfl (okWide_bool_mk Try.underlying4 _))⟩

theorem over : Rows.numOrderRow.holds Try.pinned (OpenSpec.ofChange Rows.numOrderSpec) :=
  OpenClaim.holds_of_wide 6 Try.f6 rfl rfl rfl rfl rfl rfl rfl ⟨rfl, rfl, rfl, rfl, rfl⟩ rfl rfl rfl rfl rfl (by kernel_rfl) Try.func6 (by kernel_rfl)
    (of_decide_eq_true (by kernel_rfl)) (by unfold Func.isWrapper; first | (rw [if_pos (by decide +kernel)]; kernel_rfl) | (rw [if_neg (by decide +kernel)]; exact ⟨rfl, rfl⟩))
    (fun os started H enc _ => lifted os started H enc)

theorem proved : Rows.NumOrderSaid :=
  over
#print axioms proved
end Go.Proofs.Ytcnfdffdnenmdaa.numOrder
