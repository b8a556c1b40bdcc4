/-
  TightNames answers true; no condition.
-/
import Derived.Test.YtallgbpijndmeaaTightLaw
import Derived.OpenShut
namespace Go.Proofs.Ytallgbpijndmeaa.tightNames
open Go.ChangeShapes Go.WideShapes Go.ChangeAt Go.RowKit num dbm Go.Proofs.Ytallgbpijndmeaa.tight tlaw
open bound hiding up
set_option linter.unusedVariables false
set_option linter.unusedSimpArgs false

/-- an answer of which the error is told. -/
def Errs (f : Int) (w : World) (e : Ending) (w' : World) : Prop := Below w.heap.size w w' ∧ ∃ na aa la ca, e = .returned (.tuple #[.agg #[.int .i64 na, .slice aa la ca], .int .i64 f])
theorem errs_no {n : Int} {ts : List Int} {err : Int} {w w' : World} {e : Ending} (h : Tells n (some ts) err w e w') (hm : MayD n ts) (hok : ¬ OkD n ts) : Errs 6 w e w' := by
  obtain ⟨hB, na, aa, la, ca, us, he, _⟩ := tells_no h hm hok
  exact ⟨hB, na, aa, la, ca, he⟩
theorem errs_err {n err : Int} {w w' : World} {e : Ending} (h : Tells n none err w e w') : Errs err w e w' := by
  obtain ⟨hB, na, aa, la, ca, us, he, _⟩ := tells_err h
  exact ⟨hB, na, aa, la, ca, he⟩
theorem no_ok {m : Nat} (h0 : 0 < m) {ts : List Int} (h : okB m h0 ts = false) : ¬ OkD m ts := fun k => by
  rw [← okB_iff h0 ts, h] at k
  cases k
theorem set_none (g : Nat) (w : World) (hg : lies.Lies w g 26 (cellsOf [1, -3, 9, 1])) :
    Calls Try.prog 9 #[.agg #[.int .i64 2, .slice (some ⟨g, 0, none⟩) 4 4], .int .i64 1, .int .i64 0, .int .i64 3] w (Errs 6 w) := by
  refine (set_any 2 1 0 3 _ [1, -3, 9, 1] w (dlaw.own_ints (cap := 4) hg) (by decide) (by unfold Tops; decide) (by decide)).mono fun e w' h => ?_
  have e1 : setQ 2 [1, -3, 9, 1] 1 0 3 = some [1, -3, 3, 1] := by decide +kernel
  rw [e1] at h
  exact errs_no h (by decide) (no_ok (m := 2) (by decide) (by decide +kernel))
theorem set_arg (g : Nat) (w : World) (hg : lies.Lies w g 26 (cellsOf [1, -3, 9, 1])) :
    Calls Try.prog 9 #[.agg #[.int .i64 2, .slice (some ⟨g, 0, none⟩) 4 4], .int .i64 2, .int .i64 0, .int .i64 3] w (Errs 2 w) := by
  refine (set_any 2 2 0 3 _ [1, -3, 9, 1] w (dlaw.own_ints (cap := 4) hg) (by decide) (by unfold Tops; decide) (by decide)).mono fun e w' h => ?_
  have e1 : setQ 2 [1, -3, 9, 1] 2 0 3 = none := by decide +kernel
  have e2 : setE 2 [1, -3, 9, 1] 2 0 = 2 := by decide +kernel
  rw [e1, e2] at h
  exact errs_err h
theorem meet_dims (g b : Nat) (w : World) (hg : lies.Lies w g 26 (cellsOf [1, -3, 9, 1])) (hb : lies.Lies w b 26 (cellsOf [1])) :
    Calls Try.prog 10 #[.agg #[.int .i64 2, .slice (some ⟨g, 0, none⟩) 4 4], .agg #[.int .i64 1, .slice (some ⟨b, 0, none⟩) 1 1]] w (Errs 40 w) := by
  refine (meet_any 2 1 _ _ [1, -3, 9, 1] [1] w (dlaw.own_ints (cap := 4) hg) (dlaw.own_ints (cap := 1) hb) (by decide) (by decide) (by unfold Tops; decide) (by unfold Tops; decide)).mono fun e w' h => ?_
  have e1 : meetQ 2 1 [1, -3, 9, 1] [1] = none := by decide +kernel
  have e2 : meetE 2 1 [1, -3, 9, 1] [1] = 40 := by decide +kernel
  rw [e1, e2] at h
  exact errs_err h
theorem btw_bads (g : Nat) (w : World) (hg : lies.Lies w g 26 (cellsOf [1, -3, 9, 1])) :
    Calls Try.prog 11 #[.agg #[.int .i64 2, .slice (some ⟨g, 0, none⟩) 4 4], .int .i64 1, .agg #[.int .i64 2, .bool false, .int .i64 1, .bool false, .bool false]] w (Errs 8 w) := by
  refine (btw_any 2 1 2 1 false false false _ [1, -3, 9, 1] w (dlaw.own_ints (cap := 4) hg) (by decide) (by unfold Tops; decide)).mono fun e w' h => ?_
  have e1 : btwQ 2 [1, -3, 9, 1] 1 2 false 1 false false = none := by decide +kernel
  have e2 : btwE 2 [1, -3, 9, 1] 1 = 8 := by decide +kernel
  rw [e1, e2] at h
  exact errs_err h
theorem btw_none (g : Nat) (w : World) (hg : lies.Lies w g 26 (cellsOf [1, -3, 9, 1])) :
    Calls Try.prog 11 #[.agg #[.int .i64 2, .slice (some ⟨g, 0, none⟩) 4 4], .int .i64 1, .agg #[.int .i64 3, .bool true, .int .i64 3, .bool false, .bool false]] w (Errs 6 w) := by
  refine (btw_any 2 1 3 3 true false false _ [1, -3, 9, 1] w (dlaw.own_ints (cap := 4) hg) (by decide) (by unfold Tops; decide)).mono fun e w' h => ?_
  have e1 : btwQ 2 [1, -3, 9, 1] 1 3 true 3 false false = some [1, -6, 7, 1] := by decide +kernel
  rw [e1] at h
  exact errs_no h (by decide) (no_ok (m := 2) (by decide) (by decide +kernel))

set_option maxRecDepth 100000 in
set_option maxHeartbeats 1000000 in
theorem walk (w : World) : Calls Try.prog 3 #[] w fun e w' => e = .returned (.bool true) ∧ Below w.heap.size w w' := by
  have S0 := St.start w
  go_enter Try.func3, Try.ntmps3
  go_wp2_with fail
  refine (two_is 1 (-3) 9 1 w).mono ?_
  rintro e w1 ⟨g1, hg1, rfl, L1, hB1⟩
  have S1 := (S0.below hB1).add 2 _ _ (dlaw.own_ints (cap := 4) L1)
  have M1 := lies.on_alloc L1 (.cells #[.int .i64 2, .slice (some ⟨g1, 0, none⟩) 4 4] 24)
  clear S0 L1 hB1 hg1
  go_wp2_with fail
  generalize w1.heap.size = x1 at S1 ⊢
  generalize w1.alloc (.cells #[.int .i64 2, .slice (some ⟨g1, 0, none⟩) 4 4] 24) = w2 at S1 M1 ⊢
  refine (set_none g1 w2 M1).mono ?_
  rintro e v3 ⟨hB, n3, a3, l3, c3, rfl⟩
  replace S1 := (S1.below hB).alloc (.cells #[.int .i64 n3, .slice a3 l3 c3] 24)
  replace M1 := lies.on_alloc (lies.on_call M1 hB) (.cells #[.int .i64 n3, .slice a3 l3 c3] 24)
  clear hB
  obtain ⟨y0, y1, y2, y3, y4⟩ := lies.two S1.head.1
  go_wp2_with fail
  clear y0 y1 y2 y3 y4
  generalize v3.alloc (.cells #[.int .i64 n3, .slice a3 l3 c3] 24) = u3 at S1 M1 ⊢
  refine (set_arg g1 u3 M1).mono ?_
  rintro e v4 ⟨hB, n4, a4, l4, c4, rfl⟩
  replace S1 := (S1.below hB).alloc (.cells #[.int .i64 n4, .slice a4 l4 c4] 24)
  replace M1 := lies.on_alloc (lies.on_call M1 hB) (.cells #[.int .i64 n4, .slice a4 l4 c4] 24)
  clear hB
  obtain ⟨y0, y1, y2, y3, y4⟩ := lies.two S1.head.1
  go_wp2_with fail
  clear y0 y1 y2 y3 y4
  have hs4 : (v4.alloc (.cells #[.int .i64 n4, .slice a4 l4 c4] 24)).heap.size = v4.heap.size + 1 := World.size_alloc _ _
  generalize v4.alloc (.cells #[.int .i64 n4, .slice a4 l4 c4] 24) = u4 at S1 M1 hs4 ⊢
  have P5 := lies.made_at u4 26 #[.int .i64 1] (v4.heap.size + 1) hs4
  replace S1 := S1.alloc (.cells #[.int .i64 1] 26)
  replace M1 := lies.on_alloc M1 (.cells #[.int .i64 1] 26)
  clear hs4
  generalize u4.alloc (.cells #[.int .i64 1] 26) = w5 at S1 M1 P5 ⊢
  refine (meet_dims g1 _ w5 M1 P5).mono ?_
  rintro e v6 ⟨hB, n6, a6, l6, c6, rfl⟩
  replace S1 := (S1.below hB).alloc (.cells #[.int .i64 n6, .slice a6 l6 c6] 24)
  replace M1 := lies.on_alloc (lies.on_call M1 hB) (.cells #[.int .i64 n6, .slice a6 l6 c6] 24)
  clear hB
  obtain ⟨y0, y1, y2, y3, y4⟩ := lies.two S1.head.1
  go_wp2_with fail
  clear y0 y1 y2 y3 y4
  generalize v6.alloc (.cells #[.int .i64 n6, .slice a6 l6 c6] 24) = u6 at S1 M1 ⊢
  refine (btw_bads g1 u6 M1).mono ?_
  rintro e v7 ⟨hB, n7, a7, l7, c7, rfl⟩
  replace S1 := (S1.below hB).alloc (.cells #[.int .i64 n7, .slice a7 l7 c7] 24)
  replace M1 := lies.on_alloc (lies.on_call M1 hB) (.cells #[.int .i64 n7, .slice a7 l7 c7] 24)
  clear hB
  obtain ⟨y0, y1, y2, y3, y4⟩ := lies.two S1.head.1
  go_wp2_with fail
  clear y0 y1 y2 y3 y4
  generalize v7.alloc (.cells #[.int .i64 n7, .slice a7 l7 c7] 24) = u7 at S1 M1 ⊢
  refine (btw_none g1 u7 M1).mono ?_
  rintro e v8 ⟨hB, n8, a8, l8, c8, rfl⟩
  replace S1 := (S1.below hB).alloc (.cells #[.int .i64 n8, .slice a8 l8 c8] 24)
  replace M1 := lies.on_alloc (lies.on_call M1 hB) (.cells #[.int .i64 n8, .slice a8 l8 c8] 24)
  clear hB
  obtain ⟨y0, y1, y2, y3, y4⟩ := lies.two S1.head.1
  go_wp2_with fail
  clear y0 y1 y2 y3 y4
  generalize v8.alloc (.cells #[.int .i64 n8, .slice a8 l8 c8] 24) = u8 at S1 M1 ⊢
  refine (alive_yes u8).mono ?_
  rintro e w9 ⟨rfl, hB⟩
  have K := (S1.below hB).1
  clear hB S1 M1 P5
  go_wp2_with fail
  go_ret
  exact ⟨rfl, K⟩

set_option maxRecDepth 100000 in
theorem lifted (os : Os) (started : os.Started) (H : Type) (enc : TypeId × Value → H) :
    ReturnsInHanded {} Try.checked os 3 .any (Rows.tightNamesSpec.pre6 enc Try.prog Try.f3 Rows.tightNamesRow.domain false) (Rows.tightNamesSpec.post enc Try.prog Try.f3 false true false false) := by
  refine returnsInHanded_of_change (C := Try.checked) law.own started (by kernel_rfl) Try.func3
    (ChangeSpec.witness6 (enc := enc) (C := Try.checked) false ⟨#[], #[], []⟩ 8 (by kernel_rfl) (by kernel_rfl) (by kernel_rfl) (by kernel_rfl)) ?_
  intro W base args ds gs before hval0 hW _ _
  have hW' := hW
  obtain ⟨p, q, hA0, hV, rfl, _, _⟩ := hW
  have hA : DataW.TrodAll enc Try.prog W 0 (fun _ => true) true Try.f3.params.toList args.toList ds p := hA0
  rw [Try.params3] at hA
  obtain ⟨rfl, rfl, rfl⟩ := trodAll_none hA
  refine (walk   W).mono fun e W' ⟨he, hB⟩ => ?_
  subst he
  exact ⟨_, rfl, law.post_true law.laidOut (by kernel_rfl) rfl Try.underlying4 rfl hW' (fun h => by subst h; rfl) hB⟩

theorem proved : Rows.TightNamesSaid :=
  OpenClaim.holds_of_wide 3 Try.f3 rfl rfl rfl rfl rfl rfl rfl ⟨rfl, rfl, rfl, rfl, rfl⟩ rfl rfl rfl rfl rfl (by kernel_rfl) Try.func3 (by kernel_rfl)
    (of_decide_eq_true (by kernel_rfl)) (by unfold Func.isWrapper; first | (rw [if_pos (by decide +kernel)]; kernel_rfl) | (rw [if_neg (by decide +kernel)]; exact ⟨rfl, rfl⟩))
    (fun os started H enc _ => lifted os started H enc)
#print axioms proved
end Go.Proofs.Ytallgbpijndmeaa.tightNames
