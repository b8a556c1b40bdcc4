/-
  ZoneMakes answers true for every three spans; the listed variable reads as the program lays it.
-/
import Derived.Test.YtklejbheieceeaaDoorZoneL
import Derived.Test.YtklejbheieceeaaDoorZoneT
import Derived.Test.YtklejbheieceeaaDoorCards
import Derived.Test.YtklejbheieceeaaDoorTie
import Derived.BigQuiet
namespace Go.Proofs.YtklejbheieceeaaDoor.zoneMakes
open Go.Joins Go.ChangeShapes Go.WideShapes Go.ChangeAt Go.RowKit num rat dbm Go.Proofs.YtklejbheieceeaaDoor.tight Go.Proofs.YtklejbheieceeaaDoor.incl Go.Proofs.YtklejbheieceeaaDoor.plaw Go.Proofs.YtklejbheieceeaaDoor.zopen Go.Proofs.YtklejbheieceeaaDoor.zone Go.Proofs.YtklejbheieceeaaDoor.zlaw Go.Proofs.YtklejbheieceeaaDoor.zref
open bound hiding up
set_option linter.unusedVariables false
set_option linter.unusedSimpArgs false

/-- three spans, as they lie in the law. -/
def Lx (lo0 : Int) (ls0 : Bool) (hi0 : Int) (hs0 op0 : Bool) (lo1 : Int) (ls1 : Bool) (hi1 : Int) (hs1 op1 : Bool) (lo2 : Int) (ls2 : Bool) (hi2 : Int) (hs2 op2 : Bool) (w W : World) : Prop :=
  lies.Lies W w.heap.size 37 #[.int .i64 lo0, .bool ls0, .int .i64 hi0, .bool hs0, .bool op0] ∧ lies.Lies W (w.heap.size + 1) 37 #[.int .i64 lo1, .bool ls1, .int .i64 hi1, .bool hs1, .bool op1] ∧ lies.Lies W (w.heap.size + 1 + 1) 37 #[.int .i64 lo2, .bool ls2, .int .i64 hi2, .bool hs2, .bool op2] ∧ Below w.heap.size w W
theorem Lx.below {lo0 : Int} {ls0 : Bool} {hi0 : Int} {hs0 op0 : Bool} {lo1 : Int} {ls1 : Bool} {hi1 : Int} {hs1 op1 : Bool} {lo2 : Int} {ls2 : Bool} {hi2 : Int} {hs2 op2 : Bool} {w W X : World} (h : Lx lo0 ls0 hi0 hs0 op0 lo1 ls1 hi1 hs1 op1 lo2 ls2 hi2 hs2 op2 w W) (k : Below W.heap.size W X) : Lx lo0 ls0 hi0 hs0 op0 lo1 ls1 hi1 hs1 op1 lo2 ls2 hi2 hs2 op2 w X :=
  ⟨lies.on_call h.1 k, lies.on_call h.2.1 k, lies.on_call h.2.2.1 k, h.2.2.2.trans (k.mono h.2.2.2.size)⟩

set_option maxRecDepth 100000 in
set_option maxHeartbeats 8000000 in
theorem walk (lo0 : Int) (ls0 : Bool) (hi0 : Int) (hs0 op0 : Bool) (lo1 : Int) (ls1 : Bool) (hi1 : Int) (hs1 op1 : Bool) (lo2 : Int) (ls2 : Bool) (hi2 : Int) (hs2 op2 : Bool) (w : World) (hP : Pl w) :
    Calls Tryd.prog 4 #[.agg #[.int .i64 lo0, .bool ls0, .int .i64 hi0, .bool hs0, .bool op0], .agg #[.int .i64 lo1, .bool ls1, .int .i64 hi1, .bool hs1, .bool op1], .agg #[.int .i64 lo2, .bool ls2, .int .i64 hi2, .bool hs2, .bool op2]] w fun e w' => e = .returned (.bool true) ∧ Below w.heap.size w w' := by
  have X : ∃ w0, w0 = ((w.alloc (.cells #[.int .i64 lo0, .bool ls0, .int .i64 hi0, .bool hs0, .bool op0] 37)).alloc (.cells #[.int .i64 lo1, .bool ls1, .int .i64 hi1, .bool hs1, .bool op1] 37)).alloc (.cells #[.int .i64 lo2, .bool ls2, .int .i64 hi2, .bool hs2, .bool op2] 37) := ⟨_, rfl⟩
  obtain ⟨w0, hX⟩ := X
  have M : Lx lo0 ls0 hi0 hs0 op0 lo1 ls1 hi1 hs1 op1 lo2 ls2 hi2 hs2 op2 w w0 := by
    refine ⟨?_, ?_, ?_, ?_⟩
    · rw [hX]; exact lies.on_alloc (lies.on_alloc (lies.made _ _ _) _) _
    · rw [hX]; exact lies.on_alloc (lies.made_at _ _ _ _ (by simp)) _
    · rw [hX]; exact lies.made_at _ _ _ _ (by simp)
    · rw [hX]; exact bound.up3 _ _ _ _
  have P0 := hP.on M.2.2.2
  clear hP
  go_enter Tryd.func4, Tryd.ntmps4
  obtain ⟨s0, s1, s2, s3, s4⟩ := span_five M.1
  obtain ⟨t0, t1, t2, t3, t4⟩ := span_five M.2.1
  obtain ⟨u0, u1, u2, u3, u4⟩ := span_five M.2.2.1
  rw [hX] at s0 s1 s2 s3 s4 t0 t1 t2 t3 t4 u0 u1 u2 u3 u4
  go_wp2_with fail
  clear s0 s1 s2 s3 s4 t0 t1 t2 t3 t4 u0 u1 u2 u3 u4
  rw [← hX]
  clear hX
  refine (make_any lo0 ls0 hi0 hs0 op0 lo1 ls1 hi1 hs1 op1 lo2 ls2 hi2 hs2 op2 w0 P0).mono ?_
  rintro e w1 ⟨hB, a0, a1, a2, a3, a4, a5, f, rfl, hR⟩
  replace M := M.below hB
  have HR := Lib.hid hR
  clear hR hB P0
  obtain ⟨s0, s1, s2, s3, s4⟩ := span_five M.1
  obtain ⟨t0, t1, t2, t3, t4⟩ := span_five M.2.1
  obtain ⟨u0, u1, u2, u3, u4⟩ := span_five M.2.2.1
  have L := lies.made w1 24 #[.int .i64 a0, .int .i64 a1, .int .i64 a2, .int .i64 a3, .int .i64 a4, .int .i64 a5]
  have M1 := M.below (bound.up1 w1 (.cells #[.int .i64 a0, .int .i64 a1, .int .i64 a2, .int .i64 a3, .int .i64 a4, .int .i64 a5] 24))
  have hl0 := lies.lt M.1
  have hl1 := lies.lt M.2.1
  have hl2 := lies.lt M.2.2.1
  go_wp2_with fail
  clear s0 s1 s2 s3 s4 t0 t1 t2 t3 t4 u0 u1 u2 u3 u4 M hl0 hl1 hl2
  generalize w1.heap.size = Z at L ⊢
  generalize w1.alloc (.cells #[.int .i64 a0, .int .i64 a1, .int .i64 a2, .int .i64 a3, .int .i64 a4, .int .i64 a5] 24) = w2 at L M1 ⊢
  refine (make_is lo0 ls0 hi0 hs0 op0 lo1 ls1 hi1 hs1 op1 lo2 ls2 hi2 hs2 op2 w2).mono ?_
  rintro e w3 ⟨hB, b0, b1, b2, b3, b4, b5, g, rfl, hR⟩
  obtain ⟨e1, e2⟩ := make_one HR.out hR
  obtain ⟨rfl, rfl, rfl, rfl, rfl, rfl⟩ : b0 = a0 ∧ b1 = a1 ∧ b2 = a2 ∧ b3 = a3 ∧ b4 = a4 ∧ b5 = a5 := by simpa using e1
  subst e2
  replace M1 := M1.below hB
  replace L := lies.on_call L hB
  clear hR HR e1 hB
  have hD := M1.2.2.2
  clear M1
  obtain ⟨⟨c0, c1, c2, c3, c4, c5⟩, ⟨y0, y1, y2, y3, y4, y5⟩, xl⟩ := six_cells L
  have q1 : ∀ W, (Op.equalIn 10000 24 (.agg #[.int .i64 b0, .int .i64 b1, .int .i64 b2, .int .i64 b3, .int .i64 b4, .int .i64 b5]) (.agg #[.int .i64 b0, .int .i64 b1, .int .i64 b2, .int .i64 b3, .int .i64 b4, .int .i64 b5])).run Tryd.prog W = .ok true W := fun W => by rw [eq_zone]; exact congrArg (fun b => Result.ok b W) (decide_eq_true rfl)
  have hA := lies.frame_up hD (.cells #[.int .i64 b0, .int .i64 b1, .int .i64 b2, .int .i64 b3, .int .i64 b4, .int .i64 b5] 24)
  go_wp2_with fail
  go_ret
  exact ⟨rfl, hA⟩

set_option maxRecDepth 100000 in
theorem lifted (os : Os) (started : os.Started) (H : Type) (enc : TypeId × Value → H) :
    ReturnsInHanded {} Tryd.checked os 4 .any (fun w args => (Rows.zoneMakesSpec.pre enc Tryd.prog Tryd.f4 [] false w args ∧ laidMetH Tryd.prog zopen.places w) ∧ sizedMet enc Tryd.prog Tryd.f4 (OpenSpec.ofChange Rows.zoneMakesSpec) false w args) (Rows.zoneMakesSpec.post enc Tryd.prog Tryd.f4 false true false false) := by
  refine returnsInHanded_of_change_and (C := Tryd.checked) (X := fun w _ => laidMetH Tryd.prog zopen.places w) (fun _ _ _ hh h => h.of_heap hh) law.own started (by kernel_rfl) Tryd.func4
    (ChangeSpec.witness_shaped (enc := enc) (C := Tryd.checked) (os := os) (X := fun w _ => laidMetH Tryd.prog zopen.places w) false (World.doorLaid Tryd.prog 400 os) #[.agg #[.int .i64 0, .bool false, .int .i64 0, .bool false, .bool false], .agg #[.int .i64 0, .bool false, .int .i64 0, .bool false, .bool false], .agg #[.int .i64 0, .bool false, .int .i64 0, .bool false, .bool false]] 8 rfl (World.shaped_of_RefB (by kernel_rfl) (by kernel_rfl)) (by kernel_rfl) (by kernel_rfl) (by kernel_rfl) (zopen.door_met os _)) ?_
  intro W base args ds gs before hval0 hW _ _ hL _
  have hval : ∀ (j : Nat) t v, Tryd.f4.params[j]? = some t → args[j]? = some v → Value.okWide Tryd.prog W .any base t v := hval0
  have hW' := hW
  obtain ⟨p, q, hA0, hV, rfl, _, _⟩ := hW
  have hA : DataW.TrodAll enc Tryd.prog W 0 (fun _ => true) true Tryd.f4.params.toList args.toList ds p := hA0
  rw [Tryd.params4] at hA hval
  obtain ⟨v0, vs0, d0, ds0, p0, q0, hargs, rfl, rfl, h0, r0⟩ := trodAll_cons hA
  obtain ⟨v1, vs1, d1, ds1, p1, q1, rfl, rfl, rfl, h1, r1⟩ := trodAll_cons r0
  obtain ⟨v2, vs2, d2, ds2, p2, q2, rfl, rfl, rfl, h2, r2⟩ := trodAll_cons r1
  obtain ⟨rfl, rfl, rfl⟩ := trodAll_nil r2
  obtain rfl : args = #[v0, v1, v2] := by cases args; simp_all
  obtain ⟨lo0, ls0, hi0, hs0, op0, rfl⟩ := tlaw.open_span (hval 0 37 v0 rfl rfl) h0
  obtain ⟨lo1, ls1, hi1, hs1, op1, rfl⟩ := tlaw.open_span (hval 1 37 v1 rfl rfl) h1
  obtain ⟨lo2, ls2, hi2, hs2, op2, rfl⟩ := tlaw.open_span (hval 2 37 v2 rfl rfl) h2
  refine (walk lo0 ls0 hi0 hs0 op0 lo1 ls1 hi1 hs1 op1 lo2 ls2 hi2 hs2 op2 W  (zopen.laid_pl hL)).mono fun e W' ⟨he, hB⟩ => ?_
  subst he
  exact ⟨_, rfl, law.post_true law.laidOut (by kernel_rfl) rfl Tryd.underlying4 rfl hW' (fun h => by subst h; rfl) hB⟩

theorem proved : Rows.ZoneMakesSaid :=
  OpenClaim.holds_of_wide 4 Tryd.f4 rfl rfl rfl rfl rfl rfl rfl ⟨rfl, rfl, rfl, rfl, rfl⟩ rfl rfl rfl rfl rfl (by kernel_rfl) Tryd.func4 (by kernel_rfl)
    (of_decide_eq_true (by kernel_rfl)) (by unfold Func.isWrapper; first | (rw [if_pos (by decide +kernel)]; kernel_rfl) | (rw [if_neg (by decide +kernel)]; exact ⟨rfl, rfl⟩))
    (fun os started H enc _ => lifted os started H enc)
theorem card : Rows.ZoneMakesCardSaid :=
  Claim7.holds_tied_plain_at .later [] [.data] true (true, "4be1debb0f09659e5460b97b458758f1449b4fc9791f7bbbc4af352f36ab9380") false
    proved (fun _ h => by cases h) (by kernel_rfl) (fun _ h => by cases h) zoneMakes_row_tie rfl ⟨rfl, rfl⟩ (by kernel_rfl) rfl
    (fun f fn hf hfn => by
      obtain rfl : f = 4 := Option.some.inj ((show Tryd.prog.funcNamed "rallentando/rallentandolaw08.ZoneMakes" = some 4 by kernel_rfl).symm.trans hf) |>.symm
      obtain rfl : fn = Tryd.f4 := (Option.some.inj (Tryd.func4.symm.trans hfn)).symm
      exact ⟨by kernel_rfl, fun j t ht => by
        rw [Tryd.params4] at ht
        have hm : t ∈ [37, 37, 37] := by simpa using Array.mem_of_getElem? ht
        have hall : ([37, 37, 37].all fun u => !Tryd.prog.wantsStandIn u) = true := by kernel_rfl
        exact (show Tryd.prog.wantsStandIn t = false by simpa using List.all_eq_true.1 hall t hm)⟩)
    (by kernel_rfl)
#print axioms card
end Go.Proofs.YtklejbheieceeaaDoor.zoneMakes
