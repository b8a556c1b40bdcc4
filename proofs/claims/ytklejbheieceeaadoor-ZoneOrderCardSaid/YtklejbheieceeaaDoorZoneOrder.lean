/-
  ZoneOrder answers true for every three zones; the listed variable reads as the program lays it.
-/
import Derived.Test.YtklejbheieceeaaDoorZoneL
import Derived.Test.YtklejbheieceeaaDoorCards
import Derived.Test.YtklejbheieceeaaDoorTie
import Derived.BigQuiet
namespace Go.Proofs.YtklejbheieceeaaDoor.zoneOrder
open Go.Joins Go.ChangeShapes Go.WideShapes Go.ChangeAt Go.RowKit num dbm Go.Proofs.YtklejbheieceeaaDoor.plaw Go.Proofs.YtklejbheieceeaaDoor.zopen Go.Proofs.YtklejbheieceeaaDoor.zone Go.Proofs.YtklejbheieceeaaDoor.zlaw
open bound hiding up
set_option linter.unusedVariables false
set_option linter.unusedSimpArgs false

set_option maxRecDepth 100000 in
set_option maxHeartbeats 8000000 in
theorem walk_told (a0 a1 a2 a3 a4 a5 b0 b1 b2 b3 b4 b5 c0 c1 c2 c3 c4 c5 n m k p : Int) (q : Bool) (w : World) (hP : Pl w)
    (h1 : ∀ W, Calls Tryd.prog 25 #[.agg #[.int .i64 a0, .int .i64 a1, .int .i64 a2, .int .i64 a3, .int .i64 a4, .int .i64 a5], .agg #[.int .i64 b0, .int .i64 b1, .int .i64 b2, .int .i64 b3, .int .i64 b4, .int .i64 b5]] W fun e w' => e = .returned (.int .i64 n) ∧ Below W.heap.size W w')
    (h2 : ∀ W, Calls Tryd.prog 25 #[.agg #[.int .i64 b0, .int .i64 b1, .int .i64 b2, .int .i64 b3, .int .i64 b4, .int .i64 b5], .agg #[.int .i64 c0, .int .i64 c1, .int .i64 c2, .int .i64 c3, .int .i64 c4, .int .i64 c5]] W fun e w' => e = .returned (.int .i64 m) ∧ Below W.heap.size W w')
    (h3 : ∀ W, Calls Tryd.prog 25 #[.agg #[.int .i64 b0, .int .i64 b1, .int .i64 b2, .int .i64 b3, .int .i64 b4, .int .i64 b5], .agg #[.int .i64 a0, .int .i64 a1, .int .i64 a2, .int .i64 a3, .int .i64 a4, .int .i64 a5]] W fun e w' => e = .returned (.int .i64 k) ∧ Below W.heap.size W w')
    (h4 : ∀ W, Calls Tryd.prog 25 #[.agg #[.int .i64 a0, .int .i64 a1, .int .i64 a2, .int .i64 a3, .int .i64 a4, .int .i64 a5], .agg #[.int .i64 c0, .int .i64 c1, .int .i64 c2, .int .i64 c3, .int .i64 c4, .int .i64 c5]] W fun e w' => e = .returned (.int .i64 p) ∧ Below W.heap.size W w')
    (hq : ∀ W, (Op.equalIn 10000 24 (.agg #[.int .i64 a0, .int .i64 a1, .int .i64 a2, .int .i64 a3, .int .i64 a4, .int .i64 a5]) (.agg #[.int .i64 b0, .int .i64 b1, .int .i64 b2, .int .i64 b3, .int .i64 b4, .int .i64 b5])).run Tryd.prog W = .ok q W)
    (hn : (n = -1 ∧ k = 1 ∧ q = false) ∨ (n = 0 ∧ k = 0 ∧ q = true) ∨ (n = 1 ∧ k = -1 ∧ q = false)) (hm : m = -1 ∨ m = 0 ∨ m = 1) (hp : n ≤ 0 → m ≤ 0 → p ≤ 0) :
    Calls Tryd.prog 8 #[.agg #[.int .i64 a0, .int .i64 a1, .int .i64 a2, .int .i64 a3, .int .i64 a4, .int .i64 a5], .agg #[.int .i64 b0, .int .i64 b1, .int .i64 b2, .int .i64 b3, .int .i64 b4, .int .i64 b5], .agg #[.int .i64 c0, .int .i64 c1, .int .i64 c2, .int .i64 c3, .int .i64 c4, .int .i64 c5]] w fun e w' => e = .returned (.bool true) ∧ Below w.heap.size w w' := by
  have X : ∃ w0, w0 = ((w.alloc (.cells #[.int .i64 a0, .int .i64 a1, .int .i64 a2, .int .i64 a3, .int .i64 a4, .int .i64 a5] 24)).alloc (.cells #[.int .i64 b0, .int .i64 b1, .int .i64 b2, .int .i64 b3, .int .i64 b4, .int .i64 b5] 24)).alloc (.cells #[.int .i64 c0, .int .i64 c1, .int .i64 c2, .int .i64 c3, .int .i64 c4, .int .i64 c5] 24) := ⟨_, rfl⟩
  obtain ⟨w0, hX⟩ := X
  have DB : Below w.heap.size w w0 := by rw [hX]; exact bound.up3 _ _ _ _
  have D0 : lies.Lies w0 w.heap.size 24 #[.int .i64 a0, .int .i64 a1, .int .i64 a2, .int .i64 a3, .int .i64 a4, .int .i64 a5] := by rw [hX]; exact lies.on_alloc (lies.on_alloc (lies.made _ _ _) _) _
  have D1 : lies.Lies w0 (w.heap.size + 1) 24 #[.int .i64 b0, .int .i64 b1, .int .i64 b2, .int .i64 b3, .int .i64 b4, .int .i64 b5] := by rw [hX]; exact lies.on_alloc (lies.made_at _ _ _ _ (by simp)) _
  have D2 : lies.Lies w0 (w.heap.size + 1 + 1) 24 #[.int .i64 c0, .int .i64 c1, .int .i64 c2, .int .i64 c3, .int .i64 c4, .int .i64 c5] := by rw [hX]; exact lies.made_at _ _ _ _ (by simp)
  have P0 := hP.on DB
  have H1 := Lib.hid h1
  have H2 := Lib.hid h2
  have H3 := Lib.hid h3
  have H4 := Lib.hid h4
  clear hP h1 h2 h3 h4
  go_enter Tryd.func8, Tryd.ntmps8
  go_wp2_with fail
  rw [← hX]
  clear hX
  refine (alive_yes w0 P0).mono ?_
  rintro e w1 ⟨rfl, hB⟩
  replace D0 := lies.on_call D0 hB
  replace D1 := lies.on_call D1 hB
  replace D2 := lies.on_call D2 hB
  replace DB := later DB hB
  clear hB P0
  obtain ⟨⟨x0, x1, x2, x3, x4, x5⟩, _⟩ := six_cells D0
  obtain ⟨⟨y0, y1, y2, y3, y4, y5⟩, _⟩ := six_cells D1
  go_wp2_with fail
  clear x0 x1 x2 x3 x4 x5 y0 y1 y2 y3 y4 y5
  refine (H1.out _).mono ?_
  rintro e w2 ⟨rfl, hB⟩
  replace D0 := lies.on_call D0 hB
  replace D1 := lies.on_call D1 hB
  replace D2 := lies.on_call D2 hB
  replace DB := later DB hB
  clear hB
  obtain ⟨⟨x0, x1, x2, x3, x4, x5⟩, _⟩ := six_cells D1
  obtain ⟨⟨y0, y1, y2, y3, y4, y5⟩, _⟩ := six_cells D2
  go_wp2_with fail
  clear x0 x1 x2 x3 x4 x5 y0 y1 y2 y3 y4 y5
  refine (H2.out _).mono ?_
  rintro e w3 ⟨rfl, hB⟩
  replace D0 := lies.on_call D0 hB
  replace D1 := lies.on_call D1 hB
  replace D2 := lies.on_call D2 hB
  replace DB := later DB hB
  clear hB
  obtain ⟨⟨x0, x1, x2, x3, x4, x5⟩, _⟩ := six_cells D0
  obtain ⟨⟨y0, y1, y2, y3, y4, y5⟩, _⟩ := six_cells D1
  go_wp2_with fail
  clear x0 x1 x2 x3 x4 x5 y0 y1 y2 y3 y4 y5
  refine (H3.out _).mono ?_
  rintro e w4 ⟨rfl, hB⟩
  replace D0 := lies.on_call D0 hB
  replace D1 := lies.on_call D1 hB
  replace D2 := lies.on_call D2 hB
  replace DB := later DB hB
  clear hB
  obtain ⟨⟨x0, x1, x2, x3, x4, x5⟩, _⟩ := six_cells D0
  obtain ⟨⟨y0, y1, y2, y3, y4, y5⟩, _⟩ := six_cells D1
  obtain ⟨⟨z0, z1, z2, z3, z4, z5⟩, _⟩ := six_cells D2
  clear D0 D1 D2 H1 H2 H3
  by_cases hpp : n ≤ 0 ∧ m ≤ 0
  · have hp0 := hp hpp.1 hpp.2
    clear hp
    have HP0 := Lib.hid hp0
    clear hp0
    rcases hn with ⟨rfl, rfl, rfl⟩ | ⟨rfl, rfl, rfl⟩ | ⟨rfl, rfl, rfl⟩ <;> rcases hm with rfl | rfl | rfl
    all_goals first
      | (exfalso; omega)
      | (clear hpp
         go_wp2_with fail
         clear x0 x1 x2 x3 x4 x5 y0 y1 y2 y3 y4 y5 z0 z1 z2 z3 z4 z5
         refine (H4.out _).mono ?_
         rintro e w5 ⟨rfl, hB⟩
         have KZ := later DB hB
         have hp0 := HP0.out
         clear hB DB
         go_wp2_with fail
         go_ret
         exact ⟨rfl, KZ⟩)
  · clear hp H4
    rcases hn with ⟨rfl, rfl, rfl⟩ | ⟨rfl, rfl, rfl⟩ | ⟨rfl, rfl, rfl⟩ <;> rcases hm with rfl | rfl | rfl
    all_goals first
      | (exfalso; omega)
      | (clear hpp
         go_wp2_with fail
         go_ret
         exact ⟨rfl, DB⟩)

theorem walk (a0 a1 a2 a3 a4 a5 b0 b1 b2 b3 b4 b5 c0 c1 c2 c3 c4 c5 : Int) (w : World) (ha : ∀ x ∈ [a0, a1, a2, a3, a4, a5], -9223372036854775808 ≤ x ∧ x ≤ 9223372036854775807) (hb : ∀ x ∈ [b0, b1, b2, b3, b4, b5], -9223372036854775808 ≤ x ∧ x ≤ 9223372036854775807) (hc : ∀ x ∈ [c0, c1, c2, c3, c4, c5], -9223372036854775808 ≤ x ∧ x ≤ 9223372036854775807) (hP : Pl w) :
    Calls Tryd.prog 8 #[.agg #[.int .i64 a0, .int .i64 a1, .int .i64 a2, .int .i64 a3, .int .i64 a4, .int .i64 a5], .agg #[.int .i64 b0, .int .i64 b1, .int .i64 b2, .int .i64 b3, .int .i64 b4, .int .i64 b5], .agg #[.int .i64 c0, .int .i64 c1, .int .i64 c2, .int .i64 c3, .int .i64 c4, .int .i64 c5]] w fun e w' => e = .returned (.bool true) ∧ Below w.heap.size w w' := by
  have k := cmp_back [a0, a1, a2, a3, a4, a5] [b0, b1, b2, b3, b4, b5]
  have z := cmp_zero [a0, a1, a2, a3, a4, a5] [b0, b1, b2, b3, b4, b5]
  refine walk_told a0 a1 a2 a3 a4 a5 b0 b1 b2 b3 b4 b5 c0 c1 c2 c3 c4 c5 _ _ _ _ _ w hP (cmp_is _ _ _ _ _ _ _ _ _ _ _ _) (cmp_is _ _ _ _ _ _ _ _ _ _ _ _) (cmp_is _ _ _ _ _ _ _ _ _ _ _ _) (cmp_is _ _ _ _ _ _ _ _ _ _ _ _) (eq_zone _ _ _ _ _ _ _ _ _ _ _ _) ?_ (cmp_in _ _) (cmp_trans _ _ _)
  rcases cmp_in [a0, a1, a2, a3, a4, a5] [b0, b1, b2, b3, b4, b5] with e | e | e
  · exact .inl ⟨e, by rw [k, e]; rfl, decide_eq_false (fun h => by rw [z.2 h] at e; exact absurd e (by decide))⟩
  · exact .inr (.inl ⟨e, by rw [k, e]; rfl, decide_eq_true (z.1 e)⟩)
  · exact .inr (.inr ⟨e, by rw [k, e], decide_eq_false (fun h => by rw [z.2 h] at e; exact absurd e (by decide))⟩)

set_option maxRecDepth 100000 in
theorem lifted (os : Os) (started : os.Started) (H : Type) (enc : TypeId × Value → H) :
    ReturnsInHanded {} Tryd.checked os 8 .any (fun w args => (Rows.zoneOrderSpec.pre enc Tryd.prog Tryd.f8 [] false w args ∧ laidMetH Tryd.prog zopen.places w) ∧ sizedMet enc Tryd.prog Tryd.f8 (OpenSpec.ofChange Rows.zoneOrderSpec) false w args) (Rows.zoneOrderSpec.post enc Tryd.prog Tryd.f8 false true false false) := by
  refine returnsInHanded_of_change_and (C := Tryd.checked) (X := fun w _ => laidMetH Tryd.prog zopen.places w) (fun _ _ _ hh h => h.of_heap hh) law.own started (by kernel_rfl) Tryd.func8
    (ChangeSpec.witness_shaped (enc := enc) (C := Tryd.checked) (os := os) (X := fun w _ => laidMetH Tryd.prog zopen.places w) false (World.doorLaid Tryd.prog 400 os) #[.agg #[.int .i64 0, .int .i64 0, .int .i64 0, .int .i64 0, .int .i64 0, .int .i64 0], .agg #[.int .i64 0, .int .i64 0, .int .i64 0, .int .i64 0, .int .i64 0, .int .i64 0], .agg #[.int .i64 0, .int .i64 0, .int .i64 0, .int .i64 0, .int .i64 0, .int .i64 0]] 8 rfl (World.shaped_of_RefB (by kernel_rfl) (by kernel_rfl)) (by kernel_rfl) (by kernel_rfl) (by kernel_rfl) (zopen.door_met os _)) ?_
  intro W base args ds gs before hval0 hW _ _ hL _
  have hval : ∀ (j : Nat) t v, Tryd.f8.params[j]? = some t → args[j]? = some v → Value.okWide Tryd.prog W .any base t v := hval0
  have hW' := hW
  obtain ⟨p, q, hA0, hV, rfl, _, _⟩ := hW
  have hA : DataW.TrodAll enc Tryd.prog W 0 (fun _ => true) true Tryd.f8.params.toList args.toList ds p := hA0
  rw [Tryd.params8] at hA hval
  obtain ⟨v0, vs0, d0, ds0, p0, q0, hargs, rfl, rfl, h0, r0⟩ := trodAll_cons hA
  obtain ⟨v1, vs1, d1, ds1, p1, q1, rfl, rfl, rfl, h1, r1⟩ := trodAll_cons r0
  obtain ⟨v2, vs2, d2, ds2, p2, q2, rfl, rfl, rfl, h2, r2⟩ := trodAll_cons r1
  obtain ⟨rfl, rfl, rfl⟩ := trodAll_nil r2
  obtain rfl : args = #[v0, v1, v2] := by cases args; simp_all
  obtain ⟨z00, z01, z02, z03, z04, z05, rfl, w0⟩ := zopen.open_zone (hval 0 24 v0 rfl rfl) h0
  obtain ⟨z10, z11, z12, z13, z14, z15, rfl, w1⟩ := zopen.open_zone (hval 1 24 v1 rfl rfl) h1
  obtain ⟨z20, z21, z22, z23, z24, z25, rfl, w2⟩ := zopen.open_zone (hval 2 24 v2 rfl rfl) h2
  refine (walk z00 z01 z02 z03 z04 z05 z10 z11 z12 z13 z14 z15 z20 z21 z22 z23 z24 z25 W (fun x hx => ⟨law.wf_lo (w0 x hx), law.wf_hi (w0 x hx)⟩) (fun x hx => ⟨law.wf_lo (w1 x hx), law.wf_hi (w1 x hx)⟩) (fun x hx => ⟨law.wf_lo (w2 x hx), law.wf_hi (w2 x hx)⟩) (zopen.laid_pl hL)).mono fun e W' ⟨he, hB⟩ => ?_
  subst he
  exact ⟨_, rfl, law.post_true law.laidOut (by kernel_rfl) rfl Tryd.underlying4 rfl hW' (fun h => by subst h; rfl) hB⟩

theorem proved : Rows.ZoneOrderSaid :=
  OpenClaim.holds_of_wide 8 Tryd.f8 rfl rfl rfl rfl rfl rfl rfl ⟨rfl, rfl, rfl, rfl, rfl⟩ rfl rfl rfl rfl rfl (by kernel_rfl) Tryd.func8 (by kernel_rfl)
    (of_decide_eq_true (by kernel_rfl)) (by unfold Func.isWrapper; first | (rw [if_pos (by decide +kernel)]; kernel_rfl) | (rw [if_neg (by decide +kernel)]; exact ⟨rfl, rfl⟩))
    (fun os started H enc _ => lifted os started H enc)
theorem card : Rows.ZoneOrderCardSaid :=
  Claim7.holds_tied_plain_at .later [] [.data] true (true, "4be1debb0f09659e5460b97b458758f1449b4fc9791f7bbbc4af352f36ab9380") false
    proved (fun _ h => by cases h) (by kernel_rfl) (fun _ h => by cases h) zoneOrder_row_tie rfl ⟨rfl, rfl⟩ (by kernel_rfl) rfl
    (fun f fn hf hfn => by
      obtain rfl : f = 8 := Option.some.inj ((show Tryd.prog.funcNamed "rallentando/rallentandolaw08.ZoneOrder" = some 8 by kernel_rfl).symm.trans hf) |>.symm
      obtain rfl : fn = Tryd.f8 := (Option.some.inj (Tryd.func8.symm.trans hfn)).symm
      exact ⟨by kernel_rfl, fun j t ht => by
        rw [Tryd.params8] at ht
        have hm : t ∈ [24] := by have := Array.mem_of_getElem? ht; simp at this ⊢; omega
        have hall : ([24].all fun u => !Tryd.prog.wantsStandIn u) = true := by kernel_rfl
        exact (show Tryd.prog.wantsStandIn t = false by simpa using List.all_eq_true.1 hall t hm)⟩)
    (by kernel_rfl)
#print axioms card
end Go.Proofs.YtklejbheieceeaaDoor.zoneOrder
