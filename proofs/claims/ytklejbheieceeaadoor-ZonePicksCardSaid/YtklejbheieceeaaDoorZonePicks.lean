/-
  ZonePicks answers true for every two zones; the listed variable reads as the program lays it.
-/
import Derived.Test.YtklejbheieceeaaDoorZoneL
import Derived.Test.YtklejbheieceeaaDoorCards
import Derived.Test.YtklejbheieceeaaDoorTie
import Derived.BigQuiet
namespace Go.Proofs.YtklejbheieceeaaDoor.zonePicks
open Go.Joins Go.ChangeShapes Go.WideShapes Go.ChangeAt Go.RowKit num rat dbm Go.Proofs.YtklejbheieceeaaDoor.tight Go.Proofs.YtklejbheieceeaaDoor.incl Go.Proofs.YtklejbheieceeaaDoor.plaw Go.Proofs.YtklejbheieceeaaDoor.zopen Go.Proofs.YtklejbheieceeaaDoor.zone Go.Proofs.YtklejbheieceeaaDoor.zlaw
open bound hiding up
set_option linter.unusedVariables false
set_option linter.unusedSimpArgs false

/-- what a picked point is. -/
theorem pick_good {z : List Int} {a b c d : Int} (ht : Tops z) (hz : MayZ z) (e : pks 3 (fullT z) = [(a, b), (c, d)]) : MayR a b ∧ MayR c d ∧ zone.Fit [a, b, c, d] ∧ keptAll 3 (fullT z) [(0, 1), (a, b), (c, d)] ∧ ∀ u, Tops u → MayZ u → inV 3 (fullT z) (fullT u) → keptAll 3 (fullT u) [(0, 1), (a, b), (c, d)] := by
  obtain ⟨h1, h2, _⟩ := pks_may (n := 3) (by decide) (by decide) rfl (full_tops ht) hz.1
  have h3 := pks_kept (n := 3) (by decide) (by decide) rfl (full_tops ht) hz.1
  have h4 := fun u (tu : Tops u) (hu : MayZ u) k => pks_in (n := 3) (us := fullT u) (by decide) (by decide) rfl (full_tops ht) hz.1 rfl (full_tops tu) hu.may k
  rw [e] at h1 h2 h3 h4
  refine ⟨h1 1 (show 1 < 3 by decide), h1 2 (show 2 < 3 by decide), fun x hx => ?_, h3, h4⟩
  have k1 := h2 1 (show 1 < 3 by decide)
  have k2 := h2 2 (show 2 < 3 by decide)
  simp only [List.mem_cons, List.not_mem_nil, or_false] at hx
  rcases hx with rfl | rfl | rfl | rfl
  · exact k1.1
  · exact k1.2
  · exact k2.1
  · exact k2.2

set_option maxRecDepth 100000 in
set_option maxHeartbeats 8000000 in
theorem walk (a0 a1 a2 a3 a4 a5 b0 b1 b2 b3 b4 b5 : Int) (w : World) (ha : ∀ x ∈ [a0, a1, a2, a3, a4, a5], -9223372036854775808 ≤ x ∧ x ≤ 9223372036854775807) (hb : ∀ x ∈ [b0, b1, b2, b3, b4, b5], -9223372036854775808 ≤ x ∧ x ≤ 9223372036854775807) (hP : Pl w) :
    Calls Tryd.prog 6 #[.agg #[.int .i64 a0, .int .i64 a1, .int .i64 a2, .int .i64 a3, .int .i64 a4, .int .i64 a5], .agg #[.int .i64 b0, .int .i64 b1, .int .i64 b2, .int .i64 b3, .int .i64 b4, .int .i64 b5]] w fun e w' => e = .returned (.bool true) ∧ Below w.heap.size w w' := by
  have TA := Lib.hid (show Tops [a0, a1, a2, a3, a4, a5] from fun x hx => (ha x hx).2)
  have TB := Lib.hid (show Tops [b0, b1, b2, b3, b4, b5] from fun x hx => (hb x hx).2)
  have X : ∃ w0, w0 = (w.alloc (.cells #[.int .i64 a0, .int .i64 a1, .int .i64 a2, .int .i64 a3, .int .i64 a4, .int .i64 a5] 24)).alloc (.cells #[.int .i64 b0, .int .i64 b1, .int .i64 b2, .int .i64 b3, .int .i64 b4, .int .i64 b5] 24) := ⟨_, rfl⟩
  obtain ⟨w0, hX⟩ := X
  have DB : Below w.heap.size w w0 := by rw [hX]; exact bound.up2 _ _ _
  have D0 : lies.Lies w0 w.heap.size 24 #[.int .i64 a0, .int .i64 a1, .int .i64 a2, .int .i64 a3, .int .i64 a4, .int .i64 a5] := by rw [hX]; exact lies.on_alloc (lies.made _ _ _) _
  have D1 : lies.Lies w0 (w.heap.size + 1) 24 #[.int .i64 b0, .int .i64 b1, .int .i64 b2, .int .i64 b3, .int .i64 b4, .int .i64 b5] := by rw [hX]; exact lies.made_at _ _ _ _ (by simp)
  have P0 := hP.on DB
  clear hP ha hb
  go_enter Tryd.func6, Tryd.ntmps6
  go_wp2_with fail
  rw [← hX]
  clear hX
  refine (alive_yes w0 P0).mono ?_
  rintro e w1 ⟨rfl, hB⟩
  replace D0 := lies.on_call D0 hB
  replace D1 := lies.on_call D1 hB
  replace P0 := P0.on hB
  replace DB := later DB hB
  clear hB
  obtain ⟨⟨d0_0, d0_1, d0_2, d0_3, d0_4, d0_5⟩, _⟩ := six_cells D0
  have d0_l := lies.lt D0
  go_wp2_with fail
  clear d0_0 d0_1 d0_2 d0_3 d0_4 d0_5 d0_l
  refine (zpick_any a0 a1 a2 a3 a4 a5 w1 P0 TA.out).mono ?_
  rintro e w2 ⟨hB, pa, pb, pc, pd, f, rfl, hR⟩
  replace D0 := lies.on_call D0 hB
  replace D1 := lies.on_call D1 hB
  replace P0 := P0.on hB
  replace DB := later DB hB
  clear hB
  rcases hR with ⟨hn, rfl, rfl, rfl, rfl, rfl⟩ | ⟨hm, hps, rfl⟩
  · have HN := Lib.hid hn
    clear hn
    obtain ⟨⟨d0_0, d0_1, d0_2, d0_3, d0_4, d0_5⟩, _⟩ := six_cells D0
    have d0_l := lies.lt D0
    go_wp2_with fail
    clear d0_0 d0_1 d0_2 d0_3 d0_4 d0_5 d0_l
    have hA := bound.up1 w2 (.cells #[.int .i64 0, .int .i64 0, .int .i64 0, .int .i64 0] 31)
    have D2 := lies.made w2 31 #[.int .i64 0, .int .i64 0, .int .i64 0, .int .i64 0]
    replace D0 := lies.on_call D0 hA
    replace D1 := lies.on_call D1 hA
    replace P0 := P0.on hA
    replace DB := later DB hA
    clear hA
    generalize w2.heap.size = XD2 at D2 ⊢
    generalize w2.alloc (.cells #[.int .i64 0, .int .i64 0, .int .i64 0, .int .i64 0] 31) = w3 at D0 D1 D2 P0 DB ⊢
    refine (check_any a0 a1 a2 a3 a4 a5 w3 P0 TA.out).mono ?_
    rintro e w4 ⟨hB, f, rfl, hC⟩
    have KZ := later DB hB
    rcases hC with ⟨hm, _⟩ | ⟨_, rfl⟩
    · exact (HN.out hm).elim
    · clear hB DB D0 D1 D2
      go_wp2_with fail
      go_ret
      exact ⟨rfl, KZ⟩
  · obtain ⟨r1, r2, hF, hk, hin⟩ := pick_good TA.out hm hps
    have HMH := Lib.hid hm
    have R1H := Lib.hid r1
    have R2H := Lib.hid r2
    have HFH := Lib.hid hF
    have HKH := Lib.hid hk
    have HINH := Lib.hid hin
    clear hm r1 r2 hF hk hin hps
    obtain ⟨⟨d0_0, d0_1, d0_2, d0_3, d0_4, d0_5⟩, _⟩ := six_cells D0
    have d0_l := lies.lt D0
    go_wp2_with fail
    clear d0_0 d0_1 d0_2 d0_3 d0_4 d0_5 d0_l
    have hA := bound.up1 w2 (.cells #[.int .i64 pa, .int .i64 pb, .int .i64 pc, .int .i64 pd] 31)
    have D2 := lies.made w2 31 #[.int .i64 pa, .int .i64 pb, .int .i64 pc, .int .i64 pd]
    replace D0 := lies.on_call D0 hA
    replace D1 := lies.on_call D1 hA
    replace P0 := P0.on hA
    replace DB := later DB hA
    clear hA
    generalize w2.heap.size = XD2 at D2 ⊢
    generalize w2.alloc (.cells #[.int .i64 pa, .int .i64 pb, .int .i64 pc, .int .i64 pd] 31) = w3 at D0 D1 D2 P0 DB ⊢
    obtain ⟨⟨p0, p1, p2, p3⟩, _⟩ := four_cells D2
    refine (has_any a0 a1 a2 a3 a4 a5 pa pb pc pd w3 P0 TA.out HFH.out).mono ?_
    rintro e w4 ⟨hB, r, f, rfl, hR⟩
    clear p0 p1 p2 p3
    replace D0 := lies.on_call D0 hB
    replace D1 := lies.on_call D1 hB
    replace D2 := lies.on_call D2 hB
    replace P0 := P0.on hB
    replace DB := later DB hB
    clear hB
    obtain ⟨rfl, rfl⟩ : f = 0 ∧ r = true := by
      rcases hR with ⟨n, _⟩ | ⟨_, _, _, h, hq⟩
      · exact (n ⟨HMH.out, R1H.out, R2H.out⟩).elim
      · exact ⟨h, hq.2 HKH.out⟩
    clear hR
    obtain ⟨⟨d0_0, d0_1, d0_2, d0_3, d0_4, d0_5⟩, _⟩ := six_cells D0
    have d0_l := lies.lt D0
    obtain ⟨⟨d1_0, d1_1, d1_2, d1_3, d1_4, d1_5⟩, _⟩ := six_cells D1
    have d1_l := lies.lt D1
    go_wp2_with fail
    clear d0_0 d0_1 d0_2 d0_3 d0_4 d0_5 d1_0 d1_1 d1_2 d1_3 d1_4 d1_5 d0_l d1_l
    refine (zin_any a0 a1 a2 a3 a4 a5 b0 b1 b2 b3 b4 b5 w4 P0 TA.out TB.out).mono ?_
    rintro e w5 ⟨hB, r, f, rfl, hR⟩
    replace D0 := lies.on_call D0 hB
    replace D1 := lies.on_call D1 hB
    replace D2 := lies.on_call D2 hB
    replace P0 := P0.on hB
    replace DB := later DB hB
    clear hB
    rcases hR with ⟨_, rfl, rfl⟩ | ⟨_, hmb, rfl, hq⟩
    · go_wp2_with fail
      go_ret
      exact ⟨rfl, DB⟩
    · have HMB := Lib.hid hmb
      have HQ := Lib.hid hq
      clear hmb hq
      obtain ⟨⟨d1_0, d1_1, d1_2, d1_3, d1_4, d1_5⟩, _⟩ := six_cells D1
      have d1_l := lies.lt D1
      obtain ⟨⟨d2_0, d2_1, d2_2, d2_3⟩, _⟩ := four_cells D2
      have d2_l := lies.lt D2
      go_wp2_with fail
      clear d1_0 d1_1 d1_2 d1_3 d1_4 d1_5 d2_0 d2_1 d2_2 d2_3 d1_l d2_l
      refine (has_any b0 b1 b2 b3 b4 b5 pa pb pc pd w5 P0 TB.out HFH.out).mono ?_
      rintro e w6 ⟨hB, r2, f, rfl, hR⟩
      have KZ := later DB hB
      obtain ⟨rfl, hr2⟩ : f = 0 ∧ (r2 = true ↔ keptAll 3 (fullT [b0, b1, b2, b3, b4, b5]) [(0, 1), (pa, pb), (pc, pd)]) := by
        rcases hR with ⟨n, _⟩ | ⟨_, _, _, h, hq⟩
        · exact (n ⟨HMB.out, R1H.out, R2H.out⟩).elim
        · exact ⟨h, hq⟩
      have hr : r = true → r2 = true := fun h => hr2.2 (HINH.out _ TB.out HMB.out (HQ.out.1 h))
      clear hR hB DB D0 D1 D2 hr2 HQ
      cases r with
      | false =>
        clear hr
        go_wp2_with fail
        go_ret
        exact ⟨rfl, KZ⟩
      | true =>
        obtain rfl := hr rfl
        clear hr
        go_wp2_with fail
        go_ret
        exact ⟨rfl, KZ⟩

set_option maxRecDepth 100000 in
theorem lifted (os : Os) (started : os.Started) (H : Type) (enc : TypeId × Value → H) :
    ReturnsInHanded {} Tryd.checked os 6 .any (fun w args => (Rows.zonePicksSpec.pre enc Tryd.prog Tryd.f6 [] false w args ∧ laidMetH Tryd.prog zopen.places w) ∧ sizedMet enc Tryd.prog Tryd.f6 (OpenSpec.ofChange Rows.zonePicksSpec) false w args) (Rows.zonePicksSpec.post enc Tryd.prog Tryd.f6 false true false false) := by
  refine returnsInHanded_of_change_and (C := Tryd.checked) (X := fun w _ => laidMetH Tryd.prog zopen.places w) (fun _ _ _ hh h => h.of_heap hh) law.own started (by kernel_rfl) Tryd.func6
    (ChangeSpec.witness_shaped (enc := enc) (C := Tryd.checked) (os := os) (X := fun w _ => laidMetH Tryd.prog zopen.places w) false (World.doorLaid Tryd.prog 400 os) #[.agg #[.int .i64 0, .int .i64 0, .int .i64 0, .int .i64 0, .int .i64 0, .int .i64 0], .agg #[.int .i64 0, .int .i64 0, .int .i64 0, .int .i64 0, .int .i64 0, .int .i64 0]] 8 rfl (World.shaped_of_RefB (by kernel_rfl) (by kernel_rfl)) (by kernel_rfl) (by kernel_rfl) (by kernel_rfl) (zopen.door_met os _)) ?_
  intro W base args ds gs before hval0 hW _ _ hL _
  have hval : ∀ (j : Nat) t v, Tryd.f6.params[j]? = some t → args[j]? = some v → Value.okWide Tryd.prog W .any base t v := hval0
  have hW' := hW
  obtain ⟨p, q, hA0, hV, rfl, _, _⟩ := hW
  have hA : DataW.TrodAll enc Tryd.prog W 0 (fun _ => true) true Tryd.f6.params.toList args.toList ds p := hA0
  rw [Tryd.params6] at hA hval
  obtain ⟨v0, vs0, d0, ds0, p0, q0, hargs, rfl, rfl, h0, r0⟩ := trodAll_cons hA
  obtain ⟨v1, vs1, d1, ds1, p1, q1, rfl, rfl, rfl, h1, r1⟩ := trodAll_cons r0
  obtain ⟨rfl, rfl, rfl⟩ := trodAll_nil r1
  obtain rfl : args = #[v0, v1] := by cases args; simp_all
  obtain ⟨z00, z01, z02, z03, z04, z05, rfl, w0⟩ := zopen.open_zone (hval 0 24 v0 rfl rfl) h0
  obtain ⟨z10, z11, z12, z13, z14, z15, rfl, w1⟩ := zopen.open_zone (hval 1 24 v1 rfl rfl) h1
  refine (walk z00 z01 z02 z03 z04 z05 z10 z11 z12 z13 z14 z15 W (fun x hx => ⟨law.wf_lo (w0 x hx), law.wf_hi (w0 x hx)⟩) (fun x hx => ⟨law.wf_lo (w1 x hx), law.wf_hi (w1 x hx)⟩) (zopen.laid_pl hL)).mono fun e W' ⟨he, hB⟩ => ?_
  subst he
  exact ⟨_, rfl, law.post_true law.laidOut (by kernel_rfl) rfl Tryd.underlying4 rfl hW' (fun h => by subst h; rfl) hB⟩

theorem proved : Rows.ZonePicksSaid :=
  OpenClaim.holds_of_wide 6 Tryd.f6 rfl rfl rfl rfl rfl rfl rfl ⟨rfl, rfl, rfl, rfl, rfl⟩ rfl rfl rfl rfl rfl (by kernel_rfl) Tryd.func6 (by kernel_rfl)
    (of_decide_eq_true (by kernel_rfl)) (by unfold Func.isWrapper; first | (rw [if_pos (by decide +kernel)]; kernel_rfl) | (rw [if_neg (by decide +kernel)]; exact ⟨rfl, rfl⟩))
    (fun os started H enc _ => lifted os started H enc)
theorem card : Rows.ZonePicksCardSaid :=
  Claim7.holds_tied_plain_at .later [] [.data] true (true, "4be1debb0f09659e5460b97b458758f1449b4fc9791f7bbbc4af352f36ab9380") false
    proved (fun _ h => by cases h) (by kernel_rfl) (fun _ h => by cases h) zonePicks_row_tie rfl ⟨rfl, rfl⟩ (by kernel_rfl) rfl
    (fun f fn hf hfn => by
      obtain rfl : f = 6 := Option.some.inj ((show Tryd.prog.funcNamed "rallentando/rallentandolaw08.ZonePicks" = some 6 by kernel_rfl).symm.trans hf) |>.symm
      obtain rfl : fn = Tryd.f6 := (Option.some.inj (Tryd.func6.symm.trans hfn)).symm
      exact ⟨by kernel_rfl, fun j t ht => by
        rw [Tryd.params6] at ht
        have hm : t ∈ [24] := by have := Array.mem_of_getElem? ht; simp at this ⊢; omega
        have hall : ([24].all fun u => !Tryd.prog.wantsStandIn u) = true := by kernel_rfl
        exact (show Tryd.prog.wantsStandIn t = false by simpa using List.all_eq_true.1 hall t hm)⟩)
    (by kernel_rfl)
#print axioms card
end Go.Proofs.YtklejbheieceeaaDoor.zonePicks
